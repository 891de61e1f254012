/- Package proof: whole, compare, total, haveCommon. -/
import Derived.Test.YtogmfebphiglaaaGreatHp
import Derived.Test.YtogmfebphiglaaaGreatM24
set_option linter.unusedSimpArgs false
set_option maxHeartbeats 8000000
set_option maxRecDepth 100000
namespace Go.Proofs.YtogmfebphiglaaaGreat
open Go.RowKit
namespace Pf
theorem ck_at {D : List CkD} (hc : Ak.chkS D 0 = 0) {j : Nat} (h : j < D.length) : Ak.ckD (Ak.dAt D j) = 0∧(Ak.dAt D j).1 = (Ak.dAt D 0).1:=by
 have g:=Ak.chkS_good hc
 have hm : Ak.dAt D j ∈ D:=by
  unfold Ak.dAt
  simp [h]
 exact ⟨g.all _ hm,g.same _ hm⟩
section
variable (D : List CkD) (ps : List (List (Rat × Rat))) (W : List (List (Int × Int))) (R : List (Int × Int))
def wat (i j : Nat) : Int × Int:=iat (W.getD i []) j
/-- The counterexamples to a claim, by its number. -/
def cx (c : Nat) (a b : Nat) : Bool :=
 if c = 1 then decide (a < b) && comB (ps.getD a []) (ps.getD b [])
 else if c = 2 then decide (a = b) && decide (Rp.q (wat W a a).1 (wat W a a).2 < Ch.shq (D.length : Nat) (Ak.dAt D a))
 else if c = 4 then decide (Rp.q (wat W a a).1 (wat W a a).2 < Rp.q (wat W a b).1 (wat W a b).2)
 else if c = 8 then decide (b = 0) && decide (iat R a ≠ iat R 0)
 else decide (a = b) && decide ((ps.getD a []).length ≠ 1)
end
end Pf
theorem pfwhole_any (n : Int) (w : World) : Calls Tryz.prog 113 #[.int .i64 n] w fun e w' => e = .returned (.agg #[.int .i64 n,.int .i64 1])∧Below w.heap.size w w':=by
 go_enter Tryz.func113,Tryz.ntmps113
 go_wp2
 exact bodyPost_ret (v:=.agg #[.int .i64 n,.int .i64 1]) (by simp [results,Tryz.results113,go_sem]) rfl ⟨rfl,(Below.refl _ _).alloc (Nat.le_refl _) _⟩
theorem pfcompare_any (n d m c : Int) (h : Rp.Ok n d) (k : Rp.Ok m c) (w : World) :
 Calls Tryz.prog 192 #[.agg #[.int .i64 n,.int .i64 d],.agg #[.int .i64 m,.int .i64 c]] w fun e w' => e = .returned (.int .i64 (Rp.cmpQ (Rp.q n d) (Rp.q m c)))∧Below w.heap.size w w':=by
 have h':=h;have k':=k;obtain ⟨h1,h2,h3,h4,_⟩:=h';obtain ⟨k1,k2,k3,k4,_⟩:=k'
 have cc:=fun w => Cmp_any n d m c w (by omega) (by omega) (by omega) (by omega) (by omega) (by omega) (by omega) (by omega)
 rw [Rp.cmpS_ok h k] at cc
 generalize Rp.cmpQ (Rp.q n d) (Rp.q m c) = R at *
 have CC:=Lib.hid cc;clear cc h k
 go_enter Tryz.func192,Tryz.ntmps192
 (go_wp2_with fail);refine (CC.out _).mono ?_;rintro e w1 ⟨rfl,hb1⟩;have hbb : Below w.heap.size w w1:=keepB (((Below.refl _ _).alloc (Nat.le_refl _) _).alloc (by simp) _) hb1;clear hb1 CC
 go_wp2
 go_ret
 exact ⟨rfl,hbb⟩
theorem pftotal_any (A : Option Addr) (ca : Nat) (cs : List CkR) (Pp Ww Rr : Option Addr) (nP cp nW cw nR cr k : Nat) (w : World) (h : IsCs w A cs) (hc : Ak.chkS (cs.map Ak.dat) 0 = 0) (hk : k < cs.length) :
 Calls Tryz.prog 114 #[.agg #[.slice A cs.length ca,.slice Pp nP cp,.slice Ww nW cw,.slice Rr nR cr],.int .i64 (k : Nat)] w fun e w' => e = .returned (.int .i64 (Ch.tt (Ak.dAt (cs.map Ak.dat) k)))∧Below w.heap.size w w':=by
 have hgd:=Ak.chkS_good hc;have hck:=hgd.all (Ak.dat (Ak.cat cs k)) (List.mem_map_of_mem (Ak.cat_mem hk))
 have tt:=fun v (hv : Below w.heap.size w v) => ckTotal_any (Ak.cat cs k).len (Ak.cat cs k).K (Ak.cat cs k).cuts (Ak.cat cs k).ck (Ak.cat cs k).Z (Ak.cat cs k).dens (Ak.cat cs k).cz v ((h.all _ (Ak.cat_mem hk)).keep hv)
 have ht : Ck.totS (Ak.cat cs k).len (Ak.cat cs k).cuts (Ak.cat cs k).dens = (Ch.tt (Ak.dAt (cs.map Ak.dat) k),0):=by
  rw [Ak.dAt_map cs hk]
  unfold Ck.totS
  rw [if_pos (show Ck.chk (Ak.cat cs k).len (Ak.cat cs k).cuts (Ak.cat cs k).dens = 0 from hck)]
  rfl
 rw [ht] at tt;dsimp only at tt
 generalize Ch.tt (Ak.dAt (cs.map Ak.dat) k) = T at *
 obtain ⟨bb,oo,hA,hcl⟩:=h.at_;obtain rfl:=hA (by omega);obtain ⟨q0,q1,q2⟩:=hcl k hk
 generalize Ak.cat cs k = c at *
 obtain ⟨clen,cK,ccuts,cck,cZ,cdens,ccz⟩:=c
 dsimp only at *
 obtain ⟨lk,hlk⟩ : ∃ z,ccuts.length = z:=⟨_,rfl⟩;obtain ⟨lz,hlz⟩ : ∃ z,cdens.length = z:=⟨_,rfl⟩;rw [hlk,hlz] at tt;rw [hlk] at q1;rw [hlz] at q2;obtain ⟨nc,hnc⟩ : ∃ z,cs.length = z:=⟨_,rfl⟩;rw [hnc] at hk ⊢
 have i1 : (k : Int) < (nc : Int):=by omega
 have i0 : (0 : Int) ≤ (k : Int):=by omega
 have TT:=Lib.hid tt;clear tt hlk hlz hnc hcl hA h hc ht hck hgd
 go_enter Tryz.func114,Tryz.ntmps114
 go_upto_region 1 with fail
 refine at_box1 (fun V hbb B0 hVs => ?_);have p0:=B0.c 0 rfl;have k0:=keepC hbb q0;have k1:=keepC hbb q1;have k2:=keepC hbb q2;(go_wp2_with fail);refine (TT.out _ hbb).mono ?_;rintro e w1 ⟨rfl,hb⟩;(go_wp2_with fail)
 go_ret
 exact ⟨rfl,keepB hbb hb⟩
theorem pfcommon_any (A B : Option Addr) (ca cb : Nat) (L M : List (Rat × Rat)) (w : World) (ha : IsS w A (L.map Pc.raw)) (hb : IsS w B (M.map Pc.raw)) :
 Calls Tryz.prog 188 #[.slice A L.length ca,.slice B M.length cb] w fun e w' => e = .returned (.bool (Pf.comB L M))∧Below w.heap.size w w':=by
 have mt:=pMeet_any A B ca cb (L.map Pc.raw) (M.map Pc.raw) w ha hb;rw [List.length_map,List.length_map] at mt
 unfold Pf.comB
 generalize Pc.setS (fun x y => x && y) (L.map Pc.raw) (M.map Pc.raw) = S at *
 obtain ⟨S1,S2⟩:=S
 dsimp only at *
 obtain ⟨nl,hnl⟩ : ∃ z,S1.length = z:=⟨_,rfl⟩;rw [hnl] at mt ⊢;have MT:=Lib.hid mt;clear mt hnl ha hb
 have hR1 : S2 = 4 → (decide (S2 = 4) || decide (0 < nl)) = true:=fun h => by rw [decide_eq_true h,Bool.true_or]
 have hR2 : ¬ S2 = 4 → (decide (S2 = 4) || decide (0 < nl)) = decide ((nl : Int) > 0):=fun h => by
  rw [decide_eq_false h,Bool.false_or,decide_eq_decide]
  omega
 have HR1:=Lib.hid hR1;have HR2:=Lib.hid hR2;clear hR1 hR2
 generalize (decide (S2 = 4) || decide (0 < nl)) = R at *
 obtain ⟨nL,hL⟩ : ∃ z,L.length = z:=⟨_,rfl⟩;obtain ⟨nM,hM⟩ : ∃ z,M.length = z:=⟨_,rfl⟩;rw [hL,hM] at MT ⊢;clear hL hM
 go_enter Tryz.func188,Tryz.ntmps188
 (go_wp2_with fail);refine MT.out.mono ?_;rintro e w1 ⟨v,rfl,hacc⟩;obtain ⟨Av,cv,rfl,-⟩:=row_cap hacc.row;have hbb:=hacc.bb;clear hacc MT
 by_cases h4 : S2 = 4
 ·have e4 : (S2 == 4) = true:=by simp [h4]
  have HF:=Lib.hid (HR1.out h4);clear h4;(go_wp2_with fail)
  go_ret
  exact ⟨by rw [HF.out];rfl,hbb⟩
 ·have e4 : (S2 == 4) = false:=by simp [h4]
  have HF:=Lib.hid (HR2.out h4);clear h4;(go_wp2_with fail)
  go_ret
  exact ⟨by rw [HF.out];first | rfl | simp,hbb⟩
end Go.Proofs.YtogmfebphiglaaaGreat


