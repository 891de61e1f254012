/- Package knife: balance of readings of which the third is the first below 0. Package knife: slices.Concat of ints; hungry. -/
import Derived.Test.YtogmfebphiglaaaGreatM25
import Derived.Test.YtogmfebphiglaaaGreatHp
import Derived.Deep.CutBlock
import Derived.Deep.DeepCutAuto
namespace Go.Proofs.YtogmfebphiglaaaGreat
open Go.RowKit
set_option linter.unusedSimpArgs false in
set_option maxHeartbeats 8000000 in
set_option maxRecDepth 100000 in
theorem knbalance_any (g n cap : Nat) (p1 p2 p3 p4 q1 q2 q3 q4 r1 r2 r3 r4 f1 f2 : Int) (rest : List Value) (w : World) (hB : BK w g ([.int .i64 p1,.int .i64 p2,.int .i64 p3,.int .i64 p4] ++ [.int .i64 q1,.int .i64 q2,.int .i64 q3,.int .i64 q4] ++ [.int .i64 r1,.int .i64 r2,.int .i64 r3,.int .i64 r4] ++ rest)) (hn : 3 ≤ n) (hp : 0 < p3) (hq : 0 < q3) (hr : r3 < 0)
 (hX : ∀ v,Calls Tryz.prog 116 #[.agg #[.int .i64 q1,.int .i64 q2,.int .i64 q3,.int .i64 q4],.agg #[.int .i64 r1,.int .i64 r2,.int .i64 r3,.int .i64 r4]] v fun e v' => e = .returned (.agg #[.int .i64 f1,.int .i64 f2])∧Below v.heap.size v v') :
 Calls Tryz.prog 79 #[.slice (some ⟨g,0,none⟩) n cap] w fun e w' => e = .returned (.agg #[.int .i64 f1,.int .i64 f2])∧Below w.heap.size w w':=by
 have XX:=Lib.hid hX;have HB:=Lib.hid hB;have HP:=Lib.hid hp;have HQ:=Lib.hid hq;have HR:=Lib.hid hr;have hgl:=hB.lt;clear hX hB hp hq hr
 go_enter Tryz.func79,Tryz.ntmps79
 go_upto_region 1 with fail
 refine at_box1 (fun V hbb B0 hVs => ?_);have a0:=keepC hbb (HB.out.c 0 rfl);have a1:=keepC hbb (HB.out.c 1 rfl);have a2:=keepC hbb (HB.out.c 2 rfl);have a3:=keepC hbb (HB.out.c 3 rfl)
 have in0 : (0 : Int) < (n : Int):=by omega
 go_upto_region 2 with fail
 refine at_worldQ (fun v => Below w.heap.size w v∧BK v w.heap.size [.int .i64 0,.int .i64 0]∧BK v (w.heap.size + 1) [.int .i64 p1,.int .i64 p2,.int .i64 p3,.int .i64 p4]∧v.heap.size = w.heap.size + 2) ⟨below_al hbb _,B0.al _,by have b:=BK.new V [.int .i64 p1,.int .i64 p2,.int .i64 p3,.int .i64 p4] 168;rw [hVs] at b;exact b,by simp [hVs]⟩ (fun V2 hS => ?_);clear hbb B0 a0 a1 a2 a3 hVs;obtain ⟨hbb,B0,B1,hVs⟩:=hS;(go_wp2_with fail)
 go_loopw [5,11] (fun _ i v => ∃ (k : Nat) (b1 b2 b3 b4 : Int),i = .int .i64 (k : Nat)∧Below w.heap.size w v∧BK v w.heap.size [.int .i64 0,.int .i64 0]∧BK v (w.heap.size + 1) [.int .i64 b1,.int .i64 b2,.int .i64 b3,.int .i64 b4]∧w.heap.size + 2 ≤ v.heap.size∧0 < b3∧(k = 0 ∨ k = 1 ∨ (k = 2∧b1 = q1∧b2 = q2∧b3 = q3∧b4 = q4))) (fun _ i _ => 3 - (intOf i).toNat)
 case atStart => exact ⟨0,p1,p2,p3,p4,rfl,hbb,B0,B1,by omega,HP.out,.inl rfl⟩
 case round =>
  clear hbb B0 B1 hVs;obtain ⟨k,b1,b2,b3,b4,rfl,hbb,B0,B1,hws,hb3,hk⟩:=hrel;have HB3:=Lib.hid hb3;clear hb3
  rcases hk with rfl | rfl | ⟨rfl,rfl,rfl,rfl,rfl⟩
  ·have c0:=keepC hbb (HB.out.c 0 rfl)
   have c1:=keepC hbb (HB.out.c 1 rfl);have c2:=keepC hbb (HB.out.c 2 rfl);have c3:=keepC hbb (HB.out.c 3 rfl)
   have i1 : (0 : Int) < (n : Int):=by omega
   go_upto_region 5 with fail
   refine at_worldQ (fun v => Below w.heap.size w v∧BK v w.heap.size [.int .i64 0,.int .i64 0]∧BK v (w.heap.size + 1) [.int .i64 b1,.int .i64 b2,.int .i64 b3,.int .i64 b4]∧BK v wr.heap.size [.int .i64 p1,.int .i64 p2,.int .i64 p3,.int .i64 p4]∧v.heap.size = wr.heap.size + 1) ⟨below_al hbb _,B0.al _,B1.al _,BK.new _ _ _,by simp⟩ (fun V5 hS => ?_);have hbs:=hbb.size;clear hbb B0 B1 c0 c1 c2 c3;obtain ⟨hbb,B0,B1,B5,hV5⟩:=hS;obtain ⟨p5,hp5⟩ : ∃ z,wr.heap.size = z:=⟨_,rfl⟩;rw [hp5] at B5 hV5 hws ⊢;clear hp5;have x0:=B1.c 0 rfl;have x1:=B1.c 1 rfl;have x2:=B1.c 2 rfl;have x3:=B1.c 3 rfl;have y0:=B5.c 0 rfl;have y1:=B5.c 1 rfl;have y2:=B5.c 2 rfl;have y3:=B5.c 3 rfl
   have e1 : (p3 == 0) = false:=by rw [beq_eq_false_iff_ne];have:=HP.out;omega
   have e2 : ¬ p3 < 0:=by have:=HP.out;omega
   have e3 : ¬ b3 < 0:=by have:=HB3.out;omega
   have z0:=B1.f 0 rfl;have z1:=B1.f 1 rfl;have z2:=B1.f 2 rfl;have z3:=B1.f 3 rfl;(go_wp2_with fail)
   go_roundw
   case rel => exact ⟨1,p1,p2,p3,p4,by go_num,below_set (below_set (below_set (below_set hbb (by omega) _) (by omega) _) (by omega) _) (by omega) _,(((B0.far (by omega) _ _).far (by omega) _ _).far (by omega) _ _).far (by omega) _ _,(((B1.set 0 _).set 1 _).set 2 _).set 3 _,by simp only [World.size_setCell];omega,HP.out,.inr (.inl rfl)⟩
   case measure => (simp [intOf])
  ·have c0:=keepC hbb (HB.out.c 4 rfl)
   have c1:=keepC hbb (HB.out.c 5 rfl);have c2:=keepC hbb (HB.out.c 6 rfl);have c3:=keepC hbb (HB.out.c 7 rfl)
   have i1 : (1 : Int) < (n : Int):=by omega
   go_upto_region 5 with fail
   refine at_worldQ (fun v => Below w.heap.size w v∧BK v w.heap.size [.int .i64 0,.int .i64 0]∧BK v (w.heap.size + 1) [.int .i64 b1,.int .i64 b2,.int .i64 b3,.int .i64 b4]∧BK v wr.heap.size [.int .i64 q1,.int .i64 q2,.int .i64 q3,.int .i64 q4]∧v.heap.size = wr.heap.size + 1) ⟨below_al hbb _,B0.al _,B1.al _,BK.new _ _ _,by simp⟩ (fun V5 hS => ?_);have hbs:=hbb.size;clear hbb B0 B1 c0 c1 c2 c3;obtain ⟨hbb,B0,B1,B5,hV5⟩:=hS;obtain ⟨p5,hp5⟩ : ∃ z,wr.heap.size = z:=⟨_,rfl⟩;rw [hp5] at B5 hV5 hws ⊢;clear hp5;have x0:=B1.c 0 rfl;have x1:=B1.c 1 rfl;have x2:=B1.c 2 rfl;have x3:=B1.c 3 rfl;have y0:=B5.c 0 rfl;have y1:=B5.c 1 rfl;have y2:=B5.c 2 rfl;have y3:=B5.c 3 rfl
   have e1 : (q3 == 0) = false:=by rw [beq_eq_false_iff_ne];have:=HQ.out;omega
   have e2 : ¬ q3 < 0:=by have:=HQ.out;omega
   have e3 : ¬ b3 < 0:=by have:=HB3.out;omega
   have z0:=B1.f 0 rfl;have z1:=B1.f 1 rfl;have z2:=B1.f 2 rfl;have z3:=B1.f 3 rfl;(go_wp2_with fail)
   go_roundw
   case rel => exact ⟨2,q1,q2,q3,q4,by go_num,below_set (below_set (below_set (below_set hbb (by omega) _) (by omega) _) (by omega) _) (by omega) _,(((B0.far (by omega) _ _).far (by omega) _ _).far (by omega) _ _).far (by omega) _ _,(((B1.set 0 _).set 1 _).set 2 _).set 3 _,by simp only [World.size_setCell];omega,HQ.out,.inr (.inr ⟨rfl,rfl,rfl,rfl,rfl⟩)⟩
   case measure => (simp [intOf])
  ·have c0:=keepC hbb (HB.out.c 8 rfl)
   have c1:=keepC hbb (HB.out.c 9 rfl);have c2:=keepC hbb (HB.out.c 10 rfl);have c3:=keepC hbb (HB.out.c 11 rfl)
   have i1 : (2 : Int) < (n : Int):=by omega
   go_upto_region 5 with fail
   refine at_worldQ (fun v => Below w.heap.size w v∧BK v w.heap.size [.int .i64 0,.int .i64 0]∧BK v (w.heap.size + 1) [.int .i64 b1,.int .i64 b2,.int .i64 b3,.int .i64 b4]∧BK v wr.heap.size [.int .i64 r1,.int .i64 r2,.int .i64 r3,.int .i64 r4]∧v.heap.size = wr.heap.size + 1) ⟨below_al hbb _,B0.al _,B1.al _,BK.new _ _ _,by simp⟩ (fun V5 hS => ?_);have hbs:=hbb.size;clear hbb B0 B1 c0 c1 c2 c3;obtain ⟨hbb,B0,B1,B5,hV5⟩:=hS;obtain ⟨p5,hp5⟩ : ∃ z,wr.heap.size = z:=⟨_,rfl⟩;rw [hp5] at B5 hV5 hws ⊢;clear hp5;have x0:=B1.c 0 rfl;have x1:=B1.c 1 rfl;have x2:=B1.c 2 rfl;have x3:=B1.c 3 rfl;have y0:=B5.c 0 rfl;have y1:=B5.c 1 rfl;have y2:=B5.c 2 rfl;have y3:=B5.c 3 rfl
   have e1 : (r3 == 0) = false:=by rw [beq_eq_false_iff_ne];have:=HR.out;omega
   have e2 : r3 < 0:=HR.out
   have e3 : ¬ b3 < 0:=by have:=HB3.out;omega
   (go_wp2_with fail);refine (XX.out _).mono ?_;rintro e w6 ⟨rfl,hb⟩;replace hbb:=keepB hbb hb;replace B0:=B0.keep hb;have r0:=B0.c 0 rfl;have r1:=B0.c 1 rfl;have g0:=B0.f 0 rfl;have g1:=B0.f 1 rfl;(go_wp2_with fail);exact bodyPost_ret (v:=.agg #[.int .i64 f1,.int .i64 f2]) (by simp [results,Tryz.results79,go_sem,r0,r1]) rfl ⟨rfl,by repeat (first | exact hbb | refine below_set ?_ (by omega) _)⟩
end Go.Proofs.YtogmfebphiglaaaGreat


set_option linter.unusedSimpArgs false
set_option maxHeartbeats 8000000
set_option maxRecDepth 100000
namespace Go.Proofs.YtogmfebphiglaaaGreat
open Go.RowKit
namespace Kn
/-- A slice of ints in memory. -/
structure IcR where
 A : Option Addr
 c : Nat
 L : List Int
def pat (ps : List IcR) (k : Nat) : IcR:=ps.getD k ⟨none,0,[]⟩
def cat1 (ps : List IcR) : List Int:=ps.flatMap IcR.L
def cel (L : List Int) : List Value:=L.map (Value.int .i64)
theorem cel_len (L : List Int) : (cel L).length = L.length * 1:=by unfold cel;simp
theorem cel_one {L : List Int} (u : Value) (hu : u ∈ cel L) : u.oneCell' = true:=by
 unfold cel at hu
 obtain ⟨x,-,rfl⟩:=List.mem_map.1 hu
 rfl
theorem cel_app (L M : List Int) : cel (L ++ M) = cel L ++ cel M:=List.map_append
end Kn
theorem kngrow_any (n : Nat) (hn : n ≤ 1000) (w : World) : Calls Tryz.prog 155 #[.slice none 0 0,.int .i64 (n : Nat)] w fun e w' => ∃ v,e = .returned v∧Below w.heap.size w w'∧w'.ownsRow w.heap.size 3 1 v 0 []:=by
 have h1 : ¬ ((n : Int) < 0):=by omega
 have h2 : IntKind.i64.wrap (n : Int) = (n : Int):=IntWalk.i64_in _ (by omega);obtain ⟨i0,hi0,hz0,hz1,hz2⟩:=info_parts intInfo
 by_cases h0 : n = 0
 ·subst h0
  go_enter Tryz.func155,Tryz.ntmps155
  go_wp2_with fail
  go_ret
  exact ⟨_,rfl,Below.refl _ _,World.ownsRow_nil _ _ _ _⟩
 ·have h3 : (n : Int) > 0:=by omega
  have hr : ∀ ty,(Builtin.append_ #[22,3] ty #[.slice none 0 0,.int .i64 (n : Int)]).run Tryz.prog w = _:=fun ty => Lib.run_append_nil_zeros w 22 3 ty 3 i0 _ .i64 .i64 Tryz.underlying22 (by kernel_rfl) hi0 hz0 n (by omega) (by rw [hz1];omega) (by omega) (by rw [hz2];omega)
  go_enter Tryz.func155,Tryz.ntmps155
  go_wp2_with (at_builtin;refine Lib.wpList_append_run _ rfl _ _ _ _ rfl _ _ rfl rfl _ _ (hr _) ?_)
  go_wp2_with fail
  go_ret
  have hge:=grownCap_ge w n 0 3;exact ⟨_,rfl,(below_al (Below.refl _ _) _).drew,World.ownsRow.drew (World.ownsRow_made w _ _ (Nat.le_refl _) (grownCap_le_maxLen w n 0 3 (by unfold maxLen;omega)) (by simp [size_zeroCells];omega))⟩
theorem knconcat_any (Pp : Option Addr) (cp : Nat) (ps : List Kn.IcR) (w : World) (hp : ∃ pb po,(0 < ps.length → Pp = some ⟨pb,po,none⟩)∧∀ k,k < ps.length → w.cell? ⟨pb,po + k,none⟩ = some (.slice (Kn.pat ps k).A (Kn.pat ps k).L.length (Kn.pat ps k).c)) (hall : ∀ k,k < ps.length → IsI w (Kn.pat ps k).A (Kn.pat ps k).L) (hn : ps.length ≤ 6) (hl : ∀ k,k < ps.length → (Kn.pat ps k).L.length ≤ 60) :
 Calls Tryz.prog 117 #[.slice Pp ps.length cp] w fun e w' => ∃ v,e = .returned v∧Below w.heap.size w w'∧w'.ownsRow w.heap.size 3 1 v (Kn.cat1 ps).length (Kn.cel (Kn.cat1 ps)):=by
 obtain ⟨pb,po,hP,hpc⟩:=hp
 have hcell:=fun k hk => (hall k hk).1
 obtain ⟨n,hnn⟩ : ∃ z,ps.length = z:=⟨_,rfl⟩
 have tk : ∀ k,k < n → Kn.cat1 (ps.take (k + 1)) = Kn.cat1 (ps.take k) ++ (Kn.pat ps k).L:=fun k hk => by
  unfold Kn.cat1 Kn.pat
  rw [List.take_succ_eq_append_getElem (by omega),List.flatMap_append]
  simp [show k < ps.length by omega]
 have tl : ∀ k,k ≤ n → (Kn.cat1 (ps.take k)).length ≤ 60 * k:=fun k => by
  induction k with
  | zero => intro _;simp [Kn.cat1]
  | succ k ih =>
   intro hk;rw [tk k (by omega),List.length_append];have:=ih (by omega);have:=hl k (by omega)
   omega
 have nw : ∀ k,k < ps.length → (Kn.pat ps k).L.length ≠ 0 → ∃ b o,(Kn.pat ps k).A = some ⟨b,o,none⟩∧∀ v,Below w.heap.size w v → ∀ j u,(Kn.cel (Kn.pat ps k).L)[j]? = some u → v.cell? ⟨b,o + j,none⟩ = some u:=fun k hk h0 => by
  obtain ⟨b,o,hA,hc⟩:=hcell k hk (by omega);refine ⟨b,o,hA,fun v hv j u hj => ?_⟩
  have hl : j < (Kn.pat ps k).L.length:=by
   have:=(List.getElem?_eq_some_iff.1 hj).1
   simpa [Kn.cel] using this
  have e : u = .int .i64 (Ck.at_ (Kn.pat ps k).L j):=by
   unfold Kn.cel at hj
   rw [List.getElem?_map,List.getElem?_eq_getElem hl] at hj
   unfold Ck.at_
   simp [hl] at hj ⊢
   exact hj.symm
  rw [e];exact keepC hv (hc j hl)
 have tf : Kn.cat1 (ps.take n) = Kn.cat1 ps:=by rw [List.take_of_length_le (by omega)]
 rw [hnn] at hP hpc hcell hn hl nw ⊢;have HNW:=Lib.hid nw;clear nw;have HPP:=Lib.hid hP;have HPC:=Lib.hid hpc;have HCL:=Lib.hid hcell;have HTK:=Lib.hid tk;have HTL:=Lib.hid tl;have HTF:=Lib.hid tf;have HLL:=Lib.hid hl;obtain ⟨i0,hi0,hz0,hz1,hz2⟩:=info_parts intInfo;have HI:=Lib.hid hi0;have HI2:=Lib.hid hz0;have HI3:=Lib.hid hz1;have HI4:=Lib.hid hz2;clear hP hpc hcell tk tl tf hall hl hnn hi0 hz0 hz1 hz2
 go_enter Tryz.func117,Tryz.ntmps117
 go_wp2_with fail
 go_loopw [3,11] (fun s i v => ∃ k : Nat,k ≤ n∧i = .int .i64 (k : Nat)∧s = .int .i64 ((Kn.cat1 (ps.take k)).length : Nat)∧v = w) (fun _ i _ => n - (intOf i).toNat)
 case atStart => exact ⟨0,Nat.zero_le _,rfl,by simp [Kn.cat1],rfl⟩
 case round =>
  obtain ⟨k,hk,rfl,rfl,hv⟩:=hrel;have hv2:=hv.symm;subst hv2
  by_cases hlt : k < n
  ·have i1 : (k : Int) < (n : Int):=by omega
   have i2 : (0 : Int) ≤ (k : Int):=by omega
   obtain rfl:=HPP.out (by omega);have q0:=HPC.out k hlt;have ht:=HTK.out k hlt;have h1:=HTL.out k hk;have h2:=HLL.out k hlt
   have ht2 : (Kn.cat1 (ps.take (k + 1))).length = (Kn.cat1 (ps.take k)).length + (Kn.pat ps k).L.length:=by rw [ht,List.length_append]
   have HZ:=Lib.hid ht2;clear ht ht2
   generalize (Kn.cat1 (ps.take k)).length = x at *
   generalize Kn.pat ps k = p at *
   obtain ⟨pA,pc,pL⟩:=p
   dsimp only at *
   generalize pL.length = y at *
   have z1 : IntKind.i64.wrap ((x : Int) + (y : Int)) = (x : Int) + (y : Int):=IntWalk.i64_in _ (by omega)
   have z2 : ¬ (x : Int) + (y : Int) < 0:=by omega
   clear h1 h2;(go_wp2_with fail)
   go_roundw
   case rel => exact ⟨k + 1,by omega,by go_num,by rw [HZ.out];go_num,by first | rfl | trivial⟩
   case measure => (simp [intOf] <;> omega)
  ·obtain rfl : k = n:=by omega
   have i1 : ¬ (k : Int) < (k : Int):=by omega
   have h1:=HTL.out k (Nat.le_refl _);rw [HTF.out] at h1 ⊢;have GRW:=Lib.hid (fun v => kngrow_any (Kn.cat1 ps).length (by omega) v);(go_wp2_with fail);refine (GRW.out _).mono ?_;rintro e w3 ⟨gv,rfl,hb3,hO3⟩;clear GRW;(go_wp2_with fail)
   go_loopw [6,27] (fun s i v => ∃ j : Nat,j ≤ k∧i = .int .i64 (j : Nat)∧Below w.heap.size w v∧v.ownsRow w.heap.size 3 1 s (Kn.cat1 (ps.take j)).length (Kn.cel (Kn.cat1 (ps.take j)))) (fun _ i _ => k - (intOf i).toNat)
   case atStart => exact ⟨0,Nat.zero_le _,rfl,hb3,hO3⟩
   case round =>
    clear hO3 hb3;obtain ⟨j,hj,rfl,hbb,hO⟩:=hrel
    by_cases hlj : j < k
    ·have i2 : (j : Int) < (k : Int):=by omega
     have i3 : (0 : Int) ≤ (j : Int):=by omega
     obtain rfl:=HPP.out (by omega);have q0:=keepC hbb (HPC.out j hlj);have ht:=HTK.out j hlj;have h1:=HTL.out j hj;have h2:=HLL.out j hlj;have hnw:=HNW.out j hlj;have HT:=Lib.hid ht;clear ht;obtain ⟨m,hm⟩ : ∃ z,(Kn.cat1 (ps.take j)).length = z:=⟨_,rfl⟩;rw [hm] at h1 hO;have HM:=Lib.hid hm;clear hm
     generalize Kn.cat1 (ps.take j) = T at *
     generalize Kn.pat ps j = p at *
     obtain ⟨pA,pcap,L2⟩:=p
     dsimp only at *
     obtain ⟨y,hy⟩ : ∃ z,L2.length = z:=⟨_,rfl⟩;rw [hy] at q0 h2 hnw;have HY:=Lib.hid hy;clear hy
     by_cases hy0 : y = 0
     ·subst hy0
      obtain ⟨Ax,cx,rfl,hcx⟩:=row_cap hO
      have hr : ∀ ty,(Builtin.append_ #[22,22] ty #[.slice Ax m cx,.slice pA 0 pcap]).run Tryz.prog wr = _:=fun ty => run_append_zero wr 22 ty 3 i0 Tryz.underlying22 HI.out Ax pA m cx pcap hcx
      go_wp2_with (at_builtin;refine Lib.wpList_append_run _ rfl _ _ _ _ rfl _ _ rfl rfl _ _ (hr _) ?_)
      go_wp2_with fail
      go_roundw
      case rel => exact ⟨j + 1,by omega,by go_num,hbb,by
       have e : L2 = []:=List.eq_nil_of_length_eq_zero HY.out;rw [HT.out,e,List.append_nil,HM.out]
       exact hO⟩
      case measure => (simp [intOf] <;> omega)
     ·obtain ⟨pb2,po2,rfl,hnews⟩:=hnw (by omega)
      have HN2:=Lib.hid (hnews wr hbb);clear hnw hnews;have hbv:=hbb.size
      go_wp2_with (at_builtin;refine wpList_append_lies _ rfl _ _ _ rfl w.heap.size 3 i0 _ 1 8 Tryz.underlying22 HI.out HI2.out HI3.out HI4.out rfl (by omega) _ m (Kn.cel T) (by rfl) hO ⟨pb2,po2,none⟩ y pcap (Kn.cel L2) (by rfl) (by rw [Kn.cel_len,HY.out]) (fun j u hj => by rw [Addr.add_lit];exact HN2.out j u hj) (fun u hu => Kn.cel_one u hu) (by omega) (by unfold maxLen;omega) (by omega) (by omega) _ rfl ?_;intro g9 cap9 w9 hown1 hgrow hat hglt)
      all_goals
       (try go_wp2_with fail)
       go_roundw
       case rel => exact ⟨j + 1,by omega,by go_num,hbb.grown hgrow hbv (fun b e => (World.ownsRow.lt hO b e).1),by
        rw [HT.out,List.length_append,HM.out,HY.out,Kn.cel_app]
        exact hown1⟩
       case measure => (simp [intOf] <;> omega)
    ·obtain rfl : j = k:=by omega
     have i2 : ¬ (j : Int) < (j : Int):=by omega
     rw [HTF.out] at hO;(go_wp2_with fail)
     go_ret
     exact ⟨_,rfl,hbb,hO⟩
theorem knindex0_any (A : Option Addr) (cap n : Nat) (xs : List Int) (w : World) (h : IsI w A xs) (hn : xs.length = n) (hm : n ≤ 1000) (h0 : ∀ k,k < n → Ck.at_ xs k ≠ 0) :
 Calls Tryz.prog 154 #[.slice A n cap,.int .i64 0] w fun e w' => e = .returned (.int .i64 (-1))∧Below w.heap.size w w':=by
 have hcl:=h.1;rw [hn] at hcl;have HCL:=Lib.hid hcl;have H0:=Lib.hid h0;clear h hn hcl h0
 go_enter Tryz.func154,Tryz.ntmps154
 go_wp2_with fail
 go_loopw [5,8] (fun _ i v => ∃ k : Nat,k ≤ n∧i = .int .i64 (k : Nat)∧v = w) (fun _ i _ => n - (intOf i).toNat)
 case atStart => exact ⟨0,Nat.zero_le _,rfl,rfl⟩
 case round =>
  obtain ⟨k,hk,rfl,hv⟩:=hrel;have hv2:=hv.symm;subst hv2
  by_cases hlt : k < n
  ·obtain ⟨b,o,rfl,hc⟩:=HCL.out (by omega)
   have q0:=hc k hlt;have hz:=H0.out k hlt
   generalize Ck.at_ xs k = x at *
   have e : ((0 : Int) == x) = false:=by rw [beq_eq_false_iff_ne];exact fun e => hz e.symm
   have i1 : (k : Int) < (n : Int):=by omega
   have i2 : (0 : Int) ≤ (k : Int):=by omega
   have HC:=Lib.hid hc;clear hc hz;(go_wp2_with fail)
   go_roundw
   case rel => exact ⟨k + 1,by omega,by go_num,by first | rfl | trivial⟩
   case measure => (simp [intOf] <;> omega)
  ·obtain rfl : k = n:=by omega
   have i1 : ¬ (k : Int) < (k : Int):=by omega
   go_wp2_with fail
   go_ret
   exact ⟨rfl,Below.refl _ _⟩
theorem kncontains0_any (A : Option Addr) (cap n : Nat) (xs : List Int) (w : World) (h : IsI w A xs) (hn : xs.length = n) (hm : n ≤ 1000) (h0 : ∀ k,k < n → Ck.at_ xs k ≠ 0) :
 Calls Tryz.prog 115 #[.slice A n cap,.int .i64 0] w fun e w' => e = .returned (.bool false)∧Below w.heap.size w w':=by
 have IX:=Lib.hid (knindex0_any A cap n xs w h hn hm h0);clear h hn h0
 go_enter Tryz.func115,Tryz.ntmps115
 (go_wp2_with fail);refine IX.out.mono ?_;rintro e w1 ⟨rfl,hb⟩;(go_wp2_with fail)
 go_ret
 exact ⟨rfl,hb⟩
theorem knhungry_any (c : CkR) (w : World) (h : IsC w c) (hm : c.dens.length ≤ 1000) (h0 : ∀ k,k < c.dens.length → Ck.at_ c.dens k ≠ 0) :
 Calls Tryz.prog 78 #[.agg #[.int .i64 c.len,.slice c.K c.cuts.length c.ck,.slice c.Z c.dens.length c.cz]] w fun e w' => e = .returned (.bool true)∧Below w.heap.size w w':=by
 have CT:=Lib.hid (fun v (hv : Below w.heap.size w v) => kncontains0_any c.Z c.cz c.dens.length c.dens v (h.keep hv).2.2.2 rfl hm h0);clear h hm h0
 go_enter Tryz.func78,Tryz.ntmps78
 go_upto_region 1 with fail
 refine at_box1 (fun V hbb B0 hVs => ?_);have cB00:=B0.c 0 rfl;have cB01:=B0.c 1 rfl;have cB02:=B0.c 2 rfl;(go_wp2_with fail);refine (CT.out _ hbb).mono ?_;rintro e w1 ⟨rfl,hb⟩;clear cB00 cB01 cB02;replace hbb:=keepB hbb hb;replace B0:=B0.keep hb;clear hb CT;(go_wp2_with fail)
 go_ret
 exact ⟨rfl,hbb⟩
end Go.Proofs.YtogmfebphiglaaaGreat


