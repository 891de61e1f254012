/- Package piece's sum and Worth of pieces that lie in a cake. Package proof: isInside, Check of valid divisions. -/
import Derived.Test.YtogmfebphiglaaaGreatPfa
set_option linter.unusedSimpArgs false
set_option maxHeartbeats 8000000
set_option maxRecDepth 100000
namespace Go.Proofs.YtogmfebphiglaaaGreat
open Go.RowKit
namespace Pc
/-- The sum of a measure, from an accumulated ratio on. -/
def sumF (mf : Rat × Rat → Int × Int × Int) : List (Rat × Rat) → Int → Int → Int × Int × Int
 | [],a,b => (a,b,0)
 | s :: l,a,b => if (mf s).2.2 = 0 then (if (Rp.addS a b (mf s).1 (mf s).2.1).2.2 = 0 then sumF mf l (Rp.addS a b (mf s).1 (mf s).2.1).1 (Rp.addS a b (mf s).1 (mf s).2.1).2.1 else (0,0,(Rp.addS a b (mf s).1 (mf s).2.1).2.2)) else (0,0,(mf s).2.2)
theorem low_bd (n d : Int) : I64 (Rp.low n d).1∧I64 (Rp.low n d).2.1∧(0 ≤ (Rp.low n d).2.2∧(Rp.low n d).2.2 ≤ 18):=by
 unfold Rp.low
 split
 ·unfold I64;dsimp only;omega
 ·unfold I64;dsimp only;omega
theorem addS_bd (a b c d : Int) : I64 (Rp.addS a b c d).1∧I64 (Rp.addS a b c d).2.1:=by
 unfold Rp.addS
 split
 ·exact ⟨(low_bd _ _).1,(low_bd _ _).2.1⟩
 ·unfold I64;dsimp only;omega
end Pc
namespace Pc
theorem inc_at : ∀ {l : List Rat} {i j : Nat},Inc l → i < j → j < l.length → qat l i < qat l j
 | [],_,_,_,_,h => by simp at h
 | p :: l,0,j + 1,h,_,hl => by
  have hl' : j < l.length:=by simpa using hl
  have e : qat (p :: l) (j + 1) = l[j]:=by rw [qat_lt hl];rfl
  rw [e];exact h.1 _ (List.getElem_mem hl')
 | p :: l,i + 1,j + 1,h,hij,hl => by
  have ih:=inc_at (l:=l) (i:=i) (j:=j) h.2 (by omega) (by simpa using hl)
  unfold qat at ih ⊢
  simpa using ih
theorem chk_of_good {L : List (Rat × Rat)} (h : Good L) : chk (L.map raw) = 0:=by
 refine chk_ok (by rw [List.length_map];have:=h.len;omega) (fun k hk => ?_);rw [List.length_map] at hk;have el:=ends_len L;have e:=ends_at hk;have m:=mem_ends1 hk
 have h1 : (sat L k).1 < (sat L k).2:=by rw [← e.1,← e.2];exact inc_at h.inc (by omega) (by omega)
 have s1 : spanB (at_ (L.map raw) k) = true:=by
  rw [at_map L hk]
  show lessB (sat L k).1.num ((sat L k).1.den : Int) (sat L k).2.num ((sat L k).2.den : Int) = true
  rw [less_fit (h.fit _ m.1) (h.fit _ m.2)];exact decide_eq_true h1
 unfold bad
 rw [s1]
 rcases k with _ | k
 ·rfl
 ·have hk' : k < L.length:=by omega
  have e':=ends_at hk';have m':=mem_ends1 hk'
  have h2 : (sat L k).2 < (sat L (k + 1)).1:=by rw [← e.1,← e'.2];exact inc_at h.inc (by omega) (by omega)
  have s2 : lessB (at_ (L.map raw) (k + 1 - 1)).c (at_ (L.map raw) (k + 1 - 1)).d (at_ (L.map raw) (k + 1)).a (at_ (L.map raw) (k + 1)).b = true:=by
   rw [show k + 1 - 1 = k from rfl,at_map L hk',at_map L hk]
   show lessB (sat L k).2.num ((sat L k).2.den : Int) (sat L (k + 1)).1.num ((sat L (k + 1)).1.den : Int) = true
   rw [less_fit (h.fit _ m'.2) (h.fit _ m.1)];exact decide_eq_true h2
  rw [s2]
  simp
end Pc
theorem sum1_any (g : FuncId) (cv : Value) (mf : Rat × Rat → Int × Int × Int) (A : Option Addr) (cap : Nat) (L : List (Rat × Rat)) (w : World) (hl : L.length ≤ 1000) (h : IsS w A (L.map Pc.raw))
 (hM : ∀ s ∈ L,∀ v,Below w.heap.size w v → Calls Tryz.prog g #[.agg #[.int .i64 s.1.num,.int .i64 (s.1.den : Int),.int .i64 s.2.num,.int .i64 (s.2.den : Int)],cv] v fun e w' => e = .returned (.tuple #[.agg #[.int .i64 (mf s).1,.int .i64 (mf s).2.1],.int .i64 (mf s).2.2])∧Below v.heap.size v w')
 (hE : ∀ (x : Value) (v : World),Sem.run Tryz.prog (callFunc g #[x,cv]) v = .ok (.enter g #[x,cv]) v) (hB : ∀ s ∈ L,I64 (mf s).1∧I64 (mf s).2.1) :
 Calls Tryz.prog 185 #[.slice A L.length cap,.func (.func g) #[] #[cv]] w fun e w' => e = .returned (.tuple #[.agg #[.int .i64 (Pc.sumF mf L 0 1).1,.int .i64 (Pc.sumF mf L 0 1).2.1],.int .i64 (Pc.sumF mf L 0 1).2.2])∧Below w.heap.size w w':=by
 obtain ⟨b,off,hA,hc⟩:=h.cell;have HC:=Lib.hid hc;have HA:=Lib.hid hA
 have HMM:=Lib.hid (show ∀ k,k < L.length → (∀ v,Below w.heap.size w v → Calls Tryz.prog g #[.agg #[.int .i64 (Pc.sat L k).1.num,.int .i64 ((Pc.sat L k).1.den : Int),.int .i64 (Pc.sat L k).2.num,.int .i64 ((Pc.sat L k).2.den : Int)],cv] v fun e w' => e = .returned (.tuple #[.agg #[.int .i64 (mf (Pc.sat L k)).1,.int .i64 (mf (Pc.sat L k)).2.1],.int .i64 (mf (Pc.sat L k)).2.2])∧Below v.heap.size v w')∧I64 (mf (Pc.sat L k)).1∧I64 (mf (Pc.sat L k)).2.1 from fun k hk => by
  rw [Pc.sat_lt hk]
  exact ⟨hM _ (List.getElem_mem hk),hB _ (List.getElem_mem hk)⟩)
 have HE:=Lib.hid hE;obtain ⟨R,hR⟩ : ∃ R,Pc.sumF mf L 0 1 = R:=⟨_,rfl⟩;rw [hR];obtain ⟨R1,R2,R3⟩:=R
 dsimp only
 have HR:=Lib.hid hR;clear h hc hA hM hE hB hR
 go_enter Tryz.func185,Tryz.ntmps185
 go_upto_region 2 with fail
 refine at_worldQ (fun v => Below w.heap.size w v∧BK v w.heap.size [.int .i64 0,.int .i64 0]∧BK v (w.heap.size + 1) [.int .i64 0,.int .i64 1]) ⟨below_al (below_al (Below.refl _ _) _) _,(BK.new w [.int .i64 0,.int .i64 0] _).al _,by have b:=BK.new (w.alloc (.cells #[.int .i64 0,.int .i64 0] 31)) [.int .i64 0,.int .i64 1] 31;simpa only [World.size_alloc] using b⟩ (fun V hS => ?_);(go_wp2_with fail)
 go_loopw [8,9,10,14] (fun _ _ _ i W => ∃ (k : Nat) (a c : Int),k ≤ L.length∧i = .int .i64 k∧Pc.sumF mf (L.drop k) a c = (R1,R2,R3)∧(I64 a∧I64 c)∧Below w.heap.size w W∧BK W w.heap.size [.int .i64 0,.int .i64 0]∧BK W (w.heap.size + 1) [.int .i64 a,.int .i64 c]) (fun _ _ _ i _ => L.length - (intOf i).toNat)
 case atStart => exact ⟨0,0,1,Nat.zero_le _,rfl,HR.out,⟨⟨by decide,by decide⟩,by decide,by decide⟩,hS.1,hS.2.1,hS.2.2⟩
 case round =>
  clear hS HR;obtain ⟨k,a,c,hk,rfl,hsum,⟨ha,hcc⟩,hbb,B0,B1⟩:=hrel
  by_cases hlt : k < L.length
  ·have hA':=HA.out (by omega)
   subst hA';obtain ⟨s,hs⟩ : ∃ s,Pc.sat L k = s:=⟨_,rfl⟩;have c0:=keepC hbb (HC.out k hlt).1;have c1:=keepC hbb (HC.out k hlt).2.1;have c2:=keepC hbb (HC.out k hlt).2.2.1;have c3:=keepC hbb (HC.out k hlt).2.2.2;obtain ⟨hm,hm1,hm2⟩:=HMM.out k hlt
   have hdr : L.drop k = s :: L.drop (k + 1):=by rw [List.drop_eq_getElem_cons hlt,← Pc.sat_lt hlt,hs]
   rw [hdr] at hsum;rw [hs] at c0 c1 c2 c3 hm hm1 hm2
   unfold Pc.sumF at hsum
   have hcf:=HE.out (.agg #[.int .i64 s.1.num,.int .i64 (s.1.den : Int),.int .i64 s.2.num,.int .i64 (s.2.den : Int)])
   have ad:=fun v => Add_any a c (mf s).1 (mf s).2.1 v ha.1 ha.2 hcc.1 hcc.2 hm1.1 hm1.2 hm2.1 hm2.2
   have hab:=Pc.addS_bd a c (mf s).1 (mf s).2.1
   generalize Rp.addS a c (mf s).1 (mf s).2.1 = T at *
   obtain ⟨T1,T2,T3⟩:=T
   generalize mf s = M at *
   obtain ⟨M1,M2,M3⟩:=M;dsimp only at hm ad hsum hab;have HM:=Lib.hid hm;have AD:=Lib.hid ad;have HAB:=Lib.hid hab;have HSUM:=Lib.hid hsum;clear hm ad hs hdr hm1 hm2 ha hcc hab hsum
   have i1 : (0 : Int) ≤ (k : Int):=by omega
   have i2 : (k : Int) < (L.length : Int):=by omega
   go_upto_region 5 with fail
   refine at_worldQ (fun v => Below w.heap.size w v∧BK v w.heap.size [.int .i64 0,.int .i64 0]∧BK v (w.heap.size + 1) [.int .i64 a,.int .i64 c]∧BK v wr.heap.size [.int .i64 s.1.num,.int .i64 (s.1.den : Int),.int .i64 s.2.num,.int .i64 (s.2.den : Int)]) ⟨below_al hbb _,B0.al _,B1.al _,BK.new wr [.int .i64 s.1.num,.int .i64 (s.1.den : Int),.int .i64 s.2.num,.int .i64 (s.2.den : Int)] _⟩ (fun V5 hS5 => ?_);clear hbb B0 B1 c0 c1 c2 c3;obtain ⟨hbb,B0,B1,B8⟩:=hS5;have p0:=B8.c 0 rfl;have p1:=B8.c 1 rfl;have p2:=B8.c 2 rfl;have p3:=B8.c 3 rfl
   generalize wr.heap.size = P8 at *
   clear B8;(go_wp2_with fail);refine (HM.out _ hbb).mono ?_;rintro e w5 ⟨rfl,hb5⟩;replace hbb:=keepB hbb hb5;replace B0:=B0.keep hb5;replace B1:=B1.keep hb5;clear hb5 HM p0 p1 p2 p3 hcf
   go_upto_region 6 with fail
   refine at_worldQ (fun v => Below w.heap.size w v∧BK v w.heap.size [.int .i64 0,.int .i64 0]∧BK v (w.heap.size + 1) [.int .i64 a,.int .i64 c]∧BK v w5.heap.size [.int .i64 M1,.int .i64 M2]) ⟨below_al hbb _,B0.al _,B1.al _,BK.new w5 [.int .i64 M1,.int .i64 M2] _⟩ (fun V6 hS6 => ?_);clear hbb B0 B1;obtain ⟨hbb,B0,B1,B9⟩:=hS6
   generalize w5.heap.size = P9 at *
   by_cases hM3 : M3 = 0
   ·subst hM3
    have e0 : ((0 : Int) == 0) = true:=rfl;have q0:=B9.c 0 rfl;have q1:=B9.c 1 rfl;have t0:=B1.c 0 rfl;have t1:=B1.c 1 rfl;(go_wp2_with fail);refine (AD.out _).mono ?_;rintro e w7 ⟨rfl,hb7⟩;replace hbb:=keepB hbb hb7;replace B0:=B0.keep hb7;replace B1:=B1.keep hb7;clear hb7 AD q0 q1 t0 t1 B9;have t0:=B1.c 0 rfl;have t1:=B1.c 1 rfl;have g0:=B1.f 0 rfl;have g1:=B1.f 1 rfl
    go_upto_region 8 with fail
    refine at_worldQ (fun v => Below w.heap.size w v∧BK v w.heap.size [.int .i64 0,.int .i64 0]∧BK v (w.heap.size + 1) [.int .i64 T1,.int .i64 T2]) ⟨below_set (below_set hbb (by omega) _) (by omega) _,(B0.far (by omega) _ _).far (by omega) _ _,(B1.set 0 _).set 1 _⟩ (fun V8 hS8 => ?_);clear hbb B0 B1 t0 t1 g0 g1;obtain ⟨hbb,B0,B1⟩:=hS8
    by_cases hT : T3 = 0
    ·subst hT
     have hs2:=HSUM.out
     simp only [↓reduceIte] at hs2
     have HS2:=Lib.hid hs2;have e1 : ((0 : Int) != 0) = false:=rfl;clear hs2 HSUM;(go_wp2_with fail)
     go_roundw
     case rel => exact ⟨k + 1,T1,T2,by omega,by go_num,HS2.out,HAB.out,hbb,B0,B1⟩
     case measure => simp [intOf];omega
    ·have hs2:=HSUM.out
     simp only [↓reduceIte,if_neg hT] at hs2
     have EB:=Lib.hid hs2.symm
     have e1 : (T3 != 0) = true:=by rw [bne_iff_ne];exact hT
     clear hs2 HSUM hT;have r0:=B0.c 0 rfl;have r1:=B0.c 1 rfl;have f0:=B0.f 0 rfl;have f1:=B0.f 1 rfl;(go_wp2_with fail);exact bodyPost_ret (v:=.tuple #[.agg #[.int .i64 0,.int .i64 0],.int .i64 T3]) (by simp [results,Tryz.results185,go_sem,r0,r1]) rfl ⟨by have e:=EB.out;simp only [Prod.mk.injEq] at e;obtain ⟨e1',e2',e3'⟩:=e;rw [e1',e2',e3'],below_set (below_set hbb (Nat.le_refl _) _) (Nat.le_refl _) _⟩
   ·have hs2:=HSUM.out
    rw [if_neg hM3] at hs2;have EB:=Lib.hid hs2.symm
    have e0 : (M3 == 0) = false:=by rw [beq_eq_false_iff_ne];exact hM3
    have e1 : (M3 != 0) = true:=by rw [bne_iff_ne];exact hM3
    clear hs2 HSUM hM3;have r0:=B0.c 0 rfl;have r1:=B0.c 1 rfl;have f0:=B0.f 0 rfl;have f1:=B0.f 1 rfl;(go_wp2_with fail);exact bodyPost_ret (v:=.tuple #[.agg #[.int .i64 0,.int .i64 0],.int .i64 M3]) (by simp [results,Tryz.results185,go_sem,r0,r1]) rfl ⟨by have e:=EB.out;simp only [Prod.mk.injEq] at e;obtain ⟨e1',e2',e3'⟩:=e;rw [e1',e2',e3'],below_set (below_set hbb (Nat.le_refl _) _) (Nat.le_refl _) _⟩
  ·obtain rfl : k = L.length:=by omega
   rw [List.drop_length] at hsum;have EB:=Lib.hid hsum;have t0:=B1.c 0 rfl;have t1:=B1.c 1 rfl;have r0:=B0.c 0 rfl;have r1:=B0.c 1 rfl;have f0:=B0.f 0 rfl;have f1:=B0.f 1 rfl;clear HA HC HMM HE hsum;(go_wp2_with fail);have e:=EB.out
   unfold Pc.sumF at e
   simp only [Prod.mk.injEq] at e
   obtain ⟨rfl,rfl,rfl⟩:=e;exact bodyPost_ret (v:=.tuple #[.agg #[.int .i64 a,.int .i64 c],.int .i64 0]) (by simp [results,Tryz.results185,go_sem,r0,r1]) rfl ⟨rfl,below_set (below_set hbb (Nat.le_refl _) _) (Nat.le_refl _) _⟩
namespace Pc
theorem spans_of_good {L : List (Rat × Rat)} (h : Good L) : ∀ s ∈ L,s.1 < s.2:=by
 intro s hs;obtain ⟨k,hk,rfl⟩:=List.mem_iff_getElem.1 hs;have e:=ends_at hk;have el:=ends_len L;rw [← sat_lt hk,← e.1,← e.2];exact inc_at h.inc (by omega) (by omega)
/-- What a span is worth. -/
def wM (cuts dens : List Int) (s : Rat × Rat) : Int × Int × Int:=Ck.vgo cuts dens s.1.num (s.1.den : Int) s.2.num (s.2.den : Int) dens.length
/-- A point of the cake. -/
def inC (len : Int) (r : Rat) : Bool:=Ck.pt len r.num (r.den : Int)
theorem wM_bd {len : Int} {cuts dens : List Int} (hG : Ck.Good len cuts dens) {s : Rat × Rat} (h1 : Fit s.1) (h2 : Fit s.2) (h : s.1 < s.2) :
 ((wM cuts dens s).2.2 = 0∧Rp.Ok (wM cuts dens s).1 (wM cuts dens s).2.1∧Rp.q (wM cuts dens s).1 (wM cuts dens s).2.1 = Ck.cum cuts dens s.2 dens.length - Ck.cum cuts dens s.1 dens.length) ∨ wM cuts dens s = (0,0,16):=by
 have:=Ck.vgo_is hG h1 h2 (by rw [Rp.q_self,Rp.q_self];grind) dens.length (Nat.le_refl _);rw [Rp.q_self,Rp.q_self] at this;exact this
theorem wM_64 {len : Int} {cuts dens : List Int} (hG : Ck.Good len cuts dens) {s : Rat × Rat} (h1 : Fit s.1) (h2 : Fit s.2) (h : s.1 < s.2) : I64 (wM cuts dens s).1∧I64 (wM cuts dens s).2.1:=by
 rcases wM_bd hG h1 h2 h with ⟨_,⟨o1,o2,o3,o4,_⟩,_⟩ | e
 ·unfold I64;omega
 ·rw [e];unfold I64;dsimp only;omega
end Pc
set_option linter.unusedVariables false in
set_option maxHeartbeats 2000000 in
theorem worth1_any (len : Int) (K : Option Addr) (cuts : List Int) (ck : Nat) (Z : Option Addr) (dens : List Int) (cz : Nat) (s : Rat × Rat) (p : Nat) (w0 w : World) (h : IsCake w0 len K cuts Z dens) (hw : Below w0.heap.size w0 w) (hc : Ck.chk len cuts dens = 0) (hs1 : Pc.Fit s.1) (hs2 : Pc.Fit s.2) (i1 : Pc.inC len s.1 = true) (i2 : Pc.inC len s.2 = true) (hlt : s.1 < s.2)
 (b0 : w.cell? ⟨p,0,none⟩ = some (.int .i64 len)) (b1 : w.cell? ⟨p,1,none⟩ = some (.slice K cuts.length ck)) (b2 : w.cell? ⟨p,2,none⟩ = some (.slice Z dens.length cz)) :
 Calls Tryz.prog 186 #[.agg #[.int .i64 s.1.num,.int .i64 (s.1.den : Int),.int .i64 s.2.num,.int .i64 (s.2.den : Int)],.pointer (some ⟨p,0,none⟩)] w fun e w' => e = .returned (.tuple #[.agg #[.int .i64 (Pc.wM cuts dens s).1,.int .i64 (Pc.wM cuts dens s).2.1],.int .i64 (Pc.wM cuts dens s).2.2])∧Below w.heap.size w w':=by
 have hv:=fun v (hv : Below w0.heap.size w0 v) => value_good len K cuts ck Z dens cz s.1.num (s.1.den : Int) s.2.num (s.2.den : Int) v (h.keep hv) hc i1 i2 (by rw [Rp.q_self,Rp.q_self];grind)
 have e : Ck.vgo cuts dens s.1.num (s.1.den : Int) s.2.num (s.2.den : Int) dens.length = Pc.wM cuts dens s:=rfl;rw [e] at hv;clear e
 generalize Pc.wM cuts dens s = R at *
 obtain ⟨R1,R2,R3⟩:=R;dsimp only at hv ⊢;have HV:=Lib.hid hv;have hp:=lt_of_cell b0;clear hv h hc hs1 hs2 i1 i2 hlt
 go_enter Tryz.func186,Tryz.ntmps186
 go_upto_region 1 with fail
 refine at_worldQ (fun v => Below w.heap.size w v∧BK v w.heap.size [.int .i64 s.1.num,.int .i64 (s.1.den : Int),.int .i64 s.2.num,.int .i64 (s.2.den : Int)]∧BK v (w.heap.size + 1) [.int .i64 0,.int .i64 0]∧v.cell? ⟨p,0,none⟩ = some (.int .i64 len)∧v.cell? ⟨p,1,none⟩ = some (.slice K cuts.length ck)∧v.cell? ⟨p,2,none⟩ = some (.slice Z dens.length cz)) ⟨below_al (below_al (Below.refl _ _) _) _,(BK.new w [.int .i64 s.1.num,.int .i64 (s.1.den : Int),.int .i64 s.2.num,.int .i64 (s.2.den : Int)] _).al _,by have b:=BK.new (w.alloc (.cells #[.int .i64 s.1.num,.int .i64 (s.1.den : Int),.int .i64 s.2.num,.int .i64 (s.2.den : Int)] 70)) [.int .i64 0,.int .i64 0] 31;simpa only [World.size_alloc] using b,cell_alloc (cell_alloc b0 _) _,cell_alloc (cell_alloc b1 _) _,cell_alloc (cell_alloc b2 _) _⟩ (fun V hS => ?_);clear b0 b1 b2;obtain ⟨hbb,B1,B2,b0,b1,b2⟩:=hS;have p0:=B1.c 0 rfl;have p1:=B1.c 1 rfl;have p2:=B1.c 2 rfl;have p3:=B1.c 3 rfl;(go_wp2_with fail);refine (HV.out _ (keepB hw hbb)).mono ?_;rintro e w1 ⟨rfl,hb1⟩;replace hbb:=keepB hbb hb1;replace B2:=B2.keep hb1;clear hb1 B1 p0 p1 p2 p3 b0 b1 b2;have r0:=B2.c 0 rfl;have r1:=B2.c 1 rfl;have f0:=B2.f 0 rfl;have f1:=B2.f 1 rfl;(go_wp2_with fail);exact bodyPost_ret (v:=.tuple #[.agg #[.int .i64 R1,.int .i64 R2],.int .i64 R3]) (by simp [results,Tryz.results186,go_sem,r0,r1]) rfl ⟨rfl,below_set (below_set hbb (by omega) _) (by omega) _⟩
theorem worth_good (len : Int) (K : Option Addr) (cuts : List Int) (ck : Nat) (Z : Option Addr) (dens : List Int) (cz : Nat) (A : Option Addr) (cap : Nat) (L : List (Rat × Rat)) (w : World) (h : IsCake w len K cuts Z dens) (hc : Ck.chk len cuts dens = 0) (gL : Pc.Good L) (hin : ∀ r ∈ Pc.ends L,Pc.inC len r = true) (hl : IsS w A (L.map Pc.raw)) :
 Calls Tryz.prog 149 #[.agg #[.int .i64 len,.slice K cuts.length ck,.slice Z dens.length cz],.slice A L.length cap] w fun e w' => e = .returned (.tuple #[.agg #[.int .i64 (Pc.sumF (Pc.wM cuts dens) L 0 1).1,.int .i64 (Pc.sumF (Pc.wM cuts dens) L 0 1).2.1],.int .i64 (Pc.sumF (Pc.wM cuts dens) L 0 1).2.2])∧Below w.heap.size w w':=by
 have hG:=Ck.chk_good hc
 have cc:=fun v (hv : Below w.heap.size w v) => ckCheck_any len K cuts ck Z dens cz v (h.keep hv)
 have pc:=fun v (hv : Below w.heap.size w v) => pChk_any A cap (L.map Pc.raw) v (hl.keep hv)
 rw [hc] at cc;rw [Pc.chk_of_good gL] at pc;rw [List.length_map] at pc
 have hsp : ∀ k,k < L.length → Pc.Fit (Pc.sat L k).1∧Pc.Fit (Pc.sat L k).2∧Pc.inC len (Pc.sat L k).1 = true∧Pc.inC len (Pc.sat L k).2 = true:=fun k hk => ⟨gL.fit _ (Pc.mem_ends1 hk).1,gL.fit _ (Pc.mem_ends1 hk).2,hin _ (Pc.mem_ends1 hk).1,hin _ (Pc.mem_ends1 hk).2⟩
 have su:=fun cv p v (hv : Below w.heap.size w v) (e : cv = .pointer (some ⟨p,0,none⟩)) (hb : BK v p [.int .i64 len,.slice K cuts.length ck,.slice Z dens.length cz]) => sum1_any 186 cv (Pc.wM cuts dens) A cap L v (by have:=gL.len;omega) (hl.keep hv) (fun s hs v' hv' => by
  obtain ⟨k,hk,rfl⟩:=List.mem_iff_getElem.1 hs;have hm:=hsp k hk;rw [Pc.sat_lt hk] at hm;subst e;have hb':=hb.keep hv'
  exact worth1_any len K cuts ck Z dens cz _ p w v' h (keepB hv hv') hc hm.1 hm.2.1 hm.2.2.1 hm.2.2.2 (Pc.spans_of_good gL _ (List.getElem_mem hk)) (hb'.c 0 rfl) (hb'.c 1 rfl) (hb'.c 2 rfl)) (fun x v => by go_simp) (fun s hs => by
  obtain ⟨k,hk,rfl⟩:=List.mem_iff_getElem.1 hs;have hm:=hsp k hk;rw [Pc.sat_lt hk] at hm
  exact Pc.wM_64 hG hm.1 hm.2.1 (Pc.spans_of_good gL _ (List.getElem_mem hk)))
 obtain ⟨bq,oq,hA,hcq⟩:=hl.cell;have HC:=Lib.hid hcq;have HA:=Lib.hid hA;have HSP:=Lib.hid hsp;have hL60 : L.length ≤ 60:=gL.len;have hl0:=hG.len0;have hl1:=hG.len1
 generalize Pc.sumF (Pc.wM cuts dens) L 0 1 = R at *
 obtain ⟨R1,R2,R3⟩:=R;dsimp only at su ⊢;have CC:=Lib.hid cc;have PC:=Lib.hid pc;have SU:=Lib.hid su;clear cc pc su hcq hA hsp h hc gL hin hl hG
 go_enter Tryz.func149,Tryz.ntmps149
 go_upto_region 1 with fail
 refine at_worldQ (fun v => Below w.heap.size w v∧BK v w.heap.size [.int .i64 len,.slice K cuts.length ck,.slice Z dens.length cz]∧BK v (w.heap.size + 1) [.int .i64 0,.int .i64 0]) ⟨below_al (below_al (Below.refl _ _) _) _,(BK.new w [.int .i64 len,.slice K cuts.length ck,.slice Z dens.length cz] _).al _,by have b:=BK.new (w.alloc (.cells #[.int .i64 len,.slice K cuts.length ck,.slice Z dens.length cz] 24)) [.int .i64 0,.int .i64 0] 31;simpa only [World.size_alloc] using b⟩ (fun V hS => ?_);obtain ⟨hbb,B2,B4⟩:=hS;have c0:=B2.c 0 rfl;have c1:=B2.c 1 rfl;have c2:=B2.c 2 rfl;(go_wp2_with fail);refine (CC.out _ hbb).mono ?_;rintro e w1 ⟨rfl,hb1⟩;replace hbb:=keepB hbb hb1;replace B2:=B2.keep hb1;replace B4:=B4.keep hb1;clear hb1 c0 c1 c2;(go_wp2_with fail);refine (PC.out _ hbb).mono ?_;rintro e w2 ⟨rfl,hb1⟩;replace hbb:=keepB hbb hb1;replace B2:=B2.keep hb1;replace B4:=B4.keep hb1;clear hb1;have c0:=B2.c 0 rfl
 go_upto_region 8 with fail
 refine at_worldQ (fun v => Below w.heap.size w v∧BK v w.heap.size [.int .i64 len,.slice K cuts.length ck,.slice Z dens.length cz]∧BK v (w.heap.size + 1) [.int .i64 0,.int .i64 0]∧BK v w2.heap.size [.int .i64 len,.int .i64 1]) ⟨below_al hbb _,B2.al _,B4.al _,BK.new w2 [.int .i64 len,.int .i64 1] _⟩ (fun V8 hS => ?_);clear hbb B2 B4 c0;have hS8:=hS;clear hS
 generalize w2.heap.size = P8 at *
 go_wp2_with fail
 go_loopw [10,28] (fun _ t v => ∃ k : Nat,k ≤ L.length∧t = .int .i64 k∧Below w.heap.size w v∧BK v w.heap.size [.int .i64 len,.slice K cuts.length ck,.slice Z dens.length cz]∧BK v (w.heap.size + 1) [.int .i64 0,.int .i64 0]∧BK v P8 [.int .i64 len,.int .i64 1]) (fun _ t _ => L.length - (intOf t).toNat)
 case atStart => exact ⟨0,Nat.zero_le _,rfl,hS8⟩
 case round =>
  clear hS8;obtain ⟨k,hk,rfl,hbb,B2,B4,B8⟩:=hrel
  by_cases hlt : k < L.length
  ·have hA':=HA.out (by omega)
   subst hA';obtain ⟨s,hs⟩ : ∃ s,Pc.sat L k = s:=⟨_,rfl⟩;have c0:=keepC hbb (HC.out k hlt).1;have c1:=keepC hbb (HC.out k hlt).2.1;have c2:=keepC hbb (HC.out k hlt).2.2.1;have c3:=keepC hbb (HC.out k hlt).2.2.2;have hf:=HSP.out k hlt;rw [hs] at c0 c1 c2 c3 hf;have hpt:=of_decide_eq_true hf.2.2.2;have hpf:=of_decide_eq_true hf.2.2.1
   have ql : Pc.lessB len 1 s.2.num (s.2.den : Int) = false:=by
    refine decide_eq_false fun hh => ?_
    have:=(Rp.q_lt hh.1 hh.2.1).1 hh.2.2;have:=hpt.2.2
    omega
   have bd:=Pc.fit_bd hf.2.1
   have ls:=fun v => pless_any len 1 s.2.num (s.2.den : Int) v ⟨by omega,by omega⟩ ⟨by decide,by decide⟩ ⟨by omega,by omega⟩ ⟨by omega,by omega⟩
   rw [ql] at ls;have LS:=Lib.hid ls;have g1 : decide (s.1.num < 0) = false:=decide_eq_false (by have:=hpf.2.1;omega)
   have i1 : (0 : Int) ≤ (k : Int):=by omega
   have i2 : (k : Int) < (L.length : Int):=by omega
   clear ls ql hpt hpf hf hs bd
   go_upto_region 11 with fail
   refine at_worldQ (fun v => Below w.heap.size w v∧BK v w.heap.size [.int .i64 len,.slice K cuts.length ck,.slice Z dens.length cz]∧BK v (w.heap.size + 1) [.int .i64 0,.int .i64 0]∧BK v P8 [.int .i64 len,.int .i64 1]∧BK v wr.heap.size [.int .i64 s.1.num,.int .i64 (s.1.den : Int),.int .i64 s.2.num,.int .i64 (s.2.den : Int)]) ⟨below_al hbb _,B2.al _,B4.al _,B8.al _,BK.new wr [.int .i64 s.1.num,.int .i64 (s.1.den : Int),.int .i64 s.2.num,.int .i64 (s.2.den : Int)] _⟩ (fun V11 hS => ?_);clear hbb B2 B4 B8 c0 c1 c2 c3;obtain ⟨hbb,B2,B4,B8,BS⟩:=hS;have p0:=BS.c 0 rfl;have p1:=BS.c 1 rfl;have p2:=BS.c 2 rfl;have p3:=BS.c 3 rfl;have e0:=B8.c 0 rfl;have e1:=B8.c 1 rfl
   generalize wr.heap.size = PS at *
   (go_wp2_with fail);refine (LS.out _).mono ?_;rintro e w3 ⟨rfl,hb1⟩;replace hbb:=keepB hbb hb1;replace B2:=B2.keep hb1;replace B4:=B4.keep hb1;replace B8:=B8.keep hb1;clear hb1 BS p0 p1 p2 p3 e0 e1;(go_wp2_with fail)
   go_roundw
   case rel => exact ⟨k + 1,by omega,by go_num,hbb,B2,B4,B8⟩
   case measure => (simp [intOf] <;> omega)
  ·obtain rfl : k = L.length:=by omega
   clear HA HC HSP B8;(go_wp2_with fail);refine (SU.out _ _ _ hbb rfl B2).mono ?_;rintro e w4 ⟨rfl,hb1⟩;replace hbb:=keepB hbb hb1;replace B4:=B4.keep hb1;clear hb1 B2;have r0:=B4.c 0 rfl;have r1:=B4.c 1 rfl;have f0:=B4.f 0 rfl;have f1:=B4.f 1 rfl;(go_wp2_with fail);exact bodyPost_ret (v:=.tuple #[.agg #[.int .i64 R1,.int .i64 R2],.int .i64 R3]) (by simp [results,Tryz.results149,go_sem,r0,r1]) rfl ⟨rfl,below_set (below_set hbb (by omega) _) (by omega) _⟩
end Go.Proofs.YtogmfebphiglaaaGreat
namespace Go.Proofs.YtogmfebphiglaaaGreat
open Go.RowKit
theorem cmpQ_le {x y : Rat} (h : x ≤ y) : Rp.cmpQ x y ≤ 0:=by
 have hn:=Rp.cmpQ_neg x y
 unfold Rp.cmpQ at hn ⊢
 by_cases h1 : x < y
 ·rw [if_pos h1];decide
 ·rw [if_neg h1]
  have : x = y:=by grind
  subst this
  simp
theorem pfinside_any (A : Option Addr) (ca : Nat) (L : List (Rat × Rat)) (len : Int) (w : World) (h : IsS w A (L.map Pc.raw)) (gL : Pc.Good L) (hin : ∀ r ∈ Pc.ends L,Pc.inC len r = true) (l0 : 1 ≤ len) (l1 : len ≤ 1000) :
 Calls Tryz.prog 183 #[.slice A L.length ca,.int .i64 len] w fun e w' => e = .returned (.bool true)∧Below w.heap.size w w':=by
 obtain ⟨b,off,hA,hc⟩:=h.cell;have hl60:=gL.len
 by_cases h0 : L.length = 0
 ·rw [h0]
  clear hc hA h gL hin
  go_enter Tryz.func183,Tryz.ntmps183
  go_upto_region 1 with fail
  refine wp_region_noPanic ?_;refine wp_region_held_drew (S:=(Below w.heap.size w)) (by kernel_rfl) ((Below.refl _ _).drew) (fun hHeld => ?_);refine at_anyH (Below w.heap.size w) hHeld (fun wb0 hNew => ?_);clear hHeld;have hHeld:=hNew;clear hNew;refine tkd 0 ?_;refine tkd 1 ?_;(try simp only [PPz]);refine tkn 2 (.bool true) rfl ?_ hHeld ?_
  ·intro w hSw
   go_simp
   first | done | omega
  (try simp only [PPz]);refine tkd 3 ?_;(try simp only [PPz]);refine tkns 4 rfl hHeld ?_;(try simp only [PPz]);refine tkns 5 rfl hHeld ?_;(try simp only [PPz]);refine tkns 6 rfl hHeld ?_;(try simp only [PPz]);refine tkns 7 rfl hHeld ?_;(try simp only [PPz]);refine tkns 8 rfl hHeld ?_;(try simp only [PPz]);refine tkns 9 rfl hHeld ?_;(try simp only [PPz]);refine tkns 10 rfl hHeld ?_;(try simp only [PPz]);refine tkns 11 rfl hHeld ?_;(try simp only [PPz]);refine tkns 12 rfl hHeld ?_;(try simp only [PPz]);refine tkns 13 rfl hHeld ?_;(try simp only [PPz]);refine tkns 14 rfl hHeld ?_;(try simp only [PPz]);refine tkns 15 rfl hHeld ?_;(try simp only [PPz]);refine tkns 16 rfl hHeld ?_;(try simp only [PPz]);refine tkns 17 rfl hHeld ?_;(try simp only [PPz]);refine tkns 18 rfl hHeld ?_;(try simp only [PPz]);refine tkns 19 rfl hHeld ?_;(try simp only [PPz]);refine tkns 20 rfl hHeld ?_;(try simp only [PPz]);refine tkns 21 rfl hHeld ?_;(try simp only [PPz]);refine tkns 22 rfl hHeld ?_;(try simp only [PPz]);refine tkd 23 ?_;refine tkd 24 ?_;(try simp only [PPz]);refine wpAnyH_done (by kernel_rfl) ?_ _;refine NoPanic.normal ?_;(go_wp2_with fail)
  go_ret
  exact ⟨rfl,hHeld⟩
 ·obtain ⟨m,hm⟩ : ∃ m,L.length = m + 1:=⟨L.length - 1,by omega⟩
  obtain rfl:=hA (by omega);have e0:=Pc.mem_ends1 (l:=L) (k:=0) (by omega);have em:=Pc.mem_ends1 (l:=L) (k:=m) (by omega);have i0:=hin _ e0.1;have im:=hin _ em.2;have fm:=gL.fit _ em.2;obtain ⟨f0,-,-,-⟩:=hc 0 (by omega);obtain ⟨-,-,g0,g1⟩:=hc m (by omega);rw [show off + 0 * 4 = off by omega] at f0;have n0 : 0 ≤ (Pc.sat L 0).1.num:=(pt_spec i0).2.1;have hle:=(Ch.pt_q im l0 l1).2.2;rw [Rp.q_self] at hle;have ol : Rp.Ok len 1:=Rp.Ok_one (by omega) (by omega)
  have cm:=fun v => pfcompare_any (Pc.sat L m).2.num ((Pc.sat L m).2.den : Int) len 1 fm ol v
  rw [Rp.q_self,Rp.q_one] at cm;have hR:=cmpQ_le hle
  generalize Rp.cmpQ (Pc.sat L m).2 (len : Rat) = R at *
  generalize (Pc.sat L m).2.num = x at *
  generalize ((Pc.sat L m).2.den : Int) = y at *
  generalize (Pc.sat L 0).1.num = z at *
  have wh:=fun v => pfwhole_any len v
  have CM:=Lib.hid cm;have WHH:=Lib.hid wh;rw [hm] at hl60 ⊢
  have z1 : IntKind.i64.wrap ((m : Int) + 1 - 1) = (m : Int):=by
   rw [Int.add_sub_cancel];exact IntWalk.i64_in _ (by omega)
  have z2 : IntKind.i64.wrap (m : Int) = (m : Int):=IntWalk.i64_in _ (by omega)
  have j1 : (m : Int) < (m : Int) + 1:=by omega
  have j2 : (0 : Int) ≤ (m : Int):=by omega
  have j3 : (0 : Int) < (m : Int) + 1:=by omega
  clear cm wh hm hc hA h gL hin e0 em i0 im fm hle ol h0
  go_enter Tryz.func183,Tryz.ntmps183
  go_upto_region 1 with fail
  refine wp_region_noPanic ?_;refine wp_region_held_drew (S:=(Below w.heap.size w)) (by kernel_rfl) ((Below.refl _ _).drew) (fun hHeld => ?_);refine at_anyH (Below w.heap.size w) hHeld (fun wa0 hNew => ?_);clear hHeld;have hHeld:=hNew;clear hNew;refine tkd 0 ?_;refine tkd 1 ?_;(try simp only [PPz]);refine tkn 2 (.bool false) rfl ?_ hHeld ?_
  ·intro w hSw
   go_simp
   first | done | omega
  (try simp only [PPz]);refine tkd 3 ?_;refine tkd 4 ?_;refine tkd 5 ?_;refine tkd 6 ?_;refine tkd 7 ?_;(try simp only [PPz]);refine tkm 8 rfl hHeld (fun w hSw => by have kf0:=keepC hSw f0;have kg0:=keepC hSw g0;have kg1:=keepC hSw g1;go_simp <;> with_reducible rfl) ?_;(try simp only [PPz]);refine tkn 9 (.bool true) rfl ?_ hHeld ?_
  ·intro w hSw
   go_simp
   first | done | omega
  (try simp only [PPz]);refine tkd 10 ?_;refine tkd 11 ?_;refine tkd 12 ?_;refine tkd 13 ?_;refine tkd 14 ?_;refine tkd 15 ?_;refine tkd 16 ?_;(try simp only [PPz]);refine tkm 17 rfl hHeld (fun w hSw => by have kf0:=keepC hSw f0;have kg0:=keepC hSw g0;have kg1:=keepC hSw g1;go_simp <;> with_reducible rfl) ?_;(try simp only [PPz]);refine tkd 18 ?_;(try simp only [PPz]);refine rdy1 19 rfl (fun K hK => ?_);go_simp;refine (WHH.out _).mono ?_;rintro e wa20 ⟨rfl,hb3⟩;(go_wp2_with fail);refine hK.out _ _ (keepB hHeld hb3) (fun hNew => ?_);replace hHeld:=hNew;clear hNew hK K hb3;(try simp only [PPz]);refine rdy1 20 rfl (fun K hK => ?_);go_simp;refine (CM.out _).mono ?_;rintro e wa21 ⟨rfl,hb3⟩;(go_wp2_with fail);refine hK.out _ _ (keepB hHeld hb3) (fun hNew => ?_);replace hHeld:=hNew;clear hNew hK K hb3;(try simp only [PPz]);refine tkn 21 (.bool true) rfl ?_ hHeld ?_
  ·intro w hSw
   go_simp
   first | done | omega
  (try simp only [PPz]);refine tkd 22 ?_;refine tkd 23 ?_;refine tkd 24 ?_;(try simp only [PPz]);refine wpAnyH_done (by kernel_rfl) ?_ _;refine NoPanic.normal ?_;(go_wp2_with fail)
  go_ret
  exact ⟨rfl,hHeld⟩
/-- A valid division. -/
structure DvG (D : List CkD) (ps : List Pf.PcR) : Prop where
 ck : Ak.chkS D 0 = 0
 pl : ps.length = D.length
 go : ∀ k,k < ps.length → Pc.Good (Pf.pat ps k).L
 inn : ∀ k,k < ps.length → ∀ r ∈ Pc.ends (Pf.pat ps k).L,Pc.inC (Ak.dAt D 0).1 r = true
theorem pfcheck_any (A Pp : Option Addr) (ca cp : Nat) (cs : List CkR) (ps : List Pf.PcR) (w : World) (h : IsCs w A cs) (hp : IsPs w Pp ps) (g : DvG (cs.map Ak.dat) ps) :
 Calls Tryz.prog 148 #[.slice A cs.length ca,.agg #[.slice Pp ps.length cp]] w fun e w' => e = .returned (.int .i64 0)∧Below w.heap.size w w':=by
 have hgd:=Ak.chkS_good g.ck;have hl0:=hgd.l0;have hl6:=hgd.l1;rw [List.length_map] at hl0 hl6
 have ck:=fun v (hv : Below w.heap.size w v) => askCheck_any A ca cs none 0 0 v (by simp) (h.keep hv)
 rw [g.ck] at ck;have hpl:=g.pl;rw [List.length_map] at hpl;have hck:=(Pf.ck_at g.ck (j:=0) (by rw [List.length_map];exact hl0)).1;have hG:=Ck.chk_good (show Ck.chk (Ak.dAt (cs.map Ak.dat) 0).1 (Ak.dAt (cs.map Ak.dat) 0).2.1 (Ak.dAt (cs.map Ak.dat) 0).2.2 = 0 from hck);have gl0:=hG.len0;have gl1:=hG.len1
 have pc:=fun k (hk : k < ps.length) v (hv : Below w.heap.size w v) => pChk_any (Pf.pat ps k).A (Pf.pat ps k).cap ((Pf.pat ps k).L.map Pc.raw) v ((hp.all k hk).keep hv)
 have pi:=fun k (hk : k < ps.length) v (hv : Below w.heap.size w v) => pfinside_any (Pf.pat ps k).A (Pf.pat ps k).cap (Pf.pat ps k).L (Ak.dAt (cs.map Ak.dat) 0).1 v ((hp.all k hk).keep hv) (g.go k hk) (g.inn k hk) gl0 gl1
 have pz : ∀ k,k < ps.length → Pc.chk ((Pf.pat ps k).L.map Pc.raw) = 0:=fun k hk => Pc.chk_of_good (g.go k hk)
 have hlen : (Ak.cat cs 0).len = (Ak.dAt (cs.map Ak.dat) 0).1:=by
  rw [Ak.dAt_map cs hl0]
  rfl
 obtain ⟨bb,oo,hA,hcl⟩:=h.at_;obtain rfl:=hA hl0;have c0:=(hcl 0 hl0).1;rw [hlen,show oo + 0 * 3 = oo by omega] at c0;obtain ⟨⟨pb,po,hP,hpc⟩,-⟩:=hp;obtain rfl:=hP (by omega)
 generalize (Ak.dAt (cs.map Ak.dat) 0).1 = len at *
 have HPC:=Lib.hid hpc;have PCC:=Lib.hid pc;have PI:=Lib.hid pi;have PZ:=Lib.hid pz;rw [hpl] at HPC PCC PI PZ ⊢;obtain ⟨n,hn⟩ : ∃ z,cs.length = z:=⟨_,rfl⟩;rw [hn] at ck HPC PCC PI PZ hl0 hl6 ⊢;have CKK:=Lib.hid ck;clear ck pc pi pz hpc hcl hn hpl hck hG hgd g h hlen hA hP
 go_enter Tryz.func148,Tryz.ntmps148
 go_upto_region 1 with fail
 refine at_box1 (fun V hbb B0 hVs => ?_);(go_wp2_with fail);refine (CKK.out _ hbb).mono ?_;rintro e w1 ⟨rfl,hb⟩;replace hbb:=keepB hbb hb;replace B0:=B0.keep hb;clear hb hVs CKK;have p0:=B0.c 0 rfl
 have e0 : ((n : Int) != (n : Int)) = false:=by simp
 go_wp2_with fail
 go_loopw [26] (fun i v => ∃ k : Nat,k ≤ n∧i = .int .i64 (k : Nat)∧Below w.heap.size w v∧BK v w.heap.size [.slice (some ⟨pb,po,none⟩) n cp]) (fun i _ => n - (intOf i).toNat)
 case atStart => exact ⟨0,Nat.zero_le _,rfl,hbb,B0⟩
 case round =>
  clear hbb B0 p0;obtain ⟨k,hk,rfl,hbb,B0⟩:=hrel
  by_cases hlt : k < n
  ·have i1 : (k : Int) < (n : Int):=by omega
   have i0 : (0 : Int) ≤ (k : Int):=by omega
   have q0:=keepC hbb (HPC.out k hlt);have pc:=PCC.out k hlt;rw [List.length_map,PZ.out k hlt] at pc;have PC1:=Lib.hid pc;clear pc;(go_wp2_with fail);refine (PC1.out _ hbb).mono ?_;rintro e w3 ⟨rfl,hb⟩;replace hbb:=keepB hbb hb;replace B0:=B0.keep hb;clear hb q0 PC1;(go_wp2_with fail)
   go_roundw
   case rel => exact ⟨k + 1,by omega,by go_num,hbb,B0⟩
   case measure => (simp [intOf] <;> omega)
  ·obtain rfl : k = n:=by omega
   have i1 : ¬ (k : Int) < (k : Int):=by omega
   have p0:=B0.c 0 rfl;(go_wp2_with fail)
   go_loopw [39] (fun i v => ∃ j : Nat,j ≤ k∧i = .int .i64 (j : Nat)∧Below w.heap.size w v∧BK v w.heap.size [.slice (some ⟨pb,po,none⟩) k cp]) (fun i _ => k - (intOf i).toNat)
   case atStart => exact ⟨0,Nat.zero_le _,rfl,hbb,B0⟩
   case round =>
    clear hbb B0 p0;obtain ⟨j,hj,rfl,hbb,B0⟩:=hrel
    by_cases hlj : j < k
    ·have i2 : (j : Int) < (k : Int):=by omega
     have i3 : (0 : Int) ≤ (j : Int):=by omega
     have i4 : (0 : Int) < (k : Int):=by omega
     have q0:=keepC hbb (HPC.out j hlj);have lc:=keepC hbb c0;have PI1:=Lib.hid (PI.out j hlj);(go_wp2_with fail);refine (PI1.out _ hbb).mono ?_;rintro e w3 ⟨rfl,hb⟩;replace hbb:=keepB hbb hb;replace B0:=B0.keep hb;clear hb q0 lc PI1;(go_wp2_with fail)
     go_roundw
     case rel => exact ⟨j + 1,by omega,by go_num,hbb,B0⟩
     case measure => (simp [intOf] <;> omega)
    ·obtain rfl : j = k:=by omega
     go_wp2_with fail
     go_ret
     exact ⟨rfl,hbb⟩
end Go.Proofs.YtogmfebphiglaaaGreat


