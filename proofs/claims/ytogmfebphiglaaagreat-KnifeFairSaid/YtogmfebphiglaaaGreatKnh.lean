/- Package knife: the second example's cakes. -/
import Derived.Test.YtogmfebphiglaaaGreatKnv
import Derived.Test.YtogmfebphiglaaaGreatKnr
namespace Go.Proofs.YtogmfebphiglaaaGreat
open Go.RowKit
namespace Kn
theorem n_ca : Ak.ckD (4,[0,4],[1]) = 0:=by decide +kernel
theorem n_ab : Ak.chkS [(4,[0,4],[1]),(4,[0,1,4],[3,1])] 0 = 0:=by decide +kernel
theorem n_ha : Ch.sh 2 (4,[0,4],[1]) = (2,1,0):=by decide +kernel
theorem n_hb : Ch.sh 2 (4,[0,1,4],[3,1]) = (3,1,0):=by decide +kernel
theorem n_k0 : Ak.kS (4,[0,4],[1]) 0 1 2 1 = (2,1,0):=by decide +kernel
theorem n_v0 : Ak.vS (4,[0,1,4],[3,1]) 0 1 2 1 = (4,1,0):=by decide +kernel
theorem n_s0 : Rp.subS 4 1 3 1 = (1,1,0):=by decide +kernel
theorem n_k1 : Ak.kS (4,[0,4],[1]) 1 1 2 1 = (3,1,0):=by decide +kernel
theorem n_v1 : Ak.vS (4,[0,1,4],[3,1]) 1 1 3 1 = (2,1,0):=by decide +kernel
theorem n_s1 : Rp.subS 2 1 3 1 = (-1,1,0):=by decide +kernel
theorem n_k2 : Ak.kS (4,[0,4],[1]) 2 1 2 1 = (4,1,0):=by decide +kernel
theorem n_v2 : Ak.vS (4,[0,1,4],[3,1]) 2 1 4 1 = (2,1,0):=by decide +kernel
theorem n_s2 : Rp.subS 2 1 3 1 = (-1,1,0):=by decide +kernel
theorem n_kh : Ak.kS (4,[0,4],[1]) 1 2 2 1 = (5,2,0):=by decide +kernel
theorem n_pv0 : Ak.vS (4,[0,4],[1]) 0 1 0 1 = (0,1,0):=by decide +kernel
theorem n_ps0 : Rp.subS 0 1 2 1 = (-2,1,0):=by decide +kernel
theorem n_pv4 : Ak.vS (4,[0,4],[1]) 0 1 4 1 = (4,1,0):=by decide +kernel
theorem n_ps4 : Rp.subS 4 1 2 1 = (2,1,0):=by decide +kernel
theorem n_pv1 : Ak.vS (4,[0,4],[1]) 0 1 1 1 = (1,1,0):=by decide +kernel
theorem n_ps1 : Rp.subS 1 1 2 1 = (-1,1,0):=by decide +kernel
theorem n_c1 : Rp.subS 1 1 0 1 = (1,1,0):=by decide +kernel
theorem n_c2 : Rp.subS 1 1 (-1) 1 = (2,1,0):=by decide +kernel
theorem n_c3 : Rp.divS 1 1 2 1 = (1,2,0):=by decide +kernel
theorem n_c4 : Rp.mulS 1 1 1 2 = (1,2,0):=by decide +kernel
theorem n_c5 : Rp.addS 0 1 1 2 = (1,2,0):=by decide +kernel
def tL : List (Rat × Rat):=[(0,1),(2,-1),(0,1),(1,-1),(2,-1)]
def tM : List (Rat × Rat):=[(0,1),(0,1),(1,-1),(2,-1),(2,-1)]
theorem srt_uniq : ∀ (T M : List (Rat × Rat)),Pf.Srt T → Pf.Srt M → M.Perm T → (∀ a ∈ T,∀ b ∈ T,a.1 = b.1 → a = b) → M = T
 | [],M,_,_,h,_ => h.eq_nil
 | t :: T,[],_,_,h,_ => by simpa using h.length_eq
 | t :: T,m :: M,hT,hM,h,hu => by
  unfold Pf.Srt at hT hM
  rw [List.pairwise_cons] at hT hM;have hm : m ∈ t :: T:=h.mem_iff.1 (List.mem_cons_self ..);have ht : t ∈ m :: M:=h.mem_iff.2 (List.mem_cons_self ..)
  have e1 : t.1 ≤ m.1:=by
   rcases List.mem_cons.1 hm with e | e
   ·rw [e];exact Rat.le_refl
   ·exact hT.1 m e
  have e2 : m.1 ≤ t.1:=by
   rcases List.mem_cons.1 ht with e | e
   ·rw [e];exact Rat.le_refl
   ·exact hM.1 t e
  have e : m = t:=hu m hm t (List.mem_cons_self ..) (Rat.le_antisymm e2 e1);subst e;rw [srt_uniq T M hT.2 hM.2 ((List.perm_cons _).1 h) (fun a ha b hb => hu a (List.mem_cons_of_mem _ ha) b (List.mem_cons_of_mem _ hb))]
theorem tM_perm : tM.Perm tL:=by decide +kernel
theorem tM_srt : Pf.Srt tM:=by unfold Pf.Srt tM;decide +kernel
theorem tM_eq {M : List (Rat × Rat)} (h : M.Perm tL) (hs : Pf.Srt M) : M = tM:=srt_uniq tM M tM_srt hs (h.trans tM_perm.symm) (by unfold tM;decide +kernel)
theorem tM_cells : Pc.cells4 tM = [.int .i64 0,.int .i64 1,.int .i64 1,.int .i64 1] ++ [.int .i64 0,.int .i64 1,.int .i64 1,.int .i64 1] ++ [.int .i64 1,.int .i64 1,.int .i64 (-1),.int .i64 1] ++ [.int .i64 2,.int .i64 1,.int .i64 (-1),.int .i64 1,.int .i64 2,.int .i64 1,.int .i64 (-1),.int .i64 1]:=by rfl
theorem tL_fit : ∀ s ∈ tL,Pc.Fit s.1:=by unfold tL Pc.Fit;decide +kernel
end Kn
theorem kngap_t0 (K : Option Addr) (ck : Nat) (Z : Option Addr) (cz : Nat) (K2 : Option Addr) (ck2 : Nat) (Z2 : Option Addr) (cz2 : Nat) (w : World) (hc : IsC w ⟨4,K,[0,4],ck,Z,[1],cz⟩) (hd : IsC w ⟨4,K2,[0,1,4],ck2,Z2,[3,1],cz2⟩) : Calls Tryz.prog 36 #[.agg #[.int .i64 4,.slice K 2 ck,.slice Z 1 cz],.agg #[.int .i64 4,.slice K2 3 ck2,.slice Z2 2 cz2],.agg #[.int .i64 0,.int .i64 1]] w fun e w' => e = .returned (.tuple #[.agg #[.int .i64 1,.int .i64 1],.int .i64 0])∧Below w.heap.size w w' :=
 kngap_any ⟨4,K,[0,4],ck,Z,[1],cz⟩ ⟨4,K2,[0,1,4],ck2,Z2,[3,1],cz2⟩ 0 1 2 1 4 1 1 1 w hc hd Kn.n_ab ⟨by decide,by decide⟩ ⟨by decide,by decide⟩ ⟨by decide,by decide⟩ ⟨by decide,by decide⟩ ⟨by decide,by decide⟩ ⟨by decide,by decide⟩ (by rw [show Ch.sh 2 (Ak.dat ⟨4,K,[0,4],ck,Z,[1],cz⟩) = _ from Kn.n_ha];exact Kn.n_k0) Kn.n_v0 (by rw [show Ch.sh 2 (Ak.dat ⟨4,K2,[0,1,4],ck2,Z2,[3,1],cz2⟩) = _ from Kn.n_hb];exact Kn.n_s0)
theorem kngap_t1 (K : Option Addr) (ck : Nat) (Z : Option Addr) (cz : Nat) (K2 : Option Addr) (ck2 : Nat) (Z2 : Option Addr) (cz2 : Nat) (w : World) (hc : IsC w ⟨4,K,[0,4],ck,Z,[1],cz⟩) (hd : IsC w ⟨4,K2,[0,1,4],ck2,Z2,[3,1],cz2⟩) : Calls Tryz.prog 36 #[.agg #[.int .i64 4,.slice K 2 ck,.slice Z 1 cz],.agg #[.int .i64 4,.slice K2 3 ck2,.slice Z2 2 cz2],.agg #[.int .i64 1,.int .i64 1]] w fun e w' => e = .returned (.tuple #[.agg #[.int .i64 (-1),.int .i64 1],.int .i64 0])∧Below w.heap.size w w' :=
 kngap_any ⟨4,K,[0,4],ck,Z,[1],cz⟩ ⟨4,K2,[0,1,4],ck2,Z2,[3,1],cz2⟩ 1 1 3 1 2 1 (-1) 1 w hc hd Kn.n_ab ⟨by decide,by decide⟩ ⟨by decide,by decide⟩ ⟨by decide,by decide⟩ ⟨by decide,by decide⟩ ⟨by decide,by decide⟩ ⟨by decide,by decide⟩ (by rw [show Ch.sh 2 (Ak.dat ⟨4,K,[0,4],ck,Z,[1],cz⟩) = _ from Kn.n_ha];exact Kn.n_k1) Kn.n_v1 (by rw [show Ch.sh 2 (Ak.dat ⟨4,K2,[0,1,4],ck2,Z2,[3,1],cz2⟩) = _ from Kn.n_hb];exact Kn.n_s1)
theorem kngap_t2 (K : Option Addr) (ck : Nat) (Z : Option Addr) (cz : Nat) (K2 : Option Addr) (ck2 : Nat) (Z2 : Option Addr) (cz2 : Nat) (w : World) (hc : IsC w ⟨4,K,[0,4],ck,Z,[1],cz⟩) (hd : IsC w ⟨4,K2,[0,1,4],ck2,Z2,[3,1],cz2⟩) : Calls Tryz.prog 36 #[.agg #[.int .i64 4,.slice K 2 ck,.slice Z 1 cz],.agg #[.int .i64 4,.slice K2 3 ck2,.slice Z2 2 cz2],.agg #[.int .i64 2,.int .i64 1]] w fun e w' => e = .returned (.tuple #[.agg #[.int .i64 (-1),.int .i64 1],.int .i64 0])∧Below w.heap.size w w' :=
 kngap_any ⟨4,K,[0,4],ck,Z,[1],cz⟩ ⟨4,K2,[0,1,4],ck2,Z2,[3,1],cz2⟩ 2 1 4 1 2 1 (-1) 1 w hc hd Kn.n_ab ⟨by decide,by decide⟩ ⟨by decide,by decide⟩ ⟨by decide,by decide⟩ ⟨by decide,by decide⟩ ⟨by decide,by decide⟩ ⟨by decide,by decide⟩ (by rw [show Ch.sh 2 (Ak.dat ⟨4,K,[0,4],ck,Z,[1],cz⟩) = _ from Kn.n_ha];exact Kn.n_k2) Kn.n_v2 (by rw [show Ch.sh 2 (Ak.dat ⟨4,K2,[0,1,4],ck2,Z2,[3,1],cz2⟩) = _ from Kn.n_hb];exact Kn.n_s2)
theorem knother_t0 (K : Option Addr) (ck : Nat) (Z : Option Addr) (cz : Nat) (w : World) (hc : IsC w ⟨4,K,[0,4],ck,Z,[1],cz⟩) : Calls Tryz.prog 34 #[.agg #[.int .i64 4,.slice K 2 ck,.slice Z 1 cz],.agg #[.int .i64 0,.int .i64 1]] w fun e w' => e = .returned (.tuple #[.agg #[.int .i64 2,.int .i64 1],.int .i64 0])∧Below w.heap.size w w' :=
 knother_any ⟨4,K,[0,4],ck,Z,[1],cz⟩ 0 1 2 1 0 w hc Kn.n_ca ⟨by decide,by decide⟩ ⟨by decide,by decide⟩ (by rw [show Ch.sh 2 (Ak.dat ⟨4,K,[0,4],ck,Z,[1],cz⟩) = _ from Kn.n_ha];exact Kn.n_k0)
theorem knother_th (K : Option Addr) (ck : Nat) (Z : Option Addr) (cz : Nat) (w : World) (hc : IsC w ⟨4,K,[0,4],ck,Z,[1],cz⟩) : Calls Tryz.prog 34 #[.agg #[.int .i64 4,.slice K 2 ck,.slice Z 1 cz],.agg #[.int .i64 1,.int .i64 2]] w fun e w' => e = .returned (.tuple #[.agg #[.int .i64 5,.int .i64 2],.int .i64 0])∧Below w.heap.size w w' :=
 knother_any ⟨4,K,[0,4],ck,Z,[1],cz⟩ 1 2 5 2 0 w hc Kn.n_ca ⟨by decide,by decide⟩ ⟨by decide,by decide⟩ (by rw [show Ch.sh 2 (Ak.dat ⟨4,K,[0,4],ck,Z,[1],cz⟩) = _ from Kn.n_ha];exact Kn.n_kh)
theorem knpaused_t0 (K : Option Addr) (ck : Nat) (Z : Option Addr) (cz : Nat) (w : World) (hc : IsC w ⟨4,K,[0,4],ck,Z,[1],cz⟩) : Calls Tryz.prog 118 #[.agg #[.int .i64 4,.slice K 2 ck,.slice Z 1 cz],.agg #[.int .i64 0,.int .i64 1]] w fun e w' => e = .returned (.agg #[.int .i64 0,.int .i64 1])∧Below w.heap.size w w' :=
 knpaused_lo ⟨4,K,[0,4],ck,Z,[1],cz⟩ 0 1 0 1 (-2) 1 w hc Kn.n_ca ⟨by decide,by decide⟩ ⟨by decide,by decide⟩ ⟨by decide,by decide⟩ ⟨by decide,by decide⟩ Kn.n_pv0 (by rw [show Ch.sh 2 (Ak.dat ⟨4,K,[0,4],ck,Z,[1],cz⟩) = _ from Kn.n_ha];exact Kn.n_ps0) (by decide)
theorem knpaused_t4 (K : Option Addr) (ck : Nat) (Z : Option Addr) (cz : Nat) (w : World) (hc : IsC w ⟨4,K,[0,4],ck,Z,[1],cz⟩) : Calls Tryz.prog 118 #[.agg #[.int .i64 4,.slice K 2 ck,.slice Z 1 cz],.agg #[.int .i64 4,.int .i64 1]] w fun e w' => e = .returned (.agg #[.int .i64 2,.int .i64 1])∧Below w.heap.size w w' :=
 knpaused_hi ⟨4,K,[0,4],ck,Z,[1],cz⟩ 4 1 4 1 2 1 2 1 w hc Kn.n_ca ⟨by decide,by decide⟩ ⟨by decide,by decide⟩ ⟨by decide,by decide⟩ ⟨by decide,by decide⟩ ⟨by decide,by decide⟩ ⟨by decide,by decide⟩ Kn.n_pv4 (by rw [show Ch.sh 2 (Ak.dat ⟨4,K,[0,4],ck,Z,[1],cz⟩) = _ from Kn.n_ha];exact Kn.n_ps4) (by decide) Kn.n_k0
theorem knpaused_t1 (K : Option Addr) (ck : Nat) (Z : Option Addr) (cz : Nat) (w : World) (hc : IsC w ⟨4,K,[0,4],ck,Z,[1],cz⟩) : Calls Tryz.prog 118 #[.agg #[.int .i64 4,.slice K 2 ck,.slice Z 1 cz],.agg #[.int .i64 1,.int .i64 1]] w fun e w' => e = .returned (.agg #[.int .i64 1,.int .i64 1])∧Below w.heap.size w w' :=
 knpaused_lo ⟨4,K,[0,4],ck,Z,[1],cz⟩ 1 1 1 1 (-1) 1 w hc Kn.n_ca ⟨by decide,by decide⟩ ⟨by decide,by decide⟩ ⟨by decide,by decide⟩ ⟨by decide,by decide⟩ Kn.n_pv1 (by rw [show Ch.sh 2 (Ak.dat ⟨4,K,[0,4],ck,Z,[1],cz⟩) = _ from Kn.n_ha];exact Kn.n_ps1) (by decide)
theorem knreadings_two (K : Option Addr) (ck : Nat) (Z : Option Addr) (cz : Nat) (K2 : Option Addr) (ck2 : Nat) (Z2 : Option Addr) (cz2 : Nat) (w : World) (hc : IsC w ⟨4,K,[0,4],ck,Z,[1],cz⟩) (hd : IsC w ⟨4,K2,[0,1,4],ck2,Z2,[3,1],cz2⟩) : Calls Tryz.prog 80 #[.agg #[.int .i64 4,.slice K 2 ck,.slice Z 1 cz],.agg #[.int .i64 4,.slice K2 3 ck2,.slice Z2 2 cz2]] w fun e w' => ∃ g cap : Nat,e = .returned (.slice (some ⟨g,0,none⟩) 5 cap)∧BK w' g (Pc.cells4 Kn.tM)∧Below w.heap.size w w':=by
 refine (knreadings_any ⟨4,K,[0,4],ck,Z,[1],cz⟩ ⟨4,K2,[0,1,4],ck2,Z2,[3,1],cz2⟩ [0,4,0,1,4] 5 Kn.tL w hc hd (by simp) (by simp) rfl rfl (by omega) (by omega) rfl Kn.tL_fit (fun k hk v hv => ?_) (fun k hk v hv => ?_)).mono ?_
 ·have : k = 0 ∨ k = 1 ∨ k = 2 ∨ k = 3 ∨ k = 4:=by omega
  rcases this with rfl | rfl | rfl | rfl | rfl
  ·exact knpaused_t0 K ck Z cz v (hc.keep hv)
  ·exact knpaused_t4 K ck Z cz v (hc.keep hv)
  ·exact knpaused_t0 K ck Z cz v (hc.keep hv)
  ·exact knpaused_t1 K ck Z cz v (hc.keep hv)
  ·exact knpaused_t4 K ck Z cz v (hc.keep hv)
 ·have : k = 0 ∨ k = 1 ∨ k = 2 ∨ k = 3 ∨ k = 4:=by omega
  rcases this with rfl | rfl | rfl | rfl | rfl
  ·exact kngap_t0 K ck Z cz K2 ck2 Z2 cz2 v (hc.keep hv) (hd.keep hv)
  ·exact kngap_t2 K ck Z cz K2 ck2 Z2 cz2 v (hc.keep hv) (hd.keep hv)
  ·exact kngap_t0 K ck Z cz K2 ck2 Z2 cz2 v (hc.keep hv) (hd.keep hv)
  ·exact kngap_t1 K ck Z cz K2 ck2 Z2 cz2 v (hc.keep hv) (hd.keep hv)
  ·exact kngap_t2 K ck Z cz K2 ck2 Z2 cz2 v (hc.keep hv) (hd.keep hv)
 ·rintro e w' ⟨g,cap,M,rfl,hM,hS,hB,hb⟩
  rw [Kn.tM_eq hM hS] at hB;exact ⟨g,cap,rfl,hB,hb⟩
set_option linter.unusedSimpArgs false in
set_option maxHeartbeats 8000000 in
set_option maxRecDepth 100000 in
theorem knhalf_two (K : Option Addr) (ck : Nat) (Z : Option Addr) (cz : Nat) (K2 : Option Addr) (ck2 : Nat) (Z2 : Option Addr) (cz2 : Nat) (w : World) (hc : IsC w ⟨4,K,[0,4],ck,Z,[1],cz⟩) (hd : IsC w ⟨4,K2,[0,1,4],ck2,Z2,[3,1],cz2⟩) : Calls Tryz.prog 32 #[.agg #[.int .i64 4,.slice K 2 ck,.slice Z 1 cz],.agg #[.int .i64 4,.slice K2 3 ck2,.slice Z2 2 cz2]] w fun e w' => e = .returned (.tuple #[.agg #[.int .i64 1,.int .i64 2,.int .i64 5,.int .i64 2],.int .i64 0])∧Below w.heap.size w w':=by
 have dk:=fun v (hv : Below w.heap.size w v) => kndesk_any ⟨4,K,[0,4],ck,Z,[1],cz⟩ ⟨4,K2,[0,1,4],ck2,Z2,[3,1],cz2⟩ v (hc.keep hv) (hd.keep hv)
 have ck':=fun v p (h : IsCs v (some ⟨p,0,none⟩) [⟨4,K,[0,4],ck,Z,[1],cz⟩,⟨4,K2,[0,1,4],ck2,Z2,[3,1],cz2⟩]) => askCheck_any (some ⟨p,0,none⟩) 2 _ none 0 0 v (by simp) h
 simp only [List.map_cons,List.map_nil,List.length_cons,List.length_nil,show Ak.dat ⟨4,K,[0,4],ck,Z,[1],cz⟩ = (4,[0,4],[1]) from rfl,show Ak.dat ⟨4,K2,[0,1,4],ck2,Z2,[3,1],cz2⟩ = (4,[0,1,4],[3,1]) from rfl,Kn.n_ab] at ck'
 have HU1:=Lib.hid (fun v (hv : Below w.heap.size w v) => (show Calls Tryz.prog 78 #[.agg #[.int .i64 4,.slice K 2 ck,.slice Z 1 cz]] v _ from knhungry_any ⟨4,K,[0,4],ck,Z,[1],cz⟩ v (hc.keep hv) (by simp) (fun k hk => by
  have hk : k < 1:=hk
  obtain rfl : k = 0:=by omega
  show Ck.at_ [1] 0 ≠ 0
  decide)))
 have HU2:=Lib.hid (fun v (hv : Below w.heap.size w v) => (show Calls Tryz.prog 78 #[.agg #[.int .i64 4,.slice K2 3 ck2,.slice Z2 2 cz2]] v _ from knhungry_any ⟨4,K2,[0,1,4],ck2,Z2,[3,1],cz2⟩ v (hd.keep hv) (by simp) (fun k hk => by
  have hk : k < 2:=hk
  have : k = 0 ∨ k = 1:=by omega
  rcases this with rfl | rfl
  ·show Ck.at_ [3,1] 0 ≠ 0
   decide
  ·show Ck.at_ [3,1] 1 ≠ 0
   decide)))
 have RDG:=Lib.hid (fun v (hv : Below w.heap.size w v) => knreadings_two K ck Z cz K2 ck2 Z2 cz2 v (hc.keep hv) (hd.keep hv));have OT:=Lib.hid (fun v (hv : Below w.heap.size w v) => knother_th K ck Z cz v (hc.keep hv));have BAL:=Lib.hid (fun g cap v hB => knbalance_any g 5 cap 0 1 1 1 0 1 1 1 1 1 (-1) 1 1 2 [.int .i64 2,.int .i64 1,.int .i64 (-1),.int .i64 1,.int .i64 2,.int .i64 1,.int .i64 (-1),.int .i64 1] v hB (by omega) (by omega) (by omega) (by omega) (fun v => kncross_any 0 1 1 1 1 1 (-1) 1 1 1 2 1 1 2 1 2 1 2 v (by unfold I64;decide) Kn.n_c1 Kn.n_c2 Kn.n_c3 Kn.n_c4 Kn.n_c5));have DK:=Lib.hid dk;have CK:=Lib.hid ck';clear dk ck' hc hd
 simp only [List.length_cons,List.length_nil] at DK
 go_enter Tryz.func32,Tryz.ntmps32
 go_upto_region 1 with fail
 refine at_box3 (fun V hbb B0 B1 B2 hVs => ?_);have cB00:=B0.c 0 rfl;have cB01:=B0.c 1 rfl;have cB02:=B0.c 2 rfl;have cB10:=B1.c 0 rfl;have cB11:=B1.c 1 rfl;have cB12:=B1.c 2 rfl;(go_wp2_with fail);refine (DK.out _ hbb).mono ?_;rintro e w1 ⟨pk,rfl,hb,hcs⟩;clear cB00 cB01 cB02 cB10 cB11 cB12;replace hbb:=keepB hbb hb;replace B0:=B0.keep hb;replace B1:=B1.keep hb;replace B2:=B2.keep hb;have CK2:=Lib.hid (CK.out _ _ hcs);clear hcs CK;clear hb DK;(go_wp2_with fail);refine (CK2.out).mono ?_;rintro e w2 ⟨rfl,hb⟩;replace hbb:=keepB hbb hb;replace B0:=B0.keep hb;replace B1:=B1.keep hb;replace B2:=B2.keep hb;clear hb CK2;have cB00:=B0.c 0 rfl;have cB01:=B0.c 1 rfl;have cB02:=B0.c 2 rfl;(go_wp2_with fail);refine (HU1.out _ hbb).mono ?_;rintro e w3 ⟨rfl,hb⟩;clear cB00 cB01 cB02;replace hbb:=keepB hbb hb;replace B0:=B0.keep hb;replace B1:=B1.keep hb;replace B2:=B2.keep hb;clear hb HU1;have cB10:=B1.c 0 rfl;have cB11:=B1.c 1 rfl;have cB12:=B1.c 2 rfl;(go_wp2_with fail);refine (HU2.out _ hbb).mono ?_;rintro e w4 ⟨rfl,hb⟩;clear cB10 cB11 cB12;replace hbb:=keepB hbb hb;replace B0:=B0.keep hb;replace B1:=B1.keep hb;replace B2:=B2.keep hb;clear hb HU2;have cB00:=B0.c 0 rfl;have cB01:=B0.c 1 rfl;have cB02:=B0.c 2 rfl;have cB10:=B1.c 0 rfl;have cB11:=B1.c 1 rfl;have cB12:=B1.c 2 rfl;(go_wp2_with fail);refine (RDG.out _ hbb).mono ?_;rintro e w5 ⟨g,cap,rfl,hBM,hb⟩;clear cB00 cB01 cB02 cB10 cB11 cB12;replace hbb:=keepB hbb hb;replace B0:=B0.keep hb;replace B1:=B1.keep hb;replace B2:=B2.keep hb;rw [Kn.tM_cells] at hBM;have BL2:=Lib.hid (BAL.out g cap _ hBM);clear hBM BAL;clear hb RDG;(go_wp2_with fail);refine (BL2.out).mono ?_;rintro e w6 ⟨rfl,hb⟩;replace hbb:=keepB hbb hb;replace B0:=B0.keep hb;replace B1:=B1.keep hb;replace B2:=B2.keep hb;clear hb BL2;have hsBT:=hbb.size
 go_upto_region 7 with fail
 refine at_worldQ (fun v => Below w.heap.size w v∧BK v (w.heap.size) [.int .i64 4,.slice K 2 ck,.slice Z 1 cz]∧BK v (w.heap.size + 1) [.int .i64 4,.slice K2 3 ck2,.slice Z2 2 cz2]∧BK v (w.heap.size + 2) [.int .i64 0,.int .i64 0,.int .i64 0,.int .i64 0]∧BK v w6.heap.size [.int .i64 1,.int .i64 2]) ⟨below_al hbb _,B0.al _,B1.al _,B2.al _,BK.new _ _ _⟩ (fun VBT hS => ?_);clear hbb B0 B1 B2;obtain ⟨hbb,B0,B1,B2,BT⟩:=hS;obtain ⟨pBT,hpBT⟩ : ∃ z,w6.heap.size = z:=⟨_,rfl⟩;rw [hpBT] at BT hsBT ⊢;clear hpBT;have cB00:=B0.c 0 rfl;have cB01:=B0.c 1 rfl;have cB02:=B0.c 2 rfl;have cBT0:=BT.c 0 rfl;have cBT1:=BT.c 1 rfl;(go_wp2_with fail);refine (OT.out _ hbb).mono ?_;rintro e w7 ⟨rfl,hb⟩;clear cB00 cB01 cB02 cBT0 cBT1;replace hbb:=keepB hbb hb;replace B0:=B0.keep hb;replace B1:=B1.keep hb;replace B2:=B2.keep hb;replace BT:=BT.keep hb;clear hb OT;have hsBO:=hbb.size
 go_upto_region 10 with fail
 refine at_worldQ (fun v => Below w.heap.size w v∧BK v (w.heap.size) [.int .i64 4,.slice K 2 ck,.slice Z 1 cz]∧BK v (w.heap.size + 1) [.int .i64 4,.slice K2 3 ck2,.slice Z2 2 cz2]∧BK v (w.heap.size + 2) [.int .i64 0,.int .i64 0,.int .i64 0,.int .i64 0]∧BK v (pBT) [.int .i64 1,.int .i64 2]∧BK v w7.heap.size [.int .i64 5,.int .i64 2]) ⟨below_al hbb _,B0.al _,B1.al _,B2.al _,BT.al _,BK.new _ _ _⟩ (fun VBO hS => ?_);clear hbb B0 B1 B2 BT;obtain ⟨hbb,B0,B1,B2,BT,BO⟩:=hS;obtain ⟨pBO,hpBO⟩ : ∃ z,w7.heap.size = z:=⟨_,rfl⟩;rw [hpBO] at BO hsBO ⊢;clear hpBO;have cBT0:=BT.c 0 rfl;have cBT1:=BT.c 1 rfl;have cBO0:=BO.c 0 rfl;have cBO1:=BO.c 1 rfl;have r0:=B2.c 0 rfl;have g0:=B2.f 0 rfl;have r1:=B2.c 1 rfl;have g1:=B2.f 1 rfl;have r2:=B2.c 2 rfl;have g2:=B2.f 2 rfl;have r3:=B2.c 3 rfl;have g3:=B2.f 3 rfl;(go_wp2_with fail);exact bodyPost_ret (v:=.tuple #[.agg #[.int .i64 1,.int .i64 2,.int .i64 5,.int .i64 2],.int .i64 0]) (by simp [results,Tryz.results32,go_sem,r0,r1,r2,r3]) rfl ⟨rfl,by repeat (first | exact hbb | refine below_set ?_ (by omega) _)⟩
end Go.Proofs.YtogmfebphiglaaaGreat


