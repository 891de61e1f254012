/- Package rent: housed. -/
import Derived.Test.YtncmffhoodfhjaaLxa
import Derived.Test.YtncmffhoodfhjaaYp
import Derived.Test.YtncmffhoodfhjaaYf
import Derived.Test.YtncmffhoodfhjaaYl
namespace Go.Proofs.Ytncmffhoodfhjaa
open Go.RowKit
theorem rtLinks_any (A : Option Addr) (cv : Nat) (V : List (List Int)) (T : Int) (v : World) (hl : V.length ≤ maxLen) (hv : IsM v A V) (hT : As.rchk V T = 0) : Calls Try.prog 14 #[.agg #[.slice A V.length cv, .int .i64 T]] v fun e w' => ∃ X c, e = .returned (.tuple #[.slice X V.length c, .int .i64 0]) ∧ IsM w' X (As.lkt V) ∧ Below v.heap.size v w' := by
  have c := rmLinks_any A cv V T v hl hv
  have e : As.lnS V T = As.lkt V := by unfold As.lnS; rw [if_pos hT]
  unfold LnQ at c
  rw [e, lkt_len, hT] at c
  exact c
/-- What housed gives. -/
def HsQ (V : List (List Int)) (w : World) (e : Ending) (w' : World) : Prop :=
  ∃ X c g L d, e = .returned (.tuple #[.slice X V.length c, .slice (some ⟨g, 0, none⟩) V.length V.length, .slice L V.length d]) ∧ IsI w' X (As.al (As.bst V)) ∧ (∀ b off, X = some ⟨b, off, none⟩ → w.heap.size ≤ b) ∧ w.heap.size ≤ g ∧ BF w' g V.length (As.wrm V (As.bst V)) ∧ IsM w' L (As.lkt V) ∧ Below w.heap.size w w'
namespace As
/-- What the room of an agent is worth is put in its place. -/
theorem wrm_step {V : List (List Int)} {b : List Nat} (hb : Top V b) {k : Nat} (hk : k < V.length) {j : Nat} (hj : j < V.length) :
    (if j = b.getD k 0 then vl V k (b.getD k 0) else if b.idxOf j < k then wrm V b j else 0) = if b.idxOf j < k + 1 then wrm V b j else 0 := by
  obtain ⟨h1, h2⟩ := idx_rm hb hj
  by_cases e : j = b.getD k 0
  · have e2 : b.idxOf j = k := by rw [e, own_idx hb hk]
    rw [if_pos e, if_pos (by omega)]
    unfold wrm
    rw [e2, ← e]
  · have e2 : b.idxOf j ≠ k := fun h => e (by rw [← h, h2])
    rw [if_neg e]
    by_cases e3 : b.idxOf j < k
    · rw [if_pos e3, if_pos (by omega)]
    · rw [if_neg e3, if_neg (by omega)]
end As
set_option maxRecDepth 100000 in
set_option maxHeartbeats 4000000 in
theorem rtHoused_any (A : Option Addr) (cv : Nat) (V : List (List Int)) (R : Int) (w : World) (hl : V.length ≤ maxLen) (h : IsM w A V) (hT : As.rchk V R = 0) :
    Calls Try.prog 61 #[.agg #[.slice A V.length cv, .int .i64 R]] w (HsQ V w) := by
  obtain ⟨hc, r0, r1⟩ : As.chk V = 0 ∧ 0 ≤ R ∧ R ≤ 10000000 := by
    rcases As.rchk_two V R with ⟨_, hc, r0, r1⟩ | ⟨_, h2⟩
    · exact ⟨hc, r0, r1⟩
    · exact absurd hT h2
  have ok := As.chk_ok hc
  have ht := As.bst_top ok
  have n1 := ok.n1
  have n6 := ok.n6
  have CB := Lib.hid (fun v (hv : IsM v A V) => asBest2_any A cv V v hc hl hv)
  have CL := Lib.hid (fun v (hv : IsM v A V) => rtLinks_any A cv V R v hl hv hT)
  have HA := Lib.hid h
  have HOK := Lib.hid ok
  have HOWN := Lib.hid (fun k (hk : k < V.length) => As.own_lt ht hk)
  have HLB := Lib.hid (show (As.al (As.bst V)).length = V.length by rw [As.al_len]; exact ht.len)
  have HST := Lib.hid (fun k (hk : k < V.length) j (hj : j < V.length) => As.wrm_step ht hk hj)
  have HIX := Lib.hid (fun j (hj : j < V.length) => (As.idx_rm ht hj).1)
  have MK := ints_make V.length (by omega)
  clear h hT hc ok ht
  go_enter Try.func61, Try.ntmps61
  go_upto_region 1 with fail
  refine at_box1 (fun V0 hbb b0 hsz => ?_)
  clear hsz
  replace HA := Lib.hid (HA.out.keep hbb)
  have c0 := b0.c 0 rfl
  go_wp2_with fail
  refine (CB.out _ HA.out).mono ?_
  rintro e w1 ⟨X, cX, rfl, hI, hfr, hb⟩
  have B0 := Lib.hid (b0.keep hb)
  replace HA := Lib.hid (HA.out.keep hb)
  have HI := Lib.hid hI
  have HFR := Lib.hid (show ∀ b off, X = some ⟨b, off, none⟩ → w.heap.size ≤ b from fun b off e => Nat.le_trans hbb.size (hfr b off e))
  have HB := Lib.hid (keepB hbb hb)
  generalize As.wr V (As.bst V) = z at *
  clear c0 b0 hbb hI hfr hb CB
  go_wp2_with fail
  clear MK
  have HG := Lib.hid HB.out.size
  have HIg := Lib.hid (fun o => HI.out.keep (below_al (Below.refl w1.heap.size w1) o))
  go_loopw [19] (fun i W => ∃ k : Nat, k ≤ V.length ∧ i = .int .i64 k ∧ Hid (Below w1.heap.size w1 W) ∧ Hid (BF W w1.heap.size V.length (fun j => if (As.bst V).idxOf j < k then As.wrm V (As.bst V) j else 0))) (fun i _ => V.length - (intOf i).toNat)
  case atStart => exact ⟨0, Nat.zero_le _, rfl, Lib.hid (below_al (Below.refl _ _) _), Lib.hid ((BF.new w1 V.length 3).cong fun j _ => by simp)⟩
  case round =>
    obtain ⟨k, hk, rfl, HW, HF⟩ := hrel
    by_cases hlt : k < V.length
    · obtain ⟨xb, xo, hX, hxs⟩ := list_at (HI.out.keep HW.out) (j := k) (by rw [HLB.out]; exact hlt)
      obtain ⟨b, off, rb, ro, cc, rfl, hr, hcs⟩ := row_at HOK.out (HA.out.keep HW.out) hlt
      subst hX
      have hb0 := HOWN.out k hlt
      have x0 := hxs k (by rw [HLB.out]; exact hlt)
      rw [As.el_al] at x0
      have x1 := (B0.out.keep HW.out).c 0 rfl
      have x2 := hcs _ hb0
      have x3 := HF.out.f hb0
      obtain ⟨old, x4⟩ : ∃ y, wr.cell? ⟨w1.heap.size, (As.bst V).getD k 0, none⟩ = some (.int .i64 y) := ⟨_, HF.out.c hb0⟩
      have HNEW := Lib.hid ((HF.out.set ((As.bst V).getD k 0) (As.vl V k ((As.bst V).getD k 0))).cong (HST.out k hlt))
      clear hxs hcs
      generalize As.vl V k ((As.bst V).getD k 0) = x at *
      generalize (As.bst V).getD k 0 = m at *
      have HNW := Lib.hid (show Below w1.heap.size w1 (wr.setCell ⟨w1.heap.size, m, none⟩ (.int .i64 x)) from HW.out.setCell (Nat.le_refl _) _)
      have i1 : (k : Int) < (V.length : Int) := by omega
      have i2 : (m : Int) < (V.length : Int) := by omega
      go_wp2_with fail
      go_roundw
      case rel => exact ⟨k + 1, by omega, by go_num, HNW, HNEW⟩
      case measure => simp [intOf]; omega
    · obtain rfl : k = V.length := by omega
      have c0 := (B0.out.keep HW.out).c 0 rfl
      have c1 := (B0.out.keep HW.out).c 1 rfl
      have HF2 := Lib.hid (HF.out.cong (G := As.wrm V (As.bst V)) fun j hj => by rw [if_pos (HIX.out j hj)])
      replace HA := Lib.hid (HA.out.keep HW.out)
      replace HI := Lib.hid (HI.out.keep HW.out)
      replace HB := Lib.hid (keepB HB.out HW.out)
      clear HF HW
      go_wp2_with fail
      refine (CL.out _ HA.out).mono ?_
      rintro e w4 ⟨L, cL, rfl, hM, hb⟩
      replace HI := Lib.hid (HI.out.keep hb)
      replace HB := Lib.hid (keepB HB.out hb)
      replace HF2 := Lib.hid (HF2.out.keep hb)
      have HM := Lib.hid hM
      clear hM hb c0 c1
      go_wp2_with fail
      go_ret3
      exact ⟨X, cX, _, L, cL, rfl, HI.out, HFR.out, HG.out, HF2.out, HM.out, HB.out⟩
end Go.Proofs.Ytncmffhoodfhjaa
