/- What a valid cake is; package cake's Total, the reference's Total. -/
import Derived.Test.YtniagnldiegamaaGreatCheck
import Derived.Test.YtniagnldiegamaaGreatRcheck
namespace Go.Proofs.YtniagnldiegamaaGreat
open Go.RowKit
namespace Ck
structure Good (len : Int) (c d : List Int) : Prop where
  len0 : 1 ≤ len
  len1 : len ≤ 1000
  shape : d.length + 1 = c.length ∧ 1 ≤ d.length ∧ c.length ≤ 40
  first : at_ c 0 = 0
  last : at_ c d.length = len
  step : ∀ k, k < d.length → at_ c k < at_ c (k + 1) ∧ 0 ≤ at_ d k ∧ at_ d k ≤ 12
  some_ : wanted d = true
theorem chk_good {len : Int} {c d : List Int} (h : chk len c d = 0) : Good len c d := by
  unfold chk at h
  split at h
  · omega
  · rename_i hg
    split at h
    · omega
    · rename_i hs
      split at h
      · omega
      · rename_i he
        split at h
        · omega
        · rename_i hb
          split at h
          · rename_i hw
            simp only [great, Bool.or_eq_true, decide_eq_true_eq, not_or, Int.not_lt, Nat.not_lt] at hg
            simp only [shapeBad, Bool.or_eq_true, decide_eq_true_eq, not_or, Int.not_lt, Nat.not_lt, ne_eq, Decidable.not_not] at hs
            simp only [endsBad, Bool.or_eq_true, decide_eq_true_eq, not_or, ne_eq, Decidable.not_not] at he
            have hb' : ∀ j, j < d.length → badAt c d j = false := by
              intro j hj
              rcases hq : badAt c d j with _ | _
              · rfl
              · exact absurd (bad_of hj hq) hb
            refine ⟨by omega, by omega, ⟨by omega, by omega, by omega⟩, he.1, ?_, ?_, hw⟩
            · rw [show d.length = c.length - 1 by omega]; exact he.2
            · intro k hk
              have := hb' k hk
              simp only [badAt, Bool.or_eq_false_iff, decide_eq_false_iff_not, Int.not_le, Int.not_lt] at this
              omega
          · omega
theorem chk_cases (len : Int) (c d : List Int) : chk len c d = 0 ∨ chk len c d = 4 ∨ chk len c d = 8 := by
  unfold chk
  split
  · omega
  · split
    · omega
    · split
      · omega
      · split
        · omega
        · split <;> omega
theorem Good.mono {len : Int} {c d : List Int} (h : Good len c d) (i j : Nat) (hij : i ≤ j) (hj : j ≤ d.length) : at_ c i ≤ at_ c j := by
  induction j with
  | zero => rw [show i = 0 by omega]; exact Int.le_refl _
  | succ j ih =>
    rcases Nat.lt_or_ge i (j + 1) with g | g
    · have := ih (by omega) (by omega)
      have := (h.step j (by omega)).1
      omega
    · rw [show i = j + 1 by omega]; exact Int.le_refl _
theorem Good.range {len : Int} {c d : List Int} (h : Good len c d) (k : Nat) (hk : k ≤ d.length) : 0 ≤ at_ c k ∧ at_ c k ≤ 1000 := by
  have a := h.mono 0 k (by omega) hk; have b := h.mono k d.length hk (Nat.le_refl _); have := h.first; have := h.last; have := h.len1
  omega
/-- The value of the first intervals. -/
def tot (c d : List Int) : Nat → Int
  | 0 => 0
  | k + 1 => tot c d k + at_ d k * (at_ c (k + 1) - at_ c k)
theorem tot_bd {len : Int} {c d : List Int} (h : Good len c d) (k : Nat) (hk : k ≤ d.length) : 0 ≤ tot c d k ∧ tot c d k ≤ 12 * at_ c k := by
  induction k with
  | zero => rw [h.first]; exact ⟨Int.le_refl _, Int.le_refl _⟩
  | succ k ih =>
    have i := ih (by omega); have s := h.step k (by omega); have p0 : 0 ≤ at_ d k * (at_ c (k + 1) - at_ c k) := Int.mul_nonneg (by omega) (by omega); have p1 : at_ d k * (at_ c (k + 1) - at_ c k) ≤ 12 * (at_ c (k + 1) - at_ c k) := Int.mul_le_mul_of_nonneg_right (by omega) (by omega)
    unfold tot
    omega
/-- Total, error. -/
def totS (len : Int) (c d : List Int) : Int × Int := if chk len c d = 0 then (tot c d d.length, 0) else (0, chk len c d)
end Ck

set_option maxHeartbeats 2000000 in
set_option maxRecDepth 100000 in
theorem rWhole_any (len : Int) (K : Option Addr) (cuts : List Int) (ck : Nat) (Z : Option Addr) (dens : List Int) (cz : Nat) (w : World) (h : IsCake w len K cuts Z dens) (hG : Ck.Good len cuts dens) :
    Calls Tryz.prog 81 #[.agg #[.int .i64 len, .slice K cuts.length ck, .slice Z dens.length cz]] w fun e w' => e = .returned (.int .i64 (Ck.tot cuts dens dens.length)) ∧ Below w.heap.size w w' := by
  obtain ⟨⟨l0, l1⟩, _, iK, iZ⟩ := h; obtain ⟨bk, ok, rfl, hk⟩ := iK.1 (by have := hG.shape; omega); obtain ⟨bz, oz, rfl, hz⟩ := iZ.1 (by have := hG.shape; omega); obtain ⟨m, hm⟩ : ∃ m, dens.length = m := ⟨_, rfl⟩; have hsh := hG.shape
  have hn : cuts.length = m + 1 := by omega
  have hmm : m ≤ 39 := by omega
  have hm1 : 1 ≤ m := by omega
  have HG := Lib.hid hG; rw [hm] at hz; rw [hn] at hk; rw [hm, hn]; have HK := Lib.hid hk; have HZ := Lib.hid hz; clear hk hz iK iZ hG hsh
  go_enter Tryz.func81, Tryz.ntmps81
  go_upto_region 3 with fail
  refine at_worldQ (fun v => Below w.heap.size w v ∧ v.cell? ⟨w.heap.size, 0, none⟩ = some (.int .i64 len) ∧ v.cell? ⟨w.heap.size, 1, none⟩ = some (.slice (some ⟨bk, ok, none⟩) (m + 1) ck) ∧ v.cell? ⟨w.heap.size, 2, none⟩ = some (.slice (some ⟨bz, oz, none⟩) m cz)) ⟨(Below.refl _ _).alloc (Nat.le_refl _) _, n30 _ _ _ _ _, n31 _ _ _ _ _, n32 _ _ _ _ _⟩ (fun V hS => ?_); obtain ⟨hbb, y0, y1, y2⟩ := hS
  go_loopw [3, 4] (fun t i v => ∃ k : Nat, k ≤ m ∧ i = .int .i64 k ∧ t = .int .i64 (Ck.tot cuts dens k) ∧ Below w.heap.size w v ∧ v.cell? ⟨w.heap.size, 0, none⟩ = some (.int .i64 len) ∧ v.cell? ⟨w.heap.size, 1, none⟩ = some (.slice (some ⟨bk, ok, none⟩) (m + 1) ck) ∧ v.cell? ⟨w.heap.size, 2, none⟩ = some (.slice (some ⟨bz, oz, none⟩) m cz)) (fun _ i _ => m - (intOf i).toNat)
  case atStart => exact ⟨0, Nat.zero_le _, rfl, rfl, hbb, y0, y1, y2⟩
  case round =>
    clear hbb y0 y1 y2; obtain ⟨k, hk, rfl, rfl, hbb, y0, y1, y2⟩ := hrel
    by_cases hlt : k < m
    · have z0 := keepC hbb (HZ.out k hlt)
      have c0 := keepC hbb (HK.out k (by omega)); have c1 := keepC hbb (HK.out (k + 1) (by omega)); have r0 := HG.out.range k (by omega); have r1 := HG.out.range (k + 1) (by omega); have hst := HG.out.step k (by omega); have htb := Ck.tot_bd HG.out k (by omega); have HT := Lib.hid (show Ck.tot cuts dens (k + 1) = Ck.tot cuts dens k + Ck.at_ dens k * (Ck.at_ cuts (k + 1) - Ck.at_ cuts k) from rfl); have hp0 : 0 ≤ Ck.at_ dens k * (Ck.at_ cuts (k + 1) - Ck.at_ cuts k) := Int.mul_nonneg (by omega) (by omega); have hp1 : Ck.at_ dens k * (Ck.at_ cuts (k + 1) - Ck.at_ cuts k) ≤ 12 * 1000 := Int.mul_le_mul (by omega) (by omega) (by omega) (by omega)
      have a1 : (0 : Int) ≤ (k : Int) + 1 := by omega
      have a2 : (k : Int) < (m : Int) := by omega
      have a3 : (k : Int) + 1 < (m : Int) + 1 := by omega
      have a4 : ((k : Int) + 1).toNat = k + 1 := by omega
      have a5 : IntKind.i64.wrap ((k : Int) + 1) = (k : Int) + 1 := IntWalk.i64_in _ (by omega)
      generalize Ck.tot cuts dens k = T at *
      generalize Ck.at_ cuts (k + 1) = p2 at *
      generalize Ck.at_ cuts k = p1 at *
      generalize Ck.at_ dens k = d at *
      have w1 : IntKind.i64.wrap (p2 - p1) = p2 - p1 := IntWalk.i64_in _ (by omega); have w2 : IntKind.i64.wrap (d * (p2 - p1)) = d * (p2 - p1) := IntWalk.i64_in _ (by omega); have w3 : IntKind.i64.wrap (T + d * (p2 - p1)) = T + d * (p2 - p1) := IntWalk.i64_in _ (by omega); clear HK HZ HG; (go_wp2_with fail)
      go_quiet (fail)
      go_wp2_with fail
      go_roundw
      case rel => exact ⟨k + 1, by omega, by go_num, by rw [HT.out], below_drewN hbb _, y0, y1, y2⟩
      case measure => simp [intOf]; omega
    · obtain rfl : k = m := by omega
      clear HK HZ HG hn hm; (go_wp2_with fail)
      go_ret
      exact ⟨rfl, hbb⟩

set_option maxHeartbeats 2000000 in
set_option maxRecDepth 100000 in
theorem ckTotal_any (len : Int) (K : Option Addr) (cuts : List Int) (ck : Nat) (Z : Option Addr) (dens : List Int) (cz : Nat) (w : World) (h : IsCake w len K cuts Z dens) :
    Calls Tryz.prog 125 #[.agg #[.int .i64 len, .slice K cuts.length ck, .slice Z dens.length cz]] w fun e w' => e = .returned (.tuple #[.int .i64 (Ck.totS len cuts dens).1, .int .i64 (Ck.totS len cuts dens).2]) ∧ Below w.heap.size w w' := by
  have cc := fun v (hb : Below w.heap.size w v) => ckCheck_any len K cuts ck Z dens cz v (h.keep hb)
  by_cases hc : Ck.chk len cuts dens = 0
  · have hG := Ck.chk_good hc
    have e : Ck.totS len cuts dens = (Ck.tot cuts dens dens.length, 0) := by unfold Ck.totS; rw [if_pos hc]
    rw [e]; rw [hc] at cc; have CC := Lib.hid cc; obtain ⟨⟨l0, l1⟩, _, iK, iZ⟩ := h; clear cc hc e; obtain ⟨bk, ok, rfl, hk⟩ := iK.1 (by have := hG.shape; omega); obtain ⟨bz, oz, rfl, hz⟩ := iZ.1 (by have := hG.shape; omega); obtain ⟨m, hm⟩ : ∃ m, dens.length = m := ⟨_, rfl⟩; have hsh := hG.shape
    have hn : cuts.length = m + 1 := by omega
    have hmm : m ≤ 39 := by omega
    have hm1 : 1 ≤ m := by omega
    have HG := Lib.hid hG; rw [hm] at hz; rw [hn] at hk; have n1 : (((0 : Int)) != 0) = false := rfl; rw [hm, hn] at CC ⊢; have HK := Lib.hid hk; have HZ := Lib.hid hz; clear hk hz iK iZ hG hsh
    go_enter Tryz.func125, Tryz.ntmps125
    (go_wp2_with fail); refine (CC.out _ ((Below.refl _ _).alloc (Nat.le_refl _) _)).mono ?_; rintro e w1 ⟨rfl, hb1⟩; have y0 : w1.cell? ⟨w.heap.size, 0, none⟩ = some (.int .i64 len) := keepC hb1 (n30 _ _ _ _ _); have y1 : w1.cell? ⟨w.heap.size, 1, none⟩ = some (.slice (some ⟨bk, ok, none⟩) (m + 1) ck) := keepC hb1 (n31 _ _ _ _ _); have y2 : w1.cell? ⟨w.heap.size, 2, none⟩ = some (.slice (some ⟨bz, oz, none⟩) m cz) := keepC hb1 (n32 _ _ _ _ _); have hbb : Below w.heap.size w w1 := keepB ((Below.refl _ _).alloc (Nat.le_refl _) _) hb1; clear hb1 CC; (go_wp2_with fail)
    go_loopw [5, 6, 7, 16] (fun t _ _ i v => ∃ k : Nat, k ≤ m ∧ i = .int .i64 k ∧ t = .int .i64 (Ck.tot cuts dens k) ∧ Below w.heap.size w v ∧ v.cell? ⟨w.heap.size, 0, none⟩ = some (.int .i64 len) ∧ v.cell? ⟨w.heap.size, 1, none⟩ = some (.slice (some ⟨bk, ok, none⟩) (m + 1) ck) ∧ v.cell? ⟨w.heap.size, 2, none⟩ = some (.slice (some ⟨bz, oz, none⟩) m cz)) (fun _ _ _ i _ => m - (intOf i).toNat)
    case atStart => exact ⟨0, Nat.zero_le _, rfl, rfl, hbb, y0, y1, y2⟩
    case round =>
      clear hbb y0 y1 y2; obtain ⟨k, hk, rfl, rfl, hbb, y0, y1, y2⟩ := hrel
      by_cases hlt : k < m
      · have z0 := keepC hbb (HZ.out k hlt)
        have c0 := keepC hbb (HK.out k (by omega)); have c1 := keepC hbb (HK.out (k + 1) (by omega)); have r0 := HG.out.range k (by omega); have r1 := HG.out.range (k + 1) (by omega); have hst := HG.out.step k (by omega); have htb := Ck.tot_bd HG.out k (by omega); have HT := Lib.hid (show Ck.tot cuts dens (k + 1) = Ck.tot cuts dens k + Ck.at_ dens k * (Ck.at_ cuts (k + 1) - Ck.at_ cuts k) from rfl); have hp0 : 0 ≤ Ck.at_ dens k * (Ck.at_ cuts (k + 1) - Ck.at_ cuts k) := Int.mul_nonneg (by omega) (by omega); have hp1 : Ck.at_ dens k * (Ck.at_ cuts (k + 1) - Ck.at_ cuts k) ≤ 12 * 1000 := Int.mul_le_mul (by omega) (by omega) (by omega) (by omega)
        have a1 : (0 : Int) ≤ (k : Int) + 1 := by omega
        have a2 : (k : Int) < (m : Int) := by omega
        have a3 : (k : Int) + 1 < (m : Int) + 1 := by omega
        have a4 : ((k : Int) + 1).toNat = k + 1 := by omega
        have a5 : IntKind.i64.wrap ((k : Int) + 1) = (k : Int) + 1 := IntWalk.i64_in _ (by omega)
        generalize Ck.tot cuts dens k = T at *
        generalize Ck.at_ cuts (k + 1) = p2 at *
        generalize Ck.at_ cuts k = p1 at *
        generalize Ck.at_ dens k = d at *
        have w1 : IntKind.i64.wrap (p2 - p1) = p2 - p1 := IntWalk.i64_in _ (by omega); have w2 : IntKind.i64.wrap (d * (p2 - p1)) = d * (p2 - p1) := IntWalk.i64_in _ (by omega); have w3 : IntKind.i64.wrap (T + d * (p2 - p1)) = T + d * (p2 - p1) := IntWalk.i64_in _ (by omega); clear HK HZ HG; (go_wp2_with fail)
        go_quiet (fail)
        go_wp2_with fail
        go_roundw
        case rel => exact ⟨k + 1, by omega, by go_num, by rw [HT.out], below_drewN hbb _, y0, y1, y2⟩
        case measure => simp [intOf]; omega
      · obtain rfl : k = m := by omega
        clear HK HZ HG hn hm; (go_wp2_with fail)
        go_ret2
        exact ⟨rfl, hbb⟩
  · have e : Ck.totS len cuts dens = (0, Ck.chk len cuts dens) := by unfold Ck.totS; rw [if_neg hc]
    rw [e]
    generalize Ck.chk len cuts dens = c at *
    have n1 : (c != 0) = true := by rw [bne_iff_ne]; exact hc
    have CC := Lib.hid cc; clear cc hc e h
    go_enter Tryz.func125, Tryz.ntmps125
    (go_wp2_with fail); refine (CC.out _ ((Below.refl _ _).alloc (Nat.le_refl _) _)).mono ?_; rintro e w1 ⟨rfl, hb1⟩; have hbb : Below w.heap.size w w1 := keepB ((Below.refl _ _).alloc (Nat.le_refl _) _) hb1; clear hb1 CC; (go_wp2_with fail)
    go_ret2
    exact ⟨rfl, hbb⟩

end Go.Proofs.YtniagnldiegamaaGreat

