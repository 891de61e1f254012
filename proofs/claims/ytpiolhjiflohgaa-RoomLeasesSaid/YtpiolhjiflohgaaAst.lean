/- The reference of layer 13: Great, Value, Proves. -/
import Derived.Test.YtpiolhjiflohgaaAss
namespace Go.Proofs.Ytpiolhjiflohgaa
open Go.RowKit
/-- Great's answer: false only where there are no more than this. -/
def GrQ (w : World) (V : List (List Int)) (e : Ending) (w' : World) : Prop := ∃ z, e = .returned (.bool z) ∧ (z = false → V.length ≠ 6 ∧ V.length ≤ 20 ∧ ∀ i, i < V.length → (V.getD i []).length ≤ 50) ∧ Below w.heap.size w w'
theorem GrQ.yes {w w' : World} {V : List (List Int)} (h : Below w.heap.size w w') : GrQ w V (.returned (.bool true)) w' := ⟨true, rfl, fun h => (by cases h), h⟩
theorem GrQ.no {w w' : World} {V : List (List Int)} (h : Below w.heap.size w w') (h6 : V.length ≠ 6) (h20 : V.length ≤ 20) (hr : ∀ i, i < V.length → (V.getD i []).length ≤ 50) : GrQ w V (.returned (.bool false)) w' := ⟨false, rfl, fun _ => ⟨h6, h20, hr⟩, h⟩
set_option linter.unusedSimpArgs false in
set_option maxRecDepth 100000 in
set_option maxHeartbeats 2000000 in
theorem rGreat_any (A : Option Addr) (cap : Nat) (V : List (List Int)) (w : World) (hl : V.length ≤ maxLen) (h : IsM w A V) :
    Calls Try.prog 40 #[.slice A V.length cap] w (GrQ w V) := by
  have HC := Lib.hid h
  clear h
  unfold maxLen at hl
  go_enter Try.func40, Try.ntmps40
  go_wp2_with fail
  go_loop [3] (fun i => ∃ k : Nat, k ≤ V.length ∧ k ≤ 20 ∧ i = .int .i64 k ∧ Hid (∀ j, j < k → (V.getD j []).length ≤ 50)) (fun i => V.length - (intOf i).toNat)
  case atStart => exact ⟨0, Nat.zero_le _, by omega, rfl, Lib.hid (fun j hj => absurd hj (Nat.not_lt_zero _))⟩
  case round =>
    obtain ⟨k, hk, hk2, rfl, HOK⟩ := hrel
    by_cases hlt : k < V.length
    · have d1 : decide (k < V.length) = true := decide_eq_true hlt
      by_cases h20 : k < 20
      · have d2 : decide ((k : Int) < 20) = true := by rw [decide_eq_true_eq]; omega
        obtain ⟨b, off, rfl, hrows⟩ := HC.out (by omega)
        obtain ⟨R, c, hc, hrl, hI⟩ := hrows k hlt
        clear hrows hI
        unfold maxLen at hrl
        by_cases hq : 50 < (V.getD k []).length
        · generalize (V.getD k []).length = q at *
          go_wp2_with fail
          go_ret
          exact GrQ.yes (Below.refl _ _)
        · have HQ := Lib.hid hq
          generalize hz : (V.getD k []).length = q at hc hq hrl
          have HZ := Lib.hid hz
          clear hz
          go_wp2_with fail
          go_round
          case rel => exact ⟨k + 1, by omega, by omega, by go_num, Lib.hid (fun j hj => (Nat.lt_succ_iff_lt_or_eq.1 hj).elim (HOK.out j) (fun e => by subst e; have := HQ.out; omega))⟩
          case measure => simp [intOf]; omega
      · obtain rfl : k = 20 := by omega
        have d2 : decide ((20 : Int) < 20) = false := rfl
        have d3 : ((V.length : Int) == 6) = false := by rw [beq_eq_false_iff_ne]; omega
        have d4 : decide ((20 : Int) < (V.length : Int)) = true := by rw [decide_eq_true_eq]; omega
        go_wp2_with fail
        go_ret
        exact GrQ.yes (Below.refl _ _)
    · obtain rfl : k = V.length := by omega
      have d1 : decide (V.length < V.length) = false := by simp
      by_cases h6 : V.length = 6
      · have d3 : ((V.length : Int) == 6) = true := by rw [beq_iff_eq]; omega
        clear h6
        go_wp2_with fail
        go_ret
        exact GrQ.yes (Below.refl _ _)
      · have d3 : ((V.length : Int) == 6) = false := by rw [beq_eq_false_iff_ne]; omega
        have H6 := Lib.hid h6
        clear h6
        have d4 : decide ((20 : Int) < (V.length : Int)) = false := by rw [decide_eq_false_iff_not]; omega
        go_wp2_with fail
        go_ret
        exact GrQ.no (Below.refl _ _) H6.out hk2 HOK.out
end Go.Proofs.Ytpiolhjiflohgaa
