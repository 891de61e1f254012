/- Contracts of the functions on 64 and 128 bits (package ratio's wide numbers), for all arguments in their ranges. -/
import Derived.Test.YtnnpmegknlgkoaaProg
import Derived.Test.YtnnpmegknlgkoaaGa
import Derived.Test.YtnnpmegknlgkoaaMul
import Derived.Test.YtnnpmegknlgkoaaBits
import Derived.WalkKit
import Derived.WalkSpells
import Derived.WalkLawsBesides
import Derived.Lib.Hide
import Derived.IntWalk
import Derived.BigQuiet
import Derived.Deep.RegionHeld3
import Derived.Deep.QuietTactic
namespace Go.Proofs.Ytnnpmegknlgkoaa
open Go.RowKit


set_option maxHeartbeats 400000 in
theorem magnitude_any (n : Int) (h1 : -9223372036854775808 ≤ n) (h2 : n ≤ 9223372036854775807) (w : World) :
    Calls Try.prog 93 #[.int .i64 n] w fun e w' => e = .returned (.int .u64 (n.natAbs : Int)) ∧ w = w' := by
  go_enter Try.func93, Try.ntmps93
  go_wp2
  all_goals
    go_ret
    refine ⟨ret_int ?_, rfl⟩
    first | omega | (simp only [IntKind.wrap_u64]; omega)

set_option maxHeartbeats 400000 in
theorem gcd_any (a b : Nat) (ha : a < 18446744073709551616) (hb : b < 18446744073709551616) (w : World) :
    Calls Try.prog 92 #[.int .u64 a, .int .u64 b] w fun e w' => e = .returned (.int .u64 (Nat.gcd a b : Int)) ∧ ∃ n, w' = w.drewN n := by
  go_enter Try.func92, Try.ntmps92
  go_wp2
  go_loopw [0, 1] (fun x y w' => ∃ s t : Nat, s < 18446744073709551616 ∧ t < 18446744073709551616 ∧ Nat.gcd s t = Nat.gcd a b ∧ x = .int .u64 s ∧ y = .int .u64 t ∧ ∃ n, w' = w.drewN n) (fun _ y _ => (intOf y).toNat)
  case atStart => exact ⟨a, b, ha, hb, rfl, rfl, rfl, 0, rfl⟩
  case round =>
    obtain ⟨s, t, hs, ht, hg, rfl, rfl, n, rfl⟩ := hrel
    by_cases h0 : t = 0
    · subst h0
      go_wp2
      go_ret
      exact ⟨ret_int (by rw [← hg, Nat.gcd_zero_right]), n, rfl⟩
    · have hb0 : ((t : Int) != 0) = true := by rw [bne_iff_ne]; omega
      have hz : 0 < t := by omega
      have HG := Lib.hid hg
      clear hg h0
      go_wp2
      go_region
      go_wp2
      go_roundw
      case rel => exact ⟨t, s % t, ht, by have := Nat.mod_lt s hz; omega, by rw [Rp.gcd_mod_right, Nat.gcd_comm, HG.out], rfl, by go_num, n + 1, rfl⟩
      case measure =>
        have := Nat.mod_lt s hz
        simp [intOf]; omega

/-- The number of 128 bits with the halves h and l. -/
def W (h l : Int) : Int := h * 18446744073709551616 + l

theorem ret_bool {a b : Bool} (h : a = b) : Ending.returned (.bool a) = .returned (.bool b) := by rw [h]

set_option maxHeartbeats 400000 in
theorem smaller_any (s1 s2 : Bool) (h1 l1 h2 l2 : Int) (b0 : 0 ≤ l1) (b1 : l1 < 18446744073709551616) (d0 : 0 ≤ l2) (d1 : l2 < 18446744073709551616) (w : World) :
    Calls Try.prog 134 #[.agg #[.bool s1, .int .u64 h1, .int .u64 l1], .agg #[.bool s2, .int .u64 h2, .int .u64 l2]] w fun e w' => e = .returned (.bool (decide (W h1 l1 < W h2 l2))) ∧ Below w.heap.size w w' := by
  by_cases hh : h1 = h2
  · subst hh
    go_enter Try.func134, Try.ntmps134
    go_wp2
    go_ret
    exact ⟨ret_bool (by rw [decide_eq_decide]; unfold W; omega), ((Below.refl _ _).alloc (Nat.le_refl _) _).alloc (by simp) _⟩
  · have hb : (h1 != h2) = true := by rw [bne_iff_ne]; exact hh
    go_enter Try.func134, Try.ntmps134
    go_wp2
    go_ret
    exact ⟨ret_bool (by rw [decide_eq_decide]; unfold W; omega), ((Below.refl _ _).alloc (Nat.le_refl _) _).alloc (by simp) _⟩

set_option maxHeartbeats 400000 in
theorem fits_any (s : Bool) (h l : Int) (a0 : 0 ≤ h) (b0 : 0 ≤ l) (b1 : l < 18446744073709551616) (w : World) :
    Calls Try.prog 139 #[.agg #[.bool s, .int .u64 h, .int .u64 l]] w fun e w' => e = .returned (.bool (decide (W h l ≤ 1000000000000000000))) ∧ Below w.heap.size w w' := by
  by_cases hh : h = 0
  · subst hh
    go_enter Try.func139, Try.ntmps139
    go_wp2
    go_ret
    exact ⟨ret_bool (by first | (rw [decide_eq_decide]; unfold W; omega) | (unfold W; simp)), (Below.refl _ _).alloc (Nat.le_refl _) _⟩
  · have hb : (h == 0) = false := by rw [beq_eq_false_iff_ne]; exact hh
    go_enter Try.func139, Try.ntmps139
    go_wp2
    go_ret
    exact ⟨ret_bool (by symm; rw [decide_eq_false_iff_not]; unfold W; omega), (Below.refl _ _).alloc (Nat.le_refl _) _⟩

set_option maxHeartbeats 400000 in
theorem sign_any (s : Bool) (h l : Int) (a0 : 0 ≤ h) (b0 : 0 ≤ l) (w : World) :
    Calls Try.prog 121 #[.agg #[.bool s, .int .u64 h, .int .u64 l]] w fun e w' => e = .returned (.int .i64 (if W h l = 0 then 0 else if s then -1 else 1)) ∧ Below w.heap.size w w' := by
  by_cases hz : W h l = 0
  · rw [if_pos hz]
    have h0 : h = 0 := by unfold W at hz; omega
    have l0 : l = 0 := by unfold W at hz; omega
    subst h0 l0
    clear hz
    go_enter Try.func121, Try.ntmps121
    go_wp2
    go_ret
    exact ⟨rfl, (Below.refl _ _).alloc (Nat.le_refl _) _⟩
  · rw [if_neg hz]
    by_cases hh : h = 0
    · have hl : (l == 0) = false := by rw [beq_eq_false_iff_ne]; unfold W at hz; omega
      subst hh
      clear hz
      cases s
      all_goals
        go_enter Try.func121, Try.ntmps121
        go_wp2
        go_ret
        exact ⟨rfl, (Below.refl _ _).alloc (Nat.le_refl _) _⟩
    · have hb : (h == 0) = false := by rw [beq_eq_false_iff_ne]; exact hh
      clear hz
      cases s
      all_goals
        go_enter Try.func121, Try.ntmps121
        go_wp2
        go_ret
        exact ⟨rfl, (Below.refl _ _).alloc (Nat.le_refl _) _⟩

/-- What a number with a sign stands for. -/
def sg (s : Bool) (m : Int) : Int := if s then -m else m

set_option maxHeartbeats 400000 in
theorem value_any (s : Bool) (h l : Int) (b0 : 0 ≤ l) (b1 : l ≤ 1000000000000000000) (w : World) :
    Calls Try.prog 140 #[.agg #[.bool s, .int .u64 h, .int .u64 l]] w fun e w' => e = .returned (.int .i64 (sg s l)) ∧ Below w.heap.size w w' := by
  cases s
  all_goals
    go_enter Try.func140, Try.ntmps140
    go_wp2
    go_ret
    exact ⟨rfl, (Below.refl _ _).alloc (Nat.le_refl _) _⟩

theorem below_set {B : Nat} {a w : World} (h : Below B a w) {b o : Nat} (hb : B ≤ b) (u : Value) : Below B a (w.setCell ⟨b, o, none⟩ u) := h.setCell hb u

theorem below_drewN {B : Nat} {a w : World} (h : Below B a w) (n : Nat) : Below B a (w.drewN n) := ⟨h.os, h.tape, h.output, h.size, h.block⟩

set_option maxHeartbeats 400000 in
theorem remainder_any (s : Bool) (h l d : Int) (a0 : 0 ≤ h) (a1 : h < 18446744073709551616) (b0 : 0 ≤ l) (b1 : l < 18446744073709551616) (d0 : 0 < d) (d1 : d < 18446744073709551616) (w : World) :
    Calls Try.prog 126 #[.agg #[.bool s, .int .u64 h, .int .u64 l], .int .u64 d] w fun e w' => e = .returned (.int .u64 (W h l % d)) ∧ Below w.heap.size w w' := by
  go_enter Try.func126, Try.ntmps126
  go_wp2_with (go_at_call 138; refine (rem64_any _ _ _ a0 a1 d0 d1 b0 b1 _).mono ?_; rintro e w' ⟨rfl, n, rfl⟩)
  go_ret
  exact ⟨rfl, below_drewN ((Below.refl _ _).alloc (Nat.le_refl _) _) n⟩

theorem W_split (m : Int) : W (m / 18446744073709551616) (m % 18446744073709551616) = m := by unfold W; omega
theorem W_hi (h l : Int) (b0 : 0 ≤ l) (b1 : l < 18446744073709551616) : W h l / 18446744073709551616 = h := by unfold W; omega
theorem W_lo (h l : Int) (b0 : 0 ≤ l) (b1 : l < 18446744073709551616) : W h l % 18446744073709551616 = l := by unfold W; omega

theorem over_parts (h l d : Int) (b0 : 0 ≤ l) (b1 : l < 18446744073709551616) (d0 : 0 < d) :
    W h l / d / 18446744073709551616 = h / d ∧ W h l / d % 18446744073709551616 = (h % d * 18446744073709551616 + l) / d := by
  have q0 := Int.emod_nonneg h (b := d) (by omega)
  have q1 := Int.emod_lt_of_pos h d0
  have e := Int.mul_ediv_add_emod h d
  have e2 : W h l = (h % d * 18446744073709551616 + l) + d * (h / d * 18446744073709551616) := by
    unfold W
    generalize h / d = A at *
    generalize h % d = R at *
    rw [← e]; grind
  have e3 : W h l / d = (h % d * 18446744073709551616 + l) / d + h / d * 18446744073709551616 := by
    rw [e2, Int.add_mul_ediv_left _ _ (by omega)]
  have l0 : 0 ≤ (h % d * 18446744073709551616 + l) / d := Int.ediv_nonneg (by omega) (by omega)
  have l1 : (h % d * 18446744073709551616 + l) / d < 18446744073709551616 := by
    refine Int.ediv_lt_of_lt_mul d0 ?_
    rw [Int.mul_comm]; omega
  rw [e3]
  omega

set_option maxHeartbeats 400000 in
theorem over_any (s : Bool) (h l d : Int) (a0 : 0 ≤ h) (a1 : h < 18446744073709551616) (b0 : 0 ≤ l) (b1 : l < 18446744073709551616) (d0 : 0 < d) (d1 : d < 18446744073709551616) (w : World) :
    Calls Try.prog 128 #[.agg #[.bool s, .int .u64 h, .int .u64 l], .int .u64 d] w fun e w' => e = .returned (.agg #[.bool s, .int .u64 (W h l / d / 18446744073709551616), .int .u64 (W h l / d % 18446744073709551616)]) ∧ Below w.heap.size w w' := by
  obtain ⟨o1, o2⟩ := over_parts h l d b0 b1 d0
  rw [o1, o2]
  clear o1 o2
  have q0 := Int.emod_nonneg h (b := d) (by omega)
  have q1 := Int.emod_lt_of_pos h d0
  go_enter Try.func128, Try.ntmps128
  go_wp2_with fail
  go_quiet ((go_at_call 141; exact Calls.quiet_of (div64_any _ _ _ q0 q1 d1 b0 b1 _)))
  go_wp2
  go_region
  go_wp2
  exact bodyPost_ret (v := .agg #[.bool s, .int .u64 (h / d), .int .u64 ((h % d * 18446744073709551616 + l) / d)]) (by simp [results, Try.results128, go_sem]) rfl
    ⟨rfl, (((below_drewN (((Below.refl _ _).alloc (Nat.le_refl _) _).alloc (by simp) _) _).setCell (by simp) _).setCell (by simp) _).setCell (by simp) _⟩

/-- The sign of a product. -/
def ngB (a b : Int) : Bool := !(decide (a < 0) == decide (b < 0))

set_option maxHeartbeats 400000 in
theorem product_any (a b : Int) (a0 : -9223372036854775808 ≤ a) (a1 : a ≤ 9223372036854775807) (b0 : -9223372036854775808 ≤ b) (b1 : b ≤ 9223372036854775807) (w : World) :
    Calls Try.prog 120 #[.int .i64 a, .int .i64 b] w fun e w' => e = .returned (.agg #[.bool (ngB a b), .int .u64 ((a.natAbs : Int) * b.natAbs / 18446744073709551616), .int .u64 ((a.natAbs : Int) * b.natAbs % 18446744073709551616)]) ∧ Below w.heap.size w w' := by
  go_enter Try.func120, Try.ntmps120
  go_wp2_with (first
    | (go_at_call 93; refine (magnitude_any _ (by assumption) (by assumption) _).mono ?_; rintro e w' ⟨rfl, rfl⟩)
    | (go_at_call 136; refine (mul64_any _ _ (by omega) (by omega) (by omega) (by omega) _).mono ?_; rintro e w' ⟨rfl, rfl⟩))
  exact bodyPost_ret (v := .agg #[.bool (ngB a b), .int .u64 ((a.natAbs : Int) * b.natAbs / 18446744073709551616), .int .u64 ((a.natAbs : Int) * b.natAbs % 18446744073709551616)]) (by simp [results, Try.results120, go_sem, ngB]) rfl
    ⟨rfl, (Below.refl _ _).alloc (Nat.le_refl _) _⟩

theorem bcell {V w1 : World} (hb : Below V.heap.size V w1) : (∀ b o, b < V.heap.size → w1.cell? ⟨b, o, none⟩ = V.cell? ⟨b, o, none⟩) ∧ (∀ b o, b < V.heap.size → w1.frozen? ⟨b, o, none⟩ = V.frozen? ⟨b, o, none⟩) :=
  ⟨fun b o h => hb.cell (p := ⟨b, o, none⟩) h, fun b o h => hb.frozen (p := ⟨b, o, none⟩) h⟩

end Go.Proofs.Ytnnpmegknlgkoaa
