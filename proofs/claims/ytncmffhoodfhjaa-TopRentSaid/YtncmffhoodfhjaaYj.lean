/- Contracts of the functions on 64 and 128 bits (package ratio's wide numbers), for all arguments in their ranges. Contract of the sum of two wide numbers (package ratio). Contracts of package ratio's lowest, Check and checkBoth. Contracts of package ratio's Check, checkBoth, opposite and inverse. -/
import Derived.Test.YtncmffhoodfhjaaProg
import Derived.Test.YtncmffhoodfhjaaYc
import Derived.Test.YtncmffhoodfhjaaMul
import Derived.Test.YtncmffhoodfhjaaBits
import Derived.WalkKit
import Derived.WalkSpells
import Derived.WalkLawsBesides
import Derived.Lib.Hide
import Derived.IntWalk
import Derived.BigQuiet
import Derived.Deep.RegionHeld3
import Derived.Deep.QuietTactic
import Derived.Test.YtncmffhoodfhjaaYa
import Derived.RegionTactic
namespace Go.Proofs.Ytncmffhoodfhjaa
open Go.RowKit


set_option maxHeartbeats 400000 in
theorem magnitude_any (n : Int) (h1 : -9223372036854775808 ≤ n) (h2 : n ≤ 9223372036854775807) (w : World) :
    Calls Try.prog 85 #[.int .i64 n] w fun e w' => e = .returned (.int .u64 (n.natAbs : Int)) ∧ w = w' := by
  go_enter Try.func85, Try.ntmps85
  go_wp2
  all_goals
    go_ret
    refine ⟨ret_int ?_, rfl⟩
    first | omega | (simp only [IntKind.wrap_u64]; omega)

set_option maxHeartbeats 400000 in
theorem gcd_any (a b : Nat) (ha : a < 18446744073709551616) (hb : b < 18446744073709551616) (w : World) :
    Calls Try.prog 86 #[.int .u64 a, .int .u64 b] w fun e w' => e = .returned (.int .u64 (Nat.gcd a b : Int)) ∧ ∃ n, w' = w.drewN n := by
  go_enter Try.func86, Try.ntmps86
  go_wp2
  go_loopw [0, 1] (fun x y w' => ∃ s t : Nat, s < 18446744073709551616 ∧ t < 18446744073709551616 ∧ Nat.gcd s t = Nat.gcd a b ∧ x = .int .u64 s ∧ y = .int .u64 t ∧ ∃ n, w' = w.drewN n) (fun _ y _ => (intOf y).toNat)
  case atStart => exact ⟨a, b, ha, hb, rfl, rfl, rfl, 0, rfl⟩
  case round =>
    obtain ⟨s, t, hs, ht, hg, rfl, rfl, n, rfl⟩ := hrel
    by_cases h0 : t = 0
    · subst h0
      go_wp2
      go_ret
      exact ⟨ret_int (by rw [← hg, Nat.gcd_zero_right]), n, rfl⟩
    · have hb0 : ((t : Int) != 0) = true := by rw [bne_iff_ne]; omega
      have hz : 0 < t := by omega
      have HG := Lib.hid hg
      clear hg h0
      go_wp2
      go_region
      go_wp2
      go_roundw
      case rel => exact ⟨t, s % t, ht, by have := Nat.mod_lt s hz; omega, by rw [Rp.gcd_mod_right, Nat.gcd_comm, HG.out], rfl, by go_num, n + 1, rfl⟩
      case measure =>
        have := Nat.mod_lt s hz
        simp [intOf]; omega

/-- The number of 128 bits with the halves h and l. -/
def W (h l : Int) : Int := h * 18446744073709551616 + l

theorem ret_bool {a b : Bool} (h : a = b) : Ending.returned (.bool a) = .returned (.bool b) := by rw [h]

set_option maxHeartbeats 400000 in
theorem smaller_any (s1 s2 : Bool) (h1 l1 h2 l2 : Int) (b0 : 0 ≤ l1) (b1 : l1 < 18446744073709551616) (d0 : 0 ≤ l2) (d1 : l2 < 18446744073709551616) (w : World) :
    Calls Try.prog 104 #[.agg #[.bool s1, .int .u64 h1, .int .u64 l1], .agg #[.bool s2, .int .u64 h2, .int .u64 l2]] w fun e w' => e = .returned (.bool (decide (W h1 l1 < W h2 l2))) ∧ Below w.heap.size w w' := by
  by_cases hh : h1 = h2
  · subst hh
    go_enter Try.func104, Try.ntmps104
    go_wp2
    go_ret
    exact ⟨ret_bool (by rw [decide_eq_decide]; unfold W; omega), ((Below.refl _ _).alloc (Nat.le_refl _) _).alloc (by simp) _⟩
  · have hb : (h1 != h2) = true := by rw [bne_iff_ne]; exact hh
    go_enter Try.func104, Try.ntmps104
    go_wp2
    go_ret
    exact ⟨ret_bool (by rw [decide_eq_decide]; unfold W; omega), ((Below.refl _ _).alloc (Nat.le_refl _) _).alloc (by simp) _⟩

set_option maxHeartbeats 400000 in
theorem fits_any (s : Bool) (h l : Int) (a0 : 0 ≤ h) (b0 : 0 ≤ l) (b1 : l < 18446744073709551616) (w : World) :
    Calls Try.prog 97 #[.agg #[.bool s, .int .u64 h, .int .u64 l]] w fun e w' => e = .returned (.bool (decide (W h l ≤ 1000000000000000000))) ∧ Below w.heap.size w w' := by
  by_cases hh : h = 0
  · subst hh
    go_enter Try.func97, Try.ntmps97
    go_wp2
    go_ret
    exact ⟨ret_bool (by first | (rw [decide_eq_decide]; unfold W; omega) | (unfold W; simp)), (Below.refl _ _).alloc (Nat.le_refl _) _⟩
  · have hb : (h == 0) = false := by rw [beq_eq_false_iff_ne]; exact hh
    go_enter Try.func97, Try.ntmps97
    go_wp2
    go_ret
    exact ⟨ret_bool (by symm; rw [decide_eq_false_iff_not]; unfold W; omega), (Below.refl _ _).alloc (Nat.le_refl _) _⟩


/-- What a number with a sign stands for. -/
def sg (s : Bool) (m : Int) : Int := if s then -m else m

set_option maxHeartbeats 400000 in
theorem value_any (s : Bool) (h l : Int) (b0 : 0 ≤ l) (b1 : l ≤ 1000000000000000000) (w : World) :
    Calls Try.prog 98 #[.agg #[.bool s, .int .u64 h, .int .u64 l]] w fun e w' => e = .returned (.int .i64 (sg s l)) ∧ Below w.heap.size w w' := by
  cases s
  all_goals
    go_enter Try.func98, Try.ntmps98
    go_wp2
    go_ret
    exact ⟨rfl, (Below.refl _ _).alloc (Nat.le_refl _) _⟩

theorem below_set {B : Nat} {a w : World} (h : Below B a w) {b o : Nat} (hb : B ≤ b) (u : Value) : Below B a (w.setCell ⟨b, o, none⟩ u) := h.setCell hb u

theorem below_drewN {B : Nat} {a w : World} (h : Below B a w) (n : Nat) : Below B a (w.drewN n) := ⟨h.os, h.tape, h.output, h.size, h.block⟩

set_option maxHeartbeats 400000 in
theorem remainder_any (s : Bool) (h l d : Int) (a0 : 0 ≤ h) (a1 : h < 18446744073709551616) (b0 : 0 ≤ l) (b1 : l < 18446744073709551616) (d0 : 0 < d) (d1 : d < 18446744073709551616) (w : World) :
    Calls Try.prog 95 #[.agg #[.bool s, .int .u64 h, .int .u64 l], .int .u64 d] w fun e w' => e = .returned (.int .u64 (W h l % d)) ∧ Below w.heap.size w w' := by
  go_enter Try.func95, Try.ntmps95
  go_wp2_with (go_at_call 107; refine (rem64_any _ _ _ a0 a1 d0 d1 b0 b1 _).mono ?_; rintro e w' ⟨rfl, n, rfl⟩)
  go_ret
  exact ⟨rfl, below_drewN ((Below.refl _ _).alloc (Nat.le_refl _) _) n⟩

theorem W_split (m : Int) : W (m / 18446744073709551616) (m % 18446744073709551616) = m := by unfold W; omega
theorem W_hi (h l : Int) (b0 : 0 ≤ l) (b1 : l < 18446744073709551616) : W h l / 18446744073709551616 = h := by unfold W; omega
theorem W_lo (h l : Int) (b0 : 0 ≤ l) (b1 : l < 18446744073709551616) : W h l % 18446744073709551616 = l := by unfold W; omega

theorem over_parts (h l d : Int) (b0 : 0 ≤ l) (b1 : l < 18446744073709551616) (d0 : 0 < d) :
    W h l / d / 18446744073709551616 = h / d ∧ W h l / d % 18446744073709551616 = (h % d * 18446744073709551616 + l) / d := by
  have q0 := Int.emod_nonneg h (b := d) (by omega)
  have q1 := Int.emod_lt_of_pos h d0
  have e := Int.mul_ediv_add_emod h d
  have e2 : W h l = (h % d * 18446744073709551616 + l) + d * (h / d * 18446744073709551616) := by
    unfold W
    generalize h / d = A at *
    generalize h % d = R at *
    rw [← e]; grind
  have e3 : W h l / d = (h % d * 18446744073709551616 + l) / d + h / d * 18446744073709551616 := by
    rw [e2, Int.add_mul_ediv_left _ _ (by omega)]
  have l0 : 0 ≤ (h % d * 18446744073709551616 + l) / d := Int.ediv_nonneg (by omega) (by omega)
  have l1 : (h % d * 18446744073709551616 + l) / d < 18446744073709551616 := by
    refine Int.ediv_lt_of_lt_mul d0 ?_
    rw [Int.mul_comm]; omega
  rw [e3]
  omega

set_option maxHeartbeats 400000 in
theorem over_any (s : Bool) (h l d : Int) (a0 : 0 ≤ h) (a1 : h < 18446744073709551616) (b0 : 0 ≤ l) (b1 : l < 18446744073709551616) (d0 : 0 < d) (d1 : d < 18446744073709551616) (w : World) :
    Calls Try.prog 96 #[.agg #[.bool s, .int .u64 h, .int .u64 l], .int .u64 d] w fun e w' => e = .returned (.agg #[.bool s, .int .u64 (W h l / d / 18446744073709551616), .int .u64 (W h l / d % 18446744073709551616)]) ∧ Below w.heap.size w w' := by
  obtain ⟨o1, o2⟩ := over_parts h l d b0 b1 d0
  rw [o1, o2]
  clear o1 o2
  have q0 := Int.emod_nonneg h (b := d) (by omega)
  have q1 := Int.emod_lt_of_pos h d0
  go_enter Try.func96, Try.ntmps96
  go_wp2_with fail
  go_quiet ((go_at_call 108; exact Calls.quiet_of (div64_any _ _ _ q0 q1 d1 b0 b1 _)))
  go_wp2
  go_region
  go_wp2
  exact bodyPost_ret (v := .agg #[.bool s, .int .u64 (h / d), .int .u64 ((h % d * 18446744073709551616 + l) / d)]) (by simp [results, Try.results96, go_sem]) rfl
    ⟨rfl, (((below_drewN (((Below.refl _ _).alloc (Nat.le_refl _) _).alloc (by simp) _) _).setCell (by simp) _).setCell (by simp) _).setCell (by simp) _⟩

/-- The sign of a product. -/
def ngB (a b : Int) : Bool := !(decide (a < 0) == decide (b < 0))

set_option maxHeartbeats 400000 in
theorem product_any (a b : Int) (a0 : -9223372036854775808 ≤ a) (a1 : a ≤ 9223372036854775807) (b0 : -9223372036854775808 ≤ b) (b1 : b ≤ 9223372036854775807) (w : World) :
    Calls Try.prog 94 #[.int .i64 a, .int .i64 b] w fun e w' => e = .returned (.agg #[.bool (ngB a b), .int .u64 ((a.natAbs : Int) * b.natAbs / 18446744073709551616), .int .u64 ((a.natAbs : Int) * b.natAbs % 18446744073709551616)]) ∧ Below w.heap.size w w' := by
  go_enter Try.func94, Try.ntmps94
  go_wp2_with (first
    | (go_at_call 85; refine (magnitude_any _ (by assumption) (by assumption) _).mono ?_; rintro e w' ⟨rfl, rfl⟩)
    | (go_at_call 106; refine (mul64_any _ _ (by omega) (by omega) (by omega) (by omega) _).mono ?_; rintro e w' ⟨rfl, rfl⟩))
  exact bodyPost_ret (v := .agg #[.bool (ngB a b), .int .u64 ((a.natAbs : Int) * b.natAbs / 18446744073709551616), .int .u64 ((a.natAbs : Int) * b.natAbs % 18446744073709551616)]) (by simp [results, Try.results94, go_sem, ngB]) rfl
    ⟨rfl, (Below.refl _ _).alloc (Nat.le_refl _) _⟩

theorem bcell {V w1 : World} (hb : Below V.heap.size V w1) : (∀ b o, b < V.heap.size → w1.cell? ⟨b, o, none⟩ = V.cell? ⟨b, o, none⟩) ∧ (∀ b o, b < V.heap.size → w1.frozen? ⟨b, o, none⟩ = V.frozen? ⟨b, o, none⟩) :=
  ⟨fun b o h => hb.cell (p := ⟨b, o, none⟩) h, fun b o h => hb.frozen (p := ⟨b, o, none⟩) h⟩

end Go.Proofs.Ytncmffhoodfhjaa
namespace Go.Proofs.Ytncmffhoodfhjaa
open Go.RowKit

/-- The sum of two numbers with signs. -/
def plS (s1 : Bool) (m1 : Int) (s2 : Bool) (m2 : Int) : Bool := if s1 = s2 then s1 else if m1 < m2 then s2 else s1
def plM (s1 : Bool) (m1 : Int) (s2 : Bool) (m2 : Int) : Int := if s1 = s2 then m1 + m2 else if m1 < m2 then m2 - m1 else m1 - m2

set_option maxHeartbeats 1000000 in
theorem plus_same (s : Bool) (h1 l1 h2 l2 : Int) (a0 : 0 ≤ h1) (b0 : 0 ≤ l1) (b1 : l1 < 18446744073709551616) (c0 : 0 ≤ h2) (d0 : 0 ≤ l2) (d1 : l2 < 18446744073709551616)
    (hs : W h1 l1 + W h2 l2 < 340282366920938463463374607431768211456) (w : World) :
    Calls Try.prog 93 #[.agg #[.bool s, .int .u64 h1, .int .u64 l1], .agg #[.bool s, .int .u64 h2, .int .u64 l2]] w fun e w' =>
      e = .returned (.agg #[.bool s, .int .u64 ((W h1 l1 + W h2 l2) / 18446744073709551616), .int .u64 ((W h1 l1 + W h2 l2) % 18446744073709551616)]) ∧ Below w.heap.size w w' := by
  have e1 := fun w => add64_run l1 l2 0 b0 d0 (by omega) (by omega) w
  rw [Int.add_zero] at e1
  have g1 : 0 ≤ (l1 + l2) / 18446744073709551616 := by omega
  have g2 : (l1 + l2) / 18446744073709551616 ≤ 1 := by omega
  have e2 := fun w => add64_run h1 h2 _ a0 c0 g1 g2 w
  have k1 : (W h1 l1 + W h2 l2) / 18446744073709551616 = (h1 + h2 + (l1 + l2) / 18446744073709551616) % 18446744073709551616 := by unfold W at *; omega
  have k2 : (W h1 l1 + W h2 l2) % 18446744073709551616 = (l1 + l2) % 18446744073709551616 := by unfold W at *; omega
  rw [k1, k2]
  clear k1 k2 hs
  generalize (h1 + h2 + (l1 + l2) / 18446744073709551616) % 18446744073709551616 = H at *
  generalize (h1 + h2 + (l1 + l2) / 18446744073709551616) / 18446744073709551616 = H' at *
  generalize (l1 + l2) % 18446744073709551616 = L at *
  generalize (l1 + l2) / 18446744073709551616 = C at *
  go_enter Try.func93, Try.ntmps93
  go_wp2
  exact bodyPost_ret (v := .agg #[.bool s, .int .u64 H, .int .u64 L]) (by simp [results, Try.results93, go_sem]) rfl
    ⟨rfl, (((Below.refl _ _).alloc (Nat.le_refl _) _).alloc (by simp) _).alloc (by simp; omega) _⟩

set_option maxHeartbeats 1000000 in
theorem plus_less (s1 s2 : Bool) (hne : s1 ≠ s2) (h1 l1 h2 l2 : Int) (a0 : 0 ≤ h1) (b0 : 0 ≤ l1) (b1 : l1 < 18446744073709551616) (c0 : 0 ≤ h2) (c1 : h2 < 18446744073709551616) (d0 : 0 ≤ l2) (d1 : l2 < 18446744073709551616)
    (a1 : h1 < 18446744073709551616) (hs : W h1 l1 < W h2 l2) (w : World) :
    Calls Try.prog 93 #[.agg #[.bool s1, .int .u64 h1, .int .u64 l1], .agg #[.bool s2, .int .u64 h2, .int .u64 l2]] w fun e w' =>
      e = .returned (.agg #[.bool s2, .int .u64 ((W h2 l2 - W h1 l1) / 18446744073709551616), .int .u64 ((W h2 l2 - W h1 l1) % 18446744073709551616)]) ∧ Below w.heap.size w w' := by
  have hb : (s1 == s2) = false := by rw [beq_eq_false_iff_ne]; exact hne
  have e1 := fun w => sub64_run l2 l1 0 d0 b0 b1 (by omega) (by omega) w
  rw [Int.add_zero, Int.sub_zero] at e1
  obtain ⟨C, hC⟩ : ∃ C : Int, C = if l2 < l1 then 1 else 0 := ⟨_, rfl⟩
  rw [← hC] at e1
  have g : 0 ≤ C ∧ C ≤ 1 ∧ (C = 1 → l2 < l1) ∧ (C = 0 → l1 ≤ l2) := by rw [hC]; split <;> omega
  obtain ⟨g1, g2, g3, g4⟩ := g
  have e2 := fun w => sub64_run h2 h1 C c0 a0 a1 g1 g2 w
  have k1 : (W h2 l2 - W h1 l1) / 18446744073709551616 = (h2 - h1 - C) % 18446744073709551616 := by unfold W at *; omega
  have k2 : (W h2 l2 - W h1 l1) % 18446744073709551616 = (l2 - l1) % 18446744073709551616 := by unfold W at *; omega
  rw [k1, k2]
  have hsm := fun w => smaller_any s1 s2 h1 l1 h2 l2 b0 b1 d0 d1 w
  rw [decide_eq_true hs] at hsm
  clear k1 k2 hs g1 g2 g3 g4
  clear hC
  generalize (h2 - h1 - C) % 18446744073709551616 = H at *
  generalize (l2 - l1) % 18446744073709551616 = L at *
  generalize (if h2 < h1 + C then (1 : Int) else 0) = C2 at *
  have HS := Lib.hid hsm
  clear hsm
  clear hne
  go_enter Try.func93, Try.ntmps93
  go_wp2_with fail
  refine (HS.out _).mono ?_
  rintro e w1 ⟨rfl, hb1⟩
  obtain ⟨hc, hf⟩ := bcell hb1
  have x0 : w1.cell? ⟨w.heap.size, 0, none⟩ = some (.bool s1) := (hc _ _ (by simp; omega)).trans (by go_simp)
  have fx0 : w1.frozen? ⟨w.heap.size, 0, none⟩ = false := (hf _ _ (by simp; omega)).trans (by go_simp)
  have x1 : w1.cell? ⟨w.heap.size, 1, none⟩ = some (.int .u64 h1) := (hc _ _ (by simp; omega)).trans (by go_simp)
  have fx1 : w1.frozen? ⟨w.heap.size, 1, none⟩ = false := (hf _ _ (by simp; omega)).trans (by go_simp)
  have x2 : w1.cell? ⟨w.heap.size, 2, none⟩ = some (.int .u64 l1) := (hc _ _ (by simp; omega)).trans (by go_simp)
  have fx2 : w1.frozen? ⟨w.heap.size, 2, none⟩ = false := (hf _ _ (by simp; omega)).trans (by go_simp)
  have y0 : w1.cell? ⟨w.heap.size + 1, 0, none⟩ = some (.bool s2) := (hc _ _ (by simp)).trans (by go_simp)
  have fy0 : w1.frozen? ⟨w.heap.size + 1, 0, none⟩ = false := (hf _ _ (by simp)).trans (by go_simp)
  have y1 : w1.cell? ⟨w.heap.size + 1, 1, none⟩ = some (.int .u64 h2) := (hc _ _ (by simp)).trans (by go_simp)
  have fy1 : w1.frozen? ⟨w.heap.size + 1, 1, none⟩ = false := (hf _ _ (by simp)).trans (by go_simp)
  have y2 : w1.cell? ⟨w.heap.size + 1, 2, none⟩ = some (.int .u64 l2) := (hc _ _ (by simp)).trans (by go_simp)
  have fy2 : w1.frozen? ⟨w.heap.size + 1, 2, none⟩ = false := (hf _ _ (by simp)).trans (by go_simp)
  have z0 : w1.cell? ⟨w.heap.size + 1 + 1, 0, none⟩ = some (.bool false) := (hc _ _ (by simp)).trans (by go_simp)
  have fz0 : w1.frozen? ⟨w.heap.size + 1 + 1, 0, none⟩ = false := (hf _ _ (by simp)).trans (by go_simp)
  have z1 : w1.cell? ⟨w.heap.size + 1 + 1, 1, none⟩ = some (.int .u64 0) := (hc _ _ (by simp)).trans (by go_simp)
  have fz1 : w1.frozen? ⟨w.heap.size + 1 + 1, 1, none⟩ = false := (hf _ _ (by simp)).trans (by go_simp)
  have z2 : w1.cell? ⟨w.heap.size + 1 + 1, 2, none⟩ = some (.int .u64 0) := (hc _ _ (by simp)).trans (by go_simp)
  have fz2 : w1.frozen? ⟨w.heap.size + 1 + 1, 2, none⟩ = false := (hf _ _ (by simp)).trans (by go_simp)
  clear hc hf
  have hz : w.heap.size + 2 < w1.heap.size := by have := hb1.size; simp at this; omega
  have hbb : Below w.heap.size w w1 := (((Below.refl _ _).alloc (Nat.le_refl _) _).alloc (by simp) _).alloc (by simp; omega) _ |>.trans (hb1.mono (by simp; omega))
  clear hb1
  go_wp2
  exact bodyPost_ret (v := .agg #[.bool s2, .int .u64 H, .int .u64 L]) (by simp [results, Try.results93, go_sem, z0, z1, z2]) rfl
    ⟨rfl, below_set (below_set (below_set (below_set (below_set (below_set (below_set (below_set (below_set hbb (by omega) _) (by omega) _) (by omega) _) (by omega) _) (by omega) _) (by omega) _) (by omega) _) (by omega) _) (by omega) _⟩
set_option maxHeartbeats 1000000 in
theorem plus_geq (s1 s2 : Bool) (hne : s1 ≠ s2) (h1 l1 h2 l2 : Int) (a0 : 0 ≤ h1) (b0 : 0 ≤ l1) (b1 : l1 < 18446744073709551616) (c0 : 0 ≤ h2) (c1 : h2 < 18446744073709551616) (d0 : 0 ≤ l2) (d1 : l2 < 18446744073709551616)
    (a1 : h1 < 18446744073709551616) (hs : ¬ W h1 l1 < W h2 l2) (w : World) :
    Calls Try.prog 93 #[.agg #[.bool s1, .int .u64 h1, .int .u64 l1], .agg #[.bool s2, .int .u64 h2, .int .u64 l2]] w fun e w' =>
      e = .returned (.agg #[.bool s1, .int .u64 ((W h1 l1 - W h2 l2) / 18446744073709551616), .int .u64 ((W h1 l1 - W h2 l2) % 18446744073709551616)]) ∧ Below w.heap.size w w' := by
  have hb : (s1 == s2) = false := by rw [beq_eq_false_iff_ne]; exact hne
  have e1 := fun w => sub64_run l1 l2 0 b0 d0 d1 (by omega) (by omega) w
  rw [Int.add_zero, Int.sub_zero] at e1
  obtain ⟨C, hC⟩ : ∃ C : Int, C = if l1 < l2 then 1 else 0 := ⟨_, rfl⟩
  rw [← hC] at e1
  have g : 0 ≤ C ∧ C ≤ 1 ∧ (C = 1 → l1 < l2) ∧ (C = 0 → l2 ≤ l1) := by rw [hC]; split <;> omega
  obtain ⟨g1, g2, g3, g4⟩ := g
  have e2 := fun w => sub64_run h1 h2 C a0 c0 c1 g1 g2 w
  have k1 : (W h1 l1 - W h2 l2) / 18446744073709551616 = (h1 - h2 - C) % 18446744073709551616 := by unfold W at *; omega
  have k2 : (W h1 l1 - W h2 l2) % 18446744073709551616 = (l1 - l2) % 18446744073709551616 := by unfold W at *; omega
  rw [k1, k2]
  have hsm := fun w => smaller_any s1 s2 h1 l1 h2 l2 b0 b1 d0 d1 w
  rw [decide_eq_false hs] at hsm
  clear k1 k2 hs g1 g2 g3 g4
  clear hC
  generalize (h1 - h2 - C) % 18446744073709551616 = H at *
  generalize (l1 - l2) % 18446744073709551616 = L at *
  generalize (if h1 < h2 + C then (1 : Int) else 0) = C2 at *
  have HS := Lib.hid hsm
  clear hsm
  clear hne
  go_enter Try.func93, Try.ntmps93
  go_wp2_with fail
  refine (HS.out _).mono ?_
  rintro e w1 ⟨rfl, hb1⟩
  obtain ⟨hc, hf⟩ := bcell hb1
  have x0 : w1.cell? ⟨w.heap.size, 0, none⟩ = some (.bool s1) := (hc _ _ (by simp; omega)).trans (by go_simp)
  have fx0 : w1.frozen? ⟨w.heap.size, 0, none⟩ = false := (hf _ _ (by simp; omega)).trans (by go_simp)
  have x1 : w1.cell? ⟨w.heap.size, 1, none⟩ = some (.int .u64 h1) := (hc _ _ (by simp; omega)).trans (by go_simp)
  have fx1 : w1.frozen? ⟨w.heap.size, 1, none⟩ = false := (hf _ _ (by simp; omega)).trans (by go_simp)
  have x2 : w1.cell? ⟨w.heap.size, 2, none⟩ = some (.int .u64 l1) := (hc _ _ (by simp; omega)).trans (by go_simp)
  have fx2 : w1.frozen? ⟨w.heap.size, 2, none⟩ = false := (hf _ _ (by simp; omega)).trans (by go_simp)
  have y0 : w1.cell? ⟨w.heap.size + 1, 0, none⟩ = some (.bool s2) := (hc _ _ (by simp)).trans (by go_simp)
  have fy0 : w1.frozen? ⟨w.heap.size + 1, 0, none⟩ = false := (hf _ _ (by simp)).trans (by go_simp)
  have y1 : w1.cell? ⟨w.heap.size + 1, 1, none⟩ = some (.int .u64 h2) := (hc _ _ (by simp)).trans (by go_simp)
  have fy1 : w1.frozen? ⟨w.heap.size + 1, 1, none⟩ = false := (hf _ _ (by simp)).trans (by go_simp)
  have y2 : w1.cell? ⟨w.heap.size + 1, 2, none⟩ = some (.int .u64 l2) := (hc _ _ (by simp)).trans (by go_simp)
  have fy2 : w1.frozen? ⟨w.heap.size + 1, 2, none⟩ = false := (hf _ _ (by simp)).trans (by go_simp)
  have z0 : w1.cell? ⟨w.heap.size + 1 + 1, 0, none⟩ = some (.bool false) := (hc _ _ (by simp)).trans (by go_simp)
  have fz0 : w1.frozen? ⟨w.heap.size + 1 + 1, 0, none⟩ = false := (hf _ _ (by simp)).trans (by go_simp)
  have z1 : w1.cell? ⟨w.heap.size + 1 + 1, 1, none⟩ = some (.int .u64 0) := (hc _ _ (by simp)).trans (by go_simp)
  have fz1 : w1.frozen? ⟨w.heap.size + 1 + 1, 1, none⟩ = false := (hf _ _ (by simp)).trans (by go_simp)
  have z2 : w1.cell? ⟨w.heap.size + 1 + 1, 2, none⟩ = some (.int .u64 0) := (hc _ _ (by simp)).trans (by go_simp)
  have fz2 : w1.frozen? ⟨w.heap.size + 1 + 1, 2, none⟩ = false := (hf _ _ (by simp)).trans (by go_simp)
  clear hc hf
  have hz : w.heap.size + 2 < w1.heap.size := by have := hb1.size; simp at this; omega
  have hbb : Below w.heap.size w w1 := (((Below.refl _ _).alloc (Nat.le_refl _) _).alloc (by simp) _).alloc (by simp; omega) _ |>.trans (hb1.mono (by simp; omega))
  clear hb1
  go_wp2
  exact bodyPost_ret (v := .agg #[.bool s1, .int .u64 H, .int .u64 L]) (by simp [results, Try.results93, go_sem, z0, z1, z2]) rfl
    ⟨rfl, below_set (below_set (below_set hbb (by omega) _) (by omega) _) (by omega) _⟩

theorem plus_any (s1 s2 : Bool) (h1 l1 h2 l2 : Int) (a0 : 0 ≤ h1) (a1 : h1 < 18446744073709551616) (b0 : 0 ≤ l1) (b1 : l1 < 18446744073709551616) (c0 : 0 ≤ h2) (c1 : h2 < 18446744073709551616) (d0 : 0 ≤ l2) (d1 : l2 < 18446744073709551616)
    (hs : W h1 l1 + W h2 l2 < 340282366920938463463374607431768211456) (w : World) :
    Calls Try.prog 93 #[.agg #[.bool s1, .int .u64 h1, .int .u64 l1], .agg #[.bool s2, .int .u64 h2, .int .u64 l2]] w fun e w' =>
      e = .returned (.agg #[.bool (plS s1 (W h1 l1) s2 (W h2 l2)), .int .u64 (plM s1 (W h1 l1) s2 (W h2 l2) / 18446744073709551616), .int .u64 (plM s1 (W h1 l1) s2 (W h2 l2) % 18446744073709551616)]) ∧ Below w.heap.size w w' := by
  unfold plS plM
  by_cases h : s1 = s2
  · subst h
    simp only [if_pos]
    exact plus_same s1 h1 l1 h2 l2 a0 b0 b1 c0 d0 d1 hs w
  · simp only [if_neg h]
    by_cases k : W h1 l1 < W h2 l2
    · simp only [if_pos k]
      exact plus_less s1 s2 h h1 l1 h2 l2 a0 b0 b1 c0 c1 d0 d1 a1 k w
    · simp only [if_neg k]
      exact plus_geq s1 s2 h h1 l1 h2 l2 a0 b0 b1 c0 c1 d0 d1 a1 k w

theorem sg_plus (s1 s2 : Bool) (m1 m2 : Int) : sg (plS s1 m1 s2 m2) (plM s1 m1 s2 m2) = sg s1 m1 + sg s2 m2 := by
  unfold sg plS plM
  by_cases h : m1 < m2 <;> cases s1 <;> cases s2 <;> simp [h] <;> (try omega)
theorem plM_bd (s1 s2 : Bool) (m1 m2 : Int) (h1 : 0 ≤ m1) (h2 : 0 ≤ m2) : 0 ≤ plM s1 m1 s2 m2 ∧ plM s1 m1 s2 m2 ≤ m1 + m2 := by
  unfold plM
  split
  · omega
  · split <;> omega
theorem sg_product (a b : Int) : sg (ngB a b) ((a.natAbs : Int) * b.natAbs) = a * b := by
  unfold sg ngB
  by_cases ha : a < 0 <;> by_cases hb : b < 0 <;> simp [ha, hb]
  · rw [show (a.natAbs : Int) = -a by omega, show (b.natAbs : Int) = -b by omega, Int.neg_mul_neg]
  · rw [show (a.natAbs : Int) = -a by omega, show (b.natAbs : Int) = b by omega, Int.neg_mul, Int.neg_neg]
  · rw [show (a.natAbs : Int) = a by omega, show (b.natAbs : Int) = -b by omega, Int.mul_neg, Int.neg_neg]
  · rw [show (a.natAbs : Int) = a by omega, show (b.natAbs : Int) = b by omega]
end Go.Proofs.Ytncmffhoodfhjaa
namespace Go.Proofs.Ytncmffhoodfhjaa
open Go.RowKit

theorem decide_not_le {a b : Int} (h : ¬ a ≤ b) : decide (a ≤ b) = false := decide_eq_false h

set_option maxHeartbeats 1000000 in
theorem lowest_fits (s1 s2 : Bool) (h1 l1 h2 l2 : Int) (a0 : 0 ≤ h1) (b0 : 0 ≤ l1) (b1 : l1 < 18446744073709551616) (c0 : 0 ≤ h2) (d0 : 0 ≤ l2) (d1 : l2 < 18446744073709551616)
    (f1 : W h1 l1 ≤ 1000000000000000000) (f2 : W h2 l2 ≤ 1000000000000000000) (w : World) :
    Calls Try.prog 87 #[.agg #[.bool s1, .int .u64 h1, .int .u64 l1], .agg #[.bool s2, .int .u64 h2, .int .u64 l2]] w fun e w' =>
      e = .returned (.tuple #[.agg #[.int .i64 (sg s1 l1), .int .i64 (sg s2 l2)], .int .i64 0]) ∧ Below w.heap.size w w' := by
  have F1 := fun w => fits_any s1 h1 l1 a0 b0 b1 w
  have F2 := fun w => fits_any s2 h2 l2 c0 d0 d1 w
  rw [decide_eq_true f1] at F1
  rw [decide_eq_true f2] at F2
  have G1 := Lib.hid F1
  have G2 := Lib.hid F2
  have e1 : l1 ≤ 1000000000000000000 := by unfold W at f1; omega
  have e2 : l2 ≤ 1000000000000000000 := by unfold W at f2; omega
  clear F1 F2 f1 f2
  go_enter Try.func87, Try.ntmps87
  go_wp2_with fail
  refine (G1.out _).mono ?_
  rintro e w1 ⟨rfl, hb1⟩
  have x0 : w1.cell? ⟨w.heap.size, 0, none⟩ = some (.bool s1) := keepC hb1 (by go_simp)
  have x1 : w1.cell? ⟨w.heap.size, 1, none⟩ = some (.int .u64 h1) := keepC hb1 (by go_simp)
  have x2 : w1.cell? ⟨w.heap.size, 2, none⟩ = some (.int .u64 l1) := keepC hb1 (by go_simp)
  have y0 : w1.cell? ⟨w.heap.size + 1, 0, none⟩ = some (.bool s2) := keepC hb1 (by go_simp)
  have y1 : w1.cell? ⟨w.heap.size + 1, 1, none⟩ = some (.int .u64 h2) := keepC hb1 (by go_simp)
  have y2 : w1.cell? ⟨w.heap.size + 1, 2, none⟩ = some (.int .u64 l2) := keepC hb1 (by go_simp)
  have z0 : w1.cell? ⟨w.heap.size + 1 + 1, 0, none⟩ = some (.int .i64 0) := keepC hb1 (by go_simp)
  have fz0 : w1.frozen? ⟨w.heap.size + 1 + 1, 0, none⟩ = false := keepF hb1 (v := .int .i64 0) (by go_simp) (by go_simp)
  have z1 : w1.cell? ⟨w.heap.size + 1 + 1, 1, none⟩ = some (.int .i64 0) := keepC hb1 (by go_simp)
  have fz1 : w1.frozen? ⟨w.heap.size + 1 + 1, 1, none⟩ = false := keepF hb1 (v := .int .i64 0) (by go_simp) (by go_simp)
  have hbb : Below w.heap.size w w1 := keepB (((((Below.refl _ _).alloc (Nat.le_refl _) _).alloc (by simp) _).alloc (by simp; omega) _)) hb1
  clear hb1
  go_wp2_with fail
  refine (G2.out _).mono ?_
  rintro e w2 ⟨rfl, hb2⟩
  replace x0 := keepC hb2 x0
  replace x1 := keepC hb2 x1
  replace x2 := keepC hb2 x2
  replace y0 := keepC hb2 y0
  replace y1 := keepC hb2 y1
  replace y2 := keepC hb2 y2
  replace fz0 := keepF hb2 z0 fz0
  replace z0 := keepC hb2 z0
  replace fz1 := keepF hb2 z1 fz1
  replace z1 := keepC hb2 z1
  replace hbb := keepB hbb hb2
  clear hb2 w1
  go_wp2_with fail
  have hsz := lt_of_cell z0
  go_region_held3 (fun v => Below w.heap.size w v ∧ v.cell? ⟨w.heap.size, 0, none⟩ = some (.bool s1) ∧ v.cell? ⟨w.heap.size, 1, none⟩ = some (.int .u64 h1) ∧ v.cell? ⟨w.heap.size, 2, none⟩ = some (.int .u64 l1) ∧ v.cell? ⟨w.heap.size + 1, 0, none⟩ = some (.bool s2) ∧ v.cell? ⟨w.heap.size + 1, 1, none⟩ = some (.int .u64 h2) ∧ v.cell? ⟨w.heap.size + 1, 2, none⟩ = some (.int .u64 l2) ∧ v.cell? ⟨w.heap.size + 1 + 1, 0, none⟩ = some (vat v (w.heap.size + 1 + 1) 0) ∧ v.cell? ⟨w.heap.size + 1 + 1, 1, none⟩ = some (vat v (w.heap.size + 1 + 1) 1) ∧ v.frozen? ⟨w.heap.size + 1 + 1, 0, none⟩ = false ∧ v.frozen? ⟨w.heap.size + 1 + 1, 1, none⟩ = false)
    (first | (exact ⟨hbb.drew, x0, x1, x2, y0, y1, y2, vat_of z0, vat_of z1, fz0, fz1⟩) | (obtain ⟨k0, kx0, kx1, kx2, ky0, ky1, ky2, kz0, kz1, kfz0, kfz1⟩ := ‹Below w.heap.size w _ ∧ _›; exact ⟨keepB k0 hb3, keepC hb3 kx0, keepC hb3 kx1, keepC hb3 kx2, keepC hb3 ky0, keepC hb3 ky1, keepC hb3 ky2, vat_of (keepC hb3 kz0), vat_of (keepC hb3 kz1), keepF hb3 kz0 kfz0, keepF hb3 kz1 kfz1⟩) | (obtain ⟨k0, kx0, kx1, kx2, ky0, ky1, ky2, kz0, kz1, kfz0, kfz1⟩ := ‹Below w.heap.size w _ ∧ _›; exact ⟨below_set (below_set (k0) (by omega) _) (by omega) _, cell_far (cell_far (kx0) (by omega) _) (by omega) _, cell_far (cell_far (kx1) (by omega) _) (by omega) _, cell_far (cell_far (kx2) (by omega) _) (by omega) _, cell_far (cell_far (ky0) (by omega) _) (by omega) _, cell_far (cell_far (ky1) (by omega) _) (by omega) _, cell_far (cell_far (ky2) (by omega) _) (by omega) _, vat_set (vat_set (kz0) _ _) _ _, vat_set (vat_set (kz1) _ _) _ _, froz_set (froz_set (kfz0) _ _) _ _, froz_set (froz_set (kfz1) _ _) _ _⟩))
    (first | (go_at_call 98; refine (value_any _ _ _ (by assumption) (by assumption) _).mono ?_; rintro e w3 ⟨rfl, hb3⟩))
  go_wp2
  obtain ⟨k0, _, _, _, _, _, _, k1, k2, _, _⟩ := ‹Below w.heap.size w _ ∧ _›
  have r0 := res_far (by simp) k1
  have r1 := res_last k2
  exact bodyPost_ret (v := .tuple #[.agg #[.int .i64 (sg s1 l1), .int .i64 (sg s2 l2)], .int .i64 0]) (by simp [results, Try.results87, go_sem, r0, r1]) rfl ⟨rfl, k0⟩

set_option maxHeartbeats 1000000 in
theorem lowest_far1 (s1 s2 : Bool) (h1 l1 h2 l2 : Int) (a0 : 0 ≤ h1) (b0 : 0 ≤ l1) (b1 : l1 < 18446744073709551616)
    (f1 : ¬ W h1 l1 ≤ 1000000000000000000) (w : World) :
    Calls Try.prog 87 #[.agg #[.bool s1, .int .u64 h1, .int .u64 l1], .agg #[.bool s2, .int .u64 h2, .int .u64 l2]] w fun e w' =>
      e = .returned (.tuple #[.agg #[.int .i64 0, .int .i64 0], .int .i64 16]) ∧ Below w.heap.size w w' := by
  have F1 := fun w => fits_any s1 h1 l1 a0 b0 b1 w
  rw [decide_eq_false f1] at F1
  have G1 := Lib.hid F1
  clear F1 f1
  go_enter Try.func87, Try.ntmps87
  go_wp2_with fail
  refine (G1.out _).mono ?_
  rintro e w1 ⟨rfl, hb1⟩
  have z0 : w1.cell? ⟨w.heap.size + 1 + 1, 0, none⟩ = some (.int .i64 0) := keepC hb1 (by go_simp)
  have fz0 : w1.frozen? ⟨w.heap.size + 1 + 1, 0, none⟩ = false := keepF hb1 (v := .int .i64 0) (by go_simp) (by go_simp)
  have z1 : w1.cell? ⟨w.heap.size + 1 + 1, 1, none⟩ = some (.int .i64 0) := keepC hb1 (by go_simp)
  have fz1 : w1.frozen? ⟨w.heap.size + 1 + 1, 1, none⟩ = false := keepF hb1 (v := .int .i64 0) (by go_simp) (by go_simp)
  have hbb : Below w.heap.size w w1 := keepB (((((Below.refl _ _).alloc (Nat.le_refl _) _).alloc (by simp) _).alloc (by simp; omega) _)) hb1
  clear hb1
  go_wp2
  exact bodyPost_ret (v := .tuple #[.agg #[.int .i64 0, .int .i64 0], .int .i64 16]) (by simp [results, Try.results87, go_sem, z0, z1]) rfl ⟨rfl, below_set (below_set hbb (by omega) _) (by omega) _⟩

set_option maxHeartbeats 1000000 in
theorem lowest_far2 (s1 s2 : Bool) (h1 l1 h2 l2 : Int) (a0 : 0 ≤ h1) (b0 : 0 ≤ l1) (b1 : l1 < 18446744073709551616) (c0 : 0 ≤ h2) (d0 : 0 ≤ l2) (d1 : l2 < 18446744073709551616)
    (f1 : W h1 l1 ≤ 1000000000000000000) (f2 : ¬ W h2 l2 ≤ 1000000000000000000) (w : World) :
    Calls Try.prog 87 #[.agg #[.bool s1, .int .u64 h1, .int .u64 l1], .agg #[.bool s2, .int .u64 h2, .int .u64 l2]] w fun e w' =>
      e = .returned (.tuple #[.agg #[.int .i64 0, .int .i64 0], .int .i64 16]) ∧ Below w.heap.size w w' := by
  have F1 := fun w => fits_any s1 h1 l1 a0 b0 b1 w
  have F2 := fun w => fits_any s2 h2 l2 c0 d0 d1 w
  rw [decide_eq_true f1] at F1
  rw [decide_eq_false f2] at F2
  have G1 := Lib.hid F1
  have G2 := Lib.hid F2
  clear F1 F2 f1 f2
  go_enter Try.func87, Try.ntmps87
  go_wp2_with fail
  refine (G1.out _).mono ?_
  rintro e w1 ⟨rfl, hb1⟩
  have x0 : w1.cell? ⟨w.heap.size, 0, none⟩ = some (.bool s1) := keepC hb1 (by go_simp)
  have x1 : w1.cell? ⟨w.heap.size, 1, none⟩ = some (.int .u64 h1) := keepC hb1 (by go_simp)
  have x2 : w1.cell? ⟨w.heap.size, 2, none⟩ = some (.int .u64 l1) := keepC hb1 (by go_simp)
  have y0 : w1.cell? ⟨w.heap.size + 1, 0, none⟩ = some (.bool s2) := keepC hb1 (by go_simp)
  have y1 : w1.cell? ⟨w.heap.size + 1, 1, none⟩ = some (.int .u64 h2) := keepC hb1 (by go_simp)
  have y2 : w1.cell? ⟨w.heap.size + 1, 2, none⟩ = some (.int .u64 l2) := keepC hb1 (by go_simp)
  have z0 : w1.cell? ⟨w.heap.size + 1 + 1, 0, none⟩ = some (.int .i64 0) := keepC hb1 (by go_simp)
  have fz0 : w1.frozen? ⟨w.heap.size + 1 + 1, 0, none⟩ = false := keepF hb1 (v := .int .i64 0) (by go_simp) (by go_simp)
  have z1 : w1.cell? ⟨w.heap.size + 1 + 1, 1, none⟩ = some (.int .i64 0) := keepC hb1 (by go_simp)
  have fz1 : w1.frozen? ⟨w.heap.size + 1 + 1, 1, none⟩ = false := keepF hb1 (v := .int .i64 0) (by go_simp) (by go_simp)
  have hbb : Below w.heap.size w w1 := keepB (((((Below.refl _ _).alloc (Nat.le_refl _) _).alloc (by simp) _).alloc (by simp; omega) _)) hb1
  clear hb1
  go_wp2_with fail
  refine (G2.out _).mono ?_
  rintro e w2 ⟨rfl, hb2⟩
  replace x0 := keepC hb2 x0
  replace x1 := keepC hb2 x1
  replace x2 := keepC hb2 x2
  replace y0 := keepC hb2 y0
  replace y1 := keepC hb2 y1
  replace y2 := keepC hb2 y2
  replace fz0 := keepF hb2 z0 fz0
  replace z0 := keepC hb2 z0
  replace fz1 := keepF hb2 z1 fz1
  replace z1 := keepC hb2 z1
  replace hbb := keepB hbb hb2
  clear hb2 w1
  go_wp2
  exact bodyPost_ret (v := .tuple #[.agg #[.int .i64 0, .int .i64 0], .int .i64 16]) (by simp [results, Try.results87, go_sem, z0, z1]) rfl ⟨rfl, below_set (below_set hbb (by omega) _) (by omega) _⟩

theorem lowest_any (s1 : Bool) (m1 m2 : Int) (a0 : 0 ≤ m1) (a1 : m1 < 340282366920938463463374607431768211456) (b0 : 0 ≤ m2) (b1 : m2 < 340282366920938463463374607431768211456) (w : World) :
    Calls Try.prog 87 #[.agg #[.bool s1, .int .u64 (m1 / 18446744073709551616), .int .u64 (m1 % 18446744073709551616)], .agg #[.bool false, .int .u64 (m2 / 18446744073709551616), .int .u64 (m2 % 18446744073709551616)]] w fun e w' =>
      e = .returned (.tuple #[.agg #[.int .i64 (Rp.low (sg s1 m1) m2).1, .int .i64 (Rp.low (sg s1 m1) m2).2.1], .int .i64 (Rp.low (sg s1 m1) m2).2.2]) ∧ Below w.heap.size w w' := by
  have e1 := W_split m1
  have e2 := W_split m2
  have n1 : (sg s1 m1).natAbs = m1.toNat := by unfold sg; split <;> omega
  by_cases h1 : m1 ≤ 1000000000000000000
  · by_cases h2 : m2 ≤ 1000000000000000000
    · have e : Rp.low (sg s1 m1) m2 = (sg s1 m1, m2, 0) := by unfold Rp.low; rw [if_pos (by omega)]
      rw [e]
      have c := lowest_fits s1 false (m1 / 18446744073709551616) (m1 % 18446744073709551616) (m2 / 18446744073709551616) (m2 % 18446744073709551616) (by omega) (by omega) (by omega) (by omega) (by omega) (by omega) (by omega) (by omega) w
      rw [show m1 % 18446744073709551616 = m1 by omega, show m2 % 18446744073709551616 = m2 by omega] at c ⊢
      exact c
    · have e : Rp.low (sg s1 m1) m2 = (0, 0, 16) := by unfold Rp.low; rw [if_neg (by omega)]
      rw [e]
      exact lowest_far2 s1 false (m1 / 18446744073709551616) (m1 % 18446744073709551616) (m2 / 18446744073709551616) (m2 % 18446744073709551616) (by omega) (by omega) (by omega) (by omega) (by omega) (by omega) (by omega) (by omega) w
  · have e : Rp.low (sg s1 m1) m2 = (0, 0, 16) := by unfold Rp.low; rw [if_neg (by omega)]
    rw [e]
    exact lowest_far1 s1 false (m1 / 18446744073709551616) (m1 % 18446744073709551616) (m2 / 18446744073709551616) (m2 % 18446744073709551616) (by omega) (by omega) (by omega) (by omega) w
end Go.Proofs.Ytncmffhoodfhjaa
namespace Go.Proofs.Ytncmffhoodfhjaa
open Go.RowKit

/-- A callee that leaves the world as it is, within a region that draws its order. -/
theorem quietL {P : Program} {f : FuncId} {args : Array Value} {w : World} {n : Nat} {v : Value}
    (h : Calls P f args (w.drewN n) fun e w' => e = .returned v ∧ w.drewN n = w') : Calls P f args (w.drewN n) fun e w'' => e = .returned v ∧ ∃ m, w'' = w.drewN m :=
  h.mono fun _ _ ⟨he, hm⟩ => ⟨he, n, hm.symm⟩

set_option maxHeartbeats 1000000 in
theorem check_any (n d : Int) (w : World) (n0 : -9223372036854775808 ≤ n) (n1 : n ≤ 9223372036854775807) (d0 : -9223372036854775808 ≤ d) (d1 : d ≤ 9223372036854775807) :
    Calls Try.prog 92 #[.agg #[.int .i64 n, .int .i64 d]] w fun e w' => e = .returned (.int .i64 (Rp.chk n d)) ∧ Below w.heap.size w w' := by
  by_cases h : 1 ≤ d ∧ d ≤ 1000000000000000000 ∧ -1000000000000000000 ≤ n ∧ n ≤ 1000000000000000000
  · obtain ⟨h1, h2, h3, h4⟩ := h
    by_cases hg : Nat.gcd n.natAbs d.natAbs = 1
    · have e : Rp.chk n d = 0 := by unfold Rp.chk; rw [if_pos ⟨h1, h2, h3, h4, hg⟩]
      rw [e]
      have hb : ((Nat.gcd n.natAbs d.natAbs : Int) != 1) = false := by rw [hg]; rfl
      clear hg e
      go_enter Try.func92, Try.ntmps92
      go_wp2_with fail
      go_quiet ((first
        | (go_at_call 85; exact quietL (magnitude_any _ (by assumption) (by assumption) _))
        | (go_at_call 86; exact Calls.quiet_of (gcd_any _ _ (by omega) (by omega) _))))
      go_wp2
      go_ret
      exact ⟨rfl, below_drewN ((Below.refl _ _).alloc (Nat.le_refl _) _) _⟩
    · have e : Rp.chk n d = 8 := by unfold Rp.chk; rw [if_neg (fun h => hg h.2.2.2.2)]
      rw [e]
      have hb : ((Nat.gcd n.natAbs d.natAbs : Int) != 1) = true := by rw [bne_iff_ne]; omega
      clear hg e
      go_enter Try.func92, Try.ntmps92
      go_wp2_with fail
      go_quiet ((first
        | (go_at_call 85; exact quietL (magnitude_any _ (by assumption) (by assumption) _))
        | (go_at_call 86; exact Calls.quiet_of (gcd_any _ _ (by omega) (by omega) _))))
      go_wp2
      go_ret
      exact ⟨rfl, below_drewN ((Below.refl _ _).alloc (Nat.le_refl _) _) _⟩
  · have e : Rp.chk n d = 8 := by unfold Rp.chk; rw [if_neg (fun k => h ⟨k.1, k.2.1, k.2.2.1, k.2.2.2.1⟩)]
    rw [e]
    clear e
    by_cases h1 : d < 1
    · clear h
      go_enter Try.func92, Try.ntmps92
      go_wp2
      go_ret
      exact ⟨rfl, (Below.refl _ _).alloc (Nat.le_refl _) _⟩
    · by_cases h2 : 1000000000000000000 < d
      · clear h
        go_enter Try.func92, Try.ntmps92
        go_wp2
        go_ret
        exact ⟨rfl, (Below.refl _ _).alloc (Nat.le_refl _) _⟩
      · by_cases h3 : n < -1000000000000000000
        · clear h
          go_enter Try.func92, Try.ntmps92
          go_wp2
          go_ret
          exact ⟨rfl, (Below.refl _ _).alloc (Nat.le_refl _) _⟩
        · have h4 : 1000000000000000000 < n := by omega
          clear h
          go_enter Try.func92, Try.ntmps92
          go_wp2
          go_ret
          exact ⟨rfl, (Below.refl _ _).alloc (Nat.le_refl _) _⟩

theorem chk_cases (n d : Int) : (Rp.chk n d = 0 ∧ Rp.Ok n d) ∨ (Rp.chk n d = 8 ∧ ¬ Rp.Ok n d) := by
  unfold Rp.chk
  by_cases h : Rp.Ok n d
  · left; rw [if_pos h]; exact ⟨rfl, h⟩
  · right; rw [if_neg h]; exact ⟨rfl, h⟩

set_option maxHeartbeats 1000000 in
theorem checkBoth_any (n d m c : Int) (w : World) (n0 : -9223372036854775808 ≤ n) (n1 : n ≤ 9223372036854775807) (d0 : -9223372036854775808 ≤ d) (d1 : d ≤ 9223372036854775807)
    (m0 : -9223372036854775808 ≤ m) (m1 : m ≤ 9223372036854775807) (c0 : -9223372036854775808 ≤ c) (c1 : c ≤ 9223372036854775807) :
    Calls Try.prog 81 #[.agg #[.int .i64 n, .int .i64 d], .agg #[.int .i64 m, .int .i64 c]] w fun e w' => e = .returned (.int .i64 (Rp.both n d m c)) ∧ Below w.heap.size w w' := by
  have A := fun w => check_any n d w n0 n1 d0 d1
  have B := Lib.hid (fun w => check_any m c w m0 m1 c0 c1)
  rcases chk_cases n d with ⟨h, h'⟩ | ⟨h, h'⟩
  · have e : Rp.both n d m c = Rp.chk m c := by unfold Rp.both; rw [if_pos h']
    rw [e]
    rw [h] at A
    have A' := Lib.hid A
    clear A h h' e
    go_enter Try.func81, Try.ntmps81
    go_wp2_with fail
    refine (A'.out _).mono ?_
    rintro e w1 ⟨rfl, hb1⟩
    have y0 : w1.cell? ⟨w.heap.size + 1, 0, none⟩ = some (.int .i64 m) := keepC hb1 (by go_simp)
    have y1 : w1.cell? ⟨w.heap.size + 1, 1, none⟩ = some (.int .i64 c) := keepC hb1 (by go_simp)
    have hbb : Below w.heap.size w w1 := keepB ((((Below.refl _ _).alloc (Nat.le_refl _) _).alloc (by simp) _)) hb1
    clear hb1
    go_wp2_with fail
    refine (B.out _).mono ?_
    rintro e w2 ⟨rfl, hb2⟩
    go_wp2
    go_ret
    exact ⟨rfl, keepB hbb hb2⟩
  · have e : Rp.both n d m c = 8 := by unfold Rp.both; rw [if_neg h']
    rw [e]
    rw [h] at A
    have A' := Lib.hid A
    clear A h h' e B
    go_enter Try.func81, Try.ntmps81
    go_wp2_with fail
    refine (A'.out _).mono ?_
    rintro e w1 ⟨rfl, hb1⟩
    have hbb : Below w.heap.size w w1 := keepB ((((Below.refl _ _).alloc (Nat.le_refl _) _).alloc (by simp) _)) hb1
    clear hb1
    go_wp2
    go_ret
    exact ⟨rfl, hbb⟩

set_option maxHeartbeats 1000000 in
theorem opposite_any (n d : Int) (w : World) (n0 : -1000000000000000000 ≤ n) (n1 : n ≤ 1000000000000000000) :
    Calls Try.prog 83 #[.agg #[.int .i64 n, .int .i64 d]] w fun e w' => e = .returned (.agg #[.int .i64 (-n), .int .i64 d]) ∧ Below w.heap.size w w' := by
  go_enter Try.func83, Try.ntmps83
  go_wp2
  exact bodyPost_ret (v := .agg #[.int .i64 (-n), .int .i64 d]) (by simp [results, Try.results83, go_sem]) rfl ⟨rfl, ((Below.refl _ _).alloc (Nat.le_refl _) _).alloc (by simp) _⟩

end Go.Proofs.Ytncmffhoodfhjaa
