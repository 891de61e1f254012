/- Contract of the sum of two wide numbers (package ratio). -/
import Derived.Test.YtnnpmegknlgkoaaProg
import Derived.Test.YtnnpmegknlgkoaaGa
import Derived.Test.YtnnpmegknlgkoaaWide
import Derived.WalkKit
import Derived.WalkSpells
import Derived.WalkLawsBesides
import Derived.Lib.Hide
import Derived.IntWalk
import Derived.BigQuiet
import Derived.Deep.QuietTactic
namespace Go.Proofs.Ytnnpmegknlgkoaa
open Go.RowKit

/-- The sum of two numbers with signs. -/
def plS (s1 : Bool) (m1 : Int) (s2 : Bool) (m2 : Int) : Bool := if s1 = s2 then s1 else if m1 < m2 then s2 else s1
def plM (s1 : Bool) (m1 : Int) (s2 : Bool) (m2 : Int) : Int := if s1 = s2 then m1 + m2 else if m1 < m2 then m2 - m1 else m1 - m2

set_option maxHeartbeats 1000000 in
theorem plus_same (s : Bool) (h1 l1 h2 l2 : Int) (a0 : 0 ≤ h1) (b0 : 0 ≤ l1) (b1 : l1 < 18446744073709551616) (c0 : 0 ≤ h2) (d0 : 0 ≤ l2) (d1 : l2 < 18446744073709551616)
    (hs : W h1 l1 + W h2 l2 < 340282366920938463463374607431768211456) (w : World) :
    Calls Try.prog 119 #[.agg #[.bool s, .int .u64 h1, .int .u64 l1], .agg #[.bool s, .int .u64 h2, .int .u64 l2]] w fun e w' =>
      e = .returned (.agg #[.bool s, .int .u64 ((W h1 l1 + W h2 l2) / 18446744073709551616), .int .u64 ((W h1 l1 + W h2 l2) % 18446744073709551616)]) ∧ Below w.heap.size w w' := by
  have e1 := fun w => add64_run l1 l2 0 b0 d0 (by omega) (by omega) w
  rw [Int.add_zero] at e1
  have g1 : 0 ≤ (l1 + l2) / 18446744073709551616 := by omega
  have g2 : (l1 + l2) / 18446744073709551616 ≤ 1 := by omega
  have e2 := fun w => add64_run h1 h2 _ a0 c0 g1 g2 w
  have k1 : (W h1 l1 + W h2 l2) / 18446744073709551616 = (h1 + h2 + (l1 + l2) / 18446744073709551616) % 18446744073709551616 := by unfold W at *; omega
  have k2 : (W h1 l1 + W h2 l2) % 18446744073709551616 = (l1 + l2) % 18446744073709551616 := by unfold W at *; omega
  rw [k1, k2]
  clear k1 k2 hs
  generalize (h1 + h2 + (l1 + l2) / 18446744073709551616) % 18446744073709551616 = H at *
  generalize (h1 + h2 + (l1 + l2) / 18446744073709551616) / 18446744073709551616 = H' at *
  generalize (l1 + l2) % 18446744073709551616 = L at *
  generalize (l1 + l2) / 18446744073709551616 = C at *
  go_enter Try.func119, Try.ntmps119
  go_wp2
  exact bodyPost_ret (v := .agg #[.bool s, .int .u64 H, .int .u64 L]) (by simp [results, Try.results119, go_sem]) rfl
    ⟨rfl, (((Below.refl _ _).alloc (Nat.le_refl _) _).alloc (by simp) _).alloc (by simp; omega) _⟩

set_option maxHeartbeats 1000000 in
theorem plus_less (s1 s2 : Bool) (hne : s1 ≠ s2) (h1 l1 h2 l2 : Int) (a0 : 0 ≤ h1) (b0 : 0 ≤ l1) (b1 : l1 < 18446744073709551616) (c0 : 0 ≤ h2) (c1 : h2 < 18446744073709551616) (d0 : 0 ≤ l2) (d1 : l2 < 18446744073709551616)
    (a1 : h1 < 18446744073709551616) (hs : W h1 l1 < W h2 l2) (w : World) :
    Calls Try.prog 119 #[.agg #[.bool s1, .int .u64 h1, .int .u64 l1], .agg #[.bool s2, .int .u64 h2, .int .u64 l2]] w fun e w' =>
      e = .returned (.agg #[.bool s2, .int .u64 ((W h2 l2 - W h1 l1) / 18446744073709551616), .int .u64 ((W h2 l2 - W h1 l1) % 18446744073709551616)]) ∧ Below w.heap.size w w' := by
  have hb : (s1 == s2) = false := by rw [beq_eq_false_iff_ne]; exact hne
  have e1 := fun w => sub64_run l2 l1 0 d0 b0 b1 (by omega) (by omega) w
  rw [Int.add_zero, Int.sub_zero] at e1
  obtain ⟨C, hC⟩ : ∃ C : Int, C = if l2 < l1 then 1 else 0 := ⟨_, rfl⟩
  rw [← hC] at e1
  have g : 0 ≤ C ∧ C ≤ 1 ∧ (C = 1 → l2 < l1) ∧ (C = 0 → l1 ≤ l2) := by rw [hC]; split <;> omega
  obtain ⟨g1, g2, g3, g4⟩ := g
  have e2 := fun w => sub64_run h2 h1 C c0 a0 a1 g1 g2 w
  have k1 : (W h2 l2 - W h1 l1) / 18446744073709551616 = (h2 - h1 - C) % 18446744073709551616 := by unfold W at *; omega
  have k2 : (W h2 l2 - W h1 l1) % 18446744073709551616 = (l2 - l1) % 18446744073709551616 := by unfold W at *; omega
  rw [k1, k2]
  have hsm := fun w => smaller_any s1 s2 h1 l1 h2 l2 b0 b1 d0 d1 w
  rw [decide_eq_true hs] at hsm
  clear k1 k2 hs g1 g2 g3 g4
  clear hC
  generalize (h2 - h1 - C) % 18446744073709551616 = H at *
  generalize (l2 - l1) % 18446744073709551616 = L at *
  generalize (if h2 < h1 + C then (1 : Int) else 0) = C2 at *
  have HS := Lib.hid hsm
  clear hsm
  clear hne
  go_enter Try.func119, Try.ntmps119
  go_wp2_with fail
  refine (HS.out _).mono ?_
  rintro e w1 ⟨rfl, hb1⟩
  obtain ⟨hc, hf⟩ := bcell hb1
  have x0 : w1.cell? ⟨w.heap.size, 0, none⟩ = some (.bool s1) := (hc _ _ (by simp; omega)).trans (by go_simp)
  have fx0 : w1.frozen? ⟨w.heap.size, 0, none⟩ = false := (hf _ _ (by simp; omega)).trans (by go_simp)
  have x1 : w1.cell? ⟨w.heap.size, 1, none⟩ = some (.int .u64 h1) := (hc _ _ (by simp; omega)).trans (by go_simp)
  have fx1 : w1.frozen? ⟨w.heap.size, 1, none⟩ = false := (hf _ _ (by simp; omega)).trans (by go_simp)
  have x2 : w1.cell? ⟨w.heap.size, 2, none⟩ = some (.int .u64 l1) := (hc _ _ (by simp; omega)).trans (by go_simp)
  have fx2 : w1.frozen? ⟨w.heap.size, 2, none⟩ = false := (hf _ _ (by simp; omega)).trans (by go_simp)
  have y0 : w1.cell? ⟨w.heap.size + 1, 0, none⟩ = some (.bool s2) := (hc _ _ (by simp)).trans (by go_simp)
  have fy0 : w1.frozen? ⟨w.heap.size + 1, 0, none⟩ = false := (hf _ _ (by simp)).trans (by go_simp)
  have y1 : w1.cell? ⟨w.heap.size + 1, 1, none⟩ = some (.int .u64 h2) := (hc _ _ (by simp)).trans (by go_simp)
  have fy1 : w1.frozen? ⟨w.heap.size + 1, 1, none⟩ = false := (hf _ _ (by simp)).trans (by go_simp)
  have y2 : w1.cell? ⟨w.heap.size + 1, 2, none⟩ = some (.int .u64 l2) := (hc _ _ (by simp)).trans (by go_simp)
  have fy2 : w1.frozen? ⟨w.heap.size + 1, 2, none⟩ = false := (hf _ _ (by simp)).trans (by go_simp)
  have z0 : w1.cell? ⟨w.heap.size + 1 + 1, 0, none⟩ = some (.bool false) := (hc _ _ (by simp)).trans (by go_simp)
  have fz0 : w1.frozen? ⟨w.heap.size + 1 + 1, 0, none⟩ = false := (hf _ _ (by simp)).trans (by go_simp)
  have z1 : w1.cell? ⟨w.heap.size + 1 + 1, 1, none⟩ = some (.int .u64 0) := (hc _ _ (by simp)).trans (by go_simp)
  have fz1 : w1.frozen? ⟨w.heap.size + 1 + 1, 1, none⟩ = false := (hf _ _ (by simp)).trans (by go_simp)
  have z2 : w1.cell? ⟨w.heap.size + 1 + 1, 2, none⟩ = some (.int .u64 0) := (hc _ _ (by simp)).trans (by go_simp)
  have fz2 : w1.frozen? ⟨w.heap.size + 1 + 1, 2, none⟩ = false := (hf _ _ (by simp)).trans (by go_simp)
  clear hc hf
  have hz : w.heap.size + 2 < w1.heap.size := by have := hb1.size; simp at this; omega
  have hbb : Below w.heap.size w w1 := (((Below.refl _ _).alloc (Nat.le_refl _) _).alloc (by simp) _).alloc (by simp; omega) _ |>.trans (hb1.mono (by simp; omega))
  clear hb1
  go_wp2
  exact bodyPost_ret (v := .agg #[.bool s2, .int .u64 H, .int .u64 L]) (by simp [results, Try.results119, go_sem, z0, z1, z2]) rfl
    ⟨rfl, below_set (below_set (below_set (below_set (below_set (below_set (below_set (below_set (below_set hbb (by omega) _) (by omega) _) (by omega) _) (by omega) _) (by omega) _) (by omega) _) (by omega) _) (by omega) _) (by omega) _⟩
set_option maxHeartbeats 1000000 in
theorem plus_geq (s1 s2 : Bool) (hne : s1 ≠ s2) (h1 l1 h2 l2 : Int) (a0 : 0 ≤ h1) (b0 : 0 ≤ l1) (b1 : l1 < 18446744073709551616) (c0 : 0 ≤ h2) (c1 : h2 < 18446744073709551616) (d0 : 0 ≤ l2) (d1 : l2 < 18446744073709551616)
    (a1 : h1 < 18446744073709551616) (hs : ¬ W h1 l1 < W h2 l2) (w : World) :
    Calls Try.prog 119 #[.agg #[.bool s1, .int .u64 h1, .int .u64 l1], .agg #[.bool s2, .int .u64 h2, .int .u64 l2]] w fun e w' =>
      e = .returned (.agg #[.bool s1, .int .u64 ((W h1 l1 - W h2 l2) / 18446744073709551616), .int .u64 ((W h1 l1 - W h2 l2) % 18446744073709551616)]) ∧ Below w.heap.size w w' := by
  have hb : (s1 == s2) = false := by rw [beq_eq_false_iff_ne]; exact hne
  have e1 := fun w => sub64_run l1 l2 0 b0 d0 d1 (by omega) (by omega) w
  rw [Int.add_zero, Int.sub_zero] at e1
  obtain ⟨C, hC⟩ : ∃ C : Int, C = if l1 < l2 then 1 else 0 := ⟨_, rfl⟩
  rw [← hC] at e1
  have g : 0 ≤ C ∧ C ≤ 1 ∧ (C = 1 → l1 < l2) ∧ (C = 0 → l2 ≤ l1) := by rw [hC]; split <;> omega
  obtain ⟨g1, g2, g3, g4⟩ := g
  have e2 := fun w => sub64_run h1 h2 C a0 c0 c1 g1 g2 w
  have k1 : (W h1 l1 - W h2 l2) / 18446744073709551616 = (h1 - h2 - C) % 18446744073709551616 := by unfold W at *; omega
  have k2 : (W h1 l1 - W h2 l2) % 18446744073709551616 = (l1 - l2) % 18446744073709551616 := by unfold W at *; omega
  rw [k1, k2]
  have hsm := fun w => smaller_any s1 s2 h1 l1 h2 l2 b0 b1 d0 d1 w
  rw [decide_eq_false hs] at hsm
  clear k1 k2 hs g1 g2 g3 g4
  clear hC
  generalize (h1 - h2 - C) % 18446744073709551616 = H at *
  generalize (l1 - l2) % 18446744073709551616 = L at *
  generalize (if h1 < h2 + C then (1 : Int) else 0) = C2 at *
  have HS := Lib.hid hsm
  clear hsm
  clear hne
  go_enter Try.func119, Try.ntmps119
  go_wp2_with fail
  refine (HS.out _).mono ?_
  rintro e w1 ⟨rfl, hb1⟩
  obtain ⟨hc, hf⟩ := bcell hb1
  have x0 : w1.cell? ⟨w.heap.size, 0, none⟩ = some (.bool s1) := (hc _ _ (by simp; omega)).trans (by go_simp)
  have fx0 : w1.frozen? ⟨w.heap.size, 0, none⟩ = false := (hf _ _ (by simp; omega)).trans (by go_simp)
  have x1 : w1.cell? ⟨w.heap.size, 1, none⟩ = some (.int .u64 h1) := (hc _ _ (by simp; omega)).trans (by go_simp)
  have fx1 : w1.frozen? ⟨w.heap.size, 1, none⟩ = false := (hf _ _ (by simp; omega)).trans (by go_simp)
  have x2 : w1.cell? ⟨w.heap.size, 2, none⟩ = some (.int .u64 l1) := (hc _ _ (by simp; omega)).trans (by go_simp)
  have fx2 : w1.frozen? ⟨w.heap.size, 2, none⟩ = false := (hf _ _ (by simp; omega)).trans (by go_simp)
  have y0 : w1.cell? ⟨w.heap.size + 1, 0, none⟩ = some (.bool s2) := (hc _ _ (by simp)).trans (by go_simp)
  have fy0 : w1.frozen? ⟨w.heap.size + 1, 0, none⟩ = false := (hf _ _ (by simp)).trans (by go_simp)
  have y1 : w1.cell? ⟨w.heap.size + 1, 1, none⟩ = some (.int .u64 h2) := (hc _ _ (by simp)).trans (by go_simp)
  have fy1 : w1.frozen? ⟨w.heap.size + 1, 1, none⟩ = false := (hf _ _ (by simp)).trans (by go_simp)
  have y2 : w1.cell? ⟨w.heap.size + 1, 2, none⟩ = some (.int .u64 l2) := (hc _ _ (by simp)).trans (by go_simp)
  have fy2 : w1.frozen? ⟨w.heap.size + 1, 2, none⟩ = false := (hf _ _ (by simp)).trans (by go_simp)
  have z0 : w1.cell? ⟨w.heap.size + 1 + 1, 0, none⟩ = some (.bool false) := (hc _ _ (by simp)).trans (by go_simp)
  have fz0 : w1.frozen? ⟨w.heap.size + 1 + 1, 0, none⟩ = false := (hf _ _ (by simp)).trans (by go_simp)
  have z1 : w1.cell? ⟨w.heap.size + 1 + 1, 1, none⟩ = some (.int .u64 0) := (hc _ _ (by simp)).trans (by go_simp)
  have fz1 : w1.frozen? ⟨w.heap.size + 1 + 1, 1, none⟩ = false := (hf _ _ (by simp)).trans (by go_simp)
  have z2 : w1.cell? ⟨w.heap.size + 1 + 1, 2, none⟩ = some (.int .u64 0) := (hc _ _ (by simp)).trans (by go_simp)
  have fz2 : w1.frozen? ⟨w.heap.size + 1 + 1, 2, none⟩ = false := (hf _ _ (by simp)).trans (by go_simp)
  clear hc hf
  have hz : w.heap.size + 2 < w1.heap.size := by have := hb1.size; simp at this; omega
  have hbb : Below w.heap.size w w1 := (((Below.refl _ _).alloc (Nat.le_refl _) _).alloc (by simp) _).alloc (by simp; omega) _ |>.trans (hb1.mono (by simp; omega))
  clear hb1
  go_wp2
  exact bodyPost_ret (v := .agg #[.bool s1, .int .u64 H, .int .u64 L]) (by simp [results, Try.results119, go_sem, z0, z1, z2]) rfl
    ⟨rfl, below_set (below_set (below_set hbb (by omega) _) (by omega) _) (by omega) _⟩

theorem plus_any (s1 s2 : Bool) (h1 l1 h2 l2 : Int) (a0 : 0 ≤ h1) (a1 : h1 < 18446744073709551616) (b0 : 0 ≤ l1) (b1 : l1 < 18446744073709551616) (c0 : 0 ≤ h2) (c1 : h2 < 18446744073709551616) (d0 : 0 ≤ l2) (d1 : l2 < 18446744073709551616)
    (hs : W h1 l1 + W h2 l2 < 340282366920938463463374607431768211456) (w : World) :
    Calls Try.prog 119 #[.agg #[.bool s1, .int .u64 h1, .int .u64 l1], .agg #[.bool s2, .int .u64 h2, .int .u64 l2]] w fun e w' =>
      e = .returned (.agg #[.bool (plS s1 (W h1 l1) s2 (W h2 l2)), .int .u64 (plM s1 (W h1 l1) s2 (W h2 l2) / 18446744073709551616), .int .u64 (plM s1 (W h1 l1) s2 (W h2 l2) % 18446744073709551616)]) ∧ Below w.heap.size w w' := by
  unfold plS plM
  by_cases h : s1 = s2
  · subst h
    simp only [if_pos]
    exact plus_same s1 h1 l1 h2 l2 a0 b0 b1 c0 d0 d1 hs w
  · simp only [if_neg h]
    by_cases k : W h1 l1 < W h2 l2
    · simp only [if_pos k]
      exact plus_less s1 s2 h h1 l1 h2 l2 a0 b0 b1 c0 c1 d0 d1 a1 k w
    · simp only [if_neg k]
      exact plus_geq s1 s2 h h1 l1 h2 l2 a0 b0 b1 c0 c1 d0 d1 a1 k w

theorem sg_plus (s1 s2 : Bool) (m1 m2 : Int) : sg (plS s1 m1 s2 m2) (plM s1 m1 s2 m2) = sg s1 m1 + sg s2 m2 := by
  unfold sg plS plM
  by_cases h : m1 < m2 <;> cases s1 <;> cases s2 <;> simp [h] <;> (try omega)
theorem plM_bd (s1 s2 : Bool) (m1 m2 : Int) (h1 : 0 ≤ m1) (h2 : 0 ≤ m2) : 0 ≤ plM s1 m1 s2 m2 ∧ plM s1 m1 s2 m2 ≤ m1 + m2 := by
  unfold plM
  split
  · omega
  · split <;> omega
theorem sg_product (a b : Int) : sg (ngB a b) ((a.natAbs : Int) * b.natAbs) = a * b := by
  unfold sg ngB
  by_cases ha : a < 0 <;> by_cases hb : b < 0 <;> simp [ha, hb]
  · rw [show (a.natAbs : Int) = -a by omega, show (b.natAbs : Int) = -b by omega, Int.neg_mul_neg]
  · rw [show (a.natAbs : Int) = -a by omega, show (b.natAbs : Int) = b by omega, Int.neg_mul, Int.neg_neg]
  · rw [show (a.natAbs : Int) = a by omega, show (b.natAbs : Int) = -b by omega, Int.mul_neg, Int.neg_neg]
  · rw [show (a.natAbs : Int) = a by omega, show (b.natAbs : Int) = b by omega]
end Go.Proofs.Ytnnpmegknlgkoaa
