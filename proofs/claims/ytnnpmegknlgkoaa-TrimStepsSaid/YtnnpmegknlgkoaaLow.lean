/- Contracts of package ratio's lowest, Check and checkBoth. -/
import Derived.Test.YtnnpmegknlgkoaaPlus
import Derived.Test.YtnnpmegknlgkoaaGb
import Derived.Deep.RegionHeld3
import Derived.RegionTactic
namespace Go.Proofs.Ytnnpmegknlgkoaa
open Go.RowKit

theorem decide_not_le {a b : Int} (h : ¬ a ≤ b) : decide (a ≤ b) = false := decide_eq_false h

set_option maxHeartbeats 1000000 in
theorem lowest_fits (s1 s2 : Bool) (h1 l1 h2 l2 : Int) (a0 : 0 ≤ h1) (b0 : 0 ≤ l1) (b1 : l1 < 18446744073709551616) (c0 : 0 ≤ h2) (d0 : 0 ≤ l2) (d1 : l2 < 18446744073709551616)
    (f1 : W h1 l1 ≤ 1000000000000000000) (f2 : W h2 l2 ≤ 1000000000000000000) (w : World) :
    Calls Try.prog 127 #[.agg #[.bool s1, .int .u64 h1, .int .u64 l1], .agg #[.bool s2, .int .u64 h2, .int .u64 l2]] w fun e w' =>
      e = .returned (.tuple #[.agg #[.int .i64 (sg s1 l1), .int .i64 (sg s2 l2)], .int .i64 0]) ∧ Below w.heap.size w w' := by
  have F1 := fun w => fits_any s1 h1 l1 a0 b0 b1 w
  have F2 := fun w => fits_any s2 h2 l2 c0 d0 d1 w
  rw [decide_eq_true f1] at F1
  rw [decide_eq_true f2] at F2
  have G1 := Lib.hid F1
  have G2 := Lib.hid F2
  have e1 : l1 ≤ 1000000000000000000 := by unfold W at f1; omega
  have e2 : l2 ≤ 1000000000000000000 := by unfold W at f2; omega
  clear F1 F2 f1 f2
  go_enter Try.func127, Try.ntmps127
  go_wp2_with fail
  refine (G1.out _).mono ?_
  rintro e w1 ⟨rfl, hb1⟩
  have x0 : w1.cell? ⟨w.heap.size, 0, none⟩ = some (.bool s1) := keepC hb1 (by go_simp)
  have x1 : w1.cell? ⟨w.heap.size, 1, none⟩ = some (.int .u64 h1) := keepC hb1 (by go_simp)
  have x2 : w1.cell? ⟨w.heap.size, 2, none⟩ = some (.int .u64 l1) := keepC hb1 (by go_simp)
  have y0 : w1.cell? ⟨w.heap.size + 1, 0, none⟩ = some (.bool s2) := keepC hb1 (by go_simp)
  have y1 : w1.cell? ⟨w.heap.size + 1, 1, none⟩ = some (.int .u64 h2) := keepC hb1 (by go_simp)
  have y2 : w1.cell? ⟨w.heap.size + 1, 2, none⟩ = some (.int .u64 l2) := keepC hb1 (by go_simp)
  have z0 : w1.cell? ⟨w.heap.size + 1 + 1, 0, none⟩ = some (.int .i64 0) := keepC hb1 (by go_simp)
  have fz0 : w1.frozen? ⟨w.heap.size + 1 + 1, 0, none⟩ = false := keepF hb1 (v := .int .i64 0) (by go_simp) (by go_simp)
  have z1 : w1.cell? ⟨w.heap.size + 1 + 1, 1, none⟩ = some (.int .i64 0) := keepC hb1 (by go_simp)
  have fz1 : w1.frozen? ⟨w.heap.size + 1 + 1, 1, none⟩ = false := keepF hb1 (v := .int .i64 0) (by go_simp) (by go_simp)
  have hbb : Below w.heap.size w w1 := keepB (((((Below.refl _ _).alloc (Nat.le_refl _) _).alloc (by simp) _).alloc (by simp; omega) _)) hb1
  clear hb1
  go_wp2_with fail
  refine (G2.out _).mono ?_
  rintro e w2 ⟨rfl, hb2⟩
  replace x0 := keepC hb2 x0
  replace x1 := keepC hb2 x1
  replace x2 := keepC hb2 x2
  replace y0 := keepC hb2 y0
  replace y1 := keepC hb2 y1
  replace y2 := keepC hb2 y2
  replace fz0 := keepF hb2 z0 fz0
  replace z0 := keepC hb2 z0
  replace fz1 := keepF hb2 z1 fz1
  replace z1 := keepC hb2 z1
  replace hbb := keepB hbb hb2
  clear hb2 w1
  go_wp2_with fail
  have hsz := lt_of_cell z0
  go_region_held3 (fun v => Below w.heap.size w v ∧ v.cell? ⟨w.heap.size, 0, none⟩ = some (.bool s1) ∧ v.cell? ⟨w.heap.size, 1, none⟩ = some (.int .u64 h1) ∧ v.cell? ⟨w.heap.size, 2, none⟩ = some (.int .u64 l1) ∧ v.cell? ⟨w.heap.size + 1, 0, none⟩ = some (.bool s2) ∧ v.cell? ⟨w.heap.size + 1, 1, none⟩ = some (.int .u64 h2) ∧ v.cell? ⟨w.heap.size + 1, 2, none⟩ = some (.int .u64 l2) ∧ v.cell? ⟨w.heap.size + 1 + 1, 0, none⟩ = some (vat v (w.heap.size + 1 + 1) 0) ∧ v.cell? ⟨w.heap.size + 1 + 1, 1, none⟩ = some (vat v (w.heap.size + 1 + 1) 1) ∧ v.frozen? ⟨w.heap.size + 1 + 1, 0, none⟩ = false ∧ v.frozen? ⟨w.heap.size + 1 + 1, 1, none⟩ = false)
    (first | (exact ⟨hbb.drew, x0, x1, x2, y0, y1, y2, vat_of z0, vat_of z1, fz0, fz1⟩) | (obtain ⟨k0, kx0, kx1, kx2, ky0, ky1, ky2, kz0, kz1, kfz0, kfz1⟩ := ‹Below w.heap.size w _ ∧ _›; exact ⟨keepB k0 hb3, keepC hb3 kx0, keepC hb3 kx1, keepC hb3 kx2, keepC hb3 ky0, keepC hb3 ky1, keepC hb3 ky2, vat_of (keepC hb3 kz0), vat_of (keepC hb3 kz1), keepF hb3 kz0 kfz0, keepF hb3 kz1 kfz1⟩) | (obtain ⟨k0, kx0, kx1, kx2, ky0, ky1, ky2, kz0, kz1, kfz0, kfz1⟩ := ‹Below w.heap.size w _ ∧ _›; exact ⟨below_set (below_set (k0) (by omega) _) (by omega) _, cell_far (cell_far (kx0) (by omega) _) (by omega) _, cell_far (cell_far (kx1) (by omega) _) (by omega) _, cell_far (cell_far (kx2) (by omega) _) (by omega) _, cell_far (cell_far (ky0) (by omega) _) (by omega) _, cell_far (cell_far (ky1) (by omega) _) (by omega) _, cell_far (cell_far (ky2) (by omega) _) (by omega) _, vat_set (vat_set (kz0) _ _) _ _, vat_set (vat_set (kz1) _ _) _ _, froz_set (froz_set (kfz0) _ _) _ _, froz_set (froz_set (kfz1) _ _) _ _⟩))
    (first | (go_at_call 140; refine (value_any _ _ _ (by assumption) (by assumption) _).mono ?_; rintro e w3 ⟨rfl, hb3⟩))
  go_wp2
  obtain ⟨k0, _, _, _, _, _, _, k1, k2, _, _⟩ := ‹Below w.heap.size w _ ∧ _›
  have r0 := res_far (by simp) k1
  have r1 := res_last k2
  exact bodyPost_ret (v := .tuple #[.agg #[.int .i64 (sg s1 l1), .int .i64 (sg s2 l2)], .int .i64 0]) (by simp [results, Try.results127, go_sem, r0, r1]) rfl ⟨rfl, k0⟩

set_option maxHeartbeats 1000000 in
theorem lowest_far1 (s1 s2 : Bool) (h1 l1 h2 l2 : Int) (a0 : 0 ≤ h1) (b0 : 0 ≤ l1) (b1 : l1 < 18446744073709551616)
    (f1 : ¬ W h1 l1 ≤ 1000000000000000000) (w : World) :
    Calls Try.prog 127 #[.agg #[.bool s1, .int .u64 h1, .int .u64 l1], .agg #[.bool s2, .int .u64 h2, .int .u64 l2]] w fun e w' =>
      e = .returned (.tuple #[.agg #[.int .i64 0, .int .i64 0], .int .i64 16]) ∧ Below w.heap.size w w' := by
  have F1 := fun w => fits_any s1 h1 l1 a0 b0 b1 w
  rw [decide_eq_false f1] at F1
  have G1 := Lib.hid F1
  clear F1 f1
  go_enter Try.func127, Try.ntmps127
  go_wp2_with fail
  refine (G1.out _).mono ?_
  rintro e w1 ⟨rfl, hb1⟩
  have z0 : w1.cell? ⟨w.heap.size + 1 + 1, 0, none⟩ = some (.int .i64 0) := keepC hb1 (by go_simp)
  have fz0 : w1.frozen? ⟨w.heap.size + 1 + 1, 0, none⟩ = false := keepF hb1 (v := .int .i64 0) (by go_simp) (by go_simp)
  have z1 : w1.cell? ⟨w.heap.size + 1 + 1, 1, none⟩ = some (.int .i64 0) := keepC hb1 (by go_simp)
  have fz1 : w1.frozen? ⟨w.heap.size + 1 + 1, 1, none⟩ = false := keepF hb1 (v := .int .i64 0) (by go_simp) (by go_simp)
  have hbb : Below w.heap.size w w1 := keepB (((((Below.refl _ _).alloc (Nat.le_refl _) _).alloc (by simp) _).alloc (by simp; omega) _)) hb1
  clear hb1
  go_wp2
  exact bodyPost_ret (v := .tuple #[.agg #[.int .i64 0, .int .i64 0], .int .i64 16]) (by simp [results, Try.results127, go_sem, z0, z1]) rfl ⟨rfl, below_set (below_set hbb (by omega) _) (by omega) _⟩

set_option maxHeartbeats 1000000 in
theorem lowest_far2 (s1 s2 : Bool) (h1 l1 h2 l2 : Int) (a0 : 0 ≤ h1) (b0 : 0 ≤ l1) (b1 : l1 < 18446744073709551616) (c0 : 0 ≤ h2) (d0 : 0 ≤ l2) (d1 : l2 < 18446744073709551616)
    (f1 : W h1 l1 ≤ 1000000000000000000) (f2 : ¬ W h2 l2 ≤ 1000000000000000000) (w : World) :
    Calls Try.prog 127 #[.agg #[.bool s1, .int .u64 h1, .int .u64 l1], .agg #[.bool s2, .int .u64 h2, .int .u64 l2]] w fun e w' =>
      e = .returned (.tuple #[.agg #[.int .i64 0, .int .i64 0], .int .i64 16]) ∧ Below w.heap.size w w' := by
  have F1 := fun w => fits_any s1 h1 l1 a0 b0 b1 w
  have F2 := fun w => fits_any s2 h2 l2 c0 d0 d1 w
  rw [decide_eq_true f1] at F1
  rw [decide_eq_false f2] at F2
  have G1 := Lib.hid F1
  have G2 := Lib.hid F2
  clear F1 F2 f1 f2
  go_enter Try.func127, Try.ntmps127
  go_wp2_with fail
  refine (G1.out _).mono ?_
  rintro e w1 ⟨rfl, hb1⟩
  have x0 : w1.cell? ⟨w.heap.size, 0, none⟩ = some (.bool s1) := keepC hb1 (by go_simp)
  have x1 : w1.cell? ⟨w.heap.size, 1, none⟩ = some (.int .u64 h1) := keepC hb1 (by go_simp)
  have x2 : w1.cell? ⟨w.heap.size, 2, none⟩ = some (.int .u64 l1) := keepC hb1 (by go_simp)
  have y0 : w1.cell? ⟨w.heap.size + 1, 0, none⟩ = some (.bool s2) := keepC hb1 (by go_simp)
  have y1 : w1.cell? ⟨w.heap.size + 1, 1, none⟩ = some (.int .u64 h2) := keepC hb1 (by go_simp)
  have y2 : w1.cell? ⟨w.heap.size + 1, 2, none⟩ = some (.int .u64 l2) := keepC hb1 (by go_simp)
  have z0 : w1.cell? ⟨w.heap.size + 1 + 1, 0, none⟩ = some (.int .i64 0) := keepC hb1 (by go_simp)
  have fz0 : w1.frozen? ⟨w.heap.size + 1 + 1, 0, none⟩ = false := keepF hb1 (v := .int .i64 0) (by go_simp) (by go_simp)
  have z1 : w1.cell? ⟨w.heap.size + 1 + 1, 1, none⟩ = some (.int .i64 0) := keepC hb1 (by go_simp)
  have fz1 : w1.frozen? ⟨w.heap.size + 1 + 1, 1, none⟩ = false := keepF hb1 (v := .int .i64 0) (by go_simp) (by go_simp)
  have hbb : Below w.heap.size w w1 := keepB (((((Below.refl _ _).alloc (Nat.le_refl _) _).alloc (by simp) _).alloc (by simp; omega) _)) hb1
  clear hb1
  go_wp2_with fail
  refine (G2.out _).mono ?_
  rintro e w2 ⟨rfl, hb2⟩
  replace x0 := keepC hb2 x0
  replace x1 := keepC hb2 x1
  replace x2 := keepC hb2 x2
  replace y0 := keepC hb2 y0
  replace y1 := keepC hb2 y1
  replace y2 := keepC hb2 y2
  replace fz0 := keepF hb2 z0 fz0
  replace z0 := keepC hb2 z0
  replace fz1 := keepF hb2 z1 fz1
  replace z1 := keepC hb2 z1
  replace hbb := keepB hbb hb2
  clear hb2 w1
  go_wp2
  exact bodyPost_ret (v := .tuple #[.agg #[.int .i64 0, .int .i64 0], .int .i64 16]) (by simp [results, Try.results127, go_sem, z0, z1]) rfl ⟨rfl, below_set (below_set hbb (by omega) _) (by omega) _⟩

theorem lowest_any (s1 : Bool) (m1 m2 : Int) (a0 : 0 ≤ m1) (a1 : m1 < 340282366920938463463374607431768211456) (b0 : 0 ≤ m2) (b1 : m2 < 340282366920938463463374607431768211456) (w : World) :
    Calls Try.prog 127 #[.agg #[.bool s1, .int .u64 (m1 / 18446744073709551616), .int .u64 (m1 % 18446744073709551616)], .agg #[.bool false, .int .u64 (m2 / 18446744073709551616), .int .u64 (m2 % 18446744073709551616)]] w fun e w' =>
      e = .returned (.tuple #[.agg #[.int .i64 (Rp.low (sg s1 m1) m2).1, .int .i64 (Rp.low (sg s1 m1) m2).2.1], .int .i64 (Rp.low (sg s1 m1) m2).2.2]) ∧ Below w.heap.size w w' := by
  have e1 := W_split m1
  have e2 := W_split m2
  have n1 : (sg s1 m1).natAbs = m1.toNat := by unfold sg; split <;> omega
  by_cases h1 : m1 ≤ 1000000000000000000
  · by_cases h2 : m2 ≤ 1000000000000000000
    · have e : Rp.low (sg s1 m1) m2 = (sg s1 m1, m2, 0) := by unfold Rp.low; rw [if_pos (by omega)]
      rw [e]
      have c := lowest_fits s1 false (m1 / 18446744073709551616) (m1 % 18446744073709551616) (m2 / 18446744073709551616) (m2 % 18446744073709551616) (by omega) (by omega) (by omega) (by omega) (by omega) (by omega) (by omega) (by omega) w
      rw [show m1 % 18446744073709551616 = m1 by omega, show m2 % 18446744073709551616 = m2 by omega] at c ⊢
      exact c
    · have e : Rp.low (sg s1 m1) m2 = (0, 0, 16) := by unfold Rp.low; rw [if_neg (by omega)]
      rw [e]
      exact lowest_far2 s1 false (m1 / 18446744073709551616) (m1 % 18446744073709551616) (m2 / 18446744073709551616) (m2 % 18446744073709551616) (by omega) (by omega) (by omega) (by omega) (by omega) (by omega) (by omega) (by omega) w
  · have e : Rp.low (sg s1 m1) m2 = (0, 0, 16) := by unfold Rp.low; rw [if_neg (by omega)]
    rw [e]
    exact lowest_far1 s1 false (m1 / 18446744073709551616) (m1 % 18446744073709551616) (m2 / 18446744073709551616) (m2 % 18446744073709551616) (by omega) (by omega) (by omega) (by omega) w
end Go.Proofs.Ytnnpmegknlgkoaa
