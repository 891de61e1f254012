/- The walk of the law RatioNames: it answers true. -/
import Derived.Test.YtkphaclfapkfoaaDoorLaw3
import Derived.Test.YtkphaclfapkfoaaDoorInv
import Derived.Laws.MakeOwn
namespace Go.Proofs.YtkphaclfapkfoaaDoor
open Go.RowKit

theorem parse_none (l : List UInt8) (h : Rp.okOf (Lib.parseIntB 64 (Rp.topOf l)) = none ∨ Rp.okOf (Lib.parseIntB 64 (Rp.botOf l)) = none) : Rp.parseS l = (0, 0, 12) := by
  unfold Rp.parseS
  rcases h with h | h
  · rw [h]
  · rw [h]; split <;> first | rfl | (rename_i h1 h2; cases h2)
theorem bad_0 : Rp.parseS [] = (0, 0, 12) := parse_none _ (by first | exact .inl (by decide +kernel) | exact .inr (by decide +kernel))
theorem bad_1 : Rp.parseS [49, 47] = (0, 0, 12) := parse_none _ (by first | exact .inl (by decide +kernel) | exact .inr (by decide +kernel))
theorem bad_2 : Rp.parseS [47, 50] = (0, 0, 12) := parse_none _ (by first | exact .inl (by decide +kernel) | exact .inr (by decide +kernel))
theorem bad_3 : Rp.parseS [49, 47, 48] = (0, 0, 12) := parse_bad _ 1 0 (by decide +kernel) (by decide +kernel) (fun h => absurd h.1 (by decide +kernel))
theorem bad_4 : Rp.parseS [48, 49] = (0, 0, 12) := parse_bad _ 1 1 (by decide +kernel) (by decide +kernel) (fun h => absurd h.2 (by simp [Rp.txt, Lib.itoa, Lib.decDigits]))
theorem bad_5 : Rp.parseS [49, 47, 48, 50] = (0, 0, 12) := parse_bad _ 1 2 (by decide +kernel) (by decide +kernel) (fun h => absurd h.2 (by simp [Rp.txt, Lib.itoa, Lib.decDigits]))
theorem bad_6 : Rp.parseS [49, 47, 45, 50] = (0, 0, 12) := parse_bad _ 1 (-2) (by decide +kernel) (by decide +kernel) (fun h => absurd h.1 (by decide +kernel))
theorem bad_7 : Rp.parseS [49, 48, 48, 48, 48, 48, 48, 48, 48, 48, 48, 48, 48, 48, 48, 48, 48, 48, 49] = (0, 0, 12) := parse_bad _ 1000000000000000001 1 (by decide +kernel) (by decide +kernel) (fun h => absurd h.1 (by decide +kernel))
theorem bad_8 : Rp.parseS [57, 57, 57, 57, 57, 57, 57, 57, 57, 57, 57, 57, 57, 57, 57, 57, 57, 57, 57] = (0, 0, 12) := parse_none _ (by first | exact .inl (by decide +kernel) | exact .inr (by decide +kernel))
theorem bad_9 : Rp.parseS [49, 32] = (0, 0, 12) := parse_none _ (by first | exact .inl (by decide +kernel) | exact .inr (by decide +kernel))
theorem bad_10 : Rp.parseS [48, 47, 50] = (0, 0, 12) := parse_bad _ 0 2 (by decide +kernel) (by decide +kernel) (fun h => absurd h.1 (by decide +kernel))
theorem bad_11 : Rp.parseS [49, 47, 50, 47, 51] = (0, 0, 12) := parse_none _ (by first | exact .inl (by decide +kernel) | exact .inr (by decide +kernel))
theorem good_text : Rp.txt (-1000000000000000000) 999999999999999999 = [45, 49, 48, 48, 48, 48, 48, 48, 48, 48, 48, 48, 48, 48, 48, 48, 48, 48, 48, 48, 47, 57, 57, 57, 57, 57, 57, 57, 57, 57, 57, 57, 57, 57, 57, 57, 57, 57, 57] := by
  unfold Rp.txt Lib.itoa
  rw [if_pos (by decide), if_neg (by decide), if_neg (by decide)]
  simp [Lib.decDigits]
theorem good_parse : Rp.parseS [45, 49, 48, 48, 48, 48, 48, 48, 48, 48, 48, 48, 48, 48, 48, 48, 48, 48, 48, 48, 47, 57, 57, 57, 57, 57, 57, 57, 57, 57, 57, 57, 57, 57, 57, 57, 57, 57, 57] = (-1000000000000000000, 999999999999999999, 0) := by
  rw [← good_text]
  exact Rp.parse_txt (by decide +kernel)
theorem vM1 : Rp.makeS (-9223372036854775808) (-9223372036854775808) = (1, 1, 0) := by decide +kernel
theorem vM2 : Rp.makeS (-9223372036854775808) 4611686018427387904 = (-2, 1, 0) := by decide +kernel
theorem vM3 : Rp.makeS 9223372036854775807 2 = (0, 0, 16) := by decide +kernel
theorem vM4 : Rp.makeS 1 (-9223372036854775808) = (0, 0, 16) := by decide +kernel
theorem vM5 : Rp.makeS 0 0 = (0, 0, 18) := by decide +kernel
theorem vM6 : Rp.makeS 0 (-7) = (0, 1, 0) := by decide +kernel
theorem vA1 : Rp.addS 1000000000000000000 1 1 1 = (0, 0, 16) := by decide +kernel
theorem vA2 : Rp.subS 1000000000000000000 1 1000000000000000000 1 = (0, 1, 0) := by decide +kernel
theorem vA3 : Rp.mulS 1000000000000000000 1 (-2) 1 = (0, 0, 16) := by decide +kernel
theorem vA4 : Rp.divS 1 1 0 1 = (0, 0, 18) := by decide +kernel
theorem vA5 : Rp.divS 1 1 (-1000000000000000000) 3 = (-3, 1000000000000000000, 0) := by decide +kernel
theorem vA6 : Rp.mulS 0 1 (-5) 3 = (0, 1, 0) := by decide +kernel
theorem vA7 : Rp.addS 1 1 2 2 = (0, 0, 8) := by decide +kernel
theorem vA8 : Rp.cmpS 0 0 1 1 = (0, 8) := by decide +kernel
theorem vA9 : Rp.cmpS 999999999999999999 1000000000000000000 999999999999999998 999999999999999999 = (1, 0) := by decide +kernel
theorem vA10 : Rp.cmpS (-1) 2 (-1) 3 = (-1, 0) := by decide +kernel
theorem vS : Rp.sumL [(1, 6), (1, 3), (1, 2)] = (1, 1, 0) := by decide +kernel

theorem mk_run (n : Nat) (hn : n ≤ 1000) (u : World) : (Instr.makeSlice 33 (.int .i64 (n : Int)) (.int .i64 (n : Int))).run Tryd.prog u = .ok (.slice (some ⟨u.heap.size, 0, none⟩) n n) (u.alloc (.cells (madeCells #[.int .i64 0, .int .i64 0] (n * 2)) 23)) := by
  have := run_make (P := Tryd.prog) u 33 23 Tryd.t23 (.agg #[.int .i64 0, .int .i64 0]) Tryd.underlying33 (by kernel_rfl) (by kernel_rfl) .i64 .i64 n n (by omega) (Int.le_refl _) (by show ((16 : Nat) : Int) * n ≤ _; omega) (by omega)
  simpa [show Tryd.t23.size = 2 from rfl, Value.cells] using this
theorem made0 (n : Nat) (h : 0 < n) : (madeCells #[.int .i64 0, .int .i64 0] (n * 2))[0]? = some (.int .i64 0) := by
  simp [madeCells, h]
theorem made1 (n : Nat) (h : 0 < n) : (madeCells #[.int .i64 0, .int .i64 0] (n * 2))[1]? = some (.int .i64 0) := by
  have : 1 < n * 2 := by omega
  simp [madeCells, this]

set_option maxRecDepth 100000 in
/-- A list whose first ratio is not valid. -/
theorem Sum_first (b off N cap : Nat) (n d : Int) (w : World) (h0 : 0 < N) (hN : N ≤ 100) (x0 : w.cell? ⟨b, off, none⟩ = some (.int .i64 n)) (x1 : w.cell? ⟨b, off + 1, none⟩ = some (.int .i64 d)) (hz : Rp.chk n d = 8)
    (n0 : -9223372036854775808 ≤ n) (n1 : n ≤ 9223372036854775807) (d0 : -9223372036854775808 ≤ d) (d1 : d ≤ 9223372036854775807) :
    Calls Tryd.prog 16 #[.slice (some ⟨b, off, none⟩) N cap] w fun e w' => e = .returned (.tuple #[.agg #[.int .i64 0, .int .i64 0], .int .i64 8]) ∧ Below w.heap.size w w' := by
  have hN' : decide (100 < (N : Int)) = false := decide_eq_false (by omega)
  have ck := fun w => check_any n d w n0 n1 d0 d1
  rw [hz] at ck
  have CK := Lib.hid ck
  have l0 := lt_of_cell x0
  clear ck hz n0 n1 d0 d1
  go_enter Tryd.func16, Tryd.ntmps16
  go_wp2_with fail
  go_loopw [18] (fun i v => i = .int .i64 0 ∧ v = w.alloc (.cells #[.int .i64 0, .int .i64 0] 23)) (fun _ _ => 0)
  case atStart => exact ⟨rfl, rfl⟩
  case round =>
    obtain ⟨rfl, rfl⟩ := hrel
    go_wp2_with fail
    refine (CK.out _).mono ?_
    rintro e w1 ⟨rfl, hb1⟩
    have B2 := ((Below.refl w.heap.size w).alloc (Nat.le_refl _) (.cells #[.int .i64 0, .int .i64 0] 23)).alloc (by simp) (.cells #[.int .i64 n, .int .i64 d] 23)
    have hbb := keepB B2 hb1
    have z0 : w1.cell? ⟨w.heap.size, 0, none⟩ = some (.int .i64 0) := keepC hb1 (by go_simp)
    have z1 : w1.cell? ⟨w.heap.size, 1, none⟩ = some (.int .i64 0) := keepC hb1 (by go_simp)
    have fz0 : w1.frozen? ⟨w.heap.size, 0, none⟩ = false := keepF hb1 (v := .int .i64 0) (by go_simp) (by go_simp)
    have fz1 : w1.frozen? ⟨w.heap.size, 1, none⟩ = false := keepF hb1 (v := .int .i64 0) (by go_simp) (by go_simp)
    clear hb1 B2
    go_wp2
    exact bodyPost_ret (v := .tuple #[.agg #[.int .i64 0, .int .i64 0], .int .i64 8]) (by simp [results, Tryd.results16, go_sem, z0, z1]) rfl ⟨rfl, below_set (below_set hbb (by omega) _) (by omega) _⟩

set_option maxHeartbeats 64000000 in
set_option maxRecDepth 100000 in
theorem names_walk (w : World) (E0 : Env w) :
    Calls Tryd.prog 3 #[] w fun e w' => e = .returned (.bool true) ∧ Below w.heap.size w w' := by
  have hM1 := fun w => Make_any (-9223372036854775808) (-9223372036854775808) (by decide) (by decide) (by decide) (by decide) w
  rw [vM1] at hM1
  have M1 := Lib.hid hM1
  clear hM1
  have hM2 := fun w => Make_any (-9223372036854775808) 4611686018427387904 (by decide) (by decide) (by decide) (by decide) w
  rw [vM2] at hM2
  have M2 := Lib.hid hM2
  clear hM2
  have hM3 := fun w => Make_any 9223372036854775807 2 (by decide) (by decide) (by decide) (by decide) w
  rw [vM3] at hM3
  have M3 := Lib.hid hM3
  clear hM3
  have hM4 := fun w => Make_any 1 (-9223372036854775808) (by decide) (by decide) (by decide) (by decide) w
  rw [vM4] at hM4
  have M4 := Lib.hid hM4
  clear hM4
  have hM5 := fun w => Make_any 0 0 (by decide) (by decide) (by decide) (by decide) w
  rw [vM5] at hM5
  have M5 := Lib.hid hM5
  clear hM5
  have hM6 := fun w => Make_any 0 (-7) (by decide) (by decide) (by decide) (by decide) w
  rw [vM6] at hM6
  have M6 := Lib.hid hM6
  clear hM6
  have hA1 := fun w => Add_any 1000000000000000000 1 1 1 w (by decide) (by decide) (by decide) (by decide) (by decide) (by decide) (by decide) (by decide)
  rw [vA1] at hA1
  have A1 := Lib.hid hA1
  clear hA1
  have hA2 := fun w => Sub_any 1000000000000000000 1 1000000000000000000 1 w (by decide) (by decide) (by decide) (by decide) (by decide) (by decide) (by decide) (by decide)
  rw [vA2] at hA2
  have A2 := Lib.hid hA2
  clear hA2
  have hA3 := fun w => Mul_any 1000000000000000000 1 (-2) 1 w (by decide) (by decide) (by decide) (by decide) (by decide) (by decide) (by decide) (by decide)
  rw [vA3] at hA3
  have A3 := Lib.hid hA3
  clear hA3
  have hA4 := fun w => Div_any 1 1 0 1 w (by decide) (by decide) (by decide) (by decide) (by decide) (by decide) (by decide) (by decide)
  rw [vA4] at hA4
  have A4 := Lib.hid hA4
  clear hA4
  have hA5 := fun w => Div_any 1 1 (-1000000000000000000) 3 w (by decide) (by decide) (by decide) (by decide) (by decide) (by decide) (by decide) (by decide)
  rw [vA5] at hA5
  have A5 := Lib.hid hA5
  clear hA5
  have hA6 := fun w => Mul_any 0 1 (-5) 3 w (by decide) (by decide) (by decide) (by decide) (by decide) (by decide) (by decide) (by decide)
  rw [vA6] at hA6
  have A6 := Lib.hid hA6
  clear hA6
  have hA7 := fun w => Add_any 1 1 2 2 w (by decide) (by decide) (by decide) (by decide) (by decide) (by decide) (by decide) (by decide)
  rw [vA7] at hA7
  have A7 := Lib.hid hA7
  clear hA7
  have hA8 := fun w => Cmp_any 0 0 1 1 w (by decide) (by decide) (by decide) (by decide) (by decide) (by decide) (by decide) (by decide)
  rw [vA8] at hA8
  have A8 := Lib.hid hA8
  clear hA8
  have hA9 := fun w => Cmp_any 999999999999999999 1000000000000000000 999999999999999998 999999999999999999 w (by decide) (by decide) (by decide) (by decide) (by decide) (by decide) (by decide) (by decide)
  rw [vA9] at hA9
  have A9 := Lib.hid hA9
  clear hA9
  have hA10 := fun w => Cmp_any (-1) 2 (-1) 3 w (by decide) (by decide) (by decide) (by decide) (by decide) (by decide) (by decide) (by decide)
  rw [vA10] at hA10
  have A10 := Lib.hid hA10
  clear hA10
  have hp := fun w => Parse_any ⟨#[45, 49, 48, 48, 48, 48, 48, 48, 48, 48, 48, 48, 48, 48, 48, 48, 48, 48, 48, 48, 47, 57, 57, 57, 57, 57, 57, 57, 57, 57, 57, 57, 57, 57, 57, 57, 57, 57, 57]⟩ w (by decide)
  rw [show (⟨#[45, 49, 48, 48, 48, 48, 48, 48, 48, 48, 48, 48, 48, 48, 48, 48, 48, 48, 48, 48, 47, 57, 57, 57, 57, 57, 57, 57, 57, 57, 57, 57, 57, 57, 57, 57, 57, 57, 57]⟩ : ByteArray).data.toList = [45, 49, 48, 48, 48, 48, 48, 48, 48, 48, 48, 48, 48, 48, 48, 48, 48, 48, 48, 48, 47, 57, 57, 57, 57, 57, 57, 57, 57, 57, 57, 57, 57, 57, 57, 57, 57, 57, 57] from rfl, good_parse] at hp
  have PB := Lib.hid hp
  clear hp
  obtain ⟨D1, hD1⟩ : ∃ D : Array Value, D = madeCells #[.int .i64 0, .int .i64 0] (101 * 2) := ⟨_, rfl⟩
  obtain ⟨D2, hD2⟩ : ∃ D : Array Value, D = madeCells #[.int .i64 0, .int .i64 0] (100 * 2) := ⟨_, rfl⟩
  have kD0 : D2[0]? = some (.int .i64 0) := by rw [hD2]; exact made0 100 (by decide)
  have kD1 : D2[1]? = some (.int .i64 0) := by rw [hD2]; exact made1 100 (by decide)
  have mk1 : ∀ u : World, (Instr.makeSlice 33 (.int .i64 101) (.int .i64 101)).run Tryd.prog u = .ok (.slice (some ⟨u.heap.size, 0, none⟩) 101 101) (u.alloc (.cells D1 23)) := fun u => by rw [hD1]; exact mk_run 101 (by decide) u
  have mk2 : ∀ u : World, (Instr.makeSlice 33 (.int .i64 100) (.int .i64 100)).run Tryd.prog u = .ok (.slice (some ⟨u.heap.size, 0, none⟩) 100 100) (u.alloc (.cells D2 23)) := fun u => by rw [hD2]; exact mk_run 100 (by decide) u
  have MK1 := Lib.hid mk1
  have MK2 := Lib.hid mk2
  clear hD1 hD2 mk1 mk2
  have E := Lib.hid E0
  clear E0
  go_enter Tryd.func3, Tryd.ntmps3
  go_wp2_with fail
  refine (M1.out _).mono ?_
  rintro e w1 ⟨rfl, hb⟩
  have hbb : Below w.heap.size w w1 := keepB (Below.refl _ _) hb
  have hE := Lib.hid (((E.out).keep (Below.refl _ _)).keep hb)
  clear hb
  go_wp2_with fail
  refine at_worldR (fun v => Env v ∧ Below w.heap.size w v ∧ v.cell? ⟨w1.heap.size, 0, none⟩ = some (.int .i64 1) ∧ v.cell? ⟨w1.heap.size, 1, none⟩ = some (.int .i64 1)) ⟨(hE.out).keep (below_al (Below.refl _ _) _), below_al hbb _, n20 _ _ _ _, n21 _ _ _ _⟩ (fun V1 hS => ?_)
  clear hE hbb 
  obtain ⟨hE, hbb, a0, a1⟩ := hS
  have hE' := Lib.hid hE
  clear hE
  have hE := hE'
  clear hE'
  refine (M2.out _).mono ?_
  rintro e w2 ⟨rfl, hb⟩
  replace a0 := keepC hb a0
  replace a1 := keepC hb a1
  replace hbb := keepB hbb hb
  have hE' := Lib.hid ((hE.out).keep hb)
  clear hE
  have hE := hE'
  clear hE'
  clear hb
  have l1 := lt_of_cell a0
  go_wp2_with fail
  refine at_worldR (fun v => Env v ∧ Below w.heap.size w v ∧ v.cell? ⟨w1.heap.size, 0, none⟩ = some (.int .i64 1) ∧ v.cell? ⟨w1.heap.size, 1, none⟩ = some (.int .i64 1) ∧ v.cell? ⟨w2.heap.size, 0, none⟩ = some (.int .i64 (-2)) ∧ v.cell? ⟨w2.heap.size, 1, none⟩ = some (.int .i64 1)) ⟨(hE.out).keep (below_al (Below.refl _ _) _), below_al hbb _, cell_alloc a0 _, cell_alloc a1 _, n20 _ _ _ _, n21 _ _ _ _⟩ (fun V2 hS => ?_)
  clear hE hbb a0 a1
  obtain ⟨hE, hbb, a0, a1, b0, b1⟩ := hS
  have hE' := Lib.hid hE
  clear hE
  have hE := hE'
  clear hE'
  refine (M3.out _).mono ?_
  rintro e w3 ⟨rfl, hb⟩
  replace a0 := keepC hb a0
  replace a1 := keepC hb a1
  replace b0 := keepC hb b0
  replace b1 := keepC hb b1
  replace hbb := keepB hbb hb
  have hE' := Lib.hid ((hE.out).keep hb)
  clear hE
  have hE := hE'
  clear hE'
  clear hb
  have l1 := lt_of_cell a0
  have l2 := lt_of_cell b0
  go_wp2_with fail
  refine at_worldR (fun v => Env v ∧ Below w.heap.size w v ∧ v.cell? ⟨w1.heap.size, 0, none⟩ = some (.int .i64 1) ∧ v.cell? ⟨w1.heap.size, 1, none⟩ = some (.int .i64 1) ∧ v.cell? ⟨w2.heap.size, 0, none⟩ = some (.int .i64 (-2)) ∧ v.cell? ⟨w2.heap.size, 1, none⟩ = some (.int .i64 1)) ⟨(hE.out).keep (below_al (Below.refl _ _) _), below_al hbb _, cell_alloc a0 _, cell_alloc a1 _, cell_alloc b0 _, cell_alloc b1 _⟩ (fun V3 hS => ?_)
  clear hE hbb a0 a1 b0 b1
  obtain ⟨hE, hbb, a0, a1, b0, b1⟩ := hS
  have hE' := Lib.hid hE
  clear hE
  have hE := hE'
  clear hE'
  refine (M4.out _).mono ?_
  rintro e w4 ⟨rfl, hb⟩
  replace a0 := keepC hb a0
  replace a1 := keepC hb a1
  replace b0 := keepC hb b0
  replace b1 := keepC hb b1
  replace hbb := keepB hbb hb
  have hE' := Lib.hid ((hE.out).keep hb)
  clear hE
  have hE := hE'
  clear hE'
  clear hb
  have l1 := lt_of_cell a0
  have l2 := lt_of_cell b0
  go_wp2_with fail
  refine at_worldR (fun v => Env v ∧ Below w.heap.size w v ∧ v.cell? ⟨w1.heap.size, 0, none⟩ = some (.int .i64 1) ∧ v.cell? ⟨w1.heap.size, 1, none⟩ = some (.int .i64 1) ∧ v.cell? ⟨w2.heap.size, 0, none⟩ = some (.int .i64 (-2)) ∧ v.cell? ⟨w2.heap.size, 1, none⟩ = some (.int .i64 1)) ⟨(hE.out).keep (below_al (Below.refl _ _) _), below_al hbb _, cell_alloc a0 _, cell_alloc a1 _, cell_alloc b0 _, cell_alloc b1 _⟩ (fun V4 hS => ?_)
  clear hE hbb a0 a1 b0 b1
  obtain ⟨hE, hbb, a0, a1, b0, b1⟩ := hS
  have hE' := Lib.hid hE
  clear hE
  have hE := hE'
  clear hE'
  refine (M5.out _).mono ?_
  rintro e w5 ⟨rfl, hb⟩
  replace a0 := keepC hb a0
  replace a1 := keepC hb a1
  replace b0 := keepC hb b0
  replace b1 := keepC hb b1
  replace hbb := keepB hbb hb
  have hE' := Lib.hid ((hE.out).keep hb)
  clear hE
  have hE := hE'
  clear hE'
  clear hb
  have l1 := lt_of_cell a0
  have l2 := lt_of_cell b0
  go_wp2_with fail
  refine at_worldR (fun v => Env v ∧ Below w.heap.size w v ∧ v.cell? ⟨w1.heap.size, 0, none⟩ = some (.int .i64 1) ∧ v.cell? ⟨w1.heap.size, 1, none⟩ = some (.int .i64 1) ∧ v.cell? ⟨w2.heap.size, 0, none⟩ = some (.int .i64 (-2)) ∧ v.cell? ⟨w2.heap.size, 1, none⟩ = some (.int .i64 1)) ⟨(hE.out).keep (below_al (Below.refl _ _) _), below_al hbb _, cell_alloc a0 _, cell_alloc a1 _, cell_alloc b0 _, cell_alloc b1 _⟩ (fun V5 hS => ?_)
  clear hE hbb a0 a1 b0 b1
  obtain ⟨hE, hbb, a0, a1, b0, b1⟩ := hS
  have hE' := Lib.hid hE
  clear hE
  have hE := hE'
  clear hE'
  refine (M6.out _).mono ?_
  rintro e w6 ⟨rfl, hb⟩
  replace a0 := keepC hb a0
  replace a1 := keepC hb a1
  replace b0 := keepC hb b0
  replace b1 := keepC hb b1
  replace hbb := keepB hbb hb
  have hE' := Lib.hid ((hE.out).keep hb)
  clear hE
  have hE := hE'
  clear hE'
  clear hb
  have l1 := lt_of_cell a0
  have l2 := lt_of_cell b0
  go_wp2_with fail
  refine at_worldR (fun v => Env v ∧ Below w.heap.size w v ∧ v.cell? ⟨w1.heap.size, 0, none⟩ = some (.int .i64 1) ∧ v.cell? ⟨w1.heap.size, 1, none⟩ = some (.int .i64 1) ∧ v.cell? ⟨w2.heap.size, 0, none⟩ = some (.int .i64 (-2)) ∧ v.cell? ⟨w2.heap.size, 1, none⟩ = some (.int .i64 1) ∧ v.cell? ⟨w6.heap.size, 0, none⟩ = some (.int .i64 0) ∧ v.cell? ⟨w6.heap.size, 1, none⟩ = some (.int .i64 1)) ⟨(hE.out).keep (below_al (Below.refl _ _) _), below_al hbb _, cell_alloc a0 _, cell_alloc a1 _, cell_alloc b0 _, cell_alloc b1 _, n20 _ _ _ _, n21 _ _ _ _⟩ (fun V6 hS => ?_)
  clear hE hbb a0 a1 b0 b1
  obtain ⟨hE, hbb, a0, a1, b0, b1, c0, c1⟩ := hS
  have hE' := Lib.hid hE
  clear hE
  have hE := hE'
  clear hE'
  refine (is_true 1 1 _).mono ?_
  rintro e w7 ⟨rfl, hb⟩
  replace a0 := keepC hb a0
  replace a1 := keepC hb a1
  replace b0 := keepC hb b0
  replace b1 := keepC hb b1
  replace c0 := keepC hb c0
  replace c1 := keepC hb c1
  replace hbb := keepB hbb hb
  have hE' := Lib.hid ((hE.out).keep hb)
  clear hE
  have hE := hE'
  clear hE'
  clear hb
  go_wp2_with fail
  refine (is_true (-2) 1 _).mono ?_
  rintro e w8 ⟨rfl, hb⟩
  replace a0 := keepC hb a0
  replace a1 := keepC hb a1
  replace b0 := keepC hb b0
  replace b1 := keepC hb b1
  replace c0 := keepC hb c0
  replace c1 := keepC hb c1
  replace hbb := keepB hbb hb
  have hE' := Lib.hid ((hE.out).keep hb)
  clear hE
  have hE := hE'
  clear hE'
  clear hb
  go_wp2_with fail
  refine (is_true 0 1 _).mono ?_
  rintro e w9 ⟨rfl, hb⟩
  replace a0 := keepC hb a0
  replace a1 := keepC hb a1
  replace b0 := keepC hb b0
  replace b1 := keepC hb b1
  replace c0 := keepC hb c0
  replace c1 := keepC hb c1
  replace hbb := keepB hbb hb
  have hE' := Lib.hid ((hE.out).keep hb)
  clear hE
  have hE := hE'
  clear hE'
  clear hb
  clear a0 a1 b0 b1 c0 c1
  go_wp2_with fail
  refine at_worldR (fun v => Env v ∧ Below w.heap.size w v ∧ v.cell? ⟨w9.heap.size, 0, none⟩ = some (.int .i64 1000000000000000000) ∧ v.cell? ⟨w9.heap.size, 1, none⟩ = some (.int .i64 1) ∧ v.cell? ⟨w9.heap.size + 1, 0, none⟩ = some (.int .i64 1) ∧ v.cell? ⟨w9.heap.size + 1, 1, none⟩ = some (.int .i64 1) ∧ v.cell? ⟨w9.heap.size + 1 + 1, 0, none⟩ = some (.int .i64 0) ∧ v.cell? ⟨w9.heap.size + 1 + 1, 1, none⟩ = some (.int .i64 1)) ⟨(hE.out).keep (below_al (below_al (below_al (Below.refl _ _) _) _) _), (below_al (below_al (below_al hbb _) _) _), by go_simp, by go_simp, by go_simp, by go_simp, by go_simp, by go_simp⟩ (fun V7 hS => ?_)
  clear hE hbb
  obtain ⟨hE, hbb, t0, t1, u0, u1, v0, v1⟩ := hS
  have hE' := Lib.hid hE
  clear hE
  have hE := hE'
  clear hE'
  refine (A1.out _).mono ?_
  rintro e w10 ⟨rfl, hb⟩
  replace t0 := keepC hb t0
  replace t1 := keepC hb t1
  replace u0 := keepC hb u0
  replace u1 := keepC hb u1
  replace v0 := keepC hb v0
  replace v1 := keepC hb v1
  replace hbb := keepB hbb hb
  have hE' := Lib.hid ((hE.out).keep hb)
  clear hE
  have hE := hE'
  clear hE'
  clear hb
  have l1 := lt_of_cell t0
  have l2 := lt_of_cell u0
  have l3 := lt_of_cell v0
  go_wp2_with fail
  refine at_worldR (fun v => Env v ∧ Below w.heap.size w v ∧ v.cell? ⟨w9.heap.size, 0, none⟩ = some (.int .i64 1000000000000000000) ∧ v.cell? ⟨w9.heap.size, 1, none⟩ = some (.int .i64 1) ∧ v.cell? ⟨w9.heap.size + 1, 0, none⟩ = some (.int .i64 1) ∧ v.cell? ⟨w9.heap.size + 1, 1, none⟩ = some (.int .i64 1) ∧ v.cell? ⟨w9.heap.size + 1 + 1, 0, none⟩ = some (.int .i64 0) ∧ v.cell? ⟨w9.heap.size + 1 + 1, 1, none⟩ = some (.int .i64 1)) ⟨(hE.out).keep (below_al (Below.refl _ _) _), below_al hbb _, cell_alloc t0 _, cell_alloc t1 _, cell_alloc u0 _, cell_alloc u1 _, cell_alloc v0 _, cell_alloc v1 _⟩ (fun V8 hS => ?_)
  clear hE hbb t0 t1 u0 u1 v0 v1
  obtain ⟨hE, hbb, t0, t1, u0, u1, v0, v1⟩ := hS
  have hE' := Lib.hid hE
  clear hE
  have hE := hE'
  clear hE'
  refine (A2.out _).mono ?_
  rintro e w11 ⟨rfl, hb⟩
  replace t0 := keepC hb t0
  replace t1 := keepC hb t1
  replace u0 := keepC hb u0
  replace u1 := keepC hb u1
  replace v0 := keepC hb v0
  replace v1 := keepC hb v1
  replace hbb := keepB hbb hb
  have hE' := Lib.hid ((hE.out).keep hb)
  clear hE
  have hE := hE'
  clear hE'
  clear hb
  have l1 := lt_of_cell t0
  have l2 := lt_of_cell u0
  have l3 := lt_of_cell v0
  go_wp2_with fail
  refine at_worldR (fun v => Env v ∧ Below w.heap.size w v ∧ v.cell? ⟨w9.heap.size, 0, none⟩ = some (.int .i64 1000000000000000000) ∧ v.cell? ⟨w9.heap.size, 1, none⟩ = some (.int .i64 1) ∧ v.cell? ⟨w9.heap.size + 1, 0, none⟩ = some (.int .i64 1) ∧ v.cell? ⟨w9.heap.size + 1, 1, none⟩ = some (.int .i64 1) ∧ v.cell? ⟨w9.heap.size + 1 + 1, 0, none⟩ = some (.int .i64 0) ∧ v.cell? ⟨w9.heap.size + 1 + 1, 1, none⟩ = some (.int .i64 1) ∧ v.cell? ⟨w11.heap.size, 0, none⟩ = some (.int .i64 0) ∧ v.cell? ⟨w11.heap.size, 1, none⟩ = some (.int .i64 1)) ⟨(hE.out).keep (below_al (Below.refl _ _) _), below_al hbb _, cell_alloc t0 _, cell_alloc t1 _, cell_alloc u0 _, cell_alloc u1 _, cell_alloc v0 _, cell_alloc v1 _, n20 _ _ _ _, n21 _ _ _ _⟩ (fun V9 hS => ?_)
  clear hE hbb t0 t1 u0 u1 v0 v1
  obtain ⟨hE, hbb, t0, t1, u0, u1, v0, v1, d0, d1⟩ := hS
  have hE' := Lib.hid hE
  clear hE
  have hE := hE'
  clear hE'
  refine (A3.out _).mono ?_
  rintro e w12 ⟨rfl, hb⟩
  replace t0 := keepC hb t0
  replace t1 := keepC hb t1
  replace u0 := keepC hb u0
  replace u1 := keepC hb u1
  replace v0 := keepC hb v0
  replace v1 := keepC hb v1
  replace d0 := keepC hb d0
  replace d1 := keepC hb d1
  replace hbb := keepB hbb hb
  have hE' := Lib.hid ((hE.out).keep hb)
  clear hE
  have hE := hE'
  clear hE'
  clear hb
  have l1 := lt_of_cell t0
  have l2 := lt_of_cell u0
  have l3 := lt_of_cell v0
  have l4 := lt_of_cell d0
  go_wp2_with fail
  refine at_worldR (fun v => Env v ∧ Below w.heap.size w v ∧ v.cell? ⟨w9.heap.size, 0, none⟩ = some (.int .i64 1000000000000000000) ∧ v.cell? ⟨w9.heap.size, 1, none⟩ = some (.int .i64 1) ∧ v.cell? ⟨w9.heap.size + 1, 0, none⟩ = some (.int .i64 1) ∧ v.cell? ⟨w9.heap.size + 1, 1, none⟩ = some (.int .i64 1) ∧ v.cell? ⟨w9.heap.size + 1 + 1, 0, none⟩ = some (.int .i64 0) ∧ v.cell? ⟨w9.heap.size + 1 + 1, 1, none⟩ = some (.int .i64 1) ∧ v.cell? ⟨w11.heap.size, 0, none⟩ = some (.int .i64 0) ∧ v.cell? ⟨w11.heap.size, 1, none⟩ = some (.int .i64 1)) ⟨(hE.out).keep (below_al (Below.refl _ _) _), below_al hbb _, cell_alloc t0 _, cell_alloc t1 _, cell_alloc u0 _, cell_alloc u1 _, cell_alloc v0 _, cell_alloc v1 _, cell_alloc d0 _, cell_alloc d1 _⟩ (fun V10 hS => ?_)
  clear hE hbb t0 t1 u0 u1 v0 v1 d0 d1
  obtain ⟨hE, hbb, t0, t1, u0, u1, v0, v1, d0, d1⟩ := hS
  have hE' := Lib.hid hE
  clear hE
  have hE := hE'
  clear hE'
  refine (A4.out _).mono ?_
  rintro e w13 ⟨rfl, hb⟩
  replace t0 := keepC hb t0
  replace t1 := keepC hb t1
  replace u0 := keepC hb u0
  replace u1 := keepC hb u1
  replace v0 := keepC hb v0
  replace v1 := keepC hb v1
  replace d0 := keepC hb d0
  replace d1 := keepC hb d1
  replace hbb := keepB hbb hb
  have hE' := Lib.hid ((hE.out).keep hb)
  clear hE
  have hE := hE'
  clear hE'
  clear hb
  have l1 := lt_of_cell t0
  have l2 := lt_of_cell u0
  have l3 := lt_of_cell v0
  have l4 := lt_of_cell d0
  go_wp2_with fail
  refine at_worldR (fun v => Env v ∧ Below w.heap.size w v ∧ v.cell? ⟨w9.heap.size, 0, none⟩ = some (.int .i64 1000000000000000000) ∧ v.cell? ⟨w9.heap.size, 1, none⟩ = some (.int .i64 1) ∧ v.cell? ⟨w9.heap.size + 1, 0, none⟩ = some (.int .i64 1) ∧ v.cell? ⟨w9.heap.size + 1, 1, none⟩ = some (.int .i64 1) ∧ v.cell? ⟨w9.heap.size + 1 + 1, 0, none⟩ = some (.int .i64 0) ∧ v.cell? ⟨w9.heap.size + 1 + 1, 1, none⟩ = some (.int .i64 1) ∧ v.cell? ⟨w11.heap.size, 0, none⟩ = some (.int .i64 0) ∧ v.cell? ⟨w11.heap.size, 1, none⟩ = some (.int .i64 1)) ⟨(hE.out).keep (below_al (Below.refl _ _) _), below_al hbb _, cell_alloc t0 _, cell_alloc t1 _, cell_alloc u0 _, cell_alloc u1 _, cell_alloc v0 _, cell_alloc v1 _, cell_alloc d0 _, cell_alloc d1 _⟩ (fun V11 hS => ?_)
  clear hE hbb t0 t1 u0 u1 v0 v1 d0 d1
  obtain ⟨hE, hbb, t0, t1, u0, u1, v0, v1, d0, d1⟩ := hS
  have hE' := Lib.hid hE
  clear hE
  have hE := hE'
  clear hE'
  refine (A5.out _).mono ?_
  rintro e w14 ⟨rfl, hb⟩
  replace t0 := keepC hb t0
  replace t1 := keepC hb t1
  replace u0 := keepC hb u0
  replace u1 := keepC hb u1
  replace v0 := keepC hb v0
  replace v1 := keepC hb v1
  replace d0 := keepC hb d0
  replace d1 := keepC hb d1
  replace hbb := keepB hbb hb
  have hE' := Lib.hid ((hE.out).keep hb)
  clear hE
  have hE := hE'
  clear hE'
  clear hb
  have l1 := lt_of_cell t0
  have l2 := lt_of_cell u0
  have l3 := lt_of_cell v0
  have l4 := lt_of_cell d0
  go_wp2_with fail
  refine at_worldR (fun v => Env v ∧ Below w.heap.size w v ∧ v.cell? ⟨w9.heap.size, 0, none⟩ = some (.int .i64 1000000000000000000) ∧ v.cell? ⟨w9.heap.size, 1, none⟩ = some (.int .i64 1) ∧ v.cell? ⟨w9.heap.size + 1, 0, none⟩ = some (.int .i64 1) ∧ v.cell? ⟨w9.heap.size + 1, 1, none⟩ = some (.int .i64 1) ∧ v.cell? ⟨w9.heap.size + 1 + 1, 0, none⟩ = some (.int .i64 0) ∧ v.cell? ⟨w9.heap.size + 1 + 1, 1, none⟩ = some (.int .i64 1) ∧ v.cell? ⟨w11.heap.size, 0, none⟩ = some (.int .i64 0) ∧ v.cell? ⟨w11.heap.size, 1, none⟩ = some (.int .i64 1) ∧ v.cell? ⟨w14.heap.size, 0, none⟩ = some (.int .i64 (-3)) ∧ v.cell? ⟨w14.heap.size, 1, none⟩ = some (.int .i64 1000000000000000000)) ⟨(hE.out).keep (below_al (Below.refl _ _) _), below_al hbb _, cell_alloc t0 _, cell_alloc t1 _, cell_alloc u0 _, cell_alloc u1 _, cell_alloc v0 _, cell_alloc v1 _, cell_alloc d0 _, cell_alloc d1 _, n20 _ _ _ _, n21 _ _ _ _⟩ (fun V12 hS => ?_)
  clear hE hbb t0 t1 u0 u1 v0 v1 d0 d1
  obtain ⟨hE, hbb, t0, t1, u0, u1, v0, v1, d0, d1, o0, o1⟩ := hS
  have hE' := Lib.hid hE
  clear hE
  have hE := hE'
  clear hE'
  refine (A6.out _).mono ?_
  rintro e w15 ⟨rfl, hb⟩
  replace t0 := keepC hb t0
  replace t1 := keepC hb t1
  replace u0 := keepC hb u0
  replace u1 := keepC hb u1
  replace v0 := keepC hb v0
  replace v1 := keepC hb v1
  replace d0 := keepC hb d0
  replace d1 := keepC hb d1
  replace o0 := keepC hb o0
  replace o1 := keepC hb o1
  replace hbb := keepB hbb hb
  have hE' := Lib.hid ((hE.out).keep hb)
  clear hE
  have hE := hE'
  clear hE'
  clear hb
  have l1 := lt_of_cell t0
  have l2 := lt_of_cell u0
  have l3 := lt_of_cell v0
  have l4 := lt_of_cell d0
  have l5 := lt_of_cell o0
  go_wp2_with fail
  refine at_worldR (fun v => Env v ∧ Below w.heap.size w v ∧ v.cell? ⟨w9.heap.size, 0, none⟩ = some (.int .i64 1000000000000000000) ∧ v.cell? ⟨w9.heap.size, 1, none⟩ = some (.int .i64 1) ∧ v.cell? ⟨w9.heap.size + 1, 0, none⟩ = some (.int .i64 1) ∧ v.cell? ⟨w9.heap.size + 1, 1, none⟩ = some (.int .i64 1) ∧ v.cell? ⟨w9.heap.size + 1 + 1, 0, none⟩ = some (.int .i64 0) ∧ v.cell? ⟨w9.heap.size + 1 + 1, 1, none⟩ = some (.int .i64 1) ∧ v.cell? ⟨w11.heap.size, 0, none⟩ = some (.int .i64 0) ∧ v.cell? ⟨w11.heap.size, 1, none⟩ = some (.int .i64 1) ∧ v.cell? ⟨w14.heap.size, 0, none⟩ = some (.int .i64 (-3)) ∧ v.cell? ⟨w14.heap.size, 1, none⟩ = some (.int .i64 1000000000000000000) ∧ v.cell? ⟨w15.heap.size, 0, none⟩ = some (.int .i64 0) ∧ v.cell? ⟨w15.heap.size, 1, none⟩ = some (.int .i64 1)) ⟨(hE.out).keep (below_al (Below.refl _ _) _), below_al hbb _, cell_alloc t0 _, cell_alloc t1 _, cell_alloc u0 _, cell_alloc u1 _, cell_alloc v0 _, cell_alloc v1 _, cell_alloc d0 _, cell_alloc d1 _, cell_alloc o0 _, cell_alloc o1 _, n20 _ _ _ _, n21 _ _ _ _⟩ (fun V13 hS => ?_)
  clear hE hbb t0 t1 u0 u1 v0 v1 d0 d1 o0 o1
  obtain ⟨hE, hbb, t0, t1, u0, u1, v0, v1, d0, d1, o0, o1, q0, q1⟩ := hS
  have hE' := Lib.hid hE
  clear hE
  have hE := hE'
  clear hE'
  refine (A7.out _).mono ?_
  rintro e w16 ⟨rfl, hb⟩
  replace t0 := keepC hb t0
  replace t1 := keepC hb t1
  replace u0 := keepC hb u0
  replace u1 := keepC hb u1
  replace v0 := keepC hb v0
  replace v1 := keepC hb v1
  replace d0 := keepC hb d0
  replace d1 := keepC hb d1
  replace o0 := keepC hb o0
  replace o1 := keepC hb o1
  replace q0 := keepC hb q0
  replace q1 := keepC hb q1
  replace hbb := keepB hbb hb
  have hE' := Lib.hid ((hE.out).keep hb)
  clear hE
  have hE := hE'
  clear hE'
  clear hb
  have l1 := lt_of_cell t0
  have l2 := lt_of_cell u0
  have l3 := lt_of_cell v0
  have l4 := lt_of_cell d0
  have l5 := lt_of_cell o0
  have l6 := lt_of_cell q0
  go_wp2_with fail
  refine at_worldR (fun v => Env v ∧ Below w.heap.size w v ∧ v.cell? ⟨w9.heap.size, 0, none⟩ = some (.int .i64 1000000000000000000) ∧ v.cell? ⟨w9.heap.size, 1, none⟩ = some (.int .i64 1) ∧ v.cell? ⟨w9.heap.size + 1, 0, none⟩ = some (.int .i64 1) ∧ v.cell? ⟨w9.heap.size + 1, 1, none⟩ = some (.int .i64 1) ∧ v.cell? ⟨w9.heap.size + 1 + 1, 0, none⟩ = some (.int .i64 0) ∧ v.cell? ⟨w9.heap.size + 1 + 1, 1, none⟩ = some (.int .i64 1) ∧ v.cell? ⟨w11.heap.size, 0, none⟩ = some (.int .i64 0) ∧ v.cell? ⟨w11.heap.size, 1, none⟩ = some (.int .i64 1) ∧ v.cell? ⟨w14.heap.size, 0, none⟩ = some (.int .i64 (-3)) ∧ v.cell? ⟨w14.heap.size, 1, none⟩ = some (.int .i64 1000000000000000000) ∧ v.cell? ⟨w15.heap.size, 0, none⟩ = some (.int .i64 0) ∧ v.cell? ⟨w15.heap.size, 1, none⟩ = some (.int .i64 1)) ⟨(hE.out).keep (below_al (Below.refl _ _) _), below_al hbb _, cell_alloc t0 _, cell_alloc t1 _, cell_alloc u0 _, cell_alloc u1 _, cell_alloc v0 _, cell_alloc v1 _, cell_alloc d0 _, cell_alloc d1 _, cell_alloc o0 _, cell_alloc o1 _, cell_alloc q0 _, cell_alloc q1 _⟩ (fun V14 hS => ?_)
  clear hE hbb t0 t1 u0 u1 v0 v1 d0 d1 o0 o1 q0 q1
  obtain ⟨hE, hbb, t0, t1, u0, u1, v0, v1, d0, d1, o0, o1, q0, q1⟩ := hS
  have hE' := Lib.hid hE
  clear hE
  have hE := hE'
  clear hE'
  refine (A8.out _).mono ?_
  rintro e w17 ⟨rfl, hb⟩
  replace t0 := keepC hb t0
  replace t1 := keepC hb t1
  replace u0 := keepC hb u0
  replace u1 := keepC hb u1
  replace v0 := keepC hb v0
  replace v1 := keepC hb v1
  replace d0 := keepC hb d0
  replace d1 := keepC hb d1
  replace o0 := keepC hb o0
  replace o1 := keepC hb o1
  replace q0 := keepC hb q0
  replace q1 := keepC hb q1
  replace hbb := keepB hbb hb
  have hE' := Lib.hid ((hE.out).keep hb)
  clear hE
  have hE := hE'
  clear hE'
  clear hb
  clear t0 t1 u0 u1 v0 v1
  have l1 := lt_of_cell d0
  have l2 := lt_of_cell o0
  have l3 := lt_of_cell q0
  go_wp2_with fail
  refine (is_true 0 1 _).mono ?_
  rintro e w18 ⟨rfl, hb⟩
  replace d0 := keepC hb d0
  replace d1 := keepC hb d1
  replace o0 := keepC hb o0
  replace o1 := keepC hb o1
  replace q0 := keepC hb q0
  replace q1 := keepC hb q1
  replace hbb := keepB hbb hb
  have hE' := Lib.hid ((hE.out).keep hb)
  clear hE
  have hE := hE'
  clear hE'
  clear hb
  go_wp2_with fail
  refine (is_true (-3) 1000000000000000000 _).mono ?_
  rintro e w19 ⟨rfl, hb⟩
  replace d0 := keepC hb d0
  replace d1 := keepC hb d1
  replace o0 := keepC hb o0
  replace o1 := keepC hb o1
  replace q0 := keepC hb q0
  replace q1 := keepC hb q1
  replace hbb := keepB hbb hb
  have hE' := Lib.hid ((hE.out).keep hb)
  clear hE
  have hE := hE'
  clear hE'
  clear hb
  go_wp2_with fail
  refine (is_true 0 1 _).mono ?_
  rintro e w20 ⟨rfl, hb⟩
  replace d0 := keepC hb d0
  replace d1 := keepC hb d1
  replace o0 := keepC hb o0
  replace o1 := keepC hb o1
  replace q0 := keepC hb q0
  replace q1 := keepC hb q1
  replace hbb := keepB hbb hb
  have hE' := Lib.hid ((hE.out).keep hb)
  clear hE
  have hE := hE'
  clear hE'
  clear hb
  clear d0 d1 o0 o1 q0 q1
  go_wp2_with fail
  refine (A9.out _).mono ?_
  rintro e w21 ⟨rfl, hb⟩
  replace hbb := keepB hbb hb
  have hE' := Lib.hid ((hE.out).keep hb)
  clear hE
  have hE := hE'
  clear hE'
  clear hb
  go_wp2_with fail
  refine (A10.out _).mono ?_
  rintro e w22 ⟨rfl, hb⟩
  replace hbb := keepB hbb hb
  have hE' := Lib.hid ((hE.out).keep hb)
  clear hE
  have hE := hE'
  clear hE'
  clear hb
  go_wp2_with fail
  refine (PB.out _ (hE.out)).mono ?_
  rintro e w23 ⟨rfl, hb⟩
  replace hbb := keepB hbb hb
  have hE' := Lib.hid ((hE.out).keep hb)
  clear hE
  have hE := hE'
  clear hE'
  clear hb
  go_wp2_with fail
  refine at_worldR (fun v => Env v ∧ Below w.heap.size w v ∧ v.cell? ⟨w23.heap.size, 0, none⟩ = some (.int .i64 (-1000000000000000000)) ∧ v.cell? ⟨w23.heap.size, 1, none⟩ = some (.int .i64 999999999999999999)) ⟨(hE.out).keep (below_al (Below.refl _ _) _), below_al hbb _, n20 _ _ _ _, n21 _ _ _ _⟩ (fun V15 hS => ?_)
  clear hE hbb 
  obtain ⟨hE, hbb, y0, y1⟩ := hS
  have hE' := Lib.hid hE
  clear hE
  have hE := hE'
  clear hE'
  refine (Sum_nil _).mono ?_
  rintro e w24 ⟨rfl, hb⟩
  replace y0 := keepC hb y0
  replace y1 := keepC hb y1
  replace hbb := keepB hbb hb
  have hE' := Lib.hid ((hE.out).keep hb)
  clear hE
  have hE := hE'
  clear hE'
  clear hb
  have mk1 := MK1.out
  have mk2 := MK2.out
  have l1 := lt_of_cell y0
  go_wp2_with fail
  refine at_worldR (fun v => Env v ∧ Below w.heap.size w v ∧ v.cell? ⟨w23.heap.size, 0, none⟩ = some (.int .i64 (-1000000000000000000)) ∧ v.cell? ⟨w23.heap.size, 1, none⟩ = some (.int .i64 999999999999999999) ∧ v.cell? ⟨w24.heap.size, 0, none⟩ = some (.int .i64 0) ∧ v.cell? ⟨w24.heap.size, 1, none⟩ = some (.int .i64 1)) ⟨(hE.out).keep (below_al (below_al (Below.refl _ _) _) _), below_al (below_al hbb _) _, cell_alloc (cell_alloc y0 _) _, cell_alloc (cell_alloc y1 _) _, cell_alloc (n20 _ _ _ _) _, cell_alloc (n21 _ _ _ _) _⟩ (fun V16 hS => ?_)
  clear hE hbb y0 y1
  obtain ⟨hE, hbb, y0, y1, e0, e1⟩ := hS
  have hE' := Lib.hid hE
  clear hE
  have hE := hE'
  clear hE'
  refine (Sum_many _ 101 101 _ (by decide)).mono ?_
  rintro e w25 ⟨rfl, hb⟩
  replace y0 := keepC hb y0
  replace y1 := keepC hb y1
  replace e0 := keepC hb e0
  replace e1 := keepC hb e1
  replace hbb := keepB hbb hb
  have hE' := Lib.hid ((hE.out).keep hb)
  clear hE
  have hE := hE'
  clear hE'
  clear hb
  have l1 := lt_of_cell y0
  have l2 := lt_of_cell e0
  go_wp2_with fail
  refine at_worldR (fun v => Env v ∧ Below w.heap.size w v ∧ v.cell? ⟨w23.heap.size, 0, none⟩ = some (.int .i64 (-1000000000000000000)) ∧ v.cell? ⟨w23.heap.size, 1, none⟩ = some (.int .i64 999999999999999999) ∧ v.cell? ⟨w24.heap.size, 0, none⟩ = some (.int .i64 0) ∧ v.cell? ⟨w24.heap.size, 1, none⟩ = some (.int .i64 1) ∧ v.cell? ⟨w25.heap.size + 1, 0, none⟩ = some (.int .i64 0) ∧ v.cell? ⟨w25.heap.size + 1, 1, none⟩ = some (.int .i64 0)) ⟨(hE.out).keep (below_al (below_al (Below.refl _ _) _) _), below_al (below_al hbb _) _, cell_alloc (cell_alloc y0 _) _, cell_alloc (cell_alloc y1 _) _, cell_alloc (cell_alloc e0 _) _, cell_alloc (cell_alloc e1 _) _, by go_simp, by go_simp⟩ (fun V17 hS => ?_)
  clear hE hbb y0 y1 e0 e1
  obtain ⟨hE, hbb, y0, y1, e0, e1, s0, s1⟩ := hS
  have hE' := Lib.hid hE
  clear hE
  have hE := hE'
  clear hE'
  refine (Sum_first _ 0 100 100 0 0 _ (by decide) (by decide) s0 s1 (by decide) (by decide) (by decide) (by decide) (by decide)).mono ?_
  rintro e w26 ⟨rfl, hb⟩
  replace y0 := keepC hb y0
  replace y1 := keepC hb y1
  replace e0 := keepC hb e0
  replace e1 := keepC hb e1
  replace hbb := keepB hbb hb
  have hE' := Lib.hid ((hE.out).keep hb)
  clear hE
  have hE := hE'
  clear hE'
  clear hb
  clear s0 s1 mk1 mk2 kD0 kD1
  have l1 := lt_of_cell y0
  have l2 := lt_of_cell e0
  go_wp2_with fail
  refine at_worldR (fun v => Env v ∧ Below w.heap.size w v ∧ v.cell? ⟨w23.heap.size, 0, none⟩ = some (.int .i64 (-1000000000000000000)) ∧ v.cell? ⟨w23.heap.size, 1, none⟩ = some (.int .i64 999999999999999999) ∧ v.cell? ⟨w24.heap.size, 0, none⟩ = some (.int .i64 0) ∧ v.cell? ⟨w24.heap.size, 1, none⟩ = some (.int .i64 1) ∧ v.cell? ⟨w26.heap.size + 1, 0, none⟩ = some (.int .i64 1) ∧ v.cell? ⟨w26.heap.size + 1, 1, none⟩ = some (.int .i64 6) ∧ v.cell? ⟨w26.heap.size + 1, 2, none⟩ = some (.int .i64 1) ∧ v.cell? ⟨w26.heap.size + 1, 3, none⟩ = some (.int .i64 3) ∧ v.cell? ⟨w26.heap.size + 1, 4, none⟩ = some (.int .i64 1) ∧ v.cell? ⟨w26.heap.size + 1, 5, none⟩ = some (.int .i64 2)) ⟨(hE.out).keep (below_al (below_al (Below.refl _ _) _) _), below_al (below_al hbb _) _, cell_alloc (cell_alloc y0 _) _, cell_alloc (cell_alloc y1 _) _, cell_alloc (cell_alloc e0 _) _, cell_alloc (cell_alloc e1 _) _, by go_simp, by go_simp, by go_simp, by go_simp, by go_simp, by go_simp⟩ (fun V18 hS => ?_)
  clear hE hbb y0 y1 e0 e1
  obtain ⟨hE, hbb, y0, y1, e0, e1, k0, k1, k2, k3, k4, k5⟩ := hS
  have hE' := Lib.hid hE
  clear hE
  have hE := hE'
  clear hE'
  have hrd := rdr3 k0 k1 k2 k3 k4 k5
  refine (Sum_list _ 0 3 [(1, 6), (1, 3), (1, 2)] _ (by decide) hrd (by decide) 1 1 0 vS).mono ?_
  rintro e w27 ⟨rfl, hb⟩
  replace y0 := keepC hb y0
  replace y1 := keepC hb y1
  replace e0 := keepC hb e0
  replace e1 := keepC hb e1
  replace hbb := keepB hbb hb
  have hE' := Lib.hid ((hE.out).keep hb)
  clear hE
  have hE := hE'
  clear hE'
  clear hb
  clear hrd k0 k1 k2 k3 k4 k5
  have l1 := lt_of_cell y0
  have l2 := lt_of_cell e0
  go_wp2_with fail
  refine at_worldR (fun v => Env v ∧ Below w.heap.size w v ∧ v.cell? ⟨w23.heap.size, 0, none⟩ = some (.int .i64 (-1000000000000000000)) ∧ v.cell? ⟨w23.heap.size, 1, none⟩ = some (.int .i64 999999999999999999) ∧ v.cell? ⟨w24.heap.size, 0, none⟩ = some (.int .i64 0) ∧ v.cell? ⟨w24.heap.size, 1, none⟩ = some (.int .i64 1) ∧ v.cell? ⟨w27.heap.size, 0, none⟩ = some (.int .i64 1) ∧ v.cell? ⟨w27.heap.size, 1, none⟩ = some (.int .i64 1)) ⟨(hE.out).keep (below_al (Below.refl _ _) _), below_al hbb _, cell_alloc y0 _, cell_alloc y1 _, cell_alloc e0 _, cell_alloc e1 _, n20 _ _ _ _, n21 _ _ _ _⟩ (fun V19 hS => ?_)
  clear hE hbb y0 y1 e0 e1
  obtain ⟨hE, hbb, y0, y1, e0, e1, g0, g1⟩ := hS
  have hE' := Lib.hid hE
  clear hE
  have hE := hE'
  clear hE'
  refine (is_true (-1000000000000000000) 999999999999999999 _).mono ?_
  rintro e w28 ⟨rfl, hb⟩
  replace y0 := keepC hb y0
  replace y1 := keepC hb y1
  replace e0 := keepC hb e0
  replace e1 := keepC hb e1
  replace g0 := keepC hb g0
  replace g1 := keepC hb g1
  replace hbb := keepB hbb hb
  have hE' := Lib.hid ((hE.out).keep hb)
  clear hE
  have hE := hE'
  clear hE'
  clear hb
  go_wp2_with fail
  refine (is_true 0 1 _).mono ?_
  rintro e w29 ⟨rfl, hb⟩
  replace y0 := keepC hb y0
  replace y1 := keepC hb y1
  replace e0 := keepC hb e0
  replace e1 := keepC hb e1
  replace g0 := keepC hb g0
  replace g1 := keepC hb g1
  replace hbb := keepB hbb hb
  have hE' := Lib.hid ((hE.out).keep hb)
  clear hE
  have hE := hE'
  clear hE'
  clear hb
  go_wp2_with fail
  refine (is_true 1 1 _).mono ?_
  rintro e w30 ⟨rfl, hb⟩
  replace y0 := keepC hb y0
  replace y1 := keepC hb y1
  replace e0 := keepC hb e0
  replace e1 := keepC hb e1
  replace g0 := keepC hb g0
  replace g1 := keepC hb g1
  replace hbb := keepB hbb hb
  have hE' := Lib.hid ((hE.out).keep hb)
  clear hE
  have hE := hE'
  clear hE'
  clear hb
  clear y0 y1 e0 e1 g0 g1
  go_wp2_with fail
  refine (refused_true ⟨#[]⟩ (by decide) bad_0 _ (hE.out)).mono ?_
  rintro e w31 ⟨rfl, hb⟩
  replace hbb := keepB hbb hb
  have hE' := Lib.hid ((hE.out).keep hb)
  clear hE
  have hE := hE'
  clear hE'
  clear hb
  go_wp2_with fail
  refine (refused_true ⟨#[49, 47]⟩ (by decide) bad_1 _ (hE.out)).mono ?_
  rintro e w32 ⟨rfl, hb⟩
  replace hbb := keepB hbb hb
  have hE' := Lib.hid ((hE.out).keep hb)
  clear hE
  have hE := hE'
  clear hE'
  clear hb
  go_wp2_with fail
  refine (refused_true ⟨#[47, 50]⟩ (by decide) bad_2 _ (hE.out)).mono ?_
  rintro e w33 ⟨rfl, hb⟩
  replace hbb := keepB hbb hb
  have hE' := Lib.hid ((hE.out).keep hb)
  clear hE
  have hE := hE'
  clear hE'
  clear hb
  go_wp2_with fail
  refine (refused_true ⟨#[49, 47, 48]⟩ (by decide) bad_3 _ (hE.out)).mono ?_
  rintro e w34 ⟨rfl, hb⟩
  replace hbb := keepB hbb hb
  have hE' := Lib.hid ((hE.out).keep hb)
  clear hE
  have hE := hE'
  clear hE'
  clear hb
  go_wp2_with fail
  refine (refused_true ⟨#[48, 49]⟩ (by decide) bad_4 _ (hE.out)).mono ?_
  rintro e w35 ⟨rfl, hb⟩
  replace hbb := keepB hbb hb
  have hE' := Lib.hid ((hE.out).keep hb)
  clear hE
  have hE := hE'
  clear hE'
  clear hb
  go_wp2_with fail
  refine (refused_true ⟨#[49, 47, 48, 50]⟩ (by decide) bad_5 _ (hE.out)).mono ?_
  rintro e w36 ⟨rfl, hb⟩
  replace hbb := keepB hbb hb
  have hE' := Lib.hid ((hE.out).keep hb)
  clear hE
  have hE := hE'
  clear hE'
  clear hb
  go_wp2_with fail
  refine (refused_true ⟨#[49, 47, 45, 50]⟩ (by decide) bad_6 _ (hE.out)).mono ?_
  rintro e w37 ⟨rfl, hb⟩
  replace hbb := keepB hbb hb
  have hE' := Lib.hid ((hE.out).keep hb)
  clear hE
  have hE := hE'
  clear hE'
  clear hb
  go_wp2_with fail
  refine (refused_true ⟨#[49, 48, 48, 48, 48, 48, 48, 48, 48, 48, 48, 48, 48, 48, 48, 48, 48, 48, 49]⟩ (by decide) bad_7 _ (hE.out)).mono ?_
  rintro e w38 ⟨rfl, hb⟩
  replace hbb := keepB hbb hb
  have hE' := Lib.hid ((hE.out).keep hb)
  clear hE
  have hE := hE'
  clear hE'
  clear hb
  go_wp2_with fail
  refine (refused_true ⟨#[57, 57, 57, 57, 57, 57, 57, 57, 57, 57, 57, 57, 57, 57, 57, 57, 57, 57, 57]⟩ (by decide) bad_8 _ (hE.out)).mono ?_
  rintro e w39 ⟨rfl, hb⟩
  replace hbb := keepB hbb hb
  have hE' := Lib.hid ((hE.out).keep hb)
  clear hE
  have hE := hE'
  clear hE'
  clear hb
  go_wp2_with fail
  refine (refused_true ⟨#[49, 32]⟩ (by decide) bad_9 _ (hE.out)).mono ?_
  rintro e w40 ⟨rfl, hb⟩
  replace hbb := keepB hbb hb
  have hE' := Lib.hid ((hE.out).keep hb)
  clear hE
  have hE := hE'
  clear hE'
  clear hb
  go_wp2_with fail
  refine (refused_true ⟨#[48, 47, 50]⟩ (by decide) bad_10 _ (hE.out)).mono ?_
  rintro e w41 ⟨rfl, hb⟩
  replace hbb := keepB hbb hb
  have hE' := Lib.hid ((hE.out).keep hb)
  clear hE
  have hE := hE'
  clear hE'
  clear hb
  go_wp2_with fail
  refine (refused_true ⟨#[49, 47, 50, 47, 51]⟩ (by decide) bad_11 _ (hE.out)).mono ?_
  rintro e w42 ⟨rfl, hb⟩
  replace hbb := keepB hbb hb
  have hE' := Lib.hid ((hE.out).keep hb)
  clear hE
  have hE := hE'
  clear hE'
  clear hb
  go_wp2_with fail
  refine (alive_true _ (hE.out)).mono ?_
  rintro e w43 ⟨rfl, hb⟩
  replace hbb := keepB hbb hb
  have hE' := Lib.hid ((hE.out).keep hb)
  clear hE
  have hE := hE'
  clear hE'
  clear hb
  go_wp2
  go_ret
  exact ⟨rfl, hbb⟩
end Go.Proofs.YtkphaclfapkfoaaDoor
