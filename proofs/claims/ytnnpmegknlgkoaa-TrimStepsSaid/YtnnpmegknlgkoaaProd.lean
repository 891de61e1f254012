/- Contracts of package ratio's Mul and Div, for all arguments. -/
import Derived.Test.YtnnpmegknlgkoaaTimesRat
import Derived.Test.YtnnpmegknlgkoaaGf
namespace Go.Proofs.Ytnnpmegknlgkoaa
open Go.RowKit

theorem Ok_inv {m c : Int} (h : Rp.Ok m c) (hz : m ≠ 0) : Rp.Ok (if m < 0 then -c else c) (if m < 0 then -m else m) := by
  obtain ⟨h1, h2, h3, h4, h5⟩ := h
  by_cases hn : m < 0
  · simp only [if_pos hn]
    exact ⟨by omega, by omega, by omega, by omega, by rw [Int.natAbs_neg, Int.natAbs_neg, Nat.gcd_comm]; exact h5⟩
  · simp only [if_neg hn]
    exact ⟨by omega, by omega, by omega, by omega, by rw [Nat.gcd_comm]; exact h5⟩
theorem q_inv (m c : Int) : Rp.q (if m < 0 then -c else c) (if m < 0 then -m else m) = (Rp.q m c)⁻¹ := by
  unfold Rp.q
  rw [Rat.inv_divInt]
  by_cases hn : m < 0
  · simp only [if_pos hn]; exact Rat.neg_divInt_neg c m
  · simp only [if_neg hn]

set_option maxHeartbeats 1000000 in
theorem Mul_any (n d m c : Int) (w : World) (n0 : -9223372036854775808 ≤ n) (n1 : n ≤ 9223372036854775807) (d0 : -9223372036854775808 ≤ d) (d1 : d ≤ 9223372036854775807)
    (m0 : -9223372036854775808 ≤ m) (m1 : m ≤ 9223372036854775807) (c0 : -9223372036854775808 ≤ c) (c1 : c ≤ 9223372036854775807) :
    Calls Try.prog 137 #[.agg #[.int .i64 n, .int .i64 d], .agg #[.int .i64 m, .int .i64 c]] w fun e w' => e = .returned (.tuple #[.agg #[.int .i64 (Rp.mulS n d m c).1, .int .i64 (Rp.mulS n d m c).2.1], .int .i64 (Rp.mulS n d m c).2.2]) ∧ Below w.heap.size w w' := by
  have cb := fun w => checkBoth_any n d m c w n0 n1 d0 d1 m0 m1 c0 c1
  rcases both_cases n d m c with ⟨h, hx, hy⟩ | h
  · have e : Rp.mulS n d m c = Rp.mul n d m c := by unfold Rp.mulS; rw [if_pos h]
    rw [h] at cb
    have CB := Lib.hid cb
    have AD := Lib.hid (fun w => multiply_any n d m c hx hy w)
    clear cb h
    obtain ⟨o1, o2, o3, o4, _⟩ := hx
    obtain ⟨u1, u2, u3, u4, _⟩ := hy
    rw [e]
    clear e
    go_enter Try.func137, Try.ntmps137
    go_wp2_with fail
    refine (CB.out _).mono ?_
    rintro e w1 ⟨rfl, hb1⟩
    have x0 : w1.cell? ⟨w.heap.size, 0, none⟩ = some (.int .i64 n) := keepC hb1 (by go_simp)
    have x1 : w1.cell? ⟨w.heap.size, 1, none⟩ = some (.int .i64 d) := keepC hb1 (by go_simp)
    have y0 : w1.cell? ⟨w.heap.size + 1, 0, none⟩ = some (.int .i64 m) := keepC hb1 (by go_simp)
    have y1 : w1.cell? ⟨w.heap.size + 1, 1, none⟩ = some (.int .i64 c) := keepC hb1 (by go_simp)
    have z0 : w1.cell? ⟨w.heap.size + 1 + 1, 0, none⟩ = some (.int .i64 0) := keepC hb1 (by go_simp)
    have fz0 : w1.frozen? ⟨w.heap.size + 1 + 1, 0, none⟩ = false := keepF hb1 (v := .int .i64 0) (by go_simp) (by go_simp)
    have z1 : w1.cell? ⟨w.heap.size + 1 + 1, 1, none⟩ = some (.int .i64 0) := keepC hb1 (by go_simp)
    have fz1 : w1.frozen? ⟨w.heap.size + 1 + 1, 1, none⟩ = false := keepF hb1 (v := .int .i64 0) (by go_simp) (by go_simp)
    have hbb : Below w.heap.size w w1 := keepB ((((Below.refl _ _).alloc (Nat.le_refl _) _).alloc (by simp) _).alloc (by simp; omega) _) hb1
    clear hb1
    go_wp2_with fail
    refine (AD.out _).mono ?_
    rintro e w2 ⟨rfl, hb2⟩
    replace fz0 := keepF hb2 z0 fz0
    replace z0 := keepC hb2 z0
    replace fz1 := keepF hb2 z1 fz1
    replace z1 := keepC hb2 z1
    replace hbb := keepB hbb hb2
    clear hb2
    go_wp2
    exact bodyPost_ret (v := .tuple #[.agg #[.int .i64 (Rp.mul n d m c).1, .int .i64 (Rp.mul n d m c).2.1], .int .i64 (Rp.mul n d m c).2.2]) (by simp [results, Try.results137, go_sem, z0, z1]) rfl ⟨rfl, below_set (below_set hbb (by omega) _) (by omega) _⟩
  · have e : Rp.mulS n d m c = (0, 0, 8) := by unfold Rp.mulS; rw [h]; rfl
    rw [e]
    rw [h] at cb
    have CB := Lib.hid cb
    clear cb h e
    go_enter Try.func137, Try.ntmps137
    go_wp2_with fail
    refine (CB.out _).mono ?_
    rintro e w1 ⟨rfl, hb1⟩
    have z0 : w1.cell? ⟨w.heap.size + 1 + 1, 0, none⟩ = some (.int .i64 0) := keepC hb1 (by go_simp)
    have fz0 : w1.frozen? ⟨w.heap.size + 1 + 1, 0, none⟩ = false := keepF hb1 (v := .int .i64 0) (by go_simp) (by go_simp)
    have z1 : w1.cell? ⟨w.heap.size + 1 + 1, 1, none⟩ = some (.int .i64 0) := keepC hb1 (by go_simp)
    have fz1 : w1.frozen? ⟨w.heap.size + 1 + 1, 1, none⟩ = false := keepF hb1 (v := .int .i64 0) (by go_simp) (by go_simp)
    have hbb : Below w.heap.size w w1 := keepB ((((Below.refl _ _).alloc (Nat.le_refl _) _).alloc (by simp) _).alloc (by simp; omega) _) hb1
    clear hb1
    go_wp2
    exact bodyPost_ret (v := .tuple #[.agg #[.int .i64 0, .int .i64 0], .int .i64 8]) (by simp [results, Try.results137, go_sem, z0, z1]) rfl ⟨rfl, below_set (below_set hbb (by omega) _) (by omega) _⟩

set_option maxHeartbeats 1000000 in
theorem Div_any (n d m c : Int) (w : World) (n0 : -9223372036854775808 ≤ n) (n1 : n ≤ 9223372036854775807) (d0 : -9223372036854775808 ≤ d) (d1 : d ≤ 9223372036854775807)
    (m0 : -9223372036854775808 ≤ m) (m1 : m ≤ 9223372036854775807) (c0 : -9223372036854775808 ≤ c) (c1 : c ≤ 9223372036854775807) :
    Calls Try.prog 145 #[.agg #[.int .i64 n, .int .i64 d], .agg #[.int .i64 m, .int .i64 c]] w fun e w' => e = .returned (.tuple #[.agg #[.int .i64 (Rp.divS n d m c).1, .int .i64 (Rp.divS n d m c).2.1], .int .i64 (Rp.divS n d m c).2.2]) ∧ Below w.heap.size w w' := by
  have cb := fun w => checkBoth_any n d m c w n0 n1 d0 d1 m0 m1 c0 c1
  rcases both_cases n d m c with ⟨h, hx, hy⟩ | h
  · rw [h] at cb
    have CB := Lib.hid cb
    by_cases hz : m = 0
    · have e : Rp.divS n d m c = (0, 0, 18) := by unfold Rp.divS; rw [if_pos h, if_pos hz]
      rw [e]
      have hb : ((m : Int) == 0) = true := by rw [beq_iff_eq]; exact hz
      clear cb h hx hy e hz
      go_enter Try.func145, Try.ntmps145
      go_wp2_with fail
      refine (CB.out _).mono ?_
      rintro e w1 ⟨rfl, hb1⟩
      have x0 : w1.cell? ⟨w.heap.size, 0, none⟩ = some (.int .i64 n) := keepC hb1 (by go_simp)
      have x1 : w1.cell? ⟨w.heap.size, 1, none⟩ = some (.int .i64 d) := keepC hb1 (by go_simp)
      have y0 : w1.cell? ⟨w.heap.size + 1, 0, none⟩ = some (.int .i64 m) := keepC hb1 (by go_simp)
      have y1 : w1.cell? ⟨w.heap.size + 1, 1, none⟩ = some (.int .i64 c) := keepC hb1 (by go_simp)
      have z0 : w1.cell? ⟨w.heap.size + 1 + 1, 0, none⟩ = some (.int .i64 0) := keepC hb1 (by go_simp)
      have fz0 : w1.frozen? ⟨w.heap.size + 1 + 1, 0, none⟩ = false := keepF hb1 (v := .int .i64 0) (by go_simp) (by go_simp)
      have z1 : w1.cell? ⟨w.heap.size + 1 + 1, 1, none⟩ = some (.int .i64 0) := keepC hb1 (by go_simp)
      have fz1 : w1.frozen? ⟨w.heap.size + 1 + 1, 1, none⟩ = false := keepF hb1 (v := .int .i64 0) (by go_simp) (by go_simp)
      have hbb : Below w.heap.size w w1 := keepB ((((Below.refl _ _).alloc (Nat.le_refl _) _).alloc (by simp) _).alloc (by simp; omega) _) hb1
      clear hb1
      go_wp2
      exact bodyPost_ret (v := .tuple #[.agg #[.int .i64 0, .int .i64 0], .int .i64 18]) (by simp [results, Try.results145, go_sem, z0, z1]) rfl ⟨rfl, below_set (below_set hbb (by omega) _) (by omega) _⟩
    · have e : Rp.divS n d m c = Rp.mul n d (if m < 0 then -c else c) (if m < 0 then -m else m) := by
        unfold Rp.divS Rp.mul; rw [if_pos h, if_neg hz, q_inv, Rat.div_def]
      rw [e]
      have AD := Lib.hid (fun w => multiply_any n d _ _ hx (Ok_inv hy hz) w)
      have IV := Lib.hid (fun w => inverse_any m c w hy.2.2.1 hy.2.2.2.1 (by have := hy.1; omega) hy.2.1)
      have hb : ((m : Int) == 0) = false := by rw [beq_eq_false_iff_ne]; exact hz
      generalize (if m < 0 then -c else c) = I1 at *
      generalize (if m < 0 then -m else m) = I2 at *
      clear cb h hx hy e hz
      go_enter Try.func145, Try.ntmps145
      go_wp2_with fail
      refine (CB.out _).mono ?_
      rintro e w1 ⟨rfl, hb1⟩
      have x0 : w1.cell? ⟨w.heap.size, 0, none⟩ = some (.int .i64 n) := keepC hb1 (by go_simp)
      have x1 : w1.cell? ⟨w.heap.size, 1, none⟩ = some (.int .i64 d) := keepC hb1 (by go_simp)
      have y0 : w1.cell? ⟨w.heap.size + 1, 0, none⟩ = some (.int .i64 m) := keepC hb1 (by go_simp)
      have y1 : w1.cell? ⟨w.heap.size + 1, 1, none⟩ = some (.int .i64 c) := keepC hb1 (by go_simp)
      have z0 : w1.cell? ⟨w.heap.size + 1 + 1, 0, none⟩ = some (.int .i64 0) := keepC hb1 (by go_simp)
      have fz0 : w1.frozen? ⟨w.heap.size + 1 + 1, 0, none⟩ = false := keepF hb1 (v := .int .i64 0) (by go_simp) (by go_simp)
      have z1 : w1.cell? ⟨w.heap.size + 1 + 1, 1, none⟩ = some (.int .i64 0) := keepC hb1 (by go_simp)
      have fz1 : w1.frozen? ⟨w.heap.size + 1 + 1, 1, none⟩ = false := keepF hb1 (v := .int .i64 0) (by go_simp) (by go_simp)
      have hbb : Below w.heap.size w w1 := keepB ((((Below.refl _ _).alloc (Nat.le_refl _) _).alloc (by simp) _).alloc (by simp; omega) _) hb1
      clear hb1
      go_wp2_with fail
      have hsz := lt_of_cell z0
      go_region_held3 (fun v => Below w.heap.size w v ∧ v.cell? ⟨w.heap.size, 0, none⟩ = some (.int .i64 n) ∧ v.cell? ⟨w.heap.size, 1, none⟩ = some (.int .i64 d) ∧ v.cell? ⟨w.heap.size + 1, 0, none⟩ = some (.int .i64 m) ∧ v.cell? ⟨w.heap.size + 1, 1, none⟩ = some (.int .i64 c) ∧ v.cell? ⟨w.heap.size + 1 + 1, 0, none⟩ = some (vat v (w.heap.size + 1 + 1) 0) ∧ v.cell? ⟨w.heap.size + 1 + 1, 1, none⟩ = some (vat v (w.heap.size + 1 + 1) 1) ∧ v.frozen? ⟨w.heap.size + 1 + 1, 0, none⟩ = false ∧ v.frozen? ⟨w.heap.size + 1 + 1, 1, none⟩ = false)
        (first | (exact ⟨hbb.drew, x0, x1, y0, y1, vat_of (z0), vat_of (z1), fz0, fz1⟩) | (obtain ⟨k0, kx0, kx1, ky0, ky1, kz0, kz1, kfz0, kfz1⟩ := ‹Below w.heap.size w _ ∧ _›; exact ⟨keepB k0 hb3, keepC hb3 kx0, keepC hb3 kx1, keepC hb3 ky0, keepC hb3 ky1, vat_of (keepC hb3 kz0), vat_of (keepC hb3 kz1), keepF hb3 kz0 kfz0, keepF hb3 kz1 kfz1⟩) | (obtain ⟨k0, kx0, kx1, ky0, ky1, kz0, kz1, kfz0, kfz1⟩ := ‹Below w.heap.size w _ ∧ _›; exact ⟨below_set (below_set (k0) (by omega) _) (by omega) _, cell_far (cell_far (kx0) (by omega) _) (by omega) _, cell_far (cell_far (kx1) (by omega) _) (by omega) _, cell_far (cell_far (ky0) (by omega) _) (by omega) _, cell_far (cell_far (ky1) (by omega) _) (by omega) _, vat_set (vat_set (kz0) _ _) _ _, vat_set (vat_set (kz1) _ _) _ _, froz_set (froz_set (kfz0) _ _) _ _, froz_set (froz_set (kfz1) _ _) _ _⟩))
        (first
          | (go_at_call 147; refine (IV.out _).mono ?_; rintro e w3 ⟨rfl, hb3⟩)
          | (go_at_call 143; refine (AD.out _).mono ?_; rintro e w3 ⟨rfl, hb3⟩))
      go_wp2
      obtain ⟨k0', _, _, _, _, k1', k2', _, _⟩ := ‹Below w.heap.size w _ ∧ _›
      have r0 := res_far (by simp) k1'
      have r1 := res_last k2'
      exact bodyPost_ret (v := .tuple #[.agg #[.int .i64 (Rp.mul n d I1 I2).1, .int .i64 (Rp.mul n d I1 I2).2.1], .int .i64 (Rp.mul n d I1 I2).2.2]) (by simp [results, Try.results145, go_sem, r0, r1]) rfl ⟨rfl, k0'⟩
  · have e : Rp.divS n d m c = (0, 0, 8) := by unfold Rp.divS; rw [h]; rfl
    rw [e]
    rw [h] at cb
    have CB := Lib.hid cb
    clear cb h e
    go_enter Try.func145, Try.ntmps145
    go_wp2_with fail
    refine (CB.out _).mono ?_
    rintro e w1 ⟨rfl, hb1⟩
    have z0 : w1.cell? ⟨w.heap.size + 1 + 1, 0, none⟩ = some (.int .i64 0) := keepC hb1 (by go_simp)
    have fz0 : w1.frozen? ⟨w.heap.size + 1 + 1, 0, none⟩ = false := keepF hb1 (v := .int .i64 0) (by go_simp) (by go_simp)
    have z1 : w1.cell? ⟨w.heap.size + 1 + 1, 1, none⟩ = some (.int .i64 0) := keepC hb1 (by go_simp)
    have fz1 : w1.frozen? ⟨w.heap.size + 1 + 1, 1, none⟩ = false := keepF hb1 (v := .int .i64 0) (by go_simp) (by go_simp)
    have hbb : Below w.heap.size w w1 := keepB ((((Below.refl _ _).alloc (Nat.le_refl _) _).alloc (by simp) _).alloc (by simp; omega) _) hb1
    clear hb1
    go_wp2
    exact bodyPost_ret (v := .tuple #[.agg #[.int .i64 0, .int .i64 0], .int .i64 8]) (by simp [results, Try.results145, go_sem, z0, z1]) rfl ⟨rfl, below_set (below_set hbb (by omega) _) (by omega) _⟩
end Go.Proofs.Ytnnpmegknlgkoaa
