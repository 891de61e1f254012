/- Contracts of Floor: package ratio's, and the reference's. -/
import Derived.Test.YtomokdepndclpaaRef
namespace Go.Proofs.Ytomokdepndclpaa
open Go.RowKit

theorem floor_q {n d : Int} (h : Rp.Ok n d) : (Rp.q n d).floor = n / d := by
  rw [Rat.floor_def, Rp.q_num h, Rp.q_denI h]

theorem floor_parts (n d : Int) (h : 0 < d) (hn : n < 0) : n.tdiv d * d + n.tmod d = n ∧ -d < n.tmod d ∧ n.tmod d ≤ 0 ∧ (n.tmod d < 0 → n / d = n.tdiv d - 1) ∧ (¬ n.tmod d < 0 → n / d = n.tdiv d) ∧ n ≤ n.tdiv d ∧ n.tdiv d ≤ 0 := by
  have e1 : n.tdiv d = -((-n) / d) := by rw [← Int.tdiv_eq_ediv_of_nonneg (by omega), Int.neg_tdiv, Int.neg_neg]
  have e2 : n.tmod d = -((-n) % d) := by rw [← Int.tmod_eq_emod_of_nonneg (by omega), Int.neg_tmod, Int.neg_neg]
  have e3 := Int.mul_ediv_add_emod (-n) d
  have e4 := Int.emod_nonneg (-n) (b := d) (by omega)
  have e5 := Int.emod_lt_of_pos (-n) h
  have e6 := Int.ediv_le_self (a := -n) d (by omega)
  have e7 := Int.ediv_nonneg (a := -n) (b := d) (by omega) (by omega)
  rw [e1, e2]
  generalize hq : (-n) / d = Q at *
  generalize hr : (-n) % d = R at *
  have e8 : n = d * (-Q) + (-R) := by rw [Int.mul_neg]; omega
  refine ⟨by rw [Int.neg_mul, Int.mul_comm]; omega, by omega, by omega, fun hlt => ?_, fun hge => ?_, by omega, by omega⟩
  · have e9 : n = (d - R) + d * (-Q - 1) := by rw [Int.mul_sub]; omega
    rw [e9, Int.add_mul_ediv_left _ _ (by omega), Int.ediv_eq_zero_of_lt (by omega) (by omega)]
    omega
  · have hR : R = 0 := by omega
    rw [e8, hR, Int.neg_zero, Int.add_zero, Int.mul_ediv_cancel_left _ (by omega)]

set_option maxHeartbeats 1000000 in
theorem Floor_any (n d : Int) (w : World) (n0 : -9223372036854775808 ≤ n) (n1 : n ≤ 9223372036854775807) (d0 : -9223372036854775808 ≤ d) (d1 : d ≤ 9223372036854775807) :
    Calls Try.prog 78 #[.agg #[.int .i64 n, .int .i64 d]] w fun e w' => e = .returned (.tuple #[.int .i64 (Rp.floorS n d).1, .int .i64 (Rp.floorS n d).2]) ∧ Below w.heap.size w w' := by
  have cb := fun w => check_any n d w n0 n1 d0 d1
  rcases chk_cases n d with ⟨h, hx⟩ | ⟨h, hx⟩
  · have e : Rp.floorS n d = (n / d, 0) := by unfold Rp.floorS; rw [if_pos hx, floor_q hx]
    rw [e]
    rw [h] at cb
    have CB := Lib.hid cb
    obtain ⟨o1, o2, o3, o4, _⟩ := hx
    have nd : ¬ d = 0 := by omega
    clear cb h e
    by_cases hn : n < 0
    · obtain ⟨p1, p2, p3, p4, p5, p6, p7⟩ := floor_parts n d (by omega) hn
      have P4 := Lib.hid p4
      have P5 := Lib.hid p5
      clear p1 p4 p5
      by_cases hr : n.tmod d < 0
      all_goals
        go_enter Try.func78, Try.ntmps78
        go_wp2_with fail
        refine (CB.out _).mono ?_
        rintro e w1 ⟨rfl, hb1⟩
        have x0 : w1.cell? ⟨w.heap.size, 0, none⟩ = some (.int .i64 n) := keepC hb1 (by go_simp)
        have x1 : w1.cell? ⟨w.heap.size, 1, none⟩ = some (.int .i64 d) := keepC hb1 (by go_simp)
        have hbb : Below w.heap.size w w1 := keepB ((Below.refl _ _).alloc (Nat.le_refl _) _) hb1
        clear hb1
        go_wp2
        go_ret2
        first | exact ⟨ret_two (P4.out hr).symm rfl, hbb⟩ | exact ⟨ret_two (P5.out hr).symm rfl, hbb⟩
    · have q1 := Int.emod_nonneg n (b := d) (by omega)
      have q2 := Int.ediv_nonneg (a := n) (b := d) (by omega) (by omega)
      have q3 := Int.ediv_le_self (a := n) d (by omega)
      go_enter Try.func78, Try.ntmps78
      go_wp2_with fail
      refine (CB.out _).mono ?_
      rintro e w1 ⟨rfl, hb1⟩
      have x0 : w1.cell? ⟨w.heap.size, 0, none⟩ = some (.int .i64 n) := keepC hb1 (by go_simp)
      have x1 : w1.cell? ⟨w.heap.size, 1, none⟩ = some (.int .i64 d) := keepC hb1 (by go_simp)
      have hbb : Below w.heap.size w w1 := keepB ((Below.refl _ _).alloc (Nat.le_refl _) _) hb1
      clear hb1
      go_wp2
      go_ret2
      exact ⟨rfl, hbb⟩
  · have e : Rp.floorS n d = (0, 8) := by unfold Rp.floorS; rw [if_neg hx]
    rw [e]
    rw [h] at cb
    have CB := Lib.hid cb
    clear cb h e
    go_enter Try.func78, Try.ntmps78
    go_wp2_with fail
    refine (CB.out _).mono ?_
    rintro e w1 ⟨rfl, hb1⟩
    have hbb : Below w.heap.size w w1 := keepB ((Below.refl _ _).alloc (Nat.le_refl _) _) hb1
    clear hb1
    go_wp2
    go_ret2
    exact ⟨rfl, hbb⟩
end Go.Proofs.Ytomokdepndclpaa
