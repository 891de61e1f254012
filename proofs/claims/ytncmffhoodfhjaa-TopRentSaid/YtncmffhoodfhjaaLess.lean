/- Contracts of the reference's Less and Cmp. -/
import Derived.Test.YtncmffhoodfhjaaYk
import Derived.Test.YtncmffhoodfhjaaYq
namespace Go.Proofs.Ytncmffhoodfhjaa
open Go.RowKit

set_option maxHeartbeats 4000000 in
set_option maxRecDepth 100000 in
theorem Less_same (n d m c : Int) (w : World) (n0 : -1000000000000000000 ≤ n) (n1 : n ≤ 1000000000000000000) (d0 : 1 ≤ d) (d1 : d ≤ 1000000000000000000)
    (m0 : -1000000000000000000 ≤ m) (m1 : m ≤ 1000000000000000000) (c0 : 1 ≤ c) (c1 : c ≤ 1000000000000000000) (hs : decide (n < 0) = decide (m < 0)) :
    Calls Try.prog 21 #[.agg #[.int .i64 n, .int .i64 d], .agg #[.int .i64 m, .int .i64 c]] w fun e w' =>
      e = .returned (.bool (if n < 0 then decide ((m.natAbs : Int) * d < n.natAbs * c) else decide ((n.natAbs : Int) * c < m.natAbs * d))) ∧ Below w.heap.size w w' := by
  have hb : (decide (n < 0) == decide (m < 0)) = true := by rw [beq_iff_eq]; exact hs
  have wc : IntKind.u64.wrap c = c := IntWalk.u64_in _ (by omega)
  have wd : IntKind.u64.wrap d = d := IntWalk.u64_in _ (by omega)
  have X0 : 0 ≤ (n.natAbs : Int) * c := Int.mul_nonneg (by omega) (by omega)
  have X1 : (n.natAbs : Int) * c ≤ 1000000000000000000 * 1000000000000000000 := Int.mul_le_mul (by omega) (by omega) (by omega) (by omega)
  have Y0 : 0 ≤ (m.natAbs : Int) * d := Int.mul_nonneg (by omega) (by omega)
  have Y1 : (m.natAbs : Int) * d ≤ 1000000000000000000 * 1000000000000000000 := Int.mul_le_mul (by omega) (by omega) (by omega) (by omega)
  have TN := Lib.hid (fun v => times_any (n.natAbs : Int) c (by omega) (by omega) (by omega) (by omega) v)
  have TM := Lib.hid (fun v => times_any (m.natAbs : Int) d (by omega) (by omega) (by omega) (by omega) v)
  generalize (n.natAbs : Int) * c = X at *
  generalize (m.natAbs : Int) * d = Y at *
  have LXY := Lib.hid (fun v => rless_any (X / 18446744073709551616) (X % 18446744073709551616) (Y / 18446744073709551616) (Y % 18446744073709551616) (by omega) (by omega) (by omega) (by omega) v)
  have LYX := Lib.hid (fun v => rless_any (Y / 18446744073709551616) (Y % 18446744073709551616) (X / 18446744073709551616) (X % 18446744073709551616) (by omega) (by omega) (by omega) (by omega) v)
  simp only [W_split] at LXY LYX
  clear hs
  go_enter Try.func21, Try.ntmps21
  go_upto_region 3 with fail
  go_cut [5, 6] (fun x y v => ∃ p q : Nat, x = .pointer (some ⟨p, 0, none⟩) ∧ y = .pointer (some ⟨q, 0, none⟩) ∧ Below w.heap.size w v ∧ v.cell? ⟨w.heap.size, 0, none⟩ = some (.int .i64 n) ∧ v.cell? ⟨p, 0, none⟩ = some (.int .u64 (X / 18446744073709551616)) ∧ v.cell? ⟨p, 1, none⟩ = some (.int .u64 (X % 18446744073709551616)) ∧ v.cell? ⟨q, 0, none⟩ = some (.int .u64 (Y / 18446744073709551616)) ∧ v.cell? ⟨q, 1, none⟩ = some (.int .u64 (Y % 18446744073709551616)))
  case first =>
    refine at_world (fun v => Below w.heap.size w v ∧ v.cell? ⟨w.heap.size, 0, none⟩ = some (.int .i64 n) ∧ v.cell? ⟨w.heap.size, 1, none⟩ = some (.int .i64 d) ∧ v.cell? ⟨w.heap.size + 1, 0, none⟩ = some (.int .i64 m) ∧ v.cell? ⟨w.heap.size + 1, 1, none⟩ = some (.int .i64 c)) ⟨(((Below.refl _ _).alloc (Nat.le_refl _) _).alloc (by simp) _), (by go_simp), (by go_simp), (by go_simp), (by go_simp)⟩ (fun V hS => ?_)
    obtain ⟨hbb, an, ad, bn, bd⟩ := hS
    go_region_held3 (fun v => Below w.heap.size w v ∧ v.cell? ⟨w.heap.size, 0, none⟩ = some (.int .i64 n) ∧ v.cell? ⟨w.heap.size, 1, none⟩ = some (.int .i64 d) ∧ v.cell? ⟨w.heap.size + 1, 0, none⟩ = some (.int .i64 m) ∧ v.cell? ⟨w.heap.size + 1, 1, none⟩ = some (.int .i64 c))
      (first | (exact ⟨hbb.drew, an, ad, bn, bd⟩) | (with_reducible assumption) | (obtain ⟨k0, kan, kad, kbn, kbd⟩ := ‹Below w.heap.size w _ ∧ _›; exact ⟨keepB k0 hb3, keepC hb3 kan, keepC hb3 kad, keepC hb3 kbn, keepC hb3 kbd⟩) | (obtain ⟨k0, kan, kad, kbn, kbd⟩ := ‹Below w.heap.size w _ ∧ _›; exact ⟨below_al k0 _, cell_alloc kan _, cell_alloc kad _, cell_alloc kbn _, cell_alloc kbd _⟩) | (refine ⟨?_, ?_, ?_, ?_, ?_⟩ <;> repeat' (first | (with_reducible exact j0.out) | (with_reducible exact jan.out) | (with_reducible exact jad.out) | (with_reducible exact jbn.out) | (with_reducible exact jbd.out) | (with_reducible refine below_al ?_ _) | (with_reducible refine below_set ?_ ?_ _) | (with_reducible refine cell_alloc ?_ _) | (with_reducible refine cell_far ?_ ?_ _) | omega)))
      (first
        | (go_at_call 51; refine (rabs_any _ (by omega) (by omega) _).mono ?_; rintro e w' ⟨rfl, rfl⟩)
        | (go_at_call_of 54 (Value.int .u64 c); refine (TN.out _).mono ?_; rintro e w3 ⟨rfl, hb3⟩; (first | (replace fnb0 := keepF hb3 nb0 fnb0; replace fnb1 := keepF hb3 nb1 fnb1; replace nb0 := keepC hb3 nb0; replace nb1 := keepC hb3 nb1; replace fnc0 := keepF hb3 nc0 fnc0; replace fnc1 := keepF hb3 nc1 fnc1; replace nc0 := keepC hb3 nc0; replace nc1 := keepC hb3 nc1) | (obtain ⟨k0, kan, kad, kbn, kbd⟩ := ‹Below w.heap.size w _ ∧ _›; have nb0 := keepC hb3 (cell_alloc (n20 _ _ _ _) _); have nb1 := keepC hb3 (cell_alloc (n21 _ _ _ _) _); have fnb0 := keepF hb3 (cell_alloc (n20 _ _ _ _) _) (froz_alloc (n20 _ _ _ _) (n2f _ _ _ _ 0) _); have fnb1 := keepF hb3 (cell_alloc (n21 _ _ _ _) _) (froz_alloc (n21 _ _ _ _) (n2f _ _ _ _ 1) _); have nc0 := keepC hb3 (m20 _ _ _ _ _); have nc1 := keepC hb3 (m21 _ _ _ _ _); have fnc0 := keepF hb3 (m20 _ _ _ _ _) (m2f _ _ _ _ _ 0); have fnc1 := keepF hb3 (m21 _ _ _ _ _) (m2f _ _ _ _ _ 1); have hu := lt_al3 kbn (cell_alloc (n20 _ _ _ _) _) (m20 _ _ _ _ _) (by simp) (by simp); clear k0 kan kad kbn kbd) | (obtain ⟨k0, kan, kad, kbn, kbd⟩ := ‹Below w.heap.size w _ ∧ _›; have nc0 := keepC hb3 (n20 _ _ _ _); have nc1 := keepC hb3 (n21 _ _ _ _); have fnc0 := keepF hb3 (n20 _ _ _ _) (n2f _ _ _ _ 0); have fnc1 := keepF hb3 (n21 _ _ _ _) (n2f _ _ _ _ 1); have hn := lt_of_cell nb0; replace fnb0 := keepF hb3 (cell_alloc nb0 _) (froz_alloc nb0 fnb0 _); replace fnb1 := keepF hb3 (cell_alloc nb1 _) (froz_alloc nb1 fnb1 _); replace nb0 := keepC hb3 (cell_alloc nb0 _); replace nb1 := keepC hb3 (cell_alloc nb1 _); have hu2 := lt_al2 kbn (n20 _ _ _ _) (by simp); clear k0 kan kad kbn kbd) | (obtain ⟨k0, kan, kad, kbn, kbd⟩ := ‹Below w.heap.size w _ ∧ _›; have nb0 := keepC hb3 (n20 _ _ _ _); have nb1 := keepC hb3 (n21 _ _ _ _); have fnb0 := keepF hb3 (n20 _ _ _ _) (n2f _ _ _ _ 0); have fnb1 := keepF hb3 (n21 _ _ _ _) (n2f _ _ _ _ 1); have hu := lt_al2 kbn (n20 _ _ _ _) (by simp); clear k0 kan kad kbn kbd) | (replace fnb0 := keepF hb3 nb0 fnb0; replace fnb1 := keepF hb3 nb1 fnb1; replace nb0 := keepC hb3 nb0; replace nb1 := keepC hb3 nb1) | skip))
        | (go_at_call_of 54 (Value.int .u64 d); refine (TM.out _).mono ?_; rintro e w3 ⟨rfl, hb3⟩; (first | (replace fnb0 := keepF hb3 nb0 fnb0; replace fnb1 := keepF hb3 nb1 fnb1; replace nb0 := keepC hb3 nb0; replace nb1 := keepC hb3 nb1; replace fnc0 := keepF hb3 nc0 fnc0; replace fnc1 := keepF hb3 nc1 fnc1; replace nc0 := keepC hb3 nc0; replace nc1 := keepC hb3 nc1) | (obtain ⟨k0, kan, kad, kbn, kbd⟩ := ‹Below w.heap.size w _ ∧ _›; have nb0 := keepC hb3 (cell_alloc (n20 _ _ _ _) _); have nb1 := keepC hb3 (cell_alloc (n21 _ _ _ _) _); have fnb0 := keepF hb3 (cell_alloc (n20 _ _ _ _) _) (froz_alloc (n20 _ _ _ _) (n2f _ _ _ _ 0) _); have fnb1 := keepF hb3 (cell_alloc (n21 _ _ _ _) _) (froz_alloc (n21 _ _ _ _) (n2f _ _ _ _ 1) _); have nc0 := keepC hb3 (m20 _ _ _ _ _); have nc1 := keepC hb3 (m21 _ _ _ _ _); have fnc0 := keepF hb3 (m20 _ _ _ _ _) (m2f _ _ _ _ _ 0); have fnc1 := keepF hb3 (m21 _ _ _ _ _) (m2f _ _ _ _ _ 1); have hu := lt_al3 kbn (cell_alloc (n20 _ _ _ _) _) (m20 _ _ _ _ _) (by simp) (by simp); clear k0 kan kad kbn kbd) | (obtain ⟨k0, kan, kad, kbn, kbd⟩ := ‹Below w.heap.size w _ ∧ _›; have nc0 := keepC hb3 (n20 _ _ _ _); have nc1 := keepC hb3 (n21 _ _ _ _); have fnc0 := keepF hb3 (n20 _ _ _ _) (n2f _ _ _ _ 0); have fnc1 := keepF hb3 (n21 _ _ _ _) (n2f _ _ _ _ 1); have hn := lt_of_cell nb0; replace fnb0 := keepF hb3 (cell_alloc nb0 _) (froz_alloc nb0 fnb0 _); replace fnb1 := keepF hb3 (cell_alloc nb1 _) (froz_alloc nb1 fnb1 _); replace nb0 := keepC hb3 (cell_alloc nb0 _); replace nb1 := keepC hb3 (cell_alloc nb1 _); have hu2 := lt_al2 kbn (n20 _ _ _ _) (by simp); clear k0 kan kad kbn kbd) | (obtain ⟨k0, kan, kad, kbn, kbd⟩ := ‹Below w.heap.size w _ ∧ _›; have nb0 := keepC hb3 (n20 _ _ _ _); have nb1 := keepC hb3 (n21 _ _ _ _); have fnb0 := keepF hb3 (n20 _ _ _ _) (n2f _ _ _ _ 0); have fnb1 := keepF hb3 (n21 _ _ _ _) (n2f _ _ _ _ 1); have hu := lt_al2 kbn (n20 _ _ _ _) (by simp); clear k0 kan kad kbn kbd) | (replace fnb0 := keepF hb3 nb0 fnb0; replace fnb1 := keepF hb3 nb1 fnb1; replace nb0 := keepC hb3 nb0; replace nb1 := keepC hb3 nb1) | skip); obtain ⟨k0, kan, kad, kbn, kbd⟩ := ‹Below w.heap.size w _ ∧ _›; have j0 := Lib.hid (keepB k0 hb3); have jan := Lib.hid (keepC hb3 kan); have jad := Lib.hid (keepC hb3 kad); have jbn := Lib.hid (keepC hb3 kbn); have jbd := Lib.hid (keepC hb3 kbd); have hj := lt_of_cell jbn.out; (try (have hnl := lt_of_cell nb0)); (try (have hnl2 := lt_of_cell nc0)); clear k0 kan kad kbn kbd))
    all_goals
      go_wp2_with fail
      go_meet
      refine ⟨_, _, rfl, rfl, ?_, ?_, ?_, ?_, ?_, ?_⟩
      · obtain ⟨k0, _⟩ := ‹Below w.heap.size w _ ∧ _›; exact k0
      · obtain ⟨_, k1, _⟩ := ‹Below w.heap.size w _ ∧ _›; exact k1
      · go_simp
      · go_simp
      · go_simp
      · go_simp
  case rest =>
    obtain ⟨p, q, rfl, rfl, hbb, an, p0, p1, q0, q1⟩ := hcut
    by_cases hn : n < 0
    · go_wp2_with fail
      refine (LYX.out _).mono ?_
      rintro e w2 ⟨rfl, hb2⟩
      go_wp2
      go_ret
      exact ⟨by first | rfl | rw [if_pos hn] | simp [hn], keepB hbb hb2⟩
    · go_wp2_with fail
      refine (LXY.out _).mono ?_
      rintro e w2 ⟨rfl, hb2⟩
      go_wp2
      go_ret
      exact ⟨by first | rfl | rw [if_neg hn] | simp [hn], keepB hbb hb2⟩

theorem Less_apart (n d m c : Int) (w : World) (hs : decide (n < 0) ≠ decide (m < 0)) :
    Calls Try.prog 21 #[.agg #[.int .i64 n, .int .i64 d], .agg #[.int .i64 m, .int .i64 c]] w fun e w' =>
      e = .returned (.bool (decide (n < 0))) ∧ Below w.heap.size w w' := by
  have hb : (decide (n < 0) == decide (m < 0)) = false := by rw [beq_eq_false_iff_ne]; exact hs
  clear hs
  go_enter Try.func21, Try.ntmps21
  go_wp2
  go_ret
  exact ⟨rfl, (((Below.refl _ _).alloc (Nat.le_refl _) _).alloc (by simp) _)⟩

theorem Less_any (n d m c : Int) (h : Rp.Ok n d) (k : Rp.Ok m c) (w : World) :
    Calls Try.prog 21 #[.agg #[.int .i64 n, .int .i64 d], .agg #[.int .i64 m, .int .i64 c]] w fun e w' =>
      e = .returned (.bool (decide (Rp.q n d < Rp.q m c))) ∧ Below w.heap.size w w' := by
  have hl : (Rp.q n d < Rp.q m c) ↔ n * c < m * d := by rw [Rat.lt_iff, Rp.q_num h, Rp.q_num k, Rp.q_denI h, Rp.q_denI k]
  obtain ⟨h1, h2, h3, h4, _⟩ := h
  obtain ⟨k1, k2, k3, k4, _⟩ := k
  by_cases hs : decide (n < 0) = decide (m < 0)
  · have c1 := Less_same n d m c w h3 h4 h1 h2 k3 k4 k1 k2 hs
    have e : (if n < 0 then decide ((m.natAbs : Int) * d < n.natAbs * c) else decide ((n.natAbs : Int) * c < m.natAbs * d)) = decide (Rp.q n d < Rp.q m c) := by
      by_cases hn : n < 0
      · have hm : m < 0 := by rw [decide_eq_true hn] at hs; exact of_decide_eq_true hs.symm
        rw [if_pos hn, decide_eq_decide, hl, show (m.natAbs : Int) = -m by omega, show (n.natAbs : Int) = -n by omega, Int.neg_mul, Int.neg_mul]
        omega
      · have hm : ¬ m < 0 := by rw [decide_eq_false hn] at hs; exact of_decide_eq_false hs.symm
        rw [if_neg hn, decide_eq_decide, hl, show (m.natAbs : Int) = m by omega, show (n.natAbs : Int) = n by omega]
    rw [e] at c1
    exact c1
  · have c1 := Less_apart n d m c w hs
    have e : decide (n < 0) = decide (Rp.q n d < Rp.q m c) := by
      rw [decide_eq_decide, hl]
      by_cases hn : n < 0
      · have hm : ¬ m < 0 := fun hm => hs (by rw [decide_eq_true hn, decide_eq_true hm])
        have := Int.mul_neg_of_neg_of_pos hn (show 0 < c by omega)
        have := Int.mul_nonneg (show 0 ≤ m by omega) (show 0 ≤ d by omega)
        omega
      · have hm : m < 0 := by
          refine Classical.byContradiction fun hm => hs ?_
          rw [decide_eq_false hn, decide_eq_false hm]
        have := Int.mul_neg_of_neg_of_pos hm (show 0 < d by omega)
        have := Int.mul_nonneg (show 0 ≤ n by omega) (show 0 ≤ c by omega)
        omega
    rw [e] at c1
    exact c1
end Go.Proofs.Ytncmffhoodfhjaa
