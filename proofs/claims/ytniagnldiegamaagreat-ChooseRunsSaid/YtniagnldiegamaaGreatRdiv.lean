/- The reference's Div, for all ratios, valid or not. -/
import Derived.Test.YtniagnldiegamaaGreatGv
import Derived.Test.YtniagnldiegamaaGreatGt
namespace Go.Proofs.YtniagnldiegamaaGreat
open Go.RowKit

set_option maxHeartbeats 2000000 in
theorem rDiv_any (n d m c : Int) (w : World) (n0 : -9223372036854775808 ≤ n) (n1 : n ≤ 9223372036854775807) (d0 : -9223372036854775808 ≤ d) (d1 : d ≤ 9223372036854775807)
    (m0 : -9223372036854775808 ≤ m) (m1 : m ≤ 9223372036854775807) (c0 : -9223372036854775808 ≤ c) (c1 : c ≤ 9223372036854775807) :
    Calls Tryz.prog 152 #[.agg #[.int .i64 n, .int .i64 d], .agg #[.int .i64 m, .int .i64 c]] w fun e w' => e = .returned (.tuple #[.agg #[.int .i64 (Rp.divS n d m c).1, .int .i64 (Rp.divS n d m c).2.1], .int .i64 (Rp.divS n d m c).2.2]) ∧ Below w.heap.size w w' := by
  have cb := fun w => rBoth_any n d m c w n0 n1 d0 d1 m0 m1 c0 c1
  rcases both_cases n d m c with ⟨h, hx, hy⟩ | h
  · by_cases hm : m = 0
    · have e : Rp.divS n d m c = (0, 0, 18) := by unfold Rp.divS; rw [if_pos h, if_pos hm]
      rw [e]; rw [h] at cb; have CB := Lib.hid cb
      have hb : ((m : Int) == 0) = true := by rw [beq_iff_eq]; exact hm
      clear cb h e hx hy hm
      go_enter Tryz.func152, Tryz.ntmps152
      (go_wp2_with fail); refine (CB.out _).mono ?_; rintro e w1 ⟨rfl, hb1⟩; have an : w1.cell? ⟨w.heap.size, 0, none⟩ = some (.int .i64 n) := keepC hb1 (by go_simp); have ad : w1.cell? ⟨w.heap.size, 1, none⟩ = some (.int .i64 d) := keepC hb1 (by go_simp); have bn : w1.cell? ⟨w.heap.size + 1, 0, none⟩ = some (.int .i64 m) := keepC hb1 (by go_simp); have bd : w1.cell? ⟨w.heap.size + 1, 1, none⟩ = some (.int .i64 c) := keepC hb1 (by go_simp); have z0 : w1.cell? ⟨w.heap.size + 1 + 1, 0, none⟩ = some (.int .i64 0) := keepC hb1 (by go_simp); have fz0 : w1.frozen? ⟨w.heap.size + 1 + 1, 0, none⟩ = false := keepF hb1 (v := .int .i64 0) (by go_simp) (by go_simp); have z1 : w1.cell? ⟨w.heap.size + 1 + 1, 1, none⟩ = some (.int .i64 0) := keepC hb1 (by go_simp); have fz1 : w1.frozen? ⟨w.heap.size + 1 + 1, 1, none⟩ = false := keepF hb1 (v := .int .i64 0) (by go_simp) (by go_simp); have hbb : Below w.heap.size w w1 := keepB ((((Below.refl _ _).alloc (Nat.le_refl _) _).alloc (by simp) _).alloc (by simp; omega) _) hb1; clear hb1
      go_wp2
      exact bodyPost_ret (v := .tuple #[.agg #[.int .i64 0, .int .i64 0], .int .i64 18]) (by simp [results, Tryz.results152, go_sem, z0, z1]) rfl ⟨rfl, below_set (below_set hbb (by omega) _) (by omega) _⟩
    · have e : Rp.divS n d m c = Rp.mul n d (if m < 0 then -c else c) (if m < 0 then -m else m) := by unfold Rp.divS Rp.mul; rw [if_pos h, if_neg hm, q_inv, Rat.div_def]
      have e2 : Rp.mulS n d (if m < 0 then -c else c) (if m < 0 then -m else m) = Rp.mul n d (if m < 0 then -c else c) (if m < 0 then -m else m) := by
        unfold Rp.mulS
        rw [if_pos]
        unfold Rp.both Rp.chk
        rw [if_pos hx, if_pos (Ok_inv hy hm)]
      rw [e]; rw [h] at cb; obtain ⟨k1, k2, k3, k4, k5⟩ := hy; have CB := Lib.hid cb
      have hm' : (m == 0) = false := by rw [beq_eq_false_iff_ne]; exact hm
      by_cases hn : m < 0
      · simp only [if_pos hn] at e2 ⊢
        have ml := fun w => rMul_any n d (-c) (-m) w n0 n1 d0 d1 (by omega) (by omega) (by omega) (by omega)
        rw [e2] at ml
        generalize Rp.mul n d (-c) (-m) = R at *
        obtain ⟨R1, R2, R3⟩ := R; dsimp only at ml ⊢; have ML := Lib.hid ml; clear ml cb h e e2 hx k5 hm
        go_enter Tryz.func152, Tryz.ntmps152
        (go_wp2_with fail); refine (CB.out _).mono ?_; rintro e w1 ⟨rfl, hb1⟩; have an : w1.cell? ⟨w.heap.size, 0, none⟩ = some (.int .i64 n) := keepC hb1 (by go_simp); have ad : w1.cell? ⟨w.heap.size, 1, none⟩ = some (.int .i64 d) := keepC hb1 (by go_simp); have bn : w1.cell? ⟨w.heap.size + 1, 0, none⟩ = some (.int .i64 m) := keepC hb1 (by go_simp); have bd : w1.cell? ⟨w.heap.size + 1, 1, none⟩ = some (.int .i64 c) := keepC hb1 (by go_simp); have z0 : w1.cell? ⟨w.heap.size + 1 + 1, 0, none⟩ = some (.int .i64 0) := keepC hb1 (by go_simp); have fz0 : w1.frozen? ⟨w.heap.size + 1 + 1, 0, none⟩ = false := keepF hb1 (v := .int .i64 0) (by go_simp) (by go_simp); have z1 : w1.cell? ⟨w.heap.size + 1 + 1, 1, none⟩ = some (.int .i64 0) := keepC hb1 (by go_simp); have fz1 : w1.frozen? ⟨w.heap.size + 1 + 1, 1, none⟩ = false := keepF hb1 (v := .int .i64 0) (by go_simp) (by go_simp); have hbb : Below w.heap.size w w1 := keepB ((((Below.refl _ _).alloc (Nat.le_refl _) _).alloc (by simp) _).alloc (by simp; omega) _) hb1; have l0 := lt_of_cell an; have l1 := lt_of_cell bn; have l2 := lt_of_cell z0; clear hb1; (go_wp2_with fail); refine (ML.out _).mono ?_; rintro e w2 ⟨rfl, hb2⟩; have z0' := keepC hb2 (cell_alloc z0 _); have z1' := keepC hb2 (cell_alloc z1 _); have fz0' := keepF hb2 (cell_alloc z0 _) (froz_alloc z0 fz0 _); have fz1' := keepF hb2 (cell_alloc z1 _) (froz_alloc z1 fz1 _); have hbb' := keepB (below_al hbb _) hb2; clear an ad bn bd z0 z1 fz0 fz1 hb2
        go_wp2
        exact bodyPost_ret (v := .tuple #[.agg #[.int .i64 R1, .int .i64 R2], .int .i64 R3]) (by simp [results, Tryz.results152, go_sem, z0', z1']) rfl ⟨rfl, below_set (below_set hbb' (by omega) _) (by omega) _⟩
      · simp only [if_neg hn] at e2 ⊢
        have ml := fun w => rMul_any n d c m w n0 n1 d0 d1 c0 c1 m0 m1
        rw [e2] at ml
        generalize Rp.mul n d c m = R at *
        obtain ⟨R1, R2, R3⟩ := R; dsimp only at ml ⊢; have ML := Lib.hid ml; clear ml cb h e e2 hx k5 hm
        go_enter Tryz.func152, Tryz.ntmps152
        (go_wp2_with fail); refine (CB.out _).mono ?_; rintro e w1 ⟨rfl, hb1⟩; have an : w1.cell? ⟨w.heap.size, 0, none⟩ = some (.int .i64 n) := keepC hb1 (by go_simp); have ad : w1.cell? ⟨w.heap.size, 1, none⟩ = some (.int .i64 d) := keepC hb1 (by go_simp); have bn : w1.cell? ⟨w.heap.size + 1, 0, none⟩ = some (.int .i64 m) := keepC hb1 (by go_simp); have bd : w1.cell? ⟨w.heap.size + 1, 1, none⟩ = some (.int .i64 c) := keepC hb1 (by go_simp); have z0 : w1.cell? ⟨w.heap.size + 1 + 1, 0, none⟩ = some (.int .i64 0) := keepC hb1 (by go_simp); have fz0 : w1.frozen? ⟨w.heap.size + 1 + 1, 0, none⟩ = false := keepF hb1 (v := .int .i64 0) (by go_simp) (by go_simp); have z1 : w1.cell? ⟨w.heap.size + 1 + 1, 1, none⟩ = some (.int .i64 0) := keepC hb1 (by go_simp); have fz1 : w1.frozen? ⟨w.heap.size + 1 + 1, 1, none⟩ = false := keepF hb1 (v := .int .i64 0) (by go_simp) (by go_simp); have hbb : Below w.heap.size w w1 := keepB ((((Below.refl _ _).alloc (Nat.le_refl _) _).alloc (by simp) _).alloc (by simp; omega) _) hb1; have l0 := lt_of_cell an; have l1 := lt_of_cell bn; have l2 := lt_of_cell z0; clear hb1; (go_wp2_with fail); refine (ML.out _).mono ?_; rintro e w2 ⟨rfl, hb2⟩; have z0' := keepC hb2 (cell_alloc z0 _); have z1' := keepC hb2 (cell_alloc z1 _); have fz0' := keepF hb2 (cell_alloc z0 _) (froz_alloc z0 fz0 _); have fz1' := keepF hb2 (cell_alloc z1 _) (froz_alloc z1 fz1 _); have hbb' := keepB (below_al hbb _) hb2; clear an ad bn bd z0 z1 fz0 fz1 hb2
        go_wp2
        exact bodyPost_ret (v := .tuple #[.agg #[.int .i64 R1, .int .i64 R2], .int .i64 R3]) (by simp [results, Tryz.results152, go_sem, z0', z1']) rfl ⟨rfl, below_set (below_set hbb' (by omega) _) (by omega) _⟩
  · have e : Rp.divS n d m c = (0, 0, 8) := by unfold Rp.divS; rw [if_neg (by omega)]
    rw [e]; rw [h] at cb; have CB := Lib.hid cb; clear cb h e
    go_enter Tryz.func152, Tryz.ntmps152
    (go_wp2_with fail); refine (CB.out _).mono ?_; rintro e w1 ⟨rfl, hb1⟩; have an : w1.cell? ⟨w.heap.size, 0, none⟩ = some (.int .i64 n) := keepC hb1 (by go_simp); have ad : w1.cell? ⟨w.heap.size, 1, none⟩ = some (.int .i64 d) := keepC hb1 (by go_simp); have bn : w1.cell? ⟨w.heap.size + 1, 0, none⟩ = some (.int .i64 m) := keepC hb1 (by go_simp); have bd : w1.cell? ⟨w.heap.size + 1, 1, none⟩ = some (.int .i64 c) := keepC hb1 (by go_simp); have z0 : w1.cell? ⟨w.heap.size + 1 + 1, 0, none⟩ = some (.int .i64 0) := keepC hb1 (by go_simp); have fz0 : w1.frozen? ⟨w.heap.size + 1 + 1, 0, none⟩ = false := keepF hb1 (v := .int .i64 0) (by go_simp) (by go_simp); have z1 : w1.cell? ⟨w.heap.size + 1 + 1, 1, none⟩ = some (.int .i64 0) := keepC hb1 (by go_simp); have fz1 : w1.frozen? ⟨w.heap.size + 1 + 1, 1, none⟩ = false := keepF hb1 (v := .int .i64 0) (by go_simp) (by go_simp); have hbb : Below w.heap.size w w1 := keepB ((((Below.refl _ _).alloc (Nat.le_refl _) _).alloc (by simp) _).alloc (by simp; omega) _) hb1; clear hb1; (go_wp2_with fail); refine (CB.out _).mono ?_; rintro e w2 ⟨rfl, hb2⟩; replace an := keepC hb2 an; replace ad := keepC hb2 ad; replace bn := keepC hb2 bn; replace bd := keepC hb2 bd; replace fz0 := keepF hb2 z0 fz0; replace z0 := keepC hb2 z0; replace fz1 := keepF hb2 z1 fz1; replace z1 := keepC hb2 z1; replace hbb := keepB hbb hb2; clear hb2; have l2 := lt_of_cell z0
    go_wp2
    exact bodyPost_ret (v := .tuple #[.agg #[.int .i64 0, .int .i64 0], .int .i64 8]) (by simp [results, Tryz.results152, go_sem, z0, z1]) rfl ⟨rfl, below_set (below_set hbb (by omega) _) (by omega) _⟩
end Go.Proofs.YtniagnldiegamaaGreat

