/- Contract of the reference's Cmp. -/
import Derived.Test.YtkphaclfapkfoaaLess
namespace Go.Proofs.Ytkphaclfapkfoaa
open Go.RowKit

set_option maxHeartbeats 2000000 in
theorem rCmp_any (n d m c : Int) (w : World) (n0 : -9223372036854775808 ≤ n) (n1 : n ≤ 9223372036854775807) (d0 : -9223372036854775808 ≤ d) (d1 : d ≤ 9223372036854775807)
    (m0 : -9223372036854775808 ≤ m) (m1 : m ≤ 9223372036854775807) (c0 : -9223372036854775808 ≤ c) (c1 : c ≤ 9223372036854775807) :
    Calls Try.prog 15 #[.agg #[.int .i64 n, .int .i64 d], .agg #[.int .i64 m, .int .i64 c]] w fun e w' => e = .returned (.tuple #[.int .i64 (Rp.cmpS n d m c).1, .int .i64 (Rp.cmpS n d m c).2]) ∧ Below w.heap.size w w' := by
  have cb := fun w => rBoth_any n d m c w n0 n1 d0 d1 m0 m1 c0 c1
  rcases both_cases n d m c with ⟨h, hx, hy⟩ | h
  · have e : Rp.cmpS n d m c = (Rp.cmpQ (Rp.q n d) (Rp.q m c), 0) := by unfold Rp.cmpS; rw [if_pos h]
    rw [e]
    unfold Rp.cmpQ
    rw [h] at cb
    have CB := Lib.hid cb
    have L1 := Lib.hid (fun w => Less_any n d m c hx hy w)
    have L2 := Lib.hid (fun w => Less_any m c n d hy hx w)
    clear cb h e hx hy
    by_cases hl : Rp.q n d < Rp.q m c
    · simp only [if_pos hl, decide_eq_true hl] at L1 ⊢
      clear L2 hl
      go_enter Try.func15, Try.ntmps15
      go_wp2_with fail
      refine (CB.out _).mono ?_
      rintro e w1 ⟨rfl, hb1⟩
      have x0 : w1.cell? ⟨w.heap.size, 0, none⟩ = some (.int .i64 n) := keepC hb1 (by go_simp)
      have x1 : w1.cell? ⟨w.heap.size, 1, none⟩ = some (.int .i64 d) := keepC hb1 (by go_simp)
      have y0 : w1.cell? ⟨w.heap.size + 1, 0, none⟩ = some (.int .i64 m) := keepC hb1 (by go_simp)
      have y1 : w1.cell? ⟨w.heap.size + 1, 1, none⟩ = some (.int .i64 c) := keepC hb1 (by go_simp)
      have hbb : Below w.heap.size w w1 := keepB (((Below.refl _ _).alloc (Nat.le_refl _) _).alloc (by simp) _) hb1
      clear hb1
      go_wp2_with fail
      refine (L1.out _).mono ?_
      rintro e w2 ⟨rfl, hb2⟩
      go_wp2
      go_ret2
      exact ⟨rfl, keepB hbb hb2⟩
    · simp only [if_neg hl, decide_eq_false hl] at L1 ⊢
      clear hl
      by_cases hg : Rp.q m c < Rp.q n d
      · simp only [if_pos hg, decide_eq_true hg] at L2 ⊢
        clear hg
        go_enter Try.func15, Try.ntmps15
        go_wp2_with fail
        refine (CB.out _).mono ?_
        rintro e w1 ⟨rfl, hb1⟩
        have x0 : w1.cell? ⟨w.heap.size, 0, none⟩ = some (.int .i64 n) := keepC hb1 (by go_simp)
        have x1 : w1.cell? ⟨w.heap.size, 1, none⟩ = some (.int .i64 d) := keepC hb1 (by go_simp)
        have y0 : w1.cell? ⟨w.heap.size + 1, 0, none⟩ = some (.int .i64 m) := keepC hb1 (by go_simp)
        have y1 : w1.cell? ⟨w.heap.size + 1, 1, none⟩ = some (.int .i64 c) := keepC hb1 (by go_simp)
        have hbb : Below w.heap.size w w1 := keepB (((Below.refl _ _).alloc (Nat.le_refl _) _).alloc (by simp) _) hb1
        clear hb1
        go_wp2_with fail
        refine (L1.out _).mono ?_
        rintro e w2 ⟨rfl, hb2⟩
        replace x0 := keepC hb2 x0
        replace x1 := keepC hb2 x1
        replace y0 := keepC hb2 y0
        replace y1 := keepC hb2 y1
        replace hbb := keepB hbb hb2
        clear hb2
        go_wp2_with fail
        refine (L2.out _).mono ?_
        rintro e w3 ⟨rfl, hb3⟩
        go_wp2
        go_ret2
        exact ⟨rfl, keepB hbb hb3⟩
      · simp only [if_neg hg, decide_eq_false hg] at L2 ⊢
        clear hg
        go_enter Try.func15, Try.ntmps15
        go_wp2_with fail
        refine (CB.out _).mono ?_
        rintro e w1 ⟨rfl, hb1⟩
        have x0 : w1.cell? ⟨w.heap.size, 0, none⟩ = some (.int .i64 n) := keepC hb1 (by go_simp)
        have x1 : w1.cell? ⟨w.heap.size, 1, none⟩ = some (.int .i64 d) := keepC hb1 (by go_simp)
        have y0 : w1.cell? ⟨w.heap.size + 1, 0, none⟩ = some (.int .i64 m) := keepC hb1 (by go_simp)
        have y1 : w1.cell? ⟨w.heap.size + 1, 1, none⟩ = some (.int .i64 c) := keepC hb1 (by go_simp)
        have hbb : Below w.heap.size w w1 := keepB (((Below.refl _ _).alloc (Nat.le_refl _) _).alloc (by simp) _) hb1
        clear hb1
        go_wp2_with fail
        refine (L1.out _).mono ?_
        rintro e w2 ⟨rfl, hb2⟩
        replace x0 := keepC hb2 x0
        replace x1 := keepC hb2 x1
        replace y0 := keepC hb2 y0
        replace y1 := keepC hb2 y1
        replace hbb := keepB hbb hb2
        clear hb2
        go_wp2_with fail
        refine (L2.out _).mono ?_
        rintro e w3 ⟨rfl, hb3⟩
        go_wp2
        go_ret2
        exact ⟨rfl, keepB hbb hb3⟩
  · have e : Rp.cmpS n d m c = (0, 8) := by unfold Rp.cmpS; rw [h]; rfl
    rw [e]
    rw [h] at cb
    have CB := Lib.hid cb
    clear cb h e
    go_enter Try.func15, Try.ntmps15
    go_wp2_with fail
    refine (CB.out _).mono ?_
    rintro e w1 ⟨rfl, hb1⟩
    have x0 : w1.cell? ⟨w.heap.size, 0, none⟩ = some (.int .i64 n) := keepC hb1 (by go_simp)
    have x1 : w1.cell? ⟨w.heap.size, 1, none⟩ = some (.int .i64 d) := keepC hb1 (by go_simp)
    have y0 : w1.cell? ⟨w.heap.size + 1, 0, none⟩ = some (.int .i64 m) := keepC hb1 (by go_simp)
    have y1 : w1.cell? ⟨w.heap.size + 1, 1, none⟩ = some (.int .i64 c) := keepC hb1 (by go_simp)
    have hbb : Below w.heap.size w w1 := keepB (((Below.refl _ _).alloc (Nat.le_refl _) _).alloc (by simp) _) hb1
    clear hb1
    go_wp2_with fail
    refine (CB.out _).mono ?_
    rintro e w2 ⟨rfl, hb2⟩
    go_wp2
    go_ret2
    exact ⟨rfl, keepB hbb hb2⟩
end Go.Proofs.Ytkphaclfapkfoaa
