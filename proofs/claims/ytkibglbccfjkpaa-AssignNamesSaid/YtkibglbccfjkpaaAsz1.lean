/- AssignNames' walk. -/
import Derived.Test.YtkibglbccfjkpaaAsq
namespace Go.Proofs.Ytkibglbccfjkpaa
open Go.RowKit
theorem at_boxs15 {P : Program} {c : Code} {Q : Exit → Act → World → Prop} {a : Act} {w : World} {l0 l1 l2 l3 l4 l5 l6 l7 l8 l9 l10 l11 l12 l13 l14 : List Value} {t0 t1 t2 t3 t4 t5 t6 t7 t8 t9 t10 t11 t12 t13 t14 : TypeId} (k : ∀ V, Below w.heap.size w V → BK V (w.heap.size) l0 → BK V (w.heap.size + 1) l1 → BK V (w.heap.size + 2) l2 → BK V (w.heap.size + 3) l3 → BK V (w.heap.size + 4) l4 → BK V (w.heap.size + 5) l5 → BK V (w.heap.size + 6) l6 → BK V (w.heap.size + 7) l7 → BK V (w.heap.size + 8) l8 → BK V (w.heap.size + 9) l9 → BK V (w.heap.size + 10) l10 → BK V (w.heap.size + 11) l11 → BK V (w.heap.size + 12) l12 → BK V (w.heap.size + 13) l13 → BK V (w.heap.size + 14) l14 → V.heap.size = w.heap.size + 15 → Code.wp P c Q a V) : Code.wp P c Q a (((((((((((((((w.alloc (.cells l0.toArray t0)).alloc (.cells l1.toArray t1)).alloc (.cells l2.toArray t2)).alloc (.cells l3.toArray t3)).alloc (.cells l4.toArray t4)).alloc (.cells l5.toArray t5)).alloc (.cells l6.toArray t6)).alloc (.cells l7.toArray t7)).alloc (.cells l8.toArray t8)).alloc (.cells l9.toArray t9)).alloc (.cells l10.toArray t10)).alloc (.cells l11.toArray t11)).alloc (.cells l12.toArray t12)).alloc (.cells l13.toArray t13)).alloc (.cells l14.toArray t14)) := by
  refine k _ (below_al (below_al (below_al (below_al (below_al (below_al (below_al (below_al (below_al (below_al (below_al (below_al (below_al (below_al (below_al (Below.refl _ _) _) _) _) _) _) _) _) _) _) _) _) _) _) _) _) ?_ ?_ ?_ ?_ ?_ ?_ ?_ ?_ ?_ ?_ ?_ ?_ ?_ ?_ ?_ (by simp only [World.size_alloc])
  · have b := (((((((((((((((BK.new w l0 t0).al (.cells l1.toArray t1)).al (.cells l2.toArray t2)).al (.cells l3.toArray t3)).al (.cells l4.toArray t4)).al (.cells l5.toArray t5)).al (.cells l6.toArray t6)).al (.cells l7.toArray t7)).al (.cells l8.toArray t8)).al (.cells l9.toArray t9)).al (.cells l10.toArray t10)).al (.cells l11.toArray t11)).al (.cells l12.toArray t12)).al (.cells l13.toArray t13)).al (.cells l14.toArray t14))
    simpa only [World.size_alloc] using b
  · have b := ((((((((((((((BK.new (w.alloc (.cells l0.toArray t0)) l1 t1).al (.cells l2.toArray t2)).al (.cells l3.toArray t3)).al (.cells l4.toArray t4)).al (.cells l5.toArray t5)).al (.cells l6.toArray t6)).al (.cells l7.toArray t7)).al (.cells l8.toArray t8)).al (.cells l9.toArray t9)).al (.cells l10.toArray t10)).al (.cells l11.toArray t11)).al (.cells l12.toArray t12)).al (.cells l13.toArray t13)).al (.cells l14.toArray t14))
    simpa only [World.size_alloc] using b
  · have b := (((((((((((((BK.new ((w.alloc (.cells l0.toArray t0)).alloc (.cells l1.toArray t1)) l2 t2).al (.cells l3.toArray t3)).al (.cells l4.toArray t4)).al (.cells l5.toArray t5)).al (.cells l6.toArray t6)).al (.cells l7.toArray t7)).al (.cells l8.toArray t8)).al (.cells l9.toArray t9)).al (.cells l10.toArray t10)).al (.cells l11.toArray t11)).al (.cells l12.toArray t12)).al (.cells l13.toArray t13)).al (.cells l14.toArray t14))
    simpa only [World.size_alloc] using b
  · have b := ((((((((((((BK.new (((w.alloc (.cells l0.toArray t0)).alloc (.cells l1.toArray t1)).alloc (.cells l2.toArray t2)) l3 t3).al (.cells l4.toArray t4)).al (.cells l5.toArray t5)).al (.cells l6.toArray t6)).al (.cells l7.toArray t7)).al (.cells l8.toArray t8)).al (.cells l9.toArray t9)).al (.cells l10.toArray t10)).al (.cells l11.toArray t11)).al (.cells l12.toArray t12)).al (.cells l13.toArray t13)).al (.cells l14.toArray t14))
    simpa only [World.size_alloc] using b
  · have b := (((((((((((BK.new ((((w.alloc (.cells l0.toArray t0)).alloc (.cells l1.toArray t1)).alloc (.cells l2.toArray t2)).alloc (.cells l3.toArray t3)) l4 t4).al (.cells l5.toArray t5)).al (.cells l6.toArray t6)).al (.cells l7.toArray t7)).al (.cells l8.toArray t8)).al (.cells l9.toArray t9)).al (.cells l10.toArray t10)).al (.cells l11.toArray t11)).al (.cells l12.toArray t12)).al (.cells l13.toArray t13)).al (.cells l14.toArray t14))
    simpa only [World.size_alloc] using b
  · have b := ((((((((((BK.new (((((w.alloc (.cells l0.toArray t0)).alloc (.cells l1.toArray t1)).alloc (.cells l2.toArray t2)).alloc (.cells l3.toArray t3)).alloc (.cells l4.toArray t4)) l5 t5).al (.cells l6.toArray t6)).al (.cells l7.toArray t7)).al (.cells l8.toArray t8)).al (.cells l9.toArray t9)).al (.cells l10.toArray t10)).al (.cells l11.toArray t11)).al (.cells l12.toArray t12)).al (.cells l13.toArray t13)).al (.cells l14.toArray t14))
    simpa only [World.size_alloc] using b
  · have b := (((((((((BK.new ((((((w.alloc (.cells l0.toArray t0)).alloc (.cells l1.toArray t1)).alloc (.cells l2.toArray t2)).alloc (.cells l3.toArray t3)).alloc (.cells l4.toArray t4)).alloc (.cells l5.toArray t5)) l6 t6).al (.cells l7.toArray t7)).al (.cells l8.toArray t8)).al (.cells l9.toArray t9)).al (.cells l10.toArray t10)).al (.cells l11.toArray t11)).al (.cells l12.toArray t12)).al (.cells l13.toArray t13)).al (.cells l14.toArray t14))
    simpa only [World.size_alloc] using b
  · have b := ((((((((BK.new (((((((w.alloc (.cells l0.toArray t0)).alloc (.cells l1.toArray t1)).alloc (.cells l2.toArray t2)).alloc (.cells l3.toArray t3)).alloc (.cells l4.toArray t4)).alloc (.cells l5.toArray t5)).alloc (.cells l6.toArray t6)) l7 t7).al (.cells l8.toArray t8)).al (.cells l9.toArray t9)).al (.cells l10.toArray t10)).al (.cells l11.toArray t11)).al (.cells l12.toArray t12)).al (.cells l13.toArray t13)).al (.cells l14.toArray t14))
    simpa only [World.size_alloc] using b
  · have b := (((((((BK.new ((((((((w.alloc (.cells l0.toArray t0)).alloc (.cells l1.toArray t1)).alloc (.cells l2.toArray t2)).alloc (.cells l3.toArray t3)).alloc (.cells l4.toArray t4)).alloc (.cells l5.toArray t5)).alloc (.cells l6.toArray t6)).alloc (.cells l7.toArray t7)) l8 t8).al (.cells l9.toArray t9)).al (.cells l10.toArray t10)).al (.cells l11.toArray t11)).al (.cells l12.toArray t12)).al (.cells l13.toArray t13)).al (.cells l14.toArray t14))
    simpa only [World.size_alloc] using b
  · have b := ((((((BK.new (((((((((w.alloc (.cells l0.toArray t0)).alloc (.cells l1.toArray t1)).alloc (.cells l2.toArray t2)).alloc (.cells l3.toArray t3)).alloc (.cells l4.toArray t4)).alloc (.cells l5.toArray t5)).alloc (.cells l6.toArray t6)).alloc (.cells l7.toArray t7)).alloc (.cells l8.toArray t8)) l9 t9).al (.cells l10.toArray t10)).al (.cells l11.toArray t11)).al (.cells l12.toArray t12)).al (.cells l13.toArray t13)).al (.cells l14.toArray t14))
    simpa only [World.size_alloc] using b
  · have b := (((((BK.new ((((((((((w.alloc (.cells l0.toArray t0)).alloc (.cells l1.toArray t1)).alloc (.cells l2.toArray t2)).alloc (.cells l3.toArray t3)).alloc (.cells l4.toArray t4)).alloc (.cells l5.toArray t5)).alloc (.cells l6.toArray t6)).alloc (.cells l7.toArray t7)).alloc (.cells l8.toArray t8)).alloc (.cells l9.toArray t9)) l10 t10).al (.cells l11.toArray t11)).al (.cells l12.toArray t12)).al (.cells l13.toArray t13)).al (.cells l14.toArray t14))
    simpa only [World.size_alloc] using b
  · have b := ((((BK.new (((((((((((w.alloc (.cells l0.toArray t0)).alloc (.cells l1.toArray t1)).alloc (.cells l2.toArray t2)).alloc (.cells l3.toArray t3)).alloc (.cells l4.toArray t4)).alloc (.cells l5.toArray t5)).alloc (.cells l6.toArray t6)).alloc (.cells l7.toArray t7)).alloc (.cells l8.toArray t8)).alloc (.cells l9.toArray t9)).alloc (.cells l10.toArray t10)) l11 t11).al (.cells l12.toArray t12)).al (.cells l13.toArray t13)).al (.cells l14.toArray t14))
    simpa only [World.size_alloc] using b
  · have b := (((BK.new ((((((((((((w.alloc (.cells l0.toArray t0)).alloc (.cells l1.toArray t1)).alloc (.cells l2.toArray t2)).alloc (.cells l3.toArray t3)).alloc (.cells l4.toArray t4)).alloc (.cells l5.toArray t5)).alloc (.cells l6.toArray t6)).alloc (.cells l7.toArray t7)).alloc (.cells l8.toArray t8)).alloc (.cells l9.toArray t9)).alloc (.cells l10.toArray t10)).alloc (.cells l11.toArray t11)) l12 t12).al (.cells l13.toArray t13)).al (.cells l14.toArray t14))
    simpa only [World.size_alloc] using b
  · have b := ((BK.new (((((((((((((w.alloc (.cells l0.toArray t0)).alloc (.cells l1.toArray t1)).alloc (.cells l2.toArray t2)).alloc (.cells l3.toArray t3)).alloc (.cells l4.toArray t4)).alloc (.cells l5.toArray t5)).alloc (.cells l6.toArray t6)).alloc (.cells l7.toArray t7)).alloc (.cells l8.toArray t8)).alloc (.cells l9.toArray t9)).alloc (.cells l10.toArray t10)).alloc (.cells l11.toArray t11)).alloc (.cells l12.toArray t12)) l13 t13).al (.cells l14.toArray t14))
    simpa only [World.size_alloc] using b
  · have b := (BK.new ((((((((((((((w.alloc (.cells l0.toArray t0)).alloc (.cells l1.toArray t1)).alloc (.cells l2.toArray t2)).alloc (.cells l3.toArray t3)).alloc (.cells l4.toArray t4)).alloc (.cells l5.toArray t5)).alloc (.cells l6.toArray t6)).alloc (.cells l7.toArray t7)).alloc (.cells l8.toArray t8)).alloc (.cells l9.toArray t9)).alloc (.cells l10.toArray t10)).alloc (.cells l11.toArray t11)).alloc (.cells l12.toArray t12)).alloc (.cells l13.toArray t13)) l14 t14)
    simpa only [World.size_alloc] using b
theorem at_boxs7 {P : Program} {c : Code} {Q : Exit → Act → World → Prop} {a : Act} {w : World} {l0 l1 l2 l3 l4 l5 l6 : List Value} {t0 t1 t2 t3 t4 t5 t6 : TypeId} (k : ∀ V, Below w.heap.size w V → BK V (w.heap.size) l0 → BK V (w.heap.size + 1) l1 → BK V (w.heap.size + 2) l2 → BK V (w.heap.size + 3) l3 → BK V (w.heap.size + 4) l4 → BK V (w.heap.size + 5) l5 → BK V (w.heap.size + 6) l6 → V.heap.size = w.heap.size + 7 → Code.wp P c Q a V) : Code.wp P c Q a (((((((w.alloc (.cells l0.toArray t0)).alloc (.cells l1.toArray t1)).alloc (.cells l2.toArray t2)).alloc (.cells l3.toArray t3)).alloc (.cells l4.toArray t4)).alloc (.cells l5.toArray t5)).alloc (.cells l6.toArray t6)) := by
  refine k _ (below_al (below_al (below_al (below_al (below_al (below_al (below_al (Below.refl _ _) _) _) _) _) _) _) _) ?_ ?_ ?_ ?_ ?_ ?_ ?_ (by simp only [World.size_alloc])
  · have b := (((((((BK.new w l0 t0).al (.cells l1.toArray t1)).al (.cells l2.toArray t2)).al (.cells l3.toArray t3)).al (.cells l4.toArray t4)).al (.cells l5.toArray t5)).al (.cells l6.toArray t6))
    simpa only [World.size_alloc] using b
  · have b := ((((((BK.new (w.alloc (.cells l0.toArray t0)) l1 t1).al (.cells l2.toArray t2)).al (.cells l3.toArray t3)).al (.cells l4.toArray t4)).al (.cells l5.toArray t5)).al (.cells l6.toArray t6))
    simpa only [World.size_alloc] using b
  · have b := (((((BK.new ((w.alloc (.cells l0.toArray t0)).alloc (.cells l1.toArray t1)) l2 t2).al (.cells l3.toArray t3)).al (.cells l4.toArray t4)).al (.cells l5.toArray t5)).al (.cells l6.toArray t6))
    simpa only [World.size_alloc] using b
  · have b := ((((BK.new (((w.alloc (.cells l0.toArray t0)).alloc (.cells l1.toArray t1)).alloc (.cells l2.toArray t2)) l3 t3).al (.cells l4.toArray t4)).al (.cells l5.toArray t5)).al (.cells l6.toArray t6))
    simpa only [World.size_alloc] using b
  · have b := (((BK.new ((((w.alloc (.cells l0.toArray t0)).alloc (.cells l1.toArray t1)).alloc (.cells l2.toArray t2)).alloc (.cells l3.toArray t3)) l4 t4).al (.cells l5.toArray t5)).al (.cells l6.toArray t6))
    simpa only [World.size_alloc] using b
  · have b := ((BK.new (((((w.alloc (.cells l0.toArray t0)).alloc (.cells l1.toArray t1)).alloc (.cells l2.toArray t2)).alloc (.cells l3.toArray t3)).alloc (.cells l4.toArray t4)) l5 t5).al (.cells l6.toArray t6))
    simpa only [World.size_alloc] using b
  · have b := (BK.new ((((((w.alloc (.cells l0.toArray t0)).alloc (.cells l1.toArray t1)).alloc (.cells l2.toArray t2)).alloc (.cells l3.toArray t3)).alloc (.cells l4.toArray t4)).alloc (.cells l5.toArray t5)) l6 t6)
    simpa only [World.size_alloc] using b
theorem isI_bk {w : World} {p : Nat} {l : List Int} (h : BK w p (l.map (Value.int .i64))) (hb : ∀ z ∈ l, I64 z) : IsI w (some ⟨p, 0, none⟩) l := by
  refine ⟨fun _ => ⟨p, 0, rfl, fun i hi => ?_⟩, hb⟩
  rw [Nat.zero_add]
  exact h.c i (by rw [List.getElem?_map, List.getElem?_eq_getElem hi, el_lt hi]; rfl)
def I64b (l : List Int) : Bool := l.all (fun z => decide (-9223372036854775808 ≤ z) && decide (z ≤ 9223372036854775807))
theorem i64b {l : List Int} (h : I64b l = true) : ∀ z ∈ l, I64 z := fun z hz => by
  have := List.all_eq_true.1 h z hz
  simp at this
  exact this
/-- Rows one by one. -/
def RowsAt (w : World) (r : Nat) : Nat → List (List Int) → Prop
  | _, [] => True
  | k, y :: V => (∃ R c, w.cell? ⟨r, k, none⟩ = some (.slice R y.length c) ∧ y.length ≤ maxLen ∧ IsI w R y) ∧ RowsAt w r (k + 1) V
theorem rowsAt_get {w : World} {r : Nat} : ∀ {k : Nat} {V : List (List Int)}, RowsAt w r k V → ∀ i, i < V.length → ∃ R c, w.cell? ⟨r, k + i, none⟩ = some (.slice R (V.getD i []).length c) ∧ (V.getD i []).length ≤ maxLen ∧ IsI w R (V.getD i [])
  | _, [], _, _, h => absurd h (by simp)
  | k, y :: V, h, 0, _ => by simpa using h.1
  | k, y :: V, h, i + 1, hi => by
    have := rowsAt_get h.2 i (by simpa using hi)
    rw [show k + 1 + i = k + (i + 1) by omega] at this
    simpa using this
theorem isM_rows {w : World} {r : Nat} {V : List (List Int)} (h : RowsAt w r 0 V) : IsM w (some ⟨r, 0, none⟩) V := fun _ => ⟨r, 0, rfl, fun i hi => rowsAt_get h i hi⟩
theorem nils_make (v : World) : Sem.run Try.prog (Instr.makeSlice 22 (.int .i64 7) (.int .i64 7)) v = .ok (.slice (some ⟨v.heap.size, 0, none⟩) 7 7) (v.alloc (.cells #[.slice none 0 0, .slice none 0 0, .slice none 0 0, .slice none 0 0, .slice none 0 0, .slice none 0 0, .slice none 0 0] 25)) := by
  have h := run_make_row' (P := Try.prog) 22 25 (.slice none 0 0) 24 (by kernel_rfl) (by kernel_rfl) rfl .i64 .i64 7 (by decide) (by decide) v
  have e : madeCells #[Value.slice none 0 0] 7 = #[.slice none 0 0, .slice none 0 0, .slice none 0 0, .slice none 0 0, .slice none 0 0, .slice none 0 0, .slice none 0 0] := by kernel_rfl
  rw [e] at h
  exact h
theorem nm_ls : ∀ k, k < 6 → As.valS [[5, 3], [4, 1]] (([[], [0], [0, 0], [0, 2], [-1, 0], [0, 1, 2]] : List (List Int)).getD k []) = (0, 8) ∧ As.prvS [[5, 3], [4, 1]] (([[], [0], [0, 0], [0, 2], [-1, 0], [0, 1, 2]] : List (List Int)).getD k []) [0, 0] = (false, 8) := by decide +kernel
theorem nm_one : As.chk [[1000000]] = 0 ∧ As.bsl [[1000000]] = [0] ∧ As.bsv [[1000000]] = 1000000 ∧ As.prl [[1000000]] = [0] ∧ As.hml [[1000000]] = [0] := by decide +kernel
theorem nm_six : As.chk [[0, 1, 0, 0, 0, 0], [0, 0, 1, 0, 0, 0], [0, 0, 0, 1, 0, 0], [0, 0, 0, 0, 1, 0], [0, 0, 0, 0, 0, 1], [9, 0, 0, 0, 0, 0]] = 0 ∧ As.bsl [[0, 1, 0, 0, 0, 0], [0, 0, 1, 0, 0, 0], [0, 0, 0, 1, 0, 0], [0, 0, 0, 0, 1, 0], [0, 0, 0, 0, 0, 1], [9, 0, 0, 0, 0, 0]] = [1, 2, 3, 4, 5, 0] ∧ As.bsv [[0, 1, 0, 0, 0, 0], [0, 0, 1, 0, 0, 0], [0, 0, 0, 1, 0, 0], [0, 0, 0, 0, 1, 0], [0, 0, 0, 0, 0, 1], [9, 0, 0, 0, 0, 0]] = 14 := by decide +kernel
theorem nm_prv : As.prvS [[5, 3], [4, 1]] [1, 0] [0] = (false, 8) ∧ As.prvS [[5, 3], [4, 1]] [1, 0] [0, -1] = (false, 8) ∧ As.prvS [[5, 3], [4, 1]] [1, 0] [10000001, 0] = (false, 8) ∧ As.valS [[5, 3], [4, 1]] [0, 1] = (6, 0) := by decide +kernel
theorem chk7_any (A : Option Addr) (c : Nat) (w : World) (h : IsM w A [[], [], [], [], [], [], []]) : Calls Try.prog 18 #[.slice A 7 c] w fun e w' => e = .returned (.int .i64 4) ∧ Below w.heap.size w w' := by
  have h1 := asCheck_any A c [[], [], [], [], [], [], []] w (by unfold maxLen; simp) h
  rw [show As.chk [[], [], [], [], [], [], []] = 4 by decide +kernel] at h1
  exact h1
theorem chk1_any (A : Option Addr) (c : Nat) (w : World) (h : IsM w A [[1000000]]) : Calls Try.prog 18 #[.slice A 1 c] w fun e w' => e = .returned (.int .i64 0) ∧ Below w.heap.size w w' := by
  have h1 := asCheck_any A c [[1000000]] w (by unfold maxLen; simp) h
  rw [nm_one.1] at h1
  exact h1
theorem nbest_one (A : Option Addr) (cv : Nat) (w : World) (h : IsM w A [[1000000]]) : Calls Try.prog 12 #[.slice A 1 cv] w fun e w' => ∃ B c, e = .returned (.tuple #[.slice B 1 c, .int .i64 1000000, .int .i64 0]) ∧ IsI w' B [0] ∧ Below w.heap.size w w' := by
  refine (asBest_any A cv [[1000000]] w (by unfold maxLen; simp) h).mono ?_
  rintro e w' ⟨B, c, rfl, hI, hb⟩
  obtain ⟨f3, f1, f2, -⟩ := nm_one
  rw [f1] at hI ⊢
  rw [f2, f3]
  exact ⟨B, c, rfl, hI, hb⟩
theorem nbest_six (A : Option Addr) (cv : Nat) (w : World) (h : IsM w A [[0, 1, 0, 0, 0, 0], [0, 0, 1, 0, 0, 0], [0, 0, 0, 1, 0, 0], [0, 0, 0, 0, 1, 0], [0, 0, 0, 0, 0, 1], [9, 0, 0, 0, 0, 0]]) : Calls Try.prog 12 #[.slice A 6 cv] w fun e w' => ∃ B c, e = .returned (.tuple #[.slice B 6 c, .int .i64 14, .int .i64 0]) ∧ IsI w' B [1, 2, 3, 4, 5, 0] ∧ Below w.heap.size w w' := by
  refine (asBest_any A cv [[0, 1, 0, 0, 0, 0], [0, 0, 1, 0, 0, 0], [0, 0, 0, 1, 0, 0], [0, 0, 0, 0, 1, 0], [0, 0, 0, 0, 0, 1], [9, 0, 0, 0, 0, 0]] w (by unfold maxLen; simp) h).mono ?_
  rintro e w' ⟨B, c, rfl, hI, hb⟩
  obtain ⟨f3, f1, f2⟩ := nm_six
  rw [f1] at hI ⊢
  rw [f2, f3]
  exact ⟨B, c, rfl, hI, hb⟩
theorem nprices (A : Option Addr) (cv : Nat) (w : World) (h : IsM w A [[1000000]]) : Calls Try.prog 14 #[.slice A 1 cv] w fun e w' => ∃ B c, e = .returned (.tuple #[.slice B 1 c, .int .i64 0]) ∧ IsI w' B [0] ∧ Below w.heap.size w w' := by
  refine (asPrices_any A cv [[1000000]] w (by unfold maxLen; simp) h).mono ?_
  rintro e w' ⟨B, c, rfl, hI, hb⟩
  obtain ⟨f2, -, -, f1, -⟩ := nm_one
  rw [f1] at hI ⊢
  rw [f2]
  exact ⟨B, c, rfl, hI, hb⟩
theorem nharm (A : Option Addr) (cv : Nat) (w : World) (h : IsM w A [[1000000]]) : Calls Try.prog 16 #[.slice A 1 cv] w fun e w' => ∃ B c, e = .returned (.tuple #[.slice B 1 c, .int .i64 0]) ∧ IsI w' B [0] ∧ Below w.heap.size w w' := by
  refine (asHarm_any A cv [[1000000]] w (by unfold maxLen; simp) h).mono ?_
  rintro e w' ⟨B, c, rfl, hI, hb⟩
  obtain ⟨f2, -, -, -, f1⟩ := nm_one
  rw [f1] at hI ⊢
  rw [f2]
  exact ⟨B, c, rfl, hI, hb⟩
theorem np1 (A : Option Addr) (cv : Nat) (B : Option Addr) (ca : Nat) (C : Option Addr) (cp : Nat) (w : World) (h : IsM w A [[5, 3], [4, 1]]) (hB : IsI w B [1, 0]) (hC : IsI w C [0]) : Calls Try.prog 24 #[.slice A 2 cv, .slice B 2 ca, .slice C 1 cp] w fun e w' => e = .returned (.tuple #[.bool false, .int .i64 8]) ∧ Below w.heap.size w w' := by
  refine (asProves_any A cv [[5, 3], [4, 1]] B ca [1, 0] C cp [0] w two_le h two_le hB (by unfold maxLen; simp) hC).mono ?_
  rintro e w' ⟨rfl, hb⟩
  rw [nm_prv.1]
  exact ⟨rfl, hb⟩
theorem np2 (A : Option Addr) (cv : Nat) (B : Option Addr) (ca : Nat) (C : Option Addr) (cp : Nat) (w : World) (h : IsM w A [[5, 3], [4, 1]]) (hB : IsI w B [1, 0]) (hC : IsI w C [0, -1]) : Calls Try.prog 24 #[.slice A 2 cv, .slice B 2 ca, .slice C 2 cp] w fun e w' => e = .returned (.tuple #[.bool false, .int .i64 8]) ∧ Below w.heap.size w w' := by
  refine (asProves_any A cv [[5, 3], [4, 1]] B ca [1, 0] C cp [0, -1] w two_le h two_le hB (by unfold maxLen; simp) hC).mono ?_
  rintro e w' ⟨rfl, hb⟩
  rw [nm_prv.2.1]
  exact ⟨rfl, hb⟩
theorem np3 (A : Option Addr) (cv : Nat) (B : Option Addr) (ca : Nat) (C : Option Addr) (cp : Nat) (w : World) (h : IsM w A [[5, 3], [4, 1]]) (hB : IsI w B [1, 0]) (hC : IsI w C [10000001, 0]) : Calls Try.prog 24 #[.slice A 2 cv, .slice B 2 ca, .slice C 2 cp] w fun e w' => e = .returned (.tuple #[.bool false, .int .i64 8]) ∧ Below w.heap.size w w' := by
  refine (asProves_any A cv [[5, 3], [4, 1]] B ca [1, 0] C cp [10000001, 0] w two_le h two_le hB (by unfold maxLen; simp) hC).mono ?_
  rintro e w' ⟨rfl, hb⟩
  rw [nm_prv.2.2.1]
  exact ⟨rfl, hb⟩
theorem nval (A : Option Addr) (cv : Nat) (B : Option Addr) (ca : Nat) (w : World) (h : IsM w A [[5, 3], [4, 1]]) (hB : IsI w B [0, 1]) : Calls Try.prog 22 #[.slice A 2 cv, .slice B 2 ca] w fun e w' => e = .returned (.tuple #[.int .i64 6, .int .i64 0]) ∧ Below w.heap.size w w' := by
  refine (asValue_any A cv [[5, 3], [4, 1]] B ca [0, 1] w two_le h two_le hB).mono ?_
  rintro e w' ⟨rfl, hb⟩
  rw [nm_prv.2.2.2]
  exact ⟨rfl, hb⟩
theorem nsame {n : Nat} (l : List Int) (hn : l.length = n) (A : Option Addr) (ca : Nat) (B : Option Addr) (cb : Nat) (w : World) (hl : n ≤ maxLen) (hA : IsI w A l) (hB : IsI w B l) : Calls Try.prog 20 #[.slice A n ca, .slice B n cb] w fun e w' => e = .returned (.bool true) ∧ Below w.heap.size w w' := by
  subst hn; exact same_eq A ca B cb l w hl hA hB
theorem isI_lit1 {w : World} (a : Int) {p : Nat} (ha : I64 a) (x0 : w.cell? ⟨p, 0, none⟩ = some (.int .i64 a)) : IsI w (some ⟨p, 0, none⟩) [a] := by
  refine ⟨fun _ => ⟨p, 0, rfl, fun i hi => ?_⟩, fun z hz => ?_⟩
  · match i, hi with
    | 0, _ => exact x0
  · rcases List.mem_cons.1 hz with rfl | hz
    · exact ha
    · cases hz
end Go.Proofs.Ytkibglbccfjkpaa
