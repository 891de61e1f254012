/- Flats and leases, as arguments that are opened. -/
import Derived.Test.YtncmffhoodfhjaaYd
namespace Go.Proofs.Ytncmffhoodfhjaa
open Go.ChangeShapes Go.WideShapes Go.ChangeAt Go.RowKit Go.Joins Go.Deep
section
variable {H : Type} {enc : TypeId × Value → H} {w : World} {base : Nat} {spare : Nat → Bool} {held : Bool}
theorem cellsRooms : Try.prog.cellsOf 24 = 2 := by kernel_rfl
theorem cellsLease : Try.prog.cellsOf 27 = 3 := by kernel_rfl
set_option maxRecDepth 100000 in
theorem open_rooms {r : Reach} {b0 : Nat} {v : Value} {d : DataW H} {p : List MemPlace} (hv : Value.okWide Try.prog w r b0 24 v) (h : DataW.Trod enc Try.prog w base spare held 24 v d p) :
    ∃ A cap V R, v = .agg #[.slice A (V : List (List Int)).length cap, .int .i64 R] ∧ V.length ≤ maxLen ∧ IsM w A V ∧ I64 R := by
  obtain ⟨c0, c1, y0, y1, k, rfl, rfl, rfl, hy0, hy1⟩ := open_agg2 Try.underlying24 (by kernel_rfl) cellsRooms hv h
  obtain ⟨A, cap, V, e0, hm, hI⟩ := open_rows_any Try.underlying22 Try.underlying25 Try.underlying3 cellsInts cellsInt hy0
  obtain ⟨R, e1, _, wR⟩ := DataW.trod_int Try.underlying3 hy1
  simp only [List.cons.injEq, and_true] at e0 e1
  subst e0 e1
  exact ⟨A, cap, V, R, rfl, hm, hI, wf_i64 wR⟩
set_option maxRecDepth 100000 in
theorem open_lease {r : Reach} {b0 : Nat} {v : Value} {d : DataW H} {p : List MemPlace} (hv : Value.okWide Try.prog w r b0 27 v) (h : DataW.Trod enc Try.prog w base spare held 27 v d p) :
    ∃ A ca xs B cb ps D, v = .agg #[.slice A (xs : List Int).length ca, .slice B (ps : List Int).length cb, .int .i64 D] ∧ xs.length ≤ maxLen ∧ IsI w A xs ∧ ps.length ≤ maxLen ∧ IsI w B ps ∧ I64 D := by
  obtain ⟨c0, c1, c2, y0, y1, y2, k, rfl, rfl, rfl, hy0, hy1, hy2⟩ := open_agg3 Try.underlying27 (by kernel_rfl) cellsLease hv h
  obtain ⟨A, ca, xs, e0, hm0, hI0⟩ := open_ints_any Try.underlying25 Try.underlying3 cellsInt hy0
  obtain ⟨B, cb, ps, e1, hm1, hI1⟩ := open_ints_any Try.underlying25 Try.underlying3 cellsInt hy1
  obtain ⟨D, e2, _, wD⟩ := DataW.trod_int Try.underlying3 hy2
  simp only [List.cons.injEq, and_true] at e0 e1 e2
  subst e0 e1 e2
  exact ⟨A, ca, xs, B, cb, ps, D, rfl, hm0, hI0, hm1, hI1, wf_i64 wD⟩
end
end Go.Proofs.Ytncmffhoodfhjaa
