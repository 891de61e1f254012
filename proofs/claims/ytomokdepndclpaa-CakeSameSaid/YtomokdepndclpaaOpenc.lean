/- A cake that came in, with the capacities of its slices. -/
import Derived.Test.YtomokdepndclpaaCk
namespace Go.Proofs.Ytomokdepndclpaa
open Go.ChangeShapes Go.WideShapes Go.ChangeAt Go.RowKit Go.Joins Go.Deep
section
variable {H : Type} {enc : TypeId × Value → H} {P : Program} {w : World} {base : Nat} {spare : Nat → Bool} {held : Bool}
theorem open_ints_cap {t e : TypeId} {fuel : Nat} {cs : List Value} {x : DataW H × List MemPlace} (ht : P.underlying t = some (.slice e)) (he : P.underlying e = some (.int .i64)) (hc : P.cellsOf e = 1)
    (h : DataW.trod enc P w base spare held fuel t cs = some x) : ∃ A cap zs, cs = [.slice A zs.length cap] ∧ zs.length ≤ maxLen ∧ zs.length ≤ cap ∧ IsI w A zs := by
  obtain ⟨A, cap, zs, rfl, hm, hI⟩ := open_ints_any ht he hc h
  refine ⟨A, cap, zs, rfl, hm, ?_, hI⟩
  rcases open_ints ht he hc h with ⟨e, _⟩ | ⟨a, len, cap', zs', e, hb, hl, _⟩
  · simp only [List.cons.injEq, Value.slice.injEq, and_true] at e
    omega
  · simp only [List.cons.injEq, Value.slice.injEq, and_true] at e
    omega
end
section
variable {H : Type} {enc : TypeId × Value → H} {w : World} {base : Nat} {spare : Nat → Bool} {held : Bool}
set_option maxRecDepth 100000 in
theorem open_cake2 {r : Reach} {b0 : Nat} {v : Value} {d : DataW H} {p : List MemPlace} (hv : Value.okWide Try.prog w r b0 27 v) (h : DataW.Trod enc Try.prog w base spare held 27 v d p) :
    ∃ len K cuts ck Z dens cz, v = .agg #[.int .i64 len, .slice K cuts.length ck, .slice Z dens.length cz] ∧ IsCake w len K cuts Z dens ∧ cuts.length ≤ ck ∧ dens.length ≤ cz := by
  obtain ⟨c0, c1, c2, y0, y1, y2, k, rfl, rfl, rfl, hy0, hy1, hy2⟩ := open_agg3 Try.underlying27 (by kernel_rfl) cellsCake hv h
  obtain ⟨a0, e0, rfl, w0⟩ := DataW.trod_int Try.underlying3 hy0
  obtain ⟨K, ck, cuts, e1, l1, m1, i1⟩ := open_ints_cap Try.underlying25 Try.underlying3 cellsInt hy1
  obtain ⟨Z, cz, dens, e2, l2, m2, i2⟩ := open_ints_cap Try.underlying25 Try.underlying3 cellsInt hy2
  simp only [List.cons.injEq, and_true] at e0 e1 e2
  subst e0 e1 e2
  exact ⟨a0, K, cuts, ck, Z, dens, cz, rfl, ⟨wf_i64 w0, ⟨l1, l2⟩, i1, i2⟩, m1, m2⟩
end
end Go.Proofs.Ytomokdepndclpaa
