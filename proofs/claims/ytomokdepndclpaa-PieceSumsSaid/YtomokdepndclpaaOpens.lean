/- Slices of spans, as arguments that are opened. -/
import Derived.Test.YtomokdepndclpaaOpen
import Derived.Test.YtomokdepndclpaaQa
namespace Go.Proofs.Ytomokdepndclpaa
open Go.ChangeShapes Go.WideShapes Go.ChangeAt Go.RowKit Go.Joins Go.Deep
section
variable {H : Type} {enc : TypeId × Value → H} {P : Program} {w : World} {base : Nat} {spare : Nat → Bool} {held : Bool}
/-- A struct of two numbers, out of a list of cells. -/
theorem trod_two {t u : TypeId} {f0 f1 : Field} {n : Nat} {cs : List Value} {y : DataW H × List MemPlace} (he : P.underlying t = some (.struct #[f0, f1])) (h0 : f0.type = u ∧ f0.offset = 0) (h1 : f1.type = u ∧ f1.offset = 1)
    (hu : P.underlying u = some (.int .i64)) (hc : P.cellsOf u = 1) (hC : P.cellsOf t = 2) (h : DataW.trod enc P w base spare held n t cs = some y) : ∃ a b, cs = [.int .i64 a, .int .i64 b] ∧ I64 a ∧ I64 b := by
  obtain ⟨ys, n', _, _, hl, hyl, hf⟩ := DataW.trod_struct he h
  rw [hC] at hl
  have g0 := hf 0 f0 rfl
  have g1 := hf 1 f1 rfl
  rw [h0.1, h0.2, hc] at g0
  rw [h1.1, h1.2, hc] at g1
  match cs, hl with
  | [c0, c1], _ =>
    have hyl' : ys.length = 2 := hyl
    rw [List.getElem?_eq_getElem (show 0 < ys.length by omega)] at g0
    rw [List.getElem?_eq_getElem (show 1 < ys.length by omega)] at g1
    obtain ⟨a, ea, _, wa⟩ := DataW.trod_int hu g0
    obtain ⟨b, eb, _, wb⟩ := DataW.trod_int hu g1
    simp at ea eb
    subst ea eb
    exact ⟨a, b, rfl, wf_i64 wa, wf_i64 wb⟩
theorem open_quads {t e r u : TypeId} {f0 f1 g0 g1 : Field} {fuel : Nat} {cs : List Value} {x : DataW H × List MemPlace} (ht : P.underlying t = some (.slice e)) (he : P.underlying e = some (.struct #[f0, f1])) (hr : P.underlying r = some (.struct #[g0, g1]))
    (hC : P.cellsOf e = 4) (hCr : P.cellsOf r = 2) (h0 : f0.type = r ∧ f0.offset = 0) (h1 : f1.type = r ∧ f1.offset = 2) (k0 : g0.type = u ∧ g0.offset = 0) (k1 : g1.type = u ∧ g1.offset = 1) (hu : P.underlying u = some (.int .i64)) (hcu : P.cellsOf u = 1)
    (h : DataW.trod enc P w base spare held fuel t cs = some x) : ∃ A len cap xs, cs = [.slice A len cap] ∧ xs.length = len ∧ len ≤ cap ∧ cap ≤ maxLen ∧ IsS w A xs := by
  rcases open_slice ht h with ⟨rfl, _⟩ | ⟨a, len, cap, m, n, D, Pl, rfl, hb, hl, hm, hmm, hx, hi⟩
  · exact ⟨none, 0, 0, [], rfl, rfl, Nat.le_refl _, by unfold maxLen; omega, fun h => absurd h (by simp), by simp, by simp⟩
  · have hml : len ≤ m := by rw [hmm]; split <;> omega
    have key : ∀ i, i < len → ∃ p : Raw, Pc.Raw64 p ∧ w.cell? (a.add (i * 4)) = some (.int .i64 p.a) ∧ w.cell? (a.add (i * 4 + 1)) = some (.int .i64 p.b) ∧ w.cell? (a.add (i * 4 + 2)) = some (.int .i64 p.c) ∧ w.cell? (a.add (i * 4 + 3)) = some (.int .i64 p.d) := by
      intro i hlt
      obtain ⟨cs', hc, ht'⟩ := hi i (by omega)
      rw [hC] at hc
      obtain ⟨ys, n', _, _, hl4, hyl, hf⟩ := DataW.trod_struct he ht'
      obtain ⟨_, hcl, hat⟩ := World.cells?_some hc
      have t0 := hf 0 f0 rfl
      have t1 := hf 1 f1 rfl
      rw [h0.1, h0.2, hCr] at t0
      rw [h1.1, h1.2, hCr] at t1
      have hyl' : ys.length = 2 := hyl
      rw [List.getElem?_eq_getElem (show 0 < ys.length by omega)] at t0
      rw [List.getElem?_eq_getElem (show 1 < ys.length by omega)] at t1
      obtain ⟨p, q, e0, w0, w1⟩ := trod_two hr k0 k1 hu hcu hCr t0
      obtain ⟨p', q', e1, w2, w3⟩ := trod_two hr k0 k1 hu hcu hCr t1
      match cs', hcl with
      | [c0, c1, c2, c3], _ =>
        simp at e0 e1
        obtain ⟨rfl, rfl⟩ := e0
        obtain ⟨rfl, rfl⟩ := e1
        have a0 := hat 0 (by omega)
        have a1 := hat 1 (by omega)
        have a2 := hat 2 (by omega)
        have a3 := hat 3 (by omega)
        rw [Go.Deep.add_add] at a0 a1 a2 a3
        exact ⟨⟨p, q, p', q'⟩, ⟨⟨w0, w1⟩, w2, w3⟩, a0, a1, a2, a3⟩
    obtain ⟨f, hf⟩ := choose_lt key
    have hat : ∀ i, i < len → Pc.at_ ((List.range len).map f) i = f i := fun i hlt => by rw [Pc.at_lt (by simpa using hlt)]; simp
    refine ⟨some a, len, cap, (List.range len).map f, rfl, by simp, hl, hm, fun hpos => ?_, ?_, by simp; omega⟩
    · simp only [List.length_map, List.length_range] at hpos
      obtain ⟨b, off, spot⟩ := a
      have hspot : spot = none := by simpa [Addr.add] using World.cell?_spot (hf 0 hpos).2.1
      subst hspot
      refine ⟨b, off, rfl, fun i hlt => ?_⟩
      simp only [List.length_map, List.length_range] at hlt
      have := (hf i hlt).2
      rw [Addr.add_lit, Addr.add_lit, Addr.add_lit, Addr.add_lit] at this
      rw [hat i hlt, Nat.add_assoc, Nat.add_assoc, Nat.add_assoc]
      exact this
    · intro p hp
      obtain ⟨i, hi', rfl⟩ := List.mem_map.1 hp
      exact (hf i (by simpa using hi')).1
end
section
variable {H : Type} {enc : TypeId × Value → H} {w : World} {base : Nat} {spare : Nat → Bool} {held : Bool}
set_option maxRecDepth 100000 in
theorem open_spans {r : Reach} {b0 : Nat} {v : Value} {d : DataW H} {p : List MemPlace} (hv : Value.okWide Try.prog w r b0 53 v) (h : DataW.Trod enc Try.prog w base spare held 53 v d p) :
    ∃ A cap xs, v = .slice A xs.length cap ∧ xs.length ≤ maxLen ∧ IsS w A xs := by
  obtain ⟨a, len, cap, rfl⟩ := okWide_slice Try.underlying53 hv
  obtain ⟨fuel, hf⟩ := h
  obtain ⟨A, len', cap', xs, hcs, hl, h1, h2, hx⟩ := open_quads Try.underlying53 Try.underlying51 Try.underlying30 (by kernel_rfl) cellsRatio ⟨rfl, rfl⟩ ⟨rfl, rfl⟩ ⟨rfl, rfl⟩ ⟨rfl, rfl⟩ Try.underlying2 (by kernel_rfl) hf
  simp [Value.cells] at hcs
  obtain ⟨rfl, rfl, rfl⟩ := hcs
  subst hl
  exact ⟨a, cap, xs, rfl, by omega, hx⟩
end
end Go.Proofs.Ytomokdepndclpaa
