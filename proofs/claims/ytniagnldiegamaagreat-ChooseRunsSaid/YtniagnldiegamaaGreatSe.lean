/- A struct of two numbers, out of a list of cells. Slices of cakes and of queries, as arguments that are opened. -/
import Derived.Test.YtniagnldiegamaaGreatGb
import Derived.Test.YtniagnldiegamaaGreatAskm
namespace Go.Proofs.YtniagnldiegamaaGreat
open Go.ChangeShapes Go.WideShapes Go.ChangeAt Go.RowKit Go.Joins Go.Deep
section
variable {H : Type} {enc : TypeId × Value → H} {P : Program} {w : World} {base : Nat} {spare : Nat → Bool} {held : Bool}
end
end Go.Proofs.YtniagnldiegamaaGreat
namespace Go.Proofs.YtniagnldiegamaaGreat
open Go.ChangeShapes Go.WideShapes Go.ChangeAt Go.RowKit Go.Joins Go.Deep
section
variable {H : Type} {enc : TypeId × Value → H} {P : Program} {w : World} {base : Nat} {spare : Nat → Bool} {held : Bool}
theorem open_cakes_any {t e s u : TypeId} {f0 f1 f2 : Field} {fuel : Nat} {cs : List Value} {x : DataW H × List MemPlace} (ht : P.underlying t = some (.slice e)) (he : P.underlying e = some (.struct #[f0, f1, f2]))
    (hone : oneCellFields P #[f0, f1, f2] = true) (hC : P.cellsOf e = 3) (h0 : f0.type = u) (h1 : f1.type = s) (h2 : f2.type = s) (hs : P.underlying s = some (.slice u)) (hu : P.underlying u = some (.int .i64)) (hcu : P.cellsOf u = 1)
    (h : DataW.trod enc P w base spare held fuel t cs = some x) : ∃ A len cap xs, cs = [.slice A len cap] ∧ xs.length = len ∧ len ≤ cap ∧ cap ≤ maxLen ∧ IsCs w A xs := by
  rcases open_slice_fields ht he hone hC h with ⟨rfl, _⟩ | ⟨a, len, cap, m, D, Pl, rfl, hb, hl, hm, hmm, hx, hi⟩
  · exact ⟨none, 0, 0, [], rfl, rfl, Nat.le_refl _, by unfold maxLen; omega, isC_nil w none⟩
  · have hml : len ≤ m := by rw [hmm]; split <;> omega
    have key : ∀ i, i < len → ∃ c : CkR, IsC w c ∧ w.cell? (a.add (i * 3)) = some (.int .i64 c.len) ∧ w.cell? (a.add (i * 3 + 1)) = some (.slice c.K c.cuts.length c.ck) ∧ w.cell? (a.add (i * 3 + 2)) = some (.slice c.Z c.dens.length c.cz) := by
      intro i hlt; obtain ⟨ys, n, _, _, _, hf⟩ := hi i (by omega); obtain ⟨v0, y0, c0, _, t0⟩ := hf 0 f0 rfl; obtain ⟨v1, y1, c1, _, t1⟩ := hf 1 f1 rfl; obtain ⟨v2, y2, c2, _, t2⟩ := hf 2 f2 rfl; rw [h0] at t0; rw [h1] at t1; rw [h2] at t2; obtain ⟨n0, e0, _, w0⟩ := DataW.trod_int hu t0; obtain ⟨K, ck, cuts, e1, l1, i1⟩ := open_ints_any hs hu hcu t1; obtain ⟨Z, cz, dens, e2, l2, i2⟩ := open_ints_any hs hu hcu t2
      simp only [List.cons.injEq, and_true] at e0 e1 e2
      subst e0 e1 e2; exact ⟨⟨n0, K, cuts, ck, Z, dens, cz⟩, ⟨wf_i64 w0, ⟨l1, l2⟩, i1, i2⟩, c0, c1, c2⟩
    obtain ⟨f, hf⟩ := choose_lt key
    have hat : ∀ i, i < len → Ak.cat ((List.range len).map f) i = f i := fun i hlt => by rw [Ak.cat_lt (by simpa using hlt)]; simp
    refine ⟨some a, len, cap, (List.range len).map f, rfl, by simp, hl, hm, ⟨fun hpos => ?_, ?_, by simp; omega⟩⟩
    · simp only [List.length_map, List.length_range] at hpos
      obtain ⟨b, off, spot⟩ := a
      have hspot : spot = none := by simpa [Addr.add] using World.cell?_spot (hf 0 hpos).2.1
      subst hspot; refine ⟨b, off, rfl, fun i hlt => ?_⟩
      simp only [List.length_map, List.length_range] at hlt
      have := (hf i hlt).2; rw [Addr.add_lit, Addr.add_lit, Addr.add_lit] at this; rw [hat i hlt, Nat.add_assoc, Nat.add_assoc]; exact this
    · intro p hp
      obtain ⟨i, hi', rfl⟩ := List.mem_map.1 hp; exact (hf i (by simpa using hi')).1
end
section
variable {H : Type} {enc : TypeId × Value → H} {w : World} {base : Nat} {spare : Nat → Bool} {held : Bool}
set_option maxRecDepth 100000 in
theorem open_cakes {r : Reach} {b0 : Nat} {v : Value} {d : DataW H} {p : List MemPlace} (hv : Value.okWide Tryz.prog w r b0 22 v) (h : DataW.Trod enc Tryz.prog w base spare held 22 v d p) :
    ∃ A cap xs, v = .slice A xs.length cap ∧ IsCs w A xs := by
  obtain ⟨a, len, cap, rfl⟩ := okWide_slice Tryz.underlying22 hv; obtain ⟨fuel, hf⟩ := h; obtain ⟨A, len', cap', xs, hcs, hl, h1, h2, hx⟩ := open_cakes_any Tryz.underlying22 Tryz.underlying67 (by kernel_rfl) cellsCake rfl rfl rfl Tryz.underlying59 Tryz.underlying3 cellsInt hf
  simp [Value.cells] at hcs
  obtain ⟨rfl, rfl, rfl⟩ := hcs; subst hl; exact ⟨a, cap, xs, rfl, hx⟩
end
end Go.Proofs.YtniagnldiegamaaGreat

