/- A struct of two numbers, out of a list of cells. Slices of cakes and of queries, as arguments that are opened. -/
import Derived.Test.YtniagnldiegamaaGreatGb
import Derived.Test.YtniagnldiegamaaGreatAskm
namespace Go.Proofs.YtniagnldiegamaaGreat
open Go.ChangeShapes Go.WideShapes Go.ChangeAt Go.RowKit Go.Joins Go.Deep
section
variable {H : Type} {enc : TypeId × Value → H} {P : Program} {w : World} {base : Nat} {spare : Nat → Bool} {held : Bool}
/-- A struct of two numbers, out of a list of cells. -/
theorem trod_two {t u : TypeId} {f0 f1 : Field} {n : Nat} {cs : List Value} {y : DataW H × List MemPlace} (he : P.underlying t = some (.struct #[f0, f1])) (h0 : f0.type = u ∧ f0.offset = 0) (h1 : f1.type = u ∧ f1.offset = 1)
    (hu : P.underlying u = some (.int .i64)) (hc : P.cellsOf u = 1) (hC : P.cellsOf t = 2) (h : DataW.trod enc P w base spare held n t cs = some y) : ∃ a b, cs = [.int .i64 a, .int .i64 b] ∧ I64 a ∧ I64 b := by
  obtain ⟨ys, n', _, _, hl, hyl, hf⟩ := DataW.trod_struct he h; rw [hC] at hl; have g0 := hf 0 f0 rfl; have g1 := hf 1 f1 rfl; rw [h0.1, h0.2, hc] at g0; rw [h1.1, h1.2, hc] at g1
  match cs, hl with
  | [c0, c1], _ =>
    have hyl' : ys.length = 2 := hyl; rw [List.getElem?_eq_getElem (show 0 < ys.length by omega)] at g0; rw [List.getElem?_eq_getElem (show 1 < ys.length by omega)] at g1; obtain ⟨a, ea, _, wa⟩ := DataW.trod_int hu g0; obtain ⟨b, eb, _, wb⟩ := DataW.trod_int hu g1
    simp at ea eb
    subst ea eb; exact ⟨a, b, rfl, wf_i64 wa, wf_i64 wb⟩
end
end Go.Proofs.YtniagnldiegamaaGreat
namespace Go.Proofs.YtniagnldiegamaaGreat
open Go.ChangeShapes Go.WideShapes Go.ChangeAt Go.RowKit Go.Joins Go.Deep
theorem wf_u8 {a : Int} (h : (Lit.int .u8 a).wf = true) : 0 ≤ a ∧ a ≤ 255 := by
  simp [Lit.wf, IntKind.min, IntKind.max, IntKind.signed, IntKind.bits] at h
  omega
section
variable {H : Type} {enc : TypeId × Value → H} {P : Program} {w : World} {base : Nat} {spare : Nat → Bool} {held : Bool}
theorem open_cakes_any {t e s u : TypeId} {f0 f1 f2 : Field} {fuel : Nat} {cs : List Value} {x : DataW H × List MemPlace} (ht : P.underlying t = some (.slice e)) (he : P.underlying e = some (.struct #[f0, f1, f2]))
    (hone : oneCellFields P #[f0, f1, f2] = true) (hC : P.cellsOf e = 3) (h0 : f0.type = u) (h1 : f1.type = s) (h2 : f2.type = s) (hs : P.underlying s = some (.slice u)) (hu : P.underlying u = some (.int .i64)) (hcu : P.cellsOf u = 1)
    (h : DataW.trod enc P w base spare held fuel t cs = some x) : ∃ A len cap xs, cs = [.slice A len cap] ∧ xs.length = len ∧ len ≤ cap ∧ cap ≤ maxLen ∧ IsCs w A xs := by
  rcases open_slice_fields ht he hone hC h with ⟨rfl, _⟩ | ⟨a, len, cap, m, D, Pl, rfl, hb, hl, hm, hmm, hx, hi⟩
  · exact ⟨none, 0, 0, [], rfl, rfl, Nat.le_refl _, by unfold maxLen; omega, isC_nil w none⟩
  · have hml : len ≤ m := by rw [hmm]; split <;> omega
    have key : ∀ i, i < len → ∃ c : CkR, IsC w c ∧ w.cell? (a.add (i * 3)) = some (.int .i64 c.len) ∧ w.cell? (a.add (i * 3 + 1)) = some (.slice c.K c.cuts.length c.ck) ∧ w.cell? (a.add (i * 3 + 2)) = some (.slice c.Z c.dens.length c.cz) := by
      intro i hlt; obtain ⟨ys, n, _, _, _, hf⟩ := hi i (by omega); obtain ⟨v0, y0, c0, _, t0⟩ := hf 0 f0 rfl; obtain ⟨v1, y1, c1, _, t1⟩ := hf 1 f1 rfl; obtain ⟨v2, y2, c2, _, t2⟩ := hf 2 f2 rfl; rw [h0] at t0; rw [h1] at t1; rw [h2] at t2; obtain ⟨n0, e0, _, w0⟩ := DataW.trod_int hu t0; obtain ⟨K, ck, cuts, e1, l1, i1⟩ := open_ints_any hs hu hcu t1; obtain ⟨Z, cz, dens, e2, l2, i2⟩ := open_ints_any hs hu hcu t2
      simp only [List.cons.injEq, and_true] at e0 e1 e2
      subst e0 e1 e2; exact ⟨⟨n0, K, cuts, ck, Z, dens, cz⟩, ⟨wf_i64 w0, ⟨l1, l2⟩, i1, i2⟩, c0, c1, c2⟩
    obtain ⟨f, hf⟩ := choose_lt key
    have hat : ∀ i, i < len → Ak.cat ((List.range len).map f) i = f i := fun i hlt => by rw [Ak.cat_lt (by simpa using hlt)]; simp
    refine ⟨some a, len, cap, (List.range len).map f, rfl, by simp, hl, hm, ⟨fun hpos => ?_, ?_, by simp; omega⟩⟩
    · simp only [List.length_map, List.length_range] at hpos
      obtain ⟨b, off, spot⟩ := a
      have hspot : spot = none := by simpa [Addr.add] using World.cell?_spot (hf 0 hpos).2.1
      subst hspot; refine ⟨b, off, rfl, fun i hlt => ?_⟩
      simp only [List.length_map, List.length_range] at hlt
      have := (hf i hlt).2; rw [Addr.add_lit, Addr.add_lit, Addr.add_lit] at this; rw [hat i hlt, Nat.add_assoc, Nat.add_assoc]; exact this
    · intro p hp
      obtain ⟨i, hi', rfl⟩ := List.mem_map.1 hp; exact (hf i (by simpa using hi')).1
theorem open_queries_any {t e r u k8 i8 : TypeId} {f0 f1 f2 f3 f4 g0 g1 : Field} {fuel : Nat} {cs : List Value} {x : DataW H × List MemPlace} (ht : P.underlying t = some (.slice e)) (he : P.underlying e = some (.struct #[f0, f1, f2, f3, f4])) (hr : P.underlying r = some (.struct #[g0, g1]))
    (hC : P.cellsOf e = 8) (hCr : P.cellsOf r = 2) (h0 : f0.type = i8 ∧ f0.offset = 0) (h1 : f1.type = k8 ∧ f1.offset = 1) (h2 : f2.type = r ∧ f2.offset = 2) (h3 : f3.type = r ∧ f3.offset = 4) (h4 : f4.type = r ∧ f4.offset = 6)
    (k0 : g0.type = u ∧ g0.offset = 0) (k1 : g1.type = u ∧ g1.offset = 1) (hu : P.underlying u = some (.int .i64)) (hcu : P.cellsOf u = 1) (hk8 : P.underlying k8 = some (.int .u8)) (hck : P.cellsOf k8 = 1) (hi8 : P.underlying i8 = some (.int .i64)) (hci : P.cellsOf i8 = 1)
    (h : DataW.trod enc P w base spare held fuel t cs = some x) : ∃ A len cap xs, cs = [.slice A len cap] ∧ xs.length = len ∧ len ≤ cap ∧ cap ≤ maxLen ∧ IsQs w A xs := by
  rcases open_slice ht h with ⟨rfl, _⟩ | ⟨a, len, cap, m, n, D, Pl, rfl, hb, hl, hm, hmm, hx, hi⟩
  · exact ⟨none, 0, 0, [], rfl, rfl, Nat.le_refl _, by unfold maxLen; omega, isQs_nil w none⟩
  · have hml : len ≤ m := by rw [hmm]; split <;> omega
    have key : ∀ i, i < len → ∃ q : Qr, Ak.Q64 q ∧ Ak.Q8 (fun j => w.cell? (a.add (i * 8 + j))) q := by
      intro i hlt; obtain ⟨cs', hc, ht'⟩ := hi i (by omega); rw [hC] at hc; obtain ⟨ys, n', _, _, hl8, hyl, hf⟩ := DataW.trod_struct he ht'; obtain ⟨_, hcl, hat⟩ := World.cells?_some hc; have t0 := hf 0 f0 rfl; have t1 := hf 1 f1 rfl; have t2 := hf 2 f2 rfl; have t3 := hf 3 f3 rfl; have t4 := hf 4 f4 rfl; rw [h0.1, h0.2, hci] at t0; rw [h1.1, h1.2, hck] at t1; rw [h2.1, h2.2, hCr] at t2; rw [h3.1, h3.2, hCr] at t3; rw [h4.1, h4.2, hCr] at t4; have hyl' : ys.length = 5 := hyl; rw [List.getElem?_eq_getElem (show 0 < ys.length by omega)] at t0; rw [List.getElem?_eq_getElem (show 1 < ys.length by omega)] at t1; rw [List.getElem?_eq_getElem (show 2 < ys.length by omega)] at t2; rw [List.getElem?_eq_getElem (show 3 < ys.length by omega)] at t3; rw [List.getElem?_eq_getElem (show 4 < ys.length by omega)] at t4; obtain ⟨ag, e0, _, w0⟩ := DataW.trod_int hi8 t0; obtain ⟨kd, e1, _, w1⟩ := DataW.trod_int hk8 t1; obtain ⟨p2, q2, e2, x2, z2⟩ := trod_two hr k0 k1 hu hcu hCr t2; obtain ⟨p3, q3, e3, x3, z3⟩ := trod_two hr k0 k1 hu hcu hCr t3; obtain ⟨p4, q4, e4, x4, z4⟩ := trod_two hr k0 k1 hu hcu hCr t4
      match cs', hcl with
      | [d0, d1, d2, d3, d4, d5, d6, d7], _ =>
        simp at e0 e1 e2 e3 e4
        subst e0 e1; obtain ⟨rfl, rfl⟩ := e2; obtain ⟨rfl, rfl⟩ := e3; obtain ⟨rfl, rfl⟩ := e4; have a0 := hat 0 (by omega); have a1 := hat 1 (by omega); have a2 := hat 2 (by omega); have a3 := hat 3 (by omega); have a4 := hat 4 (by omega); have a5 := hat 5 (by omega); have a6 := hat 6 (by omega); have a7 := hat 7 (by omega); rw [Go.Deep.add_add] at a0 a1 a2 a3 a4 a5 a6 a7; exact ⟨⟨ag, kd, p2, q2, p3, q3, p4, q4⟩, ⟨wf_i64 w0, wf_u8 w1, x2, z2, x3, z3, x4, z4⟩, a0, a1, a2, a3, a4, a5, a6, a7⟩
    obtain ⟨f, hf⟩ := choose_lt key
    have hat : ∀ i, i < len → Ak.qat ((List.range len).map f) i = f i := fun i hlt => by rw [Ak.qat_lt (by simpa using hlt)]; simp
    refine ⟨some a, len, cap, (List.range len).map f, rfl, by simp, hl, hm, ⟨fun hpos => ?_, ?_, by simp; omega⟩⟩
    · simp only [List.length_map, List.length_range] at hpos
      obtain ⟨b, off, spot⟩ := a
      have hspot : spot = none := by simpa [Addr.add] using World.cell?_spot (hf 0 hpos).2.1
      subst hspot; refine ⟨b, off, rfl, fun i hlt => ?_⟩
      simp only [List.length_map, List.length_range] at hlt
      have := (hf i hlt).2
      simp only [Addr.add_lit] at this
      rw [hat i hlt]
      simp only [Nat.add_assoc]
      exact this
    · intro p hp
      obtain ⟨i, hi', rfl⟩ := List.mem_map.1 hp; exact (hf i (by simpa using hi')).1
end
section
variable {H : Type} {enc : TypeId × Value → H} {w : World} {base : Nat} {spare : Nat → Bool} {held : Bool}
set_option maxRecDepth 100000 in
theorem open_cakes {r : Reach} {b0 : Nat} {v : Value} {d : DataW H} {p : List MemPlace} (hv : Value.okWide Tryz.prog w r b0 22 v) (h : DataW.Trod enc Tryz.prog w base spare held 22 v d p) :
    ∃ A cap xs, v = .slice A xs.length cap ∧ IsCs w A xs := by
  obtain ⟨a, len, cap, rfl⟩ := okWide_slice Tryz.underlying22 hv; obtain ⟨fuel, hf⟩ := h; obtain ⟨A, len', cap', xs, hcs, hl, h1, h2, hx⟩ := open_cakes_any Tryz.underlying22 Tryz.underlying67 (by kernel_rfl) cellsCake rfl rfl rfl Tryz.underlying59 Tryz.underlying3 cellsInt hf
  simp [Value.cells] at hcs
  obtain ⟨rfl, rfl, rfl⟩ := hcs; subst hl; exact ⟨a, cap, xs, rfl, hx⟩
set_option maxRecDepth 100000 in
theorem open_queries {r : Reach} {b0 : Nat} {v : Value} {d : DataW H} {p : List MemPlace} (hv : Value.okWide Tryz.prog w r b0 24 v) (h : DataW.Trod enc Tryz.prog w base spare held 24 v d p) :
    ∃ A cap xs, v = .slice A xs.length cap ∧ IsQs w A xs := by
  obtain ⟨a, len, cap, rfl⟩ := okWide_slice Tryz.underlying24 hv; obtain ⟨fuel, hf⟩ := h; obtain ⟨A, len', cap', xs, hcs, hl, h1, h2, hx⟩ := open_queries_any Tryz.underlying24 Tryz.underlying76 Tryz.underlying28 (by kernel_rfl) cellsRatio ⟨rfl, rfl⟩ ⟨rfl, rfl⟩ ⟨rfl, rfl⟩ ⟨rfl, rfl⟩ ⟨rfl, rfl⟩ ⟨rfl, rfl⟩ ⟨rfl, rfl⟩ Tryz.underlying2 (by kernel_rfl) Tryz.underlying5 (by kernel_rfl) Tryz.underlying3 cellsInt hf
  simp [Value.cells] at hcs
  obtain ⟨rfl, rfl, rfl⟩ := hcs; subst hl; exact ⟨a, cap, xs, rfl, hx⟩
end
end Go.Proofs.YtniagnldiegamaaGreat

