/- A struct of two numbers, out of a list of cells. Slices of cakes and of queries, as arguments that are opened. Desks, as arguments that are opened. What the law AskPrivate wants of the answers of a desk. The walk of the law AskPrivate: it answers true. -/
import Derived.Test.YtaaamcleilpnhaaOpen
import Derived.Test.YtaaamcleilpnhaaAskm
import Derived.Test.YtaaamcleilpnhaaSd
import Derived.Test.YtaaamcleilpnhaaAskrc
import Derived.Test.YtaaamcleilpnhaaAskop
import Derived.Test.YtaaamcleilpnhaaAskt
import Derived.Test.YtaaamcleilpnhaaAskalw
namespace Go.Proofs.Ytaaamcleilpnhaa
open Go.ChangeShapes Go.WideShapes Go.ChangeAt Go.RowKit Go.Joins Go.Deep
section
variable {H : Type} {enc : TypeId × Value → H} {P : Program} {w : World} {base : Nat} {spare : Nat → Bool} {held : Bool}
/-- A struct of two numbers, out of a list of cells. -/
theorem trod_two {t u : TypeId} {f0 f1 : Field} {n : Nat} {cs : List Value} {y : DataW H × List MemPlace} (he : P.underlying t = some (.struct #[f0, f1])) (h0 : f0.type = u ∧ f0.offset = 0) (h1 : f1.type = u ∧ f1.offset = 1)
    (hu : P.underlying u = some (.int .i64)) (hc : P.cellsOf u = 1) (hC : P.cellsOf t = 2) (h : DataW.trod enc P w base spare held n t cs = some y) : ∃ a b, cs = [.int .i64 a, .int .i64 b] ∧ I64 a ∧ I64 b := by
  obtain ⟨ys, n', _, _, hl, hyl, hf⟩ := DataW.trod_struct he h
  rw [hC] at hl
  have g0 := hf 0 f0 rfl
  have g1 := hf 1 f1 rfl
  rw [h0.1, h0.2, hc] at g0
  rw [h1.1, h1.2, hc] at g1
  match cs, hl with
  | [c0, c1], _ =>
    have hyl' : ys.length = 2 := hyl
    rw [List.getElem?_eq_getElem (show 0 < ys.length by omega)] at g0
    rw [List.getElem?_eq_getElem (show 1 < ys.length by omega)] at g1
    obtain ⟨a, ea, _, wa⟩ := DataW.trod_int hu g0
    obtain ⟨b, eb, _, wb⟩ := DataW.trod_int hu g1
    simp at ea eb
    subst ea eb
    exact ⟨a, b, rfl, wf_i64 wa, wf_i64 wb⟩
end
end Go.Proofs.Ytaaamcleilpnhaa
namespace Go.Proofs.Ytaaamcleilpnhaa
open Go.ChangeShapes Go.WideShapes Go.ChangeAt Go.RowKit Go.Joins Go.Deep
theorem wf_u8 {a : Int} (h : (Lit.int .u8 a).wf = true) : 0 ≤ a ∧ a ≤ 255 := by
  simp [Lit.wf, IntKind.min, IntKind.max, IntKind.signed, IntKind.bits] at h
  omega
section
variable {H : Type} {enc : TypeId × Value → H} {P : Program} {w : World} {base : Nat} {spare : Nat → Bool} {held : Bool}
theorem open_cakes_any {t e s u : TypeId} {f0 f1 f2 : Field} {fuel : Nat} {cs : List Value} {x : DataW H × List MemPlace} (ht : P.underlying t = some (.slice e)) (he : P.underlying e = some (.struct #[f0, f1, f2]))
    (hone : oneCellFields P #[f0, f1, f2] = true) (hC : P.cellsOf e = 3) (h0 : f0.type = u) (h1 : f1.type = s) (h2 : f2.type = s) (hs : P.underlying s = some (.slice u)) (hu : P.underlying u = some (.int .i64)) (hcu : P.cellsOf u = 1)
    (h : DataW.trod enc P w base spare held fuel t cs = some x) : ∃ A len cap xs, cs = [.slice A len cap] ∧ xs.length = len ∧ len ≤ cap ∧ cap ≤ maxLen ∧ IsCs w A xs := by
  rcases open_slice_fields ht he hone hC h with ⟨rfl, _⟩ | ⟨a, len, cap, m, D, Pl, rfl, hb, hl, hm, hmm, hx, hi⟩
  · exact ⟨none, 0, 0, [], rfl, rfl, Nat.le_refl _, by unfold maxLen; omega, isC_nil w none⟩
  · have hml : len ≤ m := by rw [hmm]; split <;> omega
    have key : ∀ i, i < len → ∃ c : CkR, IsC w c ∧ w.cell? (a.add (i * 3)) = some (.int .i64 c.len) ∧ w.cell? (a.add (i * 3 + 1)) = some (.slice c.K c.cuts.length c.ck) ∧ w.cell? (a.add (i * 3 + 2)) = some (.slice c.Z c.dens.length c.cz) := by
      intro i hlt
      obtain ⟨ys, n, _, _, _, hf⟩ := hi i (by omega)
      obtain ⟨v0, y0, c0, _, t0⟩ := hf 0 f0 rfl
      obtain ⟨v1, y1, c1, _, t1⟩ := hf 1 f1 rfl
      obtain ⟨v2, y2, c2, _, t2⟩ := hf 2 f2 rfl
      rw [h0] at t0
      rw [h1] at t1
      rw [h2] at t2
      obtain ⟨n0, e0, _, w0⟩ := DataW.trod_int hu t0
      obtain ⟨K, ck, cuts, e1, l1, i1⟩ := open_ints_any hs hu hcu t1
      obtain ⟨Z, cz, dens, e2, l2, i2⟩ := open_ints_any hs hu hcu t2
      simp only [List.cons.injEq, and_true] at e0 e1 e2
      subst e0 e1 e2
      exact ⟨⟨n0, K, cuts, ck, Z, dens, cz⟩, ⟨wf_i64 w0, ⟨l1, l2⟩, i1, i2⟩, c0, c1, c2⟩
    obtain ⟨f, hf⟩ := choose_lt key
    have hat : ∀ i, i < len → Ak.cat ((List.range len).map f) i = f i := fun i hlt => by rw [Ak.cat_lt (by simpa using hlt)]; simp
    refine ⟨some a, len, cap, (List.range len).map f, rfl, by simp, hl, hm, ⟨fun hpos => ?_, ?_, by simp; omega⟩⟩
    · simp only [List.length_map, List.length_range] at hpos
      obtain ⟨b, off, spot⟩ := a
      have hspot : spot = none := by simpa [Addr.add] using World.cell?_spot (hf 0 hpos).2.1
      subst hspot
      refine ⟨b, off, rfl, fun i hlt => ?_⟩
      simp only [List.length_map, List.length_range] at hlt
      have := (hf i hlt).2
      rw [Addr.add_lit, Addr.add_lit, Addr.add_lit] at this
      rw [hat i hlt, Nat.add_assoc, Nat.add_assoc]
      exact this
    · intro p hp
      obtain ⟨i, hi', rfl⟩ := List.mem_map.1 hp
      exact (hf i (by simpa using hi')).1
theorem open_queries_any {t e r u k8 i8 : TypeId} {f0 f1 f2 f3 f4 g0 g1 : Field} {fuel : Nat} {cs : List Value} {x : DataW H × List MemPlace} (ht : P.underlying t = some (.slice e)) (he : P.underlying e = some (.struct #[f0, f1, f2, f3, f4])) (hr : P.underlying r = some (.struct #[g0, g1]))
    (hC : P.cellsOf e = 8) (hCr : P.cellsOf r = 2) (h0 : f0.type = i8 ∧ f0.offset = 0) (h1 : f1.type = k8 ∧ f1.offset = 1) (h2 : f2.type = r ∧ f2.offset = 2) (h3 : f3.type = r ∧ f3.offset = 4) (h4 : f4.type = r ∧ f4.offset = 6)
    (k0 : g0.type = u ∧ g0.offset = 0) (k1 : g1.type = u ∧ g1.offset = 1) (hu : P.underlying u = some (.int .i64)) (hcu : P.cellsOf u = 1) (hk8 : P.underlying k8 = some (.int .u8)) (hck : P.cellsOf k8 = 1) (hi8 : P.underlying i8 = some (.int .i64)) (hci : P.cellsOf i8 = 1)
    (h : DataW.trod enc P w base spare held fuel t cs = some x) : ∃ A len cap xs, cs = [.slice A len cap] ∧ xs.length = len ∧ len ≤ cap ∧ cap ≤ maxLen ∧ IsQs w A xs := by
  rcases open_slice ht h with ⟨rfl, _⟩ | ⟨a, len, cap, m, n, D, Pl, rfl, hb, hl, hm, hmm, hx, hi⟩
  · exact ⟨none, 0, 0, [], rfl, rfl, Nat.le_refl _, by unfold maxLen; omega, isQs_nil w none⟩
  · have hml : len ≤ m := by rw [hmm]; split <;> omega
    have key : ∀ i, i < len → ∃ q : Qr, Ak.Q64 q ∧ Ak.Q8 (fun j => w.cell? (a.add (i * 8 + j))) q := by
      intro i hlt
      obtain ⟨cs', hc, ht'⟩ := hi i (by omega)
      rw [hC] at hc
      obtain ⟨ys, n', _, _, hl8, hyl, hf⟩ := DataW.trod_struct he ht'
      obtain ⟨_, hcl, hat⟩ := World.cells?_some hc
      have t0 := hf 0 f0 rfl
      have t1 := hf 1 f1 rfl
      have t2 := hf 2 f2 rfl
      have t3 := hf 3 f3 rfl
      have t4 := hf 4 f4 rfl
      rw [h0.1, h0.2, hci] at t0
      rw [h1.1, h1.2, hck] at t1
      rw [h2.1, h2.2, hCr] at t2
      rw [h3.1, h3.2, hCr] at t3
      rw [h4.1, h4.2, hCr] at t4
      have hyl' : ys.length = 5 := hyl
      rw [List.getElem?_eq_getElem (show 0 < ys.length by omega)] at t0
      rw [List.getElem?_eq_getElem (show 1 < ys.length by omega)] at t1
      rw [List.getElem?_eq_getElem (show 2 < ys.length by omega)] at t2
      rw [List.getElem?_eq_getElem (show 3 < ys.length by omega)] at t3
      rw [List.getElem?_eq_getElem (show 4 < ys.length by omega)] at t4
      obtain ⟨ag, e0, _, w0⟩ := DataW.trod_int hi8 t0
      obtain ⟨kd, e1, _, w1⟩ := DataW.trod_int hk8 t1
      obtain ⟨p2, q2, e2, x2, z2⟩ := trod_two hr k0 k1 hu hcu hCr t2
      obtain ⟨p3, q3, e3, x3, z3⟩ := trod_two hr k0 k1 hu hcu hCr t3
      obtain ⟨p4, q4, e4, x4, z4⟩ := trod_two hr k0 k1 hu hcu hCr t4
      match cs', hcl with
      | [d0, d1, d2, d3, d4, d5, d6, d7], _ =>
        simp at e0 e1 e2 e3 e4
        subst e0 e1
        obtain ⟨rfl, rfl⟩ := e2
        obtain ⟨rfl, rfl⟩ := e3
        obtain ⟨rfl, rfl⟩ := e4
        have a0 := hat 0 (by omega)
        have a1 := hat 1 (by omega)
        have a2 := hat 2 (by omega)
        have a3 := hat 3 (by omega)
        have a4 := hat 4 (by omega)
        have a5 := hat 5 (by omega)
        have a6 := hat 6 (by omega)
        have a7 := hat 7 (by omega)
        rw [Go.Deep.add_add] at a0 a1 a2 a3 a4 a5 a6 a7
        exact ⟨⟨ag, kd, p2, q2, p3, q3, p4, q4⟩, ⟨wf_i64 w0, wf_u8 w1, x2, z2, x3, z3, x4, z4⟩, a0, a1, a2, a3, a4, a5, a6, a7⟩
    obtain ⟨f, hf⟩ := choose_lt key
    have hat : ∀ i, i < len → Ak.qat ((List.range len).map f) i = f i := fun i hlt => by rw [Ak.qat_lt (by simpa using hlt)]; simp
    refine ⟨some a, len, cap, (List.range len).map f, rfl, by simp, hl, hm, ⟨fun hpos => ?_, ?_, by simp; omega⟩⟩
    · simp only [List.length_map, List.length_range] at hpos
      obtain ⟨b, off, spot⟩ := a
      have hspot : spot = none := by simpa [Addr.add] using World.cell?_spot (hf 0 hpos).2.1
      subst hspot
      refine ⟨b, off, rfl, fun i hlt => ?_⟩
      simp only [List.length_map, List.length_range] at hlt
      have := (hf i hlt).2
      simp only [Addr.add_lit] at this
      rw [hat i hlt]
      simp only [Nat.add_assoc]
      exact this
    · intro p hp
      obtain ⟨i, hi', rfl⟩ := List.mem_map.1 hp
      exact (hf i (by simpa using hi')).1
end
section
variable {H : Type} {enc : TypeId × Value → H} {w : World} {base : Nat} {spare : Nat → Bool} {held : Bool}
set_option maxRecDepth 100000 in
theorem open_cakes {r : Reach} {b0 : Nat} {v : Value} {d : DataW H} {p : List MemPlace} (hv : Value.okWide Try.prog w r b0 45 v) (h : DataW.Trod enc Try.prog w base spare held 45 v d p) :
    ∃ A cap xs, v = .slice A xs.length cap ∧ IsCs w A xs := by
  obtain ⟨a, len, cap, rfl⟩ := okWide_slice Try.underlying45 hv
  obtain ⟨fuel, hf⟩ := h
  obtain ⟨A, len', cap', xs, hcs, hl, h1, h2, hx⟩ := open_cakes_any Try.underlying45 Try.underlying33 (by kernel_rfl) cellsCake rfl rfl rfl Try.underlying31 Try.underlying3 cellsInt hf
  simp [Value.cells] at hcs
  obtain ⟨rfl, rfl, rfl⟩ := hcs
  subst hl
  exact ⟨a, cap, xs, rfl, hx⟩
set_option maxRecDepth 100000 in
theorem open_queries {r : Reach} {b0 : Nat} {v : Value} {d : DataW H} {p : List MemPlace} (hv : Value.okWide Try.prog w r b0 47 v) (h : DataW.Trod enc Try.prog w base spare held 47 v d p) :
    ∃ A cap xs, v = .slice A xs.length cap ∧ IsQs w A xs := by
  obtain ⟨a, len, cap, rfl⟩ := okWide_slice Try.underlying47 hv
  obtain ⟨fuel, hf⟩ := h
  obtain ⟨A, len', cap', xs, hcs, hl, h1, h2, hx⟩ := open_queries_any Try.underlying47 Try.underlying59 Try.underlying23 (by kernel_rfl) cellsRatio ⟨rfl, rfl⟩ ⟨rfl, rfl⟩ ⟨rfl, rfl⟩ ⟨rfl, rfl⟩ ⟨rfl, rfl⟩ ⟨rfl, rfl⟩ ⟨rfl, rfl⟩ Try.underlying2 (by kernel_rfl) Try.underlying5 (by kernel_rfl) Try.underlying3 cellsInt hf
  simp [Value.cells] at hcs
  obtain ⟨rfl, rfl, rfl⟩ := hcs
  subst hl
  exact ⟨a, cap, xs, rfl, hx⟩
end
end Go.Proofs.Ytaaamcleilpnhaa
namespace Go.Proofs.Ytaaamcleilpnhaa
open Go.ChangeShapes Go.WideShapes Go.ChangeAt Go.RowKit Go.Joins Go.Deep
section
variable {H : Type} {enc : TypeId × Value → H} {w : World} {base : Nat} {spare : Nat → Bool} {held : Bool}
theorem cellsDesk : Try.prog.cellsOf 49 = 2 := by kernel_rfl
set_option maxRecDepth 100000 in
theorem open_desk {r : Reach} {b0 : Nat} {v : Value} {d : DataW H} {p : List MemPlace} (hv : Value.okWide Try.prog w r b0 49 v) (h : DataW.Trod enc Try.prog w base spare held 49 v d p) :
    ∃ A ca xs Q cq ys, v = .agg #[.slice A xs.length ca, .slice Q ys.length cq] ∧ IsCs w A xs ∧ IsQs w Q ys := by
  obtain ⟨c0, c1, y0, y1, k, rfl, rfl, rfl, hy0, hy1⟩ := open_agg2 Try.underlying49 (by kernel_rfl) cellsDesk hv h
  obtain ⟨A, len, ca, xs, e0, hl0, _, _, hx⟩ := open_cakes_any Try.underlying45 Try.underlying33 (by kernel_rfl) cellsCake rfl rfl rfl Try.underlying31 Try.underlying3 cellsInt hy0
  obtain ⟨Q, len', cq, ys, e1, hl1, _, _, hy⟩ := open_queries_any Try.underlying47 Try.underlying59 Try.underlying23 (by kernel_rfl) cellsRatio ⟨rfl, rfl⟩ ⟨rfl, rfl⟩ ⟨rfl, rfl⟩ ⟨rfl, rfl⟩ ⟨rfl, rfl⟩ ⟨rfl, rfl⟩ ⟨rfl, rfl⟩ Try.underlying2 (by kernel_rfl) Try.underlying5 (by kernel_rfl) Try.underlying3 cellsInt hy1
  simp only [List.cons.injEq, and_true] at e0 e1
  subst e0 e1 hl0 hl1
  exact ⟨A, ca, xs, Q, cq, ys, rfl, hx, hy⟩
end
end Go.Proofs.Ytaaamcleilpnhaa
namespace Go.Proofs.Ytaaamcleilpnhaa
open Go.RowKit
namespace Ak
/-- What is told of an answer. -/
def res (E : Int) (r : Int × Int × Int) : Int × Int := if E = 0 then (r.1, r.2.1) else (0, 0)
theorem great_of {os : List CkR} (h : greatCs (os.map dat) = false) : (∀ c ∈ os, c.cuts.length ≤ 60 ∧ c.dens.length ≤ 60) ∧ os.length ≤ 10 := by
  unfold greatCs at h
  rw [Bool.or_eq_false_iff] at h
  obtain ⟨h1, h2⟩ := h
  have h2 := of_decide_eq_false h2
  rw [List.length_map] at h2
  refine ⟨fun c hc => ?_, by omega⟩
  have := List.any_eq_false.1 h1 (dat c) (List.mem_map_of_mem hc)
  unfold greatC dat at this
  simp at this
  omega
theorem ansS_at {D : List CkD} {k kd : Int} {j : Nat} {a b c d : Int} (hk : k = j) (hj : j < D.length) : ansS D ⟨k, kd, a, b, c, d, 0, 0⟩ = if kd = 1 then vS (dAt D j) a b c d else if kd = 2 then kS (dAt D j) a b c d else (0, 0, 2) := by
  subst hk
  unfold ansS
  dsimp only
  rw [if_pos (by omega)]
  simp
theorem putE_at {D : List CkD} {n : Nat} {q : Qr} {r : Int × Int × Int} (h : chkS D n = 0) (hr : ansS D q = r) : putE D n q = if r.2.2 ≠ 0 then r.2.2 else if n = 2000 then 4 else 0 := by
  unfold putE
  rw [if_neg (fun k => k h), hr]
theorem cellsC_set : ∀ (l : List CkR) (k : Nat) (c : CkR), cellsC (l.set k c) = (((cellsC l).set (k * 3) (.int .i64 c.len)).set (k * 3 + 1) (.slice c.K c.cuts.length c.ck)).set (k * 3 + 2) (.slice c.Z c.dens.length c.cz)
  | [], _, _ => rfl
  | x :: l, 0, c => rfl
  | x :: l, k + 1, c => by
    have ih := cellsC_set l k c
    have e : ∀ (y : CkR) (m : List CkR), cellsC (y :: m) = .int .i64 y.len :: .slice y.K y.cuts.length y.ck :: .slice y.Z y.dens.length y.cz :: cellsC m := fun _ _ => rfl
    rw [List.set_cons_succ, e, e, ih, show (k + 1) * 3 = k * 3 + 1 + 1 + 1 by omega, show k * 3 + 1 + 1 + 1 + 1 = (k * 3 + 1) + 1 + 1 + 1 by omega, show k * 3 + 1 + 1 + 1 + 2 = (k * 3 + 2) + 1 + 1 + 1 by omega]
    simp only [List.set_cons_succ]
end Ak
/-- The desk behind a query, where there is no error. -/
def FC (E : Int) (D : List CkD) (L : List Qr) (B : Nat) (A : Option Addr) (m ca : Nat) (Q : Option Addr) (n cq : Nat) (W : World) : Prop := E = 0 → ∃ l, m = l.length ∧ n = L.length ∧ l.map Ak.dat = D ∧ FD W B A ca l Q cq L
section
variable {E : Int} {D : List CkD} {L : List Qr} {B m ca n cq : Nat} {A Q : Option Addr} {W W' : World}
theorem FC.keep (h : FC E D L B A m ca Q n cq W) (hb : Below W.heap.size W W') : FC E D L B A m ca Q n cq W' := fun e => (h e).elim fun l k => ⟨l, k.1, k.2.1, k.2.2.1, k.2.2.2.keep hb⟩
theorem FC.mid (h : FC E D L B A m ca Q n cq W) (hb : Mid B W W') : FC E D L B A m ca Q n cq W' := fun e => (h e).elim fun l k => ⟨l, k.1, k.2.1, k.2.2.1, k.2.2.2.mid hb⟩
end
theorem PutQ.two {D : List CkD} {qs : List Qr} {q : Qr} {w w' : World} {e : Ending} (h : PutQ D qs q w e w') {E : Int} (hE : Ak.putE D qs.length q = E) {r : Int × Int × Int} (hr : Ak.ansS D q = r) :
    ∃ (A : Option Addr) (m ca : Nat) (Q : Option Addr) (n cq : Nat), e = .returned (.tuple #[.agg #[.slice A m ca, .slice Q n cq], .agg #[.int .i64 (Ak.res E r).1, .int .i64 (Ak.res E r).2], .int .i64 E]) ∧ Below w.heap.size w w' ∧ FC E D (qs ++ [{ q with x := r.1, y := r.2.1 }]) w.heap.size A m ca Q n cq w' := by
  have ht : Ak.told D q = { q with x := r.1, y := r.2.1 } := by unfold Ak.told; rw [hr]
  obtain ⟨hb, ⟨hn, he⟩ | ⟨h0, A, ca, l, Q, cq, he, hdat, hfd⟩⟩ := h
  · rw [hE] at hn he
    exact ⟨none, 0, 0, none, 0, 0, by unfold Ak.res; rw [if_neg hn]; exact he, hb, fun k => absurd k hn⟩
  · rw [hE] at h0
    rw [ht] at he hfd
    subst h0
    exact ⟨A, l.length, ca, Q, _, cq, by unfold Ak.res; rw [if_pos rfl]; exact he, hb, fun _ => ⟨l, rfl, rfl, hdat, hfd⟩⟩
theorem row_le {w : World} {B g n cap sz : Nat} {e : TypeId} {cs : List Value} (h : w.ownsRow B e sz (.slice (some ⟨g, 0, none⟩) n cap) n cs) : n ≤ cap := by
  rcases h.2 with ⟨h1, _⟩ | ⟨g', cap', cur, h1, _, _, h4, _⟩
  · cases h1
  · simp only [Value.slice.injEq] at h1
    omega
theorem IsQs.pre {w : World} {A : Option Addr} {qs : List Qr} {q : Qr} (h : IsQs w A (qs ++ [q])) : IsQs w A qs :=
  ⟨fun h0 => by
    obtain ⟨b, off, e, hc⟩ := h.cell (by simp)
    refine ⟨b, off, e, fun i hi => ?_⟩
    have := hc i (by simp; omega)
    rwa [show Ak.qat (qs ++ [q]) i = Ak.qat qs i by rw [Ak.qat_lt (by simp; omega), Ak.qat_lt hi, List.getElem_append_left hi]] at this, fun x hx => h.all x (by simp [hx]), by have := h.len; simp at this; omega⟩
theorem last_q {w : World} {B g n cap : Nat} {e : TypeId} {qs : List Qr} {q : Qr} (h : w.ownsRow B e 8 (.slice (some ⟨g, 0, none⟩) n cap) n (Ak.cellsQ (qs ++ [q]))) : w.cell? ⟨g, qs.length * 8, none⟩ = some (.int .i64 q.ag) ∧ w.cell? ⟨g, qs.length * 8 + 1, none⟩ = some (.int .u8 q.kd) ∧ w.cell? ⟨g, qs.length * 8 + 2, none⟩ = some (.int .i64 q.a) ∧ w.cell? ⟨g, qs.length * 8 + 3, none⟩ = some (.int .i64 q.b) ∧
    w.cell? ⟨g, qs.length * 8 + 4, none⟩ = some (.int .i64 q.c) ∧ w.cell? ⟨g, qs.length * 8 + 5, none⟩ = some (.int .i64 q.d) ∧ w.cell? ⟨g, qs.length * 8 + 6, none⟩ = some (.int .i64 q.x) ∧ w.cell? ⟨g, qs.length * 8 + 7, none⟩ = some (.int .i64 q.y) := by
  have hl := h.1
  rw [Ak.cellsQ_len, List.length_append, List.length_singleton] at hl
  have hn : n = qs.length + 1 := by omega
  have k := Ak.cellsQ_at (l := qs ++ [q]) (k := qs.length) (by simp)
  rw [show Ak.qat (qs ++ [q]) qs.length = q by rw [Ak.qat_lt (by simp)]; simp] at k
  obtain ⟨k0, k1, k2, k3, k4, k5, k6, k7⟩ := k
  have c : ∀ j, j < 8 → w.cell? ⟨g, qs.length * 8 + j, none⟩ = (Ak.cellsQ (qs ++ [q]))[qs.length * 8 + j]? := fun j hj => World.ownsRow.cellAt h _ (by omega)
  exact ⟨(c 0 (by omega)).trans k0, (c 1 (by omega)).trans k1, (c 2 (by omega)).trans k2, (c 3 (by omega)).trans k3, (c 4 (by omega)).trans k4, (c 5 (by omega)).trans k5, (c 6 (by omega)).trans k6, (c 7 (by omega)).trans k7⟩
end Go.Proofs.Ytaaamcleilpnhaa
namespace Go.Proofs.Ytaaamcleilpnhaa
open Go.RowKit
set_option linter.unusedSimpArgs false in
set_option maxHeartbeats 8000000 in
set_option maxRecDepth 100000 in
theorem q_build (a : Act) (w : World) (k n1 d1 n2 d2 q1 q2 : Int) (h0 : a.tmps[214]?.getD undef = .int .i64 k) (h1 : a.tmps[215]?.getD undef = .agg #[.int .i64 n1, .int .i64 d1]) (h2 : a.tmps[216]?.getD undef = .agg #[.int .i64 n2, .int .i64 d2]) (h3 : a.tmps[217]?.getD undef = .agg #[.int .i64 q1, .int .i64 q2]) :
  (execOp a.eval { dst := some 218, op := Op.build 59 #[(0, Operand.tmp 214), (1, Operand.const (Value.int IntKind.u8 2)), (2, Operand.tmp 215), (3, Operand.tmp 216), (4, Operand.tmp 217)], type := 59, pos := "law.go:158", after := #[{ on := 19, ground := Ground.data }, { on := 20, ground := Ground.data }, { on := 21, ground := Ground.data }, { on := 22, ground := Ground.data }, { on := 11, ground := Ground.guard }], guard := some (11, false) }).run Try.prog w = .ok (.value (.agg #[.int .i64 k, .int .u8 2, .int .i64 n1, .int .i64 d1, .int .i64 n2, .int .i64 d2, .int .i64 q1, .int .i64 q2])) w := by
 go_simp
set_option linter.unusedSimpArgs false in
set_option maxHeartbeats 200000000 in
set_option maxRecDepth 100000 in
theorem private_walk (A : Option Addr) (ca : Nat) (cs : List CkR) (Q : Option Addr) (cq : Nat) (qs : List Qr) (B : Option Addr) (cb : Nat) (os : List CkR) (ag n1 d1 n2 d2 : Int) (w : World) (h : IsCs w A cs) (hq : IsQs w Q qs) (ho : IsCs w B os) (g0 : -9223372036854775808 ≤ ag) (g1 : ag ≤ 9223372036854775807)
  (n10 : -9223372036854775808 ≤ n1) (n11 : n1 ≤ 9223372036854775807) (d10 : -9223372036854775808 ≤ d1) (d11 : d1 ≤ 9223372036854775807) (n20 : -9223372036854775808 ≤ n2) (n21 : n2 ≤ 9223372036854775807) (d20 : -9223372036854775808 ≤ d2) (d21 : d2 ≤ 9223372036854775807) :
  Calls Try.prog 5 #[.agg #[.slice A cs.length ca, .slice Q qs.length cq], .slice B os.length cb, .int .i64 ag, .agg #[.int .i64 n1, .int .i64 d1], .agg #[.int .i64 n2, .int .i64 d2]] w fun e w' => e = .returned (.bool true) ∧ Below w.heap.size w w' := by
 have gx := fun v (hv : Below w.heap.size w v) => rGreat_any A ca cs Q qs.length cq v hq.len (h.keep hv)
 have ch := fun v (hv : Below w.heap.size w v) => rAskCheck_any A ca cs Q qs.length cq v hq.len (h.keep hv)
 have agx := fun v => rAgent_any A cs.length ca Q qs.length cq ag v
 have go := fun v (hv : Below w.heap.size w v) => rGreatCakes_any B cb os v (ho.keep hv)
 have hlc := h.len
 have hlo := ho.len
 have hlq := hq.len
 unfold maxLen at hlc hlo hlq
 by_cases hgr : (Ak.greatCs (cs.map Ak.dat) || Ak.greatQ qs.length) = true
 ·
  rw [hgr] at gx
  have GX := Lib.hid gx
  clear gx ch agx go hgr h hq ho
  go_enter Try.func5, Try.ntmps5
  go_upto_region 1 with fail
  refine at_worldQ (fun v => Below w.heap.size w v ∧ BK v (w.heap.size) [.slice A cs.length ca, .slice Q qs.length cq] ∧ BK v (w.heap.size + 1) [.int .i64 n1, .int .i64 d1] ∧ BK v (w.heap.size + 2) [.int .i64 n2, .int .i64 d2] ∧ v.heap.size = w.heap.size + 3) ⟨(below_al (below_al (below_al (Below.refl _ _) _) _) _), (by have b := (((BK.new w [.slice A cs.length ca, .slice Q qs.length cq] 49).al (.cells #[.int .i64 n1, .int .i64 d1] 23)).al (.cells #[.int .i64 n2, .int .i64 d2] 23)); simpa only [World.size_alloc] using b), (by have b := ((BK.new (w.alloc (.cells #[.slice A cs.length ca, .slice Q qs.length cq] 49)) [.int .i64 n1, .int .i64 d1] 23).al (.cells #[.int .i64 n2, .int .i64 d2] 23)); simpa only [World.size_alloc] using b), (by have b := (BK.new ((w.alloc (.cells #[.slice A cs.length ca, .slice Q qs.length cq] 49)).alloc (.cells #[.int .i64 n1, .int .i64 d1] 23)) [.int .i64 n2, .int .i64 d2] 23); simpa only [World.size_alloc] using b), by simp only [World.size_alloc]⟩ (fun V hS => ?_)
  obtain ⟨hbb, B0, B1, B2, hVs⟩ := hS
  have p0 := B0.c 0 rfl
  have p1 := B0.c 1 rfl
  go_wp2_with fail
  refine (GX.out _ hbb).mono ?_
  rintro e wd1 ⟨rfl, hb⟩
  clear p0 p1
  replace B0 := B0.keep hb
  replace B1 := B1.keep hb
  replace B2 := B2.keep hb
  replace hbb := keepB hbb hb
  clear hb
  go_wp2_with fail
  refine (alive4_any _).mono ?_
  rintro e wd2 ⟨rfl, hb⟩
  replace B0 := B0.keep hb
  replace B1 := B1.keep hb
  replace B2 := B2.keep hb
  replace hbb := keepB hbb hb
  clear hb
  go_wp2_with fail
  go_ret
  exact ⟨rfl, hbb⟩
 have hgr : (Ak.greatCs (cs.map Ak.dat) || Ak.greatQ qs.length) = false := by simpa using hgr
 rw [hgr] at gx
 have GX := Lib.hid gx
 by_cases hc : Ak.chkS (cs.map Ak.dat) qs.length = 0
 case neg =>
  have n1' : (Ak.chkS (cs.map Ak.dat) qs.length != 0) = true := by rw [bne_iff_ne]; exact hc
  generalize Ak.chkS (cs.map Ak.dat) qs.length = z at *
  have CH := Lib.hid ch
  clear gx ch agx go hgr h hq ho hc
  go_enter Try.func5, Try.ntmps5
  go_upto_region 1 with fail
  refine at_worldQ (fun v => Below w.heap.size w v ∧ BK v (w.heap.size) [.slice A cs.length ca, .slice Q qs.length cq] ∧ BK v (w.heap.size + 1) [.int .i64 n1, .int .i64 d1] ∧ BK v (w.heap.size + 2) [.int .i64 n2, .int .i64 d2] ∧ v.heap.size = w.heap.size + 3) ⟨(below_al (below_al (below_al (Below.refl _ _) _) _) _), (by have b := (((BK.new w [.slice A cs.length ca, .slice Q qs.length cq] 49).al (.cells #[.int .i64 n1, .int .i64 d1] 23)).al (.cells #[.int .i64 n2, .int .i64 d2] 23)); simpa only [World.size_alloc] using b), (by have b := ((BK.new (w.alloc (.cells #[.slice A cs.length ca, .slice Q qs.length cq] 49)) [.int .i64 n1, .int .i64 d1] 23).al (.cells #[.int .i64 n2, .int .i64 d2] 23)); simpa only [World.size_alloc] using b), (by have b := (BK.new ((w.alloc (.cells #[.slice A cs.length ca, .slice Q qs.length cq] 49)).alloc (.cells #[.int .i64 n1, .int .i64 d1] 23)) [.int .i64 n2, .int .i64 d2] 23); simpa only [World.size_alloc] using b), by simp only [World.size_alloc]⟩ (fun V hS => ?_)
  obtain ⟨hbb, B0, B1, B2, hVs⟩ := hS
  have p0 := B0.c 0 rfl
  have p1 := B0.c 1 rfl
  go_wp2_with fail
  refine (GX.out _ hbb).mono ?_
  rintro e wd1 ⟨rfl, hb⟩
  clear p0 p1
  replace B0 := B0.keep hb
  replace B1 := B1.keep hb
  replace B2 := B2.keep hb
  replace hbb := keepB hbb hb
  clear hb
  have p0 := B0.c 0 rfl
  have p1 := B0.c 1 rfl
  go_wp2_with fail
  refine (CH.out _ hbb).mono ?_
  rintro e wd2 ⟨rfl, hb⟩
  clear p0 p1
  replace B0 := B0.keep hb
  replace B1 := B1.keep hb
  replace B2 := B2.keep hb
  replace hbb := keepB hbb hb
  clear hb
  go_wp2_with fail
  refine (alive4_any _).mono ?_
  rintro e wd3 ⟨rfl, hb⟩
  replace B0 := B0.keep hb
  replace B1 := B1.keep hb
  replace B2 := B2.keep hb
  replace hbb := keepB hbb hb
  clear hb
  go_wp2_with fail
  go_ret
  exact ⟨rfl, hbb⟩
 rw [hc] at ch
 have CH := Lib.hid ch
 have e0 : ((0 : Int) != 0) = false := rfl
 by_cases hag : 0 ≤ ag ∧ ag < cs.length
 case neg =>
  rw [decide_eq_false hag] at agx
  have AG := Lib.hid agx
  clear gx ch agx go hgr h hq ho hc hag
  go_enter Try.func5, Try.ntmps5
  go_upto_region 1 with fail
  refine at_worldQ (fun v => Below w.heap.size w v ∧ BK v (w.heap.size) [.slice A cs.length ca, .slice Q qs.length cq] ∧ BK v (w.heap.size + 1) [.int .i64 n1, .int .i64 d1] ∧ BK v (w.heap.size + 2) [.int .i64 n2, .int .i64 d2] ∧ v.heap.size = w.heap.size + 3) ⟨(below_al (below_al (below_al (Below.refl _ _) _) _) _), (by have b := (((BK.new w [.slice A cs.length ca, .slice Q qs.length cq] 49).al (.cells #[.int .i64 n1, .int .i64 d1] 23)).al (.cells #[.int .i64 n2, .int .i64 d2] 23)); simpa only [World.size_alloc] using b), (by have b := ((BK.new (w.alloc (.cells #[.slice A cs.length ca, .slice Q qs.length cq] 49)) [.int .i64 n1, .int .i64 d1] 23).al (.cells #[.int .i64 n2, .int .i64 d2] 23)); simpa only [World.size_alloc] using b), (by have b := (BK.new ((w.alloc (.cells #[.slice A cs.length ca, .slice Q qs.length cq] 49)).alloc (.cells #[.int .i64 n1, .int .i64 d1] 23)) [.int .i64 n2, .int .i64 d2] 23); simpa only [World.size_alloc] using b), by simp only [World.size_alloc]⟩ (fun V hS => ?_)
  obtain ⟨hbb, B0, B1, B2, hVs⟩ := hS
  have p0 := B0.c 0 rfl
  have p1 := B0.c 1 rfl
  go_wp2_with fail
  refine (GX.out _ hbb).mono ?_
  rintro e wd1 ⟨rfl, hb⟩
  clear p0 p1
  replace B0 := B0.keep hb
  replace B1 := B1.keep hb
  replace B2 := B2.keep hb
  replace hbb := keepB hbb hb
  clear hb
  have p0 := B0.c 0 rfl
  have p1 := B0.c 1 rfl
  go_wp2_with fail
  refine (CH.out _ hbb).mono ?_
  rintro e wd2 ⟨rfl, hb⟩
  clear p0 p1
  replace B0 := B0.keep hb
  replace B1 := B1.keep hb
  replace B2 := B2.keep hb
  replace hbb := keepB hbb hb
  clear hb
  have p0 := B0.c 0 rfl
  have p1 := B0.c 1 rfl
  go_wp2_with fail
  refine (AG.out _).mono ?_
  rintro e wd3 ⟨rfl, hb⟩
  clear p0 p1
  replace B0 := B0.keep hb
  replace B1 := B1.keep hb
  replace B2 := B2.keep hb
  replace hbb := keepB hbb hb
  clear hb
  go_wp2_with fail
  refine (alive4_any _).mono ?_
  rintro e wd4 ⟨rfl, hb⟩
  replace B0 := B0.keep hb
  replace B1 := B1.keep hb
  replace B2 := B2.keep hb
  replace hbb := keepB hbb hb
  clear hb
  go_wp2_with fail
  go_ret
  exact ⟨rfl, hbb⟩
 rw [decide_eq_true hag] at agx
 have AG := Lib.hid agx
 by_cases hgo : Ak.greatCs (os.map Ak.dat) = true
 ·
  rw [hgo] at go
  have GO := Lib.hid go
  clear gx ch agx go hgr h hq ho hc hag hgo
  go_enter Try.func5, Try.ntmps5
  go_upto_region 1 with fail
  refine at_worldQ (fun v => Below w.heap.size w v ∧ BK v (w.heap.size) [.slice A cs.length ca, .slice Q qs.length cq] ∧ BK v (w.heap.size + 1) [.int .i64 n1, .int .i64 d1] ∧ BK v (w.heap.size + 2) [.int .i64 n2, .int .i64 d2] ∧ v.heap.size = w.heap.size + 3) ⟨(below_al (below_al (below_al (Below.refl _ _) _) _) _), (by have b := (((BK.new w [.slice A cs.length ca, .slice Q qs.length cq] 49).al (.cells #[.int .i64 n1, .int .i64 d1] 23)).al (.cells #[.int .i64 n2, .int .i64 d2] 23)); simpa only [World.size_alloc] using b), (by have b := ((BK.new (w.alloc (.cells #[.slice A cs.length ca, .slice Q qs.length cq] 49)) [.int .i64 n1, .int .i64 d1] 23).al (.cells #[.int .i64 n2, .int .i64 d2] 23)); simpa only [World.size_alloc] using b), (by have b := (BK.new ((w.alloc (.cells #[.slice A cs.length ca, .slice Q qs.length cq] 49)).alloc (.cells #[.int .i64 n1, .int .i64 d1] 23)) [.int .i64 n2, .int .i64 d2] 23); simpa only [World.size_alloc] using b), by simp only [World.size_alloc]⟩ (fun V hS => ?_)
  obtain ⟨hbb, B0, B1, B2, hVs⟩ := hS
  have p0 := B0.c 0 rfl
  have p1 := B0.c 1 rfl
  go_wp2_with fail
  refine (GX.out _ hbb).mono ?_
  rintro e wd1 ⟨rfl, hb⟩
  clear p0 p1
  replace B0 := B0.keep hb
  replace B1 := B1.keep hb
  replace B2 := B2.keep hb
  replace hbb := keepB hbb hb
  clear hb
  have p0 := B0.c 0 rfl
  have p1 := B0.c 1 rfl
  go_wp2_with fail
  refine (CH.out _ hbb).mono ?_
  rintro e wd2 ⟨rfl, hb⟩
  clear p0 p1
  replace B0 := B0.keep hb
  replace B1 := B1.keep hb
  replace B2 := B2.keep hb
  replace hbb := keepB hbb hb
  clear hb
  have p0 := B0.c 0 rfl
  have p1 := B0.c 1 rfl
  go_wp2_with fail
  refine (AG.out _).mono ?_
  rintro e wd3 ⟨rfl, hb⟩
  clear p0 p1
  replace B0 := B0.keep hb
  replace B1 := B1.keep hb
  replace B2 := B2.keep hb
  replace hbb := keepB hbb hb
  clear hb
  go_wp2_with fail
  refine (GO.out _ hbb).mono ?_
  rintro e wd4 ⟨rfl, hb⟩
  replace B0 := B0.keep hb
  replace B1 := B1.keep hb
  replace B2 := B2.keep hb
  replace hbb := keepB hbb hb
  clear hb
  go_wp2_with fail
  refine (alive4_any _).mono ?_
  rintro e wd5 ⟨rfl, hb⟩
  replace B0 := B0.keep hb
  replace B1 := B1.keep hb
  replace B2 := B2.keep hb
  replace hbb := keepB hbb hb
  clear hb
  go_wp2_with fail
  go_ret
  exact ⟨rfl, hbb⟩
 have hgo : Ak.greatCs (os.map Ak.dat) = false := by simpa using hgo
 rw [hgo] at go
 have GO := Lib.hid go
 by_cases hno : os.length = cs.length
 case neg =>
  have e5 : ((os.length : Int) != (cs.length : Int)) = true := by rw [bne_iff_ne]; omega
  clear gx ch agx go hgr h hq ho hc hag hgo hno
  go_enter Try.func5, Try.ntmps5
  go_upto_region 1 with fail
  refine at_worldQ (fun v => Below w.heap.size w v ∧ BK v (w.heap.size) [.slice A cs.length ca, .slice Q qs.length cq] ∧ BK v (w.heap.size + 1) [.int .i64 n1, .int .i64 d1] ∧ BK v (w.heap.size + 2) [.int .i64 n2, .int .i64 d2] ∧ v.heap.size = w.heap.size + 3) ⟨(below_al (below_al (below_al (Below.refl _ _) _) _) _), (by have b := (((BK.new w [.slice A cs.length ca, .slice Q qs.length cq] 49).al (.cells #[.int .i64 n1, .int .i64 d1] 23)).al (.cells #[.int .i64 n2, .int .i64 d2] 23)); simpa only [World.size_alloc] using b), (by have b := ((BK.new (w.alloc (.cells #[.slice A cs.length ca, .slice Q qs.length cq] 49)) [.int .i64 n1, .int .i64 d1] 23).al (.cells #[.int .i64 n2, .int .i64 d2] 23)); simpa only [World.size_alloc] using b), (by have b := (BK.new ((w.alloc (.cells #[.slice A cs.length ca, .slice Q qs.length cq] 49)).alloc (.cells #[.int .i64 n1, .int .i64 d1] 23)) [.int .i64 n2, .int .i64 d2] 23); simpa only [World.size_alloc] using b), by simp only [World.size_alloc]⟩ (fun V hS => ?_)
  obtain ⟨hbb, B0, B1, B2, hVs⟩ := hS
  have p0 := B0.c 0 rfl
  have p1 := B0.c 1 rfl
  go_wp2_with fail
  refine (GX.out _ hbb).mono ?_
  rintro e wd1 ⟨rfl, hb⟩
  clear p0 p1
  replace B0 := B0.keep hb
  replace B1 := B1.keep hb
  replace B2 := B2.keep hb
  replace hbb := keepB hbb hb
  clear hb
  have p0 := B0.c 0 rfl
  have p1 := B0.c 1 rfl
  go_wp2_with fail
  refine (CH.out _ hbb).mono ?_
  rintro e wd2 ⟨rfl, hb⟩
  clear p0 p1
  replace B0 := B0.keep hb
  replace B1 := B1.keep hb
  replace B2 := B2.keep hb
  replace hbb := keepB hbb hb
  clear hb
  have p0 := B0.c 0 rfl
  have p1 := B0.c 1 rfl
  go_wp2_with fail
  refine (AG.out _).mono ?_
  rintro e wd3 ⟨rfl, hb⟩
  clear p0 p1
  replace B0 := B0.keep hb
  replace B1 := B1.keep hb
  replace B2 := B2.keep hb
  replace hbb := keepB hbb hb
  clear hb
  go_wp2_with fail
  refine (GO.out _ hbb).mono ?_
  rintro e wd4 ⟨rfl, hb⟩
  replace B0 := B0.keep hb
  replace B1 := B1.keep hb
  replace B2 := B2.keep hb
  replace hbb := keepB hbb hb
  clear hb
  have p0 := B0.c 0 rfl
  have p1 := B0.c 1 rfl
  go_wp2_with fail
  refine (alive4_any _).mono ?_
  rintro e wd5 ⟨rfl, hb⟩
  clear p0 p1
  replace B0 := B0.keep hb
  replace B1 := B1.keep hb
  replace B2 := B2.keep hb
  replace hbb := keepB hbb hb
  clear hb
  go_wp2_with fail
  go_ret
  exact ⟨rfl, hbb⟩
 have e5 : ((os.length : Int) != (cs.length : Int)) = false := by rw [bne_eq_false_iff_eq]; omega
 obtain ⟨k, rfl⟩ : ∃ k : Nat, ag = k := ⟨ag.toNat, by omega⟩
 have hk : k < cs.length := by omega
 have hgd := Ak.chkS_good hc
 have hgc : ∀ c ∈ cs, Ak.ckD (Ak.dat c) = 0 := fun c hc => hgd.all _ (List.mem_map_of_mem hc)
 have hq2 := hgd.q1
 obtain ⟨bb, o, hA, hcl⟩ := h.at_
 obtain rfl := hA (by omega)
 have i1 : (0 : Int) ≤ (k : Int) := by omega
 have i2 : (k : Int) < (cs.length : Int) := by omega
 have hci := h.all _ (Ak.cat_mem hk)
 have hck := hgc _ (Ak.cat_mem hk)
 obtain ⟨cc, hcc⟩ : ∃ c, Ak.cat cs k = c := ⟨_, rfl⟩
 have HCL := Lib.hid (hcl k hk)
 have hdk := Ak.dAt_map cs hk
 rw [hcc] at hci hck HCL hdk
 have cvv := fun v (hv : Below w.heap.size w v) => value_all cc n1 d1 n2 d2 v (hci.keep hv) hck ⟨n10, n11⟩ ⟨d10, d11⟩ ⟨n20, n21⟩ ⟨d20, d21⟩
 have cmm := fun v (hv : Below w.heap.size w v) => mark_all cc n1 d1 n2 d2 v (hci.keep hv) hck ⟨n10, n11⟩ ⟨d10, d11⟩ ⟨n20, n21⟩ ⟨d20, d21⟩
 unfold Ak.cv at cvv cmm
 have pv := fun v (hv : Below w.heap.size w v) => askValue_any (some ⟨bb, o, none⟩) ca cs Q qs cq k n1 d1 n2 d2 v (h.keep hv) (hq.keep hv) ⟨g0, g1⟩ ⟨n10, n11⟩ ⟨d10, d11⟩ ⟨n20, n21⟩ ⟨d20, d21⟩
 have pk := fun v (hv : Below w.heap.size w v) => askMark_any (some ⟨bb, o, none⟩) ca cs Q qs cq k n1 d1 n2 d2 v (h.keep hv) (hq.keep hv) ⟨g0, g1⟩ ⟨n10, n11⟩ ⟨d10, d11⟩ ⟨n20, n21⟩ ⟨d20, d21⟩
 have ha1 := Ak.ansS_at (D := cs.map Ak.dat) (k := k) (kd := 1) (j := k) (a := n1) (b := d1) (c := n2) (d := d2) rfl (by rw [List.length_map]; exact hk)
 have ha2 := Ak.ansS_at (D := cs.map Ak.dat) (k := k) (kd := 2) (j := k) (a := n1) (b := d1) (c := n2) (d := d2) rfl (by rw [List.length_map]; exact hk)
 rw [if_pos rfl, hdk] at ha1
 rw [if_neg (by decide), if_pos rfl, hdk] at ha2
 obtain ⟨r, hr⟩ : ∃ r, Ak.vS (Ak.dat cc) n1 d1 n2 d2 = r := ⟨_, rfl⟩
 obtain ⟨s, hs⟩ : ∃ r, Ak.kS (Ak.dat cc) n1 d1 n2 d2 = r := ⟨_, rfl⟩
 have HVS := Lib.hid hr
 have HKS := Lib.hid hs
 rw [hr] at ha1 cvv
 rw [hs] at ha2 cmm
 obtain ⟨w1, w2, f⟩ := r
 obtain ⟨q1, q2, h'⟩ := s
 have hE := Ak.putE_at hc ha1
 have hG := Ak.putE_at hc ha2
 dsimp only at cvv cmm hE hG
 obtain ⟨E, hE'⟩ : ∃ E, Ak.putE (cs.map Ak.dat) qs.length ⟨(k : Int), 1, n1, d1, n2, d2, 0, 0⟩ = E := ⟨_, rfl⟩
 obtain ⟨G, hG'⟩ : ∃ G, Ak.putE (cs.map Ak.dat) qs.length ⟨(k : Int), 2, n1, d1, n2, d2, 0, 0⟩ = G := ⟨_, rfl⟩
 have HE := Lib.hid hE'
 have HG := Lib.hid hG'
 rw [hE'] at hE
 rw [hG'] at hG
 have HA := Lib.hid ha1
 have HB := Lib.hid ha2
 obtain ⟨D, hD⟩ : ∃ D, cs.map Ak.dat = D := ⟨_, rfl⟩
 rw [hD] at HE HG HA HB pv pk
 have HEE := Lib.hid hE
 have HGG := Lib.hid hG
 have HD := Lib.hid hD
 have CV := Lib.hid cvv
 have CM := Lib.hid cmm
 have PV := Lib.hid pv
 have PK := Lib.hid pk
 have HH := Lib.hid h
 have HHQ := Lib.hid hq
 have HHO := Lib.hid ho
 have HNO := Lib.hid hno
 have HGO := Lib.hid hgo
 have HGD := Lib.hid hgd
 have HGC := Lib.hid hgc
 have HCC := Lib.hid hcc
 have HDK := Lib.hid hdk
 have HCI := Lib.hid hci
 have HCK := Lib.hid hck
 have HN := Lib.hid (show I64 n1 ∧ I64 d1 ∧ I64 n2 ∧ I64 d2 ∧ I64 k from ⟨⟨n10, n11⟩, ⟨d10, d11⟩, ⟨n20, n21⟩, ⟨d20, d21⟩, g0, g1⟩)
 clear cvv cmm pv pk ha1 ha2 hr hs hE hG hE' hG' gx ch agx go hgr hc hag hgo hA hcl h hq ho hno hgd hgc hcc hdk hci hck hD n10 n11 d10 d11 n20 n21 d20 d21 g0 g1
 go_enter Try.func5, Try.ntmps5
 go_upto_region 1 with fail
 refine at_worldQ (fun v => Below w.heap.size w v ∧ BK v (w.heap.size) [.slice (some ⟨bb, o, none⟩) cs.length ca, .slice Q qs.length cq] ∧ BK v (w.heap.size + 1) [.int .i64 n1, .int .i64 d1] ∧ BK v (w.heap.size + 2) [.int .i64 n2, .int .i64 d2] ∧ v.heap.size = w.heap.size + 3) ⟨(below_al (below_al (below_al (Below.refl _ _) _) _) _), (by have b := (((BK.new w [.slice (some ⟨bb, o, none⟩) cs.length ca, .slice Q qs.length cq] 49).al (.cells #[.int .i64 n1, .int .i64 d1] 23)).al (.cells #[.int .i64 n2, .int .i64 d2] 23)); simpa only [World.size_alloc] using b), (by have b := ((BK.new (w.alloc (.cells #[.slice (some ⟨bb, o, none⟩) cs.length ca, .slice Q qs.length cq] 49)) [.int .i64 n1, .int .i64 d1] 23).al (.cells #[.int .i64 n2, .int .i64 d2] 23)); simpa only [World.size_alloc] using b), (by have b := (BK.new ((w.alloc (.cells #[.slice (some ⟨bb, o, none⟩) cs.length ca, .slice Q qs.length cq] 49)).alloc (.cells #[.int .i64 n1, .int .i64 d1] 23)) [.int .i64 n2, .int .i64 d2] 23); simpa only [World.size_alloc] using b), by simp only [World.size_alloc]⟩ (fun V hS => ?_)
 obtain ⟨hbb, B0, B1, B2, hVs⟩ := hS
 have p0 := B0.c 0 rfl
 have p1 := B0.c 1 rfl
 go_wp2_with fail
 refine (GX.out _ hbb).mono ?_
 rintro e wd1 ⟨rfl, hb⟩
 clear p0 p1
 replace B0 := B0.keep hb
 replace B1 := B1.keep hb
 replace B2 := B2.keep hb
 replace hbb := keepB hbb hb
 clear hb
 have p0 := B0.c 0 rfl
 have p1 := B0.c 1 rfl
 go_wp2_with fail
 refine (CH.out _ hbb).mono ?_
 rintro e wd2 ⟨rfl, hb⟩
 clear p0 p1
 replace B0 := B0.keep hb
 replace B1 := B1.keep hb
 replace B2 := B2.keep hb
 replace hbb := keepB hbb hb
 clear hb
 have p0 := B0.c 0 rfl
 have p1 := B0.c 1 rfl
 go_wp2_with fail
 refine (AG.out _).mono ?_
 rintro e wd3 ⟨rfl, hb⟩
 clear p0 p1
 replace B0 := B0.keep hb
 replace B1 := B1.keep hb
 replace B2 := B2.keep hb
 replace hbb := keepB hbb hb
 clear hb
 go_wp2_with fail
 refine (GO.out _ hbb).mono ?_
 rintro e wd4 ⟨rfl, hb⟩
 replace B0 := B0.keep hb
 replace B1 := B1.keep hb
 replace B2 := B2.keep hb
 replace hbb := keepB hbb hb
 clear hb
 have p0 := B0.c 0 rfl
 have p1 := B0.c 1 rfl
 have x0 := B1.c 0 rfl
 have x1 := B1.c 1 rfl
 have z0 := B2.c 0 rfl
 have z1 := B2.c 1 rfl
 go_wp2_with fail
 refine (PV.out _ hbb).mono ?_
 rintro e wd5 hput
 obtain ⟨Aa, ma, caa, Qa, na, cqa, rfl, hb, Fa⟩ := hput.two HE.out HA.out
 replace Fa : FC E D (qs ++ [(⟨(k : Int), 1, n1, d1, n2, d2, w1, w2⟩ : Qr)]) w.heap.size Aa ma caa Qa na cqa _ := fun e0 => (Fa e0).elim fun l k => ⟨l, k.1, k.2.1, k.2.2.1, k.2.2.2.mono hbb.size⟩
 clear p0 p1 x0 x1 z0 z1
 replace B0 := B0.keep hb
 replace B1 := B1.keep hb
 replace B2 := B2.keep hb
 replace hbb := keepB hbb hb
 clear hb
 obtain ⟨va, hva⟩ : ∃ v, Ak.res E (w1, w2, f) = v := ⟨_, rfl⟩
 rw [hva]
 obtain ⟨vaa, vba⟩ := va
 have HVa := Lib.hid hva
 clear hva
 dsimp only
 have hBa := hbb.size
 go_upto_region 4 with fail
 refine at_worldQ (fun v => Below w.heap.size w v ∧ w.heap.size ≤ v.heap.size ∧ BK v w.heap.size [.slice (some ⟨bb, o, none⟩) cs.length ca, .slice Q qs.length cq] ∧ BK v (w.heap.size + 1) [.int .i64 n1, .int .i64 d1] ∧ BK v (w.heap.size + 2) [.int .i64 n2, .int .i64 d2] ∧ BK v wd5.heap.size [.slice Aa ma caa, .slice Qa na cqa] ∧ BK v (wd5.heap.size + 1) [.int .i64 vaa, .int .i64 vba] ∧ FC E D (qs ++ [(⟨(k : Int), 1, n1, d1, n2, d2, w1, w2⟩ : Qr)]) w.heap.size Aa ma caa Qa na cqa v) ⟨(by first | exact below_al (below_al hbb _) _ | exact below_al (below_set (below_set (below_al hbb _) (by omega) _) (by omega) _) _), Below.size (B := w.heap.size) (w := w) (by first | exact below_al (below_al hbb _) _ | exact below_al (below_set (below_set (below_al hbb _) (by omega) _) (by omega) _) _), B0.keep (by first | exact below_al (below_al (Below.refl _ _) _) _ | exact below_al (below_set (below_set (below_al (Below.refl _ _) _) (Nat.le_refl _) _) (Nat.le_refl _) _) _), B1.keep (by first | exact below_al (below_al (Below.refl _ _) _) _ | exact below_al (below_set (below_set (below_al (Below.refl _ _) _) (Nat.le_refl _) _) (Nat.le_refl _) _) _), B2.keep (by first | exact below_al (below_al (Below.refl _ _) _) _ | exact below_al (below_set (below_set (below_al (Below.refl _ _) _) (Nat.le_refl _) _) (Nat.le_refl _) _) _), (by first | exact (BK.new _ _ _).al _ | exact (((BK.new _ _ _).set 0 _).set 1 _).al _), (by first | (have b := BK.new (wd5.alloc (.cells #[.slice Aa ma caa, .slice Qa na cqa] 49)) [.int .i64 vaa, .int .i64 vba] 23; simpa only [World.size_alloc] using b)), Fa.mid (by first | exact ((Mid.refl _ _).al _).al _ | exact ((((Mid.refl _ _).al _).set (.inr (Nat.le_refl _)) _).set (.inr (Nat.le_refl _)) _).al _)⟩ (fun V4 hS => ?_)
 clear hbb B0 B1 B2
 obtain ⟨hbb, hBV, B0, B1, B2, Da, Ra, Fa⟩ := hS
 generalize wd5.heap.size = Pa at *
 have c0 := keepC hbb HCL.out.1
 have c1 := keepC hbb HCL.out.2.1
 have c2 := keepC hbb HCL.out.2.2
 have p0 := B0.c 0 rfl
 have p1 := B0.c 1 rfl
 have x0 := B1.c 0 rfl
 have x1 := B1.c 1 rfl
 have z0 := B2.c 0 rfl
 have z1 := B2.c 1 rfl
 go_cut [14, 15] (fun x y v => ∃ p : Nat, x = .pointer (some ⟨p, 0, none⟩) ∧ y = .int .i64 f ∧ BK v p [.int .i64 w1, .int .i64 w2] ∧ Below V4.heap.size V4 v)
 case first =>
  as_aux_lemma =>
   refine wp_region_held_drew (S := (GB (fun _ => False) V4)) (by kernel_rfl) ((GB.refl _ _).drew) (fun hHeld => ?_)
   refine at_anyH (fun v => GB (fun _ => False) V4 v) hHeld (fun wc0 hNew => ?_)
   clear hHeld
   have hHeld := hNew
   clear hNew
   refine wpAnyH_take (i := 0) (oi := _) (v := ?vc1) rfl (by kernel_rfl) (by kernel_rfl) (by kernel_rfl) (fun _ _ _ h => h) (Or.inl ⟨by kernel_rfl, ?hyc1⟩) hHeld ?restc1
   case hyc1 => (intro w hSw; go_simp; first | done | (with_reducible rfl))
   try simp only [Act.put, List.append, PA, set16]
   try simp only [PB]
   refine wpAnyH_take (i := 1) (oi := _) (v := ?vc2) rfl (by kernel_rfl) (by kernel_rfl) (by kernel_rfl) (fun _ _ _ h => h) (Or.inl ⟨by kernel_rfl, ?hyc2⟩) hHeld ?restc2
   case hyc2 => (intro w hSw; have kp0 := hSw.cell (fun h => h) p0; have kp1 := hSw.cell (fun h => h) p1; have kx0 := hSw.cell (fun h => h) x0; have kx1 := hSw.cell (fun h => h) x1; have kz0 := hSw.cell (fun h => h) z0; have kz1 := hSw.cell (fun h => h) z1; have kc0 := hSw.cell (fun h => h) c0; have kc1 := hSw.cell (fun h => h) c1; have kc2 := hSw.cell (fun h => h) c2; go_simp; first | done | (with_reducible rfl))
   try simp only [Act.put, List.append, PA, set16]
   try simp only [PB]
   refine wpAnyH_take (i := 2) (oi := _) (v := ?vc3) rfl (by kernel_rfl) (by kernel_rfl) (by kernel_rfl) (fun _ _ _ h => h) (Or.inl ⟨by kernel_rfl, ?hyc3⟩) hHeld ?restc3
   case hyc3 => (intro w hSw; go_simp; first | done | (with_reducible rfl))
   try simp only [Act.put, List.append, PA, set16]
   try simp only [PB]
   refine wpAnyH_take (i := 3) (oi := _) (v := ?vc4) rfl (by kernel_rfl) (by kernel_rfl) (by kernel_rfl) (fun _ _ _ h => h) (Or.inl ⟨by kernel_rfl, ?hyc4⟩) hHeld ?restc4
   case hyc4 => (intro w hSw; go_simp; first | done | (with_reducible rfl))
   try simp only [Act.put, List.append, PA, set16]
   try simp only [PB]
   refine wpAnyH_take (i := 4) (oi := _) (v := ?vc5) rfl (by kernel_rfl) (by kernel_rfl) (by kernel_rfl) (fun _ _ _ h => h) (Or.inl ⟨by kernel_rfl, ?hyc5⟩) hHeld ?restc5
   case hyc5 => (intro w hSw; have kp0 := hSw.cell (fun h => h) p0; have kp1 := hSw.cell (fun h => h) p1; have kx0 := hSw.cell (fun h => h) x0; have kx1 := hSw.cell (fun h => h) x1; have kz0 := hSw.cell (fun h => h) z0; have kz1 := hSw.cell (fun h => h) z1; have kc0 := hSw.cell (fun h => h) c0; have kc1 := hSw.cell (fun h => h) c1; have kc2 := hSw.cell (fun h => h) c2; go_simp; first | done | (with_reducible rfl))
   try simp only [Act.put, List.append, PA, set16]
   try simp only [PB]
   refine wpAnyH_take (i := 5) (oi := _) (v := ?vc6) rfl (by kernel_rfl) (by kernel_rfl) (by kernel_rfl) (fun _ _ _ h => h) (Or.inl ⟨by kernel_rfl, ?hyc6⟩) hHeld ?restc6
   case hyc6 => (intro w hSw; have kp0 := hSw.cell (fun h => h) p0; have kp1 := hSw.cell (fun h => h) p1; have kx0 := hSw.cell (fun h => h) x0; have kx1 := hSw.cell (fun h => h) x1; have kz0 := hSw.cell (fun h => h) z0; have kz1 := hSw.cell (fun h => h) z1; have kc0 := hSw.cell (fun h => h) c0; have kc1 := hSw.cell (fun h => h) c1; have kc2 := hSw.cell (fun h => h) c2; go_simp; first | done | (with_reducible rfl))
   try simp only [Act.put, List.append, PA, set16]
   try simp only [PB]
   refine wpAnyH_take (i := 6) (oi := _) (v := ?vc7) rfl (by kernel_rfl) (by kernel_rfl) (by kernel_rfl) (fun _ _ _ h => h) (Or.inl ⟨by kernel_rfl, ?hyc7⟩) hHeld ?restc7
   case hyc7 => (intro w hSw; have kp0 := hSw.cell (fun h => h) p0; have kp1 := hSw.cell (fun h => h) p1; have kx0 := hSw.cell (fun h => h) x0; have kx1 := hSw.cell (fun h => h) x1; have kz0 := hSw.cell (fun h => h) z0; have kz1 := hSw.cell (fun h => h) z1; have kc0 := hSw.cell (fun h => h) c0; have kc1 := hSw.cell (fun h => h) c1; have kc2 := hSw.cell (fun h => h) c2; go_simp; first | done | (with_reducible rfl))
   try simp only [Act.put, List.append, PA, set16]
   try simp only [PB]
   refine wpAnyH_ready (rs := [7, 11]) (by kernel_rfl) (by simp) (AllReadyH.cons (o := _) rfl (fun K hK => ?_) (AllReadyH.cons (o := _) rfl (fun K hK => ?_) AllReadyH.nil))
   ·
    go_simp
    refine (CV.out _ (hHeld.toBelow hbb (fun k hk => hk.elim) hBV)).mono ?_
    rintro e wc8 ⟨rfl, hb3⟩
    go_wp2_with fail
    refine hK.out _ _ (hHeld.below hb3) (fun hNew => ?_)
    clear hb3
    clear hHeld hK K
    have hHeld := hNew
    clear hNew
    try simp only [Act.put, List.append, PA, set16]
    try simp only [PB]
    refine wpAnyH_take (i := 8) (oi := _) (v := ?vc9) rfl (by kernel_rfl) (by kernel_rfl) (by kernel_rfl) (fun _ _ _ h => h) (Or.inl ⟨by kernel_rfl, ?hyc9⟩) hHeld ?restc9
    case hyc9 => (intro w hSw; go_simp; first | done | (with_reducible rfl))
    try simp only [Act.put, List.append, PA, set16]
    try simp only [PB]
    refine wpAnyH_take (i := 9) (oi := _) (v := ?vc10) rfl (by kernel_rfl) (by kernel_rfl) (by kernel_rfl) (fun _ _ _ h => h) (Or.inl ⟨by kernel_rfl, ?hyc10⟩) hHeld ?restc10
    case hyc10 => (intro w hSw; go_simp; first | done | (with_reducible rfl))
    try simp only [Act.put, List.append, PA, set16]
    try simp only [PB]
    refine wpAnyH_take (i := 10) (oi := _) (v := ?vc11) rfl (by kernel_rfl) (by kernel_rfl) (by kernel_rfl) (fun _ _ _ h => h) (Or.inl ⟨by kernel_rfl, ?hyc11⟩) hHeld ?restc11
    case hyc11 => (intro w hSw; go_simp; first | done | (with_reducible rfl))
    try simp only [Act.put, List.append, PA, set16]
    try simp only [PB]
    refine wpAnyH_ready (rs := [11]) (by kernel_rfl) (by simp) (AllReadyH.cons (o := _) rfl (fun K hK => ?_) AllReadyH.nil)
    go_simp
    refine hK.out _ _ (hHeld.al _) (fun hNew => ?_)
    have hX : V4.heap.size ≤ wc8.heap.size := hHeld.size
    clear hHeld hK K
    have hHeld := hNew
    clear hNew
    try simp only [Act.put, List.append, PA, set16]
    try simp only [PB]
    refine at_anyH (fun v => GB (fun _ => False) V4 v ∧ BK v (wc8.heap.size) [.int .i64 0, .int .i64 0]) ⟨hHeld, BK.new _ _ _⟩ (fun wc12 hS => ?_)
    clear hHeld
    obtain ⟨hHeld, BX⟩ := hS
    refine wpAnyH_ready (rs := [12]) (by kernel_rfl) (by simp) (AllReadyH.cons (o := _) rfl (fun K hK => ?_) AllReadyH.nil)
    have n0 := BX.c 0 rfl
    have f0 := BX.f 0 rfl
    have n1 := BX.c 1 rfl
    have f1 := BX.f 1 rfl
    go_simp
    clear n0 f0 n1 f1
    refine hK.out _ _ ((hHeld.set (.inr hX) _).set (.inr hX) _) (fun hNew => ?_)
    clear hHeld hK K
    have hHeld := hNew
    clear hNew
    try simp only [Act.put, List.append, PA, set16]
    try simp only [PB]
    refine at_anyH (fun v => GB (fun _ => False) V4 v ∧ BK v (wc8.heap.size) [.int .i64 w1, .int .i64 w2]) ⟨hHeld, ((BX.set 0 _).set 1 _)⟩ (fun wc13 hS => ?_)
    clear hHeld BX
    obtain ⟨hHeld, BX⟩ := hS
    refine wpAnyH_take (i := 13) (oi := _) (v := ?vc14) rfl (by kernel_rfl) (by kernel_rfl) (by kernel_rfl) (fun _ _ _ h => h) (Or.inl ⟨by kernel_rfl, ?hyc14⟩) hHeld ?restc14
    case hyc14 => (intro w hSw; go_simp; first | done | (with_reducible rfl))
    try simp only [Act.put, List.append, PA, set16]
    try simp only [PB]
    refine wpAnyH_done (by kernel_rfl) ?_ _
    go_wp2_with fail
    go_meet
    exact ⟨_, rfl, rfl, BX, hHeld.toBelow (Below.refl _ _) (fun k hk => hk.elim) (Nat.le_refl _)⟩
   ·
    go_simp
    refine hK.out _ _ (hHeld.al _) (fun hNew => ?_)
    have hX : V4.heap.size ≤ wc0.heap.size := hHeld.size
    clear hHeld hK K
    have hHeld := hNew
    clear hNew
    try simp only [Act.put, List.append, PA, set16]
    try simp only [PB]
    refine at_anyH (fun v => GB (fun _ => False) V4 v ∧ BK v (wc0.heap.size) [.int .i64 0, .int .i64 0]) ⟨hHeld, BK.new _ _ _⟩ (fun wc15 hS => ?_)
    clear hHeld
    obtain ⟨hHeld, BX⟩ := hS
    refine wpAnyH_ready (rs := [7]) (by kernel_rfl) (by simp) (AllReadyH.cons (o := _) rfl (fun K hK => ?_) AllReadyH.nil)
    go_simp
    refine (CV.out _ (hHeld.toBelow hbb (fun k hk => hk.elim) hBV)).mono ?_
    rintro e wc16 ⟨rfl, hb3⟩
    go_wp2_with fail
    refine hK.out _ _ (hHeld.below hb3) (fun hNew => ?_)
    replace BX := BX.keep hb3
    clear hb3
    clear hHeld hK K
    have hHeld := hNew
    clear hNew
    try simp only [Act.put, List.append, PA, set16]
    try simp only [PB]
    refine wpAnyH_take (i := 8) (oi := _) (v := ?vc17) rfl (by kernel_rfl) (by kernel_rfl) (by kernel_rfl) (fun _ _ _ h => h) (Or.inl ⟨by kernel_rfl, ?hyc17⟩) hHeld ?restc17
    case hyc17 => (intro w hSw; go_simp; first | done | (with_reducible rfl))
    try simp only [Act.put, List.append, PA, set16]
    try simp only [PB]
    refine wpAnyH_take (i := 9) (oi := _) (v := ?vc18) rfl (by kernel_rfl) (by kernel_rfl) (by kernel_rfl) (fun _ _ _ h => h) (Or.inl ⟨by kernel_rfl, ?hyc18⟩) hHeld ?restc18
    case hyc18 => (intro w hSw; go_simp; first | done | (with_reducible rfl))
    try simp only [Act.put, List.append, PA, set16]
    try simp only [PB]
    refine wpAnyH_take (i := 10) (oi := _) (v := ?vc19) rfl (by kernel_rfl) (by kernel_rfl) (by kernel_rfl) (fun _ _ _ h => h) (Or.inl ⟨by kernel_rfl, ?hyc19⟩) hHeld ?restc19
    case hyc19 => (intro w hSw; go_simp; first | done | (with_reducible rfl))
    try simp only [Act.put, List.append, PA, set16]
    try simp only [PB]
    refine wpAnyH_ready (rs := [12]) (by kernel_rfl) (by simp) (AllReadyH.cons (o := _) rfl (fun K hK => ?_) AllReadyH.nil)
    have n0 := BX.c 0 rfl
    have f0 := BX.f 0 rfl
    have n1 := BX.c 1 rfl
    have f1 := BX.f 1 rfl
    go_simp
    clear n0 f0 n1 f1
    refine hK.out _ _ ((hHeld.set (.inr hX) _).set (.inr hX) _) (fun hNew => ?_)
    clear hHeld hK K
    have hHeld := hNew
    clear hNew
    try simp only [Act.put, List.append, PA, set16]
    try simp only [PB]
    refine at_anyH (fun v => GB (fun _ => False) V4 v ∧ BK v (wc0.heap.size) [.int .i64 w1, .int .i64 w2]) ⟨hHeld, ((BX.set 0 _).set 1 _)⟩ (fun wc20 hS => ?_)
    clear hHeld BX
    obtain ⟨hHeld, BX⟩ := hS
    refine wpAnyH_take (i := 13) (oi := _) (v := ?vc21) rfl (by kernel_rfl) (by kernel_rfl) (by kernel_rfl) (fun _ _ _ h => h) (Or.inl ⟨by kernel_rfl, ?hyc21⟩) hHeld ?restc21
    case hyc21 => (intro w hSw; go_simp; first | done | (with_reducible rfl))
    try simp only [Act.put, List.append, PA, set16]
    try simp only [PB]
    refine wpAnyH_done (by kernel_rfl) ?_ _
    go_wp2_with fail
    go_meet
    exact ⟨_, rfl, rfl, BX, hHeld.toBelow (Below.refl _ _) (fun k hk => hk.elim) (Nat.le_refl _)⟩
 case rest =>
  obtain ⟨pc, rfl, rfl, Cc, hb⟩ := hcut
  clear c0 c1 c2
  clear p0 p1 x0 x1 z0 z1
  replace B0 := B0.keep hb
  replace B1 := B1.keep hb
  replace B2 := B2.keep hb
  replace Da := Da.keep hb
  replace Ra := Ra.keep hb
  replace Fa := Fa.keep hb
  replace hbb := keepB hbb hb
  clear hb
  have p0 := B0.c 0 rfl
  have p1 := B0.c 1 rfl
  have x0 := B1.c 0 rfl
  have x1 := B1.c 1 rfl
  have z0 := B2.c 0 rfl
  have z1 := B2.c 1 rfl
  go_wp2_with fail
  refine (PK.out _ hbb).mono ?_
  rintro e wd6 hput
  obtain ⟨Ab, mb, cab, Qb, nb, cqb, rfl, hb, Fb⟩ := hput.two HG.out HB.out
  replace Fb : FC G D (qs ++ [(⟨(k : Int), 2, n1, d1, n2, d2, q1, q2⟩ : Qr)]) w.heap.size Ab mb cab Qb nb cqb _ := fun e0 => (Fb e0).elim fun l k => ⟨l, k.1, k.2.1, k.2.2.1, k.2.2.2.mono hbb.size⟩
  clear p0 p1 x0 x1 z0 z1
  replace B0 := B0.keep hb
  replace B1 := B1.keep hb
  replace B2 := B2.keep hb
  replace Da := Da.keep hb
  replace Ra := Ra.keep hb
  replace Fa := Fa.keep hb
  replace Cc := Cc.keep hb
  replace hbb := keepB hbb hb
  clear hb
  obtain ⟨vb, hvb⟩ : ∃ v, Ak.res G (q1, q2, h') = v := ⟨_, rfl⟩
  rw [hvb]
  obtain ⟨vab, vbb⟩ := vb
  have HVb := Lib.hid hvb
  clear hvb
  dsimp only
  have hBb := hbb.size
  go_upto_region 6 with fail
  refine at_worldQ (fun v => Below w.heap.size w v ∧ w.heap.size ≤ v.heap.size ∧ BK v w.heap.size [.slice (some ⟨bb, o, none⟩) cs.length ca, .slice Q qs.length cq] ∧ BK v (w.heap.size + 1) [.int .i64 n1, .int .i64 d1] ∧ BK v (w.heap.size + 2) [.int .i64 n2, .int .i64 d2] ∧ BK v Pa [.slice Aa ma caa, .slice Qa na cqa] ∧ BK v (Pa + 1) [.int .i64 vaa, .int .i64 vba] ∧ FC E D (qs ++ [(⟨(k : Int), 1, n1, d1, n2, d2, w1, w2⟩ : Qr)]) w.heap.size Aa ma caa Qa na cqa v ∧ BK v pc [.int .i64 w1, .int .i64 w2] ∧ BK v wd6.heap.size [.slice Ab mb cab, .slice Qb nb cqb] ∧ BK v (wd6.heap.size + 1) [.int .i64 vab, .int .i64 vbb] ∧ FC G D (qs ++ [(⟨(k : Int), 2, n1, d1, n2, d2, q1, q2⟩ : Qr)]) w.heap.size Ab mb cab Qb nb cqb v) ⟨(by first | exact below_al (below_al hbb _) _ | exact below_al (below_set (below_set (below_al hbb _) (by omega) _) (by omega) _) _), Below.size (B := w.heap.size) (w := w) (by first | exact below_al (below_al hbb _) _ | exact below_al (below_set (below_set (below_al hbb _) (by omega) _) (by omega) _) _), B0.keep (by first | exact below_al (below_al (Below.refl _ _) _) _ | exact below_al (below_set (below_set (below_al (Below.refl _ _) _) (Nat.le_refl _) _) (Nat.le_refl _) _) _), B1.keep (by first | exact below_al (below_al (Below.refl _ _) _) _ | exact below_al (below_set (below_set (below_al (Below.refl _ _) _) (Nat.le_refl _) _) (Nat.le_refl _) _) _), B2.keep (by first | exact below_al (below_al (Below.refl _ _) _) _ | exact below_al (below_set (below_set (below_al (Below.refl _ _) _) (Nat.le_refl _) _) (Nat.le_refl _) _) _), Da.keep (by first | exact below_al (below_al (Below.refl _ _) _) _ | exact below_al (below_set (below_set (below_al (Below.refl _ _) _) (Nat.le_refl _) _) (Nat.le_refl _) _) _), Ra.keep (by first | exact below_al (below_al (Below.refl _ _) _) _ | exact below_al (below_set (below_set (below_al (Below.refl _ _) _) (Nat.le_refl _) _) (Nat.le_refl _) _) _), Fa.keep (by first | exact below_al (below_al (Below.refl _ _) _) _ | exact below_al (below_set (below_set (below_al (Below.refl _ _) _) (Nat.le_refl _) _) (Nat.le_refl _) _) _), Cc.keep (by first | exact below_al (below_al (Below.refl _ _) _) _ | exact below_al (below_set (below_set (below_al (Below.refl _ _) _) (Nat.le_refl _) _) (Nat.le_refl _) _) _), (by first | exact (BK.new _ _ _).al _ | exact (((BK.new _ _ _).set 0 _).set 1 _).al _), (by first | (have b := BK.new (wd6.alloc (.cells #[.slice Ab mb cab, .slice Qb nb cqb] 49)) [.int .i64 vab, .int .i64 vbb] 23; simpa only [World.size_alloc] using b)), Fb.mid (by first | exact ((Mid.refl _ _).al _).al _ | exact ((((Mid.refl _ _).al _).set (.inr (Nat.le_refl _)) _).set (.inr (Nat.le_refl _)) _).al _)⟩ (fun V6 hS => ?_)
  clear hbb B0 B1 B2 Da Ra Fa Cc hBV
  obtain ⟨hbb, hBV, B0, B1, B2, Da, Ra, Fa, Cc, Db, Rb, Fb⟩ := hS
  generalize wd6.heap.size = Pb at *
  have c0 := keepC hbb HCL.out.1
  have c1 := keepC hbb HCL.out.2.1
  have c2 := keepC hbb HCL.out.2.2
  have p0 := B0.c 0 rfl
  have p1 := B0.c 1 rfl
  have x0 := B1.c 0 rfl
  have x1 := B1.c 1 rfl
  have z0 := B2.c 0 rfl
  have z1 := B2.c 1 rfl
  go_cut [19, 20] (fun x y v => ∃ p : Nat, x = .pointer (some ⟨p, 0, none⟩) ∧ y = .int .i64 h' ∧ BK v p [.int .i64 q1, .int .i64 q2] ∧ Below V6.heap.size V6 v)
  case first =>
   as_aux_lemma =>
    refine wp_region_held_drew (S := (GB (fun _ => False) V6)) (by kernel_rfl) ((GB.refl _ _).drew) (fun hHeld => ?_)
    refine at_anyH (fun v => GB (fun _ => False) V6 v) hHeld (fun wd0 hNew => ?_)
    clear hHeld
    have hHeld := hNew
    clear hNew
    refine wpAnyH_take (i := 0) (oi := _) (v := ?vd1) rfl (by kernel_rfl) (by kernel_rfl) (by kernel_rfl) (fun _ _ _ h => h) (Or.inl ⟨by kernel_rfl, ?hyd1⟩) hHeld ?restd1
    case hyd1 => (intro w hSw; go_simp; first | done | (with_reducible rfl))
    try simp only [Act.put, List.append, PA, set16]
    try simp only [PB]
    refine wpAnyH_take (i := 1) (oi := _) (v := ?vd2) rfl (by kernel_rfl) (by kernel_rfl) (by kernel_rfl) (fun _ _ _ h => h) (Or.inl ⟨by kernel_rfl, ?hyd2⟩) hHeld ?restd2
    case hyd2 => (intro w hSw; have kp0 := hSw.cell (fun h => h) p0; have kp1 := hSw.cell (fun h => h) p1; have kx0 := hSw.cell (fun h => h) x0; have kx1 := hSw.cell (fun h => h) x1; have kz0 := hSw.cell (fun h => h) z0; have kz1 := hSw.cell (fun h => h) z1; have kc0 := hSw.cell (fun h => h) c0; have kc1 := hSw.cell (fun h => h) c1; have kc2 := hSw.cell (fun h => h) c2; go_simp; first | done | (with_reducible rfl))
    try simp only [Act.put, List.append, PA, set16]
    try simp only [PB]
    refine wpAnyH_take (i := 2) (oi := _) (v := ?vd3) rfl (by kernel_rfl) (by kernel_rfl) (by kernel_rfl) (fun _ _ _ h => h) (Or.inl ⟨by kernel_rfl, ?hyd3⟩) hHeld ?restd3
    case hyd3 => (intro w hSw; go_simp; first | done | (with_reducible rfl))
    try simp only [Act.put, List.append, PA, set16]
    try simp only [PB]
    refine wpAnyH_take (i := 3) (oi := _) (v := ?vd4) rfl (by kernel_rfl) (by kernel_rfl) (by kernel_rfl) (fun _ _ _ h => h) (Or.inl ⟨by kernel_rfl, ?hyd4⟩) hHeld ?restd4
    case hyd4 => (intro w hSw; go_simp; first | done | (with_reducible rfl))
    try simp only [Act.put, List.append, PA, set16]
    try simp only [PB]
    refine wpAnyH_take (i := 4) (oi := _) (v := ?vd5) rfl (by kernel_rfl) (by kernel_rfl) (by kernel_rfl) (fun _ _ _ h => h) (Or.inl ⟨by kernel_rfl, ?hyd5⟩) hHeld ?restd5
    case hyd5 => (intro w hSw; have kp0 := hSw.cell (fun h => h) p0; have kp1 := hSw.cell (fun h => h) p1; have kx0 := hSw.cell (fun h => h) x0; have kx1 := hSw.cell (fun h => h) x1; have kz0 := hSw.cell (fun h => h) z0; have kz1 := hSw.cell (fun h => h) z1; have kc0 := hSw.cell (fun h => h) c0; have kc1 := hSw.cell (fun h => h) c1; have kc2 := hSw.cell (fun h => h) c2; go_simp; first | done | (with_reducible rfl))
    try simp only [Act.put, List.append, PA, set16]
    try simp only [PB]
    refine wpAnyH_take (i := 5) (oi := _) (v := ?vd6) rfl (by kernel_rfl) (by kernel_rfl) (by kernel_rfl) (fun _ _ _ h => h) (Or.inl ⟨by kernel_rfl, ?hyd6⟩) hHeld ?restd6
    case hyd6 => (intro w hSw; have kp0 := hSw.cell (fun h => h) p0; have kp1 := hSw.cell (fun h => h) p1; have kx0 := hSw.cell (fun h => h) x0; have kx1 := hSw.cell (fun h => h) x1; have kz0 := hSw.cell (fun h => h) z0; have kz1 := hSw.cell (fun h => h) z1; have kc0 := hSw.cell (fun h => h) c0; have kc1 := hSw.cell (fun h => h) c1; have kc2 := hSw.cell (fun h => h) c2; go_simp; first | done | (with_reducible rfl))
    try simp only [Act.put, List.append, PA, set16]
    try simp only [PB]
    refine wpAnyH_take (i := 6) (oi := _) (v := ?vd7) rfl (by kernel_rfl) (by kernel_rfl) (by kernel_rfl) (fun _ _ _ h => h) (Or.inl ⟨by kernel_rfl, ?hyd7⟩) hHeld ?restd7
    case hyd7 => (intro w hSw; have kp0 := hSw.cell (fun h => h) p0; have kp1 := hSw.cell (fun h => h) p1; have kx0 := hSw.cell (fun h => h) x0; have kx1 := hSw.cell (fun h => h) x1; have kz0 := hSw.cell (fun h => h) z0; have kz1 := hSw.cell (fun h => h) z1; have kc0 := hSw.cell (fun h => h) c0; have kc1 := hSw.cell (fun h => h) c1; have kc2 := hSw.cell (fun h => h) c2; go_simp; first | done | (with_reducible rfl))
    try simp only [Act.put, List.append, PA, set16]
    try simp only [PB]
    refine wpAnyH_ready (rs := [7, 11]) (by kernel_rfl) (by simp) (AllReadyH.cons (o := _) rfl (fun K hK => ?_) (AllReadyH.cons (o := _) rfl (fun K hK => ?_) AllReadyH.nil))
    ·
     go_simp
     refine (CM.out _ (hHeld.toBelow hbb (fun k hk => hk.elim) hBV)).mono ?_
     rintro e wd8 ⟨rfl, hb3⟩
     go_wp2_with fail
     refine hK.out _ _ (hHeld.below hb3) (fun hNew => ?_)
     clear hb3
     clear hHeld hK K
     have hHeld := hNew
     clear hNew
     try simp only [Act.put, List.append, PA, set16]
     try simp only [PB]
     refine wpAnyH_take (i := 8) (oi := _) (v := ?vd9) rfl (by kernel_rfl) (by kernel_rfl) (by kernel_rfl) (fun _ _ _ h => h) (Or.inl ⟨by kernel_rfl, ?hyd9⟩) hHeld ?restd9
     case hyd9 => (intro w hSw; go_simp; first | done | (with_reducible rfl))
     try simp only [Act.put, List.append, PA, set16]
     try simp only [PB]
     refine wpAnyH_take (i := 9) (oi := _) (v := ?vd10) rfl (by kernel_rfl) (by kernel_rfl) (by kernel_rfl) (fun _ _ _ h => h) (Or.inl ⟨by kernel_rfl, ?hyd10⟩) hHeld ?restd10
     case hyd10 => (intro w hSw; go_simp; first | done | (with_reducible rfl))
     try simp only [Act.put, List.append, PA, set16]
     try simp only [PB]
     refine wpAnyH_take (i := 10) (oi := _) (v := ?vd11) rfl (by kernel_rfl) (by kernel_rfl) (by kernel_rfl) (fun _ _ _ h => h) (Or.inl ⟨by kernel_rfl, ?hyd11⟩) hHeld ?restd11
     case hyd11 => (intro w hSw; go_simp; first | done | (with_reducible rfl))
     try simp only [Act.put, List.append, PA, set16]
     try simp only [PB]
     refine wpAnyH_ready (rs := [11]) (by kernel_rfl) (by simp) (AllReadyH.cons (o := _) rfl (fun K hK => ?_) AllReadyH.nil)
     go_simp
     refine hK.out _ _ (hHeld.al _) (fun hNew => ?_)
     have hX : V6.heap.size ≤ wd8.heap.size := hHeld.size
     clear hHeld hK K
     have hHeld := hNew
     clear hNew
     try simp only [Act.put, List.append, PA, set16]
     try simp only [PB]
     refine at_anyH (fun v => GB (fun _ => False) V6 v ∧ BK v (wd8.heap.size) [.int .i64 0, .int .i64 0]) ⟨hHeld, BK.new _ _ _⟩ (fun wd12 hS => ?_)
     clear hHeld
     obtain ⟨hHeld, BX⟩ := hS
     refine wpAnyH_ready (rs := [12]) (by kernel_rfl) (by simp) (AllReadyH.cons (o := _) rfl (fun K hK => ?_) AllReadyH.nil)
     have n0 := BX.c 0 rfl
     have f0 := BX.f 0 rfl
     have n1 := BX.c 1 rfl
     have f1 := BX.f 1 rfl
     go_simp
     clear n0 f0 n1 f1
     refine hK.out _ _ ((hHeld.set (.inr hX) _).set (.inr hX) _) (fun hNew => ?_)
     clear hHeld hK K
     have hHeld := hNew
     clear hNew
     try simp only [Act.put, List.append, PA, set16]
     try simp only [PB]
     refine at_anyH (fun v => GB (fun _ => False) V6 v ∧ BK v (wd8.heap.size) [.int .i64 q1, .int .i64 q2]) ⟨hHeld, ((BX.set 0 _).set 1 _)⟩ (fun wd13 hS => ?_)
     clear hHeld BX
     obtain ⟨hHeld, BX⟩ := hS
     refine wpAnyH_take (i := 13) (oi := _) (v := ?vd14) rfl (by kernel_rfl) (by kernel_rfl) (by kernel_rfl) (fun _ _ _ h => h) (Or.inl ⟨by kernel_rfl, ?hyd14⟩) hHeld ?restd14
     case hyd14 => (intro w hSw; go_simp; first | done | (with_reducible rfl))
     try simp only [Act.put, List.append, PA, set16]
     try simp only [PB]
     refine wpAnyH_done (by kernel_rfl) ?_ _
     go_wp2_with fail
     go_meet
     exact ⟨_, rfl, rfl, BX, hHeld.toBelow (Below.refl _ _) (fun k hk => hk.elim) (Nat.le_refl _)⟩
    ·
     go_simp
     refine hK.out _ _ (hHeld.al _) (fun hNew => ?_)
     have hX : V6.heap.size ≤ wd0.heap.size := hHeld.size
     clear hHeld hK K
     have hHeld := hNew
     clear hNew
     try simp only [Act.put, List.append, PA, set16]
     try simp only [PB]
     refine at_anyH (fun v => GB (fun _ => False) V6 v ∧ BK v (wd0.heap.size) [.int .i64 0, .int .i64 0]) ⟨hHeld, BK.new _ _ _⟩ (fun wd15 hS => ?_)
     clear hHeld
     obtain ⟨hHeld, BX⟩ := hS
     refine wpAnyH_ready (rs := [7]) (by kernel_rfl) (by simp) (AllReadyH.cons (o := _) rfl (fun K hK => ?_) AllReadyH.nil)
     go_simp
     refine (CM.out _ (hHeld.toBelow hbb (fun k hk => hk.elim) hBV)).mono ?_
     rintro e wd16 ⟨rfl, hb3⟩
     go_wp2_with fail
     refine hK.out _ _ (hHeld.below hb3) (fun hNew => ?_)
     replace BX := BX.keep hb3
     clear hb3
     clear hHeld hK K
     have hHeld := hNew
     clear hNew
     try simp only [Act.put, List.append, PA, set16]
     try simp only [PB]
     refine wpAnyH_take (i := 8) (oi := _) (v := ?vd17) rfl (by kernel_rfl) (by kernel_rfl) (by kernel_rfl) (fun _ _ _ h => h) (Or.inl ⟨by kernel_rfl, ?hyd17⟩) hHeld ?restd17
     case hyd17 => (intro w hSw; go_simp; first | done | (with_reducible rfl))
     try simp only [Act.put, List.append, PA, set16]
     try simp only [PB]
     refine wpAnyH_take (i := 9) (oi := _) (v := ?vd18) rfl (by kernel_rfl) (by kernel_rfl) (by kernel_rfl) (fun _ _ _ h => h) (Or.inl ⟨by kernel_rfl, ?hyd18⟩) hHeld ?restd18
     case hyd18 => (intro w hSw; go_simp; first | done | (with_reducible rfl))
     try simp only [Act.put, List.append, PA, set16]
     try simp only [PB]
     refine wpAnyH_take (i := 10) (oi := _) (v := ?vd19) rfl (by kernel_rfl) (by kernel_rfl) (by kernel_rfl) (fun _ _ _ h => h) (Or.inl ⟨by kernel_rfl, ?hyd19⟩) hHeld ?restd19
     case hyd19 => (intro w hSw; go_simp; first | done | (with_reducible rfl))
     try simp only [Act.put, List.append, PA, set16]
     try simp only [PB]
     refine wpAnyH_ready (rs := [12]) (by kernel_rfl) (by simp) (AllReadyH.cons (o := _) rfl (fun K hK => ?_) AllReadyH.nil)
     have n0 := BX.c 0 rfl
     have f0 := BX.f 0 rfl
     have n1 := BX.c 1 rfl
     have f1 := BX.f 1 rfl
     go_simp
     clear n0 f0 n1 f1
     refine hK.out _ _ ((hHeld.set (.inr hX) _).set (.inr hX) _) (fun hNew => ?_)
     clear hHeld hK K
     have hHeld := hNew
     clear hNew
     try simp only [Act.put, List.append, PA, set16]
     try simp only [PB]
     refine at_anyH (fun v => GB (fun _ => False) V6 v ∧ BK v (wd0.heap.size) [.int .i64 q1, .int .i64 q2]) ⟨hHeld, ((BX.set 0 _).set 1 _)⟩ (fun wd20 hS => ?_)
     clear hHeld BX
     obtain ⟨hHeld, BX⟩ := hS
     refine wpAnyH_take (i := 13) (oi := _) (v := ?vd21) rfl (by kernel_rfl) (by kernel_rfl) (by kernel_rfl) (fun _ _ _ h => h) (Or.inl ⟨by kernel_rfl, ?hyd21⟩) hHeld ?restd21
     case hyd21 => (intro w hSw; go_simp; first | done | (with_reducible rfl))
     try simp only [Act.put, List.append, PA, set16]
     try simp only [PB]
     refine wpAnyH_done (by kernel_rfl) ?_ _
     go_wp2_with fail
     go_meet
     exact ⟨_, rfl, rfl, BX, hHeld.toBelow (Below.refl _ _) (fun k hk => hk.elim) (Nat.le_refl _)⟩
  case rest =>
   obtain ⟨pd, rfl, rfl, Cd, hb⟩ := hcut
   clear c0 c1 c2
   clear p0 p1 x0 x1 z0 z1
   replace B0 := B0.keep hb
   replace B1 := B1.keep hb
   replace B2 := B2.keep hb
   replace Da := Da.keep hb
   replace Ra := Ra.keep hb
   replace Fa := Fa.keep hb
   replace Cc := Cc.keep hb
   replace Db := Db.keep hb
   replace Rb := Rb.keep hb
   replace Fb := Fb.keep hb
   replace hbb := keepB hbb hb
   clear hb
   have p1 := B0.c 1 rfl
   obtain ⟨fl, hfl⟩ : ∃ fl : Bool, ((qs.length : Int) == 2000) = fl := ⟨_, rfl⟩
   go_upto_region 8 with fail
   clear p1
   refine at_worldQ (fun v => Below w.heap.size w v ∧ w.heap.size ≤ v.heap.size ∧ BK v w.heap.size [.slice (some ⟨bb, o, none⟩) cs.length ca, .slice Q qs.length cq] ∧ BK v (w.heap.size + 1) [.int .i64 n1, .int .i64 d1] ∧ BK v (w.heap.size + 2) [.int .i64 n2, .int .i64 d2] ∧ BK v Pa [.slice Aa ma caa, .slice Qa na cqa] ∧ BK v (Pa + 1) [.int .i64 vaa, .int .i64 vba] ∧ FC E D (qs ++ [(⟨(k : Int), 1, n1, d1, n2, d2, w1, w2⟩ : Qr)]) w.heap.size Aa ma caa Qa na cqa v ∧ BK v pc [.int .i64 w1, .int .i64 w2] ∧ BK v Pb [.slice Ab mb cab, .slice Qb nb cqb] ∧ BK v (Pb + 1) [.int .i64 vab, .int .i64 vbb] ∧ FC G D (qs ++ [(⟨(k : Int), 2, n1, d1, n2, d2, q1, q2⟩ : Qr)]) w.heap.size Ab mb cab Qb nb cqb v ∧ BK v pd [.int .i64 q1, .int .i64 q2]) ⟨hbb, Below.size (B := w.heap.size) (w := w) hbb, B0, B1, B2, Da, Ra, Fa, Cc, Db, Rb, Fb, Cd⟩ (fun V8 hS => ?_)
   clear hbb B0 B1 B2 Da Ra Fa Cc Db Rb Fb Cd hBV
   obtain ⟨hbb, hBV, B0, B1, B2, Da, Ra, Fa, Cc, Db, Rb, Fb, Cd⟩ := hS
   have HFL := Lib.hid hfl
   clear hfl
   go_cut [162] (fun x v => x = .bool false ∧ Below V8.heap.size V8 v)
   case first =>
    as_aux_lemma =>
     have ra0 := Ra.c 0 rfl
     have ra1 := Ra.c 1 rfl
     have cc0 := Cc.c 0 rfl
     have cc1 := Cc.c 1 rfl
     have rb0 := Rb.c 0 rfl
     have rb1 := Rb.c 1 rfl
     have cd0 := Cd.c 0 rfl
     have cd1 := Cd.c 1 rfl
     by_cases hm : qs.length = 2000
     ·
      obtain rfl : fl = true := by rw [← HFL.out, hm]; rfl
      by_cases hff : f = 0
      case neg =>
       by_cases hfh : h' = 0
       case neg =>
        have nE : (f != 0) = true := by rw [bne_iff_ne]; exact hff
        have bE : (f == 0) = false := by rw [beq_eq_false_iff_ne]; exact hff
        have hEE : E = f := HEE.out.trans (if_pos hff)
        clear hff
        subst hEE
        have nG : (h' != 0) = true := by rw [bne_iff_ne]; exact hfh
        have bG : (h' == 0) = false := by rw [beq_eq_false_iff_ne]; exact hfh
        have hEG : G = h' := HGG.out.trans (if_pos hfh)
        clear hfh
        subst hEG
        clear hm
        go_wp2_with fail
        go_meet
        exact ⟨by first | rfl | simp, by first | exact Below.refl _ _ | exact below_drewN (Below.refl _ _) _⟩
       case pos =>
        have nE : (f != 0) = true := by rw [bne_iff_ne]; exact hff
        have bE : (f == 0) = false := by rw [beq_eq_false_iff_ne]; exact hff
        have hEE : E = f := HEE.out.trans (if_pos hff)
        clear hff
        subst hEE
        subst hfh
        obtain rfl : G = 4 := by rw [HGG.out, if_neg (by decide), if_pos hm]
        clear hm
        go_wp2_with fail
        go_meet
        exact ⟨by first | rfl | simp, by first | exact Below.refl _ _ | exact below_drewN (Below.refl _ _) _⟩
      case pos =>
       by_cases hfh : h' = 0
       case neg =>
        subst hff
        obtain rfl : E = 4 := by rw [HEE.out, if_neg (by decide), if_pos hm]
        have nG : (h' != 0) = true := by rw [bne_iff_ne]; exact hfh
        have bG : (h' == 0) = false := by rw [beq_eq_false_iff_ne]; exact hfh
        have hEG : G = h' := HGG.out.trans (if_pos hfh)
        clear hfh
        subst hEG
        clear hm
        go_wp2_with fail
        go_meet
        exact ⟨by first | rfl | simp, by first | exact Below.refl _ _ | exact below_drewN (Below.refl _ _) _⟩
       case pos =>
        subst hff
        obtain rfl : E = 4 := by rw [HEE.out, if_neg (by decide), if_pos hm]
        subst hfh
        obtain rfl : G = 4 := by rw [HGG.out, if_neg (by decide), if_pos hm]
        clear hm
        go_wp2_with fail
        go_meet
        exact ⟨by first | rfl | simp, by first | exact Below.refl _ _ | exact below_drewN (Below.refl _ _) _⟩
     ·
      obtain rfl : fl = false := by rw [← HFL.out, beq_eq_false_iff_ne]; omega
      by_cases hff : f = 0
      case neg =>
       by_cases hfh : h' = 0
       case neg =>
        have nE : (f != 0) = true := by rw [bne_iff_ne]; exact hff
        have bE : (f == 0) = false := by rw [beq_eq_false_iff_ne]; exact hff
        have hEE : E = f := HEE.out.trans (if_pos hff)
        clear hff
        subst hEE
        have nG : (h' != 0) = true := by rw [bne_iff_ne]; exact hfh
        have bG : (h' == 0) = false := by rw [beq_eq_false_iff_ne]; exact hfh
        have hEG : G = h' := HGG.out.trans (if_pos hfh)
        clear hfh
        subst hEG
        clear hm
        go_wp2_with fail
        go_meet
        exact ⟨by first | rfl | simp, by first | exact Below.refl _ _ | exact below_drewN (Below.refl _ _) _⟩
       case pos =>
        have nE : (f != 0) = true := by rw [bne_iff_ne]; exact hff
        have bE : (f == 0) = false := by rw [beq_eq_false_iff_ne]; exact hff
        have hEE : E = f := HEE.out.trans (if_pos hff)
        clear hff
        subst hEE
        subst hfh
        obtain rfl : G = 0 := by rw [HGG.out, if_neg (by decide), if_neg hm]
        have hwG := HVb.out
        unfold Ak.res at hwG
        rw [if_pos rfl] at hwG
        simp only [Prod.mk.injEq] at hwG
        rw [← hwG.1] at rb0
        rw [← hwG.2] at rb1
        clear hwG
        clear hm
        go_wp2_with fail
        go_meet
        exact ⟨by first | rfl | simp, by first | exact Below.refl _ _ | exact below_drewN (Below.refl _ _) _⟩
      case pos =>
       by_cases hfh : h' = 0
       case neg =>
        subst hff
        obtain rfl : E = 0 := by rw [HEE.out, if_neg (by decide), if_neg hm]
        have hwE := HVa.out
        unfold Ak.res at hwE
        rw [if_pos rfl] at hwE
        simp only [Prod.mk.injEq] at hwE
        rw [← hwE.1] at ra0
        rw [← hwE.2] at ra1
        clear hwE
        have nG : (h' != 0) = true := by rw [bne_iff_ne]; exact hfh
        have bG : (h' == 0) = false := by rw [beq_eq_false_iff_ne]; exact hfh
        have hEG : G = h' := HGG.out.trans (if_pos hfh)
        clear hfh
        subst hEG
        clear hm
        go_wp2_with fail
        go_meet
        exact ⟨by first | rfl | simp, by first | exact Below.refl _ _ | exact below_drewN (Below.refl _ _) _⟩
       case pos =>
        subst hff
        obtain rfl : E = 0 := by rw [HEE.out, if_neg (by decide), if_neg hm]
        have hwE := HVa.out
        unfold Ak.res at hwE
        rw [if_pos rfl] at hwE
        simp only [Prod.mk.injEq] at hwE
        rw [← hwE.1] at ra0
        rw [← hwE.2] at ra1
        clear hwE
        subst hfh
        obtain rfl : G = 0 := by rw [HGG.out, if_neg (by decide), if_neg hm]
        have hwG := HVb.out
        unfold Ak.res at hwG
        rw [if_pos rfl] at hwG
        simp only [Prod.mk.injEq] at hwG
        rw [← hwG.1] at rb0
        rw [← hwG.2] at rb1
        clear hwG
        clear hm
        go_wp2_with fail
        go_meet
        exact ⟨by first | rfl | simp, by first | exact Below.refl _ _ | exact below_drewN (Below.refl _ _) _⟩
   case rest =>
    obtain ⟨rfl, hb⟩ := hcut
    replace B0 := B0.keep hb
    replace B1 := B1.keep hb
    replace B2 := B2.keep hb
    replace Da := Da.keep hb
    replace Ra := Ra.keep hb
    replace Fa := Fa.keep hb
    replace Cc := Cc.keep hb
    replace Db := Db.keep hb
    replace Rb := Rb.keep hb
    replace Fb := Fb.keep hb
    replace Cd := Cd.keep hb
    replace hbb := keepB hbb hb
    clear hb
    go_upto_region 10 with fail
    refine at_worldQ (fun v => Below w.heap.size w v ∧ w.heap.size ≤ v.heap.size ∧ BK v w.heap.size [.slice (some ⟨bb, o, none⟩) cs.length ca, .slice Q qs.length cq] ∧ BK v (w.heap.size + 1) [.int .i64 n1, .int .i64 d1] ∧ BK v (w.heap.size + 2) [.int .i64 n2, .int .i64 d2] ∧ BK v Pa [.slice Aa ma caa, .slice Qa na cqa] ∧ BK v (Pa + 1) [.int .i64 vaa, .int .i64 vba] ∧ FC E D (qs ++ [(⟨(k : Int), 1, n1, d1, n2, d2, w1, w2⟩ : Qr)]) w.heap.size Aa ma caa Qa na cqa v ∧ BK v pc [.int .i64 w1, .int .i64 w2] ∧ BK v Pb [.slice Ab mb cab, .slice Qb nb cqb] ∧ BK v (Pb + 1) [.int .i64 vab, .int .i64 vbb] ∧ FC G D (qs ++ [(⟨(k : Int), 2, n1, d1, n2, d2, q1, q2⟩ : Qr)]) w.heap.size Ab mb cab Qb nb cqb v ∧ BK v pd [.int .i64 q1, .int .i64 q2]) ⟨hbb, Below.size (B := w.heap.size) (w := w) hbb, B0, B1, B2, Da, Ra, Fa, Cc, Db, Rb, Fb, Cd⟩ (fun V10 hS => ?_)
    clear hbb B0 B1 B2 Da Ra Fa Cc Db Rb Fb Cd hBV
    obtain ⟨hbb, hBV, B0, B1, B2, Da, Ra, Fa, Cc, Db, Rb, Fb, Cd⟩ := hS
    go_cut [194] (fun x v => x = .bool false ∧ Below V10.heap.size V10 v)
    case first =>
     as_aux_lemma =>
      by_cases hE0 : E = 0
      ·
       have hfa := Fa hE0
       obtain ⟨l, hml, hnl, hdl, hfd⟩ := hfa
       subst hE0
       have hwr : IntKind.i64.wrap ((qs.length : Int) + 1) = (qs.length : Int) + 1 := IntWalk.i64_in _ (by omega)
       obtain ⟨g, cap', hv, _, hglt⟩ := World.ownsRow.form hfd.log (by simp)
       simp only [Value.slice.injEq] at hv
       obtain ⟨rfl, _, rfl⟩ := hv
       have hcap := row_le hfd.log
       have SL := Lib.hid (fun v (hv : Below V10.heap.size V10 v) => rSameLogs_any (some ⟨g, 0, none⟩) Q cqa cq qs qs v (hfd.isQs.pre.keep hv) (HHQ.out.keep (keepB hbb hv)))
       rw [decide_eq_true rfl] at SL
       have SM := Lib.hid (fun v (hv : Below V10.heap.size V10 v) => rSameCakes_any Aa (some ⟨bb, o, none⟩) caa ca l cs v (hfd.isCs.keep hv) (HH.out.keep (keepB hbb hv)))
       rw [hdl, HD.out, decide_eq_true rfl] at SM
       have hna : na = qs.length + 1 := by rw [hnl]; simp
       subst hna
       subst hml
       have d0 := Da.c 0 rfl
       have d1 := Da.c 1 rfl
       have p0 := B0.c 0 rfl
       have p1 := B0.c 1 rfl
       rw [List.length_append, List.length_singleton] at hcap
       have hq1 : (0 : Int) ≤ (qs.length : Int) := by omega
       have hq2' : (qs.length : Int) ≤ (cqa : Int) := by omega
       clear hnl hfd Fa hdl
       refine wp_region_held_drew (S := (GB (fun _ => False) V10)) (by kernel_rfl) ((GB.refl _ _).drew) (fun hHeld => ?_)
       refine at_anyH (fun v => GB (fun _ => False) V10 v) hHeld (fun wf0 hNew => ?_)
       clear hHeld
       have hHeld := hNew
       clear hNew
       refine wpAnyH_take (i := 0) (oi := _) (v := ?vf1) rfl (by kernel_rfl) (by kernel_rfl) (by kernel_rfl) (fun _ _ _ h => h) (Or.inl ⟨by kernel_rfl, ?hyf1⟩) hHeld ?restf1
       case hyf1 => (intro w hSw; go_simp; first | done | (with_reducible rfl))
       try simp only [Act.put, List.append, PA, set16]
       try simp only [PB]
       refine wpAnyH_take (i := 1) (oi := _) (v := ?vf2) rfl (by kernel_rfl) (by kernel_rfl) (by kernel_rfl) (fun _ _ _ h => h) (Or.inl ⟨by kernel_rfl, ?hyf2⟩) hHeld ?restf2
       case hyf2 => (intro w hSw; go_simp; first | done | (with_reducible rfl))
       try simp only [Act.put, List.append, PA, set16]
       try simp only [PB]
       refine wpAnyH_take (i := 2) (oi := _) (v := ?vf3) rfl (by kernel_rfl) (by kernel_rfl) (by kernel_rfl) (fun _ _ _ h => h) (Or.inl ⟨by kernel_rfl, ?hyf3⟩) hHeld ?restf3
       case hyf3 => (intro w hSw; go_simp; first | done | (with_reducible rfl))
       try simp only [Act.put, List.append, PA, set16]
       try simp only [PB]
       refine wpAnyH_take (i := 3) (oi := _) (v := ?vf4) rfl (by kernel_rfl) (by kernel_rfl) (by kernel_rfl) (fun _ _ _ h => h) (Or.inl ⟨by kernel_rfl, ?hyf4⟩) hHeld ?restf4
       case hyf4 => (intro w hSw; go_simp; first | done | (with_reducible rfl))
       try simp only [Act.put, List.append, PA, set16]
       try simp only [PB]
       refine wpAnyH_take (i := 4) (oi := _) (v := ?vf5) rfl (by kernel_rfl) (by kernel_rfl) (by kernel_rfl) (fun _ _ _ h => h) (Or.inl ⟨by kernel_rfl, ?hyf5⟩) hHeld ?restf5
       case hyf5 => (intro w hSw; have kd0 := hSw.cell (fun h => h) d0; have kd1 := hSw.cell (fun h => h) d1; have kp0 := hSw.cell (fun h => h) p0; have kp1 := hSw.cell (fun h => h) p1; go_simp; first | done | (with_reducible rfl))
       try simp only [Act.put, List.append, PA, set16]
       try simp only [PB]
       refine wpAnyH_take (i := 5) (oi := _) (v := ?vf6) rfl (by kernel_rfl) (by kernel_rfl) (by kernel_rfl) (fun _ _ _ h => h) (Or.inl ⟨by kernel_rfl, ?hyf6⟩) hHeld ?restf6
       case hyf6 => (intro w hSw; go_simp; first | done | (with_reducible rfl))
       try simp only [Act.put, List.append, PA, set16]
       try simp only [PB]
       refine wpAnyH_take (i := 6) (oi := _) (v := ?vf7) rfl (by kernel_rfl) (by kernel_rfl) (by kernel_rfl) (fun _ _ _ h => h) (Or.inl ⟨by kernel_rfl, ?hyf7⟩) hHeld ?restf7
       case hyf7 => (intro w hSw; go_simp; first | done | (with_reducible rfl))
       try simp only [Act.put, List.append, PA, set16]
       try simp only [PB]
       refine wpAnyH_take (i := 7) (oi := _) (v := ?vf8) rfl (by kernel_rfl) (by kernel_rfl) (by kernel_rfl) (fun _ _ _ h => h) (Or.inl ⟨by kernel_rfl, ?hyf8⟩) hHeld ?restf8
       case hyf8 => (intro w hSw; have kd0 := hSw.cell (fun h => h) d0; have kd1 := hSw.cell (fun h => h) d1; have kp0 := hSw.cell (fun h => h) p0; have kp1 := hSw.cell (fun h => h) p1; go_simp; first | done | (with_reducible rfl))
       try simp only [Act.put, List.append, PA, set16]
       try simp only [PB]
       refine wpAnyH_take (i := 8) (oi := _) (v := ?vf9) rfl (by kernel_rfl) (by kernel_rfl) (by kernel_rfl) (fun _ _ _ h => h) (Or.inl ⟨by kernel_rfl, ?hyf9⟩) hHeld ?restf9
       case hyf9 => (intro w hSw; go_simp; first | done | (with_reducible rfl))
       try simp only [Act.put, List.append, PA, set16]
       try simp only [PB]
       refine wpAnyH_take (i := 9) (oi := _) (v := ?vf10) rfl (by kernel_rfl) (by kernel_rfl) (by kernel_rfl) (fun _ _ _ h => h) (Or.inl ⟨by kernel_rfl, ?hyf10⟩) hHeld ?restf10
       case hyf10 => (intro w hSw; go_simp; first | done | (with_reducible rfl))
       try simp only [Act.put, List.append, PA, set16]
       try simp only [PB]
       refine wpAnyH_take (i := 10) (oi := _) (v := ?vf11) rfl (by kernel_rfl) (by kernel_rfl) (by kernel_rfl) (fun _ _ _ h => h) (Or.inl ⟨by kernel_rfl, ?hyf11⟩) hHeld ?restf11
       case hyf11 => (intro w hSw; go_simp; first | done | (with_reducible rfl))
       try simp only [Act.put, List.append, PA, set16]
       try simp only [PB]
       refine wpAnyH_take (i := 11) (oi := _) (v := ?vf12) rfl (by kernel_rfl) (by kernel_rfl) (by kernel_rfl) (fun _ _ _ h => h) (Or.inl ⟨by kernel_rfl, ?hyf12⟩) hHeld ?restf12
       case hyf12 => (intro w hSw; go_simp; first | done | (with_reducible rfl))
       try simp only [Act.put, List.append, PA, set16]
       try simp only [PB]
       refine wpAnyH_take (i := 12) (oi := _) (v := ?vf13) rfl (by kernel_rfl) (by kernel_rfl) (by kernel_rfl) (fun _ _ _ h => h) (Or.inl ⟨by kernel_rfl, ?hyf13⟩) hHeld ?restf13
       case hyf13 => (intro w hSw; go_simp; first | done | (with_reducible rfl))
       try simp only [Act.put, List.append, PA, set16]
       try simp only [PB]
       refine wpAnyH_take (i := 13) (oi := _) (v := ?vf14) rfl (by kernel_rfl) (by kernel_rfl) (by kernel_rfl) (fun _ _ _ h => h) (Or.inl ⟨by kernel_rfl, ?hyf14⟩) hHeld ?restf14
       case hyf14 => (intro w hSw; have kd0 := hSw.cell (fun h => h) d0; have kd1 := hSw.cell (fun h => h) d1; have kp0 := hSw.cell (fun h => h) p0; have kp1 := hSw.cell (fun h => h) p1; go_simp; first | done | (with_reducible rfl))
       try simp only [Act.put, List.append, PA, set16]
       try simp only [PB]
       refine wpAnyH_take (i := 14) (oi := _) (v := ?vf15) rfl (by kernel_rfl) (by kernel_rfl) (by kernel_rfl) (fun _ _ _ h => h) (Or.inl ⟨by kernel_rfl, ?hyf15⟩) hHeld ?restf15
       case hyf15 => (intro w hSw; go_simp; first | done | (with_reducible rfl))
       try simp only [Act.put, List.append, PA, set16]
       try simp only [PB]
       refine wpAnyH_take (i := 15) (oi := _) (v := ?vf16) rfl (by kernel_rfl) (by kernel_rfl) (by kernel_rfl) (fun _ _ _ h => h) (Or.inl ⟨by kernel_rfl, ?hyf16⟩) hHeld ?restf16
       case hyf16 => (intro w hSw; have kd0 := hSw.cell (fun h => h) d0; have kd1 := hSw.cell (fun h => h) d1; have kp0 := hSw.cell (fun h => h) p0; have kp1 := hSw.cell (fun h => h) p1; go_simp; first | done | (with_reducible rfl))
       try simp only [Act.put, List.append, PA, set16]
       try simp only [PB]
       refine wpAnyH_take (i := 16) (oi := _) (v := ?vf17) rfl (by kernel_rfl) (by kernel_rfl) (by kernel_rfl) (fun _ _ _ h => h) (Or.inl ⟨by kernel_rfl, ?hyf17⟩) hHeld ?restf17
       case hyf17 => (intro w hSw; go_simp; first | done | (with_reducible rfl))
       try simp only [Act.put, List.append, PA, set16]
       try simp only [PB]
       refine wpAnyH_take (i := 17) (oi := _) (v := ?vf18) rfl (by kernel_rfl) (by kernel_rfl) (by kernel_rfl) (fun _ _ _ h => h) (Or.inl ⟨by kernel_rfl, ?hyf18⟩) hHeld ?restf18
       case hyf18 => (intro w hSw; go_simp; first | done | (with_reducible rfl))
       try simp only [Act.put, List.append, PA, set16]
       try simp only [PB]
       refine wpAnyH_take (i := 18) (oi := _) (v := ?vf19) rfl (by kernel_rfl) (by kernel_rfl) (by kernel_rfl) (fun _ _ _ h => h) (Or.inl ⟨by kernel_rfl, ?hyf19⟩) hHeld ?restf19
       case hyf19 => (intro w hSw; go_simp; first | done | (with_reducible rfl))
       try simp only [Act.put, List.append, PA, set16]
       try simp only [PB]
       refine wpAnyH_take (i := 19) (oi := _) (v := ?vf20) rfl (by kernel_rfl) (by kernel_rfl) (by kernel_rfl) (fun _ _ _ h => h) (Or.inl ⟨by kernel_rfl, ?hyf20⟩) hHeld ?restf20
       case hyf20 => (intro w hSw; have kd0 := hSw.cell (fun h => h) d0; have kd1 := hSw.cell (fun h => h) d1; have kp0 := hSw.cell (fun h => h) p0; have kp1 := hSw.cell (fun h => h) p1; go_simp; first | done | (with_reducible rfl))
       try simp only [Act.put, List.append, PA, set16]
       try simp only [PB]
       refine wpAnyH_ready (rs := [20]) (by kernel_rfl) (by simp) (AllReadyH.cons (o := _) rfl (fun K hK => ?_) AllReadyH.nil)
       go_simp
       refine (SL.out _ (hHeld.toBelow (Below.refl _ _) (fun k hk => hk.elim) (Nat.le_refl _))).mono ?_
       rintro e wf21 ⟨rfl, hb3⟩
       go_wp2_with fail
       refine hK.out _ _ (hHeld.below hb3) (fun hNew => ?_)
       clear hb3
       clear hHeld hK K
       have hHeld := hNew
       clear hNew
       try simp only [Act.put, List.append, PA, set16]
       try simp only [PB]
       refine wpAnyH_take (i := 21) (oi := _) (v := ?vf22) rfl (by kernel_rfl) (by kernel_rfl) (by kernel_rfl) (fun _ _ _ h => h) (Or.inl ⟨by kernel_rfl, ?hyf22⟩) hHeld ?restf22
       case hyf22 => (intro w hSw; go_simp; first | done | (with_reducible rfl))
       try simp only [Act.put, List.append, PA, set16]
       try simp only [PB]
       refine wpAnyH_take (i := 22) (oi := _) (v := ?vf23) rfl (by kernel_rfl) (by kernel_rfl) (by kernel_rfl) (fun _ _ _ h => h) (Or.inl ⟨by kernel_rfl, ?hyf23⟩) hHeld ?restf23
       case hyf23 => (intro w hSw; go_simp; first | done | (with_reducible rfl))
       try simp only [Act.put, List.append, PA, set16]
       try simp only [PB]
       refine wpAnyH_take (i := 23) (oi := _) (v := ?vf24) rfl (by kernel_rfl) (by kernel_rfl) (by kernel_rfl) (fun _ _ _ h => h) (Or.inl ⟨by kernel_rfl, ?hyf24⟩) hHeld ?restf24
       case hyf24 => (intro w hSw; go_simp; first | done | (with_reducible rfl))
       try simp only [Act.put, List.append, PA, set16]
       try simp only [PB]
       refine wpAnyH_take (i := 24) (oi := _) (v := ?vf25) rfl (by kernel_rfl) (by kernel_rfl) (by kernel_rfl) (fun _ _ _ h => h) (Or.inl ⟨by kernel_rfl, ?hyf25⟩) hHeld ?restf25
       case hyf25 => (intro w hSw; go_simp; first | done | (with_reducible rfl))
       try simp only [Act.put, List.append, PA, set16]
       try simp only [PB]
       refine wpAnyH_take (i := 25) (oi := _) (v := ?vf26) rfl (by kernel_rfl) (by kernel_rfl) (by kernel_rfl) (fun _ _ _ h => h) (Or.inl ⟨by kernel_rfl, ?hyf26⟩) hHeld ?restf26
       case hyf26 => (intro w hSw; have kd0 := hSw.cell (fun h => h) d0; have kd1 := hSw.cell (fun h => h) d1; have kp0 := hSw.cell (fun h => h) p0; have kp1 := hSw.cell (fun h => h) p1; go_simp; first | done | (with_reducible rfl))
       try simp only [Act.put, List.append, PA, set16]
       try simp only [PB]
       refine wpAnyH_take (i := 26) (oi := _) (v := ?vf27) rfl (by kernel_rfl) (by kernel_rfl) (by kernel_rfl) (fun _ _ _ h => h) (Or.inl ⟨by kernel_rfl, ?hyf27⟩) hHeld ?restf27
       case hyf27 => (intro w hSw; go_simp; first | done | (with_reducible rfl))
       try simp only [Act.put, List.append, PA, set16]
       try simp only [PB]
       refine wpAnyH_take (i := 27) (oi := _) (v := ?vf28) rfl (by kernel_rfl) (by kernel_rfl) (by kernel_rfl) (fun _ _ _ h => h) (Or.inl ⟨by kernel_rfl, ?hyf28⟩) hHeld ?restf28
       case hyf28 => (intro w hSw; have kd0 := hSw.cell (fun h => h) d0; have kd1 := hSw.cell (fun h => h) d1; have kp0 := hSw.cell (fun h => h) p0; have kp1 := hSw.cell (fun h => h) p1; go_simp; first | done | (with_reducible rfl))
       try simp only [Act.put, List.append, PA, set16]
       try simp only [PB]
       refine wpAnyH_ready (rs := [28]) (by kernel_rfl) (by simp) (AllReadyH.cons (o := _) rfl (fun K hK => ?_) AllReadyH.nil)
       go_simp
       refine (SM.out _ (hHeld.toBelow (Below.refl _ _) (fun k hk => hk.elim) (Nat.le_refl _))).mono ?_
       rintro e wf29 ⟨rfl, hb3⟩
       go_wp2_with fail
       refine hK.out _ _ (hHeld.below hb3) (fun hNew => ?_)
       clear hb3
       clear hHeld hK K
       have hHeld := hNew
       clear hNew
       try simp only [Act.put, List.append, PA, set16]
       try simp only [PB]
       refine wpAnyH_take (i := 29) (oi := _) (v := ?vf30) rfl (by kernel_rfl) (by kernel_rfl) (by kernel_rfl) (fun _ _ _ h => h) (Or.inl ⟨by kernel_rfl, ?hyf30⟩) hHeld ?restf30
       case hyf30 => (intro w hSw; go_simp; first | done | (with_reducible rfl))
       try simp only [Act.put, List.append, PA, set16]
       try simp only [PB]
       refine wpAnyH_take (i := 30) (oi := _) (v := ?vf31) rfl (by kernel_rfl) (by kernel_rfl) (by kernel_rfl) (fun _ _ _ h => h) (Or.inl ⟨by kernel_rfl, ?hyf31⟩) hHeld ?restf31
       case hyf31 => (intro w hSw; go_simp; first | done | (with_reducible rfl))
       try simp only [Act.put, List.append, PA, set16]
       try simp only [PB]
       refine wpAnyH_take (i := 31) (oi := _) (v := ?vf32) rfl (by kernel_rfl) (by kernel_rfl) (by kernel_rfl) (fun _ _ _ h => h) (Or.inl ⟨by kernel_rfl, ?hyf32⟩) hHeld ?restf32
       case hyf32 => (intro w hSw; go_simp; first | done | (with_reducible rfl))
       try simp only [Act.put, List.append, PA, set16]
       try simp only [PB]
       refine wpAnyH_done (by kernel_rfl) ?_ _
       go_wp2_with fail
       go_meet
       exact ⟨by first | rfl | simp, hHeld.toBelow (Below.refl _ _) (fun k hk => hk.elim) (Nat.le_refl _)⟩
      ·
       have eE : (E == 0) = false := by rw [beq_eq_false_iff_ne]; exact hE0
       refine wp_region_held_drew (S := (GB (fun _ => False) V10)) (by kernel_rfl) ((GB.refl _ _).drew) (fun hHeld => ?_)
       refine at_anyH (fun v => GB (fun _ => False) V10 v) hHeld (fun we0 hNew => ?_)
       clear hHeld
       have hHeld := hNew
       clear hNew
       refine wpAnyH_take (i := 0) (oi := _) (v := ?ve1) rfl (by kernel_rfl) (by kernel_rfl) (by kernel_rfl) (fun _ _ _ h => h) (Or.inl ⟨by kernel_rfl, ?hye1⟩) hHeld ?reste1
       case hye1 => (intro w hSw; go_simp; first | done | (with_reducible rfl))
       try simp only [Act.put, List.append, PA, set16]
       try simp only [PB]
       refine wpAnyH_take (i := 1) (oi := _) (v := ?ve2) rfl (by kernel_rfl) (by kernel_rfl) (by kernel_rfl) (fun _ _ _ h => h) (Or.inl ⟨by kernel_rfl, ?hye2⟩) hHeld ?reste2
       case hye2 => (intro w hSw; go_simp; first | done | (with_reducible rfl))
       try simp only [Act.put, List.append, PA, set16]
       try simp only [PB]
       refine wpAnyH_take (i := 2) (oi := _) (v := ?ve3) rfl (by kernel_rfl) (by kernel_rfl) (by kernel_rfl) (fun _ _ _ h => h) (Or.inl ⟨by kernel_rfl, ?hye3⟩) hHeld ?reste3
       case hye3 => (intro w hSw; go_simp; first | done | (with_reducible rfl))
       try simp only [Act.put, List.append, PA, set16]
       try simp only [PB]
       refine wpAnyH_take (i := 3) (oi := _) (v := undef) rfl (by kernel_rfl) (by kernel_rfl) (by kernel_rfl) (fun _ _ _ h => h) (Or.inr ⟨by kernel_rfl, rfl⟩) hHeld ?_
       try simp only [Act.put, List.append, PA, set16]
       try simp only [PB]
       refine wpAnyH_take (i := 4) (oi := _) (v := undef) rfl (by kernel_rfl) (by kernel_rfl) (by kernel_rfl) (fun _ _ _ h => h) (Or.inr ⟨by kernel_rfl, rfl⟩) hHeld ?_
       try simp only [Act.put, List.append, PA, set16]
       try simp only [PB]
       refine wpAnyH_take (i := 5) (oi := _) (v := undef) rfl (by kernel_rfl) (by kernel_rfl) (by kernel_rfl) (fun _ _ _ h => h) (Or.inr ⟨by kernel_rfl, rfl⟩) hHeld ?_
       try simp only [Act.put, List.append, PA, set16]
       try simp only [PB]
       refine wpAnyH_take (i := 6) (oi := _) (v := undef) rfl (by kernel_rfl) (by kernel_rfl) (by kernel_rfl) (fun _ _ _ h => h) (Or.inr ⟨by kernel_rfl, rfl⟩) hHeld ?_
       try simp only [Act.put, List.append, PA, set16]
       try simp only [PB]
       refine wpAnyH_take (i := 7) (oi := _) (v := undef) rfl (by kernel_rfl) (by kernel_rfl) (by kernel_rfl) (fun _ _ _ h => h) (Or.inr ⟨by kernel_rfl, rfl⟩) hHeld ?_
       try simp only [Act.put, List.append, PA, set16]
       try simp only [PB]
       refine wpAnyH_take (i := 8) (oi := _) (v := undef) rfl (by kernel_rfl) (by kernel_rfl) (by kernel_rfl) (fun _ _ _ h => h) (Or.inr ⟨by kernel_rfl, rfl⟩) hHeld ?_
       try simp only [Act.put, List.append, PA, set16]
       try simp only [PB]
       refine wpAnyH_take (i := 9) (oi := _) (v := undef) rfl (by kernel_rfl) (by kernel_rfl) (by kernel_rfl) (fun _ _ _ h => h) (Or.inr ⟨by kernel_rfl, rfl⟩) hHeld ?_
       try simp only [Act.put, List.append, PA, set16]
       try simp only [PB]
       refine wpAnyH_take (i := 10) (oi := _) (v := undef) rfl (by kernel_rfl) (by kernel_rfl) (by kernel_rfl) (fun _ _ _ h => h) (Or.inr ⟨by kernel_rfl, rfl⟩) hHeld ?_
       try simp only [Act.put, List.append, PA, set16]
       try simp only [PB]
       refine wpAnyH_take (i := 11) (oi := _) (v := undef) rfl (by kernel_rfl) (by kernel_rfl) (by kernel_rfl) (fun _ _ _ h => h) (Or.inr ⟨by kernel_rfl, rfl⟩) hHeld ?_
       try simp only [Act.put, List.append, PA, set16]
       try simp only [PB]
       refine wpAnyH_take (i := 12) (oi := _) (v := undef) rfl (by kernel_rfl) (by kernel_rfl) (by kernel_rfl) (fun _ _ _ h => h) (Or.inr ⟨by kernel_rfl, rfl⟩) hHeld ?_
       try simp only [Act.put, List.append, PA, set16]
       try simp only [PB]
       refine wpAnyH_take (i := 13) (oi := _) (v := undef) rfl (by kernel_rfl) (by kernel_rfl) (by kernel_rfl) (fun _ _ _ h => h) (Or.inr ⟨by kernel_rfl, rfl⟩) hHeld ?_
       try simp only [Act.put, List.append, PA, set16]
       try simp only [PB]
       refine wpAnyH_take (i := 14) (oi := _) (v := undef) rfl (by kernel_rfl) (by kernel_rfl) (by kernel_rfl) (fun _ _ _ h => h) (Or.inr ⟨by kernel_rfl, rfl⟩) hHeld ?_
       try simp only [Act.put, List.append, PA, set16]
       try simp only [PB]
       refine wpAnyH_take (i := 15) (oi := _) (v := undef) rfl (by kernel_rfl) (by kernel_rfl) (by kernel_rfl) (fun _ _ _ h => h) (Or.inr ⟨by kernel_rfl, rfl⟩) hHeld ?_
       try simp only [Act.put, List.append, PA, set16]
       try simp only [PB]
       refine wpAnyH_take (i := 16) (oi := _) (v := undef) rfl (by kernel_rfl) (by kernel_rfl) (by kernel_rfl) (fun _ _ _ h => h) (Or.inr ⟨by kernel_rfl, rfl⟩) hHeld ?_
       try simp only [Act.put, List.append, PA, set16]
       try simp only [PB]
       refine wpAnyH_take (i := 17) (oi := _) (v := undef) rfl (by kernel_rfl) (by kernel_rfl) (by kernel_rfl) (fun _ _ _ h => h) (Or.inr ⟨by kernel_rfl, rfl⟩) hHeld ?_
       try simp only [Act.put, List.append, PA, set16]
       try simp only [PB]
       refine wpAnyH_take (i := 18) (oi := _) (v := undef) rfl (by kernel_rfl) (by kernel_rfl) (by kernel_rfl) (fun _ _ _ h => h) (Or.inr ⟨by kernel_rfl, rfl⟩) hHeld ?_
       try simp only [Act.put, List.append, PA, set16]
       try simp only [PB]
       refine wpAnyH_take (i := 19) (oi := _) (v := undef) rfl (by kernel_rfl) (by kernel_rfl) (by kernel_rfl) (fun _ _ _ h => h) (Or.inr ⟨by kernel_rfl, rfl⟩) hHeld ?_
       try simp only [Act.put, List.append, PA, set16]
       try simp only [PB]
       refine wpAnyH_take (i := 20) (oi := _) (v := undef) rfl (by kernel_rfl) (by kernel_rfl) (by kernel_rfl) (fun _ _ _ h => h) (Or.inr ⟨by kernel_rfl, rfl⟩) hHeld ?_
       try simp only [Act.put, List.append, PA, set16]
       try simp only [PB]
       refine wpAnyH_take (i := 21) (oi := _) (v := undef) rfl (by kernel_rfl) (by kernel_rfl) (by kernel_rfl) (fun _ _ _ h => h) (Or.inr ⟨by kernel_rfl, rfl⟩) hHeld ?_
       try simp only [Act.put, List.append, PA, set16]
       try simp only [PB]
       refine wpAnyH_take (i := 22) (oi := _) (v := undef) rfl (by kernel_rfl) (by kernel_rfl) (by kernel_rfl) (fun _ _ _ h => h) (Or.inr ⟨by kernel_rfl, rfl⟩) hHeld ?_
       try simp only [Act.put, List.append, PA, set16]
       try simp only [PB]
       refine wpAnyH_take (i := 23) (oi := _) (v := undef) rfl (by kernel_rfl) (by kernel_rfl) (by kernel_rfl) (fun _ _ _ h => h) (Or.inr ⟨by kernel_rfl, rfl⟩) hHeld ?_
       try simp only [Act.put, List.append, PA, set16]
       try simp only [PB]
       refine wpAnyH_take (i := 24) (oi := _) (v := undef) rfl (by kernel_rfl) (by kernel_rfl) (by kernel_rfl) (fun _ _ _ h => h) (Or.inr ⟨by kernel_rfl, rfl⟩) hHeld ?_
       try simp only [Act.put, List.append, PA, set16]
       try simp only [PB]
       refine wpAnyH_take (i := 25) (oi := _) (v := undef) rfl (by kernel_rfl) (by kernel_rfl) (by kernel_rfl) (fun _ _ _ h => h) (Or.inr ⟨by kernel_rfl, rfl⟩) hHeld ?_
       try simp only [Act.put, List.append, PA, set16]
       try simp only [PB]
       refine wpAnyH_take (i := 26) (oi := _) (v := undef) rfl (by kernel_rfl) (by kernel_rfl) (by kernel_rfl) (fun _ _ _ h => h) (Or.inr ⟨by kernel_rfl, rfl⟩) hHeld ?_
       try simp only [Act.put, List.append, PA, set16]
       try simp only [PB]
       refine wpAnyH_take (i := 27) (oi := _) (v := undef) rfl (by kernel_rfl) (by kernel_rfl) (by kernel_rfl) (fun _ _ _ h => h) (Or.inr ⟨by kernel_rfl, rfl⟩) hHeld ?_
       try simp only [Act.put, List.append, PA, set16]
       try simp only [PB]
       refine wpAnyH_take (i := 28) (oi := _) (v := undef) rfl (by kernel_rfl) (by kernel_rfl) (by kernel_rfl) (fun _ _ _ h => h) (Or.inr ⟨by kernel_rfl, rfl⟩) hHeld ?_
       try simp only [Act.put, List.append, PA, set16]
       try simp only [PB]
       refine wpAnyH_take (i := 29) (oi := _) (v := undef) rfl (by kernel_rfl) (by kernel_rfl) (by kernel_rfl) (fun _ _ _ h => h) (Or.inr ⟨by kernel_rfl, rfl⟩) hHeld ?_
       try simp only [Act.put, List.append, PA, set16]
       try simp only [PB]
       refine wpAnyH_take (i := 30) (oi := _) (v := undef) rfl (by kernel_rfl) (by kernel_rfl) (by kernel_rfl) (fun _ _ _ h => h) (Or.inr ⟨by kernel_rfl, rfl⟩) hHeld ?_
       try simp only [Act.put, List.append, PA, set16]
       try simp only [PB]
       refine wpAnyH_take (i := 31) (oi := _) (v := ?ve32) rfl (by kernel_rfl) (by kernel_rfl) (by kernel_rfl) (fun _ _ _ h => h) (Or.inl ⟨by kernel_rfl, ?hye32⟩) hHeld ?reste32
       case hye32 => (intro w hSw; go_simp; first | done | (with_reducible rfl))
       try simp only [Act.put, List.append, PA, set16]
       try simp only [PB]
       refine wpAnyH_done (by kernel_rfl) ?_ _
       go_wp2_with fail
       go_meet
       exact ⟨by first | rfl | simp, hHeld.toBelow (Below.refl _ _) (fun k hk => hk.elim) (Nat.le_refl _)⟩
    case rest =>
     obtain ⟨rfl, hb⟩ := hcut
     replace B0 := B0.keep hb
     replace B1 := B1.keep hb
     replace B2 := B2.keep hb
     replace Da := Da.keep hb
     replace Ra := Ra.keep hb
     replace Fa := Fa.keep hb
     replace Cc := Cc.keep hb
     replace Db := Db.keep hb
     replace Rb := Rb.keep hb
     replace Fb := Fb.keep hb
     replace Cd := Cd.keep hb
     replace hbb := keepB hbb hb
     clear hb
     go_upto_region 12 with fail
     refine at_worldQ (fun v => Below w.heap.size w v ∧ w.heap.size ≤ v.heap.size ∧ BK v w.heap.size [.slice (some ⟨bb, o, none⟩) cs.length ca, .slice Q qs.length cq] ∧ BK v (w.heap.size + 1) [.int .i64 n1, .int .i64 d1] ∧ BK v (w.heap.size + 2) [.int .i64 n2, .int .i64 d2] ∧ BK v Pa [.slice Aa ma caa, .slice Qa na cqa] ∧ BK v (Pa + 1) [.int .i64 vaa, .int .i64 vba] ∧ FC E D (qs ++ [(⟨(k : Int), 1, n1, d1, n2, d2, w1, w2⟩ : Qr)]) w.heap.size Aa ma caa Qa na cqa v ∧ BK v pc [.int .i64 w1, .int .i64 w2] ∧ BK v Pb [.slice Ab mb cab, .slice Qb nb cqb] ∧ BK v (Pb + 1) [.int .i64 vab, .int .i64 vbb] ∧ FC G D (qs ++ [(⟨(k : Int), 2, n1, d1, n2, d2, q1, q2⟩ : Qr)]) w.heap.size Ab mb cab Qb nb cqb v ∧ BK v pd [.int .i64 q1, .int .i64 q2]) ⟨hbb, Below.size (B := w.heap.size) (w := w) hbb, B0, B1, B2, Da, Ra, Fa, Cc, Db, Rb, Fb, Cd⟩ (fun V12 hS => ?_)
     clear hbb B0 B1 B2 Da Ra Fa Cc Db Rb Fb Cd hBV
     obtain ⟨hbb, hBV, B0, B1, B2, Da, Ra, Fa, Cc, Db, Rb, Fb, Cd⟩ := hS
     go_cut [221] (fun x v => x = .bool false ∧ Below V12.heap.size V12 v)
     case first =>
      as_aux_lemma =>
       by_cases hG0 : G = 0
       ·
        have hfb := Fb hG0
        obtain ⟨l, hml, hnl, hdl, hfd⟩ := hfb
        have hwG := HVb.out
        unfold Ak.res at hwG
        rw [if_pos hG0] at hwG
        simp only [Prod.mk.injEq] at hwG
        subst hG0
        have hwr : IntKind.i64.wrap ((qs.length : Int) + 1) = (qs.length : Int) + 1 := IntWalk.i64_in _ (by omega)
        obtain ⟨g, cap', hv, _, hglt⟩ := World.ownsRow.form hfd.log (by simp)
        simp only [Value.slice.injEq] at hv
        obtain ⟨rfl, _, rfl⟩ := hv
        have hna : nb = qs.length + 1 := by rw [hnl]; simp
        subst hna
        obtain ⟨e0', e1', e2', e3', e4', e5', e6', e7'⟩ := last_q hfd.log
        have dq1 := Db.c 1 rfl
        have p1 := B0.c 1 rfl
        have x0 := B1.c 0 rfl
        have x1 := B1.c 1 rfl
        have z0 := B2.c 0 rfl
        have z1 := B2.c 1 rfl
        have rb0 := Rb.c 0 rfl
        have rb1 := Rb.c 1 rfl
        rw [← hwG.1] at rb0
        rw [← hwG.2] at rb1
        have e0 := e0'
        have e1 := e1'
        have e2 := e2'
        have e3 := e3'
        have e4 := e4'
        have e5 := e5'
        have e6 := e6'
        have e7 := e7'
        have hq1 : (0 : Int) ≤ (qs.length : Int) := by omega
        have hq3 : (qs.length : Int) < (qs.length : Int) + 1 := by omega
        clear hnl hfd Fb hdl hwG e0' e1' e2' e3' e4' e5' e6' e7'
        refine wp_region_held_drew (S := (GB (fun _ => False) V12)) (by kernel_rfl) ((GB.refl _ _).drew) (fun hHeld => ?_)
        refine at_anyH (fun v => GB (fun _ => False) V12 v) hHeld (fun wh0 hNew => ?_)
        clear hHeld
        have hHeld := hNew
        clear hNew
        refine wpAnyH_take (i := 0) (oi := _) (v := ?vh1) rfl (by kernel_rfl) (by kernel_rfl) (by kernel_rfl) (fun _ _ _ h => h) (Or.inl ⟨by kernel_rfl, ?hyh1⟩) hHeld ?resth1
        case hyh1 => (intro w hSw; go_simp; first | done | (with_reducible rfl))
        try simp only [Act.put, List.append, PA, set16]
        try simp only [PB]
        refine wpAnyH_take (i := 1) (oi := _) (v := ?vh2) rfl (by kernel_rfl) (by kernel_rfl) (by kernel_rfl) (fun _ _ _ h => h) (Or.inl ⟨by kernel_rfl, ?hyh2⟩) hHeld ?resth2
        case hyh2 => (intro w hSw; go_simp; first | done | (with_reducible rfl))
        try simp only [Act.put, List.append, PA, set16]
        try simp only [PB]
        refine wpAnyH_take (i := 2) (oi := _) (v := ?vh3) rfl (by kernel_rfl) (by kernel_rfl) (by kernel_rfl) (fun _ _ _ h => h) (Or.inl ⟨by kernel_rfl, ?hyh3⟩) hHeld ?resth3
        case hyh3 => (intro w hSw; go_simp; first | done | (with_reducible rfl))
        try simp only [Act.put, List.append, PA, set16]
        try simp only [PB]
        refine wpAnyH_take (i := 3) (oi := _) (v := ?vh4) rfl (by kernel_rfl) (by kernel_rfl) (by kernel_rfl) (fun _ _ _ h => h) (Or.inl ⟨by kernel_rfl, ?hyh4⟩) hHeld ?resth4
        case hyh4 => (intro w hSw; go_simp; first | done | (with_reducible rfl))
        try simp only [Act.put, List.append, PA, set16]
        try simp only [PB]
        refine wpAnyH_take (i := 4) (oi := _) (v := ?vh5) rfl (by kernel_rfl) (by kernel_rfl) (by kernel_rfl) (fun _ _ _ h => h) (Or.inl ⟨by kernel_rfl, ?hyh5⟩) hHeld ?resth5
        case hyh5 => (intro w hSw; have kdq1 := hSw.cell (fun h => h) dq1; have kp1 := hSw.cell (fun h => h) p1; have kx0 := hSw.cell (fun h => h) x0; have kx1 := hSw.cell (fun h => h) x1; have kz0 := hSw.cell (fun h => h) z0; have kz1 := hSw.cell (fun h => h) z1; have krb0 := hSw.cell (fun h => h) rb0; have krb1 := hSw.cell (fun h => h) rb1; have ke0 := hSw.cell (fun h => h) e0; have ke1 := hSw.cell (fun h => h) e1; have ke2 := hSw.cell (fun h => h) e2; have ke3 := hSw.cell (fun h => h) e3; have ke4 := hSw.cell (fun h => h) e4; have ke5 := hSw.cell (fun h => h) e5; have ke6 := hSw.cell (fun h => h) e6; have ke7 := hSw.cell (fun h => h) e7; go_simp; first | done | (with_reducible rfl))
        try simp only [Act.put, List.append, PA, set16]
        try simp only [PB]
        refine wpAnyH_take (i := 5) (oi := _) (v := ?vh6) rfl (by kernel_rfl) (by kernel_rfl) (by kernel_rfl) (fun _ _ _ h => h) (Or.inl ⟨by kernel_rfl, ?hyh6⟩) hHeld ?resth6
        case hyh6 => (intro w hSw; go_simp; first | done | (with_reducible rfl))
        try simp only [Act.put, List.append, PA, set16]
        try simp only [PB]
        refine wpAnyH_take (i := 6) (oi := _) (v := ?vh7) rfl (by kernel_rfl) (by kernel_rfl) (by kernel_rfl) (fun _ _ _ h => h) (Or.inl ⟨by kernel_rfl, ?hyh7⟩) hHeld ?resth7
        case hyh7 => (intro w hSw; go_simp; first | done | (with_reducible rfl))
        try simp only [Act.put, List.append, PA, set16]
        try simp only [PB]
        refine wpAnyH_take (i := 7) (oi := _) (v := ?vh8) rfl (by kernel_rfl) (by kernel_rfl) (by kernel_rfl) (fun _ _ _ h => h) (Or.inl ⟨by kernel_rfl, ?hyh8⟩) hHeld ?resth8
        case hyh8 => (intro w hSw; have kdq1 := hSw.cell (fun h => h) dq1; have kp1 := hSw.cell (fun h => h) p1; have kx0 := hSw.cell (fun h => h) x0; have kx1 := hSw.cell (fun h => h) x1; have kz0 := hSw.cell (fun h => h) z0; have kz1 := hSw.cell (fun h => h) z1; have krb0 := hSw.cell (fun h => h) rb0; have krb1 := hSw.cell (fun h => h) rb1; have ke0 := hSw.cell (fun h => h) e0; have ke1 := hSw.cell (fun h => h) e1; have ke2 := hSw.cell (fun h => h) e2; have ke3 := hSw.cell (fun h => h) e3; have ke4 := hSw.cell (fun h => h) e4; have ke5 := hSw.cell (fun h => h) e5; have ke6 := hSw.cell (fun h => h) e6; have ke7 := hSw.cell (fun h => h) e7; go_simp; first | done | (with_reducible rfl))
        try simp only [Act.put, List.append, PA, set16]
        try simp only [PB]
        refine wpAnyH_take (i := 8) (oi := _) (v := ?vh9) rfl (by kernel_rfl) (by kernel_rfl) (by kernel_rfl) (fun _ _ _ h => h) (Or.inl ⟨by kernel_rfl, ?hyh9⟩) hHeld ?resth9
        case hyh9 => (intro w hSw; go_simp; first | done | (with_reducible rfl))
        try simp only [Act.put, List.append, PA, set16]
        try simp only [PB]
        refine wpAnyH_take (i := 9) (oi := _) (v := ?vh10) rfl (by kernel_rfl) (by kernel_rfl) (by kernel_rfl) (fun _ _ _ h => h) (Or.inl ⟨by kernel_rfl, ?hyh10⟩) hHeld ?resth10
        case hyh10 => (intro w hSw; go_simp; first | done | (with_reducible rfl))
        try simp only [Act.put, List.append, PA, set16]
        try simp only [PB]
        refine wpAnyH_take (i := 10) (oi := _) (v := ?vh11) rfl (by kernel_rfl) (by kernel_rfl) (by kernel_rfl) (fun _ _ _ h => h) (Or.inl ⟨by kernel_rfl, ?hyh11⟩) hHeld ?resth11
        case hyh11 => (intro w hSw; go_simp; first | done | (with_reducible rfl))
        try simp only [Act.put, List.append, PA, set16]
        try simp only [PB]
        refine wpAnyH_take (i := 11) (oi := _) (v := ?vh12) rfl (by kernel_rfl) (by kernel_rfl) (by kernel_rfl) (fun _ _ _ h => h) (Or.inl ⟨by kernel_rfl, ?hyh12⟩) hHeld ?resth12
        case hyh12 => (intro w hSw; go_simp; first | done | (with_reducible rfl))
        try simp only [Act.put, List.append, PA, set16]
        try simp only [PB]
        refine wpAnyH_take (i := 12) (oi := _) (v := ?vh13) rfl (by kernel_rfl) (by kernel_rfl) (by kernel_rfl) (fun _ _ _ h => h) (Or.inl ⟨by kernel_rfl, ?hyh13⟩) hHeld ?resth13
        case hyh13 => (intro w hSw; go_simp; first | done | (with_reducible rfl))
        try simp only [Act.put, List.append, PA, set16]
        try simp only [PB]
        refine wpAnyH_take (i := 13) (oi := _) (v := ?vh14) rfl (by kernel_rfl) (by kernel_rfl) (by kernel_rfl) (fun _ _ _ h => h) (Or.inl ⟨by kernel_rfl, ?hyh14⟩) hHeld ?resth14
        case hyh14 => (intro w hSw; have kdq1 := hSw.cell (fun h => h) dq1; have kp1 := hSw.cell (fun h => h) p1; have kx0 := hSw.cell (fun h => h) x0; have kx1 := hSw.cell (fun h => h) x1; have kz0 := hSw.cell (fun h => h) z0; have kz1 := hSw.cell (fun h => h) z1; have krb0 := hSw.cell (fun h => h) rb0; have krb1 := hSw.cell (fun h => h) rb1; have ke0 := hSw.cell (fun h => h) e0; have ke1 := hSw.cell (fun h => h) e1; have ke2 := hSw.cell (fun h => h) e2; have ke3 := hSw.cell (fun h => h) e3; have ke4 := hSw.cell (fun h => h) e4; have ke5 := hSw.cell (fun h => h) e5; have ke6 := hSw.cell (fun h => h) e6; have ke7 := hSw.cell (fun h => h) e7; go_simp; first | done | (with_reducible rfl))
        try simp only [Act.put, List.append, PA, set16]
        try simp only [PB]
        refine wpAnyH_take (i := 14) (oi := _) (v := ?vh15) rfl (by kernel_rfl) (by kernel_rfl) (by kernel_rfl) (fun _ _ _ h => h) (Or.inl ⟨by kernel_rfl, ?hyh15⟩) hHeld ?resth15
        case hyh15 => (intro w hSw; go_simp; first | done | (with_reducible rfl))
        try simp only [Act.put, List.append, PA, set16]
        try simp only [PB]
        refine wpAnyH_take (i := 15) (oi := _) (v := ?vh16) rfl (by kernel_rfl) (by kernel_rfl) (by kernel_rfl) (fun _ _ _ h => h) (Or.inl ⟨by kernel_rfl, ?hyh16⟩) hHeld ?resth16
        case hyh16 => (intro w hSw; have kdq1 := hSw.cell (fun h => h) dq1; have kp1 := hSw.cell (fun h => h) p1; have kx0 := hSw.cell (fun h => h) x0; have kx1 := hSw.cell (fun h => h) x1; have kz0 := hSw.cell (fun h => h) z0; have kz1 := hSw.cell (fun h => h) z1; have krb0 := hSw.cell (fun h => h) rb0; have krb1 := hSw.cell (fun h => h) rb1; have ke0 := hSw.cell (fun h => h) e0; have ke1 := hSw.cell (fun h => h) e1; have ke2 := hSw.cell (fun h => h) e2; have ke3 := hSw.cell (fun h => h) e3; have ke4 := hSw.cell (fun h => h) e4; have ke5 := hSw.cell (fun h => h) e5; have ke6 := hSw.cell (fun h => h) e6; have ke7 := hSw.cell (fun h => h) e7; go_simp; first | done | (with_reducible rfl))
        try simp only [Act.put, List.append, PA, set16]
        try simp only [PB]
        refine wpAnyH_take (i := 16) (oi := _) (v := ?vh17) rfl (by kernel_rfl) (by kernel_rfl) (by kernel_rfl) (fun _ _ _ h => h) (Or.inl ⟨by kernel_rfl, ?hyh17⟩) hHeld ?resth17
        case hyh17 => (intro w hSw; go_simp; first | done | (with_reducible rfl))
        try simp only [Act.put, List.append, PA, set16]
        try simp only [PB]
        refine wpAnyH_take (i := 17) (oi := _) (v := ?vh18) rfl (by kernel_rfl) (by kernel_rfl) (by kernel_rfl) (fun _ _ _ h => h) (Or.inl ⟨by kernel_rfl, ?hyh18⟩) hHeld ?resth18
        case hyh18 => (intro w hSw; go_simp; first | done | (with_reducible rfl))
        try simp only [Act.put, List.append, PA, set16]
        try simp only [PB]
        refine wpAnyH_take (i := 18) (oi := _) (v := ?vh19) rfl (by kernel_rfl) (by kernel_rfl) (by kernel_rfl) (fun _ _ _ h => h) (Or.inl ⟨by kernel_rfl, ?hyh19⟩) hHeld ?resth19
        case hyh19 => (intro w hSw; have kdq1 := hSw.cell (fun h => h) dq1; have kp1 := hSw.cell (fun h => h) p1; have kx0 := hSw.cell (fun h => h) x0; have kx1 := hSw.cell (fun h => h) x1; have kz0 := hSw.cell (fun h => h) z0; have kz1 := hSw.cell (fun h => h) z1; have krb0 := hSw.cell (fun h => h) rb0; have krb1 := hSw.cell (fun h => h) rb1; have ke0 := hSw.cell (fun h => h) e0; have ke1 := hSw.cell (fun h => h) e1; have ke2 := hSw.cell (fun h => h) e2; have ke3 := hSw.cell (fun h => h) e3; have ke4 := hSw.cell (fun h => h) e4; have ke5 := hSw.cell (fun h => h) e5; have ke6 := hSw.cell (fun h => h) e6; have ke7 := hSw.cell (fun h => h) e7; go_simp; first | done | (with_reducible rfl))
        try simp only [Act.put, List.append, PA, set16]
        try simp only [PB]
        refine wpAnyH_take (i := 19) (oi := _) (v := ?vh20) rfl (by kernel_rfl) (by kernel_rfl) (by kernel_rfl) (fun _ _ _ h => h) (Or.inl ⟨by kernel_rfl, ?hyh20⟩) hHeld ?resth20
        case hyh20 => (intro w hSw; go_simp; first | done | (with_reducible rfl))
        try simp only [Act.put, List.append, PA, set16]
        try simp only [PB]
        refine wpAnyH_take (i := 20) (oi := _) (v := ?vh21) rfl (by kernel_rfl) (by kernel_rfl) (by kernel_rfl) (fun _ _ _ h => h) (Or.inl ⟨by kernel_rfl, ?hyh21⟩) hHeld ?resth21
        case hyh21 => (intro w hSw; have kdq1 := hSw.cell (fun h => h) dq1; have kp1 := hSw.cell (fun h => h) p1; have kx0 := hSw.cell (fun h => h) x0; have kx1 := hSw.cell (fun h => h) x1; have kz0 := hSw.cell (fun h => h) z0; have kz1 := hSw.cell (fun h => h) z1; have krb0 := hSw.cell (fun h => h) rb0; have krb1 := hSw.cell (fun h => h) rb1; have ke0 := hSw.cell (fun h => h) e0; have ke1 := hSw.cell (fun h => h) e1; have ke2 := hSw.cell (fun h => h) e2; have ke3 := hSw.cell (fun h => h) e3; have ke4 := hSw.cell (fun h => h) e4; have ke5 := hSw.cell (fun h => h) e5; have ke6 := hSw.cell (fun h => h) e6; have ke7 := hSw.cell (fun h => h) e7; go_simp; first | done | (with_reducible rfl))
        try simp only [Act.put, List.append, PA, set16]
        try simp only [PB]
        refine wpAnyH_take (i := 21) (oi := _) (v := ?vh22) rfl (by kernel_rfl) (by kernel_rfl) (by kernel_rfl) (fun _ _ _ h => h) (Or.inl ⟨by kernel_rfl, ?hyh22⟩) hHeld ?resth22
        case hyh22 => (intro w hSw; have kdq1 := hSw.cell (fun h => h) dq1; have kp1 := hSw.cell (fun h => h) p1; have kx0 := hSw.cell (fun h => h) x0; have kx1 := hSw.cell (fun h => h) x1; have kz0 := hSw.cell (fun h => h) z0; have kz1 := hSw.cell (fun h => h) z1; have krb0 := hSw.cell (fun h => h) rb0; have krb1 := hSw.cell (fun h => h) rb1; have ke0 := hSw.cell (fun h => h) e0; have ke1 := hSw.cell (fun h => h) e1; have ke2 := hSw.cell (fun h => h) e2; have ke3 := hSw.cell (fun h => h) e3; have ke4 := hSw.cell (fun h => h) e4; have ke5 := hSw.cell (fun h => h) e5; have ke6 := hSw.cell (fun h => h) e6; have ke7 := hSw.cell (fun h => h) e7; go_simp; first | done | (with_reducible rfl))
        try simp only [Act.put, List.append, PA, set16]
        try simp only [PB]
        refine wpAnyH_take (i := 22) (oi := _) (v := ?vh23) rfl (by kernel_rfl) (by kernel_rfl) (by kernel_rfl) (fun _ _ _ h => h) (Or.inl ⟨by kernel_rfl, ?hyh23⟩) hHeld ?resth23
        case hyh23 => (intro w hSw; have kdq1 := hSw.cell (fun h => h) dq1; have kp1 := hSw.cell (fun h => h) p1; have kx0 := hSw.cell (fun h => h) x0; have kx1 := hSw.cell (fun h => h) x1; have kz0 := hSw.cell (fun h => h) z0; have kz1 := hSw.cell (fun h => h) z1; have krb0 := hSw.cell (fun h => h) rb0; have krb1 := hSw.cell (fun h => h) rb1; have ke0 := hSw.cell (fun h => h) e0; have ke1 := hSw.cell (fun h => h) e1; have ke2 := hSw.cell (fun h => h) e2; have ke3 := hSw.cell (fun h => h) e3; have ke4 := hSw.cell (fun h => h) e4; have ke5 := hSw.cell (fun h => h) e5; have ke6 := hSw.cell (fun h => h) e6; have ke7 := hSw.cell (fun h => h) e7; go_simp; first | done | (with_reducible rfl))
        try simp only [Act.put, List.append, PA, set16]
        try simp only [PB]
        refine wpAnyH_take (i := 23) (oi := _) (v := (.agg #[.int .i64 (k : Int), .int .u8 2, .int .i64 n1, .int .i64 d1, .int .i64 n2, .int .i64 d2, .int .i64 q1, .int .i64 q2])) rfl (by kernel_rfl) (by kernel_rfl) (by kernel_rfl) (fun _ _ _ h => h) (Or.inl ⟨by kernel_rfl, ?_⟩) hHeld ?_
        ·
         exact fun w hSw => q_build _ w _ _ _ _ _ _ _ rfl rfl rfl rfl
        try simp only [Act.put, List.append, PA, set16]
        try simp only [PB]
        refine wpAnyH_take (i := 24) (oi := _) (v := ?vh25) rfl (by kernel_rfl) (by kernel_rfl) (by kernel_rfl) (fun _ _ _ h => h) (Or.inl ⟨by kernel_rfl, ?hyh25⟩) hHeld ?resth25
        case hyh25 => (intro w hSw; go_simp; first | done | (with_reducible rfl))
        try simp only [Act.put, List.append, PA, set16]
        try simp only [PB]
        refine wpAnyH_take (i := 25) (oi := _) (v := ?vh26) rfl (by kernel_rfl) (by kernel_rfl) (by kernel_rfl) (fun _ _ _ h => h) (Or.inl ⟨by kernel_rfl, ?hyh26⟩) hHeld ?resth26
        case hyh26 => (intro w hSw; go_simp; first | done | (with_reducible rfl))
        try simp only [Act.put, List.append, PA, set16]
        try simp only [PB]
        refine wpAnyH_take (i := 26) (oi := _) (v := ?vh27) rfl (by kernel_rfl) (by kernel_rfl) (by kernel_rfl) (fun _ _ _ h => h) (Or.inl ⟨by kernel_rfl, ?hyh27⟩) hHeld ?resth27
        case hyh27 => (intro w hSw; go_simp; first | done | (with_reducible rfl))
        try simp only [Act.put, List.append, PA, set16]
        try simp only [PB]
        refine wpAnyH_done (by kernel_rfl) ?_ _
        go_wp2_with fail
        go_meet
        exact ⟨by first | rfl | simp, hHeld.toBelow (Below.refl _ _) (fun k hk => hk.elim) (Nat.le_refl _)⟩
       ·
        have eE : (G == 0) = false := by rw [beq_eq_false_iff_ne]; exact hG0
        refine wp_region_held_drew (S := (GB (fun _ => False) V12)) (by kernel_rfl) ((GB.refl _ _).drew) (fun hHeld => ?_)
        refine at_anyH (fun v => GB (fun _ => False) V12 v) hHeld (fun wg0 hNew => ?_)
        clear hHeld
        have hHeld := hNew
        clear hNew
        refine wpAnyH_take (i := 0) (oi := _) (v := ?vg1) rfl (by kernel_rfl) (by kernel_rfl) (by kernel_rfl) (fun _ _ _ h => h) (Or.inl ⟨by kernel_rfl, ?hyg1⟩) hHeld ?restg1
        case hyg1 => (intro w hSw; go_simp; first | done | (with_reducible rfl))
        try simp only [Act.put, List.append, PA, set16]
        try simp only [PB]
        refine wpAnyH_take (i := 1) (oi := _) (v := ?vg2) rfl (by kernel_rfl) (by kernel_rfl) (by kernel_rfl) (fun _ _ _ h => h) (Or.inl ⟨by kernel_rfl, ?hyg2⟩) hHeld ?restg2
        case hyg2 => (intro w hSw; go_simp; first | done | (with_reducible rfl))
        try simp only [Act.put, List.append, PA, set16]
        try simp only [PB]
        refine wpAnyH_take (i := 2) (oi := _) (v := ?vg3) rfl (by kernel_rfl) (by kernel_rfl) (by kernel_rfl) (fun _ _ _ h => h) (Or.inl ⟨by kernel_rfl, ?hyg3⟩) hHeld ?restg3
        case hyg3 => (intro w hSw; go_simp; first | done | (with_reducible rfl))
        try simp only [Act.put, List.append, PA, set16]
        try simp only [PB]
        refine wpAnyH_take (i := 3) (oi := _) (v := undef) rfl (by kernel_rfl) (by kernel_rfl) (by kernel_rfl) (fun _ _ _ h => h) (Or.inr ⟨by kernel_rfl, rfl⟩) hHeld ?_
        try simp only [Act.put, List.append, PA, set16]
        try simp only [PB]
        refine wpAnyH_take (i := 4) (oi := _) (v := undef) rfl (by kernel_rfl) (by kernel_rfl) (by kernel_rfl) (fun _ _ _ h => h) (Or.inr ⟨by kernel_rfl, rfl⟩) hHeld ?_
        try simp only [Act.put, List.append, PA, set16]
        try simp only [PB]
        refine wpAnyH_take (i := 5) (oi := _) (v := undef) rfl (by kernel_rfl) (by kernel_rfl) (by kernel_rfl) (fun _ _ _ h => h) (Or.inr ⟨by kernel_rfl, rfl⟩) hHeld ?_
        try simp only [Act.put, List.append, PA, set16]
        try simp only [PB]
        refine wpAnyH_take (i := 6) (oi := _) (v := undef) rfl (by kernel_rfl) (by kernel_rfl) (by kernel_rfl) (fun _ _ _ h => h) (Or.inr ⟨by kernel_rfl, rfl⟩) hHeld ?_
        try simp only [Act.put, List.append, PA, set16]
        try simp only [PB]
        refine wpAnyH_take (i := 7) (oi := _) (v := undef) rfl (by kernel_rfl) (by kernel_rfl) (by kernel_rfl) (fun _ _ _ h => h) (Or.inr ⟨by kernel_rfl, rfl⟩) hHeld ?_
        try simp only [Act.put, List.append, PA, set16]
        try simp only [PB]
        refine wpAnyH_take (i := 8) (oi := _) (v := undef) rfl (by kernel_rfl) (by kernel_rfl) (by kernel_rfl) (fun _ _ _ h => h) (Or.inr ⟨by kernel_rfl, rfl⟩) hHeld ?_
        try simp only [Act.put, List.append, PA, set16]
        try simp only [PB]
        refine wpAnyH_take (i := 9) (oi := _) (v := undef) rfl (by kernel_rfl) (by kernel_rfl) (by kernel_rfl) (fun _ _ _ h => h) (Or.inr ⟨by kernel_rfl, rfl⟩) hHeld ?_
        try simp only [Act.put, List.append, PA, set16]
        try simp only [PB]
        refine wpAnyH_take (i := 10) (oi := _) (v := undef) rfl (by kernel_rfl) (by kernel_rfl) (by kernel_rfl) (fun _ _ _ h => h) (Or.inr ⟨by kernel_rfl, rfl⟩) hHeld ?_
        try simp only [Act.put, List.append, PA, set16]
        try simp only [PB]
        refine wpAnyH_take (i := 11) (oi := _) (v := undef) rfl (by kernel_rfl) (by kernel_rfl) (by kernel_rfl) (fun _ _ _ h => h) (Or.inr ⟨by kernel_rfl, rfl⟩) hHeld ?_
        try simp only [Act.put, List.append, PA, set16]
        try simp only [PB]
        refine wpAnyH_take (i := 12) (oi := _) (v := undef) rfl (by kernel_rfl) (by kernel_rfl) (by kernel_rfl) (fun _ _ _ h => h) (Or.inr ⟨by kernel_rfl, rfl⟩) hHeld ?_
        try simp only [Act.put, List.append, PA, set16]
        try simp only [PB]
        refine wpAnyH_take (i := 13) (oi := _) (v := undef) rfl (by kernel_rfl) (by kernel_rfl) (by kernel_rfl) (fun _ _ _ h => h) (Or.inr ⟨by kernel_rfl, rfl⟩) hHeld ?_
        try simp only [Act.put, List.append, PA, set16]
        try simp only [PB]
        refine wpAnyH_take (i := 14) (oi := _) (v := undef) rfl (by kernel_rfl) (by kernel_rfl) (by kernel_rfl) (fun _ _ _ h => h) (Or.inr ⟨by kernel_rfl, rfl⟩) hHeld ?_
        try simp only [Act.put, List.append, PA, set16]
        try simp only [PB]
        refine wpAnyH_take (i := 15) (oi := _) (v := undef) rfl (by kernel_rfl) (by kernel_rfl) (by kernel_rfl) (fun _ _ _ h => h) (Or.inr ⟨by kernel_rfl, rfl⟩) hHeld ?_
        try simp only [Act.put, List.append, PA, set16]
        try simp only [PB]
        refine wpAnyH_take (i := 16) (oi := _) (v := undef) rfl (by kernel_rfl) (by kernel_rfl) (by kernel_rfl) (fun _ _ _ h => h) (Or.inr ⟨by kernel_rfl, rfl⟩) hHeld ?_
        try simp only [Act.put, List.append, PA, set16]
        try simp only [PB]
        refine wpAnyH_take (i := 17) (oi := _) (v := undef) rfl (by kernel_rfl) (by kernel_rfl) (by kernel_rfl) (fun _ _ _ h => h) (Or.inr ⟨by kernel_rfl, rfl⟩) hHeld ?_
        try simp only [Act.put, List.append, PA, set16]
        try simp only [PB]
        refine wpAnyH_take (i := 18) (oi := _) (v := undef) rfl (by kernel_rfl) (by kernel_rfl) (by kernel_rfl) (fun _ _ _ h => h) (Or.inr ⟨by kernel_rfl, rfl⟩) hHeld ?_
        try simp only [Act.put, List.append, PA, set16]
        try simp only [PB]
        refine wpAnyH_take (i := 19) (oi := _) (v := undef) rfl (by kernel_rfl) (by kernel_rfl) (by kernel_rfl) (fun _ _ _ h => h) (Or.inr ⟨by kernel_rfl, rfl⟩) hHeld ?_
        try simp only [Act.put, List.append, PA, set16]
        try simp only [PB]
        refine wpAnyH_take (i := 20) (oi := _) (v := undef) rfl (by kernel_rfl) (by kernel_rfl) (by kernel_rfl) (fun _ _ _ h => h) (Or.inr ⟨by kernel_rfl, rfl⟩) hHeld ?_
        try simp only [Act.put, List.append, PA, set16]
        try simp only [PB]
        refine wpAnyH_take (i := 21) (oi := _) (v := undef) rfl (by kernel_rfl) (by kernel_rfl) (by kernel_rfl) (fun _ _ _ h => h) (Or.inr ⟨by kernel_rfl, rfl⟩) hHeld ?_
        try simp only [Act.put, List.append, PA, set16]
        try simp only [PB]
        refine wpAnyH_take (i := 22) (oi := _) (v := undef) rfl (by kernel_rfl) (by kernel_rfl) (by kernel_rfl) (fun _ _ _ h => h) (Or.inr ⟨by kernel_rfl, rfl⟩) hHeld ?_
        try simp only [Act.put, List.append, PA, set16]
        try simp only [PB]
        refine wpAnyH_take (i := 23) (oi := _) (v := undef) rfl (by kernel_rfl) (by kernel_rfl) (by kernel_rfl) (fun _ _ _ h => h) (Or.inr ⟨by kernel_rfl, rfl⟩) hHeld ?_
        try simp only [Act.put, List.append, PA, set16]
        try simp only [PB]
        refine wpAnyH_take (i := 24) (oi := _) (v := undef) rfl (by kernel_rfl) (by kernel_rfl) (by kernel_rfl) (fun _ _ _ h => h) (Or.inr ⟨by kernel_rfl, rfl⟩) hHeld ?_
        try simp only [Act.put, List.append, PA, set16]
        try simp only [PB]
        refine wpAnyH_take (i := 25) (oi := _) (v := undef) rfl (by kernel_rfl) (by kernel_rfl) (by kernel_rfl) (fun _ _ _ h => h) (Or.inr ⟨by kernel_rfl, rfl⟩) hHeld ?_
        try simp only [Act.put, List.append, PA, set16]
        try simp only [PB]
        refine wpAnyH_take (i := 26) (oi := _) (v := ?vg27) rfl (by kernel_rfl) (by kernel_rfl) (by kernel_rfl) (fun _ _ _ h => h) (Or.inl ⟨by kernel_rfl, ?hyg27⟩) hHeld ?restg27
        case hyg27 => (intro w hSw; go_simp; first | done | (with_reducible rfl))
        try simp only [Act.put, List.append, PA, set16]
        try simp only [PB]
        refine wpAnyH_done (by kernel_rfl) ?_ _
        go_wp2_with fail
        go_meet
        exact ⟨by first | rfl | simp, hHeld.toBelow (Below.refl _ _) (fun k hk => hk.elim) (Nat.le_refl _)⟩
     case rest =>
      obtain ⟨rfl, hb⟩ := hcut
      replace B0 := B0.keep hb
      replace B1 := B1.keep hb
      replace B2 := B2.keep hb
      replace Da := Da.keep hb
      replace Ra := Ra.keep hb
      replace Fa := Fa.keep hb
      replace Cc := Cc.keep hb
      replace Db := Db.keep hb
      replace Rb := Rb.keep hb
      replace Fb := Fb.keep hb
      replace Cd := Cd.keep hb
      replace hbb := keepB hbb hb
      clear hb
      go_upto_region 14 with fail
      refine at_worldQ (fun v => Below w.heap.size w v ∧ w.heap.size ≤ v.heap.size ∧ BK v w.heap.size [.slice (some ⟨bb, o, none⟩) cs.length ca, .slice Q qs.length cq] ∧ BK v (w.heap.size + 1) [.int .i64 n1, .int .i64 d1] ∧ BK v (w.heap.size + 2) [.int .i64 n2, .int .i64 d2] ∧ BK v Pa [.slice Aa ma caa, .slice Qa na cqa] ∧ BK v (Pa + 1) [.int .i64 vaa, .int .i64 vba] ∧ FC E D (qs ++ [(⟨(k : Int), 1, n1, d1, n2, d2, w1, w2⟩ : Qr)]) w.heap.size Aa ma caa Qa na cqa v ∧ BK v pc [.int .i64 w1, .int .i64 w2] ∧ BK v Pb [.slice Ab mb cab, .slice Qb nb cqb] ∧ BK v (Pb + 1) [.int .i64 vab, .int .i64 vbb] ∧ FC G D (qs ++ [(⟨(k : Int), 2, n1, d1, n2, d2, q1, q2⟩ : Qr)]) w.heap.size Ab mb cab Qb nb cqb v ∧ BK v pd [.int .i64 q1, .int .i64 q2]) ⟨hbb, Below.size (B := w.heap.size) (w := w) hbb, B0, B1, B2, Da, Ra, Fa, Cc, Db, Rb, Fb, Cd⟩ (fun V14 hS => ?_)
      clear hbb B0 B1 B2 Da Ra Fa Cc Db Rb Fb Cd hBV
      obtain ⟨hbb, hBV, B0, B1, B2, Da, Ra, Fa, Cc, Db, Rb, Fb, Cd⟩ := hS
      have hgos := Ak.great_of HGO.out
      have lB0 := B0.lt
      have lB1 := B1.lt
      have lB2 := B2.lt
      have lRa := Ra.lt
      have lRb := Rb.lt
      go_wp2_with fail
      refine (rTwins_any B cb os _ (HHO.out.keep hbb) hgos.2 hgos.1).mono ?_
      rintro e wd7 ⟨rv, l14, rfl, hdat14, hcr14⟩
      obtain ⟨R14, c14, rfl, _⟩ := Ak.row_cap hcr14.row
      have hb := hcr14.bb
      replace B0 := B0.keep hb
      replace B1 := B1.keep hb
      replace B2 := B2.keep hb
      replace Da := Da.keep hb
      replace Ra := Ra.keep hb
      replace Fa := Fa.keep hb
      replace Cc := Cc.keep hb
      replace Db := Db.keep hb
      replace Rb := Rb.keep hb
      replace Fb := Fb.keep hb
      replace Cd := Cd.keep hb
      replace hbb := keepB hbb hb
      clear hb
      have hl14 : l14.length = os.length := by have := congrArg List.length hdat14; simpa using this
      have hko : k < l14.length := by rw [hl14, HNO.out]; omega
      have HL14 := Lib.hid hl14
      clear hl14
      obtain ⟨g14, c14', hv14, hB14, hg14⟩ := World.ownsRow.form hcr14.row (by omega)
      simp only [Value.slice.injEq] at hv14
      obtain ⟨rfl, _, rfl⟩ := hv14
      have hbk := bk_row hcr14.row
      have hall14 := hcr14.all
      clear hcr14
      go_upto_region 15 with fail
      have hgw : g14 < wd7.heap.size := hg14
      refine at_worldQ (fun v => Below w.heap.size w v ∧ w.heap.size ≤ v.heap.size ∧ BK v w.heap.size [.slice (some ⟨bb, o, none⟩) cs.length ca, .slice Q qs.length cq] ∧ BK v (w.heap.size + 1) [.int .i64 n1, .int .i64 d1] ∧ BK v (w.heap.size + 2) [.int .i64 n2, .int .i64 d2] ∧ BK v Pa [.slice Aa ma caa, .slice Qa na cqa] ∧ BK v (Pa + 1) [.int .i64 vaa, .int .i64 vba] ∧ FC E D (qs ++ [(⟨(k : Int), 1, n1, d1, n2, d2, w1, w2⟩ : Qr)]) w.heap.size Aa ma caa Qa na cqa v ∧ BK v pc [.int .i64 w1, .int .i64 w2] ∧ BK v Pb [.slice Ab mb cab, .slice Qb nb cqb] ∧ BK v (Pb + 1) [.int .i64 vab, .int .i64 vbb] ∧ FC G D (qs ++ [(⟨(k : Int), 2, n1, d1, n2, d2, q1, q2⟩ : Qr)]) w.heap.size Ab mb cab Qb nb cqb v ∧ BK v pd [.int .i64 q1, .int .i64 q2] ∧ BK v wd7.heap.size [(Value.slice (some ⟨g14, 0, none⟩) l14.length c14), .slice none 0 0] ∧ BK v g14 (Ak.cellsC l14) ∧ (∀ c ∈ l14, IsCG v V14.heap.size (Value.slice (some ⟨g14, 0, none⟩) l14.length c14).ownBlock c)) ⟨(below_al hbb _), Below.size (B := w.heap.size) (w := w) (below_al hbb _), B0.keep (below_al (Below.refl _ _) _), B1.keep (below_al (Below.refl _ _) _), B2.keep (below_al (Below.refl _ _) _), Da.keep (below_al (Below.refl _ _) _), Ra.keep (below_al (Below.refl _ _) _), Fa.keep (below_al (Below.refl _ _) _), Cc.keep (below_al (Below.refl _ _) _), Db.keep (below_al (Below.refl _ _) _), Rb.keep (below_al (Below.refl _ _) _), Fb.keep (below_al (Below.refl _ _) _), Cd.keep (below_al (Below.refl _ _) _), (BK.new wd7 [(Value.slice (some ⟨g14, 0, none⟩) l14.length c14), .slice none 0 0] _), hbk.al _, (fun c hc => (hall14 c hc).keep (below_al (Below.refl _ _) _))⟩ (fun V15 hS => ?_)
      clear hbb B0 B1 B2 Da Ra Fa Cc Db Rb Fb Cd hBV
      obtain ⟨hbb, hBV, B0, B1, B2, Da, Ra, Fa, Cc, Db, Rb, Fb, Cd, DO, BR, HL⟩ := hS
      generalize wd7.heap.size = PO at *
      clear hbk hall14 hg14
      have c0 := keepC hbb HCL.out.1
      have c1 := keepC hbb HCL.out.2.1
      have c2 := keepC hbb HCL.out.2.2
      have hG := Ck.chk_good (show Ck.chk cc.len cc.cuts cc.dens = 0 from HCK.out)
      obtain ⟨sh1, sh2, sh3⟩ := hG.shape
      have TW := Lib.hid (fun v (hv : Below w.heap.size w v) => twinF_any cc.len cc.K cc.cuts cc.ck cc.Z cc.dens cc.cz v (HCI.out.keep hv) (by omega) (by omega))
      clear hG sh1 sh2 sh3
      have hbn : bb ≠ g14 := by have := lt_of_cell HCL.out.1; omega
      have hgV := BR.lt
      have j2 : (k : Int) < (l14.length : Int) := by omega
      have p0 := B0.c 0 rfl
      have p1 := B0.c 1 rfl
      have s0 := DO.c 0 rfl
      have s1 := DO.c 1 rfl
      go_cut [] (fun v => ∃ c' : CkR, Ak.dat c' = Ak.dat cc ∧ BK v g14 (Ak.cellsC (l14.set k c')) ∧ IsC v c' ∧ GB (fun k => k = g14) V15 v)
      case first =>
       as_aux_lemma =>
        refine wp_region_held_drew (S := (GB (fun k => k = g14) V15)) (by kernel_rfl) ((GB.refl _ _).drew) (fun hHeld => ?_)
        refine at_anyH (fun u => GB (fun k => k = g14) V15 u ∧ BK u g14 (Ak.cellsC l14)) ⟨hHeld, BR.drew⟩ (fun W0 hNew => ?_)
        clear hHeld
        obtain ⟨hHeld, BRR⟩ := hNew
        refine wpAnyH_take (i := 0) (oi := _) (v := ?vm1) rfl (by kernel_rfl) (by kernel_rfl) (by kernel_rfl) (fun _ _ _ h => h) (Or.inl ⟨by kernel_rfl, ?hym1⟩) hHeld ?restm1
        case hym1 => (intro w hSw; go_simp; first | done | (with_reducible rfl))
        try simp only [Act.put, List.append, PA, set16]
        try simp only [PB]
        refine wpAnyH_take (i := 1) (oi := _) (v := ?vm2) rfl (by kernel_rfl) (by kernel_rfl) (by kernel_rfl) (fun _ _ _ h => h) (Or.inl ⟨by kernel_rfl, ?hym2⟩) hHeld ?restm2
        case hym2 => (intro w hSw; have kp0 := hSw.cell (by omega) p0; have kp1 := hSw.cell (by omega) p1; have ks0 := hSw.cell (by omega) s0; have ks1 := hSw.cell (by omega) s1; have kc0 := hSw.cell (by omega) c0; have kc1 := hSw.cell (by omega) c1; have kc2 := hSw.cell (by omega) c2; go_simp; first | done | (with_reducible rfl))
        try simp only [Act.put, List.append, PA, set16]
        try simp only [PB]
        refine wpAnyH_take (i := 2) (oi := _) (v := ?vm3) rfl (by kernel_rfl) (by kernel_rfl) (by kernel_rfl) (fun _ _ _ h => h) (Or.inl ⟨by kernel_rfl, ?hym3⟩) hHeld ?restm3
        case hym3 => (intro w hSw; go_simp; first | done | (with_reducible rfl))
        try simp only [Act.put, List.append, PA, set16]
        try simp only [PB]
        refine wpAnyH_take (i := 3) (oi := _) (v := ?vm4) rfl (by kernel_rfl) (by kernel_rfl) (by kernel_rfl) (fun _ _ _ h => h) (Or.inl ⟨by kernel_rfl, ?hym4⟩) hHeld ?restm4
        case hym4 => (intro w hSw; go_simp; first | done | (with_reducible rfl))
        try simp only [Act.put, List.append, PA, set16]
        try simp only [PB]
        refine wpAnyH_take (i := 4) (oi := _) (v := ?vm5) rfl (by kernel_rfl) (by kernel_rfl) (by kernel_rfl) (fun _ _ _ h => h) (Or.inl ⟨by kernel_rfl, ?hym5⟩) hHeld ?restm5
        case hym5 => (intro w hSw; have kp0 := hSw.cell (by omega) p0; have kp1 := hSw.cell (by omega) p1; have ks0 := hSw.cell (by omega) s0; have ks1 := hSw.cell (by omega) s1; have kc0 := hSw.cell (by omega) c0; have kc1 := hSw.cell (by omega) c1; have kc2 := hSw.cell (by omega) c2; go_simp; first | done | (with_reducible rfl))
        try simp only [Act.put, List.append, PA, set16]
        try simp only [PB]
        refine wpAnyH_take (i := 5) (oi := _) (v := ?vm6) rfl (by kernel_rfl) (by kernel_rfl) (by kernel_rfl) (fun _ _ _ h => h) (Or.inl ⟨by kernel_rfl, ?hym6⟩) hHeld ?restm6
        case hym6 => (intro w hSw; go_simp; first | done | (with_reducible rfl))
        try simp only [Act.put, List.append, PA, set16]
        try simp only [PB]
        refine wpAnyH_take (i := 6) (oi := _) (v := ?vm7) rfl (by kernel_rfl) (by kernel_rfl) (by kernel_rfl) (fun _ _ _ h => h) (Or.inl ⟨by kernel_rfl, ?hym7⟩) hHeld ?restm7
        case hym7 => (intro w hSw; go_simp; first | done | (with_reducible rfl))
        try simp only [Act.put, List.append, PA, set16]
        try simp only [PB]
        refine wpAnyH_take (i := 7) (oi := _) (v := ?vm8) rfl (by kernel_rfl) (by kernel_rfl) (by kernel_rfl) (fun _ _ _ h => h) (Or.inl ⟨by kernel_rfl, ?hym8⟩) hHeld ?restm8
        case hym8 => (intro w hSw; have kp0 := hSw.cell (by omega) p0; have kp1 := hSw.cell (by omega) p1; have ks0 := hSw.cell (by omega) s0; have ks1 := hSw.cell (by omega) s1; have kc0 := hSw.cell (by omega) c0; have kc1 := hSw.cell (by omega) c1; have kc2 := hSw.cell (by omega) c2; go_simp; first | done | (with_reducible rfl))
        try simp only [Act.put, List.append, PA, set16]
        try simp only [PB]
        refine wpAnyH_ready (rs := [8]) (by kernel_rfl) (by simp) (AllReadyH.cons (o := _) rfl (fun K hK => ?_) AllReadyH.nil)
        go_simp
        refine (TW.out _ (hHeld.toBelow hbb (fun k hk => by omega) hBV)).mono ?_
        rintro e wm9 ⟨A1, t1, A2, t2, rfl, f1, f2, hb3⟩
        have hvw := hHeld.size
        replace f1 := f1.mono hvw
        replace f2 := f2.mono hvw
        replace BRR := BRR.keep hb3
        go_wp2_with fail
        refine hK.out _ _ (hHeld.below hb3) (fun hNew => ?_)
        clear hb3 hvw
        clear hHeld hK K
        have hHeld := hNew
        clear hNew
        try simp only [Act.put, List.append, PA, set16]
        try simp only [PB]
        refine wpAnyH_take (i := 9) (oi := _) (v := ?vm10) rfl (by kernel_rfl) (by kernel_rfl) (by kernel_rfl) (fun _ _ _ h => h) (Or.inl ⟨by kernel_rfl, ?hym10⟩) hHeld ?restm10
        case hym10 => (intro w hSw; go_simp; first | done | (with_reducible rfl))
        try simp only [Act.put, List.append, PA, set16]
        try simp only [PB]
        refine wpAnyH_ready (rs := [10]) (by kernel_rfl) (by simp) (AllReadyH.cons (o := _) rfl (fun K hK => ?_) AllReadyH.nil)
        have hk3 := Ak.cellsC_at hko
        have n0 := BRR.c (k * 3) hk3.1
        have n1 := BRR.c (k * 3 + 1) hk3.2.1
        have n2 := BRR.c (k * 3 + 2) hk3.2.2
        have m0 := BRR.f (k * 3) hk3.1
        have m1 := BRR.f (k * 3 + 1) hk3.2.1
        have m2 := BRR.f (k * 3 + 2) hk3.2.2
        go_simp
        clear n0 n1 n2 m0 m1 m2 hk3
        refine hK.out _ _ (((hHeld.set (.inl rfl) _).set (.inl rfl) _).set (.inl rfl) _) (fun hNew => ?_)
        clear hHeld hK K
        have hHeld := hNew
        clear hNew
        try simp only [Act.put, List.append, PA, set16]
        try simp only [PB]
        refine wpAnyH_done (by kernel_rfl) ?_ _
        have hBR := ((BRR.set (k * 3) (.int .i64 cc.len)).set (k * 3 + 1) (.slice A1 cc.cuts.length t1)).set (k * 3 + 2) (.slice A2 cc.dens.length t2)
        rw [← Ak.cellsC_set l14 k ⟨cc.len, A1, cc.cuts, t1, A2, cc.dens, t2⟩] at hBR
        go_wp2_with fail
        go_meet
        refine ⟨⟨cc.len, A1, cc.cuts, t1, A2, cc.dens, t2⟩, rfl, hBR, ⟨HCI.out.1, HCI.out.2.1, ?_, ?_⟩, hHeld⟩
        ·
         exact (((f1.set (by omega) _).set (by omega) _).set (by omega) _).isI
        ·
         exact (((f2.set (by omega) _).set (by omega) _).set (by omega) _).isI
      case rest =>
       refine Ak.at_worldK (fun v => ∃ c' : CkR, Ak.dat c' = Ak.dat cc ∧ BK v g14 (Ak.cellsC (l14.set k c')) ∧ IsC v c' ∧ GB (fun k => k = g14) V15 v) hcut (fun v0 hS => ?_)
       clear hcut
       obtain ⟨c', hc', BR, hcc', hg⟩ := hS
       clear p0 p1 s0 s1
       have hbb15 := hg.toBelow hbb (fun k hk => by omega) hBV
       have HL := Lib.hid HL
       have B0 := B0.gb hg (by omega)
       have B1 := B1.gb hg (by omega)
       have B2 := B2.gb hg (by omega)
       have Ra := Ra.gb hg (by omega)
       have Rb := Rb.gb hg (by omega)
       have DO := DO.gb hg (by omega)
       have hcs' : IsCs v0 (some ⟨g14, 0, none⟩) (l14.set k c') := isCs_bk BR (fun c hc => (List.mem_or_eq_of_mem_set hc).elim (fun hm => ((HL.out c hm).gb (row' := (Value.slice (some ⟨g14, 0, none⟩) l14.length c14).ownBlock) hg (fun g e => .inr (by rw [show g = g14 from e]; rfl)) (fun g e => .inl e)).isC) (fun e => e ▸ hcc')) (by rw [List.length_set, HL14.out]; unfold maxLen; omega)
       obtain ⟨D', hD'⟩ : ∃ D', (l14.set k c').map Ak.dat = D' := ⟨_, rfl⟩
       have hk' : k < (l14.set k c').length := by rw [List.length_set]; exact hko
       have hdk' : Ak.dAt D' k = Ak.dat cc := by rw [← hD', Ak.dAt_map _ hk', Ak.cat_lt hk', List.getElem_set_self, hc']
       have hkD : k < D'.length := by rw [← hD', List.length_map]; exact hk'
       clear hbb BR hg HL
       have hbb := hbb15
       clear hbb15 Da Fa Cc Db Fb Cd hcc' hc' HCL TW
       have chx := fun u (hu : Below v0.heap.size v0 u) => rAskCheck_any (some ⟨g14, 0, none⟩) c14 (l14.set k c') none 0 0 u (by simp) (hcs'.keep hu)
       have pvx := fun u (hu : Below v0.heap.size v0 u) => askValue_any (some ⟨g14, 0, none⟩) c14 (l14.set k c') none [] 0 k n1 d1 n2 d2 u (hcs'.keep hu) (isQs_nil u none) HN.out.2.2.2.2 HN.out.1 HN.out.2.1 HN.out.2.2.1 HN.out.2.2.2.1
       have pkx := fun u (hu : Below v0.heap.size v0 u) => askMark_any (some ⟨g14, 0, none⟩) c14 (l14.set k c') none [] 0 k n1 d1 n2 d2 u (hcs'.keep hu) (isQs_nil u none) HN.out.2.2.2.2 HN.out.1 HN.out.2.1 HN.out.2.2.1 HN.out.2.2.2.1
       rw [hD', List.length_set] at chx pvx pkx
       rw [List.length_nil] at pvx pkx
       have ha3 := Ak.ansS_at (D := D') (k := k) (kd := 1) (j := k) (a := n1) (b := d1) (c := n2) (d := d2) rfl hkD
       have ha4 := Ak.ansS_at (D := D') (k := k) (kd := 2) (j := k) (a := n1) (b := d1) (c := n2) (d := d2) rfl hkD
       rw [if_pos rfl, hdk', HVS.out] at ha3
       rw [if_neg (by decide), if_pos rfl, hdk', HKS.out] at ha4
       have HC3 := Lib.hid ha3
       have HC4 := Lib.hid ha4
       have PVX := Lib.hid pvx
       have PKX := Lib.hid pkx
       clear ha3 ha4 pvx pkx hdk' hkD hk' hD' hcs'
       by_cases hz : Ak.chkS D' 0 = 0
       case neg =>
        have nz : (Ak.chkS D' 0 != 0) = true := by rw [bne_iff_ne]; exact hz
        generalize Ak.chkS D' 0 = zz at *
        have CHX := Lib.hid chx
        clear chx hz
        have s0 := DO.c 0 rfl
        have s1 := DO.c 1 rfl
        go_wp2_with fail
        refine (CHX.out _ (Below.refl _ _)).mono ?_
        rintro e wd1 ⟨rfl, hb⟩
        clear s0 s1
        replace B0 := B0.keep hb
        replace B1 := B1.keep hb
        replace B2 := B2.keep hb
        replace Ra := Ra.keep hb
        replace Rb := Rb.keep hb
        replace DO := DO.keep hb
        replace hbb := keepB hbb hb
        clear hb
        go_wp2_with fail
        refine (alive4_any _).mono ?_
        rintro e wd2 ⟨rfl, hb⟩
        replace B0 := B0.keep hb
        replace B1 := B1.keep hb
        replace B2 := B2.keep hb
        replace Ra := Ra.keep hb
        replace Rb := Rb.keep hb
        replace DO := DO.keep hb
        replace hbb := keepB hbb hb
        clear hb
        go_wp2_with fail
        go_ret
        exact ⟨rfl, hbb⟩
       rw [hz] at chx
       have CHX := Lib.hid chx
       clear chx
       by_cases hm2 : qs.length = 2000
       ·
        obtain rfl : fl = true := by rw [← HFL.out, hm2]; rfl
        clear hm2 HFL hz
        have s0 := DO.c 0 rfl
        have s1 := DO.c 1 rfl
        go_wp2_with fail
        refine (CHX.out _ (Below.refl _ _)).mono ?_
        rintro e wd1 ⟨rfl, hb⟩
        clear s0 s1
        replace B0 := B0.keep hb
        replace B1 := B1.keep hb
        replace B2 := B2.keep hb
        replace Ra := Ra.keep hb
        replace Rb := Rb.keep hb
        replace DO := DO.keep hb
        replace hbb := keepB hbb hb
        clear hb
        go_wp2_with fail
        refine (alive4_any _).mono ?_
        rintro e wd2 ⟨rfl, hb⟩
        replace B0 := B0.keep hb
        replace B1 := B1.keep hb
        replace B2 := B2.keep hb
        replace Ra := Ra.keep hb
        replace Rb := Rb.keep hb
        replace DO := DO.keep hb
        replace hbb := keepB hbb hb
        clear hb
        go_wp2_with fail
        go_ret
        exact ⟨rfl, hbb⟩
       ·
        obtain rfl : fl = false := by rw [← HFL.out, beq_eq_false_iff_ne]; omega
        have HE3 := Lib.hid (show Ak.putE D' ([] : List Qr).length ⟨(k : Int), 1, n1, d1, n2, d2, 0, 0⟩ = E by rw [List.length_nil, Ak.putE_at hz HC3.out, HEE.out, if_neg (show ¬ (0 : Nat) = 2000 by decide), if_neg hm2])
        have HG3 := Lib.hid (show Ak.putE D' ([] : List Qr).length ⟨(k : Int), 2, n1, d1, n2, d2, 0, 0⟩ = G by rw [List.length_nil, Ak.putE_at hz HC4.out, HGG.out, if_neg (show ¬ (0 : Nat) = 2000 by decide), if_neg hm2])
        clear hm2 HFL hz
        have hvv := Below.refl v0.heap.size v0
        have s0 := DO.c 0 rfl
        have s1 := DO.c 1 rfl
        go_wp2_with fail
        refine (CHX.out _ hvv).mono ?_
        rintro e wd8 ⟨rfl, hb⟩
        clear s0 s1
        replace B0 := B0.keep hb
        replace B1 := B1.keep hb
        replace B2 := B2.keep hb
        replace Ra := Ra.keep hb
        replace Rb := Rb.keep hb
        replace DO := DO.keep hb
        replace hbb := keepB hbb hb
        replace hvv := keepB hvv hb
        clear hb
        have s0 := DO.c 0 rfl
        have s1 := DO.c 1 rfl
        have x0 := B1.c 0 rfl
        have x1 := B1.c 1 rfl
        have z0 := B2.c 0 rfl
        have z1 := B2.c 1 rfl
        go_wp2_with fail
        refine (PVX.out _ hvv).mono ?_
        rintro e wd9 hput
        obtain ⟨Ae, me, cae, Qe, ne, cqe, rfl, hb, -⟩ := hput.two HE3.out HC3.out
        clear s0 s1 x0 x1 z0 z1
        replace B0 := B0.keep hb
        replace B1 := B1.keep hb
        replace B2 := B2.keep hb
        replace Ra := Ra.keep hb
        replace Rb := Rb.keep hb
        replace DO := DO.keep hb
        replace hbb := keepB hbb hb
        replace hvv := keepB hvv hb
        clear hb
        rw [HVa.out]
        dsimp only
        go_upto_region 19 with fail
        have hB1 := hbb.size
        have hB2 := hvv.size
        refine at_worldQ (fun v => Below w.heap.size w v ∧ w.heap.size ≤ v.heap.size ∧ BK v w.heap.size [.slice (some ⟨bb, o, none⟩) cs.length ca, .slice Q qs.length cq] ∧ BK v (w.heap.size + 1) [.int .i64 n1, .int .i64 d1] ∧ BK v (w.heap.size + 2) [.int .i64 n2, .int .i64 d2] ∧ BK v (Pa + 1) [.int .i64 vaa, .int .i64 vba] ∧ BK v (Pb + 1) [.int .i64 vab, .int .i64 vbb] ∧ BK v PO [(Value.slice (some ⟨g14, 0, none⟩) l14.length c14), .slice none 0 0] ∧ BK v (wd9.heap.size + 1) [.int .i64 vaa, .int .i64 vba] ∧ Below v0.heap.size v0 v) ⟨(by first | exact below_al (below_al hbb _) _ | exact below_al (below_set (below_set (below_al hbb _) (by omega) _) (by omega) _) _), Below.size (B := w.heap.size) (w := w) (by first | exact below_al (below_al hbb _) _ | exact below_al (below_set (below_set (below_al hbb _) (by omega) _) (by omega) _) _), B0.keep (by first | exact below_al (below_al (Below.refl _ _) _) _ | exact below_al (below_set (below_set (below_al (Below.refl _ _) _) (Nat.le_refl _) _) (Nat.le_refl _) _) _), B1.keep (by first | exact below_al (below_al (Below.refl _ _) _) _ | exact below_al (below_set (below_set (below_al (Below.refl _ _) _) (Nat.le_refl _) _) (Nat.le_refl _) _) _), B2.keep (by first | exact below_al (below_al (Below.refl _ _) _) _ | exact below_al (below_set (below_set (below_al (Below.refl _ _) _) (Nat.le_refl _) _) (Nat.le_refl _) _) _), Ra.keep (by first | exact below_al (below_al (Below.refl _ _) _) _ | exact below_al (below_set (below_set (below_al (Below.refl _ _) _) (Nat.le_refl _) _) (Nat.le_refl _) _) _), Rb.keep (by first | exact below_al (below_al (Below.refl _ _) _) _ | exact below_al (below_set (below_set (below_al (Below.refl _ _) _) (Nat.le_refl _) _) (Nat.le_refl _) _) _), DO.keep (by first | exact below_al (below_al (Below.refl _ _) _) _ | exact below_al (below_set (below_set (below_al (Below.refl _ _) _) (Nat.le_refl _) _) (Nat.le_refl _) _) _), (by first | (have b := BK.new (wd9.alloc (.cells #[.slice Ae me cae, .slice Qe ne cqe] 49)) [.int .i64 vaa, .int .i64 vba] 23; simpa only [World.size_alloc] using b)), (by first | exact below_al (below_al hvv _) _ | exact below_al (below_set (below_set (below_al hvv _) (by omega) _) (by omega) _) _)⟩ (fun V19 hS => ?_)
        clear hbb B0 B1 B2 Ra Rb DO hBV
        obtain ⟨hbb, hBV, B0, B1, B2, Ra, Rb, DO, Re, hvv⟩ := hS
        generalize wd9.heap.size = Pe at *
        have s0 := DO.c 0 rfl
        have s1 := DO.c 1 rfl
        have x0 := B1.c 0 rfl
        have x1 := B1.c 1 rfl
        have z0 := B2.c 0 rfl
        have z1 := B2.c 1 rfl
        go_wp2_with fail
        refine (PKX.out _ hvv).mono ?_
        rintro e wd10 hput
        obtain ⟨Ag, mg, cag, Qg, ng, cqg, rfl, hb, -⟩ := hput.two HG3.out HC4.out
        clear s0 s1 x0 x1 z0 z1
        replace B0 := B0.keep hb
        replace B1 := B1.keep hb
        replace B2 := B2.keep hb
        replace Ra := Ra.keep hb
        replace Rb := Rb.keep hb
        replace DO := DO.keep hb
        replace Re := Re.keep hb
        replace hbb := keepB hbb hb
        replace hvv := keepB hvv hb
        clear hb
        rw [HVb.out]
        dsimp only
        go_upto_region 20 with fail
        have hB1 := hbb.size
        have hB2 := hvv.size
        refine at_worldQ (fun v => Below w.heap.size w v ∧ w.heap.size ≤ v.heap.size ∧ BK v w.heap.size [.slice (some ⟨bb, o, none⟩) cs.length ca, .slice Q qs.length cq] ∧ BK v (w.heap.size + 1) [.int .i64 n1, .int .i64 d1] ∧ BK v (w.heap.size + 2) [.int .i64 n2, .int .i64 d2] ∧ BK v (Pa + 1) [.int .i64 vaa, .int .i64 vba] ∧ BK v (Pb + 1) [.int .i64 vab, .int .i64 vbb] ∧ BK v PO [(Value.slice (some ⟨g14, 0, none⟩) l14.length c14), .slice none 0 0] ∧ BK v (Pe + 1) [.int .i64 vaa, .int .i64 vba] ∧ BK v (wd10.heap.size + 1) [.int .i64 vab, .int .i64 vbb] ∧ Below v0.heap.size v0 v) ⟨(by first | exact below_al (below_al hbb _) _ | exact below_al (below_set (below_set (below_al hbb _) (by omega) _) (by omega) _) _), Below.size (B := w.heap.size) (w := w) (by first | exact below_al (below_al hbb _) _ | exact below_al (below_set (below_set (below_al hbb _) (by omega) _) (by omega) _) _), B0.keep (by first | exact below_al (below_al (Below.refl _ _) _) _ | exact below_al (below_set (below_set (below_al (Below.refl _ _) _) (Nat.le_refl _) _) (Nat.le_refl _) _) _), B1.keep (by first | exact below_al (below_al (Below.refl _ _) _) _ | exact below_al (below_set (below_set (below_al (Below.refl _ _) _) (Nat.le_refl _) _) (Nat.le_refl _) _) _), B2.keep (by first | exact below_al (below_al (Below.refl _ _) _) _ | exact below_al (below_set (below_set (below_al (Below.refl _ _) _) (Nat.le_refl _) _) (Nat.le_refl _) _) _), Ra.keep (by first | exact below_al (below_al (Below.refl _ _) _) _ | exact below_al (below_set (below_set (below_al (Below.refl _ _) _) (Nat.le_refl _) _) (Nat.le_refl _) _) _), Rb.keep (by first | exact below_al (below_al (Below.refl _ _) _) _ | exact below_al (below_set (below_set (below_al (Below.refl _ _) _) (Nat.le_refl _) _) (Nat.le_refl _) _) _), DO.keep (by first | exact below_al (below_al (Below.refl _ _) _) _ | exact below_al (below_set (below_set (below_al (Below.refl _ _) _) (Nat.le_refl _) _) (Nat.le_refl _) _) _), Re.keep (by first | exact below_al (below_al (Below.refl _ _) _) _ | exact below_al (below_set (below_set (below_al (Below.refl _ _) _) (Nat.le_refl _) _) (Nat.le_refl _) _) _), (by first | (have b := BK.new (wd10.alloc (.cells #[.slice Ag mg cag, .slice Qg ng cqg] 49)) [.int .i64 vab, .int .i64 vbb] 23; simpa only [World.size_alloc] using b)), (by first | exact below_al (below_al hvv _) _ | exact below_al (below_set (below_set (below_al hvv _) (by omega) _) (by omega) _) _)⟩ (fun V20 hS => ?_)
        clear hbb B0 B1 B2 Ra Rb DO Re hBV
        obtain ⟨hbb, hBV, B0, B1, B2, Ra, Rb, DO, Re, Rg, hvv⟩ := hS
        generalize wd10.heap.size = Pg at *
        have ra0 := Ra.c 0 rfl
        have ra1 := Ra.c 1 rfl
        have rb0 := Rb.c 0 rfl
        have rb1 := Rb.c 1 rfl
        have re0 := Re.c 0 rfl
        have re1 := Re.c 1 rfl
        have rg0 := Rg.c 0 rfl
        have rg1 := Rg.c 1 rfl
        go_wp2_with fail
        refine (alive4_any _).mono ?_
        rintro e wd11 ⟨rfl, hb⟩
        clear ra0 ra1 rb0 rb1 re0 re1 rg0 rg1
        replace B0 := B0.keep hb
        replace B1 := B1.keep hb
        replace B2 := B2.keep hb
        replace Ra := Ra.keep hb
        replace Rb := Rb.keep hb
        replace DO := DO.keep hb
        replace Re := Re.keep hb
        replace Rg := Rg.keep hb
        replace hbb := keepB hbb hb
        clear hb
        go_wp2_with fail
        go_ret
        exact ⟨rfl, hbb⟩
end Go.Proofs.Ytaaamcleilpnhaa
