/- Plain facts on worlds: what a callee, a store or a new block leaves as it was. -/
import Derived.Test.YtpiolhjiflohgaaProg
import Derived.WalkKit
import Derived.WalkSpells
import Derived.WalkLawsBesides
import Derived.Lib.Hide
import Derived.Deep.RegionHeld3
namespace Go.Proofs.Ytpiolhjiflohgaa
open Go.RowKit

/-- A cell that a callee has left as it was. -/
theorem keepC {V w1 : World} (hb : Below V.heap.size V w1) {b o : Nat} {v : Value} (h : V.cell? ⟨b, o, none⟩ = some v) : w1.cell? ⟨b, o, none⟩ = some v :=
  (hb.cell (p := ⟨b, o, none⟩) (World.block_lt_of_cell? V _ h)).trans h
theorem keepF {V w1 : World} (hb : Below V.heap.size V w1) {b o : Nat} {v : Value} (h : V.cell? ⟨b, o, none⟩ = some v) (hf : V.frozen? ⟨b, o, none⟩ = false) : w1.frozen? ⟨b, o, none⟩ = false :=
  (hb.frozen (p := ⟨b, o, none⟩) (World.block_lt_of_cell? V _ h)).trans hf
theorem lt_of_cell {V : World} {b o : Nat} {v : Value} (h : V.cell? ⟨b, o, none⟩ = some v) : b < V.heap.size := World.block_lt_of_cell? V _ h
/-- What a callee leaves, as the caller sees it. -/
theorem keepB {w V w1 : World} (h : Below w.heap.size w V) (hb : Below V.heap.size V w1) : Below w.heap.size w w1 := h.trans (hb.mono h.size)
/-- What a cell holds. -/
def vat (v : World) (b o : Nat) : Value := (v.cell? ⟨b, o, none⟩).getD undef
theorem vat_of {v : World} {b o : Nat} {x : Value} (h : v.cell? ⟨b, o, none⟩ = some x) : v.cell? ⟨b, o, none⟩ = some (vat v b o) := by
  unfold vat; rw [h]; rfl
theorem cell_alloc {v : World} {b o : Nat} {x : Value} (h : v.cell? ⟨b, o, none⟩ = some x) (ob : Obj) : (v.alloc ob).cell? ⟨b, o, none⟩ = some x :=
  (((Below.refl v.heap.size v).alloc (Nat.le_refl _) ob).cell (p := ⟨b, o, none⟩) (lt_of_cell h)).trans h
theorem froz_alloc {v : World} {b o : Nat} {x : Value} (h : v.cell? ⟨b, o, none⟩ = some x) (hf : v.frozen? ⟨b, o, none⟩ = false) (ob : Obj) : (v.alloc ob).frozen? ⟨b, o, none⟩ = false :=
  (((Below.refl v.heap.size v).alloc (Nat.le_refl _) ob).frozen (p := ⟨b, o, none⟩) (lt_of_cell h)).trans hf
theorem cell_far {v : World} {b o c p : Nat} {x : Value} (h : v.cell? ⟨b, o, none⟩ = some x) (hne : c ≠ b) (u : Value) : (v.setCell ⟨c, p, none⟩ u).cell? ⟨b, o, none⟩ = some x :=
  (World.cell?_setCell_far v ⟨c, p, none⟩ ⟨b, o, none⟩ u hne).trans h
theorem vat_set {v : World} {b o : Nat} {x : Value} (h : v.cell? ⟨b, o, none⟩ = some x) (q : Addr) (u : Value) : (v.setCell q u).cell? ⟨b, o, none⟩ = some (vat (v.setCell q u) b o) := by
  obtain ⟨y, hy⟩ := cell?_setCell_some (p := q) (x := u) h
  exact vat_of hy
theorem froz_set {v : World} {b o : Nat} (h : v.frozen? ⟨b, o, none⟩ = false) (q : Addr) (u : Value) : (v.setCell q u).frozen? ⟨b, o, none⟩ = false := by
  rw [World.frozen?_setCell]; exact h
theorem set_back {v : World} {a : Addr} {x y : Value} (h : (v.setCell a x).cell? a = some y) : y = x := by
  cases hc : v.cell? a with
  | some u => rw [World.cell?_setCell_same v a x hc] at h; injection h with h; exact h.symm
  | none =>
    exfalso
    unfold World.cell? at hc
    simp only [World.setCell, World.cell?, Array.getElem?_modify, ↓reduceIte] at h
    cases hb : v.heap[a.block]? with
    | none => rw [hb] at h; simp at h
    | some o =>
      rw [hb] at h hc
      cases o with
      | cells c e f =>
        by_cases hs : a.spot.isSome = true
        · simp [hs] at h
        · simp [hs] at h hc
          rw [Array.getElem?_eq_none (by simpa using hc)] at h
          cases h
      | _ => simp at h
theorem res_last {v : World} {p : Addr} {a x : Value} (h : (v.setCell p a).cell? p = some x) : (v.setCell p a).cell? p = some a := by
  have := set_back h; rw [this] at h; exact h
theorem res_far {v : World} {p q : Addr} {a b x : Value} (hne : q ≠ p) (h : ((v.setCell p a).setCell q b).cell? p = some x) : ((v.setCell p a).setCell q b).cell? p = some a := by
  rw [World.cell?_setCell_other _ _ _ _ hne] at h ⊢
  exact res_last h
/-- The walk goes on in any world of which S holds. -/
theorem at_world {P : Program} {c : Code} {Q : Exit → Act → World → Prop} {a : Act} {w : World} (S : World → Prop) (h : S w) (k : ∀ V, S V → Code.wp P c Q a V) : Code.wp P c Q a w := k w h
theorem at_worldQ {P : Program} {c : Code} {Q : Exit → Act → World → Prop} {a : Act} {w : World} (S : World → Prop) (h : S w) (k : ∀ V, S V → Code.wp P c Q a V) : Code.wp P c Q a w := k w h
theorem at_worldR {P : Program} {f : FuncId} {args : Array Value} {Q : Ending → World → Prop} {w : World} (S : World → Prop) (h : S w) (k : ∀ V, S V → Calls P f args V Q) : Calls P f args w Q := k w h
/-- The cells of a new block of three, and what lies before it. -/
theorem new0 (u : World) (a b c : Value) (t : TypeId) : (u.alloc (.cells #[a, b, c] t)).cell? ⟨u.heap.size, 0, none⟩ = some a := by go_simp
theorem new1 (u : World) (a b c : Value) (t : TypeId) : (u.alloc (.cells #[a, b, c] t)).cell? ⟨u.heap.size, 1, none⟩ = some b := by go_simp
theorem new2 (u : World) (a b c : Value) (t : TypeId) : (u.alloc (.cells #[a, b, c] t)).cell? ⟨u.heap.size, 2, none⟩ = some c := by go_simp
theorem newf (u : World) (a b c : Value) (t : TypeId) (j : Nat) : (u.alloc (.cells #[a, b, c] t)).frozen? ⟨u.heap.size, j, none⟩ = false := by go_simp
theorem lt_alloc {u : World} {o : Obj} {b j : Nat} {x : Value} (h : (u.alloc o).cell? ⟨b, j, none⟩ = some x) : b ≤ u.heap.size := by
  have := lt_of_cell h; simp at this; omega
theorem lt_alloc' {u : World} {o : Obj} {b : Nat} {x y : Value} (h : (u.alloc o).cell? ⟨b, 0, none⟩ = some x) (k : (u.alloc o).cell? ⟨u.heap.size, 0, none⟩ = some y) (hne : x ≠ y) : b < u.heap.size := by
  have h1 := lt_alloc h
  rcases Nat.lt_or_eq_of_le h1 with h2 | h2
  · exact h2
  · subst h2; rw [h] at k; injection k with k; exact absurd k hne
theorem cells_apart {v : World} {b p : Nat} {x y : Value} (h : v.cell? ⟨b, 0, none⟩ = some x) (k : v.cell? ⟨p, 0, none⟩ = some y) (hne : x ≠ y) : b ≠ p := by
  intro e; subst e; rw [h] at k; injection k with k; exact hne k
theorem n20 (u : World) (a b : Value) (t : TypeId) : (u.alloc (.cells #[a, b] t)).cell? ⟨u.heap.size, 0, none⟩ = some a := by go_simp
theorem n21 (u : World) (a b : Value) (t : TypeId) : (u.alloc (.cells #[a, b] t)).cell? ⟨u.heap.size, 1, none⟩ = some b := by go_simp
theorem n2f (u : World) (a b : Value) (t : TypeId) (j : Nat) : (u.alloc (.cells #[a, b] t)).frozen? ⟨u.heap.size, j, none⟩ = false := by go_simp
theorem m20 (u : World) (o : Obj) (a b : Value) (t : TypeId) : ((u.alloc o).alloc (.cells #[a, b] t)).cell? ⟨u.heap.size + 1, 0, none⟩ = some a := by go_simp
theorem m21 (u : World) (o : Obj) (a b : Value) (t : TypeId) : ((u.alloc o).alloc (.cells #[a, b] t)).cell? ⟨u.heap.size + 1, 1, none⟩ = some b := by go_simp
theorem m2f (u : World) (o : Obj) (a b : Value) (t : TypeId) (j : Nat) : ((u.alloc o).alloc (.cells #[a, b] t)).frozen? ⟨u.heap.size + 1, j, none⟩ = false := by go_simp
theorem below_al {a v : World} (h : Below a.heap.size a v) (o : Obj) : Below a.heap.size a (v.alloc o) := h.alloc h.size o
theorem lt_al2 {u : World} {o : Obj} {b : Nat} {x y : Value} (h : (u.alloc o).cell? ⟨b, 0, none⟩ = some x) (k : (u.alloc o).cell? ⟨u.heap.size, 0, none⟩ = some y) (hne : x ≠ y) : b < u.heap.size := lt_alloc' h k hne
theorem lt_al3 {u : World} {o o' : Obj} {b : Nat} {x y z : Value} (h : ((u.alloc o).alloc o').cell? ⟨b, 0, none⟩ = some x) (k : ((u.alloc o).alloc o').cell? ⟨u.heap.size, 0, none⟩ = some y)
    (l : ((u.alloc o).alloc o').cell? ⟨u.heap.size + 1, 0, none⟩ = some z) (hne : x ≠ y) (hne2 : x ≠ z) : b < u.heap.size := by
  have h1 := lt_of_cell h
  have h2 := cells_apart h k hne
  have h3 := cells_apart h l hne2
  simp at h1
  omega
theorem PPz : ((∀ (a : Act) (d : Tmp) (v : Value), a.put (some d) v = { a with tmps := a.tmps.setIfInBounds d v }) ∧ (∀ (a : Act) (v : Value), a.put none v = a)) ∧ (∀ {α : Type} (xs : List α) (i : Nat) (h : i < xs.toArray.size), xs.toArray[i] = xs[i]'(by simpa using h)) ∧ (∀ {α : Type} (a : α) (zs : List α) (i : Nat) (h : i + 1 < (a :: zs).length), (a :: zs)[i + 1] = zs[i]'(by simpa using h)) ∧ (∀ {α : Type} (a : α) (zs : List α) (h : 0 < (a :: zs).length), (a :: zs)[0] = a) ∧ (∀ {α : Type} (l : List α) (i : Nat) (v : α), l.toArray.setIfInBounds i v = (l.set i v).toArray) ∧ (∀ {α : Type} (x : α) (xs : List α) (a : α), (x :: xs).set 0 a = a :: xs) ∧ ∀ {α : Type} (x : α) (xs : List α) (n : Nat) (a : α), (x :: xs).set (n + 1) a = x :: xs.set n a :=
  ⟨⟨fun _ _ _ => rfl, fun _ _ => rfl⟩, fun _ _ _ => rfl, fun _ _ _ _ => rfl, fun _ _ _ => rfl, fun _ _ _ => by simp, fun _ _ _ => rfl, fun _ _ _ _ => rfl⟩
section
variable {P : Program} {md : Region.Mode} {ops : Array Oper} {Q : Exit → Act → World → Prop} {S : World → Prop} {fuel : Nat} {listed : Array Bool} {a : Act} {w : World}
theorem tkn (i : Nat) (v : Value) {oi : Oper} (hi : ops[i]? = some oi) (hy : ∀ w, S w → (execOp a.eval oi).run P w = .ok (.value v) w) (hS : S w)
    (h : wpAnyH P md ops Q S fuel (listed.setIfInBounds i true) (a.put oi.dst v) w)
    (hs : Region.noSelect ops = true := by kernel_rfl) (hf : Region.free md ops listed i = true := by kernel_rfl) (hr : (Region.ready md ops listed).contains i = true := by kernel_rfl)
    (hw : Region.wanted oi (yielded ops a.tmps) = true := by kernel_rfl)
    (hQ : ∀ c a w, Q (.panic c) (a.put oi.dst v) w → Q (.panic c) a w := by exact fun _ _ _ h => h) : wpAnyH P md ops Q S (fuel + 1) listed a w :=
  wpAnyH_take hi hs hf hr hQ (Or.inl ⟨hw, hy⟩) hS h
theorem tkna (i : Nat) (v : Value) {oi : Oper} (hi : ops[i]? = some oi) (hy : ∀ w, S w → (execOp a.eval oi).run P w = .ok (.value v) w)
    (h : wpAnyH P md ops Q S fuel (listed.setIfInBounds i true) (a.put oi.dst v) w) (hS : S w := by assumption)
    (hs : Region.noSelect ops = true := by kernel_rfl) (hf : Region.free md ops listed i = true := by kernel_rfl) (hr : (Region.ready md ops listed).contains i = true := by kernel_rfl)
    (hw : Region.wanted oi (yielded ops a.tmps) = true := by kernel_rfl)
    (hQ : ∀ c a w, Q (.panic c) (a.put oi.dst v) w → Q (.panic c) a w := by exact fun _ _ _ h => h) : wpAnyH P md ops Q S (fuel + 1) listed a w :=
  wpAnyH_take hi hs hf hr hQ (Or.inl ⟨hw, hy⟩) hS h
theorem tkd (i : Nat) {v : Value} {oi : Oper} (h : wpAnyH P md ops Q S fuel (listed.setIfInBounds i true) (a.put oi.dst v) w) (hi : ops[i]? = some oi := by rfl) (hS : S w := by assumption)
    (hy : ∀ w, S w → (execOp a.eval oi).run P w = .ok (.value v) w := by intro w hSw; (try simp only [PPz]); go_simp <;> with_reducible rfl)
    (hs : Region.noSelect ops = true := by kernel_rfl) (hf : Region.free md ops listed i = true := by kernel_rfl) (hr : (Region.ready md ops listed).contains i = true := by kernel_rfl)
    (hw : Region.wanted oi (yielded ops a.tmps) = true := by kernel_rfl)
    (hQ : ∀ c a w, Q (.panic c) (a.put oi.dst v) w → Q (.panic c) a w := by exact fun _ _ _ h => h) : wpAnyH P md ops Q S (fuel + 1) listed a w :=
  wpAnyH_take hi hs hf hr hQ (Or.inl ⟨hw, hy⟩) hS h
theorem tkm (i : Nat) {v : Value} {oi : Oper} (hi : ops[i]? = some oi) (hS : S w) (hy : ∀ w, S w → (execOp a.eval oi).run P w = .ok (.value v) w)
    (h : wpAnyH P md ops Q S fuel (listed.setIfInBounds i true) (a.put oi.dst v) w)
    (hs : Region.noSelect ops = true := by kernel_rfl) (hf : Region.free md ops listed i = true := by kernel_rfl) (hr : (Region.ready md ops listed).contains i = true := by kernel_rfl)
    (hw : Region.wanted oi (yielded ops a.tmps) = true := by kernel_rfl)
    (hQ : ∀ c a w, Q (.panic c) (a.put oi.dst v) w → Q (.panic c) a w := by exact fun _ _ _ h => h) : wpAnyH P md ops Q S (fuel + 1) listed a w :=
  wpAnyH_take hi hs hf hr hQ (Or.inl ⟨hw, hy⟩) hS h
theorem tkns (i : Nat) {oi : Oper} (hi : ops[i]? = some oi) (hS : S w) (h : wpAnyH P md ops Q S fuel (listed.setIfInBounds i true) (a.put oi.dst undef) w)
    (hs : Region.noSelect ops = true := by kernel_rfl) (hf : Region.free md ops listed i = true := by kernel_rfl) (hr : (Region.ready md ops listed).contains i = true := by kernel_rfl)
    (hw : Region.wanted oi (yielded ops a.tmps) = false := by kernel_rfl)
    (hQ : ∀ c a w, Q (.panic c) (a.put oi.dst undef) w → Q (.panic c) a w := by exact fun _ _ _ h => h) : wpAnyH P md ops Q S (fuel + 1) listed a w :=
  wpAnyH_take hi hs hf hr hQ (Or.inr ⟨hw, rfl⟩) hS h
theorem rdy1 (i : Nat) {o : Oper} (ho : ops[i]? = some o) (h : ∀ K' : Act → World → Prop, Shut (∀ a w, S w → (S w → wpAnyH P md ops Q S fuel (listed.setIfInBounds i true) a w) → K' a w) → if Region.wanted o (yielded ops a.tmps) = true then Oper.wp P o a w K' Q else K' (a.put o.dst undef) w)
    (hr : Region.ready md ops listed = [i] := by kernel_rfl) : wpAnyH P md ops Q S (fuel + 1) listed a w := wpAnyH_ready hr (by simp) (.cons ho h .nil)
theorem rdy2 (i j : Nat) {o u : Oper} (ho : ops[i]? = some o) (hu : ops[j]? = some u) (h : ∀ K' : Act → World → Prop, Shut (∀ a w, S w → (S w → wpAnyH P md ops Q S fuel (listed.setIfInBounds i true) a w) → K' a w) → if Region.wanted o (yielded ops a.tmps) = true then Oper.wp P o a w K' Q else K' (a.put o.dst undef) w)
    (k : ∀ K' : Act → World → Prop, Shut (∀ a w, S w → (S w → wpAnyH P md ops Q S fuel (listed.setIfInBounds j true) a w) → K' a w) → if Region.wanted u (yielded ops a.tmps) = true then Oper.wp P u a w K' Q else K' (a.put u.dst undef) w)
    (hr : Region.ready md ops listed = [i, j] := by kernel_rfl) : wpAnyH P md ops Q S (fuel + 1) listed a w := wpAnyH_ready hr (by simp) (.cons ho h (.cons hu k .nil))
theorem rdy3 (i j n : Nat) {o u x : Oper} (ho : ops[i]? = some o) (hu : ops[j]? = some u) (hx : ops[n]? = some x) (h : ∀ K' : Act → World → Prop, Shut (∀ a w, S w → (S w → wpAnyH P md ops Q S fuel (listed.setIfInBounds i true) a w) → K' a w) → if Region.wanted o (yielded ops a.tmps) = true then Oper.wp P o a w K' Q else K' (a.put o.dst undef) w)
    (k : ∀ K' : Act → World → Prop, Shut (∀ a w, S w → (S w → wpAnyH P md ops Q S fuel (listed.setIfInBounds j true) a w) → K' a w) → if Region.wanted u (yielded ops a.tmps) = true then Oper.wp P u a w K' Q else K' (a.put u.dst undef) w)
    (g : ∀ K' : Act → World → Prop, Shut (∀ a w, S w → (S w → wpAnyH P md ops Q S fuel (listed.setIfInBounds n true) a w) → K' a w) → if Region.wanted x (yielded ops a.tmps) = true then Oper.wp P x a w K' Q else K' (a.put x.dst undef) w)
    (hr : Region.ready md ops listed = [i, j, n] := by kernel_rfl) : wpAnyH P md ops Q S (fuel + 1) listed a w := wpAnyH_ready hr (by simp) (.cons ho h (.cons hu k (.cons hx g .nil)))
end
end Go.Proofs.Ytpiolhjiflohgaa
