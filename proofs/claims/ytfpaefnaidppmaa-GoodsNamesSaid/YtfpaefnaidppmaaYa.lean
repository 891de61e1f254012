/- Plain facts on worlds: what a callee, a store or a new block leaves as it was. Opening of arguments: what slices of ints and of ratios, and cakes, that came in hold; arguments read again behind a call that left all that lay before. Blocks that a region makes: what they hold, and what leaves them as they are. -/
import Derived.Test.YtfpaefnaidppmaaProg
import Derived.WalkKit
import Derived.WalkSpells
import Derived.WalkLawsBesides
import Derived.Lib.Hide
import Derived.Deep.RegionHeld3
import Derived.Test.YtfpaefnaidppmaaRows
import Derived.ProofKit
import Derived.OpenShut
import Derived.Below
import Derived.Carry
import Derived.ChangeSame
import Derived.ChangeMaps5
import Derived.Lib.SmallJoins
import Derived.RangeFuncBox
import Derived.Deep.CutBlock
import Derived.Deep.DeepCutAuto
namespace Go.Proofs.Ytfpaefnaidppmaa
open Go.RowKit

/-- A cell that a callee has left as it was. -/
theorem keepC {V w1 : World} (hb : Below V.heap.size V w1) {b o : Nat} {v : Value} (h : V.cell? ⟨b, o, none⟩ = some v) : w1.cell? ⟨b, o, none⟩ = some v :=
  (hb.cell (p := ⟨b, o, none⟩) (World.block_lt_of_cell? V _ h)).trans h
theorem keepF {V w1 : World} (hb : Below V.heap.size V w1) {b o : Nat} {v : Value} (h : V.cell? ⟨b, o, none⟩ = some v) (hf : V.frozen? ⟨b, o, none⟩ = false) : w1.frozen? ⟨b, o, none⟩ = false :=
  (hb.frozen (p := ⟨b, o, none⟩) (World.block_lt_of_cell? V _ h)).trans hf
theorem lt_of_cell {V : World} {b o : Nat} {v : Value} (h : V.cell? ⟨b, o, none⟩ = some v) : b < V.heap.size := World.block_lt_of_cell? V _ h
/-- What a callee leaves, as the caller sees it. -/
theorem keepB {w V w1 : World} (h : Below w.heap.size w V) (hb : Below V.heap.size V w1) : Below w.heap.size w w1 := h.trans (hb.mono h.size)
/-- What a cell holds. -/
def vat (v : World) (b o : Nat) : Value := (v.cell? ⟨b, o, none⟩).getD undef
theorem vat_of {v : World} {b o : Nat} {x : Value} (h : v.cell? ⟨b, o, none⟩ = some x) : v.cell? ⟨b, o, none⟩ = some (vat v b o) := by
  unfold vat; rw [h]; rfl
theorem cell_alloc {v : World} {b o : Nat} {x : Value} (h : v.cell? ⟨b, o, none⟩ = some x) (ob : Obj) : (v.alloc ob).cell? ⟨b, o, none⟩ = some x :=
  (((Below.refl v.heap.size v).alloc (Nat.le_refl _) ob).cell (p := ⟨b, o, none⟩) (lt_of_cell h)).trans h
theorem froz_alloc {v : World} {b o : Nat} {x : Value} (h : v.cell? ⟨b, o, none⟩ = some x) (hf : v.frozen? ⟨b, o, none⟩ = false) (ob : Obj) : (v.alloc ob).frozen? ⟨b, o, none⟩ = false :=
  (((Below.refl v.heap.size v).alloc (Nat.le_refl _) ob).frozen (p := ⟨b, o, none⟩) (lt_of_cell h)).trans hf
theorem cell_far {v : World} {b o c p : Nat} {x : Value} (h : v.cell? ⟨b, o, none⟩ = some x) (hne : c ≠ b) (u : Value) : (v.setCell ⟨c, p, none⟩ u).cell? ⟨b, o, none⟩ = some x :=
  (World.cell?_setCell_far v ⟨c, p, none⟩ ⟨b, o, none⟩ u hne).trans h
theorem vat_set {v : World} {b o : Nat} {x : Value} (h : v.cell? ⟨b, o, none⟩ = some x) (q : Addr) (u : Value) : (v.setCell q u).cell? ⟨b, o, none⟩ = some (vat (v.setCell q u) b o) := by
  obtain ⟨y, hy⟩ := cell?_setCell_some (p := q) (x := u) h
  exact vat_of hy
theorem froz_set {v : World} {b o : Nat} (h : v.frozen? ⟨b, o, none⟩ = false) (q : Addr) (u : Value) : (v.setCell q u).frozen? ⟨b, o, none⟩ = false := by
  rw [World.frozen?_setCell]; exact h
theorem set_back {v : World} {a : Addr} {x y : Value} (h : (v.setCell a x).cell? a = some y) : y = x := by
  cases hc : v.cell? a with
  | some u => rw [World.cell?_setCell_same v a x hc] at h; injection h with h; exact h.symm
  | none =>
    exfalso
    unfold World.cell? at hc
    simp only [World.setCell, World.cell?, Array.getElem?_modify, ↓reduceIte] at h
    cases hb : v.heap[a.block]? with
    | none => rw [hb] at h; simp at h
    | some o =>
      rw [hb] at h hc
      cases o with
      | cells c e f =>
        by_cases hs : a.spot.isSome = true
        · simp [hs] at h
        · simp [hs] at h hc
          rw [Array.getElem?_eq_none (by simpa using hc)] at h
          cases h
      | _ => simp at h
theorem res_last {v : World} {p : Addr} {a x : Value} (h : (v.setCell p a).cell? p = some x) : (v.setCell p a).cell? p = some a := by
  have := set_back h; rw [this] at h; exact h
theorem res_far {v : World} {p q : Addr} {a b x : Value} (hne : q ≠ p) (h : ((v.setCell p a).setCell q b).cell? p = some x) : ((v.setCell p a).setCell q b).cell? p = some a := by
  rw [World.cell?_setCell_other _ _ _ _ hne] at h ⊢
  exact res_last h
/-- The walk goes on in any world of which S holds. -/
theorem at_world {P : Program} {c : Code} {Q : Exit → Act → World → Prop} {a : Act} {w : World} (S : World → Prop) (h : S w) (k : ∀ V, S V → Code.wp P c Q a V) : Code.wp P c Q a w := k w h
theorem at_worldQ {P : Program} {c : Code} {Q : Exit → Act → World → Prop} {a : Act} {w : World} (S : World → Prop) (h : S w) (k : ∀ V, S V → Code.wp P c Q a V) : Code.wp P c Q a w := k w h
theorem at_worldR {P : Program} {f : FuncId} {args : Array Value} {Q : Ending → World → Prop} {w : World} (S : World → Prop) (h : S w) (k : ∀ V, S V → Calls P f args V Q) : Calls P f args w Q := k w h
/-- The cells of a new block of three, and what lies before it. -/
theorem new0 (u : World) (a b c : Value) (t : TypeId) : (u.alloc (.cells #[a, b, c] t)).cell? ⟨u.heap.size, 0, none⟩ = some a := by go_simp
theorem new1 (u : World) (a b c : Value) (t : TypeId) : (u.alloc (.cells #[a, b, c] t)).cell? ⟨u.heap.size, 1, none⟩ = some b := by go_simp
theorem new2 (u : World) (a b c : Value) (t : TypeId) : (u.alloc (.cells #[a, b, c] t)).cell? ⟨u.heap.size, 2, none⟩ = some c := by go_simp
theorem newf (u : World) (a b c : Value) (t : TypeId) (j : Nat) : (u.alloc (.cells #[a, b, c] t)).frozen? ⟨u.heap.size, j, none⟩ = false := by go_simp
theorem lt_alloc {u : World} {o : Obj} {b j : Nat} {x : Value} (h : (u.alloc o).cell? ⟨b, j, none⟩ = some x) : b ≤ u.heap.size := by
  have := lt_of_cell h; simp at this; omega
theorem lt_alloc' {u : World} {o : Obj} {b : Nat} {x y : Value} (h : (u.alloc o).cell? ⟨b, 0, none⟩ = some x) (k : (u.alloc o).cell? ⟨u.heap.size, 0, none⟩ = some y) (hne : x ≠ y) : b < u.heap.size := by
  have h1 := lt_alloc h
  rcases Nat.lt_or_eq_of_le h1 with h2 | h2
  · exact h2
  · subst h2; rw [h] at k; injection k with k; exact absurd k hne
theorem cells_apart {v : World} {b p : Nat} {x y : Value} (h : v.cell? ⟨b, 0, none⟩ = some x) (k : v.cell? ⟨p, 0, none⟩ = some y) (hne : x ≠ y) : b ≠ p := by
  intro e; subst e; rw [h] at k; injection k with k; exact hne k
theorem n20 (u : World) (a b : Value) (t : TypeId) : (u.alloc (.cells #[a, b] t)).cell? ⟨u.heap.size, 0, none⟩ = some a := by go_simp
theorem n21 (u : World) (a b : Value) (t : TypeId) : (u.alloc (.cells #[a, b] t)).cell? ⟨u.heap.size, 1, none⟩ = some b := by go_simp
theorem n2f (u : World) (a b : Value) (t : TypeId) (j : Nat) : (u.alloc (.cells #[a, b] t)).frozen? ⟨u.heap.size, j, none⟩ = false := by go_simp
theorem m20 (u : World) (o : Obj) (a b : Value) (t : TypeId) : ((u.alloc o).alloc (.cells #[a, b] t)).cell? ⟨u.heap.size + 1, 0, none⟩ = some a := by go_simp
theorem m21 (u : World) (o : Obj) (a b : Value) (t : TypeId) : ((u.alloc o).alloc (.cells #[a, b] t)).cell? ⟨u.heap.size + 1, 1, none⟩ = some b := by go_simp
theorem m2f (u : World) (o : Obj) (a b : Value) (t : TypeId) (j : Nat) : ((u.alloc o).alloc (.cells #[a, b] t)).frozen? ⟨u.heap.size + 1, j, none⟩ = false := by go_simp
theorem below_al {a v : World} (h : Below a.heap.size a v) (o : Obj) : Below a.heap.size a (v.alloc o) := h.alloc h.size o
theorem lt_al2 {u : World} {o : Obj} {b : Nat} {x y : Value} (h : (u.alloc o).cell? ⟨b, 0, none⟩ = some x) (k : (u.alloc o).cell? ⟨u.heap.size, 0, none⟩ = some y) (hne : x ≠ y) : b < u.heap.size := lt_alloc' h k hne
theorem lt_al3 {u : World} {o o' : Obj} {b : Nat} {x y z : Value} (h : ((u.alloc o).alloc o').cell? ⟨b, 0, none⟩ = some x) (k : ((u.alloc o).alloc o').cell? ⟨u.heap.size, 0, none⟩ = some y)
    (l : ((u.alloc o).alloc o').cell? ⟨u.heap.size + 1, 0, none⟩ = some z) (hne : x ≠ y) (hne2 : x ≠ z) : b < u.heap.size := by
  have h1 := lt_of_cell h
  have h2 := cells_apart h k hne
  have h3 := cells_apart h l hne2
  simp at h1
  omega
theorem PPz : ((∀ (a : Act) (d : Tmp) (v : Value), a.put (some d) v = { a with tmps := a.tmps.setIfInBounds d v }) ∧ (∀ (a : Act) (v : Value), a.put none v = a)) ∧ (∀ {α : Type} (xs : List α) (i : Nat) (h : i < xs.toArray.size), xs.toArray[i] = xs[i]'(by simpa using h)) ∧ (∀ {α : Type} (a : α) (zs : List α) (i : Nat) (h : i + 1 < (a :: zs).length), (a :: zs)[i + 1] = zs[i]'(by simpa using h)) ∧ (∀ {α : Type} (a : α) (zs : List α) (h : 0 < (a :: zs).length), (a :: zs)[0] = a) ∧ (∀ {α : Type} (l : List α) (i : Nat) (v : α), l.toArray.setIfInBounds i v = (l.set i v).toArray) ∧ (∀ {α : Type} (x : α) (xs : List α) (a : α), (x :: xs).set 0 a = a :: xs) ∧ ∀ {α : Type} (x : α) (xs : List α) (n : Nat) (a : α), (x :: xs).set (n + 1) a = x :: xs.set n a :=
  ⟨⟨fun _ _ _ => rfl, fun _ _ => rfl⟩, fun _ _ _ => rfl, fun _ _ _ _ => rfl, fun _ _ _ => rfl, fun _ _ _ => by simp, fun _ _ _ => rfl, fun _ _ _ _ => rfl⟩
section
variable {P : Program} {md : Region.Mode} {ops : Array Oper} {Q : Exit → Act → World → Prop} {S : World → Prop} {fuel : Nat} {listed : Array Bool} {a : Act} {w : World}
theorem tkn (i : Nat) (v : Value) {oi : Oper} (hi : ops[i]? = some oi) (hy : ∀ w, S w → (execOp a.eval oi).run P w = .ok (.value v) w) (hS : S w)
    (h : wpAnyH P md ops Q S fuel (listed.setIfInBounds i true) (a.put oi.dst v) w)
    (hs : Region.noSelect ops = true := by kernel_rfl) (hf : Region.free md ops listed i = true := by kernel_rfl) (hr : (Region.ready md ops listed).contains i = true := by kernel_rfl)
    (hw : Region.wanted oi (yielded ops a.tmps) = true := by kernel_rfl)
    (hQ : ∀ c a w, Q (.panic c) (a.put oi.dst v) w → Q (.panic c) a w := by exact fun _ _ _ h => h) : wpAnyH P md ops Q S (fuel + 1) listed a w :=
  wpAnyH_take hi hs hf hr hQ (Or.inl ⟨hw, hy⟩) hS h
theorem tkna (i : Nat) (v : Value) {oi : Oper} (hi : ops[i]? = some oi) (hy : ∀ w, S w → (execOp a.eval oi).run P w = .ok (.value v) w)
    (h : wpAnyH P md ops Q S fuel (listed.setIfInBounds i true) (a.put oi.dst v) w) (hS : S w := by assumption)
    (hs : Region.noSelect ops = true := by kernel_rfl) (hf : Region.free md ops listed i = true := by kernel_rfl) (hr : (Region.ready md ops listed).contains i = true := by kernel_rfl)
    (hw : Region.wanted oi (yielded ops a.tmps) = true := by kernel_rfl)
    (hQ : ∀ c a w, Q (.panic c) (a.put oi.dst v) w → Q (.panic c) a w := by exact fun _ _ _ h => h) : wpAnyH P md ops Q S (fuel + 1) listed a w :=
  wpAnyH_take hi hs hf hr hQ (Or.inl ⟨hw, hy⟩) hS h
theorem tkd (i : Nat) {v : Value} {oi : Oper} (h : wpAnyH P md ops Q S fuel (listed.setIfInBounds i true) (a.put oi.dst v) w) (hi : ops[i]? = some oi := by rfl) (hS : S w := by assumption)
    (hy : ∀ w, S w → (execOp a.eval oi).run P w = .ok (.value v) w := by intro w hSw; (try simp only [PPz]); go_simp <;> with_reducible rfl)
    (hs : Region.noSelect ops = true := by kernel_rfl) (hf : Region.free md ops listed i = true := by kernel_rfl) (hr : (Region.ready md ops listed).contains i = true := by kernel_rfl)
    (hw : Region.wanted oi (yielded ops a.tmps) = true := by kernel_rfl)
    (hQ : ∀ c a w, Q (.panic c) (a.put oi.dst v) w → Q (.panic c) a w := by exact fun _ _ _ h => h) : wpAnyH P md ops Q S (fuel + 1) listed a w :=
  wpAnyH_take hi hs hf hr hQ (Or.inl ⟨hw, hy⟩) hS h
theorem tkm (i : Nat) {v : Value} {oi : Oper} (hi : ops[i]? = some oi) (hS : S w) (hy : ∀ w, S w → (execOp a.eval oi).run P w = .ok (.value v) w)
    (h : wpAnyH P md ops Q S fuel (listed.setIfInBounds i true) (a.put oi.dst v) w)
    (hs : Region.noSelect ops = true := by kernel_rfl) (hf : Region.free md ops listed i = true := by kernel_rfl) (hr : (Region.ready md ops listed).contains i = true := by kernel_rfl)
    (hw : Region.wanted oi (yielded ops a.tmps) = true := by kernel_rfl)
    (hQ : ∀ c a w, Q (.panic c) (a.put oi.dst v) w → Q (.panic c) a w := by exact fun _ _ _ h => h) : wpAnyH P md ops Q S (fuel + 1) listed a w :=
  wpAnyH_take hi hs hf hr hQ (Or.inl ⟨hw, hy⟩) hS h
theorem tkns (i : Nat) {oi : Oper} (hi : ops[i]? = some oi) (hS : S w) (h : wpAnyH P md ops Q S fuel (listed.setIfInBounds i true) (a.put oi.dst undef) w)
    (hs : Region.noSelect ops = true := by kernel_rfl) (hf : Region.free md ops listed i = true := by kernel_rfl) (hr : (Region.ready md ops listed).contains i = true := by kernel_rfl)
    (hw : Region.wanted oi (yielded ops a.tmps) = false := by kernel_rfl)
    (hQ : ∀ c a w, Q (.panic c) (a.put oi.dst undef) w → Q (.panic c) a w := by exact fun _ _ _ h => h) : wpAnyH P md ops Q S (fuel + 1) listed a w :=
  wpAnyH_take hi hs hf hr hQ (Or.inr ⟨hw, rfl⟩) hS h
theorem rdy1 (i : Nat) {o : Oper} (ho : ops[i]? = some o) (h : ∀ K' : Act → World → Prop, Shut (∀ a w, S w → (S w → wpAnyH P md ops Q S fuel (listed.setIfInBounds i true) a w) → K' a w) → if Region.wanted o (yielded ops a.tmps) = true then Oper.wp P o a w K' Q else K' (a.put o.dst undef) w)
    (hr : Region.ready md ops listed = [i] := by kernel_rfl) : wpAnyH P md ops Q S (fuel + 1) listed a w := wpAnyH_ready hr (by simp) (.cons ho h .nil)
theorem rdy2 (i j : Nat) {o u : Oper} (ho : ops[i]? = some o) (hu : ops[j]? = some u) (h : ∀ K' : Act → World → Prop, Shut (∀ a w, S w → (S w → wpAnyH P md ops Q S fuel (listed.setIfInBounds i true) a w) → K' a w) → if Region.wanted o (yielded ops a.tmps) = true then Oper.wp P o a w K' Q else K' (a.put o.dst undef) w)
    (k : ∀ K' : Act → World → Prop, Shut (∀ a w, S w → (S w → wpAnyH P md ops Q S fuel (listed.setIfInBounds j true) a w) → K' a w) → if Region.wanted u (yielded ops a.tmps) = true then Oper.wp P u a w K' Q else K' (a.put u.dst undef) w)
    (hr : Region.ready md ops listed = [i, j] := by kernel_rfl) : wpAnyH P md ops Q S (fuel + 1) listed a w := wpAnyH_ready hr (by simp) (.cons ho h (.cons hu k .nil))
theorem rdy3 (i j n : Nat) {o u x : Oper} (ho : ops[i]? = some o) (hu : ops[j]? = some u) (hx : ops[n]? = some x) (h : ∀ K' : Act → World → Prop, Shut (∀ a w, S w → (S w → wpAnyH P md ops Q S fuel (listed.setIfInBounds i true) a w) → K' a w) → if Region.wanted o (yielded ops a.tmps) = true then Oper.wp P o a w K' Q else K' (a.put o.dst undef) w)
    (k : ∀ K' : Act → World → Prop, Shut (∀ a w, S w → (S w → wpAnyH P md ops Q S fuel (listed.setIfInBounds j true) a w) → K' a w) → if Region.wanted u (yielded ops a.tmps) = true then Oper.wp P u a w K' Q else K' (a.put u.dst undef) w)
    (g : ∀ K' : Act → World → Prop, Shut (∀ a w, S w → (S w → wpAnyH P md ops Q S fuel (listed.setIfInBounds n true) a w) → K' a w) → if Region.wanted x (yielded ops a.tmps) = true then Oper.wp P x a w K' Q else K' (a.put x.dst undef) w)
    (hr : Region.ready md ops listed = [i, j, n] := by kernel_rfl) : wpAnyH P md ops Q S (fuel + 1) listed a w := wpAnyH_ready hr (by simp) (.cons ho h (.cons hu k (.cons hx g .nil)))
end
end Go.Proofs.Ytfpaefnaidppmaa
namespace Go.Proofs.Ytfpaefnaidppmaa
open Go.ChangeShapes Go.WideShapes Go.ChangeAt Go.RowKit Go.Joins Go.Deep

theorem laidOut : laidOutB Try.prog = true := by kernel_rfl
theorem own : ownKnob Try.prog.godebug = none := by kernel_rfl
theorem wf_i64 {a : Int} (h : (Lit.int .i64 a).wf = true) : -9223372036854775808 ≤ a ∧ a ≤ 9223372036854775807 := by
  simp [Lit.wf, IntKind.min, IntKind.max, IntKind.signed, IntKind.bits] at h
  omega

/-- Bounds of int and int64. -/
def I64 (a : Int) : Prop := -9223372036854775808 ≤ a ∧ a ≤ 9223372036854775807

/-- A slice of ratios that came in: what its elements are. -/
def IsR (w : World) (A : Option Addr) (xs : List (Int × Int)) : Prop :=
  (0 < xs.length → ∃ b off, A = some ⟨b, off, none⟩ ∧ ∀ (i : Nat) (n d : Int), xs[i]? = some (n, d) → w.cell? ⟨b, off + i * 2, none⟩ = some (.int .i64 n) ∧ w.cell? ⟨b, off + i * 2 + 1, none⟩ = some (.int .i64 d)) ∧ ∀ x ∈ xs, I64 x.1 ∧ I64 x.2

section
variable {H : Type} {enc : TypeId × Value → H} {P : Program} {w : World} {base : Nat} {spare : Nat → Bool} {held : Bool}
/-- Arguments read again as they did, where the call has left all that lay before. -/
theorem args_below (hl : laidOutB P = true) {W W' : World} (hb : Below W.heap.size W W') {sp : Nat → Bool} : ∀ {ts : List TypeId} {vs : List Value} {ds : List (DataW H)} {p : List MemPlace},
    (∀ t ∈ ts, P.readableRec t = true ∧ t < P.types.size) → DataW.TrodAll enc P W 0 (fun _ => true) true ts vs ds p → (∀ x ∈ p, x.block < W.heap.size) → (∀ x ∈ p, sp x.block = true) → DataW.TrodAll enc P W' 0 sp true ts vs ds p
  | [], vs, ds, p, _, h, _, _ => by
    obtain ⟨rfl, rfl, rfl⟩ := trodAll_nil h
    exact trodAll_mk0
  | t :: ts, vs, ds, p, ht, h, hlt, hs => by
    obtain ⟨v, vs', d, ds', p0, q0, rfl, rfl, rfl, h0, r0⟩ := trodAll_cons h
    refine trodAll_cons_mk (WideElems.Trod_stays hl (ht t (by simp)).1 (ht t (by simp)).2 h0 (fun x hx => hb.same (hlt x (by simp [hx]))) (fun x hx => hs x (by simp [hx]))) ?_
    exact args_below hl hb (fun u hu => ht u (by simp [hu])) r0 (fun x hx => hlt x (by simp [hx])) (fun x hx => hs x (by simp [hx]))

/-- The row's last step of a law that returns a bool and leaves all that lay before. -/
theorem post_bool_below {f : Func} {s : ChangeSpec} {apart fresh handsOn again : Bool} {W W' : World} {args : Array Value} {r : Bool} {ds gs : List (DataW H)} {before : List MemPlace}
    (hl : laidOutB P = true) (hts : ∀ t ∈ f.params.toList, P.readableRec t = true ∧ t < P.types.size) (hvs : s.vars = [])
    (hW : DataW.Whole enc P f.params.toList s.vars apart W args.toList ds gs before)
    (hres : ∀ (b : Nat) (sp : Nat → Bool) (hd : Bool), DataW.TrodAll enc P W' b sp hd f.resultTypes.toList ((Value.bool r).resultList f.resultTypes.size) (s.fn H (ds ++ gs)).results [])
    (ha : (s.fn H (ds ++ gs)).args = ds) (hv : (s.fn H (ds ++ gs)).vars = gs)
    (hb : Below W.heap.size W W')
    (hok : ∀ (j : Nat) (t : TypeId) (u : Value), f.resultTypes[j]? = some t → ((Value.bool r).resultList f.resultTypes.size)[j]? = some u → Value.okWide P W' .any 0 t u) :
    s.post enc P f apart fresh handsOn again W args (.bool r) W' := by
  have hW' := hW
  obtain ⟨p, q, hA, hV, rfl, hfz, hnd⟩ := hW
  have hlt : ∀ x ∈ p ++ q, x.block < W.heap.size := fun x hx => hW'.lt x hx
  rw [hvs] at hV
  obtain ⟨hg, hq⟩ := trodVars_none hV
  subst hg hq
  have hargs : ∀ sp : Nat → Bool, (∀ x ∈ p, sp x.block = true) → DataW.TrodAll enc P W' 0 sp true f.params.toList args.toList (s.fn H (ds ++ [])).args p := by
    intro sp hsp
    rw [ha]
    exact args_below hl hb hts hA (fun x hx => hlt x (by simp [hx])) hsp
  have hvars : ∀ sp : Nat → Bool, DataW.TrodVars enc P W' sp s.vars (s.fn H (ds ++ [])).vars [] := by
    intro sp
    rw [hv, hvs]
    rfl
  have hold : ∀ x ∈ p, (fun b => decide (b < W.heap.size)) x.block = true := fun x hx => by simpa using hlt x (by simp [hx])
  refine ⟨ds, [], p ++ [], [], p, [], hW', hres _ _ _, hargs _ hold, hvars _, World.keptBut_mono (fun x hx => ⟨hx, Or.inr (List.mem_append.1 hx)⟩) (hb.frame (· ∈ p ++ [])), fun _ => ?_⟩
  refine ⟨hok, _, _, ([] ++ p) ++ [], ⟨[] ++ p, [], trodAll_append (hargs _ (fun _ _ => rfl)) (hres _ _ _), hvars _, rfl, ?_, ?_⟩, ?_⟩
  · intro b off hp
    have hin : MemPlace.cell b off ∈ p ++ [] := by simpa using hp
    rw [hb.frozen (hlt _ hin)]
    exact hfz b off hin
  · intro hap
    have := hnd hap
    simpa using this
  · intro x hx _
    simpa using hx

theorem open_slice_fields {t e : TypeId} {fs : Array Field} {fuel : Nat} {cs : List Value} {x : DataW H × List MemPlace} (ht : P.underlying t = some (.slice e)) (he : P.underlying e = some (.struct fs))
    (hone : oneCellFields P fs = true) (hC : P.cellsOf e = fs.size) (h : DataW.trod enc P w base spare held fuel t cs = some x) :
    (cs = [.slice none 0 0] ∧ x = (.nil, [])) ∨
    ∃ (a : Addr) (len cap m : Nat) (D : Nat → DataW H) (Pl : Nat → List MemPlace), cs = [.slice (some a) len cap] ∧ base ≤ a.block ∧ len ≤ cap ∧ cap ≤ maxLen ∧ m = (if spare a.block then cap else len) ∧
      x = (.slice ((List.range len).map D) ((List.range (m - len)).map fun j => D (len + j)), MemPlace.row a (m * fs.size) ++ (List.range m).flatMap Pl) ∧
      ∀ i, i < m → ∃ (ys : List (DataW H × List MemPlace)) (n : Nat), D i = .agg (ys.map (·.1)) ∧ Pl i = ys.flatMap (·.2) ∧ ys.length = fs.size ∧
        ∀ (j : Nat) (f : Field), fs[j]? = some f → ∃ (v : Value) (y : DataW H × List MemPlace), w.cell? (a.add (i * fs.size + j)) = some v ∧ ys[j]? = some y ∧ DataW.trod enc P w base spare held n f.type [v] = some y := by
  rcases open_slice ht h with h0 | ⟨a, len, cap, m, n, D, Pl, hcs, hb, hl, hm, hmm, hx, hi⟩
  · exact .inl h0
  · refine .inr ⟨a, len, cap, m, D, Pl, hcs, hb, hl, hm, hmm, by rw [hC] at hx; exact hx, fun i him => ?_⟩
    obtain ⟨cs', hc, ht'⟩ := hi i him
    rw [hC] at hc
    obtain ⟨ys, n', hn', hy, hlen, hyl, hf⟩ := DataW.trod_struct he ht'
    obtain ⟨_, hcl, hat⟩ := World.cells?_some hc
    simp only [Prod.mk.injEq] at hy
    refine ⟨ys, n', hy.1, hy.2, hyl, fun j f hj => ?_⟩
    obtain ⟨ho, hk⟩ := hone_of hone j f hj
    have hjl : j < fs.size := (Array.getElem?_eq_some_iff.1 hj).1
    have hcell := hat j hjl
    have hv : cs'[j]? = some (cs'[j]'(by omega)) := List.getElem?_eq_getElem (by omega)
    have h1 := hf j f hj
    rw [ho, hk] at h1
    have hone' : (cs'.drop j).take 1 = [cs'[j]'(by omega)] := by
      rw [List.drop_eq_getElem_cons (by omega)]
      rfl
    rw [hone'] at h1
    have hys : ys[j]? = some (ys[j]'(by omega)) := List.getElem?_eq_getElem (by omega)
    refine ⟨_, _, ?_, hys, h1.trans hys⟩
    rw [← Go.Deep.add_add, hcell, hv]

/-- A slice of structs of two numbers. -/
theorem open_pairs {t e u : TypeId} {f0 f1 : Field} {fuel : Nat} {cs : List Value} {x : DataW H × List MemPlace} (ht : P.underlying t = some (.slice e)) (he : P.underlying e = some (.struct #[f0, f1]))
    (hone : oneCellFields P #[f0, f1] = true) (hC : P.cellsOf e = 2) (h0 : f0.type = u) (h1 : f1.type = u) (hu : P.underlying u = some (.int .i64)) (h : DataW.trod enc P w base spare held fuel t cs = some x) :
    ∃ A len cap xs, cs = [.slice A len cap] ∧ xs.length = len ∧ len ≤ cap ∧ cap ≤ maxLen ∧ (0 < len → ∃ a, A = some a) ∧ IsR w A xs := by
  rcases open_slice_fields ht he hone hC h with ⟨rfl, _⟩ | ⟨a, len, cap, m, D, Pl, rfl, hb, hl, hm, hmm, hx, hi⟩
  · exact ⟨none, 0, 0, [], rfl, rfl, Nat.le_refl _, by unfold maxLen; omega, fun h => absurd h (by omega), fun h => absurd h (by simp), by simp⟩
  · have hml : len ≤ m := by rw [hmm]; split <;> omega
    have key : ∀ i, i < len → ∃ p : Int × Int, (I64 p.1 ∧ I64 p.2) ∧ w.cell? (a.add (i * 2)) = some (.int .i64 p.1) ∧ w.cell? (a.add (i * 2 + 1)) = some (.int .i64 p.2) := by
      intro i hlt
      obtain ⟨ys, n, _, _, _, hf⟩ := hi i (by omega)
      obtain ⟨v0, y0, c0, _, t0⟩ := hf 0 f0 rfl
      obtain ⟨v1, y1, c1, _, t1⟩ := hf 1 f1 rfl
      rw [h0] at t0
      rw [h1] at t1
      obtain ⟨n0, e0, _, w0⟩ := DataW.trod_int hu t0
      obtain ⟨n1, e1, _, w1⟩ := DataW.trod_int hu t1
      simp only [List.cons.injEq, and_true] at e0 e1
      subst e0 e1
      exact ⟨(n0, n1), ⟨wf_i64 w0, wf_i64 w1⟩, c0, c1⟩
    obtain ⟨f, hf⟩ := choose_lt key
    have hxs : ∀ (i : Nat) (p : Int × Int), ((List.range len).map f)[i]? = some p → i < len ∧ p = f i := by
      intro i p hp
      rw [List.getElem?_map, Option.map_eq_some_iff] at hp
      obtain ⟨j, hj, rfl⟩ := hp
      obtain ⟨hj1, hj2⟩ := List.getElem?_eq_some_iff.1 hj
      simp at hj1 hj2
      subst hj2
      exact ⟨hj1, rfl⟩
    refine ⟨some a, len, cap, (List.range len).map f, rfl, by simp, hl, hm, fun _ => ⟨a, rfl⟩, fun hpos => ?_, ?_⟩
    · simp only [List.length_map, List.length_range] at hpos
      obtain ⟨b, off, spot⟩ := a
      have hspot : spot = none := by simpa [Addr.add] using World.cell?_spot (hf 0 hpos).2.1
      subst hspot
      refine ⟨b, off, rfl, fun i n d hp => ?_⟩
      obtain ⟨hlt, e⟩ := hxs i _ hp
      have := (hf i hlt).2
      rw [← e] at this
      rw [Addr.add_lit, Addr.add_lit] at this
      exact ⟨this.1, by rw [Nat.add_assoc]; exact this.2⟩
    · intro p hp
      obtain ⟨i, hi', rfl⟩ := List.mem_map.1 hp
      exact (hf i (by simpa using hi')).1
end

section
variable {H : Type} {enc : TypeId × Value → H} {w : World} {base : Nat} {spare : Nat → Bool} {held : Bool}
theorem open_num {P : Program} {r : Reach} {b0 : Nat} {t : TypeId} {v : Value} {d : DataW H} {p : List MemPlace} (ht : P.underlying t = some (.int .i64)) (hv : Value.okWide P w r b0 t v) (h : DataW.Trod enc P w base spare held t v d p) : ∃ n, v = .int .i64 n ∧ I64 n := by
  obtain ⟨a, rfl, rfl, rfl, wa⟩ := open_int ht hv h
  exact ⟨a, rfl, wf_i64 wa⟩
end
end Go.Proofs.Ytfpaefnaidppmaa
namespace Go.Proofs.Ytfpaefnaidppmaa
open Go.RowKit
theorem PA {α : Type} : ((∀ (xs : List α) (i : Nat) (h : i < xs.toArray.size), xs.toArray[i] = xs[i]'(by simpa using h)) ∧ (∀ (a : α) (zs : List α) (i : Nat) (h : i + 1 < (a :: zs).length), (a :: zs)[i + 1] = zs[i]'(by simpa using h)) ∧ (∀ (a : α) (zs : List α) (h : 0 < (a :: zs).length), (a :: zs)[0] = a)) ∧ ∀ (l : List α) (i : Nat) (v : α), l.toArray.setIfInBounds i v = (l.set i v).toArray :=
  ⟨⟨fun _ _ _ => rfl, fun _ _ _ _ => rfl, fun _ _ _ => rfl⟩, fun _ _ _ => by simp⟩
theorem PB {α : Type} : (∀ (x : α) (xs : List α) (a : α), (x :: xs).set 0 a = a :: xs) ∧ ∀ (x : α) (xs : List α) (n : Nat) (a : α), (x :: xs).set (n + 1) a = x :: xs.set n a := ⟨fun _ _ _ => rfl, fun _ _ _ _ => rfl⟩
theorem at_anyH {P : Program} {md : Region.Mode} {ops : Array Oper} {Q : Exit → Act → World → Prop} {S : World → Prop} {fuel : Nat} {listed : Array Bool} {a : Act} {w : World} (T : World → Prop) (h : T w) (k : ∀ V, T V → wpAnyH P md ops Q S fuel listed a V) : wpAnyH P md ops Q S fuel listed a w := k w h
/-- A block of cells, to be written. -/
def BK (v : World) (p : Nat) (l : List Value) : Prop := p < v.heap.size ∧ ∀ j x, l[j]? = some x → v.cell? ⟨p, j, none⟩ = some x ∧ v.frozen? ⟨p, j, none⟩ = false
theorem BK.lt {v : World} {p : Nat} {l : List Value} (h : BK v p l) : p < v.heap.size := h.1
theorem BK.c {v : World} {p : Nat} {l : List Value} (h : BK v p l) (j : Nat) {x : Value} (e : l[j]? = some x) : v.cell? ⟨p, j, none⟩ = some x := (h.2 j x e).1
theorem BK.f {v : World} {p : Nat} {l : List Value} (h : BK v p l) (j : Nat) {x : Value} (e : l[j]? = some x) : v.frozen? ⟨p, j, none⟩ = false := (h.2 j x e).2
theorem BK.keep {v w : World} {p : Nat} {l : List Value} (h : BK v p l) (hb : Below v.heap.size v w) : BK w p l :=
  ⟨Nat.lt_of_lt_of_le h.1 hb.size, fun j x e => ⟨(hb.cell (p := ⟨p, j, none⟩) h.1).trans (h.2 j x e).1, (hb.frozen (p := ⟨p, j, none⟩) h.1).trans (h.2 j x e).2⟩⟩
theorem BK.al {v : World} {p : Nat} {l : List Value} (h : BK v p l) (o : Obj) : BK (v.alloc o) p l := h.keep (below_al (Below.refl _ _) o)
theorem BK.new (v : World) (l : List Value) (t : TypeId) : BK (v.alloc (.cells l.toArray t)) v.heap.size l := by
  have hn : (v.alloc (.cells l.toArray t)).heap[v.heap.size]? = some (.cells l.toArray t (0, 0)) := World.alloc_heap_new v _
  refine ⟨by simp, fun j x e => ⟨?_, ?_⟩⟩
  · unfold World.cell?
    dsimp only
    rw [hn]
    simp [e]
  · unfold World.frozen?
    dsimp only
    rw [hn]
    simp
theorem BK.far {v : World} {p : Nat} {l : List Value} (h : BK v p l) {q : Nat} (hne : q ≠ p) (o : Nat) (u : Value) : BK (v.setCell ⟨q, o, none⟩ u) p l :=
  ⟨by rw [World.size_setCell]; exact h.1, fun j x e => ⟨cell_far (h.2 j x e).1 hne u, froz_set (h.2 j x e).2 _ _⟩⟩
theorem BK.set {v : World} {p : Nat} {l : List Value} (h : BK v p l) (o : Nat) (u : Value) : BK (v.setCell ⟨p, o, none⟩ u) p (l.set o u) := by
  refine ⟨by rw [World.size_setCell]; exact h.1, fun j x e => ?_⟩
  by_cases hj : o = j
  · subst hj
    rw [List.getElem?_set_self'] at e
    cases hl : l[o]? with
    | none => rw [hl] at e; cases e
    | some y =>
      rw [hl] at e
      simp only [Option.map_eq_map, Option.map_some, Function.const_apply, Option.some.injEq] at e
      subst e
      exact ⟨World.cell?_setCell_same v _ _ (h.2 o y hl).1, froz_set (h.2 o y hl).2 _ _⟩
  · rw [List.getElem?_set_ne hj] at e
    refine ⟨?_, froz_set (h.2 j x e).2 _ _⟩
    rw [World.cell?_setCell_other _ _ _ _ (by intro e'; injection e' with _ e'; exact hj e')]
    exact (h.2 j x e).1
theorem at_box1 {P : Program} {c : Code} {Q : Exit → Act → World → Prop} {a : Act} {w : World} {l0 : List Value} {t0 : TypeId} (k : ∀ V, Below w.heap.size w V → BK V w.heap.size l0 → V.heap.size = w.heap.size + 1 → Code.wp P c Q a V) : Code.wp P c Q a (w.alloc (.cells l0.toArray t0)) :=
  k _ (below_al (Below.refl _ _) _) (by have b := (BK.new w l0 t0); simpa only [World.size_alloc] using b) (by simp only [World.size_alloc])
theorem at_box2 {P : Program} {c : Code} {Q : Exit → Act → World → Prop} {a : Act} {w : World} {l0 l1 : List Value} {t0 t1 : TypeId} (k : ∀ V, Below w.heap.size w V → BK V w.heap.size l0 → BK V (w.heap.size + 1) l1 → V.heap.size = w.heap.size + 2 → Code.wp P c Q a V) : Code.wp P c Q a ((w.alloc (.cells l0.toArray t0)).alloc (.cells l1.toArray t1)) :=
  k _ (below_al (below_al (Below.refl _ _) _) _) (by have b := ((BK.new w l0 t0).al (.cells l1.toArray t1)); simpa only [World.size_alloc] using b) (by have b := (BK.new (w.alloc (.cells l0.toArray t0)) l1 t1); simpa only [World.size_alloc] using b) (by simp only [World.size_alloc])
theorem at_box3 {P : Program} {c : Code} {Q : Exit → Act → World → Prop} {a : Act} {w : World} {l0 l1 l2 : List Value} {t0 t1 t2 : TypeId} (k : ∀ V, Below w.heap.size w V → BK V w.heap.size l0 → BK V (w.heap.size + 1) l1 → BK V (w.heap.size + 2) l2 → V.heap.size = w.heap.size + 3 → Code.wp P c Q a V) : Code.wp P c Q a (((w.alloc (.cells l0.toArray t0)).alloc (.cells l1.toArray t1)).alloc (.cells l2.toArray t2)) :=
  k _ (below_al (below_al (below_al (Below.refl _ _) _) _) _) (by have b := (((BK.new w l0 t0).al (.cells l1.toArray t1)).al (.cells l2.toArray t2)); simpa only [World.size_alloc] using b) (by have b := ((BK.new (w.alloc (.cells l0.toArray t0)) l1 t1).al (.cells l2.toArray t2)); simpa only [World.size_alloc] using b) (by have b := (BK.new ((w.alloc (.cells l0.toArray t0)).alloc (.cells l1.toArray t1)) l2 t2); simpa only [World.size_alloc] using b) (by simp only [World.size_alloc])
theorem at_box4 {P : Program} {c : Code} {Q : Exit → Act → World → Prop} {a : Act} {w : World} {l0 l1 l2 l3 : List Value} {t0 t1 t2 t3 : TypeId} (k : ∀ V, Below w.heap.size w V → BK V w.heap.size l0 → BK V (w.heap.size + 1) l1 → BK V (w.heap.size + 2) l2 → BK V (w.heap.size + 3) l3 → V.heap.size = w.heap.size + 4 → Code.wp P c Q a V) : Code.wp P c Q a ((((w.alloc (.cells l0.toArray t0)).alloc (.cells l1.toArray t1)).alloc (.cells l2.toArray t2)).alloc (.cells l3.toArray t3)) :=
  k _ (below_al (below_al (below_al (below_al (Below.refl _ _) _) _) _) _) (by have b := ((((BK.new w l0 t0).al (.cells l1.toArray t1)).al (.cells l2.toArray t2)).al (.cells l3.toArray t3)); simpa only [World.size_alloc] using b) (by have b := (((BK.new (w.alloc (.cells l0.toArray t0)) l1 t1).al (.cells l2.toArray t2)).al (.cells l3.toArray t3)); simpa only [World.size_alloc] using b) (by have b := ((BK.new ((w.alloc (.cells l0.toArray t0)).alloc (.cells l1.toArray t1)) l2 t2).al (.cells l3.toArray t3)); simpa only [World.size_alloc] using b) (by have b := (BK.new (((w.alloc (.cells l0.toArray t0)).alloc (.cells l1.toArray t1)).alloc (.cells l2.toArray t2)) l3 t3); simpa only [World.size_alloc] using b) (by simp only [World.size_alloc])
theorem at_box5 {P : Program} {c : Code} {Q : Exit → Act → World → Prop} {a : Act} {w : World} {l0 l1 l2 l3 l4 : List Value} {t0 t1 t2 t3 t4 : TypeId} (k : ∀ V, Below w.heap.size w V → BK V w.heap.size l0 → BK V (w.heap.size + 1) l1 → BK V (w.heap.size + 2) l2 → BK V (w.heap.size + 3) l3 → BK V (w.heap.size + 4) l4 → V.heap.size = w.heap.size + 5 → Code.wp P c Q a V) : Code.wp P c Q a (((((w.alloc (.cells l0.toArray t0)).alloc (.cells l1.toArray t1)).alloc (.cells l2.toArray t2)).alloc (.cells l3.toArray t3)).alloc (.cells l4.toArray t4)) :=
  k _ (below_al (below_al (below_al (below_al (below_al (Below.refl _ _) _) _) _) _) _) (by have b := (((((BK.new w l0 t0).al (.cells l1.toArray t1)).al (.cells l2.toArray t2)).al (.cells l3.toArray t3)).al (.cells l4.toArray t4)); simpa only [World.size_alloc] using b) (by have b := ((((BK.new (w.alloc (.cells l0.toArray t0)) l1 t1).al (.cells l2.toArray t2)).al (.cells l3.toArray t3)).al (.cells l4.toArray t4)); simpa only [World.size_alloc] using b) (by have b := (((BK.new ((w.alloc (.cells l0.toArray t0)).alloc (.cells l1.toArray t1)) l2 t2).al (.cells l3.toArray t3)).al (.cells l4.toArray t4)); simpa only [World.size_alloc] using b) (by have b := ((BK.new (((w.alloc (.cells l0.toArray t0)).alloc (.cells l1.toArray t1)).alloc (.cells l2.toArray t2)) l3 t3).al (.cells l4.toArray t4)); simpa only [World.size_alloc] using b) (by have b := (BK.new ((((w.alloc (.cells l0.toArray t0)).alloc (.cells l1.toArray t1)).alloc (.cells l2.toArray t2)).alloc (.cells l3.toArray t3)) l4 t4); simpa only [World.size_alloc] using b) (by simp only [World.size_alloc])
theorem at_box6 {P : Program} {c : Code} {Q : Exit → Act → World → Prop} {a : Act} {w : World} {l0 l1 l2 l3 l4 l5 : List Value} {t0 t1 t2 t3 t4 t5 : TypeId} (k : ∀ V, Below w.heap.size w V → BK V w.heap.size l0 → BK V (w.heap.size + 1) l1 → BK V (w.heap.size + 2) l2 → BK V (w.heap.size + 3) l3 → BK V (w.heap.size + 4) l4 → BK V (w.heap.size + 5) l5 → V.heap.size = w.heap.size + 6 → Code.wp P c Q a V) : Code.wp P c Q a ((((((w.alloc (.cells l0.toArray t0)).alloc (.cells l1.toArray t1)).alloc (.cells l2.toArray t2)).alloc (.cells l3.toArray t3)).alloc (.cells l4.toArray t4)).alloc (.cells l5.toArray t5)) :=
  k _ (below_al (below_al (below_al (below_al (below_al (below_al (Below.refl _ _) _) _) _) _) _) _) (by have b := ((((((BK.new w l0 t0).al (.cells l1.toArray t1)).al (.cells l2.toArray t2)).al (.cells l3.toArray t3)).al (.cells l4.toArray t4)).al (.cells l5.toArray t5)); simpa only [World.size_alloc] using b) (by have b := (((((BK.new (w.alloc (.cells l0.toArray t0)) l1 t1).al (.cells l2.toArray t2)).al (.cells l3.toArray t3)).al (.cells l4.toArray t4)).al (.cells l5.toArray t5)); simpa only [World.size_alloc] using b) (by have b := ((((BK.new ((w.alloc (.cells l0.toArray t0)).alloc (.cells l1.toArray t1)) l2 t2).al (.cells l3.toArray t3)).al (.cells l4.toArray t4)).al (.cells l5.toArray t5)); simpa only [World.size_alloc] using b) (by have b := (((BK.new (((w.alloc (.cells l0.toArray t0)).alloc (.cells l1.toArray t1)).alloc (.cells l2.toArray t2)) l3 t3).al (.cells l4.toArray t4)).al (.cells l5.toArray t5)); simpa only [World.size_alloc] using b) (by have b := ((BK.new ((((w.alloc (.cells l0.toArray t0)).alloc (.cells l1.toArray t1)).alloc (.cells l2.toArray t2)).alloc (.cells l3.toArray t3)) l4 t4).al (.cells l5.toArray t5)); simpa only [World.size_alloc] using b) (by have b := (BK.new (((((w.alloc (.cells l0.toArray t0)).alloc (.cells l1.toArray t1)).alloc (.cells l2.toArray t2)).alloc (.cells l3.toArray t3)).alloc (.cells l4.toArray t4)) l5 t5); simpa only [World.size_alloc] using b) (by simp only [World.size_alloc])
/-- A state of a region that is reached on several ways, stated once. -/
theorem dag {P : Program} {md : Region.Mode} {ops : Array Oper} {Q : Exit → Act → World → Prop} {S : World → Prop} {fuel : Nat} {listed : Array Bool} {a : Act} {w : World} (N : (Nat → Array Bool → Act → World → Prop) → Act → Prop) (h : N (wpAnyH P md ops Q S) a)
    (k : Hid (N (wpAnyH P md ops Q S) a) → wpAnyH P md ops Q S fuel listed a w) : wpAnyH P md ops Q S fuel listed a w := k h
theorem dag_use {P : Program} {md : Region.Mode} {ops : Array Oper} {Q : Exit → Act → World → Prop} {S : World → Prop} {fuel : Nat} {l listed : Array Bool} {b a : Act} {w : World} (h : wpAnyH P md ops Q S fuel l b w) (e : l = listed) (k : b = a) : wpAnyH P md ops Q S fuel listed a w := by
  subst e; subst k; exact h
end Go.Proofs.Ytfpaefnaidppmaa
