/- Plain facts on worlds: what a callee, a store or a new block leaves as it was. Opening of arguments: what slices of ints and of ratios, and cakes, that came in hold; arguments read again behind a call that left all that lay before. Cakes: what Check answers, as a function on lists of numbers; slices of ints that came in. Contracts of package cake's someWanted and of the library's search that it calls. -/
import Derived.Test.YtniagnldiegamaaGreatProg
import Derived.WalkKit
import Derived.WalkSpells
import Derived.WalkLawsBesides
import Derived.Lib.Hide
import Derived.Deep.RegionHeld3
import Derived.Test.YtniagnldiegamaaGreatRows
import Derived.ProofKit
import Derived.OpenShut
import Derived.Below
import Derived.Carry
import Derived.ChangeSame
import Derived.ChangeMaps5
import Derived.Lib.SmallJoins
import Derived.LoopTactic
namespace Go.Proofs.YtniagnldiegamaaGreat
open Go.RowKit

/-- A cell that a callee has left as it was. -/
theorem keepC {V w1 : World} (hb : Below V.heap.size V w1) {b o : Nat} {v : Value} (h : V.cell? ⟨b, o, none⟩ = some v) : w1.cell? ⟨b, o, none⟩ = some v :=
  (hb.cell (p := ⟨b, o, none⟩) (World.block_lt_of_cell? V _ h)).trans h
theorem keepF {V w1 : World} (hb : Below V.heap.size V w1) {b o : Nat} {v : Value} (h : V.cell? ⟨b, o, none⟩ = some v) (hf : V.frozen? ⟨b, o, none⟩ = false) : w1.frozen? ⟨b, o, none⟩ = false :=
  (hb.frozen (p := ⟨b, o, none⟩) (World.block_lt_of_cell? V _ h)).trans hf
theorem lt_of_cell {V : World} {b o : Nat} {v : Value} (h : V.cell? ⟨b, o, none⟩ = some v) : b < V.heap.size := World.block_lt_of_cell? V _ h
/-- What a callee leaves, as the caller sees it. -/
theorem keepB {w V w1 : World} (h : Below w.heap.size w V) (hb : Below V.heap.size V w1) : Below w.heap.size w w1 := h.trans (hb.mono h.size)
/-- What a cell holds. -/
def vat (v : World) (b o : Nat) : Value := (v.cell? ⟨b, o, none⟩).getD undef
theorem vat_of {v : World} {b o : Nat} {x : Value} (h : v.cell? ⟨b, o, none⟩ = some x) : v.cell? ⟨b, o, none⟩ = some (vat v b o) := by
  unfold vat; rw [h]; rfl
theorem cell_alloc {v : World} {b o : Nat} {x : Value} (h : v.cell? ⟨b, o, none⟩ = some x) (ob : Obj) : (v.alloc ob).cell? ⟨b, o, none⟩ = some x :=
  (((Below.refl v.heap.size v).alloc (Nat.le_refl _) ob).cell (p := ⟨b, o, none⟩) (lt_of_cell h)).trans h
theorem froz_alloc {v : World} {b o : Nat} {x : Value} (h : v.cell? ⟨b, o, none⟩ = some x) (hf : v.frozen? ⟨b, o, none⟩ = false) (ob : Obj) : (v.alloc ob).frozen? ⟨b, o, none⟩ = false :=
  (((Below.refl v.heap.size v).alloc (Nat.le_refl _) ob).frozen (p := ⟨b, o, none⟩) (lt_of_cell h)).trans hf
theorem cell_far {v : World} {b o c p : Nat} {x : Value} (h : v.cell? ⟨b, o, none⟩ = some x) (hne : c ≠ b) (u : Value) : (v.setCell ⟨c, p, none⟩ u).cell? ⟨b, o, none⟩ = some x :=
  (World.cell?_setCell_far v ⟨c, p, none⟩ ⟨b, o, none⟩ u hne).trans h
theorem vat_set {v : World} {b o : Nat} {x : Value} (h : v.cell? ⟨b, o, none⟩ = some x) (q : Addr) (u : Value) : (v.setCell q u).cell? ⟨b, o, none⟩ = some (vat (v.setCell q u) b o) := by
  obtain ⟨y, hy⟩ := cell?_setCell_some (p := q) (x := u) h; exact vat_of hy
theorem froz_set {v : World} {b o : Nat} (h : v.frozen? ⟨b, o, none⟩ = false) (q : Addr) (u : Value) : (v.setCell q u).frozen? ⟨b, o, none⟩ = false := by
  rw [World.frozen?_setCell]; exact h
theorem set_back {v : World} {a : Addr} {x y : Value} (h : (v.setCell a x).cell? a = some y) : y = x := by
  cases hc : v.cell? a with
  | some u => rw [World.cell?_setCell_same v a x hc] at h; injection h with h; exact h.symm
  | none =>
    exfalso
    unfold World.cell? at hc
    simp only [World.setCell, World.cell?, Array.getElem?_modify, ↓reduceIte] at h
    cases hb : v.heap[a.block]? with
    | none => rw [hb] at h; simp at h
    | some o =>
      rw [hb] at h hc
      cases o with
      | cells c e f =>
        by_cases hs : a.spot.isSome = true
        · simp [hs] at h
        · simp [hs] at h hc
          rw [Array.getElem?_eq_none (by simpa using hc)] at h
          cases h
      | _ => simp at h
theorem res_last {v : World} {p : Addr} {a x : Value} (h : (v.setCell p a).cell? p = some x) : (v.setCell p a).cell? p = some a := by
  have := set_back h; rw [this] at h; exact h
theorem res_far {v : World} {p q : Addr} {a b x : Value} (hne : q ≠ p) (h : ((v.setCell p a).setCell q b).cell? p = some x) : ((v.setCell p a).setCell q b).cell? p = some a := by
  rw [World.cell?_setCell_other _ _ _ _ hne] at h ⊢; exact res_last h
/-- The walk goes on in any world of which S holds. -/
theorem at_world {P : Program} {c : Code} {Q : Exit → Act → World → Prop} {a : Act} {w : World} (S : World → Prop) (h : S w) (k : ∀ V, S V → Code.wp P c Q a V) : Code.wp P c Q a w := k w h
theorem at_worldQ {P : Program} {c : Code} {Q : Exit → Act → World → Prop} {a : Act} {w : World} (S : World → Prop) (h : S w) (k : ∀ V, S V → Code.wp P c Q a V) : Code.wp P c Q a w := k w h
/-- The cells of a new block of three, and what lies before it. -/
theorem new0 (u : World) (a b c : Value) (t : TypeId) : (u.alloc (.cells #[a, b, c] t)).cell? ⟨u.heap.size, 0, none⟩ = some a := by go_simp
theorem new1 (u : World) (a b c : Value) (t : TypeId) : (u.alloc (.cells #[a, b, c] t)).cell? ⟨u.heap.size, 1, none⟩ = some b := by go_simp
theorem new2 (u : World) (a b c : Value) (t : TypeId) : (u.alloc (.cells #[a, b, c] t)).cell? ⟨u.heap.size, 2, none⟩ = some c := by go_simp
theorem newf (u : World) (a b c : Value) (t : TypeId) (j : Nat) : (u.alloc (.cells #[a, b, c] t)).frozen? ⟨u.heap.size, j, none⟩ = false := by go_simp
theorem lt_alloc {u : World} {o : Obj} {b j : Nat} {x : Value} (h : (u.alloc o).cell? ⟨b, j, none⟩ = some x) : b ≤ u.heap.size := by
  have := lt_of_cell h; simp at this; omega
theorem lt_alloc' {u : World} {o : Obj} {b : Nat} {x y : Value} (h : (u.alloc o).cell? ⟨b, 0, none⟩ = some x) (k : (u.alloc o).cell? ⟨u.heap.size, 0, none⟩ = some y) (hne : x ≠ y) : b < u.heap.size := by
  have h1 := lt_alloc h
  rcases Nat.lt_or_eq_of_le h1 with h2 | h2
  · exact h2
  · subst h2; rw [h] at k; injection k with k; exact absurd k hne
theorem cells_apart {v : World} {b p : Nat} {x y : Value} (h : v.cell? ⟨b, 0, none⟩ = some x) (k : v.cell? ⟨p, 0, none⟩ = some y) (hne : x ≠ y) : b ≠ p := by
  intro e; subst e; rw [h] at k; injection k with k; exact hne k
theorem n20 (u : World) (a b : Value) (t : TypeId) : (u.alloc (.cells #[a, b] t)).cell? ⟨u.heap.size, 0, none⟩ = some a := by go_simp
theorem n21 (u : World) (a b : Value) (t : TypeId) : (u.alloc (.cells #[a, b] t)).cell? ⟨u.heap.size, 1, none⟩ = some b := by go_simp
theorem n2f (u : World) (a b : Value) (t : TypeId) (j : Nat) : (u.alloc (.cells #[a, b] t)).frozen? ⟨u.heap.size, j, none⟩ = false := by go_simp
theorem m20 (u : World) (o : Obj) (a b : Value) (t : TypeId) : ((u.alloc o).alloc (.cells #[a, b] t)).cell? ⟨u.heap.size + 1, 0, none⟩ = some a := by go_simp
theorem m21 (u : World) (o : Obj) (a b : Value) (t : TypeId) : ((u.alloc o).alloc (.cells #[a, b] t)).cell? ⟨u.heap.size + 1, 1, none⟩ = some b := by go_simp
theorem m2f (u : World) (o : Obj) (a b : Value) (t : TypeId) (j : Nat) : ((u.alloc o).alloc (.cells #[a, b] t)).frozen? ⟨u.heap.size + 1, j, none⟩ = false := by go_simp
theorem below_al {a v : World} (h : Below a.heap.size a v) (o : Obj) : Below a.heap.size a (v.alloc o) := h.alloc h.size o
theorem lt_al2 {u : World} {o : Obj} {b : Nat} {x y : Value} (h : (u.alloc o).cell? ⟨b, 0, none⟩ = some x) (k : (u.alloc o).cell? ⟨u.heap.size, 0, none⟩ = some y) (hne : x ≠ y) : b < u.heap.size := lt_alloc' h k hne
theorem lt_al3 {u : World} {o o' : Obj} {b : Nat} {x y z : Value} (h : ((u.alloc o).alloc o').cell? ⟨b, 0, none⟩ = some x) (k : ((u.alloc o).alloc o').cell? ⟨u.heap.size, 0, none⟩ = some y)
    (l : ((u.alloc o).alloc o').cell? ⟨u.heap.size + 1, 0, none⟩ = some z) (hne : x ≠ y) (hne2 : x ≠ z) : b < u.heap.size := by
  have h1 := lt_of_cell h; have h2 := cells_apart h k hne; have h3 := cells_apart h l hne2
  simp at h1
  omega
theorem PPz : ((∀ (a : Act) (d : Tmp) (v : Value), a.put (some d) v = { a with tmps := a.tmps.setIfInBounds d v }) ∧ (∀ (a : Act) (v : Value), a.put none v = a)) ∧ (∀ {α : Type} (xs : List α) (i : Nat) (h : i < xs.toArray.size), xs.toArray[i] = xs[i]'(by simpa using h)) ∧ (∀ {α : Type} (a : α) (zs : List α) (i : Nat) (h : i + 1 < (a :: zs).length), (a :: zs)[i + 1] = zs[i]'(by simpa using h)) ∧ (∀ {α : Type} (a : α) (zs : List α) (h : 0 < (a :: zs).length), (a :: zs)[0] = a) ∧ (∀ {α : Type} (l : List α) (i : Nat) (v : α), l.toArray.setIfInBounds i v = (l.set i v).toArray) ∧ (∀ {α : Type} (x : α) (xs : List α) (a : α), (x :: xs).set 0 a = a :: xs) ∧ ∀ {α : Type} (x : α) (xs : List α) (n : Nat) (a : α), (x :: xs).set (n + 1) a = x :: xs.set n a :=
  ⟨⟨fun _ _ _ => rfl, fun _ _ => rfl⟩, fun _ _ _ => rfl, fun _ _ _ _ => rfl, fun _ _ _ => rfl, fun _ _ _ => by simp, fun _ _ _ => rfl, fun _ _ _ _ => rfl⟩
section
variable {P : Program} {md : Region.Mode} {ops : Array Oper} {Q : Exit → Act → World → Prop} {S : World → Prop} {fuel : Nat} {listed : Array Bool} {a : Act} {w : World}
theorem tkn (i : Nat) (v : Value) {oi : Oper} (hi : ops[i]? = some oi) (hy : ∀ w, S w → (execOp a.eval oi).run P w = .ok (.value v) w) (hS : S w)
    (h : wpAnyH P md ops Q S fuel (listed.setIfInBounds i true) (a.put oi.dst v) w)
    (hs : Region.noSelect ops = true := by kernel_rfl) (hf : Region.free md ops listed i = true := by kernel_rfl) (hr : (Region.ready md ops listed).contains i = true := by kernel_rfl)
    (hw : Region.wanted oi (yielded ops a.tmps) = true := by kernel_rfl)
    (hQ : ∀ c a w, Q (.panic c) (a.put oi.dst v) w → Q (.panic c) a w := by exact fun _ _ _ h => h) : wpAnyH P md ops Q S (fuel + 1) listed a w :=
  wpAnyH_take hi hs hf hr hQ (Or.inl ⟨hw, hy⟩) hS h
theorem tkna (i : Nat) (v : Value) {oi : Oper} (hi : ops[i]? = some oi) (hy : ∀ w, S w → (execOp a.eval oi).run P w = .ok (.value v) w)
    (h : wpAnyH P md ops Q S fuel (listed.setIfInBounds i true) (a.put oi.dst v) w) (hS : S w := by assumption)
    (hs : Region.noSelect ops = true := by kernel_rfl) (hf : Region.free md ops listed i = true := by kernel_rfl) (hr : (Region.ready md ops listed).contains i = true := by kernel_rfl)
    (hw : Region.wanted oi (yielded ops a.tmps) = true := by kernel_rfl)
    (hQ : ∀ c a w, Q (.panic c) (a.put oi.dst v) w → Q (.panic c) a w := by exact fun _ _ _ h => h) : wpAnyH P md ops Q S (fuel + 1) listed a w :=
  wpAnyH_take hi hs hf hr hQ (Or.inl ⟨hw, hy⟩) hS h
theorem tkd (i : Nat) {v : Value} {oi : Oper} (h : wpAnyH P md ops Q S fuel (listed.setIfInBounds i true) (a.put oi.dst v) w) (hi : ops[i]? = some oi := by rfl) (hS : S w := by assumption)
    (hy : ∀ w, S w → (execOp a.eval oi).run P w = .ok (.value v) w := by intro w hSw; (try simp only [PPz]); go_simp <;> with_reducible rfl)
    (hs : Region.noSelect ops = true := by kernel_rfl) (hf : Region.free md ops listed i = true := by kernel_rfl) (hr : (Region.ready md ops listed).contains i = true := by kernel_rfl)
    (hw : Region.wanted oi (yielded ops a.tmps) = true := by kernel_rfl)
    (hQ : ∀ c a w, Q (.panic c) (a.put oi.dst v) w → Q (.panic c) a w := by exact fun _ _ _ h => h) : wpAnyH P md ops Q S (fuel + 1) listed a w :=
  wpAnyH_take hi hs hf hr hQ (Or.inl ⟨hw, hy⟩) hS h
theorem tkm (i : Nat) {v : Value} {oi : Oper} (hi : ops[i]? = some oi) (hS : S w) (hy : ∀ w, S w → (execOp a.eval oi).run P w = .ok (.value v) w)
    (h : wpAnyH P md ops Q S fuel (listed.setIfInBounds i true) (a.put oi.dst v) w)
    (hs : Region.noSelect ops = true := by kernel_rfl) (hf : Region.free md ops listed i = true := by kernel_rfl) (hr : (Region.ready md ops listed).contains i = true := by kernel_rfl)
    (hw : Region.wanted oi (yielded ops a.tmps) = true := by kernel_rfl)
    (hQ : ∀ c a w, Q (.panic c) (a.put oi.dst v) w → Q (.panic c) a w := by exact fun _ _ _ h => h) : wpAnyH P md ops Q S (fuel + 1) listed a w :=
  wpAnyH_take hi hs hf hr hQ (Or.inl ⟨hw, hy⟩) hS h
theorem tkns (i : Nat) {oi : Oper} (hi : ops[i]? = some oi) (hS : S w) (h : wpAnyH P md ops Q S fuel (listed.setIfInBounds i true) (a.put oi.dst undef) w)
    (hs : Region.noSelect ops = true := by kernel_rfl) (hf : Region.free md ops listed i = true := by kernel_rfl) (hr : (Region.ready md ops listed).contains i = true := by kernel_rfl)
    (hw : Region.wanted oi (yielded ops a.tmps) = false := by kernel_rfl)
    (hQ : ∀ c a w, Q (.panic c) (a.put oi.dst undef) w → Q (.panic c) a w := by exact fun _ _ _ h => h) : wpAnyH P md ops Q S (fuel + 1) listed a w :=
  wpAnyH_take hi hs hf hr hQ (Or.inr ⟨hw, rfl⟩) hS h
theorem rdy1 (i : Nat) {o : Oper} (ho : ops[i]? = some o) (h : ∀ K' : Act → World → Prop, Shut (∀ a w, S w → (S w → wpAnyH P md ops Q S fuel (listed.setIfInBounds i true) a w) → K' a w) → if Region.wanted o (yielded ops a.tmps) = true then Oper.wp P o a w K' Q else K' (a.put o.dst undef) w)
    (hr : Region.ready md ops listed = [i] := by kernel_rfl) : wpAnyH P md ops Q S (fuel + 1) listed a w := wpAnyH_ready hr (by simp) (.cons ho h .nil)
theorem rdy2 (i j : Nat) {o u : Oper} (ho : ops[i]? = some o) (hu : ops[j]? = some u) (h : ∀ K' : Act → World → Prop, Shut (∀ a w, S w → (S w → wpAnyH P md ops Q S fuel (listed.setIfInBounds i true) a w) → K' a w) → if Region.wanted o (yielded ops a.tmps) = true then Oper.wp P o a w K' Q else K' (a.put o.dst undef) w)
    (k : ∀ K' : Act → World → Prop, Shut (∀ a w, S w → (S w → wpAnyH P md ops Q S fuel (listed.setIfInBounds j true) a w) → K' a w) → if Region.wanted u (yielded ops a.tmps) = true then Oper.wp P u a w K' Q else K' (a.put u.dst undef) w)
    (hr : Region.ready md ops listed = [i, j] := by kernel_rfl) : wpAnyH P md ops Q S (fuel + 1) listed a w := wpAnyH_ready hr (by simp) (.cons ho h (.cons hu k .nil))
theorem rdy3 (i j n : Nat) {o u x : Oper} (ho : ops[i]? = some o) (hu : ops[j]? = some u) (hx : ops[n]? = some x) (h : ∀ K' : Act → World → Prop, Shut (∀ a w, S w → (S w → wpAnyH P md ops Q S fuel (listed.setIfInBounds i true) a w) → K' a w) → if Region.wanted o (yielded ops a.tmps) = true then Oper.wp P o a w K' Q else K' (a.put o.dst undef) w)
    (k : ∀ K' : Act → World → Prop, Shut (∀ a w, S w → (S w → wpAnyH P md ops Q S fuel (listed.setIfInBounds j true) a w) → K' a w) → if Region.wanted u (yielded ops a.tmps) = true then Oper.wp P u a w K' Q else K' (a.put u.dst undef) w)
    (g : ∀ K' : Act → World → Prop, Shut (∀ a w, S w → (S w → wpAnyH P md ops Q S fuel (listed.setIfInBounds n true) a w) → K' a w) → if Region.wanted x (yielded ops a.tmps) = true then Oper.wp P x a w K' Q else K' (a.put x.dst undef) w)
    (hr : Region.ready md ops listed = [i, j, n] := by kernel_rfl) : wpAnyH P md ops Q S (fuel + 1) listed a w := wpAnyH_ready hr (by simp) (.cons ho h (.cons hu k (.cons hx g .nil)))
end
end Go.Proofs.YtniagnldiegamaaGreat
namespace Go.Proofs.YtniagnldiegamaaGreat
open Go.ChangeShapes Go.WideShapes Go.ChangeAt Go.RowKit Go.Joins Go.Deep

theorem laidOut : laidOutB Tryz.prog = true := by kernel_rfl
theorem own : ownKnob Tryz.prog.godebug = none := by kernel_rfl
theorem wf_i64 {a : Int} (h : (Lit.int .i64 a).wf = true) : -9223372036854775808 ≤ a ∧ a ≤ 9223372036854775807 := by
  simp [Lit.wf, IntKind.min, IntKind.max, IntKind.signed, IntKind.bits] at h
  omega

/-- Bounds of int and int64. -/
def I64 (a : Int) : Prop := -9223372036854775808 ≤ a ∧ a ≤ 9223372036854775807

section
variable {H : Type} {enc : TypeId × Value → H} {P : Program} {w : World} {base : Nat} {spare : Nat → Bool} {held : Bool}
/-- Arguments read again as they did, where the call has left all that lay before. -/
theorem args_below (hl : laidOutB P = true) {W W' : World} (hb : Below W.heap.size W W') {sp : Nat → Bool} : ∀ {ts : List TypeId} {vs : List Value} {ds : List (DataW H)} {p : List MemPlace},
    (∀ t ∈ ts, P.readableRec t = true ∧ t < P.types.size) → DataW.TrodAll enc P W 0 (fun _ => true) true ts vs ds p → (∀ x ∈ p, x.block < W.heap.size) → (∀ x ∈ p, sp x.block = true) → DataW.TrodAll enc P W' 0 sp true ts vs ds p
  | [], vs, ds, p, _, h, _, _ => by
    obtain ⟨rfl, rfl, rfl⟩ := trodAll_nil h; exact trodAll_mk0
  | t :: ts, vs, ds, p, ht, h, hlt, hs => by
    obtain ⟨v, vs', d, ds', p0, q0, rfl, rfl, rfl, h0, r0⟩ := trodAll_cons h; refine trodAll_cons_mk (WideElems.Trod_stays hl (ht t (by simp)).1 (ht t (by simp)).2 h0 (fun x hx => hb.same (hlt x (by simp [hx]))) (fun x hx => hs x (by simp [hx]))) ?_; exact args_below hl hb (fun u hu => ht u (by simp [hu])) r0 (fun x hx => hlt x (by simp [hx])) (fun x hx => hs x (by simp [hx]))

/-- The row's last step of a law that returns a bool and leaves all that lay before. -/
theorem post_bool_below {f : Func} {s : ChangeSpec} {apart fresh handsOn again : Bool} {W W' : World} {args : Array Value} {r : Bool} {ds gs : List (DataW H)} {before : List MemPlace}
    (hl : laidOutB P = true) (hts : ∀ t ∈ f.params.toList, P.readableRec t = true ∧ t < P.types.size) (hvs : s.vars = [])
    (hW : DataW.Whole enc P f.params.toList s.vars apart W args.toList ds gs before)
    (hres : ∀ (b : Nat) (sp : Nat → Bool) (hd : Bool), DataW.TrodAll enc P W' b sp hd f.resultTypes.toList ((Value.bool r).resultList f.resultTypes.size) (s.fn H (ds ++ gs)).results [])
    (ha : (s.fn H (ds ++ gs)).args = ds) (hv : (s.fn H (ds ++ gs)).vars = gs)
    (hb : Below W.heap.size W W')
    (hok : ∀ (j : Nat) (t : TypeId) (u : Value), f.resultTypes[j]? = some t → ((Value.bool r).resultList f.resultTypes.size)[j]? = some u → Value.okWide P W' .any 0 t u) :
    s.post enc P f apart fresh handsOn again W args (.bool r) W' := by
  have hW' := hW; obtain ⟨p, q, hA, hV, rfl, hfz, hnd⟩ := hW
  have hlt : ∀ x ∈ p ++ q, x.block < W.heap.size := fun x hx => hW'.lt x hx
  rw [hvs] at hV; obtain ⟨hg, hq⟩ := trodVars_none hV; subst hg hq
  have hargs : ∀ sp : Nat → Bool, (∀ x ∈ p, sp x.block = true) → DataW.TrodAll enc P W' 0 sp true f.params.toList args.toList (s.fn H (ds ++ [])).args p := by
    intro sp hsp; rw [ha]; exact args_below hl hb hts hA (fun x hx => hlt x (by simp [hx])) hsp
  have hvars : ∀ sp : Nat → Bool, DataW.TrodVars enc P W' sp s.vars (s.fn H (ds ++ [])).vars [] := by
    intro sp; rw [hv, hvs]
    rfl
  have hold : ∀ x ∈ p, (fun b => decide (b < W.heap.size)) x.block = true := fun x hx => by simpa using hlt x (by simp [hx])
  refine ⟨ds, [], p ++ [], [], p, [], hW', hres _ _ _, hargs _ hold, hvars _, World.keptBut_mono (fun x hx => ⟨hx, Or.inr (List.mem_append.1 hx)⟩) (hb.frame (· ∈ p ++ [])), fun _ => ?_⟩; refine ⟨hok, _, _, ([] ++ p) ++ [], ⟨[] ++ p, [], trodAll_append (hargs _ (fun _ _ => rfl)) (hres _ _ _), hvars _, rfl, ?_, ?_⟩, ?_⟩
  · intro b off hp
    have hin : MemPlace.cell b off ∈ p ++ [] := by simpa using hp
    rw [hb.frozen (hlt _ hin)]; exact hfz b off hin
  · intro hap
    have := hnd hap
    simpa using this
  · intro x hx _
    simpa using hx

theorem open_slice_fields {t e : TypeId} {fs : Array Field} {fuel : Nat} {cs : List Value} {x : DataW H × List MemPlace} (ht : P.underlying t = some (.slice e)) (he : P.underlying e = some (.struct fs))
    (hone : oneCellFields P fs = true) (hC : P.cellsOf e = fs.size) (h : DataW.trod enc P w base spare held fuel t cs = some x) :
    (cs = [.slice none 0 0] ∧ x = (.nil, [])) ∨
    ∃ (a : Addr) (len cap m : Nat) (D : Nat → DataW H) (Pl : Nat → List MemPlace), cs = [.slice (some a) len cap] ∧ base ≤ a.block ∧ len ≤ cap ∧ cap ≤ maxLen ∧ m = (if spare a.block then cap else len) ∧
      x = (.slice ((List.range len).map D) ((List.range (m - len)).map fun j => D (len + j)), MemPlace.row a (m * fs.size) ++ (List.range m).flatMap Pl) ∧
      ∀ i, i < m → ∃ (ys : List (DataW H × List MemPlace)) (n : Nat), D i = .agg (ys.map (·.1)) ∧ Pl i = ys.flatMap (·.2) ∧ ys.length = fs.size ∧
        ∀ (j : Nat) (f : Field), fs[j]? = some f → ∃ (v : Value) (y : DataW H × List MemPlace), w.cell? (a.add (i * fs.size + j)) = some v ∧ ys[j]? = some y ∧ DataW.trod enc P w base spare held n f.type [v] = some y := by
  rcases open_slice ht h with h0 | ⟨a, len, cap, m, n, D, Pl, hcs, hb, hl, hm, hmm, hx, hi⟩
  · exact .inl h0
  · refine .inr ⟨a, len, cap, m, D, Pl, hcs, hb, hl, hm, hmm, by rw [hC] at hx; exact hx, fun i him => ?_⟩
    obtain ⟨cs', hc, ht'⟩ := hi i him; rw [hC] at hc; obtain ⟨ys, n', hn', hy, hlen, hyl, hf⟩ := DataW.trod_struct he ht'; obtain ⟨_, hcl, hat⟩ := World.cells?_some hc
    simp only [Prod.mk.injEq] at hy
    refine ⟨ys, n', hy.1, hy.2, hyl, fun j f hj => ?_⟩; obtain ⟨ho, hk⟩ := hone_of hone j f hj; have hjl : j < fs.size := (Array.getElem?_eq_some_iff.1 hj).1; have hcell := hat j hjl; have hv : cs'[j]? = some (cs'[j]'(by omega)) := List.getElem?_eq_getElem (by omega); have h1 := hf j f hj; rw [ho, hk] at h1
    have hone' : (cs'.drop j).take 1 = [cs'[j]'(by omega)] := by
      rw [List.drop_eq_getElem_cons (by omega)]
      rfl
    rw [hone'] at h1; have hys : ys[j]? = some (ys[j]'(by omega)) := List.getElem?_eq_getElem (by omega); refine ⟨_, _, ?_, hys, h1.trans hys⟩; rw [← Go.Deep.add_add, hcell, hv]

end

section
variable {H : Type} {enc : TypeId × Value → H} {w : World} {base : Nat} {spare : Nat → Bool} {held : Bool}
end
end Go.Proofs.YtniagnldiegamaaGreat
namespace Go.Proofs.YtniagnldiegamaaGreat
open Go.ChangeShapes Go.WideShapes Go.ChangeAt Go.RowKit Go.Joins Go.Deep
namespace Ck
/-- The element at a place; 0 behind the end. -/
def at_ (l : List Int) (k : Nat) : Int := l.getD k 0
def badAt (c d : List Int) (k : Nat) : Bool := decide (at_ c (k + 1) ≤ at_ c k) || decide (at_ d k < 0) || decide (12 < at_ d k)
def great (len : Int) (c : List Int) : Bool := decide (1000 < len) || decide (40 < c.length)
def shapeBad (len : Int) (c d : List Int) : Bool := decide (len < 1) || decide (c.length < 2) || decide (d.length + 1 ≠ c.length)
def endsBad (len : Int) (c : List Int) : Bool := decide (at_ c 0 ≠ 0) || decide (at_ c (c.length - 1) ≠ len)
def anyBad (c d : List Int) : Bool := (List.range d.length).any (badAt c d)
def wanted (d : List Int) : Bool := d.any (fun x => decide (0 < x))
/-- Check's answer. -/
def chk (len : Int) (c d : List Int) : Int :=
  if great len c then 4 else if shapeBad len c d then 8 else if endsBad len c then 8 else if anyBad c d then 8 else if wanted d then 0 else 8
theorem at_lt {l : List Int} {k : Nat} (h : k < l.length) : at_ l k = l[k] := by unfold at_; simp [h]
theorem wanted_of {d : List Int} {k : Nat} (h : k < d.length) (hp : 0 < at_ d k) : wanted d = true := by
  unfold wanted
  rw [List.any_eq_true]; exact ⟨d[k], List.getElem_mem h, by rw [at_lt h] at hp; simpa using hp⟩
theorem wanted_not {d : List Int} (h : ∀ j, j < d.length → ¬ 0 < at_ d j) : wanted d = false := by
  unfold wanted
  rw [List.any_eq_false]; intro x hx; obtain ⟨j, hj, rfl⟩ := List.mem_iff_getElem.1 hx; have := h j hj; rw [at_lt hj] at this
  simpa using this
theorem bad_of {c d : List Int} {k : Nat} (h : k < d.length) (hb : badAt c d k = true) : anyBad c d = true := by
  unfold anyBad
  rw [List.any_eq_true]; exact ⟨k, by simpa using h, hb⟩
theorem bad_not {c d : List Int} (h : ∀ j, j < d.length → badAt c d j = false) : anyBad c d = false := by
  unfold anyBad
  rw [List.any_eq_false]; intro j hj; have := h j (by simpa using hj)
  simp [this]
end Ck

/-- A slice of ints that came in. -/
def IsI (w : World) (A : Option Addr) (zs : List Int) : Prop :=
  (0 < zs.length → ∃ b off, A = some ⟨b, off, none⟩ ∧ ∀ i, i < zs.length → w.cell? ⟨b, off + i, none⟩ = some (.int .i64 (Ck.at_ zs i))) ∧ ∀ z ∈ zs, I64 z
theorem IsI.keep {w v : World} {A : Option Addr} {zs : List Int} (h : IsI w A zs) (hb : Below w.heap.size w v) : IsI v A zs :=
  ⟨fun h0 => by
    obtain ⟨b, off, e, hc⟩ := h.1 h0
    exact ⟨b, off, e, fun i hi => keepC hb (hc i hi)⟩, h.2⟩
theorem IsI.bd {w : World} {A : Option Addr} {zs : List Int} (h : IsI w A zs) (k : Nat) : I64 (Ck.at_ zs k) := by
  unfold Ck.at_
  rw [List.getD_eq_getElem?_getD]
  rcases Nat.lt_or_ge k zs.length with hk | hk
  · rw [List.getElem?_eq_getElem hk]
    exact h.2 _ (List.getElem_mem hk)
  · rw [List.getElem?_eq_none hk]
    exact ⟨by decide, by decide⟩
/-- A cake that came in. -/
def IsCake (w : World) (len : Int) (K : Option Addr) (cuts : List Int) (Z : Option Addr) (dens : List Int) : Prop :=
  I64 len ∧ (cuts.length ≤ maxLen ∧ dens.length ≤ maxLen) ∧ IsI w K cuts ∧ IsI w Z dens
theorem IsCake.keep {w v : World} {len : Int} {K Z : Option Addr} {cuts dens : List Int} (h : IsCake w len K cuts Z dens) (hb : Below w.heap.size w v) : IsCake v len K cuts Z dens :=
  ⟨h.1, h.2.1, h.2.2.1.keep hb, h.2.2.2.keep hb⟩

section
variable {H : Type} {enc : TypeId × Value → H} {P : Program} {w : World} {base : Nat} {spare : Nat → Bool} {held : Bool}
theorem open_ints_any {t e : TypeId} {fuel : Nat} {cs : List Value} {x : DataW H × List MemPlace} (ht : P.underlying t = some (.slice e)) (he : P.underlying e = some (.int .i64)) (hc : P.cellsOf e = 1)
    (h : DataW.trod enc P w base spare held fuel t cs = some x) : ∃ A cap zs, cs = [.slice A zs.length cap] ∧ zs.length ≤ maxLen ∧ IsI w A zs := by
  rcases open_ints ht he hc h with ⟨rfl, _⟩ | ⟨a, len, cap, zs, rfl, hb, hl, hm, hz, hx, hcell, hw⟩
  · exact ⟨none, 0, [], rfl, by simp, fun h => absurd h (by simp), by simp⟩
  · have hlz : len ≤ zs.length := by rw [hz]; split <;> omega
    have hlen : (zs.take len).length = len := by rw [List.length_take]; omega
    refine ⟨some a, cap, zs.take len, by rw [hlen], by rw [hlen]; omega, fun h0 => ?_, fun z hzm => wf_i64 (hw z (List.mem_of_mem_take hzm))⟩; rw [hlen] at h0; obtain ⟨b, off, spot⟩ := a
    have hspot : spot = none := by simpa [Addr.add] using World.cell?_spot (hcell 0 (by omega))
    subst hspot; refine ⟨b, off, rfl, fun i hi => ?_⟩; rw [hlen] at hi; have := hcell i (by omega); rw [Addr.add_lit] at this; rw [this]
    unfold Ck.at_
    simp [List.getD_eq_getElem?_getD, hi]
end
section
variable {H : Type} {enc : TypeId × Value → H} {w : World} {base : Nat} {spare : Nat → Bool} {held : Bool}
theorem cellsInt : Tryz.prog.cellsOf 3 = 1 := by kernel_rfl
theorem cellsCake : Tryz.prog.cellsOf 67 = 3 := by kernel_rfl
end
end Go.Proofs.YtniagnldiegamaaGreat
namespace Go.Proofs.YtniagnldiegamaaGreat
open Go.RowKit

theorem pos_any (x : Int) (w : World) : Calls Tryz.prog 136 #[.int .i64 x] w fun e w' => e = .returned (.bool (decide (0 < x))) ∧ w = w' := by
  go_enter Tryz.func136, Tryz.ntmps136
  go_wp2
  go_ret
  exact ⟨rfl, rfl⟩

set_option maxHeartbeats 1000000 in
set_option maxRecDepth 100000 in
theorem index_any (A : Option Addr) (zs : List Int) (cap : Nat) (w : World) (hl : zs.length ≤ maxLen) (h : IsI w A zs) :
    Calls Tryz.prog 78 #[.slice A zs.length cap, .func (.func 136) #[] #[]] w fun e w' => (∃ r : Int, e = .returned (.int .i64 r) ∧ decide (0 ≤ r) = Ck.wanted zs) ∧ w = w' := by
  unfold maxLen at hl
  go_enter Tryz.func78, Tryz.ntmps78
  go_wp2_with fail
  go_loop [5, 8] (fun _ i => ∃ k : Nat, k ≤ zs.length ∧ i = .int .i64 k ∧ Hid (∀ j, j < k → Ck.at_ zs j ≤ 0)) (fun _ i => zs.length - (intOf i).toNat)
  case atStart => exact ⟨0, Nat.zero_le _, rfl, fun j hj => absurd hj (by omega)⟩
  case round =>
    obtain ⟨k, hk, rfl, hn⟩ := hrel
    by_cases hlt : k < zs.length
    · obtain ⟨b, off, rfl, hc⟩ := h.1 (by omega)
      have hx := hc k hlt; have HW := Lib.hid (fun (hp : 0 < Ck.at_ zs k) => Ck.wanted_of hlt hp)
      have HS := Lib.hid (fun (hp : Ck.at_ zs k ≤ 0) j (hj : j < k + 1) => by
        rcases Nat.lt_or_ge j k with h1 | h1
        · exact hn.out j h1
        · obtain rfl : j = k := by omega
          exact hp)
      clear hc h
      generalize Ck.at_ zs k = x at *
      by_cases hp : 0 < x
      · have hd : decide (0 < x) = true := decide_eq_true hp
        have HW2 := Lib.hid (HW.out hp); clear HW HS hp
        go_wp2_with (go_at_call 136; refine (pos_any _ _).mono ?_; rintro e w' ⟨rfl, rfl⟩)
        go_ret
        exact ⟨⟨_, rfl, by rw [HW2.out]; exact decide_eq_true (by omega)⟩, rfl⟩
      · have hd : decide (0 < x) = false := decide_eq_false hp
        have HS2 := Lib.hid (HS.out (by omega)); clear HW HS hp
        go_wp2_with (go_at_call 136; refine (pos_any _ _).mono ?_; rintro e w' ⟨rfl, rfl⟩)
        go_round
        case rel => exact ⟨k + 1, by omega, by go_num, HS2⟩
        case measure => simp [intOf]; omega
    · obtain rfl : k = zs.length := by omega
      have HN := Lib.hid (Ck.wanted_not (fun j hj => by have := hn.out j hj; omega)); clear h hn; (go_wp2_with fail)
      go_ret
      exact ⟨⟨_, rfl, by rw [HN.out]; rfl⟩, rfl⟩

theorem contains_any (A : Option Addr) (zs : List Int) (cap : Nat) (w : World) (hl : zs.length ≤ maxLen) (h : IsI w A zs) :
    Calls Tryz.prog 135 #[.slice A zs.length cap, .func (.func 136) #[] #[]] w fun e w' => e = .returned (.bool (Ck.wanted zs)) ∧ w = w' := by
  have ci := Lib.hid (fun w h => index_any A zs cap w hl h)
  go_enter Tryz.func135, Tryz.ntmps135
  (go_wp2_with fail); refine (ci.out _ h).mono ?_; rintro e w' ⟨⟨r, rfl, hr⟩, rfl⟩; have HR := Lib.hid hr; clear hr h ci
  go_wp2
  go_ret
  exact ⟨by rw [← HR.out]; rfl, rfl⟩

theorem wanted_any (A : Option Addr) (zs : List Int) (cap : Nat) (w : World) (hl : zs.length ≤ maxLen) (h : IsI w A zs) :
    Calls Tryz.prog 114 #[.slice A zs.length cap] w fun e w' => e = .returned (.bool (Ck.wanted zs)) ∧ w = w' := by
  have ci := Lib.hid (fun w h => contains_any A zs cap w hl h)
  go_enter Tryz.func114, Tryz.ntmps114
  (go_wp2_with fail); refine (ci.out _ h).mono ?_; rintro e w' ⟨rfl, rfl⟩; clear h ci
  go_wp2
  go_ret
  exact ⟨rfl, rfl⟩
end Go.Proofs.YtniagnldiegamaaGreat

