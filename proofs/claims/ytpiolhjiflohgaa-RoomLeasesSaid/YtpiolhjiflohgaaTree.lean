/- Blocks that a region makes: what they hold, and what leaves them as they are. -/
import Derived.Test.YtpiolhjiflohgaaKeep
import Derived.RangeFuncBox
import Derived.Deep.CutBlock
import Derived.Deep.DeepCutAuto
namespace Go.Proofs.Ytpiolhjiflohgaa
open Go.RowKit
theorem PA {α : Type} : ((∀ (xs : List α) (i : Nat) (h : i < xs.toArray.size), xs.toArray[i] = xs[i]'(by simpa using h)) ∧ (∀ (a : α) (zs : List α) (i : Nat) (h : i + 1 < (a :: zs).length), (a :: zs)[i + 1] = zs[i]'(by simpa using h)) ∧ (∀ (a : α) (zs : List α) (h : 0 < (a :: zs).length), (a :: zs)[0] = a)) ∧ ∀ (l : List α) (i : Nat) (v : α), l.toArray.setIfInBounds i v = (l.set i v).toArray :=
  ⟨⟨fun _ _ _ => rfl, fun _ _ _ _ => rfl, fun _ _ _ => rfl⟩, fun _ _ _ => by simp⟩
theorem PB {α : Type} : (∀ (x : α) (xs : List α) (a : α), (x :: xs).set 0 a = a :: xs) ∧ ∀ (x : α) (xs : List α) (n : Nat) (a : α), (x :: xs).set (n + 1) a = x :: xs.set n a := ⟨fun _ _ _ => rfl, fun _ _ _ _ => rfl⟩
theorem at_anyH {P : Program} {md : Region.Mode} {ops : Array Oper} {Q : Exit → Act → World → Prop} {S : World → Prop} {fuel : Nat} {listed : Array Bool} {a : Act} {w : World} (T : World → Prop) (h : T w) (k : ∀ V, T V → wpAnyH P md ops Q S fuel listed a V) : wpAnyH P md ops Q S fuel listed a w := k w h
/-- A block of cells, to be written. -/
def BK (v : World) (p : Nat) (l : List Value) : Prop := p < v.heap.size ∧ ∀ j x, l[j]? = some x → v.cell? ⟨p, j, none⟩ = some x ∧ v.frozen? ⟨p, j, none⟩ = false
theorem BK.lt {v : World} {p : Nat} {l : List Value} (h : BK v p l) : p < v.heap.size := h.1
theorem BK.c {v : World} {p : Nat} {l : List Value} (h : BK v p l) (j : Nat) {x : Value} (e : l[j]? = some x) : v.cell? ⟨p, j, none⟩ = some x := (h.2 j x e).1
theorem BK.f {v : World} {p : Nat} {l : List Value} (h : BK v p l) (j : Nat) {x : Value} (e : l[j]? = some x) : v.frozen? ⟨p, j, none⟩ = false := (h.2 j x e).2
theorem BK.keep {v w : World} {p : Nat} {l : List Value} (h : BK v p l) (hb : Below v.heap.size v w) : BK w p l :=
  ⟨Nat.lt_of_lt_of_le h.1 hb.size, fun j x e => ⟨(hb.cell (p := ⟨p, j, none⟩) h.1).trans (h.2 j x e).1, (hb.frozen (p := ⟨p, j, none⟩) h.1).trans (h.2 j x e).2⟩⟩
theorem BK.al {v : World} {p : Nat} {l : List Value} (h : BK v p l) (o : Obj) : BK (v.alloc o) p l := h.keep (below_al (Below.refl _ _) o)
theorem BK.new (v : World) (l : List Value) (t : TypeId) : BK (v.alloc (.cells l.toArray t)) v.heap.size l := by
  have hn : (v.alloc (.cells l.toArray t)).heap[v.heap.size]? = some (.cells l.toArray t (0, 0)) := World.alloc_heap_new v _
  refine ⟨by simp, fun j x e => ⟨?_, ?_⟩⟩
  · unfold World.cell?
    dsimp only
    rw [hn]
    simp [e]
  · unfold World.frozen?
    dsimp only
    rw [hn]
    simp
theorem BK.far {v : World} {p : Nat} {l : List Value} (h : BK v p l) {q : Nat} (hne : q ≠ p) (o : Nat) (u : Value) : BK (v.setCell ⟨q, o, none⟩ u) p l :=
  ⟨by rw [World.size_setCell]; exact h.1, fun j x e => ⟨cell_far (h.2 j x e).1 hne u, froz_set (h.2 j x e).2 _ _⟩⟩
theorem BK.set {v : World} {p : Nat} {l : List Value} (h : BK v p l) (o : Nat) (u : Value) : BK (v.setCell ⟨p, o, none⟩ u) p (l.set o u) := by
  refine ⟨by rw [World.size_setCell]; exact h.1, fun j x e => ?_⟩
  by_cases hj : o = j
  · subst hj
    rw [List.getElem?_set_self'] at e
    cases hl : l[o]? with
    | none => rw [hl] at e; cases e
    | some y =>
      rw [hl] at e
      simp only [Option.map_eq_map, Option.map_some, Function.const_apply, Option.some.injEq] at e
      subst e
      exact ⟨World.cell?_setCell_same v _ _ (h.2 o y hl).1, froz_set (h.2 o y hl).2 _ _⟩
  · rw [List.getElem?_set_ne hj] at e
    refine ⟨?_, froz_set (h.2 j x e).2 _ _⟩
    rw [World.cell?_setCell_other _ _ _ _ (by intro e'; injection e' with _ e'; exact hj e')]
    exact (h.2 j x e).1
theorem at_box1 {P : Program} {c : Code} {Q : Exit → Act → World → Prop} {a : Act} {w : World} {l0 : List Value} {t0 : TypeId} (k : ∀ V, Below w.heap.size w V → BK V w.heap.size l0 → V.heap.size = w.heap.size + 1 → Code.wp P c Q a V) : Code.wp P c Q a (w.alloc (.cells l0.toArray t0)) :=
  k _ (below_al (Below.refl _ _) _) (by have b := (BK.new w l0 t0); simpa only [World.size_alloc] using b) (by simp only [World.size_alloc])
theorem at_box2 {P : Program} {c : Code} {Q : Exit → Act → World → Prop} {a : Act} {w : World} {l0 l1 : List Value} {t0 t1 : TypeId} (k : ∀ V, Below w.heap.size w V → BK V w.heap.size l0 → BK V (w.heap.size + 1) l1 → V.heap.size = w.heap.size + 2 → Code.wp P c Q a V) : Code.wp P c Q a ((w.alloc (.cells l0.toArray t0)).alloc (.cells l1.toArray t1)) :=
  k _ (below_al (below_al (Below.refl _ _) _) _) (by have b := ((BK.new w l0 t0).al (.cells l1.toArray t1)); simpa only [World.size_alloc] using b) (by have b := (BK.new (w.alloc (.cells l0.toArray t0)) l1 t1); simpa only [World.size_alloc] using b) (by simp only [World.size_alloc])
theorem at_box3 {P : Program} {c : Code} {Q : Exit → Act → World → Prop} {a : Act} {w : World} {l0 l1 l2 : List Value} {t0 t1 t2 : TypeId} (k : ∀ V, Below w.heap.size w V → BK V w.heap.size l0 → BK V (w.heap.size + 1) l1 → BK V (w.heap.size + 2) l2 → V.heap.size = w.heap.size + 3 → Code.wp P c Q a V) : Code.wp P c Q a (((w.alloc (.cells l0.toArray t0)).alloc (.cells l1.toArray t1)).alloc (.cells l2.toArray t2)) :=
  k _ (below_al (below_al (below_al (Below.refl _ _) _) _) _) (by have b := (((BK.new w l0 t0).al (.cells l1.toArray t1)).al (.cells l2.toArray t2)); simpa only [World.size_alloc] using b) (by have b := ((BK.new (w.alloc (.cells l0.toArray t0)) l1 t1).al (.cells l2.toArray t2)); simpa only [World.size_alloc] using b) (by have b := (BK.new ((w.alloc (.cells l0.toArray t0)).alloc (.cells l1.toArray t1)) l2 t2); simpa only [World.size_alloc] using b) (by simp only [World.size_alloc])
theorem at_box4 {P : Program} {c : Code} {Q : Exit → Act → World → Prop} {a : Act} {w : World} {l0 l1 l2 l3 : List Value} {t0 t1 t2 t3 : TypeId} (k : ∀ V, Below w.heap.size w V → BK V w.heap.size l0 → BK V (w.heap.size + 1) l1 → BK V (w.heap.size + 2) l2 → BK V (w.heap.size + 3) l3 → V.heap.size = w.heap.size + 4 → Code.wp P c Q a V) : Code.wp P c Q a ((((w.alloc (.cells l0.toArray t0)).alloc (.cells l1.toArray t1)).alloc (.cells l2.toArray t2)).alloc (.cells l3.toArray t3)) :=
  k _ (below_al (below_al (below_al (below_al (Below.refl _ _) _) _) _) _) (by have b := ((((BK.new w l0 t0).al (.cells l1.toArray t1)).al (.cells l2.toArray t2)).al (.cells l3.toArray t3)); simpa only [World.size_alloc] using b) (by have b := (((BK.new (w.alloc (.cells l0.toArray t0)) l1 t1).al (.cells l2.toArray t2)).al (.cells l3.toArray t3)); simpa only [World.size_alloc] using b) (by have b := ((BK.new ((w.alloc (.cells l0.toArray t0)).alloc (.cells l1.toArray t1)) l2 t2).al (.cells l3.toArray t3)); simpa only [World.size_alloc] using b) (by have b := (BK.new (((w.alloc (.cells l0.toArray t0)).alloc (.cells l1.toArray t1)).alloc (.cells l2.toArray t2)) l3 t3); simpa only [World.size_alloc] using b) (by simp only [World.size_alloc])
theorem at_box5 {P : Program} {c : Code} {Q : Exit → Act → World → Prop} {a : Act} {w : World} {l0 l1 l2 l3 l4 : List Value} {t0 t1 t2 t3 t4 : TypeId} (k : ∀ V, Below w.heap.size w V → BK V w.heap.size l0 → BK V (w.heap.size + 1) l1 → BK V (w.heap.size + 2) l2 → BK V (w.heap.size + 3) l3 → BK V (w.heap.size + 4) l4 → V.heap.size = w.heap.size + 5 → Code.wp P c Q a V) : Code.wp P c Q a (((((w.alloc (.cells l0.toArray t0)).alloc (.cells l1.toArray t1)).alloc (.cells l2.toArray t2)).alloc (.cells l3.toArray t3)).alloc (.cells l4.toArray t4)) :=
  k _ (below_al (below_al (below_al (below_al (below_al (Below.refl _ _) _) _) _) _) _) (by have b := (((((BK.new w l0 t0).al (.cells l1.toArray t1)).al (.cells l2.toArray t2)).al (.cells l3.toArray t3)).al (.cells l4.toArray t4)); simpa only [World.size_alloc] using b) (by have b := ((((BK.new (w.alloc (.cells l0.toArray t0)) l1 t1).al (.cells l2.toArray t2)).al (.cells l3.toArray t3)).al (.cells l4.toArray t4)); simpa only [World.size_alloc] using b) (by have b := (((BK.new ((w.alloc (.cells l0.toArray t0)).alloc (.cells l1.toArray t1)) l2 t2).al (.cells l3.toArray t3)).al (.cells l4.toArray t4)); simpa only [World.size_alloc] using b) (by have b := ((BK.new (((w.alloc (.cells l0.toArray t0)).alloc (.cells l1.toArray t1)).alloc (.cells l2.toArray t2)) l3 t3).al (.cells l4.toArray t4)); simpa only [World.size_alloc] using b) (by have b := (BK.new ((((w.alloc (.cells l0.toArray t0)).alloc (.cells l1.toArray t1)).alloc (.cells l2.toArray t2)).alloc (.cells l3.toArray t3)) l4 t4); simpa only [World.size_alloc] using b) (by simp only [World.size_alloc])
theorem at_box6 {P : Program} {c : Code} {Q : Exit → Act → World → Prop} {a : Act} {w : World} {l0 l1 l2 l3 l4 l5 : List Value} {t0 t1 t2 t3 t4 t5 : TypeId} (k : ∀ V, Below w.heap.size w V → BK V w.heap.size l0 → BK V (w.heap.size + 1) l1 → BK V (w.heap.size + 2) l2 → BK V (w.heap.size + 3) l3 → BK V (w.heap.size + 4) l4 → BK V (w.heap.size + 5) l5 → V.heap.size = w.heap.size + 6 → Code.wp P c Q a V) : Code.wp P c Q a ((((((w.alloc (.cells l0.toArray t0)).alloc (.cells l1.toArray t1)).alloc (.cells l2.toArray t2)).alloc (.cells l3.toArray t3)).alloc (.cells l4.toArray t4)).alloc (.cells l5.toArray t5)) :=
  k _ (below_al (below_al (below_al (below_al (below_al (below_al (Below.refl _ _) _) _) _) _) _) _) (by have b := ((((((BK.new w l0 t0).al (.cells l1.toArray t1)).al (.cells l2.toArray t2)).al (.cells l3.toArray t3)).al (.cells l4.toArray t4)).al (.cells l5.toArray t5)); simpa only [World.size_alloc] using b) (by have b := (((((BK.new (w.alloc (.cells l0.toArray t0)) l1 t1).al (.cells l2.toArray t2)).al (.cells l3.toArray t3)).al (.cells l4.toArray t4)).al (.cells l5.toArray t5)); simpa only [World.size_alloc] using b) (by have b := ((((BK.new ((w.alloc (.cells l0.toArray t0)).alloc (.cells l1.toArray t1)) l2 t2).al (.cells l3.toArray t3)).al (.cells l4.toArray t4)).al (.cells l5.toArray t5)); simpa only [World.size_alloc] using b) (by have b := (((BK.new (((w.alloc (.cells l0.toArray t0)).alloc (.cells l1.toArray t1)).alloc (.cells l2.toArray t2)) l3 t3).al (.cells l4.toArray t4)).al (.cells l5.toArray t5)); simpa only [World.size_alloc] using b) (by have b := ((BK.new ((((w.alloc (.cells l0.toArray t0)).alloc (.cells l1.toArray t1)).alloc (.cells l2.toArray t2)).alloc (.cells l3.toArray t3)) l4 t4).al (.cells l5.toArray t5)); simpa only [World.size_alloc] using b) (by have b := (BK.new (((((w.alloc (.cells l0.toArray t0)).alloc (.cells l1.toArray t1)).alloc (.cells l2.toArray t2)).alloc (.cells l3.toArray t3)).alloc (.cells l4.toArray t4)) l5 t5); simpa only [World.size_alloc] using b) (by simp only [World.size_alloc])
/-- A state of a region that is reached on several ways, stated once. -/
theorem dag {P : Program} {md : Region.Mode} {ops : Array Oper} {Q : Exit → Act → World → Prop} {S : World → Prop} {fuel : Nat} {listed : Array Bool} {a : Act} {w : World} (N : (Nat → Array Bool → Act → World → Prop) → Act → Prop) (h : N (wpAnyH P md ops Q S) a)
    (k : Hid (N (wpAnyH P md ops Q S) a) → wpAnyH P md ops Q S fuel listed a w) : wpAnyH P md ops Q S fuel listed a w := k h
theorem dag_use {P : Program} {md : Region.Mode} {ops : Array Oper} {Q : Exit → Act → World → Prop} {S : World → Prop} {fuel : Nat} {l listed : Array Bool} {b a : Act} {w : World} (h : wpAnyH P md ops Q S fuel l b w) (e : l = listed) (k : b = a) : wpAnyH P md ops Q S fuel listed a w := by
  subst e; subst k; exact h
end Go.Proofs.Ytpiolhjiflohgaa
