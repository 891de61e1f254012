/- The reference's put: a point is laid into a list in increasing order. -/
import Derived.Test.YtnnpmegknlgkoaaPsweep
import Derived.Test.YtnnpmegknlgkoaaPrin
import Derived.RegionTactic
import Derived.ChangeAlike
import Derived.BigRegion
namespace Go.Proofs.Ytnnpmegknlgkoaa
open Go.RowKit
namespace Pc
theorem cells2_set : ∀ (c : List Rat) (k : Nat) (p : Rat), cells2 (c.set k p) = ((cells2 c).set (k * 2) (.int .i64 p.num)).set (k * 2 + 1) (.int .i64 (p.den : Int))
  | [], _, _ => rfl
  | q :: c, 0, p => rfl
  | q :: c, k + 1, p => by
    have ih := cells2_set c k p
    have e : ∀ (x : Rat) (l : List Rat), cells2 (x :: l) = .int .i64 x.num :: .int .i64 (x.den : Int) :: cells2 l := fun _ _ => rfl
    rw [List.set_cons_succ, e, e, ih, show (k + 1) * 2 = k * 2 + 1 + 1 by omega]
    simp only [List.set_cons_succ]
def lay (l : List Rat) (r : Rat) (k : Nat) : List Rat := l.take k ++ r :: l.drop k
theorem lay_len (l : List Rat) (r : Rat) (k : Nat) : (lay l r k).length = l.length + 1 := by unfold lay; simp; omega
theorem lay_at {l : List Rat} {r : Rat} {k : Nat} (h : k ≤ l.length) : qat (lay l r k) k = r := by
  unfold lay qat
  rw [List.getD_eq_getElem?_getD, List.getElem?_append_right (by simp; omega)]
  simp [List.length_take, Nat.min_eq_left h]
theorem lay_bef {l : List Rat} {r : Rat} {k : Nat} (h : k + 1 ≤ l.length) : qat (lay l r (k + 1)) k = qat l k := by
  unfold lay qat
  rw [List.getD_eq_getElem?_getD, List.getElem?_append_left (by simp; omega), List.getD_eq_getElem?_getD, List.getElem?_take]
  simp
theorem lay_swap : ∀ {l : List Rat} {r : Rat} {k : Nat}, k + 1 ≤ l.length → ((lay l r (k + 1)).set k r).set (k + 1) (qat l k) = lay l r k
  | [], _, _, h => by simp at h
  | q :: l, r, 0, _ => rfl
  | q :: l, r, k + 1, h => by
    have ih := lay_swap (l := l) (r := r) (k := k) (by simpa using h)
    unfold lay qat at ih ⊢
    simp only [List.take_succ_cons, List.drop_succ_cons, List.cons_append, List.set_cons_succ, List.getD_cons_succ]
    rw [ih]
theorem lay_mem (l : List Rat) (r : Rat) (k : Nat) (x : Rat) : x ∈ lay l r k ↔ x ∈ l ∨ x = r := by
  unfold lay
  conv => rhs; rw [← List.take_append_drop k l]
  simp only [List.mem_append, List.mem_cons]
  constructor
  · rintro (h | h | h)
    · exact .inl (.inl h)
    · exact .inr h
    · exact .inl (.inr h)
  · rintro ((h | h) | h)
    · exact .inl h
    · exact .inr (.inr h)
    · exact .inr (.inl h)
theorem inc_lay : ∀ {l : List Rat} {r : Rat} {k : Nat}, Inc l → (∀ x ∈ l.take k, x < r) → (∀ x ∈ l.drop k, r < x) → Inc (lay l r k)
  | l, r, 0, h, _, h2 => ⟨fun q hq => h2 q (by simpa using hq), by simpa [lay] using h⟩
  | [], r, k + 1, _, _, _ => ⟨by simp, trivial⟩
  | q :: l, r, k + 1, h, h1, h2 => by
    have ih := inc_lay (l := l) (r := r) (k := k) h.2 (fun x hx => h1 x (by simp [hx])) (fun x hx => h2 x (by simpa using hx))
    refine ⟨fun x hx => ?_, ih⟩
    have : x ∈ lay l r k := hx
    rw [lay_mem] at this
    rcases this with hx | rfl
    · exact h.1 x hx
    · exact h1 q (by simp)
theorem take_lt : ∀ {l : List Rat} {r : Rat} {k : Nat}, Inc l → k + 1 ≤ l.length → qat l k < r → ∀ x ∈ l.take (k + 1), x < r
  | [], _, _, _, h, _ => by simp at h
  | q :: l, r, 0, _, _, h => fun x hx => by have : x = q := by simpa using hx
                                            subst this; exact h
  | q :: l, r, k + 1, hi, hl, h => fun x hx => by
    have ih := take_lt (l := l) (r := r) (k := k) hi.2 (by simpa using hl) h
    rw [List.take_succ_cons] at hx
    rcases List.mem_cons.1 hx with rfl | hx
    · have hm : qat l k ∈ l := by rw [qat_lt (by simp at hl; omega)]; exact List.getElem_mem _
      have := hi.1 _ hm
      have h' : qat l k < r := h
      grind
    · exact ih x hx
theorem drop_lt {l : List Rat} {r : Rat} {k : Nat} (hl : k + 1 ≤ l.length) (h : r < qat l k) (h2 : ∀ x ∈ l.drop (k + 1), r < x) : ∀ x ∈ l.drop k, r < x := by
  intro x hx
  rw [List.drop_eq_getElem_cons (by omega)] at hx
  rcases List.mem_cons.1 hx with rfl | hx
  · rw [qat_lt (by omega)] at h; exact h
  · exact h2 x hx
end Pc
theorem row_cell {w : World} {B g n cap : Nat} {e : TypeId} {c : List Rat} (h : w.ownsRow B e 2 (.slice (some ⟨g, 0, none⟩) n cap) n (Pc.cells2 c)) (hn : n = c.length) {k : Nat} (hk : k < n) :
    w.cell? ⟨g, k * 2, none⟩ = some (.int .i64 (Pc.qat c k).num) ∧ w.cell? ⟨g, k * 2 + 1, none⟩ = some (.int .i64 ((Pc.qat c k).den : Int)) := by
  rw [World.ownsRow.cellAt h (k * 2) (by omega), World.ownsRow.cellAt h (k * 2 + 1) (by omega)]
  exact Pc.cells2_at (by omega)
theorem row_set {w : World} {B g n cap : Nat} {e : TypeId} {c : List Rat} (h : w.ownsRow B e 2 (.slice (some ⟨g, 0, none⟩) n cap) n (Pc.cells2 c)) (k : Nat) (p : Rat) :
    ((w.setCell ⟨g, k * 2, none⟩ (.int .i64 p.num)).setCell ⟨g, k * 2 + 1, none⟩ (.int .i64 (p.den : Int))).ownsRow B e 2 (.slice (some ⟨g, 0, none⟩) n cap) n (Pc.cells2 (c.set k p)) := by
  rw [Pc.cells2_set]
  exact (World.ownsRow.stored (World.ownsRow.stored h (k * 2) _).1 (k * 2 + 1) _).1
theorem Acc.put2 {w V : World} {B g n cap : Nat} {e : TypeId} {c : List Rat} (h : Acc w B e 2 (.slice (some ⟨g, 0, none⟩) n cap) n (Pc.cells2 c) V) (k : Nat) (p : Rat) :
    Acc w B e 2 (.slice (some ⟨g, 0, none⟩) n cap) n (Pc.cells2 (c.set k p)) ((V.setCell ⟨g, k * 2, none⟩ (.int .i64 p.num)).setCell ⟨g, k * 2 + 1, none⟩ (.int .i64 (p.den : Int))) :=
  ⟨below_st (below_st h.bb (World.ownsRow.lt h.row g rfl).1 _) (World.ownsRow.lt h.row g rfl).1 _, by rw [World.size_setCell, World.size_setCell]; exact h.hB, row_set h.row k p⟩
theorem Acc.drew {w V : World} {B n sz : Nat} {e : TypeId} {v : Value} {cs : List Value} (h : Acc w B e sz v n cs V) : Acc w B e sz v n cs V.drew := ⟨below_drewN h.bb 1, h.hB, World.ownsRow.drew h.row⟩

end Go.Proofs.Ytnnpmegknlgkoaa
