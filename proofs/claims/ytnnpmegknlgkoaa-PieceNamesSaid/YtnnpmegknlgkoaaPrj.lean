/- What the reference's joined does from one point to the next. -/
import Derived.Test.YtnnpmegknlgkoaaPrends
namespace Go.Proofs.Ytnnpmegknlgkoaa
open Go.RowKit
namespace Pc
theorem drop_two {S : List Rat} {k : Nat} (h : k + 1 < S.length) : S.drop k = qat S k :: qat S (k + 1) :: S.drop (k + 2) := by
  rw [List.drop_eq_getElem_cons (by omega), List.drop_eq_getElem_cons h, qat_lt (by omega), qat_lt h]
theorem rn_end {t : Rat → Bool} {S : List Rat} {out : List (Rat × Rat)} {k : Nat} (h : S.length ≤ k + 1) : rn t (S.drop k) out = out := by
  have hl : (S.drop k).length ≤ 1 := by rw [List.length_drop]; omega
  match S.drop k, hl with
  | [], _ => rfl
  | [_], _ => rfl
theorem rn_step {t : Rat → Bool} {S : List Rat} {out : List (Rat × Rat)} {k : Nat} (h : k + 1 < S.length) : rn t (S.drop k) out = rn t (S.drop (k + 1)) (put1 (t (qat S k)) (qat S k) (qat S (k + 1)) out) := by
  rw [drop_two h, rn]
  congr 1
  rw [List.drop_eq_getElem_cons h, qat_lt h]
theorem nil_or_snoc (l : List (Rat × Rat)) : l = [] ∨ ∃ init s z, l = init ++ [(s, z)] := by
  rcases List.eq_nil_or_concat l with h | ⟨i, ⟨s, z⟩, h⟩
  · exact .inl h
  · exact .inr ⟨i, s, z, by rw [h, List.concat_eq_append]⟩
theorem put1_not (p q : Rat) (out : List (Rat × Rat)) : put1 false p q out = out := rfl
theorem put1_nil (p q : Rat) : put1 true p q [] = [(p, q)] := rfl
theorem put1_on (p q s : Rat) (init : List (Rat × Rat)) : put1 true p q (init ++ [(s, p)]) = init ++ [(s, q)] := by simp [put1]
theorem put1_new {p q s z : Rat} {init : List (Rat × Rat)} (h : z ≠ p) : put1 true p q (init ++ [(s, z)]) = init ++ [(s, z)] ++ [(p, q)] := by simp [put1, h]
theorem cells4_last : ∀ (init : List (Rat × Rat)) (s z q : Rat), cells4 (init ++ [(s, q)]) = ((cells4 (init ++ [(s, z)])).set (init.length * 4 + 2) (.int .i64 q.num)).set (init.length * 4 + 3) (.int .i64 (q.den : Int))
  | [], _, _, _ => rfl
  | c :: init, s, z, q => by
    have ih := cells4_last init s z q
    have e : ∀ (x : Rat × Rat) (l : List (Rat × Rat)), cells4 (x :: l) = .int .i64 x.1.num :: .int .i64 (x.1.den : Int) :: .int .i64 x.2.num :: .int .i64 (x.2.den : Int) :: cells4 l := fun _ _ => rfl
    rw [List.cons_append, List.cons_append, e, e, ih, List.length_cons, show (init.length + 1) * 4 + 2 = (init.length * 4 + 2) + 1 + 1 + 1 + 1 by omega, show (init.length + 1) * 4 + 3 = (init.length * 4 + 3) + 1 + 1 + 1 + 1 by omega]
    simp only [List.set_cons_succ]
theorem cells4_to : ∀ (init : List (Rat × Rat)) (s z : Rat), (cells4 (init ++ [(s, z)]))[init.length * 4 + 2]? = some (.int .i64 z.num) ∧ (cells4 (init ++ [(s, z)]))[init.length * 4 + 3]? = some (.int .i64 (z.den : Int))
  | [], _, _ => ⟨rfl, rfl⟩
  | c :: init, s, z => by
    have ih := cells4_to init s z
    have e : ∀ (x : Rat × Rat) (l : List (Rat × Rat)), cells4 (x :: l) = .int .i64 x.1.num :: .int .i64 (x.1.den : Int) :: .int .i64 x.2.num :: .int .i64 (x.2.den : Int) :: cells4 l := fun _ _ => rfl
    rw [List.cons_append, e, List.length_cons, show (init.length + 1) * 4 + 2 = (init.length * 4 + 2) + 1 + 1 + 1 + 1 by omega, show (init.length + 1) * 4 + 3 = (init.length * 4 + 3) + 1 + 1 + 1 + 1 by omega]
    simp only [List.getElem?_cons_succ]
    exact ih
end Pc
theorem Acc.rebase {w V W : World} {e : TypeId} {sz n : Nat} {v : Value} {cs : List Value} (hb : Below w.heap.size w V) (h : Acc V V.heap.size e sz v n cs W) : Acc w w.heap.size e sz v n cs W :=
  ⟨hb.trans (h.bb.mono hb.size), Nat.le_trans hb.size h.hB, World.ownsRow.mono h.row hb.size⟩
theorem Acc.lastTo {w V : World} {B g n cap : Nat} {e : TypeId} {init : List (Rat × Rat)} {s z : Rat} (h : Acc w B e 4 (.slice (some ⟨g, 0, none⟩) n cap) n (Pc.cells4 (init ++ [(s, z)])) V) (q : Rat) :
    Acc w B e 4 (.slice (some ⟨g, 0, none⟩) n cap) n (Pc.cells4 (init ++ [(s, q)])) ((V.setCell ⟨g, init.length * 4 + 2, none⟩ (.int .i64 q.num)).setCell ⟨g, init.length * 4 + 3, none⟩ (.int .i64 (q.den : Int))) :=
  ⟨below_st (below_st h.bb (World.ownsRow.lt h.row g rfl).1 _) (World.ownsRow.lt h.row g rfl).1 _, by rw [World.size_setCell, World.size_setCell]; exact h.hB, by
    rw [Pc.cells4_last init s z q]
    exact (World.ownsRow.stored (World.ownsRow.stored h.row _ _).1 _ _).1⟩
end Go.Proofs.Ytnnpmegknlgkoaa
