/- The reference's test whether a point is in some spans. -/
import Derived.Test.YtnnpmegknlgkoaaPrw
import Derived.Test.YtnnpmegknlgkoaaTree
import Derived.Test.YtnnpmegknlgkoaaGf
namespace Go.Proofs.Ytnnpmegknlgkoaa
open Go.RowKit
namespace Pc
def hitS (s : Rat × Rat) (p : Rat) : Bool := !decide (p < s.1) && decide (p < s.2)
theorem inn_yes {l : List (Rat × Rat)} {p : Rat} {k : Nat} (h : k < l.length) (e : hitS (sat l k) p = true) : inn l p = true := by
  unfold inn
  rw [List.any_eq_true]
  rw [sat_lt h] at e
  exact ⟨l[k], List.getElem_mem h, e⟩
theorem inn_not {l : List (Rat × Rat)} {p : Rat} (h : ∀ k, k < l.length → hitS (sat l k) p = false) : inn l p = false := by
  unfold inn
  rw [List.any_eq_false]
  intro s hs
  obtain ⟨k, hk, rfl⟩ := List.mem_iff_getElem.1 hs
  have := h k hk
  rw [sat_lt hk] at this
  unfold hitS at this
  simp [this]
end Pc

end Go.Proofs.Ytnnpmegknlgkoaa
