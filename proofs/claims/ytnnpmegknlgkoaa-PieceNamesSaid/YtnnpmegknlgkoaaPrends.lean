/- The reference's ends of two lists of spans. -/
import Derived.Test.YtnnpmegknlgkoaaPrput
namespace Go.Proofs.Ytnnpmegknlgkoaa
open Go.RowKit
theorem keepCB {V W : World} {B b o : Nat} {x : Value} (hb : Below B V W) (hlt : b < B) (h : V.cell? ⟨b, o, none⟩ = some x) : W.cell? ⟨b, o, none⟩ = some x := (hb.cell (p := ⟨b, o, none⟩) hlt).trans h
theorem Pc.ends_snoc (l : List (Rat × Rat)) (s : Rat × Rat) (x : Rat) : x ∈ ends (l ++ [s]) ↔ (x ∈ ends l ∨ x = s.1) ∨ x = s.2 := by
  rw [ends_app, List.mem_append]
  show x ∈ ends l ∨ x ∈ [s.1, s.2] ↔ _
  simp [or_assoc]
theorem Pc.take_mem {L : List (Rat × Rat)} {k : Nat} {x : Rat} (h : x ∈ ends (L.take k)) : x ∈ ends L := by
  have : L = L.take k ++ L.drop k := (List.take_append_drop k L).symm
  rw [this, ends_app, List.mem_append]
  exact .inl h

        
end Go.Proofs.Ytnnpmegknlgkoaa
