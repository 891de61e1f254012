/- Package cake's Normal. -/
import Derived.Test.YtmfnlapoefihkaaGreatTot
import Derived.Test.YtmfnlapoefihkaaGreatGh
import Derived.Deep.RegionLaw
import Derived.Deep.CutBlock
import Derived.Deep.DeepCutAuto
namespace Go.Proofs.YtmfnlapoefihkaaGreat
open Go.RowKit
namespace Ck
/-- Whether an interval begins with another density than the one before it has. -/
def fresh (d : List Int) (k : Nat) : Bool := decide (k = 0) || decide (at_ d k ≠ at_ d (k - 1))
/-- The cuts and densities of a normal cake, of the first intervals. -/
def nC (c d : List Int) : Nat → List Int
  | 0 => []
  | k + 1 => if fresh d k then nC c d k ++ [at_ c k] else nC c d k
def nD (d : List Int) : Nat → List Int
  | 0 => []
  | k + 1 => if fresh d k then nD d k ++ [at_ d k] else nD d k
theorem nC_yes {c d : List Int} {k : Nat} (h : fresh d k = true) : nC c d (k + 1) = nC c d k ++ [at_ c k] := by
  show (if fresh d k then _ else _) = _
  rw [if_pos h]
theorem nC_no {c d : List Int} {k : Nat} (h : fresh d k = false) : nC c d (k + 1) = nC c d k := by
  show (if fresh d k then _ else _) = _
  rw [if_neg (by rw [h]; simp)]
theorem nD_yes {d : List Int} {k : Nat} (h : fresh d k = true) : nD d (k + 1) = nD d k ++ [at_ d k] := by
  show (if fresh d k then _ else _) = _
  rw [if_pos h]
theorem nD_no {d : List Int} {k : Nat} (h : fresh d k = false) : nD d (k + 1) = nD d k := by
  show (if fresh d k then _ else _) = _
  rw [if_neg (by rw [h]; simp)]
theorem nC_len (c d : List Int) : ∀ k, (nC c d k).length ≤ k
  | 0 => Nat.le_refl _
  | k + 1 => by
    have := nC_len c d k
    unfold nC
    split
    · rw [List.length_append]; simp; omega
    · omega
/-- Normal's cake (length, cuts, densities) and error. -/
def norS (len : Int) (c d : List Int) : Int × List Int × List Int × Int :=
  if chk len c d = 0 then (len, nC c d d.length ++ [len], nD d d.length, 0) else (0, [], [], chk len c d)
end Ck

end Go.Proofs.YtmfnlapoefihkaaGreat

