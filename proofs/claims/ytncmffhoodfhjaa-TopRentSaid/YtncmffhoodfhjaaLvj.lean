/- RoomLeases' walk. -/
import Derived.Test.YtncmffhoodfhjaaYm
namespace Go.Proofs.Ytncmffhoodfhjaa
open Go.RowKit
namespace As
theorem gnS_le (V : List (List Int)) (R : Int) (xs ps : List Int) (D : Int) : (gnS V R xs ps D).length ≤ maxLen := by
  unfold gnS
  by_cases h : vld V R xs ps D = 0
  · rw [if_pos h, gnl_len]
    have := (vld_zero h).1.n6
    unfold maxLen; omega
  · rw [if_neg h]; exact Nat.zero_le _
theorem enS_le (V : List (List Int)) (R : Int) (xs ps : List Int) (D : Int) : (enS V R xs ps D).length ≤ maxLen := by
  unfold enS
  by_cases h : vld V R xs ps D = 0
  · rw [if_pos h]
    have h6 := (vld_zero h).1.n6
    have := envl_le h6 (xs.map Int.toNat) ps D V.length
    unfold maxLen; omega
  · rw [if_neg h]; exact Nat.zero_le _
end As
end Go.Proofs.Ytncmffhoodfhjaa
