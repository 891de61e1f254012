/-
  No cell of these rows narrows 'for every input' (looked for: loops, veiled, ifaces, maps, wideKeys, modest, calm, conditions, laid).
  DERIVED. THE GIVEN ROWS OF THIS SEAT. 8 by the template 'for every input the law returns true; each argument reads behind the call as it read before'; 0 by the template 'total and deterministic' (their statements: YtncmffhoodfhjaaTotals.lean).
  GIVEN WITH THE SEED: the statements are not yours to turn. If you find one false, say at which input.
  Laid BY PROGRAM, IN A SANDBOX (cutbox-rows.mjs): the forced cells as the released guide's own fill.sh prints them over the translation 15f6442ba184e327… (all of the seat's roots in one cut). By AI agents, Wed Nov 11 2026. No macro, syntax, notation, axiom, sorry.
-/
import Derived.Test.YtncmffhoodfhjaaChecked
import GoSem.Claim
import GoSem.ClaimJoined
import GoSem.ClaimMapViews
import Derived.JoinedTies
import Derived.KernelRfl
namespace Go.Proofs.Ytncmffhoodfhjaa
/- THE CELL 'sum', in the pinned program and in every row, IS THE sha256 OF THE DUMP (.gsa) THAT YtncmffhoodfhjaaProg.lean LOADS. Nothing in Lean hashes anything: it is a label: what it is worth is what the hold of that sum in a sandbox is worth. -/
noncomputable def Try.pinned : Pinned := { name := "ytncmffhoodfhjaa", sum := "15f6442ba184e3270410ac37342be59afe6d652930c1d61ab4e8e411daa76ecd", checked := Try.checked }
namespace Rows
def none {H : Type} : Left H := { results := [], args := [] }

/-- 'parcenerlaw14.RoomRange': WHATEVER THE INPUT: true; the input reads as it did. -/
def roomRangeSpec : ChangeSpec := { name := "roomRange", fn := fun _ => fun
  | [d1, d2, d3] => { results := [.lit (.bool true)], args := [d1, d2, d3] }
  | _ => none }
def roomRangeRow : OpenClaim := { program := "ytncmffhoodfhjaa", sum := "15f6442ba184e3270410ac37342be59afe6d652930c1d61ab4e8e411daa76ecd", func := "parcener/parcenerlaw14.RoomRange", spec := "roomRange", unfollowed := true, recurses := true, apart := false }
def RoomRangeSaid : Prop := roomRangeRow.holds Try.pinned (OpenSpec.ofChange roomRangeSpec)

/-- ITS FALSE NEIGHBOUR: 'it returns false'. Refute it at one input. -/
def roomRangeWrong : ChangeSpec := { name := "roomRange", fn := fun _ => fun
  | [d1, d2, d3] => { results := [.lit (.bool false)], args := [d1, d2, d3] }
  | _ => none }
def RoomRangeWrongFalsely : Prop := roomRangeRow.holds Try.pinned (OpenSpec.ofChange roomRangeWrong)

/-- 'parcenerlaw14.RoomNames': WHATEVER THE INPUT: true; the input reads as it did. -/
def roomNamesSpec : ChangeSpec := { name := "roomNames", fn := fun _ => fun
  | [] => { results := [.lit (.bool true)], args := [] }
  | _ => none }
def roomNamesRow : OpenClaim := { program := "ytncmffhoodfhjaa", sum := "15f6442ba184e3270410ac37342be59afe6d652930c1d61ab4e8e411daa76ecd", func := "parcener/parcenerlaw14.RoomNames", spec := "roomNames", unfollowed := true, recurses := true, apart := false }
def RoomNamesSaid : Prop := roomNamesRow.holds Try.pinned (OpenSpec.ofChange roomNamesSpec)

/-- ITS FALSE NEIGHBOUR: 'it returns false'. Refute it at one input. -/
def roomNamesWrong : ChangeSpec := { name := "roomNames", fn := fun _ => fun
  | [] => { results := [.lit (.bool false)], args := [] }
  | _ => none }
def RoomNamesWrongFalsely : Prop := roomNamesRow.holds Try.pinned (OpenSpec.ofChange roomNamesWrong)

/-- 'parcenerlaw15.RentNames': WHATEVER THE INPUT: true; the input reads as it did. -/
def rentNamesSpec : ChangeSpec := { name := "rentNames", fn := fun _ => fun
  | [] => { results := [.lit (.bool true)], args := [] }
  | _ => none }
def rentNamesRow : OpenClaim := { program := "ytncmffhoodfhjaa", sum := "15f6442ba184e3270410ac37342be59afe6d652930c1d61ab4e8e411daa76ecd", func := "parcener/parcenerlaw15.RentNames", spec := "rentNames", inPlace := ["math/bits.Add64", "math/bits.Sub64"], unfollowed := true, recurses := true, named := ["math/bits.divideError", "math/bits.overflowError"], apart := false }
def RentNamesSaid : Prop := rentNamesRow.holds Try.pinned (OpenSpec.ofChange rentNamesSpec)

/-- ITS FALSE NEIGHBOUR: 'it returns false'. Refute it at one input. -/
def rentNamesWrong : ChangeSpec := { name := "rentNames", fn := fun _ => fun
  | [] => { results := [.lit (.bool false)], args := [] }
  | _ => none }
def RentNamesWrongFalsely : Prop := rentNamesRow.holds Try.pinned (OpenSpec.ofChange rentNamesWrong)

/-- 'parcenerlaw15.RentBest': WHATEVER THE INPUT: true; the input reads as it did. -/
def rentBestSpec : ChangeSpec := { name := "rentBest", fn := fun _ => fun
  | [d1, d2] => { results := [.lit (.bool true)], args := [d1, d2] }
  | _ => none }
def rentBestRow : OpenClaim := { program := "ytncmffhoodfhjaa", sum := "15f6442ba184e3270410ac37342be59afe6d652930c1d61ab4e8e411daa76ecd", func := "parcener/parcenerlaw15.RentBest", spec := "rentBest", inPlace := ["math/bits.Add64", "math/bits.Sub64"], unfollowed := true, recurses := true, named := ["math/bits.divideError", "math/bits.overflowError"], apart := false }
def RentBestSaid : Prop := rentBestRow.holds Try.pinned (OpenSpec.ofChange rentBestSpec)

/-- ITS FALSE NEIGHBOUR: 'it returns false'. Refute it at one input. -/
def rentBestWrong : ChangeSpec := { name := "rentBest", fn := fun _ => fun
  | [d1, d2] => { results := [.lit (.bool false)], args := [d1, d2] }
  | _ => none }
def RentBestWrongFalsely : Prop := rentBestRow.holds Try.pinned (OpenSpec.ofChange rentBestWrong)

/-- 'parcenerlaw15.RentCalm': WHATEVER THE INPUT: true; the input reads as it did. -/
def rentCalmSpec : ChangeSpec := { name := "rentCalm", fn := fun _ => fun
  | [d1, d2] => { results := [.lit (.bool true)], args := [d1, d2] }
  | _ => none }
def rentCalmRow : OpenClaim := { program := "ytncmffhoodfhjaa", sum := "15f6442ba184e3270410ac37342be59afe6d652930c1d61ab4e8e411daa76ecd", func := "parcener/parcenerlaw15.RentCalm", spec := "rentCalm", inPlace := ["math/bits.Add64", "math/bits.Sub64"], unfollowed := true, recurses := true, named := ["math/bits.divideError", "math/bits.overflowError"], apart := false }
def RentCalmSaid : Prop := rentCalmRow.holds Try.pinned (OpenSpec.ofChange rentCalmSpec)

/-- ITS FALSE NEIGHBOUR: 'it returns false'. Refute it at one input. -/
def rentCalmWrong : ChangeSpec := { name := "rentCalm", fn := fun _ => fun
  | [d1, d2] => { results := [.lit (.bool false)], args := [d1, d2] }
  | _ => none }
def RentCalmWrongFalsely : Prop := rentCalmRow.holds Try.pinned (OpenSpec.ofChange rentCalmWrong)

/-- 'parcenerlaw15.RentHeld': WHATEVER THE INPUT: true; the input reads as it did. -/
def rentHeldSpec : ChangeSpec := { name := "rentHeld", fn := fun _ => fun
  | [d1, d2] => { results := [.lit (.bool true)], args := [d1, d2] }
  | _ => none }
def rentHeldRow : OpenClaim := { program := "ytncmffhoodfhjaa", sum := "15f6442ba184e3270410ac37342be59afe6d652930c1d61ab4e8e411daa76ecd", func := "parcener/parcenerlaw15.RentHeld", spec := "rentHeld", inPlace := ["math/bits.Add64", "math/bits.Sub64"], unfollowed := true, recurses := true, named := ["math/bits.divideError", "math/bits.overflowError"], apart := false }
def RentHeldSaid : Prop := rentHeldRow.holds Try.pinned (OpenSpec.ofChange rentHeldSpec)

/-- ITS FALSE NEIGHBOUR: 'it returns false'. Refute it at one input. -/
def rentHeldWrong : ChangeSpec := { name := "rentHeld", fn := fun _ => fun
  | [d1, d2] => { results := [.lit (.bool false)], args := [d1, d2] }
  | _ => none }
def RentHeldWrongFalsely : Prop := rentHeldRow.holds Try.pinned (OpenSpec.ofChange rentHeldWrong)

/-- 'parcenerlaw15.RentRents': WHATEVER THE INPUT: true; the input reads as it did. -/
def rentRentsSpec : ChangeSpec := { name := "rentRents", fn := fun _ => fun
  | [d1, d2] => { results := [.lit (.bool true)], args := [d1, d2] }
  | _ => none }
def rentRentsRow : OpenClaim := { program := "ytncmffhoodfhjaa", sum := "15f6442ba184e3270410ac37342be59afe6d652930c1d61ab4e8e411daa76ecd", func := "parcener/parcenerlaw15.RentRents", spec := "rentRents", inPlace := ["math/bits.Add64", "math/bits.Sub64"], unfollowed := true, recurses := true, named := ["math/bits.divideError", "math/bits.overflowError"], apart := false }
def RentRentsSaid : Prop := rentRentsRow.holds Try.pinned (OpenSpec.ofChange rentRentsSpec)

/-- ITS FALSE NEIGHBOUR: 'it returns false'. Refute it at one input. -/
def rentRentsWrong : ChangeSpec := { name := "rentRents", fn := fun _ => fun
  | [d1, d2] => { results := [.lit (.bool false)], args := [d1, d2] }
  | _ => none }
def RentRentsWrongFalsely : Prop := rentRentsRow.holds Try.pinned (OpenSpec.ofChange rentRentsWrong)

/-- 'parcenertop.TopRent': WHATEVER THE INPUT: true; the input reads as it did. -/
def topRentSpec : ChangeSpec := { name := "topRent", fn := fun _ => fun
  | [d] => { results := [.lit (.bool true)], args := [d] }
  | _ => none }
def topRentRow : OpenClaim := { program := "ytncmffhoodfhjaa", sum := "15f6442ba184e3270410ac37342be59afe6d652930c1d61ab4e8e411daa76ecd", func := "parcener/parcenertop.TopRent", spec := "topRent", inPlace := ["math/bits.Add64", "math/bits.Sub64"], unfollowed := true, recurses := true, named := ["math/bits.divideError", "math/bits.overflowError"], apart := false }
def TopRentSaid : Prop := topRentRow.holds Try.pinned (OpenSpec.ofChange topRentSpec)

/-- ITS FALSE NEIGHBOUR: 'it returns false'. Refute it at one input. -/
def topRentWrong : ChangeSpec := { name := "topRent", fn := fun _ => fun
  | [d] => { results := [.lit (.bool false)], args := [d] }
  | _ => none }
def TopRentWrongFalsely : Prop := topRentRow.holds Try.pinned (OpenSpec.ofChange topRentWrong)

/- THE SECOND FORM. 'bulk': how many values and letters a reading holds, each counted each time it is reached (what is shared counts as often as it is met; a slice's spare places count too). A statement '..UptoSaid' is the law's where the arguments, and the package variables that the reading takes, are together of bulk at most 1048576: NARROWER than '..Said'. Prove '..Said' where nothing that the law and all that it calls make is longer than what came in: it says more and counts as full. Else prove '..UptoSaid'. A law counts once. -/
mutual
def uptoBulk {H : Type} : DataW H → Nat
  | .lit (.string bytes) => bytes.length + 1
  | .lit _ => 1
  | .nil => 1
  | .ptr d => uptoBulk d + 1
  | .slice elems spare => uptoBulkAll elems + uptoBulkAll spare + 1
  | .agg parts => uptoBulkAll parts + 1
  | .iface _ d => uptoBulk d + 1
  | .map entries => uptoBulkEntries entries + 1
  | .held _ => 1
def uptoBulkAll {H : Type} : List (DataW H) → Nat
  | [] => 0
  | d :: r => uptoBulk d + uptoBulkAll r
def uptoBulkEntries {H : Type} : List (Lit × DataW H) → Nat
  | [] => 0
  | x :: r => uptoBulkEntry x + uptoBulkEntries r
def uptoBulkEntry {H : Type} : Lit × DataW H → Nat
  | (.string bytes, d) => bytes.length + uptoBulk d + 1
  | (_, d) => uptoBulk d + 1
 end
def uptoSmall : (H : Type) → List (DataW H) → Bool := fun _ ds => decide (uptoBulkAll ds ≤ 1048576)
def OpenSpec.upto (s : _root_.Go.ChangeSpec) : _root_.Go.OpenSpec := { _root_.Go.OpenSpec.ofChange s with cond := some uptoSmall }

/-- 'parcenerlaw14.RoomRange', WHERE WHAT IT READS IS OF BULK AT MOST 1048576: true; the input reads as it did. -/
def roomRangeUptoRow : OpenClaim := { program := "ytncmffhoodfhjaa", sum := "15f6442ba184e3270410ac37342be59afe6d652930c1d61ab4e8e411daa76ecd", func := "parcener/parcenerlaw14.RoomRange", spec := "roomRange", unfollowed := true, recurses := true, apart := false, narrowed := true }
def RoomRangeUptoSaid : Prop := roomRangeUptoRow.holds Try.pinned (OpenSpec.upto roomRangeSpec)

/-- 'parcenerlaw14.RoomNames', WHERE WHAT IT READS IS OF BULK AT MOST 1048576: true; the input reads as it did. -/
def roomNamesUptoRow : OpenClaim := { program := "ytncmffhoodfhjaa", sum := "15f6442ba184e3270410ac37342be59afe6d652930c1d61ab4e8e411daa76ecd", func := "parcener/parcenerlaw14.RoomNames", spec := "roomNames", unfollowed := true, recurses := true, apart := false, narrowed := true }
def RoomNamesUptoSaid : Prop := roomNamesUptoRow.holds Try.pinned (OpenSpec.upto roomNamesSpec)

/-- 'parcenerlaw15.RentNames', WHERE WHAT IT READS IS OF BULK AT MOST 1048576: true; the input reads as it did. -/
def rentNamesUptoRow : OpenClaim := { program := "ytncmffhoodfhjaa", sum := "15f6442ba184e3270410ac37342be59afe6d652930c1d61ab4e8e411daa76ecd", func := "parcener/parcenerlaw15.RentNames", spec := "rentNames", inPlace := ["math/bits.Add64", "math/bits.Sub64"], unfollowed := true, recurses := true, named := ["math/bits.divideError", "math/bits.overflowError"], apart := false, narrowed := true }
def RentNamesUptoSaid : Prop := rentNamesUptoRow.holds Try.pinned (OpenSpec.upto rentNamesSpec)

/-- 'parcenerlaw15.RentBest', WHERE WHAT IT READS IS OF BULK AT MOST 1048576: true; the input reads as it did. -/
def rentBestUptoRow : OpenClaim := { program := "ytncmffhoodfhjaa", sum := "15f6442ba184e3270410ac37342be59afe6d652930c1d61ab4e8e411daa76ecd", func := "parcener/parcenerlaw15.RentBest", spec := "rentBest", inPlace := ["math/bits.Add64", "math/bits.Sub64"], unfollowed := true, recurses := true, named := ["math/bits.divideError", "math/bits.overflowError"], apart := false, narrowed := true }
def RentBestUptoSaid : Prop := rentBestUptoRow.holds Try.pinned (OpenSpec.upto rentBestSpec)

/-- 'parcenerlaw15.RentCalm', WHERE WHAT IT READS IS OF BULK AT MOST 1048576: true; the input reads as it did. -/
def rentCalmUptoRow : OpenClaim := { program := "ytncmffhoodfhjaa", sum := "15f6442ba184e3270410ac37342be59afe6d652930c1d61ab4e8e411daa76ecd", func := "parcener/parcenerlaw15.RentCalm", spec := "rentCalm", inPlace := ["math/bits.Add64", "math/bits.Sub64"], unfollowed := true, recurses := true, named := ["math/bits.divideError", "math/bits.overflowError"], apart := false, narrowed := true }
def RentCalmUptoSaid : Prop := rentCalmUptoRow.holds Try.pinned (OpenSpec.upto rentCalmSpec)

/-- 'parcenerlaw15.RentHeld', WHERE WHAT IT READS IS OF BULK AT MOST 1048576: true; the input reads as it did. -/
def rentHeldUptoRow : OpenClaim := { program := "ytncmffhoodfhjaa", sum := "15f6442ba184e3270410ac37342be59afe6d652930c1d61ab4e8e411daa76ecd", func := "parcener/parcenerlaw15.RentHeld", spec := "rentHeld", inPlace := ["math/bits.Add64", "math/bits.Sub64"], unfollowed := true, recurses := true, named := ["math/bits.divideError", "math/bits.overflowError"], apart := false, narrowed := true }
def RentHeldUptoSaid : Prop := rentHeldUptoRow.holds Try.pinned (OpenSpec.upto rentHeldSpec)

/-- 'parcenerlaw15.RentRents', WHERE WHAT IT READS IS OF BULK AT MOST 1048576: true; the input reads as it did. -/
def rentRentsUptoRow : OpenClaim := { program := "ytncmffhoodfhjaa", sum := "15f6442ba184e3270410ac37342be59afe6d652930c1d61ab4e8e411daa76ecd", func := "parcener/parcenerlaw15.RentRents", spec := "rentRents", inPlace := ["math/bits.Add64", "math/bits.Sub64"], unfollowed := true, recurses := true, named := ["math/bits.divideError", "math/bits.overflowError"], apart := false, narrowed := true }
def RentRentsUptoSaid : Prop := rentRentsUptoRow.holds Try.pinned (OpenSpec.upto rentRentsSpec)

/-- 'parcenertop.TopRent', WHERE WHAT IT READS IS OF BULK AT MOST 1048576: true; the input reads as it did. -/
def topRentUptoRow : OpenClaim := { program := "ytncmffhoodfhjaa", sum := "15f6442ba184e3270410ac37342be59afe6d652930c1d61ab4e8e411daa76ecd", func := "parcener/parcenertop.TopRent", spec := "topRent", inPlace := ["math/bits.Add64", "math/bits.Sub64"], unfollowed := true, recurses := true, named := ["math/bits.divideError", "math/bits.overflowError"], apart := false, narrowed := true }
def TopRentUptoSaid : Prop := topRentUptoRow.holds Try.pinned (OpenSpec.upto topRentSpec)

end Rows
end Go.Proofs.Ytncmffhoodfhjaa
