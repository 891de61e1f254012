/-
  No cell of these rows narrows 'for every input' (looked for: loops, veiled, ifaces, maps, wideKeys, modest, calm, conditions, laid).
  DERIVED. THE GIVEN ROWS OF THIS SEAT. 6 by the template 'for every input the law returns true; each argument reads behind the call as it read before'; 0 by the template 'total and deterministic' (their statements: YtpiolhjiflohgaaTotals.lean).
  GIVEN WITH THE SEED: the statements are not yours to turn. If you find one false, say at which input.
  Laid BY PROGRAM, IN A SANDBOX (cutbox-rows.mjs): the forced cells as the released guide's own fill.sh prints them over the translation 62ce033af7c667b3… (all of the seat's roots in one cut). By AI agents, Wed Nov 11 2026. No macro, syntax, notation, axiom, sorry.
-/
import Derived.Test.YtpiolhjiflohgaaChecked
import GoSem.Claim
import GoSem.ClaimJoined
import GoSem.ClaimMapViews
import Derived.JoinedTies
import Derived.KernelRfl
namespace Go.Proofs.Ytpiolhjiflohgaa
/- THE CELL 'sum', in the pinned program and in every row, IS THE sha256 OF THE DUMP (.gsa) THAT YtpiolhjiflohgaaProg.lean LOADS. Nothing in Lean hashes anything: it is a label: what it is worth is what the hold of that sum in a sandbox is worth. -/
noncomputable def Try.pinned : Pinned := { name := "ytpiolhjiflohgaa", sum := "62ce033af7c667b333968af57c2d7362288bedeb5bd1dffd9e2dbc3624cf66de", checked := Try.checked }
namespace Rows
def none {H : Type} : Left H := { results := [], args := [] }

/-- 'parcenerlaw14.RoomFinds': WHATEVER THE INPUT: true; the input reads as it did. -/
def roomFindsSpec : ChangeSpec := { name := "roomFinds", fn := fun _ => fun
  | [d1, d2] => { results := [.lit (.bool true)], args := [d1, d2] }
  | _ => none }
def roomFindsRow : OpenClaim := { program := "ytpiolhjiflohgaa", sum := "62ce033af7c667b333968af57c2d7362288bedeb5bd1dffd9e2dbc3624cf66de", func := "parcener/parcenerlaw14.RoomFinds", spec := "roomFinds", unfollowed := true, recurses := true, apart := false }
def RoomFindsSaid : Prop := roomFindsRow.holds Try.pinned (OpenSpec.ofChange roomFindsSpec)

/-- ITS FALSE NEIGHBOUR: 'it returns false'. Refute it at one input. -/
def roomFindsWrong : ChangeSpec := { name := "roomFinds", fn := fun _ => fun
  | [d1, d2] => { results := [.lit (.bool false)], args := [d1, d2] }
  | _ => none }
def RoomFindsWrongFalsely : Prop := roomFindsRow.holds Try.pinned (OpenSpec.ofChange roomFindsWrong)

/-- 'parcenerlaw14.RoomLeases': WHATEVER THE INPUT: true; the input reads as it did. -/
def roomLeasesSpec : ChangeSpec := { name := "roomLeases", fn := fun _ => fun
  | [d1, d2] => { results := [.lit (.bool true)], args := [d1, d2] }
  | _ => none }
def roomLeasesRow : OpenClaim := { program := "ytpiolhjiflohgaa", sum := "62ce033af7c667b333968af57c2d7362288bedeb5bd1dffd9e2dbc3624cf66de", func := "parcener/parcenerlaw14.RoomLeases", spec := "roomLeases", unfollowed := true, recurses := true, apart := false }
def RoomLeasesSaid : Prop := roomLeasesRow.holds Try.pinned (OpenSpec.ofChange roomLeasesSpec)

/-- ITS FALSE NEIGHBOUR: 'it returns false'. Refute it at one input. -/
def roomLeasesWrong : ChangeSpec := { name := "roomLeases", fn := fun _ => fun
  | [d1, d2] => { results := [.lit (.bool false)], args := [d1, d2] }
  | _ => none }
def RoomLeasesWrongFalsely : Prop := roomLeasesRow.holds Try.pinned (OpenSpec.ofChange roomLeasesWrong)

/-- 'parcenerlaw14.RoomNames': WHATEVER THE INPUT: true; the input reads as it did. -/
def roomNamesSpec : ChangeSpec := { name := "roomNames", fn := fun _ => fun
  | [] => { results := [.lit (.bool true)], args := [] }
  | _ => none }
def roomNamesRow : OpenClaim := { program := "ytpiolhjiflohgaa", sum := "62ce033af7c667b333968af57c2d7362288bedeb5bd1dffd9e2dbc3624cf66de", func := "parcener/parcenerlaw14.RoomNames", spec := "roomNames", unfollowed := true, recurses := true, apart := false }
def RoomNamesSaid : Prop := roomNamesRow.holds Try.pinned (OpenSpec.ofChange roomNamesSpec)

/-- ITS FALSE NEIGHBOUR: 'it returns false'. Refute it at one input. -/
def roomNamesWrong : ChangeSpec := { name := "roomNames", fn := fun _ => fun
  | [] => { results := [.lit (.bool false)], args := [] }
  | _ => none }
def RoomNamesWrongFalsely : Prop := roomNamesRow.holds Try.pinned (OpenSpec.ofChange roomNamesWrong)

/-- 'parcenerlaw14.RoomFree': WHATEVER THE INPUT: true; the input reads as it did. -/
def roomFreeSpec : ChangeSpec := { name := "roomFree", fn := fun _ => fun
  | [d1, d2] => { results := [.lit (.bool true)], args := [d1, d2] }
  | _ => none }
def roomFreeRow : OpenClaim := { program := "ytpiolhjiflohgaa", sum := "62ce033af7c667b333968af57c2d7362288bedeb5bd1dffd9e2dbc3624cf66de", func := "parcener/parcenerlaw14.RoomFree", spec := "roomFree", unfollowed := true, recurses := true, apart := false }
def RoomFreeSaid : Prop := roomFreeRow.holds Try.pinned (OpenSpec.ofChange roomFreeSpec)

/-- ITS FALSE NEIGHBOUR: 'it returns false'. Refute it at one input. -/
def roomFreeWrong : ChangeSpec := { name := "roomFree", fn := fun _ => fun
  | [d1, d2] => { results := [.lit (.bool false)], args := [d1, d2] }
  | _ => none }
def RoomFreeWrongFalsely : Prop := roomFreeRow.holds Try.pinned (OpenSpec.ofChange roomFreeWrong)

/-- 'parcenerlaw14.RoomRange': WHATEVER THE INPUT: true; the input reads as it did. -/
def roomRangeSpec : ChangeSpec := { name := "roomRange", fn := fun _ => fun
  | [d1, d2, d3] => { results := [.lit (.bool true)], args := [d1, d2, d3] }
  | _ => none }
def roomRangeRow : OpenClaim := { program := "ytpiolhjiflohgaa", sum := "62ce033af7c667b333968af57c2d7362288bedeb5bd1dffd9e2dbc3624cf66de", func := "parcener/parcenerlaw14.RoomRange", spec := "roomRange", unfollowed := true, recurses := true, apart := false }
def RoomRangeSaid : Prop := roomRangeRow.holds Try.pinned (OpenSpec.ofChange roomRangeSpec)

/-- ITS FALSE NEIGHBOUR: 'it returns false'. Refute it at one input. -/
def roomRangeWrong : ChangeSpec := { name := "roomRange", fn := fun _ => fun
  | [d1, d2, d3] => { results := [.lit (.bool false)], args := [d1, d2, d3] }
  | _ => none }
def RoomRangeWrongFalsely : Prop := roomRangeRow.holds Try.pinned (OpenSpec.ofChange roomRangeWrong)

/-- 'parcenerlaw14.RoomRents': WHATEVER THE INPUT: true; the input reads as it did. -/
def roomRentsSpec : ChangeSpec := { name := "roomRents", fn := fun _ => fun
  | [d1, d2, d3] => { results := [.lit (.bool true)], args := [d1, d2, d3] }
  | _ => none }
def roomRentsRow : OpenClaim := { program := "ytpiolhjiflohgaa", sum := "62ce033af7c667b333968af57c2d7362288bedeb5bd1dffd9e2dbc3624cf66de", func := "parcener/parcenerlaw14.RoomRents", spec := "roomRents", unfollowed := true, recurses := true, apart := false }
def RoomRentsSaid : Prop := roomRentsRow.holds Try.pinned (OpenSpec.ofChange roomRentsSpec)

/-- ITS FALSE NEIGHBOUR: 'it returns false'. Refute it at one input. -/
def roomRentsWrong : ChangeSpec := { name := "roomRents", fn := fun _ => fun
  | [d1, d2, d3] => { results := [.lit (.bool false)], args := [d1, d2, d3] }
  | _ => none }
def RoomRentsWrongFalsely : Prop := roomRentsRow.holds Try.pinned (OpenSpec.ofChange roomRentsWrong)

/- THE SECOND FORM. 'bulk': how many values and letters a reading holds, each counted each time it is reached (what is shared counts as often as it is met; a slice's spare places count too). A statement '..UptoSaid' is the law's where the arguments, and the package variables that the reading takes, are together of bulk at most 1048576: NARROWER than '..Said'. Prove '..Said' where nothing that the law and all that it calls make is longer than what came in: it says more and counts as full. Else prove '..UptoSaid'. A law counts once. -/
mutual
def uptoBulk {H : Type} : DataW H → Nat
  | .lit (.string bytes) => bytes.length + 1
  | .lit _ => 1
  | .nil => 1
  | .ptr d => uptoBulk d + 1
  | .slice elems spare => uptoBulkAll elems + uptoBulkAll spare + 1
  | .agg parts => uptoBulkAll parts + 1
  | .iface _ d => uptoBulk d + 1
  | .map entries => uptoBulkEntries entries + 1
  | .held _ => 1
def uptoBulkAll {H : Type} : List (DataW H) → Nat
  | [] => 0
  | d :: r => uptoBulk d + uptoBulkAll r
def uptoBulkEntries {H : Type} : List (Lit × DataW H) → Nat
  | [] => 0
  | x :: r => uptoBulkEntry x + uptoBulkEntries r
def uptoBulkEntry {H : Type} : Lit × DataW H → Nat
  | (.string bytes, d) => bytes.length + uptoBulk d + 1
  | (_, d) => uptoBulk d + 1
 end
def uptoSmall : (H : Type) → List (DataW H) → Bool := fun _ ds => decide (uptoBulkAll ds ≤ 1048576)
def OpenSpec.upto (s : _root_.Go.ChangeSpec) : _root_.Go.OpenSpec := { _root_.Go.OpenSpec.ofChange s with cond := some uptoSmall }

/-- 'parcenerlaw14.RoomFinds', WHERE WHAT IT READS IS OF BULK AT MOST 1048576: true; the input reads as it did. -/
def roomFindsUptoRow : OpenClaim := { program := "ytpiolhjiflohgaa", sum := "62ce033af7c667b333968af57c2d7362288bedeb5bd1dffd9e2dbc3624cf66de", func := "parcener/parcenerlaw14.RoomFinds", spec := "roomFinds", unfollowed := true, recurses := true, apart := false, narrowed := true }
def RoomFindsUptoSaid : Prop := roomFindsUptoRow.holds Try.pinned (OpenSpec.upto roomFindsSpec)

/-- 'parcenerlaw14.RoomLeases', WHERE WHAT IT READS IS OF BULK AT MOST 1048576: true; the input reads as it did. -/
def roomLeasesUptoRow : OpenClaim := { program := "ytpiolhjiflohgaa", sum := "62ce033af7c667b333968af57c2d7362288bedeb5bd1dffd9e2dbc3624cf66de", func := "parcener/parcenerlaw14.RoomLeases", spec := "roomLeases", unfollowed := true, recurses := true, apart := false, narrowed := true }
def RoomLeasesUptoSaid : Prop := roomLeasesUptoRow.holds Try.pinned (OpenSpec.upto roomLeasesSpec)

/-- 'parcenerlaw14.RoomNames', WHERE WHAT IT READS IS OF BULK AT MOST 1048576: true; the input reads as it did. -/
def roomNamesUptoRow : OpenClaim := { program := "ytpiolhjiflohgaa", sum := "62ce033af7c667b333968af57c2d7362288bedeb5bd1dffd9e2dbc3624cf66de", func := "parcener/parcenerlaw14.RoomNames", spec := "roomNames", unfollowed := true, recurses := true, apart := false, narrowed := true }
def RoomNamesUptoSaid : Prop := roomNamesUptoRow.holds Try.pinned (OpenSpec.upto roomNamesSpec)

/-- 'parcenerlaw14.RoomFree', WHERE WHAT IT READS IS OF BULK AT MOST 1048576: true; the input reads as it did. -/
def roomFreeUptoRow : OpenClaim := { program := "ytpiolhjiflohgaa", sum := "62ce033af7c667b333968af57c2d7362288bedeb5bd1dffd9e2dbc3624cf66de", func := "parcener/parcenerlaw14.RoomFree", spec := "roomFree", unfollowed := true, recurses := true, apart := false, narrowed := true }
def RoomFreeUptoSaid : Prop := roomFreeUptoRow.holds Try.pinned (OpenSpec.upto roomFreeSpec)

/-- 'parcenerlaw14.RoomRange', WHERE WHAT IT READS IS OF BULK AT MOST 1048576: true; the input reads as it did. -/
def roomRangeUptoRow : OpenClaim := { program := "ytpiolhjiflohgaa", sum := "62ce033af7c667b333968af57c2d7362288bedeb5bd1dffd9e2dbc3624cf66de", func := "parcener/parcenerlaw14.RoomRange", spec := "roomRange", unfollowed := true, recurses := true, apart := false, narrowed := true }
def RoomRangeUptoSaid : Prop := roomRangeUptoRow.holds Try.pinned (OpenSpec.upto roomRangeSpec)

/-- 'parcenerlaw14.RoomRents', WHERE WHAT IT READS IS OF BULK AT MOST 1048576: true; the input reads as it did. -/
def roomRentsUptoRow : OpenClaim := { program := "ytpiolhjiflohgaa", sum := "62ce033af7c667b333968af57c2d7362288bedeb5bd1dffd9e2dbc3624cf66de", func := "parcener/parcenerlaw14.RoomRents", spec := "roomRents", unfollowed := true, recurses := true, apart := false, narrowed := true }
def RoomRentsUptoSaid : Prop := roomRentsUptoRow.holds Try.pinned (OpenSpec.upto roomRentsSpec)

end Rows
end Go.Proofs.Ytpiolhjiflohgaa
