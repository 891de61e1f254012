/-
  No cell of these rows narrows 'for every input' (looked for: loops, veiled, ifaces, maps, wideKeys, modest, calm, conditions, laid).
  DERIVED. THE GIVEN ROWS OF THIS SEAT. 7 by the template 'for every input the law returns true; each argument reads behind the call as it read before'; 0 by the template 'total and deterministic' (their statements: YtkibglbccfjkpaaTotals.lean).
  GIVEN WITH THE SEED: the statements are not yours to turn. If you find one false, say at which input.
  Laid BY PROGRAM, IN A SANDBOX (cutbox-rows.mjs): the forced cells as the released guide's own fill.sh prints them over the translation de976bdaf56f6e19… (all of the seat's roots in one cut). By AI agents, Wed Nov 11 2026. No macro, syntax, notation, axiom, sorry.
-/
import Derived.Test.YtkibglbccfjkpaaChecked
import GoSem.Claim
import GoSem.ClaimJoined
import GoSem.ClaimMapViews
import Derived.JoinedTies
import Derived.KernelRfl
namespace Go.Proofs.Ytkibglbccfjkpaa
/- THE CELL 'sum', in the pinned program and in every row, IS THE sha256 OF THE DUMP (.gsa) THAT YtkibglbccfjkpaaProg.lean LOADS. Nothing in Lean hashes anything: it is a label: what it is worth is what the hold of that sum in a sandbox is worth. -/
noncomputable def Try.pinned : Pinned := { name := "ytkibglbccfjkpaa", sum := "de976bdaf56f6e19b9e4df3762ce97b3d02564addc9690c39f187092fa3f63e1", checked := Try.checked }
namespace Rows
def none {H : Type} : Left H := { results := [], args := [] }

/-- 'parcenerlaw13.AssignFinds': WHATEVER THE INPUT: true; the input reads as it did. -/
def assignFindsSpec : ChangeSpec := { name := "assignFinds", fn := fun _ => fun
  | [d] => { results := [.lit (.bool true)], args := [d] }
  | _ => none }
def assignFindsRow : OpenClaim := { program := "ytkibglbccfjkpaa", sum := "de976bdaf56f6e19b9e4df3762ce97b3d02564addc9690c39f187092fa3f63e1", func := "parcener/parcenerlaw13.AssignFinds", spec := "assignFinds", unfollowed := true, recurses := true, apart := false }
def AssignFindsSaid : Prop := assignFindsRow.holds Try.pinned (OpenSpec.ofChange assignFindsSpec)

/-- ITS FALSE NEIGHBOUR: 'it returns false'. Refute it at one input. -/
def assignFindsWrong : ChangeSpec := { name := "assignFinds", fn := fun _ => fun
  | [d] => { results := [.lit (.bool false)], args := [d] }
  | _ => none }
def AssignFindsWrongFalsely : Prop := assignFindsRow.holds Try.pinned (OpenSpec.ofChange assignFindsWrong)

/-- 'parcenerlaw13.AssignAsks': WHATEVER THE INPUT: true; the input reads as it did. -/
def assignAsksSpec : ChangeSpec := { name := "assignAsks", fn := fun _ => fun
  | [d1, d2, d3] => { results := [.lit (.bool true)], args := [d1, d2, d3] }
  | _ => none }
def assignAsksRow : OpenClaim := { program := "ytkibglbccfjkpaa", sum := "de976bdaf56f6e19b9e4df3762ce97b3d02564addc9690c39f187092fa3f63e1", func := "parcener/parcenerlaw13.AssignAsks", spec := "assignAsks", unfollowed := true, recurses := true, apart := false }
def AssignAsksSaid : Prop := assignAsksRow.holds Try.pinned (OpenSpec.ofChange assignAsksSpec)

/-- ITS FALSE NEIGHBOUR: 'it returns false'. Refute it at one input. -/
def assignAsksWrong : ChangeSpec := { name := "assignAsks", fn := fun _ => fun
  | [d1, d2, d3] => { results := [.lit (.bool false)], args := [d1, d2, d3] }
  | _ => none }
def AssignAsksWrongFalsely : Prop := assignAsksRow.holds Try.pinned (OpenSpec.ofChange assignAsksWrong)

/-- 'parcenerlaw13.AssignNames': WHATEVER THE INPUT: true; the input reads as it did. -/
def assignNamesSpec : ChangeSpec := { name := "assignNames", fn := fun _ => fun
  | [] => { results := [.lit (.bool true)], args := [] }
  | _ => none }
def assignNamesRow : OpenClaim := { program := "ytkibglbccfjkpaa", sum := "de976bdaf56f6e19b9e4df3762ce97b3d02564addc9690c39f187092fa3f63e1", func := "parcener/parcenerlaw13.AssignNames", spec := "assignNames", unfollowed := true, recurses := true, apart := false }
def AssignNamesSaid : Prop := assignNamesRow.holds Try.pinned (OpenSpec.ofChange assignNamesSpec)

/-- ITS FALSE NEIGHBOUR: 'it returns false'. Refute it at one input. -/
def assignNamesWrong : ChangeSpec := { name := "assignNames", fn := fun _ => fun
  | [] => { results := [.lit (.bool false)], args := [] }
  | _ => none }
def AssignNamesWrongFalsely : Prop := assignNamesRow.holds Try.pinned (OpenSpec.ofChange assignNamesWrong)

/-- 'parcenerlaw13.AssignBest': WHATEVER THE INPUT: true; the input reads as it did. -/
def assignBestSpec : ChangeSpec := { name := "assignBest", fn := fun _ => fun
  | [d1, d2, d3] => { results := [.lit (.bool true)], args := [d1, d2, d3] }
  | _ => none }
def assignBestRow : OpenClaim := { program := "ytkibglbccfjkpaa", sum := "de976bdaf56f6e19b9e4df3762ce97b3d02564addc9690c39f187092fa3f63e1", func := "parcener/parcenerlaw13.AssignBest", spec := "assignBest", unfollowed := true, recurses := true, apart := false }
def AssignBestSaid : Prop := assignBestRow.holds Try.pinned (OpenSpec.ofChange assignBestSpec)

/-- ITS FALSE NEIGHBOUR: 'it returns false'. Refute it at one input. -/
def assignBestWrong : ChangeSpec := { name := "assignBest", fn := fun _ => fun
  | [d1, d2, d3] => { results := [.lit (.bool false)], args := [d1, d2, d3] }
  | _ => none }
def AssignBestWrongFalsely : Prop := assignBestRow.holds Try.pinned (OpenSpec.ofChange assignBestWrong)

/-- 'parcenerlaw13.AssignLeast': WHATEVER THE INPUT: true; the input reads as it did. -/
def assignLeastSpec : ChangeSpec := { name := "assignLeast", fn := fun _ => fun
  | [d1, d2, d3] => { results := [.lit (.bool true)], args := [d1, d2, d3] }
  | _ => none }
def assignLeastRow : OpenClaim := { program := "ytkibglbccfjkpaa", sum := "de976bdaf56f6e19b9e4df3762ce97b3d02564addc9690c39f187092fa3f63e1", func := "parcener/parcenerlaw13.AssignLeast", spec := "assignLeast", unfollowed := true, recurses := true, apart := false }
def AssignLeastSaid : Prop := assignLeastRow.holds Try.pinned (OpenSpec.ofChange assignLeastSpec)

/-- ITS FALSE NEIGHBOUR: 'it returns false'. Refute it at one input. -/
def assignLeastWrong : ChangeSpec := { name := "assignLeast", fn := fun _ => fun
  | [d1, d2, d3] => { results := [.lit (.bool false)], args := [d1, d2, d3] }
  | _ => none }
def AssignLeastWrongFalsely : Prop := assignLeastRow.holds Try.pinned (OpenSpec.ofChange assignLeastWrong)

/-- 'parcenerlaw13.AssignHarm': WHATEVER THE INPUT: true; the input reads as it did. -/
def assignHarmSpec : ChangeSpec := { name := "assignHarm", fn := fun _ => fun
  | [d] => { results := [.lit (.bool true)], args := [d] }
  | _ => none }
def assignHarmRow : OpenClaim := { program := "ytkibglbccfjkpaa", sum := "de976bdaf56f6e19b9e4df3762ce97b3d02564addc9690c39f187092fa3f63e1", func := "parcener/parcenerlaw13.AssignHarm", spec := "assignHarm", unfollowed := true, recurses := true, apart := false }
def AssignHarmSaid : Prop := assignHarmRow.holds Try.pinned (OpenSpec.ofChange assignHarmSpec)

/-- ITS FALSE NEIGHBOUR: 'it returns false'. Refute it at one input. -/
def assignHarmWrong : ChangeSpec := { name := "assignHarm", fn := fun _ => fun
  | [d] => { results := [.lit (.bool false)], args := [d] }
  | _ => none }
def AssignHarmWrongFalsely : Prop := assignHarmRow.holds Try.pinned (OpenSpec.ofChange assignHarmWrong)

/-- 'parcenerlaw13.AssignOrder': WHATEVER THE INPUT: true; the input reads as it did. -/
def assignOrderSpec : ChangeSpec := { name := "assignOrder", fn := fun _ => fun
  | [d1, d2, d3, d4] => { results := [.lit (.bool true)], args := [d1, d2, d3, d4] }
  | _ => none }
def assignOrderRow : OpenClaim := { program := "ytkibglbccfjkpaa", sum := "de976bdaf56f6e19b9e4df3762ce97b3d02564addc9690c39f187092fa3f63e1", func := "parcener/parcenerlaw13.AssignOrder", spec := "assignOrder", unfollowed := true, recurses := true, apart := false }
def AssignOrderSaid : Prop := assignOrderRow.holds Try.pinned (OpenSpec.ofChange assignOrderSpec)

/-- ITS FALSE NEIGHBOUR: 'it returns false'. Refute it at one input. -/
def assignOrderWrong : ChangeSpec := { name := "assignOrder", fn := fun _ => fun
  | [d1, d2, d3, d4] => { results := [.lit (.bool false)], args := [d1, d2, d3, d4] }
  | _ => none }
def AssignOrderWrongFalsely : Prop := assignOrderRow.holds Try.pinned (OpenSpec.ofChange assignOrderWrong)

/- THE SECOND FORM. 'bulk': how many values and letters a reading holds, each counted each time it is reached (what is shared counts as often as it is met; a slice's spare places count too). A statement '..UptoSaid' is the law's where the arguments, and the package variables that the reading takes, are together of bulk at most 1048576: NARROWER than '..Said'. Prove '..Said' where nothing that the law and all that it calls make is longer than what came in: it says more and counts as full. Else prove '..UptoSaid'. A law counts once. -/
mutual
def uptoBulk {H : Type} : DataW H → Nat
  | .lit (.string bytes) => bytes.length + 1
  | .lit _ => 1
  | .nil => 1
  | .ptr d => uptoBulk d + 1
  | .slice elems spare => uptoBulkAll elems + uptoBulkAll spare + 1
  | .agg parts => uptoBulkAll parts + 1
  | .iface _ d => uptoBulk d + 1
  | .map entries => uptoBulkEntries entries + 1
  | .held _ => 1
def uptoBulkAll {H : Type} : List (DataW H) → Nat
  | [] => 0
  | d :: r => uptoBulk d + uptoBulkAll r
def uptoBulkEntries {H : Type} : List (Lit × DataW H) → Nat
  | [] => 0
  | x :: r => uptoBulkEntry x + uptoBulkEntries r
def uptoBulkEntry {H : Type} : Lit × DataW H → Nat
  | (.string bytes, d) => bytes.length + uptoBulk d + 1
  | (_, d) => uptoBulk d + 1
 end
def uptoSmall : (H : Type) → List (DataW H) → Bool := fun _ ds => decide (uptoBulkAll ds ≤ 1048576)
def OpenSpec.upto (s : _root_.Go.ChangeSpec) : _root_.Go.OpenSpec := { _root_.Go.OpenSpec.ofChange s with cond := some uptoSmall }

/-- 'parcenerlaw13.AssignFinds', WHERE WHAT IT READS IS OF BULK AT MOST 1048576: true; the input reads as it did. -/
def assignFindsUptoRow : OpenClaim := { program := "ytkibglbccfjkpaa", sum := "de976bdaf56f6e19b9e4df3762ce97b3d02564addc9690c39f187092fa3f63e1", func := "parcener/parcenerlaw13.AssignFinds", spec := "assignFinds", unfollowed := true, recurses := true, apart := false, narrowed := true }
def AssignFindsUptoSaid : Prop := assignFindsUptoRow.holds Try.pinned (OpenSpec.upto assignFindsSpec)

/-- 'parcenerlaw13.AssignAsks', WHERE WHAT IT READS IS OF BULK AT MOST 1048576: true; the input reads as it did. -/
def assignAsksUptoRow : OpenClaim := { program := "ytkibglbccfjkpaa", sum := "de976bdaf56f6e19b9e4df3762ce97b3d02564addc9690c39f187092fa3f63e1", func := "parcener/parcenerlaw13.AssignAsks", spec := "assignAsks", unfollowed := true, recurses := true, apart := false, narrowed := true }
def AssignAsksUptoSaid : Prop := assignAsksUptoRow.holds Try.pinned (OpenSpec.upto assignAsksSpec)

/-- 'parcenerlaw13.AssignNames', WHERE WHAT IT READS IS OF BULK AT MOST 1048576: true; the input reads as it did. -/
def assignNamesUptoRow : OpenClaim := { program := "ytkibglbccfjkpaa", sum := "de976bdaf56f6e19b9e4df3762ce97b3d02564addc9690c39f187092fa3f63e1", func := "parcener/parcenerlaw13.AssignNames", spec := "assignNames", unfollowed := true, recurses := true, apart := false, narrowed := true }
def AssignNamesUptoSaid : Prop := assignNamesUptoRow.holds Try.pinned (OpenSpec.upto assignNamesSpec)

/-- 'parcenerlaw13.AssignBest', WHERE WHAT IT READS IS OF BULK AT MOST 1048576: true; the input reads as it did. -/
def assignBestUptoRow : OpenClaim := { program := "ytkibglbccfjkpaa", sum := "de976bdaf56f6e19b9e4df3762ce97b3d02564addc9690c39f187092fa3f63e1", func := "parcener/parcenerlaw13.AssignBest", spec := "assignBest", unfollowed := true, recurses := true, apart := false, narrowed := true }
def AssignBestUptoSaid : Prop := assignBestUptoRow.holds Try.pinned (OpenSpec.upto assignBestSpec)

/-- 'parcenerlaw13.AssignLeast', WHERE WHAT IT READS IS OF BULK AT MOST 1048576: true; the input reads as it did. -/
def assignLeastUptoRow : OpenClaim := { program := "ytkibglbccfjkpaa", sum := "de976bdaf56f6e19b9e4df3762ce97b3d02564addc9690c39f187092fa3f63e1", func := "parcener/parcenerlaw13.AssignLeast", spec := "assignLeast", unfollowed := true, recurses := true, apart := false, narrowed := true }
def AssignLeastUptoSaid : Prop := assignLeastUptoRow.holds Try.pinned (OpenSpec.upto assignLeastSpec)

/-- 'parcenerlaw13.AssignHarm', WHERE WHAT IT READS IS OF BULK AT MOST 1048576: true; the input reads as it did. -/
def assignHarmUptoRow : OpenClaim := { program := "ytkibglbccfjkpaa", sum := "de976bdaf56f6e19b9e4df3762ce97b3d02564addc9690c39f187092fa3f63e1", func := "parcener/parcenerlaw13.AssignHarm", spec := "assignHarm", unfollowed := true, recurses := true, apart := false, narrowed := true }
def AssignHarmUptoSaid : Prop := assignHarmUptoRow.holds Try.pinned (OpenSpec.upto assignHarmSpec)

/-- 'parcenerlaw13.AssignOrder', WHERE WHAT IT READS IS OF BULK AT MOST 1048576: true; the input reads as it did. -/
def assignOrderUptoRow : OpenClaim := { program := "ytkibglbccfjkpaa", sum := "de976bdaf56f6e19b9e4df3762ce97b3d02564addc9690c39f187092fa3f63e1", func := "parcener/parcenerlaw13.AssignOrder", spec := "assignOrder", unfollowed := true, recurses := true, apart := false, narrowed := true }
def AssignOrderUptoSaid : Prop := assignOrderUptoRow.holds Try.pinned (OpenSpec.upto assignOrderSpec)

end Rows
end Go.Proofs.Ytkibglbccfjkpaa
