/-
  No cell of these rows narrows 'for every input' (looked for: loops, veiled, ifaces, maps, wideKeys, modest, calm, conditions, laid).
  DERIVED. THE GIVEN ROWS OF THIS SEAT. 4 by the template 'for every input the law returns true; each argument reads behind the call as it read before'; 0 by the template 'total and deterministic' (their statements: YtniagnldiegamaaGreatTotals.lean).
  GIVEN WITH THE SEED: the statements are not yours to turn. If you find one false, say at which input.
  Laid BY PROGRAM, IN A SANDBOX (cutbox-rows.mjs): the forced cells as the released guide's own fill.sh prints them over the translation 1785a1e2c3c0443a… (all of the seat's roots in one cut). By AI agents, Wed Nov 11 2026. No macro, syntax, notation, axiom, sorry.
-/
import Derived.Test.YtniagnldiegamaaGreatChecked
import GoSem.Claim
import GoSem.ClaimJoined
import GoSem.ClaimMapViews
import Derived.JoinedTies
import Derived.KernelRfl
namespace Go.Proofs.YtniagnldiegamaaGreat
/- THE CELL 'sum', in the pinned program and in every row, IS THE sha256 OF THE DUMP (.gsa) THAT YtniagnldiegamaaGreatProg.lean LOADS. Nothing in Lean hashes anything: it is a label: what it is worth is what the hold of that sum in a sandbox is worth. -/
noncomputable def Tryz.pinned : Pinned := { name := "ytniagnldiegamaagreat", sum := "1785a1e2c3c0443a1a3fbe47baf105e84e93b9eb7fbb487b94a8eb2abf5d6cb6", checked := Tryz.checked }
namespace Rows
def none {H : Type} : Left H := { results := [], args := [] }

/-- 'parcenerlaw07.ChooseRuns': WHATEVER THE INPUT: true; the input reads as it did. -/
def chooseRunsSpec : ChangeSpec := { name := "chooseRuns", fn := fun _ => fun
  | [d1, d2] => { results := [.lit (.bool true)], args := [d1, d2] }
  | _ => none }
def chooseRunsRow : OpenClaim := { program := "ytniagnldiegamaagreat", sum := "1785a1e2c3c0443a1a3fbe47baf105e84e93b9eb7fbb487b94a8eb2abf5d6cb6", func := "parcener/parcenerlaw07.ChooseRuns", spec := "chooseRuns", inPlace := ["math/bits.Add64", "math/bits.Sub64"], unfollowed := true, recurses := true, named := ["math/bits.divideError", "math/bits.overflowError"], apart := false }
def ChooseRunsSaid : Prop := chooseRunsRow.holds Tryz.pinned (OpenSpec.ofChange chooseRunsSpec)

/-- ITS FALSE NEIGHBOUR: 'it returns false'. Refute it at one input. -/
def chooseRunsWrong : ChangeSpec := { name := "chooseRuns", fn := fun _ => fun
  | [d1, d2] => { results := [.lit (.bool false)], args := [d1, d2] }
  | _ => none }
def ChooseRunsWrongFalsely : Prop := chooseRunsRow.holds Tryz.pinned (OpenSpec.ofChange chooseRunsWrong)

/-- 'parcenerlaw08.TrimRuns': WHATEVER THE INPUT: true; the input reads as it did. -/
def trimRunsSpec : ChangeSpec := { name := "trimRuns", fn := fun _ => fun
  | [d1, d2] => { results := [.lit (.bool true)], args := [d1, d2] }
  | _ => none }
def trimRunsRow : OpenClaim := { program := "ytniagnldiegamaagreat", sum := "1785a1e2c3c0443a1a3fbe47baf105e84e93b9eb7fbb487b94a8eb2abf5d6cb6", func := "parcener/parcenerlaw08.TrimRuns", spec := "trimRuns", inPlace := ["math/bits.Add64", "math/bits.Sub64"], unfollowed := true, recurses := true, named := ["math/bits.divideError", "math/bits.overflowError"], apart := false }
def TrimRunsSaid : Prop := trimRunsRow.holds Tryz.pinned (OpenSpec.ofChange trimRunsSpec)

/-- ITS FALSE NEIGHBOUR: 'it returns false'. Refute it at one input. -/
def trimRunsWrong : ChangeSpec := { name := "trimRuns", fn := fun _ => fun
  | [d1, d2] => { results := [.lit (.bool false)], args := [d1, d2] }
  | _ => none }
def TrimRunsWrongFalsely : Prop := trimRunsRow.holds Tryz.pinned (OpenSpec.ofChange trimRunsWrong)

/-- 'parcenerlaw09.HalveRuns': WHATEVER THE INPUT: true; the input reads as it did. -/
def halveRunsSpec : ChangeSpec := { name := "halveRuns", fn := fun _ => fun
  | [d1, d2] => { results := [.lit (.bool true)], args := [d1, d2] }
  | _ => none }
def halveRunsRow : OpenClaim := { program := "ytniagnldiegamaagreat", sum := "1785a1e2c3c0443a1a3fbe47baf105e84e93b9eb7fbb487b94a8eb2abf5d6cb6", func := "parcener/parcenerlaw09.HalveRuns", spec := "halveRuns", inPlace := ["math/bits.Add64", "math/bits.Sub64"], unfollowed := true, recurses := true, named := ["math/bits.divideError", "math/bits.overflowError"], apart := false }
def HalveRunsSaid : Prop := halveRunsRow.holds Tryz.pinned (OpenSpec.ofChange halveRunsSpec)

/-- ITS FALSE NEIGHBOUR: 'it returns false'. Refute it at one input. -/
def halveRunsWrong : ChangeSpec := { name := "halveRuns", fn := fun _ => fun
  | [d1, d2] => { results := [.lit (.bool false)], args := [d1, d2] }
  | _ => none }
def HalveRunsWrongFalsely : Prop := halveRunsRow.holds Tryz.pinned (OpenSpec.ofChange halveRunsWrong)

/-- 'parcenerlaw11.KnifeSpans': WHATEVER THE INPUT: true; the input reads as it did. -/
def knifeSpansSpec : ChangeSpec := { name := "knifeSpans", fn := fun _ => fun
  | [d] => { results := [.lit (.bool true)], args := [d] }
  | _ => none }
def knifeSpansRow : OpenClaim := { program := "ytniagnldiegamaagreat", sum := "1785a1e2c3c0443a1a3fbe47baf105e84e93b9eb7fbb487b94a8eb2abf5d6cb6", func := "parcener/parcenerlaw11.KnifeSpans", spec := "knifeSpans", inPlace := ["math/bits.Add64", "math/bits.Sub64"], unfollowed := true, recurses := true, named := ["math/bits.divideError", "math/bits.overflowError"], apart := false }
def KnifeSpansSaid : Prop := knifeSpansRow.holds Tryz.pinned (OpenSpec.ofChange knifeSpansSpec)

/-- ITS FALSE NEIGHBOUR: 'it returns false'. Refute it at one input. -/
def knifeSpansWrong : ChangeSpec := { name := "knifeSpans", fn := fun _ => fun
  | [d] => { results := [.lit (.bool false)], args := [d] }
  | _ => none }
def KnifeSpansWrongFalsely : Prop := knifeSpansRow.holds Tryz.pinned (OpenSpec.ofChange knifeSpansWrong)

/- THE SECOND FORM. 'bulk': how many values and letters a reading holds, each counted each time it is reached (what is shared counts as often as it is met; a slice's spare places count too). A statement '..UptoSaid' is the law's where the arguments, and the package variables that the reading takes, are together of bulk at most 1048576: NARROWER than '..Said'. Prove '..Said' where nothing that the law and all that it calls make is longer than what came in: it says more and counts as full. Else prove '..UptoSaid'. A law counts once. -/
mutual
def uptoBulk {H : Type} : DataW H → Nat
  | .lit (.string bytes) => bytes.length + 1
  | .lit _ => 1
  | .nil => 1
  | .ptr d => uptoBulk d + 1
  | .slice elems spare => uptoBulkAll elems + uptoBulkAll spare + 1
  | .agg parts => uptoBulkAll parts + 1
  | .iface _ d => uptoBulk d + 1
  | .map entries => uptoBulkEntries entries + 1
  | .held _ => 1
def uptoBulkAll {H : Type} : List (DataW H) → Nat
  | [] => 0
  | d :: r => uptoBulk d + uptoBulkAll r
def uptoBulkEntries {H : Type} : List (Lit × DataW H) → Nat
  | [] => 0
  | x :: r => uptoBulkEntry x + uptoBulkEntries r
def uptoBulkEntry {H : Type} : Lit × DataW H → Nat
  | (.string bytes, d) => bytes.length + uptoBulk d + 1
  | (_, d) => uptoBulk d + 1
 end
def uptoSmall : (H : Type) → List (DataW H) → Bool := fun _ ds => decide (uptoBulkAll ds ≤ 1048576)
def OpenSpec.upto (s : _root_.Go.ChangeSpec) : _root_.Go.OpenSpec := { _root_.Go.OpenSpec.ofChange s with cond := some uptoSmall }

/-- 'parcenerlaw07.ChooseRuns', WHERE WHAT IT READS IS OF BULK AT MOST 1048576: true; the input reads as it did. -/
def chooseRunsUptoRow : OpenClaim := { program := "ytniagnldiegamaagreat", sum := "1785a1e2c3c0443a1a3fbe47baf105e84e93b9eb7fbb487b94a8eb2abf5d6cb6", func := "parcener/parcenerlaw07.ChooseRuns", spec := "chooseRuns", inPlace := ["math/bits.Add64", "math/bits.Sub64"], unfollowed := true, recurses := true, named := ["math/bits.divideError", "math/bits.overflowError"], apart := false, narrowed := true }
def ChooseRunsUptoSaid : Prop := chooseRunsUptoRow.holds Tryz.pinned (OpenSpec.upto chooseRunsSpec)

/-- 'parcenerlaw08.TrimRuns', WHERE WHAT IT READS IS OF BULK AT MOST 1048576: true; the input reads as it did. -/
def trimRunsUptoRow : OpenClaim := { program := "ytniagnldiegamaagreat", sum := "1785a1e2c3c0443a1a3fbe47baf105e84e93b9eb7fbb487b94a8eb2abf5d6cb6", func := "parcener/parcenerlaw08.TrimRuns", spec := "trimRuns", inPlace := ["math/bits.Add64", "math/bits.Sub64"], unfollowed := true, recurses := true, named := ["math/bits.divideError", "math/bits.overflowError"], apart := false, narrowed := true }
def TrimRunsUptoSaid : Prop := trimRunsUptoRow.holds Tryz.pinned (OpenSpec.upto trimRunsSpec)

/-- 'parcenerlaw09.HalveRuns', WHERE WHAT IT READS IS OF BULK AT MOST 1048576: true; the input reads as it did. -/
def halveRunsUptoRow : OpenClaim := { program := "ytniagnldiegamaagreat", sum := "1785a1e2c3c0443a1a3fbe47baf105e84e93b9eb7fbb487b94a8eb2abf5d6cb6", func := "parcener/parcenerlaw09.HalveRuns", spec := "halveRuns", inPlace := ["math/bits.Add64", "math/bits.Sub64"], unfollowed := true, recurses := true, named := ["math/bits.divideError", "math/bits.overflowError"], apart := false, narrowed := true }
def HalveRunsUptoSaid : Prop := halveRunsUptoRow.holds Tryz.pinned (OpenSpec.upto halveRunsSpec)

/-- 'parcenerlaw11.KnifeSpans', WHERE WHAT IT READS IS OF BULK AT MOST 1048576: true; the input reads as it did. -/
def knifeSpansUptoRow : OpenClaim := { program := "ytniagnldiegamaagreat", sum := "1785a1e2c3c0443a1a3fbe47baf105e84e93b9eb7fbb487b94a8eb2abf5d6cb6", func := "parcener/parcenerlaw11.KnifeSpans", spec := "knifeSpans", inPlace := ["math/bits.Add64", "math/bits.Sub64"], unfollowed := true, recurses := true, named := ["math/bits.divideError", "math/bits.overflowError"], apart := false, narrowed := true }
def KnifeSpansUptoSaid : Prop := knifeSpansUptoRow.holds Tryz.pinned (OpenSpec.upto knifeSpansSpec)

end Rows
end Go.Proofs.YtniagnldiegamaaGreat
