/-
  No cell of these rows narrows 'for every input' (looked for: loops, veiled, ifaces, maps, wideKeys, modest, calm, conditions, laid).
  DERIVED. THE GIVEN ROWS OF THIS SEAT. 5 by the template 'for every input the law returns true; each argument reads behind the call as it read before'; 0 by the template 'total and deterministic' (their statements: YtnnpmegknlgkoaaTotals.lean).
  GIVEN WITH THE SEED: the statements are not yours to turn. If you find one false, say at which input.
  Laid BY PROGRAM, IN A SANDBOX (cutbox-rows.mjs): the forced cells as the released guide's own fill.sh prints them over the translation fa3b032d3cbe295c… (all of the seat's roots in one cut). By AI agents, Wed Nov 11 2026. No macro, syntax, notation, axiom, sorry.
-/
import Derived.Test.YtnnpmegknlgkoaaChecked
import GoSem.Claim
import GoSem.ClaimJoined
import GoSem.ClaimMapViews
import Derived.JoinedTies
import Derived.KernelRfl
namespace Go.Proofs.Ytnnpmegknlgkoaa
/- THE CELL 'sum', in the pinned program and in every row, IS THE sha256 OF THE DUMP (.gsa) THAT YtnnpmegknlgkoaaProg.lean LOADS. Nothing in Lean hashes anything: it is a label: what it is worth is what the hold of that sum in a sandbox is worth. -/
noncomputable def Try.pinned : Pinned := { name := "ytnnpmegknlgkoaa", sum := "fa3b032d3cbe295c25594b9b2a3ecb74c84af643458326cbf18398ee965ec549", checked := Try.checked }
namespace Rows
def none {H : Type} : Left H := { results := [], args := [] }

/-- 'parcenerlaw03.PieceNames': WHATEVER THE INPUT: true; the input reads as it did. -/
def pieceNamesSpec : ChangeSpec := { name := "pieceNames", fn := fun _ => fun
  | [] => { results := [.lit (.bool true)], args := [] }
  | _ => none }
def pieceNamesRow : OpenClaim := { program := "ytnnpmegknlgkoaa", sum := "fa3b032d3cbe295c25594b9b2a3ecb74c84af643458326cbf18398ee965ec549", func := "parcener/parcenerlaw03.PieceNames", spec := "pieceNames", inPlace := ["math/bits.Add64", "math/bits.Sub64"], unfollowed := true, recurses := true, named := ["math/bits.divideError", "math/bits.overflowError"], apart := false }
def PieceNamesSaid : Prop := pieceNamesRow.holds Try.pinned (OpenSpec.ofChange pieceNamesSpec)

/-- ITS FALSE NEIGHBOUR: 'it returns false'. Refute it at one input. -/
def pieceNamesWrong : ChangeSpec := { name := "pieceNames", fn := fun _ => fun
  | [] => { results := [.lit (.bool false)], args := [] }
  | _ => none }
def PieceNamesWrongFalsely : Prop := pieceNamesRow.holds Try.pinned (OpenSpec.ofChange pieceNamesWrong)

/-- 'parcenerlaw04.AskNames': WHATEVER THE INPUT: true; the input reads as it did. -/
def askNamesSpec : ChangeSpec := { name := "askNames", fn := fun _ => fun
  | [] => { results := [.lit (.bool true)], args := [] }
  | _ => none }
def askNamesRow : OpenClaim := { program := "ytnnpmegknlgkoaa", sum := "fa3b032d3cbe295c25594b9b2a3ecb74c84af643458326cbf18398ee965ec549", func := "parcener/parcenerlaw04.AskNames", spec := "askNames", inPlace := ["math/bits.Add64", "math/bits.Sub64"], unfollowed := true, recurses := true, named := ["math/bits.divideError", "math/bits.overflowError"], apart := false }
def AskNamesSaid : Prop := askNamesRow.holds Try.pinned (OpenSpec.ofChange askNamesSpec)

/-- ITS FALSE NEIGHBOUR: 'it returns false'. Refute it at one input. -/
def askNamesWrong : ChangeSpec := { name := "askNames", fn := fun _ => fun
  | [] => { results := [.lit (.bool false)], args := [] }
  | _ => none }
def AskNamesWrongFalsely : Prop := askNamesRow.holds Try.pinned (OpenSpec.ofChange askNamesWrong)

/-- 'parcenerlaw07.ChooseNames': WHATEVER THE INPUT: true; the input reads as it did. -/
def chooseNamesSpec : ChangeSpec := { name := "chooseNames", fn := fun _ => fun
  | [] => { results := [.lit (.bool true)], args := [] }
  | _ => none }
def chooseNamesRow : OpenClaim := { program := "ytnnpmegknlgkoaa", sum := "fa3b032d3cbe295c25594b9b2a3ecb74c84af643458326cbf18398ee965ec549", func := "parcener/parcenerlaw07.ChooseNames", spec := "chooseNames", inPlace := ["math/bits.Add64", "math/bits.Sub64"], unfollowed := true, recurses := true, named := ["math/bits.divideError", "math/bits.overflowError"], apart := false }
def ChooseNamesSaid : Prop := chooseNamesRow.holds Try.pinned (OpenSpec.ofChange chooseNamesSpec)

/-- ITS FALSE NEIGHBOUR: 'it returns false'. Refute it at one input. -/
def chooseNamesWrong : ChangeSpec := { name := "chooseNames", fn := fun _ => fun
  | [] => { results := [.lit (.bool false)], args := [] }
  | _ => none }
def ChooseNamesWrongFalsely : Prop := chooseNamesRow.holds Try.pinned (OpenSpec.ofChange chooseNamesWrong)

/-- 'parcenerlaw08.TrimNames': WHATEVER THE INPUT: true; the input reads as it did. -/
def trimNamesSpec : ChangeSpec := { name := "trimNames", fn := fun _ => fun
  | [] => { results := [.lit (.bool true)], args := [] }
  | _ => none }
def trimNamesRow : OpenClaim := { program := "ytnnpmegknlgkoaa", sum := "fa3b032d3cbe295c25594b9b2a3ecb74c84af643458326cbf18398ee965ec549", func := "parcener/parcenerlaw08.TrimNames", spec := "trimNames", inPlace := ["math/bits.Add64", "math/bits.Sub64"], unfollowed := true, recurses := true, named := ["math/bits.divideError", "math/bits.overflowError"], apart := false }
def TrimNamesSaid : Prop := trimNamesRow.holds Try.pinned (OpenSpec.ofChange trimNamesSpec)

/-- ITS FALSE NEIGHBOUR: 'it returns false'. Refute it at one input. -/
def trimNamesWrong : ChangeSpec := { name := "trimNames", fn := fun _ => fun
  | [] => { results := [.lit (.bool false)], args := [] }
  | _ => none }
def TrimNamesWrongFalsely : Prop := trimNamesRow.holds Try.pinned (OpenSpec.ofChange trimNamesWrong)

/-- 'parcenerlaw08.TrimSteps': WHATEVER THE INPUT: true; the input reads as it did. -/
def trimStepsSpec : ChangeSpec := { name := "trimSteps", fn := fun _ => fun
  | [d] => { results := [.lit (.bool true)], args := [d] }
  | _ => none }
def trimStepsRow : OpenClaim := { program := "ytnnpmegknlgkoaa", sum := "fa3b032d3cbe295c25594b9b2a3ecb74c84af643458326cbf18398ee965ec549", func := "parcener/parcenerlaw08.TrimSteps", spec := "trimSteps", inPlace := ["math/bits.Add64", "math/bits.Sub64"], unfollowed := true, recurses := true, named := ["math/bits.divideError", "math/bits.overflowError"], apart := false }
def TrimStepsSaid : Prop := trimStepsRow.holds Try.pinned (OpenSpec.ofChange trimStepsSpec)

/-- ITS FALSE NEIGHBOUR: 'it returns false'. Refute it at one input. -/
def trimStepsWrong : ChangeSpec := { name := "trimSteps", fn := fun _ => fun
  | [d] => { results := [.lit (.bool false)], args := [d] }
  | _ => none }
def TrimStepsWrongFalsely : Prop := trimStepsRow.holds Try.pinned (OpenSpec.ofChange trimStepsWrong)

/- THE SECOND FORM. 'bulk': how many values and letters a reading holds, each counted each time it is reached (what is shared counts as often as it is met; a slice's spare places count too). A statement '..UptoSaid' is the law's where the arguments, and the package variables that the reading takes, are together of bulk at most 1048576: NARROWER than '..Said'. Prove '..Said' where nothing that the law and all that it calls make is longer than what came in: it says more and counts as full. Else prove '..UptoSaid'. A law counts once. -/
mutual
def uptoBulk {H : Type} : DataW H → Nat
  | .lit (.string bytes) => bytes.length + 1
  | .lit _ => 1
  | .nil => 1
  | .ptr d => uptoBulk d + 1
  | .slice elems spare => uptoBulkAll elems + uptoBulkAll spare + 1
  | .agg parts => uptoBulkAll parts + 1
  | .iface _ d => uptoBulk d + 1
  | .map entries => uptoBulkEntries entries + 1
  | .held _ => 1
def uptoBulkAll {H : Type} : List (DataW H) → Nat
  | [] => 0
  | d :: r => uptoBulk d + uptoBulkAll r
def uptoBulkEntries {H : Type} : List (Lit × DataW H) → Nat
  | [] => 0
  | x :: r => uptoBulkEntry x + uptoBulkEntries r
def uptoBulkEntry {H : Type} : Lit × DataW H → Nat
  | (.string bytes, d) => bytes.length + uptoBulk d + 1
  | (_, d) => uptoBulk d + 1
 end
def uptoSmall : (H : Type) → List (DataW H) → Bool := fun _ ds => decide (uptoBulkAll ds ≤ 1048576)
def OpenSpec.upto (s : _root_.Go.ChangeSpec) : _root_.Go.OpenSpec := { _root_.Go.OpenSpec.ofChange s with cond := some uptoSmall }

/-- 'parcenerlaw03.PieceNames', WHERE WHAT IT READS IS OF BULK AT MOST 1048576: true; the input reads as it did. -/
def pieceNamesUptoRow : OpenClaim := { program := "ytnnpmegknlgkoaa", sum := "fa3b032d3cbe295c25594b9b2a3ecb74c84af643458326cbf18398ee965ec549", func := "parcener/parcenerlaw03.PieceNames", spec := "pieceNames", inPlace := ["math/bits.Add64", "math/bits.Sub64"], unfollowed := true, recurses := true, named := ["math/bits.divideError", "math/bits.overflowError"], apart := false, narrowed := true }
def PieceNamesUptoSaid : Prop := pieceNamesUptoRow.holds Try.pinned (OpenSpec.upto pieceNamesSpec)

/-- 'parcenerlaw04.AskNames', WHERE WHAT IT READS IS OF BULK AT MOST 1048576: true; the input reads as it did. -/
def askNamesUptoRow : OpenClaim := { program := "ytnnpmegknlgkoaa", sum := "fa3b032d3cbe295c25594b9b2a3ecb74c84af643458326cbf18398ee965ec549", func := "parcener/parcenerlaw04.AskNames", spec := "askNames", inPlace := ["math/bits.Add64", "math/bits.Sub64"], unfollowed := true, recurses := true, named := ["math/bits.divideError", "math/bits.overflowError"], apart := false, narrowed := true }
def AskNamesUptoSaid : Prop := askNamesUptoRow.holds Try.pinned (OpenSpec.upto askNamesSpec)

/-- 'parcenerlaw07.ChooseNames', WHERE WHAT IT READS IS OF BULK AT MOST 1048576: true; the input reads as it did. -/
def chooseNamesUptoRow : OpenClaim := { program := "ytnnpmegknlgkoaa", sum := "fa3b032d3cbe295c25594b9b2a3ecb74c84af643458326cbf18398ee965ec549", func := "parcener/parcenerlaw07.ChooseNames", spec := "chooseNames", inPlace := ["math/bits.Add64", "math/bits.Sub64"], unfollowed := true, recurses := true, named := ["math/bits.divideError", "math/bits.overflowError"], apart := false, narrowed := true }
def ChooseNamesUptoSaid : Prop := chooseNamesUptoRow.holds Try.pinned (OpenSpec.upto chooseNamesSpec)

/-- 'parcenerlaw08.TrimNames', WHERE WHAT IT READS IS OF BULK AT MOST 1048576: true; the input reads as it did. -/
def trimNamesUptoRow : OpenClaim := { program := "ytnnpmegknlgkoaa", sum := "fa3b032d3cbe295c25594b9b2a3ecb74c84af643458326cbf18398ee965ec549", func := "parcener/parcenerlaw08.TrimNames", spec := "trimNames", inPlace := ["math/bits.Add64", "math/bits.Sub64"], unfollowed := true, recurses := true, named := ["math/bits.divideError", "math/bits.overflowError"], apart := false, narrowed := true }
def TrimNamesUptoSaid : Prop := trimNamesUptoRow.holds Try.pinned (OpenSpec.upto trimNamesSpec)

/-- 'parcenerlaw08.TrimSteps', WHERE WHAT IT READS IS OF BULK AT MOST 1048576: true; the input reads as it did. -/
def trimStepsUptoRow : OpenClaim := { program := "ytnnpmegknlgkoaa", sum := "fa3b032d3cbe295c25594b9b2a3ecb74c84af643458326cbf18398ee965ec549", func := "parcener/parcenerlaw08.TrimSteps", spec := "trimSteps", inPlace := ["math/bits.Add64", "math/bits.Sub64"], unfollowed := true, recurses := true, named := ["math/bits.divideError", "math/bits.overflowError"], apart := false, narrowed := true }
def TrimStepsUptoSaid : Prop := trimStepsUptoRow.holds Try.pinned (OpenSpec.upto trimStepsSpec)

end Rows
end Go.Proofs.Ytnnpmegknlgkoaa
