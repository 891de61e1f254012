/-
  No cell of these rows narrows 'for every input' (looked for: loops, veiled, ifaces, maps, wideKeys, modest, calm, conditions, laid).
  DERIVED. THE GIVEN ROWS OF THIS SEAT. 13 by the template 'for every input the law returns true; each argument reads behind the call as it read before'; 0 by the template 'total and deterministic' (their statements: YtomokdepndclpaaTotals.lean).
  GIVEN WITH THE SEED: the statements are not yours to turn. If you find one false, say at which input.
  Laid BY PROGRAM, IN A SANDBOX (cutbox-rows.mjs): the forced cells as the released guide's own fill.sh prints them over the translation 2fe58d300dd40d47… (all of the seat's roots in one cut). By AI agents, Wed Nov 11 2026. No macro, syntax, notation, axiom, sorry.
-/
import Derived.Test.YtomokdepndclpaaChecked
import GoSem.Claim
import GoSem.ClaimJoined
import GoSem.ClaimMapViews
import Derived.JoinedTies
import Derived.KernelRfl
namespace Go.Proofs.Ytomokdepndclpaa
/- THE CELL 'sum', in the pinned program and in every row, IS THE sha256 OF THE DUMP (.gsa) THAT YtomokdepndclpaaProg.lean LOADS. Nothing in Lean hashes anything: it is a label: what it is worth is what the hold of that sum in a sandbox is worth. -/
noncomputable def Try.pinned : Pinned := { name := "ytomokdepndclpaa", sum := "2fe58d300dd40d4718f60bde0feac62d0dce1afbc9f3b401200ac9859a4e120e", checked := Try.checked }
namespace Rows
def none {H : Type} : Left H := { results := [], args := [] }

/-- 'parcenerlaw02.CakeNames': WHATEVER THE INPUT: true; the input reads as it did. -/
def cakeNamesSpec : ChangeSpec := { name := "cakeNames", fn := fun _ => fun
  | [] => { results := [.lit (.bool true)], args := [] }
  | _ => none }
def cakeNamesRow : OpenClaim := { program := "ytomokdepndclpaa", sum := "2fe58d300dd40d4718f60bde0feac62d0dce1afbc9f3b401200ac9859a4e120e", func := "parcener/parcenerlaw02.CakeNames", spec := "cakeNames", inPlace := ["math/bits.Add64", "math/bits.Sub64"], unfollowed := true, recurses := true, named := ["math/bits.divideError", "math/bits.overflowError"], apart := false }
def CakeNamesSaid : Prop := cakeNamesRow.holds Try.pinned (OpenSpec.ofChange cakeNamesSpec)

/-- ITS FALSE NEIGHBOUR: 'it returns false'. Refute it at one input. -/
def cakeNamesWrong : ChangeSpec := { name := "cakeNames", fn := fun _ => fun
  | [] => { results := [.lit (.bool false)], args := [] }
  | _ => none }
def CakeNamesWrongFalsely : Prop := cakeNamesRow.holds Try.pinned (OpenSpec.ofChange cakeNamesWrong)

/-- 'parcenerlaw02.CakeInverse': WHATEVER THE INPUT: true; the input reads as it did. -/
def cakeInverseSpec : ChangeSpec := { name := "cakeInverse", fn := fun _ => fun
  | [d1, d2, d3, d4, d5] => { results := [.lit (.bool true)], args := [d1, d2, d3, d4, d5] }
  | _ => none }
def cakeInverseRow : OpenClaim := { program := "ytomokdepndclpaa", sum := "2fe58d300dd40d4718f60bde0feac62d0dce1afbc9f3b401200ac9859a4e120e", func := "parcener/parcenerlaw02.CakeInverse", spec := "cakeInverse", inPlace := ["math/bits.Add64", "math/bits.Sub64"], unfollowed := true, recurses := true, named := ["math/bits.divideError", "math/bits.overflowError"], apart := false }
def CakeInverseSaid : Prop := cakeInverseRow.holds Try.pinned (OpenSpec.ofChange cakeInverseSpec)

/-- ITS FALSE NEIGHBOUR: 'it returns false'. Refute it at one input. -/
def cakeInverseWrong : ChangeSpec := { name := "cakeInverse", fn := fun _ => fun
  | [d1, d2, d3, d4, d5] => { results := [.lit (.bool false)], args := [d1, d2, d3, d4, d5] }
  | _ => none }
def CakeInverseWrongFalsely : Prop := cakeInverseRow.holds Try.pinned (OpenSpec.ofChange cakeInverseWrong)

/-- 'parcenerlaw02.CakeAdds': WHATEVER THE INPUT: true; the input reads as it did. -/
def cakeAddsSpec : ChangeSpec := { name := "cakeAdds", fn := fun _ => fun
  | [d1, d2, d3, d4] => { results := [.lit (.bool true)], args := [d1, d2, d3, d4] }
  | _ => none }
def cakeAddsRow : OpenClaim := { program := "ytomokdepndclpaa", sum := "2fe58d300dd40d4718f60bde0feac62d0dce1afbc9f3b401200ac9859a4e120e", func := "parcener/parcenerlaw02.CakeAdds", spec := "cakeAdds", inPlace := ["math/bits.Add64", "math/bits.Sub64"], unfollowed := true, recurses := true, named := ["math/bits.divideError", "math/bits.overflowError"], apart := false }
def CakeAddsSaid : Prop := cakeAddsRow.holds Try.pinned (OpenSpec.ofChange cakeAddsSpec)

/-- ITS FALSE NEIGHBOUR: 'it returns false'. Refute it at one input. -/
def cakeAddsWrong : ChangeSpec := { name := "cakeAdds", fn := fun _ => fun
  | [d1, d2, d3, d4] => { results := [.lit (.bool false)], args := [d1, d2, d3, d4] }
  | _ => none }
def CakeAddsWrongFalsely : Prop := cakeAddsRow.holds Try.pinned (OpenSpec.ofChange cakeAddsWrong)

/-- 'parcenerlaw02.CakeSame': WHATEVER THE INPUT: true; the input reads as it did. -/
def cakeSameSpec : ChangeSpec := { name := "cakeSame", fn := fun _ => fun
  | [d1, d2, d3, d4, d5, d6] => { results := [.lit (.bool true)], args := [d1, d2, d3, d4, d5, d6] }
  | _ => none }
def cakeSameRow : OpenClaim := { program := "ytomokdepndclpaa", sum := "2fe58d300dd40d4718f60bde0feac62d0dce1afbc9f3b401200ac9859a4e120e", func := "parcener/parcenerlaw02.CakeSame", spec := "cakeSame", inPlace := ["math/bits.Add64", "math/bits.Sub64"], unfollowed := true, recurses := true, named := ["math/bits.divideError", "math/bits.overflowError"], apart := false }
def CakeSameSaid : Prop := cakeSameRow.holds Try.pinned (OpenSpec.ofChange cakeSameSpec)

/-- ITS FALSE NEIGHBOUR: 'it returns false'. Refute it at one input. -/
def cakeSameWrong : ChangeSpec := { name := "cakeSame", fn := fun _ => fun
  | [d1, d2, d3, d4, d5, d6] => { results := [.lit (.bool false)], args := [d1, d2, d3, d4, d5, d6] }
  | _ => none }
def CakeSameWrongFalsely : Prop := cakeSameRow.holds Try.pinned (OpenSpec.ofChange cakeSameWrong)

/-- 'parcenerlaw03.PieceNames': WHATEVER THE INPUT: true; the input reads as it did. -/
def pieceNamesSpec : ChangeSpec := { name := "pieceNames", fn := fun _ => fun
  | [] => { results := [.lit (.bool true)], args := [] }
  | _ => none }
def pieceNamesRow : OpenClaim := { program := "ytomokdepndclpaa", sum := "2fe58d300dd40d4718f60bde0feac62d0dce1afbc9f3b401200ac9859a4e120e", func := "parcener/parcenerlaw03.PieceNames", spec := "pieceNames", inPlace := ["math/bits.Add64", "math/bits.Sub64"], unfollowed := true, recurses := true, named := ["math/bits.divideError", "math/bits.overflowError"], apart := false }
def PieceNamesSaid : Prop := pieceNamesRow.holds Try.pinned (OpenSpec.ofChange pieceNamesSpec)

/-- ITS FALSE NEIGHBOUR: 'it returns false'. Refute it at one input. -/
def pieceNamesWrong : ChangeSpec := { name := "pieceNames", fn := fun _ => fun
  | [] => { results := [.lit (.bool false)], args := [] }
  | _ => none }
def PieceNamesWrongFalsely : Prop := pieceNamesRow.holds Try.pinned (OpenSpec.ofChange pieceNamesWrong)

/-- 'parcenerlaw03.PieceSets': WHATEVER THE INPUT: true; the input reads as it did. -/
def pieceSetsSpec : ChangeSpec := { name := "pieceSets", fn := fun _ => fun
  | [d1, d2] => { results := [.lit (.bool true)], args := [d1, d2] }
  | _ => none }
def pieceSetsRow : OpenClaim := { program := "ytomokdepndclpaa", sum := "2fe58d300dd40d4718f60bde0feac62d0dce1afbc9f3b401200ac9859a4e120e", func := "parcener/parcenerlaw03.PieceSets", spec := "pieceSets", inPlace := ["math/bits.Add64", "math/bits.Sub64"], unfollowed := true, recurses := true, apart := false }
def PieceSetsSaid : Prop := pieceSetsRow.holds Try.pinned (OpenSpec.ofChange pieceSetsSpec)

/-- ITS FALSE NEIGHBOUR: 'it returns false'. Refute it at one input. -/
def pieceSetsWrong : ChangeSpec := { name := "pieceSets", fn := fun _ => fun
  | [d1, d2] => { results := [.lit (.bool false)], args := [d1, d2] }
  | _ => none }
def PieceSetsWrongFalsely : Prop := pieceSetsRow.holds Try.pinned (OpenSpec.ofChange pieceSetsWrong)

/-- 'parcenerlaw03.PieceCanonical': WHATEVER THE INPUT: true; the input reads as it did. -/
def pieceCanonicalSpec : ChangeSpec := { name := "pieceCanonical", fn := fun _ => fun
  | [d1, d2, d3, d4] => { results := [.lit (.bool true)], args := [d1, d2, d3, d4] }
  | _ => none }
def pieceCanonicalRow : OpenClaim := { program := "ytomokdepndclpaa", sum := "2fe58d300dd40d4718f60bde0feac62d0dce1afbc9f3b401200ac9859a4e120e", func := "parcener/parcenerlaw03.PieceCanonical", spec := "pieceCanonical", inPlace := ["math/bits.Add64", "math/bits.Sub64"], unfollowed := true, recurses := true, named := ["math/bits.divideError", "math/bits.overflowError"], apart := false }
def PieceCanonicalSaid : Prop := pieceCanonicalRow.holds Try.pinned (OpenSpec.ofChange pieceCanonicalSpec)

/-- ITS FALSE NEIGHBOUR: 'it returns false'. Refute it at one input. -/
def pieceCanonicalWrong : ChangeSpec := { name := "pieceCanonical", fn := fun _ => fun
  | [d1, d2, d3, d4] => { results := [.lit (.bool false)], args := [d1, d2, d3, d4] }
  | _ => none }
def PieceCanonicalWrongFalsely : Prop := pieceCanonicalRow.holds Try.pinned (OpenSpec.ofChange pieceCanonicalWrong)

/-- 'parcenerlaw03.PieceAlgebra': WHATEVER THE INPUT: true; the input reads as it did. -/
def pieceAlgebraSpec : ChangeSpec := { name := "pieceAlgebra", fn := fun _ => fun
  | [d1, d2, d3] => { results := [.lit (.bool true)], args := [d1, d2, d3] }
  | _ => none }
def pieceAlgebraRow : OpenClaim := { program := "ytomokdepndclpaa", sum := "2fe58d300dd40d4718f60bde0feac62d0dce1afbc9f3b401200ac9859a4e120e", func := "parcener/parcenerlaw03.PieceAlgebra", spec := "pieceAlgebra", inPlace := ["math/bits.Add64", "math/bits.Sub64"], unfollowed := true, recurses := true, named := ["math/bits.divideError", "math/bits.overflowError"], apart := false }
def PieceAlgebraSaid : Prop := pieceAlgebraRow.holds Try.pinned (OpenSpec.ofChange pieceAlgebraSpec)

/-- ITS FALSE NEIGHBOUR: 'it returns false'. Refute it at one input. -/
def pieceAlgebraWrong : ChangeSpec := { name := "pieceAlgebra", fn := fun _ => fun
  | [d1, d2, d3] => { results := [.lit (.bool false)], args := [d1, d2, d3] }
  | _ => none }
def PieceAlgebraWrongFalsely : Prop := pieceAlgebraRow.holds Try.pinned (OpenSpec.ofChange pieceAlgebraWrong)

/-- 'parcenerlaw03.PieceSums': WHATEVER THE INPUT: true; the input reads as it did. -/
def pieceSumsSpec : ChangeSpec := { name := "pieceSums", fn := fun _ => fun
  | [d1, d2, d3] => { results := [.lit (.bool true)], args := [d1, d2, d3] }
  | _ => none }
def pieceSumsRow : OpenClaim := { program := "ytomokdepndclpaa", sum := "2fe58d300dd40d4718f60bde0feac62d0dce1afbc9f3b401200ac9859a4e120e", func := "parcener/parcenerlaw03.PieceSums", spec := "pieceSums", inPlace := ["math/bits.Add64", "math/bits.Sub64"], unfollowed := true, recurses := true, named := ["math/bits.divideError", "math/bits.overflowError"], apart := false }
def PieceSumsSaid : Prop := pieceSumsRow.holds Try.pinned (OpenSpec.ofChange pieceSumsSpec)

/-- ITS FALSE NEIGHBOUR: 'it returns false'. Refute it at one input. -/
def pieceSumsWrong : ChangeSpec := { name := "pieceSums", fn := fun _ => fun
  | [d1, d2, d3] => { results := [.lit (.bool false)], args := [d1, d2, d3] }
  | _ => none }
def PieceSumsWrongFalsely : Prop := pieceSumsRow.holds Try.pinned (OpenSpec.ofChange pieceSumsWrong)

/-- 'parcenerlaw03.PieceCuts': WHATEVER THE INPUT: true; the input reads as it did. -/
def pieceCutsSpec : ChangeSpec := { name := "pieceCuts", fn := fun _ => fun
  | [d1, d2, d3] => { results := [.lit (.bool true)], args := [d1, d2, d3] }
  | _ => none }
def pieceCutsRow : OpenClaim := { program := "ytomokdepndclpaa", sum := "2fe58d300dd40d4718f60bde0feac62d0dce1afbc9f3b401200ac9859a4e120e", func := "parcener/parcenerlaw03.PieceCuts", spec := "pieceCuts", inPlace := ["math/bits.Add64", "math/bits.Sub64"], unfollowed := true, recurses := true, named := ["math/bits.divideError", "math/bits.overflowError"], apart := false }
def PieceCutsSaid : Prop := pieceCutsRow.holds Try.pinned (OpenSpec.ofChange pieceCutsSpec)

/-- ITS FALSE NEIGHBOUR: 'it returns false'. Refute it at one input. -/
def pieceCutsWrong : ChangeSpec := { name := "pieceCuts", fn := fun _ => fun
  | [d1, d2, d3] => { results := [.lit (.bool false)], args := [d1, d2, d3] }
  | _ => none }
def PieceCutsWrongFalsely : Prop := pieceCutsRow.holds Try.pinned (OpenSpec.ofChange pieceCutsWrong)

/-- 'parcenerlaw04.AskNames': WHATEVER THE INPUT: true; the input reads as it did. -/
def askNamesSpec : ChangeSpec := { name := "askNames", fn := fun _ => fun
  | [] => { results := [.lit (.bool true)], args := [] }
  | _ => none }
def askNamesRow : OpenClaim := { program := "ytomokdepndclpaa", sum := "2fe58d300dd40d4718f60bde0feac62d0dce1afbc9f3b401200ac9859a4e120e", func := "parcener/parcenerlaw04.AskNames", spec := "askNames", inPlace := ["math/bits.Add64", "math/bits.Sub64"], unfollowed := true, recurses := true, named := ["math/bits.divideError", "math/bits.overflowError"], apart := false }
def AskNamesSaid : Prop := askNamesRow.holds Try.pinned (OpenSpec.ofChange askNamesSpec)

/-- ITS FALSE NEIGHBOUR: 'it returns false'. Refute it at one input. -/
def askNamesWrong : ChangeSpec := { name := "askNames", fn := fun _ => fun
  | [] => { results := [.lit (.bool false)], args := [] }
  | _ => none }
def AskNamesWrongFalsely : Prop := askNamesRow.holds Try.pinned (OpenSpec.ofChange askNamesWrong)

/-- 'parcenerlaw04.AskReplays': WHATEVER THE INPUT: true; the input reads as it did. -/
def askReplaysSpec : ChangeSpec := { name := "askReplays", fn := fun _ => fun
  | [d1, d2] => { results := [.lit (.bool true)], args := [d1, d2] }
  | _ => none }
def askReplaysRow : OpenClaim := { program := "ytomokdepndclpaa", sum := "2fe58d300dd40d4718f60bde0feac62d0dce1afbc9f3b401200ac9859a4e120e", func := "parcener/parcenerlaw04.AskReplays", spec := "askReplays", inPlace := ["math/bits.Add64", "math/bits.Sub64"], unfollowed := true, recurses := true, named := ["math/bits.divideError", "math/bits.overflowError"], apart := false }
def AskReplaysSaid : Prop := askReplaysRow.holds Try.pinned (OpenSpec.ofChange askReplaysSpec)

/-- ITS FALSE NEIGHBOUR: 'it returns false'. Refute it at one input. -/
def askReplaysWrong : ChangeSpec := { name := "askReplays", fn := fun _ => fun
  | [d1, d2] => { results := [.lit (.bool false)], args := [d1, d2] }
  | _ => none }
def AskReplaysWrongFalsely : Prop := askReplaysRow.holds Try.pinned (OpenSpec.ofChange askReplaysWrong)

/-- 'parcenerlaw04.AskPrivate': WHATEVER THE INPUT: true; the input reads as it did. -/
def askPrivateSpec : ChangeSpec := { name := "askPrivate", fn := fun _ => fun
  | [d1, d2, d3, d4, d5] => { results := [.lit (.bool true)], args := [d1, d2, d3, d4, d5] }
  | _ => none }
def askPrivateRow : OpenClaim := { program := "ytomokdepndclpaa", sum := "2fe58d300dd40d4718f60bde0feac62d0dce1afbc9f3b401200ac9859a4e120e", func := "parcener/parcenerlaw04.AskPrivate", spec := "askPrivate", inPlace := ["math/bits.Add64", "math/bits.Sub64"], unfollowed := true, recurses := true, named := ["math/bits.divideError", "math/bits.overflowError"], apart := false }
def AskPrivateSaid : Prop := askPrivateRow.holds Try.pinned (OpenSpec.ofChange askPrivateSpec)

/-- ITS FALSE NEIGHBOUR: 'it returns false'. Refute it at one input. -/
def askPrivateWrong : ChangeSpec := { name := "askPrivate", fn := fun _ => fun
  | [d1, d2, d3, d4, d5] => { results := [.lit (.bool false)], args := [d1, d2, d3, d4, d5] }
  | _ => none }
def AskPrivateWrongFalsely : Prop := askPrivateRow.holds Try.pinned (OpenSpec.ofChange askPrivateWrong)

/- THE SECOND FORM. 'bulk': how many values and letters a reading holds, each counted each time it is reached (what is shared counts as often as it is met; a slice's spare places count too). A statement '..UptoSaid' is the law's where the arguments, and the package variables that the reading takes, are together of bulk at most 1048576: NARROWER than '..Said'. Prove '..Said' where nothing that the law and all that it calls make is longer than what came in: it says more and counts as full. Else prove '..UptoSaid'. A law counts once. -/
mutual
def uptoBulk {H : Type} : DataW H → Nat
  | .lit (.string bytes) => bytes.length + 1
  | .lit _ => 1
  | .nil => 1
  | .ptr d => uptoBulk d + 1
  | .slice elems spare => uptoBulkAll elems + uptoBulkAll spare + 1
  | .agg parts => uptoBulkAll parts + 1
  | .iface _ d => uptoBulk d + 1
  | .map entries => uptoBulkEntries entries + 1
  | .held _ => 1
def uptoBulkAll {H : Type} : List (DataW H) → Nat
  | [] => 0
  | d :: r => uptoBulk d + uptoBulkAll r
def uptoBulkEntries {H : Type} : List (Lit × DataW H) → Nat
  | [] => 0
  | x :: r => uptoBulkEntry x + uptoBulkEntries r
def uptoBulkEntry {H : Type} : Lit × DataW H → Nat
  | (.string bytes, d) => bytes.length + uptoBulk d + 1
  | (_, d) => uptoBulk d + 1
 end
def uptoSmall : (H : Type) → List (DataW H) → Bool := fun _ ds => decide (uptoBulkAll ds ≤ 1048576)
def OpenSpec.upto (s : _root_.Go.ChangeSpec) : _root_.Go.OpenSpec := { _root_.Go.OpenSpec.ofChange s with cond := some uptoSmall }

/-- 'parcenerlaw02.CakeNames', WHERE WHAT IT READS IS OF BULK AT MOST 1048576: true; the input reads as it did. -/
def cakeNamesUptoRow : OpenClaim := { program := "ytomokdepndclpaa", sum := "2fe58d300dd40d4718f60bde0feac62d0dce1afbc9f3b401200ac9859a4e120e", func := "parcener/parcenerlaw02.CakeNames", spec := "cakeNames", inPlace := ["math/bits.Add64", "math/bits.Sub64"], unfollowed := true, recurses := true, named := ["math/bits.divideError", "math/bits.overflowError"], apart := false, narrowed := true }
def CakeNamesUptoSaid : Prop := cakeNamesUptoRow.holds Try.pinned (OpenSpec.upto cakeNamesSpec)

/-- 'parcenerlaw02.CakeInverse', WHERE WHAT IT READS IS OF BULK AT MOST 1048576: true; the input reads as it did. -/
def cakeInverseUptoRow : OpenClaim := { program := "ytomokdepndclpaa", sum := "2fe58d300dd40d4718f60bde0feac62d0dce1afbc9f3b401200ac9859a4e120e", func := "parcener/parcenerlaw02.CakeInverse", spec := "cakeInverse", inPlace := ["math/bits.Add64", "math/bits.Sub64"], unfollowed := true, recurses := true, named := ["math/bits.divideError", "math/bits.overflowError"], apart := false, narrowed := true }
def CakeInverseUptoSaid : Prop := cakeInverseUptoRow.holds Try.pinned (OpenSpec.upto cakeInverseSpec)

/-- 'parcenerlaw02.CakeAdds', WHERE WHAT IT READS IS OF BULK AT MOST 1048576: true; the input reads as it did. -/
def cakeAddsUptoRow : OpenClaim := { program := "ytomokdepndclpaa", sum := "2fe58d300dd40d4718f60bde0feac62d0dce1afbc9f3b401200ac9859a4e120e", func := "parcener/parcenerlaw02.CakeAdds", spec := "cakeAdds", inPlace := ["math/bits.Add64", "math/bits.Sub64"], unfollowed := true, recurses := true, named := ["math/bits.divideError", "math/bits.overflowError"], apart := false, narrowed := true }
def CakeAddsUptoSaid : Prop := cakeAddsUptoRow.holds Try.pinned (OpenSpec.upto cakeAddsSpec)

/-- 'parcenerlaw02.CakeSame', WHERE WHAT IT READS IS OF BULK AT MOST 1048576: true; the input reads as it did. -/
def cakeSameUptoRow : OpenClaim := { program := "ytomokdepndclpaa", sum := "2fe58d300dd40d4718f60bde0feac62d0dce1afbc9f3b401200ac9859a4e120e", func := "parcener/parcenerlaw02.CakeSame", spec := "cakeSame", inPlace := ["math/bits.Add64", "math/bits.Sub64"], unfollowed := true, recurses := true, named := ["math/bits.divideError", "math/bits.overflowError"], apart := false, narrowed := true }
def CakeSameUptoSaid : Prop := cakeSameUptoRow.holds Try.pinned (OpenSpec.upto cakeSameSpec)

/-- 'parcenerlaw03.PieceNames', WHERE WHAT IT READS IS OF BULK AT MOST 1048576: true; the input reads as it did. -/
def pieceNamesUptoRow : OpenClaim := { program := "ytomokdepndclpaa", sum := "2fe58d300dd40d4718f60bde0feac62d0dce1afbc9f3b401200ac9859a4e120e", func := "parcener/parcenerlaw03.PieceNames", spec := "pieceNames", inPlace := ["math/bits.Add64", "math/bits.Sub64"], unfollowed := true, recurses := true, named := ["math/bits.divideError", "math/bits.overflowError"], apart := false, narrowed := true }
def PieceNamesUptoSaid : Prop := pieceNamesUptoRow.holds Try.pinned (OpenSpec.upto pieceNamesSpec)

/-- 'parcenerlaw03.PieceSets', WHERE WHAT IT READS IS OF BULK AT MOST 1048576: true; the input reads as it did. -/
def pieceSetsUptoRow : OpenClaim := { program := "ytomokdepndclpaa", sum := "2fe58d300dd40d4718f60bde0feac62d0dce1afbc9f3b401200ac9859a4e120e", func := "parcener/parcenerlaw03.PieceSets", spec := "pieceSets", inPlace := ["math/bits.Add64", "math/bits.Sub64"], unfollowed := true, recurses := true, apart := false, narrowed := true }
def PieceSetsUptoSaid : Prop := pieceSetsUptoRow.holds Try.pinned (OpenSpec.upto pieceSetsSpec)

/-- 'parcenerlaw03.PieceCanonical', WHERE WHAT IT READS IS OF BULK AT MOST 1048576: true; the input reads as it did. -/
def pieceCanonicalUptoRow : OpenClaim := { program := "ytomokdepndclpaa", sum := "2fe58d300dd40d4718f60bde0feac62d0dce1afbc9f3b401200ac9859a4e120e", func := "parcener/parcenerlaw03.PieceCanonical", spec := "pieceCanonical", inPlace := ["math/bits.Add64", "math/bits.Sub64"], unfollowed := true, recurses := true, named := ["math/bits.divideError", "math/bits.overflowError"], apart := false, narrowed := true }
def PieceCanonicalUptoSaid : Prop := pieceCanonicalUptoRow.holds Try.pinned (OpenSpec.upto pieceCanonicalSpec)

/-- 'parcenerlaw03.PieceAlgebra', WHERE WHAT IT READS IS OF BULK AT MOST 1048576: true; the input reads as it did. -/
def pieceAlgebraUptoRow : OpenClaim := { program := "ytomokdepndclpaa", sum := "2fe58d300dd40d4718f60bde0feac62d0dce1afbc9f3b401200ac9859a4e120e", func := "parcener/parcenerlaw03.PieceAlgebra", spec := "pieceAlgebra", inPlace := ["math/bits.Add64", "math/bits.Sub64"], unfollowed := true, recurses := true, named := ["math/bits.divideError", "math/bits.overflowError"], apart := false, narrowed := true }
def PieceAlgebraUptoSaid : Prop := pieceAlgebraUptoRow.holds Try.pinned (OpenSpec.upto pieceAlgebraSpec)

/-- 'parcenerlaw03.PieceSums', WHERE WHAT IT READS IS OF BULK AT MOST 1048576: true; the input reads as it did. -/
def pieceSumsUptoRow : OpenClaim := { program := "ytomokdepndclpaa", sum := "2fe58d300dd40d4718f60bde0feac62d0dce1afbc9f3b401200ac9859a4e120e", func := "parcener/parcenerlaw03.PieceSums", spec := "pieceSums", inPlace := ["math/bits.Add64", "math/bits.Sub64"], unfollowed := true, recurses := true, named := ["math/bits.divideError", "math/bits.overflowError"], apart := false, narrowed := true }
def PieceSumsUptoSaid : Prop := pieceSumsUptoRow.holds Try.pinned (OpenSpec.upto pieceSumsSpec)

/-- 'parcenerlaw03.PieceCuts', WHERE WHAT IT READS IS OF BULK AT MOST 1048576: true; the input reads as it did. -/
def pieceCutsUptoRow : OpenClaim := { program := "ytomokdepndclpaa", sum := "2fe58d300dd40d4718f60bde0feac62d0dce1afbc9f3b401200ac9859a4e120e", func := "parcener/parcenerlaw03.PieceCuts", spec := "pieceCuts", inPlace := ["math/bits.Add64", "math/bits.Sub64"], unfollowed := true, recurses := true, named := ["math/bits.divideError", "math/bits.overflowError"], apart := false, narrowed := true }
def PieceCutsUptoSaid : Prop := pieceCutsUptoRow.holds Try.pinned (OpenSpec.upto pieceCutsSpec)

/-- 'parcenerlaw04.AskNames', WHERE WHAT IT READS IS OF BULK AT MOST 1048576: true; the input reads as it did. -/
def askNamesUptoRow : OpenClaim := { program := "ytomokdepndclpaa", sum := "2fe58d300dd40d4718f60bde0feac62d0dce1afbc9f3b401200ac9859a4e120e", func := "parcener/parcenerlaw04.AskNames", spec := "askNames", inPlace := ["math/bits.Add64", "math/bits.Sub64"], unfollowed := true, recurses := true, named := ["math/bits.divideError", "math/bits.overflowError"], apart := false, narrowed := true }
def AskNamesUptoSaid : Prop := askNamesUptoRow.holds Try.pinned (OpenSpec.upto askNamesSpec)

/-- 'parcenerlaw04.AskReplays', WHERE WHAT IT READS IS OF BULK AT MOST 1048576: true; the input reads as it did. -/
def askReplaysUptoRow : OpenClaim := { program := "ytomokdepndclpaa", sum := "2fe58d300dd40d4718f60bde0feac62d0dce1afbc9f3b401200ac9859a4e120e", func := "parcener/parcenerlaw04.AskReplays", spec := "askReplays", inPlace := ["math/bits.Add64", "math/bits.Sub64"], unfollowed := true, recurses := true, named := ["math/bits.divideError", "math/bits.overflowError"], apart := false, narrowed := true }
def AskReplaysUptoSaid : Prop := askReplaysUptoRow.holds Try.pinned (OpenSpec.upto askReplaysSpec)

/-- 'parcenerlaw04.AskPrivate', WHERE WHAT IT READS IS OF BULK AT MOST 1048576: true; the input reads as it did. -/
def askPrivateUptoRow : OpenClaim := { program := "ytomokdepndclpaa", sum := "2fe58d300dd40d4718f60bde0feac62d0dce1afbc9f3b401200ac9859a4e120e", func := "parcener/parcenerlaw04.AskPrivate", spec := "askPrivate", inPlace := ["math/bits.Add64", "math/bits.Sub64"], unfollowed := true, recurses := true, named := ["math/bits.divideError", "math/bits.overflowError"], apart := false, narrowed := true }
def AskPrivateUptoSaid : Prop := askPrivateUptoRow.holds Try.pinned (OpenSpec.upto askPrivateSpec)

end Rows
end Go.Proofs.Ytomokdepndclpaa
