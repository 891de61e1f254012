/-
  No cell of these rows narrows 'for every input' (looked for: loops, veiled, ifaces, maps, wideKeys, modest, calm, conditions, laid).
  DERIVED. THE GIVEN ROWS OF THIS SEAT. 6 by the template 'for every input the law returns true; each argument reads behind the call as it read before'; 0 by the template 'total and deterministic' (their statements: YtfpaefnaidppmaaTotals.lean).
  GIVEN WITH THE SEED: the statements are not yours to turn. If you find one false, say at which input.
  Laid BY PROGRAM, IN A SANDBOX (cutbox-rows.mjs): the forced cells as the released guide's own fill.sh prints them over the translation 6b8e08be053f5f2f… (all of the seat's roots in one cut). By AI agents, Wed Nov 11 2026. No macro, syntax, notation, axiom, sorry.
-/
import Derived.Test.YtfpaefnaidppmaaChecked
import GoSem.Claim
import GoSem.ClaimJoined
import GoSem.ClaimMapViews
import Derived.JoinedTies
import Derived.KernelRfl
namespace Go.Proofs.Ytfpaefnaidppmaa
/- THE CELL 'sum', in the pinned program and in every row, IS THE sha256 OF THE DUMP (.gsa) THAT YtfpaefnaidppmaaProg.lean LOADS. Nothing in Lean hashes anything: it is a label: what it is worth is what the hold of that sum in a sandbox is worth. -/
noncomputable def Try.pinned : Pinned := { name := "ytfpaefnaidppmaa", sum := "6b8e08be053f5f2f10a2424e086251fef42426394872777bf21fe4ed9c594ea8", checked := Try.checked }
namespace Rows
def none {H : Type} : Left H := { results := [], args := [] }

/-- 'parcenerlaw16.GoodsTells': WHATEVER THE INPUT: true; the input reads as it did. -/
def goodsTellsSpec : ChangeSpec := { name := "goodsTells", fn := fun _ => fun
  | [d1, d2] => { results := [.lit (.bool true)], args := [d1, d2] }
  | _ => none }
def goodsTellsRow : OpenClaim := { program := "ytfpaefnaidppmaa", sum := "6b8e08be053f5f2f10a2424e086251fef42426394872777bf21fe4ed9c594ea8", func := "parcener/parcenerlaw16.GoodsTells", spec := "goodsTells", unfollowed := true, recurses := true, apart := false }
def GoodsTellsSaid : Prop := goodsTellsRow.holds Try.pinned (OpenSpec.ofChange goodsTellsSpec)

/-- ITS FALSE NEIGHBOUR: 'it returns false'. Refute it at one input. -/
def goodsTellsWrong : ChangeSpec := { name := "goodsTells", fn := fun _ => fun
  | [d1, d2] => { results := [.lit (.bool false)], args := [d1, d2] }
  | _ => none }
def GoodsTellsWrongFalsely : Prop := goodsTellsRow.holds Try.pinned (OpenSpec.ofChange goodsTellsWrong)

/-- 'parcenerlaw16.GoodsMoves': WHATEVER THE INPUT: true; the input reads as it did. -/
def goodsMovesSpec : ChangeSpec := { name := "goodsMoves", fn := fun _ => fun
  | [d1, d2, d3, d4, d5] => { results := [.lit (.bool true)], args := [d1, d2, d3, d4, d5] }
  | _ => none }
def goodsMovesRow : OpenClaim := { program := "ytfpaefnaidppmaa", sum := "6b8e08be053f5f2f10a2424e086251fef42426394872777bf21fe4ed9c594ea8", func := "parcener/parcenerlaw16.GoodsMoves", spec := "goodsMoves", unfollowed := true, recurses := true, apart := false }
def GoodsMovesSaid : Prop := goodsMovesRow.holds Try.pinned (OpenSpec.ofChange goodsMovesSpec)

/-- ITS FALSE NEIGHBOUR: 'it returns false'. Refute it at one input. -/
def goodsMovesWrong : ChangeSpec := { name := "goodsMoves", fn := fun _ => fun
  | [d1, d2, d3, d4, d5] => { results := [.lit (.bool false)], args := [d1, d2, d3, d4, d5] }
  | _ => none }
def GoodsMovesWrongFalsely : Prop := goodsMovesRow.holds Try.pinned (OpenSpec.ofChange goodsMovesWrong)

/-- 'parcenerlaw16.GoodsNames': WHATEVER THE INPUT: true; the input reads as it did. -/
def goodsNamesSpec : ChangeSpec := { name := "goodsNames", fn := fun _ => fun
  | [] => { results := [.lit (.bool true)], args := [] }
  | _ => none }
def goodsNamesRow : OpenClaim := { program := "ytfpaefnaidppmaa", sum := "6b8e08be053f5f2f10a2424e086251fef42426394872777bf21fe4ed9c594ea8", func := "parcener/parcenerlaw16.GoodsNames", spec := "goodsNames", unfollowed := true, recurses := true, apart := false }
def GoodsNamesSaid : Prop := goodsNamesRow.holds Try.pinned (OpenSpec.ofChange goodsNamesSpec)

/-- ITS FALSE NEIGHBOUR: 'it returns false'. Refute it at one input. -/
def goodsNamesWrong : ChangeSpec := { name := "goodsNames", fn := fun _ => fun
  | [] => { results := [.lit (.bool false)], args := [] }
  | _ => none }
def GoodsNamesWrongFalsely : Prop := goodsNamesRow.holds Try.pinned (OpenSpec.ofChange goodsNamesWrong)

/-- 'parcenerlaw16.GoodsFair': WHATEVER THE INPUT: true; the input reads as it did. -/
def goodsFairSpec : ChangeSpec := { name := "goodsFair", fn := fun _ => fun
  | [d1, d2] => { results := [.lit (.bool true)], args := [d1, d2] }
  | _ => none }
def goodsFairRow : OpenClaim := { program := "ytfpaefnaidppmaa", sum := "6b8e08be053f5f2f10a2424e086251fef42426394872777bf21fe4ed9c594ea8", func := "parcener/parcenerlaw16.GoodsFair", spec := "goodsFair", unfollowed := true, recurses := true, apart := false }
def GoodsFairSaid : Prop := goodsFairRow.holds Try.pinned (OpenSpec.ofChange goodsFairSpec)

/-- ITS FALSE NEIGHBOUR: 'it returns false'. Refute it at one input. -/
def goodsFairWrong : ChangeSpec := { name := "goodsFair", fn := fun _ => fun
  | [d1, d2] => { results := [.lit (.bool false)], args := [d1, d2] }
  | _ => none }
def GoodsFairWrongFalsely : Prop := goodsFairRow.holds Try.pinned (OpenSpec.ofChange goodsFairWrong)

/-- 'parcenerlaw16.GoodsSums': WHATEVER THE INPUT: true; the input reads as it did. -/
def goodsSumsSpec : ChangeSpec := { name := "goodsSums", fn := fun _ => fun
  | [d1, d2] => { results := [.lit (.bool true)], args := [d1, d2] }
  | _ => none }
def goodsSumsRow : OpenClaim := { program := "ytfpaefnaidppmaa", sum := "6b8e08be053f5f2f10a2424e086251fef42426394872777bf21fe4ed9c594ea8", func := "parcener/parcenerlaw16.GoodsSums", spec := "goodsSums", unfollowed := true, recurses := true, apart := false }
def GoodsSumsSaid : Prop := goodsSumsRow.holds Try.pinned (OpenSpec.ofChange goodsSumsSpec)

/-- ITS FALSE NEIGHBOUR: 'it returns false'. Refute it at one input. -/
def goodsSumsWrong : ChangeSpec := { name := "goodsSums", fn := fun _ => fun
  | [d1, d2] => { results := [.lit (.bool false)], args := [d1, d2] }
  | _ => none }
def GoodsSumsWrongFalsely : Prop := goodsSumsRow.holds Try.pinned (OpenSpec.ofChange goodsSumsWrong)

/-- 'parcenerlaw16.GoodsPass': WHATEVER THE INPUT: true; the input reads as it did. -/
def goodsPassSpec : ChangeSpec := { name := "goodsPass", fn := fun _ => fun
  | [d1, d2, d3, d4, d5] => { results := [.lit (.bool true)], args := [d1, d2, d3, d4, d5] }
  | _ => none }
def goodsPassRow : OpenClaim := { program := "ytfpaefnaidppmaa", sum := "6b8e08be053f5f2f10a2424e086251fef42426394872777bf21fe4ed9c594ea8", func := "parcener/parcenerlaw16.GoodsPass", spec := "goodsPass", unfollowed := true, recurses := true, apart := false }
def GoodsPassSaid : Prop := goodsPassRow.holds Try.pinned (OpenSpec.ofChange goodsPassSpec)

/-- ITS FALSE NEIGHBOUR: 'it returns false'. Refute it at one input. -/
def goodsPassWrong : ChangeSpec := { name := "goodsPass", fn := fun _ => fun
  | [d1, d2, d3, d4, d5] => { results := [.lit (.bool false)], args := [d1, d2, d3, d4, d5] }
  | _ => none }
def GoodsPassWrongFalsely : Prop := goodsPassRow.holds Try.pinned (OpenSpec.ofChange goodsPassWrong)

/- THE SECOND FORM. 'bulk': how many values and letters a reading holds, each counted each time it is reached (what is shared counts as often as it is met; a slice's spare places count too). A statement '..UptoSaid' is the law's where the arguments, and the package variables that the reading takes, are together of bulk at most 1048576: NARROWER than '..Said'. Prove '..Said' where nothing that the law and all that it calls make is longer than what came in: it says more and counts as full. Else prove '..UptoSaid'. A law counts once. -/
mutual
def uptoBulk {H : Type} : DataW H → Nat
  | .lit (.string bytes) => bytes.length + 1
  | .lit _ => 1
  | .nil => 1
  | .ptr d => uptoBulk d + 1
  | .slice elems spare => uptoBulkAll elems + uptoBulkAll spare + 1
  | .agg parts => uptoBulkAll parts + 1
  | .iface _ d => uptoBulk d + 1
  | .map entries => uptoBulkEntries entries + 1
  | .held _ => 1
def uptoBulkAll {H : Type} : List (DataW H) → Nat
  | [] => 0
  | d :: r => uptoBulk d + uptoBulkAll r
def uptoBulkEntries {H : Type} : List (Lit × DataW H) → Nat
  | [] => 0
  | x :: r => uptoBulkEntry x + uptoBulkEntries r
def uptoBulkEntry {H : Type} : Lit × DataW H → Nat
  | (.string bytes, d) => bytes.length + uptoBulk d + 1
  | (_, d) => uptoBulk d + 1
 end
def uptoSmall : (H : Type) → List (DataW H) → Bool := fun _ ds => decide (uptoBulkAll ds ≤ 1048576)
def OpenSpec.upto (s : _root_.Go.ChangeSpec) : _root_.Go.OpenSpec := { _root_.Go.OpenSpec.ofChange s with cond := some uptoSmall }

/-- 'parcenerlaw16.GoodsTells', WHERE WHAT IT READS IS OF BULK AT MOST 1048576: true; the input reads as it did. -/
def goodsTellsUptoRow : OpenClaim := { program := "ytfpaefnaidppmaa", sum := "6b8e08be053f5f2f10a2424e086251fef42426394872777bf21fe4ed9c594ea8", func := "parcener/parcenerlaw16.GoodsTells", spec := "goodsTells", unfollowed := true, recurses := true, apart := false, narrowed := true }
def GoodsTellsUptoSaid : Prop := goodsTellsUptoRow.holds Try.pinned (OpenSpec.upto goodsTellsSpec)

/-- 'parcenerlaw16.GoodsMoves', WHERE WHAT IT READS IS OF BULK AT MOST 1048576: true; the input reads as it did. -/
def goodsMovesUptoRow : OpenClaim := { program := "ytfpaefnaidppmaa", sum := "6b8e08be053f5f2f10a2424e086251fef42426394872777bf21fe4ed9c594ea8", func := "parcener/parcenerlaw16.GoodsMoves", spec := "goodsMoves", unfollowed := true, recurses := true, apart := false, narrowed := true }
def GoodsMovesUptoSaid : Prop := goodsMovesUptoRow.holds Try.pinned (OpenSpec.upto goodsMovesSpec)

/-- 'parcenerlaw16.GoodsNames', WHERE WHAT IT READS IS OF BULK AT MOST 1048576: true; the input reads as it did. -/
def goodsNamesUptoRow : OpenClaim := { program := "ytfpaefnaidppmaa", sum := "6b8e08be053f5f2f10a2424e086251fef42426394872777bf21fe4ed9c594ea8", func := "parcener/parcenerlaw16.GoodsNames", spec := "goodsNames", unfollowed := true, recurses := true, apart := false, narrowed := true }
def GoodsNamesUptoSaid : Prop := goodsNamesUptoRow.holds Try.pinned (OpenSpec.upto goodsNamesSpec)

/-- 'parcenerlaw16.GoodsFair', WHERE WHAT IT READS IS OF BULK AT MOST 1048576: true; the input reads as it did. -/
def goodsFairUptoRow : OpenClaim := { program := "ytfpaefnaidppmaa", sum := "6b8e08be053f5f2f10a2424e086251fef42426394872777bf21fe4ed9c594ea8", func := "parcener/parcenerlaw16.GoodsFair", spec := "goodsFair", unfollowed := true, recurses := true, apart := false, narrowed := true }
def GoodsFairUptoSaid : Prop := goodsFairUptoRow.holds Try.pinned (OpenSpec.upto goodsFairSpec)

/-- 'parcenerlaw16.GoodsSums', WHERE WHAT IT READS IS OF BULK AT MOST 1048576: true; the input reads as it did. -/
def goodsSumsUptoRow : OpenClaim := { program := "ytfpaefnaidppmaa", sum := "6b8e08be053f5f2f10a2424e086251fef42426394872777bf21fe4ed9c594ea8", func := "parcener/parcenerlaw16.GoodsSums", spec := "goodsSums", unfollowed := true, recurses := true, apart := false, narrowed := true }
def GoodsSumsUptoSaid : Prop := goodsSumsUptoRow.holds Try.pinned (OpenSpec.upto goodsSumsSpec)

/-- 'parcenerlaw16.GoodsPass', WHERE WHAT IT READS IS OF BULK AT MOST 1048576: true; the input reads as it did. -/
def goodsPassUptoRow : OpenClaim := { program := "ytfpaefnaidppmaa", sum := "6b8e08be053f5f2f10a2424e086251fef42426394872777bf21fe4ed9c594ea8", func := "parcener/parcenerlaw16.GoodsPass", spec := "goodsPass", unfollowed := true, recurses := true, apart := false, narrowed := true }
def GoodsPassUptoSaid : Prop := goodsPassUptoRow.holds Try.pinned (OpenSpec.upto goodsPassSpec)

end Rows
end Go.Proofs.Ytfpaefnaidppmaa
