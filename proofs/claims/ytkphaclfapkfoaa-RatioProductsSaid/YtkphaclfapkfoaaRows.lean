/-
  No cell of these rows narrows 'for every input' (looked for: loops, veiled, ifaces, maps, wideKeys, modest, calm, conditions, laid).
  DERIVED. THE GIVEN ROWS OF THIS SEAT. 7 by the template 'for every input the law returns true; each argument reads behind the call as it read before'; 0 by the template 'total and deterministic' (their statements: YtkphaclfapkfoaaTotals.lean).
  GIVEN WITH THE SEED: the statements are not yours to turn. If you find one false, say at which input.
  Laid BY PROGRAM, IN A SANDBOX (cutbox-rows.mjs): the forced cells as the released guide's own fill.sh prints them over the translation 13a5fe84fe5edb12… (all of the seat's roots in one cut). By AI agents, Wed Nov 11 2026. No macro, syntax, notation, axiom, sorry.
-/
import Derived.Test.YtkphaclfapkfoaaChecked
import GoSem.Claim
import GoSem.ClaimJoined
import GoSem.ClaimMapViews
import Derived.JoinedTies
import Derived.KernelRfl
namespace Go.Proofs.Ytkphaclfapkfoaa
/- THE CELL 'sum', in the pinned program and in every row, IS THE sha256 OF THE DUMP (.gsa) THAT YtkphaclfapkfoaaProg.lean LOADS. Nothing in Lean hashes anything: it is a label: what it is worth is what the hold of that sum in a sandbox is worth. -/
noncomputable def Try.pinned : Pinned := { name := "ytkphaclfapkfoaa", sum := "13a5fe84fe5edb127aa7161346783ca5a51738be2273fb9be6ce04636dea2a8c", checked := Try.checked }
namespace Rows
def none {H : Type} : Left H := { results := [], args := [] }

/-- 'parcenerlaw01.RatioSums': WHATEVER THE INPUT: true; the input reads as it did. -/
def ratioSumsSpec : ChangeSpec := { name := "ratioSums", fn := fun _ => fun
  | [d1, d2] => { results := [.lit (.bool true)], args := [d1, d2] }
  | _ => none }
def ratioSumsRow : OpenClaim := { program := "ytkphaclfapkfoaa", sum := "13a5fe84fe5edb127aa7161346783ca5a51738be2273fb9be6ce04636dea2a8c", func := "parcener/parcenerlaw01.RatioSums", spec := "ratioSums", inPlace := ["math/bits.Add64", "math/bits.Sub64"], named := ["math/bits.divideError", "math/bits.overflowError"], apart := false }
def RatioSumsSaid : Prop := ratioSumsRow.holds Try.pinned (OpenSpec.ofChange ratioSumsSpec)

/-- ITS FALSE NEIGHBOUR: 'it returns false'. Refute it at one input. -/
def ratioSumsWrong : ChangeSpec := { name := "ratioSums", fn := fun _ => fun
  | [d1, d2] => { results := [.lit (.bool false)], args := [d1, d2] }
  | _ => none }
def RatioSumsWrongFalsely : Prop := ratioSumsRow.holds Try.pinned (OpenSpec.ofChange ratioSumsWrong)

/-- 'parcenerlaw01.RatioProducts': WHATEVER THE INPUT: true; the input reads as it did. -/
def ratioProductsSpec : ChangeSpec := { name := "ratioProducts", fn := fun _ => fun
  | [d1, d2, d3, d4] => { results := [.lit (.bool true)], args := [d1, d2, d3, d4] }
  | _ => none }
def ratioProductsRow : OpenClaim := { program := "ytkphaclfapkfoaa", sum := "13a5fe84fe5edb127aa7161346783ca5a51738be2273fb9be6ce04636dea2a8c", func := "parcener/parcenerlaw01.RatioProducts", spec := "ratioProducts", apart := false }
def RatioProductsSaid : Prop := ratioProductsRow.holds Try.pinned (OpenSpec.ofChange ratioProductsSpec)

/-- ITS FALSE NEIGHBOUR: 'it returns false'. Refute it at one input. -/
def ratioProductsWrong : ChangeSpec := { name := "ratioProducts", fn := fun _ => fun
  | [d1, d2, d3, d4] => { results := [.lit (.bool false)], args := [d1, d2, d3, d4] }
  | _ => none }
def RatioProductsWrongFalsely : Prop := ratioProductsRow.holds Try.pinned (OpenSpec.ofChange ratioProductsWrong)

/-- 'parcenerlaw02.CakeNames': WHATEVER THE INPUT: true; the input reads as it did. -/
def cakeNamesSpec : ChangeSpec := { name := "cakeNames", fn := fun _ => fun
  | [] => { results := [.lit (.bool true)], args := [] }
  | _ => none }
def cakeNamesRow : OpenClaim := { program := "ytkphaclfapkfoaa", sum := "13a5fe84fe5edb127aa7161346783ca5a51738be2273fb9be6ce04636dea2a8c", func := "parcener/parcenerlaw02.CakeNames", spec := "cakeNames", inPlace := ["math/bits.Add64", "math/bits.Sub64"], unfollowed := true, recurses := true, named := ["math/bits.divideError", "math/bits.overflowError"], apart := false }
def CakeNamesSaid : Prop := cakeNamesRow.holds Try.pinned (OpenSpec.ofChange cakeNamesSpec)

/-- ITS FALSE NEIGHBOUR: 'it returns false'. Refute it at one input. -/
def cakeNamesWrong : ChangeSpec := { name := "cakeNames", fn := fun _ => fun
  | [] => { results := [.lit (.bool false)], args := [] }
  | _ => none }
def CakeNamesWrongFalsely : Prop := cakeNamesRow.holds Try.pinned (OpenSpec.ofChange cakeNamesWrong)

/-- 'parcenerlaw02.CakeChecks': WHATEVER THE INPUT: true; the input reads as it did. -/
def cakeChecksSpec : ChangeSpec := { name := "cakeChecks", fn := fun _ => fun
  | [d1, d2, d3] => { results := [.lit (.bool true)], args := [d1, d2, d3] }
  | _ => none }
def cakeChecksRow : OpenClaim := { program := "ytkphaclfapkfoaa", sum := "13a5fe84fe5edb127aa7161346783ca5a51738be2273fb9be6ce04636dea2a8c", func := "parcener/parcenerlaw02.CakeChecks", spec := "cakeChecks", inPlace := ["math/bits.Add64", "math/bits.Sub64"], unfollowed := true, recurses := true, apart := false }
def CakeChecksSaid : Prop := cakeChecksRow.holds Try.pinned (OpenSpec.ofChange cakeChecksSpec)

/-- ITS FALSE NEIGHBOUR: 'it returns false'. Refute it at one input. -/
def cakeChecksWrong : ChangeSpec := { name := "cakeChecks", fn := fun _ => fun
  | [d1, d2, d3] => { results := [.lit (.bool false)], args := [d1, d2, d3] }
  | _ => none }
def CakeChecksWrongFalsely : Prop := cakeChecksRow.holds Try.pinned (OpenSpec.ofChange cakeChecksWrong)

/-- 'parcenerlaw02.CakeParts': WHATEVER THE INPUT: true; the input reads as it did. -/
def cakePartsSpec : ChangeSpec := { name := "cakeParts", fn := fun _ => fun
  | [d1, d2, d3] => { results := [.lit (.bool true)], args := [d1, d2, d3] }
  | _ => none }
def cakePartsRow : OpenClaim := { program := "ytkphaclfapkfoaa", sum := "13a5fe84fe5edb127aa7161346783ca5a51738be2273fb9be6ce04636dea2a8c", func := "parcener/parcenerlaw02.CakeParts", spec := "cakeParts", unfollowed := true, recurses := true, apart := false }
def CakePartsSaid : Prop := cakePartsRow.holds Try.pinned (OpenSpec.ofChange cakePartsSpec)

/-- ITS FALSE NEIGHBOUR: 'it returns false'. Refute it at one input. -/
def cakePartsWrong : ChangeSpec := { name := "cakeParts", fn := fun _ => fun
  | [d1, d2, d3] => { results := [.lit (.bool false)], args := [d1, d2, d3] }
  | _ => none }
def CakePartsWrongFalsely : Prop := cakePartsRow.holds Try.pinned (OpenSpec.ofChange cakePartsWrong)

/-- 'parcenerlaw02.CakeInverse': WHATEVER THE INPUT: true; the input reads as it did. -/
def cakeInverseSpec : ChangeSpec := { name := "cakeInverse", fn := fun _ => fun
  | [d1, d2, d3, d4, d5] => { results := [.lit (.bool true)], args := [d1, d2, d3, d4, d5] }
  | _ => none }
def cakeInverseRow : OpenClaim := { program := "ytkphaclfapkfoaa", sum := "13a5fe84fe5edb127aa7161346783ca5a51738be2273fb9be6ce04636dea2a8c", func := "parcener/parcenerlaw02.CakeInverse", spec := "cakeInverse", inPlace := ["math/bits.Add64", "math/bits.Sub64"], unfollowed := true, recurses := true, named := ["math/bits.divideError", "math/bits.overflowError"], apart := false }
def CakeInverseSaid : Prop := cakeInverseRow.holds Try.pinned (OpenSpec.ofChange cakeInverseSpec)

/-- ITS FALSE NEIGHBOUR: 'it returns false'. Refute it at one input. -/
def cakeInverseWrong : ChangeSpec := { name := "cakeInverse", fn := fun _ => fun
  | [d1, d2, d3, d4, d5] => { results := [.lit (.bool false)], args := [d1, d2, d3, d4, d5] }
  | _ => none }
def CakeInverseWrongFalsely : Prop := cakeInverseRow.holds Try.pinned (OpenSpec.ofChange cakeInverseWrong)

/-- 'parcenerlaw02.CakeAdds': WHATEVER THE INPUT: true; the input reads as it did. -/
def cakeAddsSpec : ChangeSpec := { name := "cakeAdds", fn := fun _ => fun
  | [d1, d2, d3, d4] => { results := [.lit (.bool true)], args := [d1, d2, d3, d4] }
  | _ => none }
def cakeAddsRow : OpenClaim := { program := "ytkphaclfapkfoaa", sum := "13a5fe84fe5edb127aa7161346783ca5a51738be2273fb9be6ce04636dea2a8c", func := "parcener/parcenerlaw02.CakeAdds", spec := "cakeAdds", inPlace := ["math/bits.Add64", "math/bits.Sub64"], unfollowed := true, recurses := true, named := ["math/bits.divideError", "math/bits.overflowError"], apart := false }
def CakeAddsSaid : Prop := cakeAddsRow.holds Try.pinned (OpenSpec.ofChange cakeAddsSpec)

/-- ITS FALSE NEIGHBOUR: 'it returns false'. Refute it at one input. -/
def cakeAddsWrong : ChangeSpec := { name := "cakeAdds", fn := fun _ => fun
  | [d1, d2, d3, d4] => { results := [.lit (.bool false)], args := [d1, d2, d3, d4] }
  | _ => none }
def CakeAddsWrongFalsely : Prop := cakeAddsRow.holds Try.pinned (OpenSpec.ofChange cakeAddsWrong)

/- THE SECOND FORM. 'bulk': how many values and letters a reading holds, each counted each time it is reached (what is shared counts as often as it is met; a slice's spare places count too). A statement '..UptoSaid' is the law's where the arguments, and the package variables that the reading takes, are together of bulk at most 1048576: NARROWER than '..Said'. Prove '..Said' where nothing that the law and all that it calls make is longer than what came in: it says more and counts as full. Else prove '..UptoSaid'. A law counts once. -/
mutual
def uptoBulk {H : Type} : DataW H → Nat
  | .lit (.string bytes) => bytes.length + 1
  | .lit _ => 1
  | .nil => 1
  | .ptr d => uptoBulk d + 1
  | .slice elems spare => uptoBulkAll elems + uptoBulkAll spare + 1
  | .agg parts => uptoBulkAll parts + 1
  | .iface _ d => uptoBulk d + 1
  | .map entries => uptoBulkEntries entries + 1
  | .held _ => 1
def uptoBulkAll {H : Type} : List (DataW H) → Nat
  | [] => 0
  | d :: r => uptoBulk d + uptoBulkAll r
def uptoBulkEntries {H : Type} : List (Lit × DataW H) → Nat
  | [] => 0
  | x :: r => uptoBulkEntry x + uptoBulkEntries r
def uptoBulkEntry {H : Type} : Lit × DataW H → Nat
  | (.string bytes, d) => bytes.length + uptoBulk d + 1
  | (_, d) => uptoBulk d + 1
 end
def uptoSmall : (H : Type) → List (DataW H) → Bool := fun _ ds => decide (uptoBulkAll ds ≤ 1048576)
def OpenSpec.upto (s : _root_.Go.ChangeSpec) : _root_.Go.OpenSpec := { _root_.Go.OpenSpec.ofChange s with cond := some uptoSmall }

/-- 'parcenerlaw01.RatioSums', WHERE WHAT IT READS IS OF BULK AT MOST 1048576: true; the input reads as it did. -/
def ratioSumsUptoRow : OpenClaim := { program := "ytkphaclfapkfoaa", sum := "13a5fe84fe5edb127aa7161346783ca5a51738be2273fb9be6ce04636dea2a8c", func := "parcener/parcenerlaw01.RatioSums", spec := "ratioSums", inPlace := ["math/bits.Add64", "math/bits.Sub64"], named := ["math/bits.divideError", "math/bits.overflowError"], apart := false, narrowed := true }
def RatioSumsUptoSaid : Prop := ratioSumsUptoRow.holds Try.pinned (OpenSpec.upto ratioSumsSpec)

/-- 'parcenerlaw01.RatioProducts', WHERE WHAT IT READS IS OF BULK AT MOST 1048576: true; the input reads as it did. -/
def ratioProductsUptoRow : OpenClaim := { program := "ytkphaclfapkfoaa", sum := "13a5fe84fe5edb127aa7161346783ca5a51738be2273fb9be6ce04636dea2a8c", func := "parcener/parcenerlaw01.RatioProducts", spec := "ratioProducts", apart := false, narrowed := true }
def RatioProductsUptoSaid : Prop := ratioProductsUptoRow.holds Try.pinned (OpenSpec.upto ratioProductsSpec)

/-- 'parcenerlaw02.CakeNames', WHERE WHAT IT READS IS OF BULK AT MOST 1048576: true; the input reads as it did. -/
def cakeNamesUptoRow : OpenClaim := { program := "ytkphaclfapkfoaa", sum := "13a5fe84fe5edb127aa7161346783ca5a51738be2273fb9be6ce04636dea2a8c", func := "parcener/parcenerlaw02.CakeNames", spec := "cakeNames", inPlace := ["math/bits.Add64", "math/bits.Sub64"], unfollowed := true, recurses := true, named := ["math/bits.divideError", "math/bits.overflowError"], apart := false, narrowed := true }
def CakeNamesUptoSaid : Prop := cakeNamesUptoRow.holds Try.pinned (OpenSpec.upto cakeNamesSpec)

/-- 'parcenerlaw02.CakeChecks', WHERE WHAT IT READS IS OF BULK AT MOST 1048576: true; the input reads as it did. -/
def cakeChecksUptoRow : OpenClaim := { program := "ytkphaclfapkfoaa", sum := "13a5fe84fe5edb127aa7161346783ca5a51738be2273fb9be6ce04636dea2a8c", func := "parcener/parcenerlaw02.CakeChecks", spec := "cakeChecks", inPlace := ["math/bits.Add64", "math/bits.Sub64"], unfollowed := true, recurses := true, apart := false, narrowed := true }
def CakeChecksUptoSaid : Prop := cakeChecksUptoRow.holds Try.pinned (OpenSpec.upto cakeChecksSpec)

/-- 'parcenerlaw02.CakeParts', WHERE WHAT IT READS IS OF BULK AT MOST 1048576: true; the input reads as it did. -/
def cakePartsUptoRow : OpenClaim := { program := "ytkphaclfapkfoaa", sum := "13a5fe84fe5edb127aa7161346783ca5a51738be2273fb9be6ce04636dea2a8c", func := "parcener/parcenerlaw02.CakeParts", spec := "cakeParts", unfollowed := true, recurses := true, apart := false, narrowed := true }
def CakePartsUptoSaid : Prop := cakePartsUptoRow.holds Try.pinned (OpenSpec.upto cakePartsSpec)

/-- 'parcenerlaw02.CakeInverse', WHERE WHAT IT READS IS OF BULK AT MOST 1048576: true; the input reads as it did. -/
def cakeInverseUptoRow : OpenClaim := { program := "ytkphaclfapkfoaa", sum := "13a5fe84fe5edb127aa7161346783ca5a51738be2273fb9be6ce04636dea2a8c", func := "parcener/parcenerlaw02.CakeInverse", spec := "cakeInverse", inPlace := ["math/bits.Add64", "math/bits.Sub64"], unfollowed := true, recurses := true, named := ["math/bits.divideError", "math/bits.overflowError"], apart := false, narrowed := true }
def CakeInverseUptoSaid : Prop := cakeInverseUptoRow.holds Try.pinned (OpenSpec.upto cakeInverseSpec)

/-- 'parcenerlaw02.CakeAdds', WHERE WHAT IT READS IS OF BULK AT MOST 1048576: true; the input reads as it did. -/
def cakeAddsUptoRow : OpenClaim := { program := "ytkphaclfapkfoaa", sum := "13a5fe84fe5edb127aa7161346783ca5a51738be2273fb9be6ce04636dea2a8c", func := "parcener/parcenerlaw02.CakeAdds", spec := "cakeAdds", inPlace := ["math/bits.Add64", "math/bits.Sub64"], unfollowed := true, recurses := true, named := ["math/bits.divideError", "math/bits.overflowError"], apart := false, narrowed := true }
def CakeAddsUptoSaid : Prop := cakeAddsUptoRow.holds Try.pinned (OpenSpec.upto cakeAddsSpec)

end Rows
end Go.Proofs.Ytkphaclfapkfoaa
