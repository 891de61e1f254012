/- The texts of ratios: what Text and Parse return, as functions on lists of bytes. -/
import Derived.Test.YtaaamcleilpnhaaNum
import Derived.Lib.ItoaNum
import Derived.Lib.ParseIntB
import Derived.Lib.ParseIntBCases
import Derived.Lib.IndexMore
namespace Go.Proofs.Ytaaamcleilpnhaa
namespace Rp
/-- The text of a valid ratio. -/
def txt (n d : Int) : List UInt8 := Lib.itoa n ++ (if d = 1 then [] else 47 :: Lib.itoa d)
/-- Text, error. -/
def txtS (n d : Int) : List UInt8 × Int := if Ok n d then (txt n d, 0) else ([], 8)
def okOf : Lib.NumEnd Int → Option Int
  | .ok v => some v
  | _ => none
def topOf (l : List UInt8) : List UInt8 := (Lib.cut l [47]).1
def botOf (l : List UInt8) : List UInt8 := if (Lib.cut l [47]).2.2 then (Lib.cut l [47]).2.1 else [49]
/-- Numerator, denominator, error. -/
def parseS (l : List UInt8) : Int × Int × Int :=
  match okOf (Lib.parseIntB 64 (topOf l)), okOf (Lib.parseIntB 64 (botOf l)) with
  | some n, some d => if Ok n d ∧ txt n d = l then (n, d, 0) else (0, 0, 12)
  | _, _ => (0, 0, 12)
def dgo (n : Nat) : List UInt8 → Nat × Bool
  | [] => (n, decide (n ≤ 1000000000000000000))
  | c :: r => if c.toNat < 48 ∨ 57 < c.toNat ∨ 100000000000000000 < n then (0, false) else dgo (10 * n + (c.toNat - 48)) r
def digS (l : List UInt8) : Nat × Bool :=
  if l.length = 0 ∨ 19 < l.length ∨ (1 < l.length ∧ l[0]? = some 48) then (0, false) else dgo 0 l
end Rp
end Go.Proofs.Ytaaamcleilpnhaa
