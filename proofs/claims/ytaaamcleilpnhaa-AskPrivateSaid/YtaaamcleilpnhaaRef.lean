/- Contracts of the reference of layer 1: gcd, abs, Check, Both, less, plus, minus. -/
import Derived.Test.YtaaamcleilpnhaaRat
namespace Go.Proofs.Ytaaamcleilpnhaa
open Go.RowKit








end Go.Proofs.Ytaaamcleilpnhaa
