/- Contracts of the reference's Less and Cmp. -/
import Derived.Test.YtaaamcleilpnhaaTimes
import Derived.Test.YtaaamcleilpnhaaPub
namespace Go.Proofs.Ytaaamcleilpnhaa
open Go.RowKit



end Go.Proofs.Ytaaamcleilpnhaa
