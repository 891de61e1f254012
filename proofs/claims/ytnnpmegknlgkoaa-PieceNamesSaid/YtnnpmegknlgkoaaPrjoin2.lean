/- The reference's joined: without. -/
import Derived.Test.YtnnpmegknlgkoaaPrj
import Derived.Deep.RegionLaw
namespace Go.Proofs.Ytnnpmegknlgkoaa
open Go.RowKit

end Go.Proofs.Ytnnpmegknlgkoaa
