/- The reference's joined: either. -/
import Derived.Test.YtnnpmegknlgkoaaPrj
import Derived.Deep.RegionLaw
namespace Go.Proofs.Ytnnpmegknlgkoaa
open Go.RowKit


end Go.Proofs.Ytnnpmegknlgkoaa
