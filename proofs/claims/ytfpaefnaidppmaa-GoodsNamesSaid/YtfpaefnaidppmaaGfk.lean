/- The base of layer 16's texts. -/
import Derived.Test.YtfpaefnaidppmaaGde
import Derived.Test.YtfpaefnaidppmaaYm
import Derived.Test.YtfpaefnaidppmaaYi
import Derived.Test.YtfpaefnaidppmaaYf
import Derived.Test.YtfpaefnaidppmaaYo
namespace Go.Proofs.Ytfpaefnaidppmaa
theorem gfk : True := trivial
end Go.Proofs.Ytfpaefnaidppmaa
