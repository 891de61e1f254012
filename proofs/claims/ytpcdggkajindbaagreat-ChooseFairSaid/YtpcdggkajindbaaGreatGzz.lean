/- Package trim: less, whole, end, share. -/
import Derived.Test.YtpcdggkajindbaaGreatGk
import Derived.Test.YtpcdggkajindbaaGreatSd
import Derived.Test.YtpcdggkajindbaaGreatGm
import Derived.Test.YtpcdggkajindbaaGreatMake
import Derived.Test.YtpcdggkajindbaaGreatPoint
import Derived.Test.YtpcdggkajindbaaGreatGn
namespace Go.Proofs.YtpcdggkajindbaaGreat
open Go.RowKit
end Go.Proofs.YtpcdggkajindbaaGreat

