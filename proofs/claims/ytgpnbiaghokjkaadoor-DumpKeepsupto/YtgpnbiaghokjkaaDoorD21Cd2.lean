import Derived.Test.YtgpnbiaghokjkaaDoorD21Cd
import Derived.Test.YtgpnbiaghokjkaaDoorD21KM
/-! Layer 21: what the landed code tells lies in memory of its own. -/
namespace Go.Proofs.YtgpnbiaghokjkaaDoor
open Go.RowKit
theorem dmp2Of : Dmp2 := { dmpOf with own := fun T w hT => parse_own T (by omega) w }
end Go.Proofs.YtgpnbiaghokjkaaDoor
