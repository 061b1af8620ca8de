
import Derived.Test.YtgpnbiaghokjkaaDoorL4A
/-! The statements' own function fixed. -/
namespace Go.Proofs.YtgpnbiaghokjkaaDoor
open Go.RowKit

end Go.Proofs.YtgpnbiaghokjkaaDoor
