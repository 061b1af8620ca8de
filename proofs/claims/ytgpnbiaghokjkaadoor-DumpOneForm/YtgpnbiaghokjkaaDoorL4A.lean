
import Derived.Test.YtgpnbiaghokjkaaDoorC4New
/-! The statements' own functions: done, mixed. -/
namespace Go.Proofs.YtgpnbiaghokjkaaDoor
open Go.RowKit

end Go.Proofs.YtgpnbiaghokjkaaDoor
