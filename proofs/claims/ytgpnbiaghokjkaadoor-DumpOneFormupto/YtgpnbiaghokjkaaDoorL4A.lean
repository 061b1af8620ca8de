
import Derived.Test.YtgpnbiaghokjkaaDoorD21Pa
/-! The statements' own functions: done, mixed. -/
namespace Go.Proofs.YtgpnbiaghokjkaaDoor
open Go.RowKit

end Go.Proofs.YtgpnbiaghokjkaaDoor
