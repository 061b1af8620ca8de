import Derived.Test.YtgpnbiaghokjkaaDoorD21P7
import Derived.Test.YtgpnbiaghokjkaaDoorD21TC
/-! Layer 21: the landed code keeps its contracts. -/
namespace Go.Proofs.YtgpnbiaghokjkaaDoor
open Go.RowKit
theorem ParO.parP {T : List By} {w w' : World} {e : Ending} (h : ParO T w e w') : ParP T w e w' := by
  obtain ⟨v, qs, h1, h2, _, h3⟩ := h
  exact ⟨v, h1, h2, h3⟩
theorem dmpOf : Dmp := ⟨fun c v t w hq h hl he => print_any c v t w hq h hl he, fun T w hT => (parse_own T (by omega) w).mono fun e w' h => h.parP⟩
end Go.Proofs.YtgpnbiaghokjkaaDoor
