import Derived.Test.YtgpnbiaghokjkaaDoorD21Rd
import Derived.Test.YtgpnbiaghokjkaaDoorD21Open
import Derived.Test.YtgpnbiaghokjkaaDoorTie
import Derived.Test.YtgpnbiaghokjkaaDoorCards
import Derived.SevenTiedAt
import Derived.SizedLaws
import Derived.WalkKit
import Derived.ProofKit
import Derived.OpenShut
import Derived.LaidLaws
import Derived.LaidHandle
import Derived.Stop.LaidErr
import Derived.Lib.LaidTab
import Derived.Deep.DeepHandedRow
/-! The listed tables: what they hold. -/
namespace Go.Proofs.YtgpnbiaghokjkaaDoor
open Go.ChangeShapes Go.WideShapes Go.ChangeAt Go.RowKit
set_option maxRecDepth 100000

def laidL : List (String × DataW Unit) := Rows.dumpNamesRow.laid
theorem Tryd.gTab : Tryd.prog.globalNamed "internal/strconv.uint64pow10" = some 1 := by kernel_rfl
theorem Tryd.gTy : (Tryd.prog.globals[1]?).map (·.type) = some 123 := by kernel_rfl
theorem Tryd.cTab : Tryd.prog.cellsOf 123 = 20 := by kernel_rfl
theorem Tryd.cU64 : Tryd.prog.cellsOf 114 = 1 := by kernel_rfl
theorem tabD : (Rows.laid_internal_strconv_uint64pow10 : DataW Unit) = Lib.tabData .u64 Lib.pow10Tab := by kernel_rfl
/-- What the rows' list gives: the table stands. -/
theorem tab_of_laid {W : World} (h : laidMetH Tryd.prog laidL W) : Tab W := by
  have h1 : laidMet Tryd.prog laidL W := h
  have h2 : laidMet Tryd.prog [("internal/strconv.uint64pow10", Rows.laid_internal_strconv_uint64pow10)] W := h1.tail.tail
  rw [tabD] at h2
  exact Lib.tabIs_of_head (rest := []) Tryd.gTab Tryd.gTy Tryd.underlying123 Tryd.underlying114 Tryd.cU64 Tryd.cTab h2

/-- A datum's cells. -/
def cellsD : DataW Unit → Array Value
  | .agg l => (l.map fun | .lit (.int k z) => Value.int k z | _ => undef).toArray
  | _ => #[]
def holdD (w0 : World) (g : Nat) (d : DataW Unit) : World :=
  { w0 with heap := w0.heap.modify g fun
      | .cells _ t frozen => .cells (cellsD d) t frozen
      | o => o }
/-- That the condition can be met: one such world. -/
def laidOf (w0 : World) : World := holdD (holdD (holdD w0 1 Rows.laid_internal_strconv_uint64pow10) 2 Rows.laid_math_bits_deBruijn32tab) 3 Rows.laid_math_bits_deBruijn64tab
theorem laidWorld_met (os : Os) (args : Array Value) : laidMetH Tryd.prog laidL ((laidOf (World.holding Tryd.prog os ⟨#[], #[], []⟩)).forCall (fun _ _ => 0) ⟨#[], args, []⟩).memory :=
  show laidMet Tryd.prog laidL _ from laidMet_of_run' 8 (by kernel_rfl) (by kernel_rfl)
end Go.Proofs.YtgpnbiaghokjkaaDoor
