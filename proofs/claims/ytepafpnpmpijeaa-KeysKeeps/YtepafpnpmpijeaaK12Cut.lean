
import Derived.Test.YtepafpnpmpijeaaK12Tells
/-! KeysKeeps cut into stages: its statements one behind the other. -/
namespace Go.Proofs.Ytepafpnpmpijeaa
open Go.RowKit
set_option linter.unusedVariables false

def dropS : Nat → Code → Code
  | 0, c => c
  | n + 1, .seq _ b => dropS n b
  | _ + 1, c => c
def KP (w : World) : Ending → World → Prop := fun e w' => e = .returned (.bool true) ∧ Below w.heap.size w w'
end Go.Proofs.Ytepafpnpmpijeaa
