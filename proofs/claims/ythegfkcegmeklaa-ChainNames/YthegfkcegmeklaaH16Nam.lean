
import Derived.Test.YthegfkcegmeklaaH16Fixed
import Derived.Test.YthegfkcegmeklaaH16Tells
/-! ChainNames, of any chain in code. -/
namespace Go.Proofs.Ythegfkcegmeklaa
open Go.RowKit
set_option maxRecDepth 100000 in
theorem names_any {Lg : (Nat → Prop) → World → Addr → List EvV → Prop} (C : Chn Lg) (w : World) : Calls Try.prog 3 #[] w (KP w) := by
  have FX := fixed_any C w
  go_enter Try.func3, Try.ntmps3
  go_wp2_with fail
  refine FX.mono ?_
  rintro e w2 ⟨rfl, hb⟩
  dsimp only
  go_wp2
  go_ret
  exact ⟨rfl, hb⟩
end Go.Proofs.Ythegfkcegmeklaa
