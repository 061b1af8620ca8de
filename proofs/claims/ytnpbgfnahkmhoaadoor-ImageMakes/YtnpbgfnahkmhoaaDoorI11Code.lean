
import Derived.Test.YtnpbgfnahkmhoaaDoorI11CPo
/-! The code's contracts: Make, Parse, Body. (Where the code changes, this text does.) -/
namespace Go.Proofs.YtnpbgfnahkmhoaaDoor
open Go.RowKit

theorem rbody_any (ao : Option Addr) (n cap : Nat) (b : List By) (hb0 : b.length = n) (w : World) (hb : IsB w ao b) (hcap : n ≤ cap) (hl : n ≤ 140737488353280) :
    Calls Tryd.prog 18 #[.slice ao n cap] w fun e w' => ∃ ao' c', e = .returned (.slice ao' (n - 32) c') ∧ Own w.heap.size w' (.slice ao' (n - 32) c') (b.take (n - 32)) ∧ Below w.heap.size w w' := by
  by_cases h : n < 32
  · refine (rbody_short ao n cap w h).mono ?_
    rintro e w' ⟨rfl, rfl⟩
    have e0 : n - 32 = 0 := by omega
    exact ⟨none, 0, by rw [e0], by rw [e0]; exact own_nil _ _ (Nat.le_refl _), Below.refl _ _⟩
  · exact rbody_long ao n cap b hb0 w hb hcap hl (by omega)
end Go.Proofs.YtnpbgfnahkmhoaaDoor
