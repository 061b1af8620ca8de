import Derived.Test.YtgpnbiaghokjkaaDoorD21SpM
import Derived.Test.YtgpnbiaghokjkaaDoorC4Lay2
/-! Layer 21: DumpReturns, of any code that keeps its contracts. (Printed by tools/genlaw21.py.) -/
namespace Go.Proofs.YtgpnbiaghokjkaaDoor
open Go.RowKit
set_option linter.unusedVariables false
set_option linter.unusedSimpArgs false
set_option maxRecDepth 100000

/-- What Lay tells, beside Print. -/
theorem lay_prp {c : Cfg} {t : St} {w w' : World} {e : Ending} {T : List By} {k : Int} (h : LayPost c t w e w') (hp : PrP c t T k) : Below w.heap.size w w' ∧ ∃ v, e = .returned (.tuple #[v, .int .i64 k]) := by
  refine ⟨h.1, ?_⟩
  rcases h.2 with ⟨h1, h2⟩ | ⟨h1, h2, h3⟩ | ⟨h1, h2, F, h3, _⟩
  · rcases hp with ⟨g1, _⟩ | ⟨_, _, g4⟩
    · exact absurd g1 h1
    · rw [if_neg h1] at g4
      rw [may_ne h1] at h2
      subst g4
      exact ⟨_, h2⟩
  · rcases hp with ⟨_, g2, _⟩ | ⟨_, _, g4⟩
    · exact absurd g2 h2
    · rw [if_pos h1] at g4
      subst g4
      exact ⟨_, h3⟩
  · rcases hp with ⟨_, _, _, g4⟩ | ⟨g1, _, _⟩
    · subst g4
      exact ⟨_, h3⟩
    · exact absurd ⟨h1, h2⟩ g1

end Go.Proofs.YtgpnbiaghokjkaaDoor
