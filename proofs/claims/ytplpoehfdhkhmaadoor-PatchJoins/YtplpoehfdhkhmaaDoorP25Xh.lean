
import Derived.Test.YtplpoehfdhkhmaaDoorP25X2
/-! The law of layer 25: PatchChains. (Printed by tools/genlw25.py.) -/
namespace Go.Proofs.YtplpoehfdhkhmaaDoor
open Go.RowKit
set_option linter.unusedVariables false

section
variable {M J : List By -> List By -> List By}
end
/-- What Join answers, in one row. -/
def jT (J : List By -> List By -> List By) (p q : List By) : List By × Nat × Nat := match joinsR p q with | .error (k, a) => ([], k, a) | .ok _ => (J p q, 0, 0)
theorem joinsR_wrong {p q : List By} {k a : Nat} (h : joinsR p q = .error (k, a)) : k ≠ 0 := by
  unfold joinsR at h
  split at h
  · rename_i e a' he
    have := (readR_wrong he).1
    injection h with h; injection h with h1 h2; omega
  · split at h
    · rename_i e a' he
      have := (readR_wrong he).1
      injection h with h; injection h with h1 h2; omega
    · split at h
      · injection h with h; injection h with h1 h2; omega
      · cases h
theorem cjo_uni {J : List By -> List By -> List By} {w : World} {p q : List By} {e : Ending} {w' : World} (h : CJo J w p q e w') : Below w.heap.size w w' /\ ∃ b v, e = .returned (.tuple #[b, v]) /\ BV w' b (jT J p q).1 /\ ErO w' (jT J p q).2.1 (jT J p q).2.2 v := by
  refine ⟨h.1, ?_⟩
  have h2 := h.2
  unfold jT
  cases hr : joinsR p q with
  | error ka =>
    rw [hr] at h2
    obtain ⟨b, v, e1, hb, hv⟩ := h2
    exact ⟨b, v, e1, hb, .inr ⟨joinsR_wrong (k := ka.1) (a := ka.2) hr, hv⟩⟩
  | ok m =>
    rw [hr] at h2
    obtain ⟨b, e1, hb⟩ := h2
    exact ⟨b, _, e1, hb, .inl ⟨rfl, rfl, rfl⟩⟩

section
variable {W1 : World} {ge gf : Nat} {oo tt : Option Addr} {on oc tn tc : Nat} {S1 : ByteArray} {L : Nat -> Bool} {x111 x112 x113 x114 x115 x116 x117 x118 x119 x120 x121 x122 x123 x124 x125 x2 : Value} {W W2 : World}
end
section
variable {W1 : World} {ge gf : Nat} {oo tt : Option Addr} {on oc tn tc : Nat} {S1 : ByteArray} {L : Nat -> Bool} {x111 x112 x113 x114 x115 x116 x117 x118 x119 x120 x121 x122 x123 x124 x125 x2 : Value} {W W2 : World}
end
end Go.Proofs.YtplpoehfdhkhmaaDoor
