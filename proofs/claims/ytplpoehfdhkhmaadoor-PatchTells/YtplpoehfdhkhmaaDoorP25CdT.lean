
import Derived.Test.YtplpoehfdhkhmaaDoorP25Rl
import Derived.Test.YtplpoehfdhkhmaaDoorP25Pc
/-! The code's contracts but Join, together. -/
namespace Go.Proofs.YtplpoehfdhkhmaaDoor
open Go.RowKit
theorem own_BV {N : Nat} {W : World} {v : Value} {m : List By} (h : Own N W v m) : BV W v m := by
  obtain ⟨ao, c, rfl⟩ := own_form h
  exact ⟨ao, c, rfl, own_IsB h, own_nc h, own_cap h⟩
theorem nil_BV (W : World) : BV W (.slice none 0 0) [] := ⟨none, 0, rfl, Or.inl rfl, fun _ => rfl, Nat.le_refl _⟩
theorem pchTOf : ∃ M, PchT M := by
  refine ⟨makeM, ?_, ?_, ?_, made25M⟩
  · intro w po n pc p _ h1 h2 h3 h4 h5
    exact cread_any w po n pc p (SlB.of h1 h3 h4 h5) h2
  · intro w ao n c old po pn pc p _ h1 h2 h3 h4 h5 k1 k2 k3 k4 k5
    refine (capply_any w ao n c old po pn pc p (SlB.of h1 h3 h4 h5) (SlB.of k1 k3 k4 k5) h2 k2).mono ?_
    rintro e w' ⟨hb, hx⟩
    refine ⟨hb, ?_⟩
    cases hR : applyR old p with
    | error ka =>
      obtain ⟨k, a⟩ := ka
      rw [hR] at hx
      obtain ⟨v, he, hv⟩ := hx
      exact ⟨_, v, he, nil_BV w', hv⟩
    | ok m =>
      rw [hR] at hx
      obtain ⟨bo, bc, he, ho⟩ := hx
      exact ⟨_, he, own_BV ho⟩
  · intro w ao n c old po pn pc new _ h1 h2 h3 h4 h5 k1 k2 k3 k4 k5
    refine (cmake_any w ao n c old po pn pc new (SlB.of h1 h3 h4 h5) (SlB.of k1 k3 k4 k5) h2 k2).mono ?_
    rintro e w' ⟨hb, b, ho, he⟩
    exact ⟨hb, b, own_BV ho, he⟩
end Go.Proofs.YtplpoehfdhkhmaaDoor
