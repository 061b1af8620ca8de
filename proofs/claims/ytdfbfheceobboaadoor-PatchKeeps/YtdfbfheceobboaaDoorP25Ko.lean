import Derived.Test.YtdfbfheceobboaaDoorP25Jg
import Derived.Test.YtdfbfheceobboaaDoorP25T
import Derived.Test.YtdfbfheceobboaaDoorP25Laid

/-! The code's contracts, together. -/
namespace Go.Proofs.YtdfbfheceobboaaDoor
open Go.RowKit
theorem own_BV {N : Nat} {W : World} {v : Value} {m : List By} (h : Own N W v m) : BV W v m := by
  obtain ⟨ao, c, rfl⟩ := own_form h
  exact ⟨ao, c, rfl, own_IsB h, own_nc h, own_cap h⟩
theorem nil_BV (W : World) : BV W (.slice none 0 0) [] := ⟨none, 0, rfl, Or.inl rfl, fun _ => rfl, Nat.le_refl _⟩
theorem pchOf : ∃ M J, Pch M J := by
  refine ⟨makeM, joinJ, ?_, ?_, ?_, ?_, made25M, joined25J⟩
  · intro w po n pc p _ h1 h2 h3 h4 h5
    exact cread_any w po n pc p (SlB.of h1 h3 h4 h5) h2
  · intro w ao n c old po pn pc p _ h1 h2 h3 h4 h5 k1 k2 k3 k4 k5
    refine (capply_any w ao n c old po pn pc p (SlB.of h1 h3 h4 h5) (SlB.of k1 k3 k4 k5) h2 k2).mono ?_
    rintro e w' ⟨hb, hx⟩
    refine ⟨hb, ?_⟩
    cases hR : applyR old p with
    | error ka =>
      obtain ⟨k, a⟩ := ka
      rw [hR] at hx
      obtain ⟨v, he, hv⟩ := hx
      exact ⟨_, v, he, nil_BV w', hv⟩
    | ok m =>
      rw [hR] at hx
      obtain ⟨bo, bc, he, ho⟩ := hx
      exact ⟨_, he, own_BV ho⟩
  · intro w ao n c old po pn pc new _ h1 h2 h3 h4 h5 k1 k2 k3 k4 k5
    refine (cmake_any w ao n c old po pn pc new (SlB.of h1 h3 h4 h5) (SlB.of k1 k3 k4 k5) h2 k2).mono ?_
    rintro e w' ⟨hb, b, ho, he⟩
    exact ⟨hb, b, own_BV ho, he⟩
  · intro w ao n c p po pn pc q _ h1 h2 h3 h4 h5 k1 k2 k3 k4 k5
    refine (cjoinO_any w ao n c p po pn pc q (SlB.of h1 h3 h4 h5) (SlB.of k1 k3 k4 k5) h2 k2).mono ?_
    rintro e w' ⟨hb, hx⟩
    refine ⟨hb, ?_⟩
    cases hR : joinsR p q with
    | error ka =>
      obtain ⟨k, a⟩ := ka
      rw [hR] at hx
      obtain ⟨v, he, hv⟩ := hx
      exact ⟨_, v, he, nil_BV w', hv⟩
    | ok xy =>
      rw [hR] at hx
      obtain ⟨bo, bc, he, ho⟩ := hx
      exact ⟨_, he, own_BV ho⟩
end Go.Proofs.YtdfbfheceobboaaDoor


/-! The code's contracts, as PatchKeeps wants them. -/
namespace Go.Proofs.YtdfbfheceobboaaDoor
open Go.RowKit
theorem mostN_le (old new : List By) : mostN old new ≤ 82 + new.length := by
  unfold mostN
  split
  · omega
  · exact Nat.min_le_right _ _
def mkO (a b : List By) : List By := if a.length ≤ 524288 ∧ b.length ≤ 524288 then makeM a b else []
theorem RowIn.slb {w : World} {ao : Option Addr} {c : Nat} {m : List By} (h : RowIn w ao c m) : SlB w.heap.size w ao m.length c m := SlB.of rfl h.cap h.nil h.isb
theorem own_nil0 {w w' : World} (h : Below w.heap.size w w') : Own w.heap.size w' (.slice none 0 0) [] := own_nil _ _ h.size
theorem pchOOf : PchO mkO (fun a p => (aT a p).1) (fun p q => (jT joinJ p q).1) := by
  refine ⟨fun w ao c a bo d b h1 h2 => ?_, fun w ao c a bo d b h1 h2 => ?_, fun w ao c a bo d b h1 h2 => ?_, fun a b => ?_, fun a b => ?_, fun a b => ?_⟩
  · refine (cmake_any w ao a.length c a bo b.length d b h1.slb h2.slb h1.len h2.len).mono ?_
    rintro e w' ⟨hb, v, ho, rfl⟩
    refine ⟨hb, ?_⟩
    have ho2 : Own w.heap.size w' v (mkO a b) := ho
    obtain ⟨xo, xc, rfl⟩ := own_form ho2
    exact ⟨xo, xc, _, rfl, ho2⟩
  · refine (capply_any w ao a.length c a bo b.length d b h1.slb h2.slb h1.len h2.len).mono ?_
    rintro e w' ⟨hb, hx⟩
    refine ⟨hb, ?_⟩
    unfold aT
    cases hR : applyR a b with
    | error ka =>
      obtain ⟨k, p⟩ := ka
      rw [hR] at hx
      obtain ⟨v, he, hv⟩ := hx
      exact ⟨none, 0, v, he, own_nil0 hb⟩
    | ok m =>
      rw [hR] at hx
      obtain ⟨xo, xc, he, ho⟩ := hx
      exact ⟨xo, xc, _, he, ho⟩
  · refine (cjoinO_any w ao a.length c a bo b.length d b h1.slb h2.slb h1.len h2.len).mono ?_
    rintro e w' ⟨hb, hx⟩
    refine ⟨hb, ?_⟩
    unfold jT
    cases hR : joinsR a b with
    | error ka =>
      obtain ⟨k, p⟩ := ka
      rw [hR] at hx
      obtain ⟨v, he, hv⟩ := hx
      exact ⟨none, 0, v, he, own_nil0 hb⟩
    | ok m =>
      rw [hR] at hx
      obtain ⟨xo, xc, he, ho⟩ := hx
      exact ⟨xo, xc, _, he, ho⟩
  · unfold mkO
    split
    · rename_i h
      obtain ⟨x, _, _, _, _, _, _, hl⟩ := made25M a b h.1 h.2
      have := mostN_le a b
      omega
    · simp
  · have := aT_len a b
    show (aT a b).1.length ≤ 1000000000
    omega
  · show (jT joinJ a b).1.length ≤ 1000000000
    unfold jT
    cases hR : joinsR a b with
    | error ka => simp
    | ok m =>
      obtain ⟨z, _, _, _, _, _, hl, _⟩ := joined25J a b m.1 m.2 hR
      show (joinJ a b).length ≤ 1000000000
      omega
end Go.Proofs.YtdfbfheceobboaaDoor
