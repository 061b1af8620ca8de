import Derived.Test.YtljjfhllpbcpeaaR5Inv
/-! Rails: bytes beside their complements, on lists. -/
namespace Go.Proofs.Ytljjfhllpbcpeaa
open Go.RowKit

/-- The rail of bytes. -/
def rail (b : List By) : List By := b ++ b.map (fun x => ~~~x)
theorem rail_len (b : List By) : (rail b).length = 2 * b.length := by simp [rail]; omega
theorem rail_take (b : List By) : (rail b).take b.length = b := by simp [rail]
theorem rail_half (b : List By) : (rail b).take ((rail b).length / 2) = b := by
  rw [rail_len, show 2 * b.length / 2 = b.length by omega, rail_take]
theorem rail_inj {a b : List By} (h : rail a = rail b) : a = b := by
  rw [← rail_half a, ← rail_half b, h]

theorem getD_lt {l : List By} {i : Nat} (h : i < l.length) : l.getD i 0 = l[i] := by
  rw [List.getD_eq_getElem?_getD, List.getElem?_eq_getElem h]; rfl
theorem ext_getD {a b : List By} (hl : a.length = b.length) (h : ∀ i, i < a.length → a.getD i 0 = b.getD i 0) : a = b := by
  apply List.ext_getElem hl
  intro i h1 h2
  have := h i h1
  rwa [getD_lt h1, getD_lt h2] at this
theorem rail_lo (b : List By) (i : Nat) (h : i < b.length) : (rail b).getD i 0 = b.getD i 0 := by
  rw [getD_lt (by rw [rail_len]; omega), getD_lt h]
  simp [rail, h]
theorem rail_hi (b : List By) (i : Nat) (h : i < b.length) : (rail b).getD (b.length + i) 0 = ~~~ b.getD i 0 := by
  rw [getD_lt (by rw [rail_len]; omega), getD_lt h]
  simp [rail]

/-- Is it a rail? -/
abbrev isRail (m : List By) : Prop := m.length % 2 = 0 ∧ ∀ i, i < m.length / 2 → m.getD i 0 = ~~~ m.getD (m.length / 2 + i) 0
theorem isRail_rail (b : List By) : isRail (rail b) := by
  have hl := rail_len b
  refine ⟨by omega, fun i hi => ?_⟩
  rw [show (rail b).length / 2 = b.length by omega] at hi ⊢
  rw [rail_lo b i hi, rail_hi b i hi]; simp
theorem rail_of_isRail {m : List By} (h : isRail m) : rail (m.take (m.length / 2)) = m := by
  have hl : (m.take (m.length / 2)).length = m.length / 2 := by simp; omega
  have h0 := h.1
  refine ext_getD (by rw [rail_len, hl]; omega) fun i hi => ?_
  rw [rail_len, hl] at hi
  by_cases hlo : i < m.length / 2
  · rw [rail_lo _ i (by omega), getD_lt (by omega), getD_lt (by omega)]; simp
  · have e : i = (m.take (m.length / 2)).length + (i - m.length / 2) := by omega
    rw [e, rail_hi _ _ (by omega), hl]
    have := h.2 (i - m.length / 2) (by omega)
    rw [getD_lt (l := m.take (m.length / 2)) (by omega)]
    have e2 : m.getD (i - m.length / 2) 0 = (m.take (m.length / 2))[i - m.length / 2]'(by omega) := by
      rw [getD_lt (by omega)]; simp
    rw [← e2, this]; simp
theorem isRail_iff (m : List By) : isRail m ↔ ∃ b, m = rail b := ⟨fun h => ⟨_, (rail_of_isRail h).symm⟩, by rintro ⟨b, rfl⟩; exact isRail_rail b⟩
/-- The answer of Right. -/
def rightB (m : List By) : Bool := decide (isRail m)

/-- Does a lie below b? -/
abbrev isBelow (a b : List By) : Prop := a.length = b.length ∧ ∀ i, i < a.length → a.getD i 0 &&& ~~~ b.getD i 0 = 0
def belowB (a b : List By) : Bool := decide (isBelow a b)

/-- What Get tells, and its number. -/
def gotB (m : List By) : List By := if isRail m then m.take (m.length / 2) else []
def gotE (m : List By) : Int := if isRail m then 0 else 5
theorem gotB_len (m : List By) : (gotB m).length ≤ m.length := by
  unfold gotB; split
  · simp; omega
  · simp
end Go.Proofs.Ytljjfhllpbcpeaa
