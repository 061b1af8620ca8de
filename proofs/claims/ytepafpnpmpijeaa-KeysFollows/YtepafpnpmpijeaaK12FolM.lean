
import Derived.Test.YtepafpnpmpijeaaK12Tells
/-! Secrets taken out of others: the same ring, if there are as many numbers. -/
namespace Go.Proofs.Ytepafpnpmpijeaa
open Go.RowKit
set_option linter.unusedVariables false

theorem secE_none {l : Secs} {i : Nat} (h : secE l i = none) : 0 ≤ (l.getD i (0, [])).1 ∧ (l.getD i (0, [])).1 ≤ 63 ∧ 1 ≤ (l.getD i (0, [])).2.length ∧ (l.getD i (0, [])).2.length ≤ 256 ∧ (fnd (l.take i) (l.getD i (0, [])).1).isSome = false := by
  unfold secE at h
  by_cases h1 : (l.getD i (0, [])).1 < 0 ∨ 63 < (l.getD i (0, [])).1
  · rw [if_pos h1] at h; cases h
  · rw [if_neg h1] at h
    by_cases h2 : (l.getD i (0, [])).2.length < 1 ∨ 256 < (l.getD i (0, [])).2.length
    · rw [if_pos h2] at h; cases h
    · rw [if_neg h2] at h
      cases h3 : (fnd (l.take i) (l.getD i (0, [])).1).isSome with
      | false => exact ⟨by omega, by omega, by omega, by omega, rfl⟩
      | true => rw [h3] at h; cases h
theorem newE_er {l : Secs} {er : Int} {i : Nat} (h : newE l = some (er, i)) : er = 3 ∨ er = 2 ∨ er = 4 ∨ er = 18 := by
  unfold newE at h
  by_cases h1 : 64 < l.length
  · rw [if_pos h1] at h
    injection h with h
    injection h with h _
    exact .inl h.symm
  · rw [if_neg h1] at h
    obtain ⟨j, _, hj⟩ := List.exists_of_findSome?_eq_some h
    cases he : secE l j with
    | none => rw [he] at hj; cases hj
    | some e =>
      rw [he] at hj
      injection hj with hj
      injection hj with hj _
      subst hj
      unfold secE at he
      split at he
      · injection he with he; exact .inr (.inl he.symm)
      · split at he
        · injection he with he; exact .inr (.inr (.inl he.symm))
        · split at he
          · injection he with he; exact .inr (.inr (.inr he.symm))
          · cases he
theorem fnd_key {l : Secs} {key : Int} {i : Nat} (h : fnd l key = some i) : (l.getD i (0, [])).1 = key := by
  unfold fnd at h
  rw [List.findIdx?_eq_some_iff_getElem] at h
  obtain ⟨h1, h2, _⟩ := h
  rw [List.getD_eq_getElem?_getD, List.getElem?_eq_getElem h1]
  simpa using h2
theorem fnd_has {l : Secs} {key : Int} {i : Nat} (hi : i < l.length) (h : (l.getD i (0, [])).1 = key) : (fnd l key).isSome = true := by
  cases hf : fnd l key with
  | some j => rfl
  | none => exact absurd h ((fnd_none_iff l key).1 hf i hi)
theorem take_getD {l : Secs} {i j : Nat} (h : j < i) (hi : i ≤ l.length) : (l.take i).getD j (0, []) = l.getD j (0, []) := by
  simp [List.getD_eq_getElem?_getD, h]
/-- Two of a ring's secrets have unlike keys. -/
theorem new_apart {l : Secs} (h : newE l = none) {i j : Nat} (hi : i < l.length) (hj : j < l.length) (he : (l.getD i (0, [])).1 = (l.getD j (0, [])).1) : i = j := by
  have key : ∀ a b, a < b → b < l.length → (l.getD a (0, [])).1 = (l.getD b (0, [])).1 → False := by
    intro a b hab hb he
    have h1 := (secE_none ((newE_none h).2 b hb)).2.2.2.2
    have h2 := fnd_has (l := l.take b) (key := (l.getD b (0, [])).1) (i := a) (by rw [List.length_take]; omega) (by rw [take_getD hab (by omega)]; exact he)
    rw [h1] at h2; cases h2
  rcases Nat.lt_trichotomy i j with h1 | h1 | h1
  · exact (key i j h1 hj he).elim
  · exact h1
  · exact (key j i h1 hi he.symm).elim
theorem new_out {l : Secs} (h : newE l = none) {key : Int} (hk : key < 0 ∨ 63 < key) : fnd l key = none := by
  rw [fnd_none_iff]
  intro i hi e
  have := secE_none ((newE_none h).2 i hi)
  omega
/-- All of o stand in l. -/
def SubS (o l : Secs) : Prop := ∀ i, i < o.length → ∃ j, j < l.length ∧ o.getD i (0, []) = l.getD j (0, [])
theorem sub_has {o l : Secs} (h : SubS o l) {key : Int} (hk : (fnd o key).isSome = true) : (fnd l key).isSome = true := by
  cases hf : fnd o key with
  | none => rw [hf] at hk; cases hk
  | some i =>
    obtain ⟨j, hj, e⟩ := h i (fnd_lt hf)
    refine fnd_has hj ?_
    rw [← e]; exact fnd_key hf
theorem filter_same (p q : Nat → Bool) (r : List Nat) (h : ∀ x, p x = true → q x = true) (hl : (r.filter q).length ≤ (r.filter p).length) : r.filter p = r.filter q := by
  have e : r.filter p = (r.filter q).filter p := by
    rw [List.filter_filter]
    apply List.filter_congr
    intro x _
    cases hp : p x with
    | false => rfl
    | true => rw [h x hp]; rfl
  have s : (r.filter p).Sublist (r.filter q) := by
    rw [e]; exact List.filter_sublist
  exact s.eq_of_length_le hl
theorem sub_same {o l : Secs} (hl : newE l = none) (ho : newE o = none) (h : SubS o l) (hn : (nums l 64).length ≤ (nums o 64).length) : nums o 64 = nums l 64 ∧ ∀ key, (fnd o key).isSome = (fnd l key).isSome := by
  have e := filter_same (fun (i : Nat) => (fnd o (i : Int)).isSome) (fun (i : Nat) => (fnd l (i : Int)).isSome) (List.range 64) (fun x hx => sub_has h hx) (by unfold nums at hn; rwa [List.length_map, List.length_map] at hn)
  refine ⟨by unfold nums; rw [e], fun key => ?_⟩
  by_cases hk : key < 0 ∨ 63 < key
  · rw [new_out hl hk, new_out ho hk]
  · obtain ⟨n, rfl⟩ : ∃ n : Nat, key = n := ⟨key.toNat, by omega⟩
    have h1 : (n ∈ (List.range 64).filter fun (i : Nat) => (fnd o (i : Int)).isSome) ↔ (n ∈ (List.range 64).filter fun (i : Nat) => (fnd l (i : Int)).isSome) := by rw [e]
    simp only [List.mem_filter, List.mem_range] at h1
    have h2 : n < 64 := by omega
    rw [Bool.eq_iff_iff]
    constructor
    · exact fun h => (h1.1 ⟨h2, h⟩).2
    · exact fun h => (h1.2 ⟨h2, h⟩).2
theorem sub_sgn {o l : Secs} (hl : newE l = none) (h : SubS o l) {key : Int} (hk : (fnd o key).isSome = (fnd l key).isSome) (b : List By) : sgn o key b = sgn l key b ∧ sgnE o key = sgnE l key := by
  cases hf : fnd o key with
  | none =>
    rw [hf] at hk
    cases hg : fnd l key with
    | some i => rw [hg] at hk; cases hk
    | none => unfold sgn sgnE; rw [hf, hg]; exact ⟨rfl, rfl⟩
  | some i =>
    rw [hf] at hk
    cases hg : fnd l key with
    | none => rw [hg] at hk; cases hk
    | some j =>
      obtain ⟨k, hk2, e⟩ := h i (fnd_lt hf)
      have e2 : k = j := new_apart hl hk2 (fnd_lt hg) (by rw [← e, fnd_key hf, fnd_key hg])
      subst e2
      unfold sgn sgnE
      rw [hf, hg]
      exact ⟨by show tag (o.getD i (0, [])).2 b = tag (l.getD k (0, [])).2 b; rw [e], rfl⟩
theorem sgnE_has (l : Secs) (key : Int) : (sgnE l key == 0) = (fnd l key).isSome := by
  unfold sgnE
  cases fnd l key <;> rfl
theorem subS_nil (l : Secs) : SubS [] l := fun i hi => absurd hi (by simp)
theorem subS_push {o l : Secs} (h : SubS o l) {j : Nat} (hj : j < l.length) : SubS (o ++ [((l.getD j (0, [])).1, (l.getD j (0, [])).2)]) l := by
  intro i hi
  rw [List.length_append, List.length_singleton] at hi
  rcases Nat.lt_or_ge i o.length with h1 | h1
  · obtain ⟨k, hk, e⟩ := h i h1
    refine ⟨k, hk, ?_⟩
    rw [← e]
    simp [List.getD_eq_getElem?_getD, List.getElem?_append_left h1]
  · obtain rfl : i = o.length := by omega
    exact ⟨j, hj, by simp [List.getD_eq_getElem?_getD]⟩

end Go.Proofs.Ytepafpnpmpijeaa
