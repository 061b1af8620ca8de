
import Derived.Test.YtepafpnpmpijeaaMRefOf
import Derived.Test.YtepafpnpmpijeaaMOf
/-! The reference's rings: find, Has. -/
namespace Go.Proofs.Ytepafpnpmpijeaa
open Go.RowKit
set_option linter.unusedVariables false

/-- A ring's secrets: numbers and bytes, as they came. -/
abbrev Secs := List (Int × List By)
/-- The place of a key. -/
def fnd (l : Secs) (key : Int) : Option Nat := l.findIdx? fun p => p.1 == key
def fndI (l : Secs) (key : Int) : Int := match fnd l key with | some i => (i : Int) | none => -1

/-- The reference's ring in memory. -/
structure RgAt (w : World) (g : Nat) (ao : Option Addr) (cap : Nat) (vs : List Value) (l : Secs) : Prop where
  row : Row w g 57 [.slice ao l.length cap]
  key : ∀ i, i < l.length → ∃ q, ao = some ⟨q, 0, none⟩ ∧ w.cell? ⟨q, i * 2, none⟩ = some (.int .i64 (l.getD i (0, [])).1) ∧ w.cell? ⟨q, i * 2 + 1, none⟩ = some (vs.getD i undef)
  bytes : ∀ i, i < l.length → ∃ bo n c, vs.getD i undef = .slice bo n c ∧ IsB w bo (l.getD i (0, [])).2 ∧ n = (l.getD i (0, [])).2.length ∧ n ≤ c ∧ (bo = none → c = 0)

theorem fnd_none_iff (l : Secs) (key : Int) : fnd l key = none ↔ ∀ i, i < l.length → (l.getD i (0, [])).1 ≠ key := by
  unfold fnd
  rw [List.findIdx?_eq_none_iff]
  constructor
  · intro h i hi he
    have := h (l[i]) (List.getElem_mem hi)
    rw [List.getD_eq_getElem?_getD, List.getElem?_eq_getElem hi] at he
    simp at this he
    exact this he
  · intro h x hx
    obtain ⟨i, hi, rfl⟩ := List.mem_iff_getElem.1 hx
    have := h i hi
    rw [List.getD_eq_getElem?_getD, List.getElem?_eq_getElem hi] at this
    simpa using this
theorem fnd_some (l : Secs) (key : Int) (k : Nat) (hk : k < l.length) (h1 : (l.getD k (0, [])).1 = key) (h2 : ∀ i, i < k → (l.getD i (0, [])).1 ≠ key) : fnd l key = some k := by
  unfold fnd
  rw [List.findIdx?_eq_some_iff_getElem]
  refine ⟨hk, ?_, ?_⟩
  · rw [List.getD_eq_getElem?_getD, List.getElem?_eq_getElem hk] at h1; simpa using h1
  · intro j hj
    have := h2 j hj
    rw [List.getD_eq_getElem?_getD, List.getElem?_eq_getElem (by omega)] at this
    simpa using this

set_option maxHeartbeats 1000000 in
set_option maxRecDepth 100000 in
theorem find_any (w : World) (g : Nat) (ao : Option Addr) (cap : Nat) (vs : List Value) (l : Secs) (h : RgAt w g ao cap vs l) (hl : l.length ≤ 64) (key : Int) :
    Calls Try.prog 24 #[.pointer (some ⟨g, 0, none⟩), .int .i64 key] w fun e w' => e = .returned (.int .i64 (fndI l key)) ∧ w' = w := by
  have h0 := h.row.cell 0 _ rfl
  have hN : Hid (∀ v, fnd l key = v → fndI l key = match v with | some i => (i : Int) | none => -1) := fun v hv => by unfold fndI; rw [hv]
  go_enter Try.func24, Try.ntmps24
  go_wp2
  go_loopw [5] (fun iv wr => ∃ k : Nat, k ≤ l.length ∧ iv = .int .i64 k ∧ (∀ i, i < k → (l.getD i (0, [])).1 ≠ key) ∧ wr = w) (fun iv _ => l.length - (intOf iv).toNat)
  case atStart => exact ⟨0, by omega, rfl, fun _ hi => absurd hi (by omega), rfl⟩
  case round =>
    obtain ⟨k, hk, rfl, hne, rfl⟩ := hrel
    by_cases hlt : k < l.length
    · have y0 : (0 : Int) ≤ (k : Int) := by omega
      have y1 : (k : Int) < (l.length : Int) := by omega
      obtain ⟨q, hq, hc, hc2⟩ := h.key k hlt
      clear hc2
      subst hq
      by_cases he : (l.getD k (0, [])).1 = key
      · have hF := hN.out _ (fnd_some l key k hlt he hne)
        have HF : Hid (fndI l key = (k : Int)) := hF
        clear hF hN hne h
        rw [he] at hc
        clear he
        go_wp2
        go_ret
        exact ⟨by rw [HF.out]; rfl, rfl⟩
      · have HN : Hid (∀ i, i < k + 1 → (l.getD i (0, [])).1 ≠ key) := fun i hi => by
          rcases Nat.lt_or_ge i k with h1 | h1
          · exact hne i h1
          · obtain rfl : i = k := by omega
            exact he
        generalize (l.getD k (0, [])).1 = x at hc he
        have hb : (x == key) = false := by simpa using he
        clear he hne
        go_wp2
        exact ⟨⟨k + 1, by omega, by go_num, HN.out, trivial⟩, by simp [intOf]; omega⟩
    · obtain rfl : k = l.length := by omega
      have y1 : ¬ ((l.length : Nat) : Int) < (l.length : Int) := by omega
      have hF : Hid (fndI l key = -1) := hN.out _ ((fnd_none_iff l key).2 hne)
      clear hne hN
      go_wp2
      go_ret
      exact ⟨by rw [hF.out]; rfl, rfl⟩

set_option maxHeartbeats 1000000 in
set_option maxRecDepth 100000 in
theorem rhas_any (w : World) (g : Nat) (ao : Option Addr) (cap : Nat) (vs : List Value) (l : Secs) (h : RgAt w g ao cap vs l) (hl : l.length ≤ 64) (key : Int) :
    Calls Try.prog 18 #[.pointer (some ⟨g, 0, none⟩), .int .i64 key] w fun e w' => e = .returned (.bool (fnd l key).isSome) ∧ w' = w := by
  have H : Calls Try.prog 24 #[.pointer (some ⟨g, 0, none⟩), .int .i64 key] w fun e w' => e = .returned (.int .i64 (fndI l key)) ∧ w' = w := find_any w g ao cap vs l h hl key
  have hx : Hid ((fnd l key).isSome = decide (0 ≤ fndI l key)) := by
    show _ = _
    unfold fndI
    cases fnd l key with
    | none => simp
    | some i => simp
  generalize fndI l key = x at H hx
  clear h
  go_enter Try.func18, Try.ntmps18
  go_wp2_with (refine H.mono ?_; rintro e w1 ⟨rfl, rfl⟩)
  by_cases h0 : 0 ≤ x
  · go_wp2
    go_ret
    exact ⟨by rw [hx.out]; simp [h0], rfl⟩
  · go_wp2
    go_ret
    exact ⟨by rw [hx.out]; simp, rfl⟩

end Go.Proofs.Ytepafpnpmpijeaa
