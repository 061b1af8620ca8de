
import Derived.Test.YtdfbfheceobboaaDoorP25Rf
/-! The code's patch: how many bytes a row has. -/
namespace Go.Proofs.YtdfbfheceobboaaDoor
open Go.RowKit
set_option linter.unusedVariables false
set_option linter.unusedSimpArgs false
set_option maxRecDepth 100000

/-- A number of bytes at a place. -/
def tlR (p : List By) (a : Nat) : Except (Nat × Nat) Nat := if p.length < a + 4 then .error (6, p.length) else if 524288 < num4 (p.drop a) then .error (5, a) else .ok (num4 (p.drop a))
theorem sE_skip {p : List By} : ∀ (d i k : Nat), (∀ j, i ≤ j → j < i + d → j ≠ p.length ∧ ¬ (j < 5 ∧ p.getD j 0 ≠ hd5.getD j 0) ∧ ¬ (j = 72 ∧ 524288 < num4 (p.drop 69))) → sE p i (d + k) = sE p (i + d) k
  | 0, i, k, _ => by rw [Nat.zero_add, Nat.add_zero]
  | d + 1, i, k, h => by
    obtain ⟨h1, h2, h3⟩ := h i (Nat.le_refl _) (by omega)
    rw [show d + 1 + k = (d + k) + 1 by omega, sE, if_neg h1, if_neg h2, if_neg h3, sE_skip d (i + 1) k fun j hj1 hj2 => h j (by omega) (by omega)]
    rw [show i + 1 + d = i + (d + 1) by omega]
theorem startR_bad {p : List By} {a : Nat} (ha : a < 5) (hn : a < p.length) (hm : ∀ j, j < a → p.getD j 0 = hd5.getD j 0) (hb : p.getD a 0 ≠ hd5.getD a 0) : startR p = .error (5, a) := by
  have h := sE_skip (p := p) a 0 (77 - a) fun j _ hj => ⟨by omega, fun hh => hh.2 (hm j (by omega)), fun hh => by omega⟩
  rw [show a + (77 - a) = 77 by omega, Nat.zero_add] at h
  have hs : sE p 0 77 = some (5, a) := by rw [h, show 77 - a = (76 - a) + 1 by omega, sE, if_neg (by omega), if_pos ⟨ha, hb⟩]
  unfold startR
  rw [hs]
theorem startR_good {p : List By} (hm : ∀ j, j < 5 → j < p.length → p.getD j 0 = hd5.getD j 0) : startR p = match tlR p 69 with
    | .error e => .error e
    | .ok b => match tlR p 73 with
      | .error e => .error e
      | .ok a => .ok ⟨(p.drop 5).take 32, (p.drop 37).take 32, b, a, []⟩ := by
  have hs : sE p 0 77 = if p.length < 73 then some (6, p.length) else if 524288 < num4 (p.drop 69) then some (5, 69) else if p.length < 77 then some (6, p.length) else none := by
    by_cases h1 : p.length < 73
    · rw [if_pos h1]
      have h := sE_skip (p := p) p.length 0 (77 - p.length) fun j _ hj => ⟨by omega, fun hh => hh.2 (hm j hh.1 (by omega)), fun hh => by omega⟩
      rw [show p.length + (77 - p.length) = 77 by omega, Nat.zero_add] at h
      rw [h, show 77 - p.length = (76 - p.length) + 1 by omega, sE, if_pos rfl]
    · rw [if_neg h1]
      by_cases h2 : 524288 < num4 (p.drop 69)
      · rw [if_pos h2]
        have h := sE_skip (p := p) 72 0 5 fun j _ hj => ⟨by omega, fun hh => hh.2 (hm j hh.1 (by omega)), fun hh => by omega⟩
        rw [show 72 + 5 = 77 by omega, Nat.zero_add] at h
        rw [h, sE, if_neg (by omega), if_neg (by omega), if_pos ⟨rfl, h2⟩]
      · rw [if_neg h2]
        by_cases h3 : p.length < 77
        · rw [if_pos h3]
          have h := sE_skip (p := p) p.length 0 (77 - p.length) fun j _ hj => ⟨by omega, fun hh => hh.2 (hm j hh.1 (by omega)), fun hh => h2 hh.2⟩
          rw [show p.length + (77 - p.length) = 77 by omega, Nat.zero_add] at h
          rw [h, show 77 - p.length = (76 - p.length) + 1 by omega, sE, if_pos rfl]
        · rw [if_neg h3]
          have h := sE_skip (p := p) 77 0 0 fun j _ hj => ⟨by omega, fun hh => hh.2 (hm j hh.1 (by omega)), fun hh => h2 hh.2⟩
          exact h
  unfold startR tlR
  rw [hs]
  by_cases h1 : p.length < 73
  · rw [if_pos h1, if_pos (by omega : p.length < 69 + 4)]
  · rw [if_neg h1, if_neg (by omega : ¬ p.length < 69 + 4)]
    by_cases h2 : 524288 < num4 (p.drop 69)
    · rw [if_pos h2, if_pos h2]
    · rw [if_neg h2, if_neg h2]
      by_cases h3 : p.length < 77
      · rw [if_pos h3]
        simp only
        rw [if_pos (by omega : p.length < 73 + 4)]
      · rw [if_neg h3]
        simp only
        rw [if_neg (by omega : ¬ p.length < 73 + 4)]
        by_cases h4 : 524288 < num4 (p.drop 73)
        · rw [if_pos h4, if_pos h4]
        · rw [if_neg h4, if_neg h4]
def TlP (w : World) (R : Except (Nat × Nat) Nat) (e : Ending) (w' : World) : Prop :=
  match R with
  | .error (k, b) => ∃ g, e = .returned (.tuple #[.int .i64 0, .pointer (some ⟨g, 0, none⟩)]) ∧ Row w' g 52 [.int .i64 (k : Int), .int .i64 (b : Int)] ∧ Below w.heap.size w w'
  | .ok n => e = .returned (.tuple #[.int .i64 (n : Int), .pointer none]) ∧ w' = w
set_option maxHeartbeats 1000000 in
theorem ctakelen_any (N : Nat) (w : World) (po : Option Addr) (n pc a : Nat) (p : List By) (hp : SlB N w po n pc p) (hn : n ≤ 140737488351232) (ha : a ≤ 1000) : Calls Tryd.prog 39 #[.slice po n pc, .int .i64 (a : Int)] w (TlP w (tlR p a)) := by
  have hlen := hp.len
  have z1 : IntKind.i64.wrap ((a : Int) + 4) = ((a + 4 : Nat) : Int) := by rw [i64_in _ (by omega) (by omega)]; push_cast; rfl
  by_cases h1 : n < a + 4
  · have x1 : (n : Int) < ((a + 4 : Nat) : Int) := by omega
    have HE : Hid (∀ x, x = .cells #[.int .i64 6, .int .i64 (n : Int)] 52 → TlP w (tlR p a) (.returned (.tuple #[.int .i64 0, .pointer (some ⟨w.heap.size, 0, none⟩)])) (w.alloc x)) := fun x hx => by
      subst hx
      unfold tlR
      rw [if_pos (by omega), hlen]
      exact ⟨_, rfl, Row.at w _ _ _ _ rfl rfl, (Below.refl _ _).alloc (Nat.le_refl _) _⟩
    clear hp
    generalize tlR p a = R at *
    generalize a + 4 = a4 at *
    go_enter Tryd.func39, Tryd.ntmps39
    go_wp2
    go_ret2
    exact HE.out _ rfl
  · have x1 : decide ((n : Int) < ((a + 4 : Nat) : Int)) = false := by rw [decide_eq_false_iff_not]; omega
    have x2 : ¬ (n : Int) < ((a + 4 : Nat) : Int) := by omega
    obtain ⟨B, off, rfl⟩ : ∃ B off, po = some ⟨B, off, none⟩ := by
      rcases hp.isb with h | ⟨B, off, e, _⟩
      · rw [h] at hlen; simp at hlen; omega
      · exact ⟨B, off, e⟩
    have F1 := cnum_any B off n pc p a w hlen (by omega) hp.cap hn hp.isb
    have hk := num4_lt (p.drop a)
    by_cases h2 : 524288 < num4 (p.drop a)
    · have HE : Hid (∀ x, x = .cells #[.int .i64 5, .int .i64 (a : Int)] 52 → TlP w (tlR p a) (.returned (.tuple #[.int .i64 0, .pointer (some ⟨w.heap.size, 0, none⟩)])) (w.alloc x)) := fun x hx => by
        subst hx
        unfold tlR
        rw [if_neg (by omega), if_pos h2]
        exact ⟨_, rfl, Row.at w _ _ _ _ rfl rfl, (Below.refl _ _).alloc (Nat.le_refl _) _⟩
      clear hp
      generalize tlR p a = R at *
      generalize a + 4 = a4 at *
      generalize num4 (p.drop a) = k at *
      have x3 : (524288 : Int) < (k : Int) := by omega
      go_enter Tryd.func39, Tryd.ntmps39
      go_wp2_with fail
      refine F1.mono ?_
      rintro e w2 ⟨rfl, rfl⟩
      dsimp only
      go_wp2
      go_ret2
      exact HE.out _ rfl
    · have HE : Hid (TlP w (tlR p a) (.returned (.tuple #[.int .i64 (num4 (p.drop a) : Int), .pointer none])) w) := by
        show TlP _ _ _ _
        unfold tlR
        rw [if_neg (by omega), if_neg h2]
        exact ⟨rfl, rfl⟩
      clear hp
      generalize tlR p a = R at *
      generalize a + 4 = a4 at *
      generalize num4 (p.drop a) = k at *
      have x3 : decide ((524288 : Int) < (k : Int)) = false := by rw [decide_eq_false_iff_not]; omega
      have x4 : ¬ (524288 : Int) < (k : Int) := by omega
      have z2 : IntKind.i64.wrap (k : Int) = (k : Int) := i64_in _ (by omega) (by omega)
      go_enter Tryd.func39, Tryd.ntmps39
      go_wp2_with fail
      refine F1.mono ?_
      rintro e w2 ⟨rfl, rfl⟩
      dsimp only
      go_wp2
      go_ret2
      exact HE.out
end Go.Proofs.YtdfbfheceobboaaDoor
