import Derived.Test.YtljjfhllpbcpeaaR5Right2
/-! rail.Below, and the document's. -/
namespace Go.Proofs.Ytljjfhllpbcpeaa
open Go.RowKit

theorem and_not8 (x y : By) : bits .andNot .u8 (x.toNat : Int) (y.toNat : Int) = ((x &&& ~~~ y).toNat : Int) := by
  show IntKind.u8.wrap ((BitVec.ofInt 8 (x.toNat : Int) &&& ~~~ BitVec.ofInt 8 (y.toNat : Int)).toNat : Int) = _
  rw [bv8_ofInt, bv8_ofInt, IntKind.wrap_u8']
  have := b8_lt (x &&& ~~~ y)
  omega
theorem or_same (x y : By) : x ||| y = y ↔ x &&& ~~~ y = 0 := by
  constructor
  · intro h
    apply BitVec.eq_of_getLsbD_eq
    intro i hi
    have := congrArg (fun v => v.getLsbD i) h
    simp at this ⊢
    intro h1
    exact fun _ => this h1
  · intro h
    apply BitVec.eq_of_getLsbD_eq
    intro i hi
    have := congrArg (fun v => v.getLsbD i) h
    simp [hi] at this ⊢
    exact this

set_option maxHeartbeats 1000000 in
set_option maxRecDepth 100000 in
theorem below_any (ao bo : Option Addr) (na nb ca cb : Nat) (a b : List By) (hna : a.length = na) (hnb : b.length = nb) (w : World) (ha : IsB w ao a) (hb : IsB w bo b) (hla : na ≤ 281474976710656) :
    Calls Try.prog 15 #[.slice ao na ca, .slice bo nb cb] w fun e w' => e = .returned (.bool (belowB a b)) ∧ Dr w w' := by
  have HA : Hid (a.length = na) := hna
  have HB : Hid (b.length = nb) := hnb
  have IA : Hid (IsB w ao a) := ha
  have IB : Hid (IsB w bo b) := hb
  clear hna hnb ha hb
  by_cases hne : na = nb
  · subst hne
    have e1 : ((na : Int) != (na : Int)) = false := by simp
    obtain ⟨G, hG⟩ : ∃ G : Prop, G = ∀ j, j < na → a.getD j 0 &&& ~~~ b.getD j 0 = 0 := ⟨_, rfl⟩
    have FIN : Hid (∀ r : Bool, (r = true ↔ G) → r = belowB a b) := by
      intro r hr
      unfold belowB
      have hx : isBelow a b ↔ G := by
        rw [hG]; unfold isBelow; rw [HA.out, HB.out]
        exact ⟨fun x => x.2, fun x => ⟨rfl, x⟩⟩
      cases r
      · rw [eq_comm, decide_eq_false_iff_not, hx]; exact fun g => by simpa using hr.2 g
      · rw [eq_comm, decide_eq_true_iff, hx]; exact hr.1 rfl
    have HG : Hid (G = ∀ j, j < na → a.getD j 0 &&& ~~~ b.getD j 0 = 0) := hG
    clear hG
    go_enter Try.func15, Try.ntmps15
    go_wp2
    go_loopw [13] (fun iv wr => ∃ p : Nat, p ≤ na ∧ iv = .int .i64 p ∧ Dr w wr ∧ Hid (∀ j, j < p → a.getD j 0 &&& ~~~ b.getD j 0 = 0)) (fun iv _ => na - (intOf iv).toNat)
    case atStart => exact ⟨0, by omega, rfl, Dr.refl _, fun j hj => by omega⟩
    case round =>
      obtain ⟨p, hp, rfl, d, heq⟩ := hrel
      by_cases hlt : p < na
      · have y1 : (p : Int) < (na : Int) := by omega
        have y0 : (0 : Int) ≤ (p : Int) := by omega
        obtain ⟨B, off, rfl, c1⟩ := (IA.out.dr d).cell p (by rw [HA.out]; omega)
        obtain ⟨B', off', rfl, c2⟩ := (IB.out.dr d).cell p (by rw [HB.out]; omega)
        have HN : Hid (a.getD p 0 &&& ~~~ b.getD p 0 = 0 → ∀ j, j < p + 1 → a.getD j 0 &&& ~~~ b.getD j 0 = 0) := fun hh j hj => by
          by_cases hjp : j = p
          · rw [hjp]; exact hh
          · exact heq.out j (by omega)
        have HNE : Hid (¬ a.getD p 0 &&& ~~~ b.getD p 0 = 0 → ¬ G) := fun h1 h2 => by
          rw [HG.out] at h2; exact h1 (h2 p hlt)
        clear heq
        generalize a.getD p 0 = x at *
        generalize b.getD p 0 = y at *
        have ny := and_not8 x y
        generalize x &&& ~~~ y = z at *
        have e255 : ((0 : By).toNat : Int) = 0 := by decide
        by_cases hxy : z = 0
        · have e9 := eq8 hxy
          rw [e255] at e9
          have HN2 : Hid _ := HN.out hxy
          clear HN HNE hxy e255
          go_wp2
          go_quiet (fail)
          go_wp2
          exact ⟨⟨p + 1, by omega, by simp, d.drewN _, HN2⟩, by simp [intOf]; omega⟩
        · have e9 := ne8 hxy
          rw [e255] at e9
          have HN2 : Hid _ := HNE.out hxy
          clear HN HNE hxy e255
          go_wp2
          go_quiet (fail)
          go_wp2
          go_ret
          exact ⟨congrArg _ (congrArg _ (FIN.out _ ⟨fun h => by simp at h, fun h => absurd h HN2.out⟩)), d.drewN _⟩
      · have y1 : ¬ (p : Int) < (na : Int) := by omega
        go_wp2
        go_ret
        exact ⟨congrArg _ (congrArg _ (FIN.out _ ⟨fun _ => by rw [HG.out]; exact fun j hj => heq.out j (by omega), fun _ => rfl⟩)), d⟩
  · have e0 : ((na : Int) != (nb : Int)) = true := by rw [bne_iff_ne]; omega
    have hr : belowB a b = false := by
      unfold belowB; rw [decide_eq_false_iff_not]; intro hh; have h1 := hh.1; rw [HA.out, HB.out] at h1; exact hne h1
    rw [hr]
    clear hne
    go_enter Try.func15, Try.ntmps15
    go_wp2
    go_ret
    exact ⟨rfl, Dr.refl _⟩

set_option maxHeartbeats 1000000 in
set_option maxRecDepth 100000 in
theorem refBelow_any (ao bo : Option Addr) (na nb ca cb : Nat) (a b : List By) (hna : a.length = na) (hnb : b.length = nb) (w : World) (ha : IsB w ao a) (hb : IsB w bo b) (hla : na ≤ 281474976710656) :
    Calls Try.prog 16 #[.slice ao na ca, .slice bo nb cb] w fun e w' => e = .returned (.bool (belowB a b)) ∧ Dr w w' := by
  have HA : Hid (a.length = na) := hna
  have HB : Hid (b.length = nb) := hnb
  have IA : Hid (IsB w ao a) := ha
  have IB : Hid (IsB w bo b) := hb
  clear hna hnb ha hb
  by_cases hne : na = nb
  · subst hne
    have e1 : ((na : Int) != (na : Int)) = false := by simp
    obtain ⟨G, hG⟩ : ∃ G : Prop, G = ∀ j, j < na → a.getD j 0 &&& ~~~ b.getD j 0 = 0 := ⟨_, rfl⟩
    have FIN : Hid (∀ r : Bool, (r = true ↔ G) → r = belowB a b) := by
      intro r hr
      unfold belowB
      have hx : isBelow a b ↔ G := by
        rw [hG]; unfold isBelow; rw [HA.out, HB.out]
        exact ⟨fun x => x.2, fun x => ⟨rfl, x⟩⟩
      cases r
      · rw [eq_comm, decide_eq_false_iff_not, hx]; exact fun g => by simpa using hr.2 g
      · rw [eq_comm, decide_eq_true_iff, hx]; exact hr.1 rfl
    have HG : Hid (G = ∀ j, j < na → a.getD j 0 &&& ~~~ b.getD j 0 = 0) := hG
    clear hG
    go_enter Try.func16, Try.ntmps16
    go_wp2
    go_loopw [5] (fun iv wr => ∃ p : Nat, p ≤ na ∧ iv = .int .i64 p ∧ Dr w wr ∧ Hid (∀ j, j < p → a.getD j 0 &&& ~~~ b.getD j 0 = 0)) (fun iv _ => na - (intOf iv).toNat)
    case atStart => exact ⟨0, by omega, rfl, Dr.refl _, fun j hj => by omega⟩
    case round =>
      obtain ⟨p, hp, rfl, d, heq⟩ := hrel
      by_cases hlt : p < na
      · have y1 : (p : Int) < (na : Int) := by omega
        have y0 : (0 : Int) ≤ (p : Int) := by omega
        obtain ⟨B, off, rfl, c1⟩ := (IA.out.dr d).cell p (by rw [HA.out]; omega)
        obtain ⟨B', off', rfl, c2⟩ := (IB.out.dr d).cell p (by rw [HB.out]; omega)
        have HN : Hid (a.getD p 0 &&& ~~~ b.getD p 0 = 0 → ∀ j, j < p + 1 → a.getD j 0 &&& ~~~ b.getD j 0 = 0) := fun hh j hj => by
          by_cases hjp : j = p
          · rw [hjp]; exact hh
          · exact heq.out j (by omega)
        have HNE : Hid (¬ a.getD p 0 &&& ~~~ b.getD p 0 = 0 → ¬ G) := fun h1 h2 => by
          rw [HG.out] at h2; exact h1 (h2 p hlt)
        clear heq
        generalize a.getD p 0 = x at *
        generalize b.getD p 0 = y at *
        have ny := bits8_or x y
        have hz := or_same x y
        generalize x ||| y = z at *
        by_cases hxy : z = y
        · have e9 := eq8 hxy
          have HN2 : Hid _ := HN.out (hz.1 hxy)
          clear HN HNE hxy hz
          go_wp2
          go_quiet (fail)
          go_wp2
          exact ⟨⟨p + 1, by omega, by simp, d.drewN _, HN2⟩, by simp [intOf]; omega⟩
        · have e9 := ne8 hxy
          have HN2 : Hid _ := HNE.out (fun h => hxy (hz.2 h))
          clear HN HNE hxy hz
          go_wp2
          go_quiet (fail)
          go_wp2
          go_ret
          exact ⟨congrArg _ (congrArg _ (FIN.out _ ⟨fun h => by simp at h, fun h => absurd h HN2.out⟩)), d.drewN _⟩
      · have y1 : ¬ (p : Int) < (na : Int) := by omega
        go_wp2
        go_ret
        exact ⟨congrArg _ (congrArg _ (FIN.out _ ⟨fun _ => by rw [HG.out]; exact fun j hj => heq.out j (by omega), fun _ => rfl⟩)), d⟩
  · have e0 : ((na : Int) != (nb : Int)) = true := by rw [bne_iff_ne]; omega
    have hr : belowB a b = false := by
      unfold belowB; rw [decide_eq_false_iff_not]; intro hh; have h1 := hh.1; rw [HA.out, HB.out] at h1; exact hne h1
    rw [hr]
    clear hne
    go_enter Try.func16, Try.ntmps16
    go_wp2
    go_ret
    exact ⟨rfl, Dr.refl _⟩
end Go.Proofs.Ytljjfhllpbcpeaa
