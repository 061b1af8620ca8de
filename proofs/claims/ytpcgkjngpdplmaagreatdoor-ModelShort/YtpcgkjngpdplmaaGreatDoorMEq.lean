import Derived.Test.YtpcgkjngpdplmaaGreatDoorR4Inv

import Derived.Test.YtpcgkjngpdplmaaGreatDoorOpenA
import Derived.BigQuiet
/-! Rows of bytes held against each other: the code's, and the document's. -/
namespace Go.Proofs.YtpcgkjngpdplmaaGreatDoor
open Go.RowKit

theorem bits8_xor (x y : By) : bits .xor .u8 (x.toNat : Int) (y.toNat : Int) = ((x ^^^ y).toNat : Int) := by
  show IntKind.u8.wrap ((BitVec.ofInt 8 (x.toNat : Int) ^^^ BitVec.ofInt 8 (y.toNat : Int)).toNat : Int) = _
  rw [bv8_ofInt, bv8_ofInt, IntKind.wrap_u8']
  have := b8_lt (x ^^^ y)
  omega

theorem IsB.cell {w : World} {ao : Option Addr} {m : List By} (h : IsB w ao m) (j : Nat) (hj : j < m.length) : ∃ B off, ao = some ⟨B, off, none⟩ ∧ w.cell? ⟨B, off + j, none⟩ = some (.int .u8 ((m.getD j 0).toNat : Int)) := by
  rcases h with rfl | ⟨B, off, rfl, hc⟩
  · simp at hj
  · refine ⟨B, off, rfl, ?_⟩
    have := hc j (m.getD j 0) (by rw [List.getD_eq_getElem?_getD, List.getElem?_eq_getElem hj]; rfl)
    exact this

set_option maxHeartbeats 1000000 in
set_option maxRecDepth 100000 in
theorem byteAt_any (ao : Option Addr) (n cap : Nat) (m : List By) (hn : m.length = n) (k : Nat) (w : World) (hb : IsB w ao m) :
    Calls Tryz.prog 112 #[.slice ao n cap, .int .i64 (k : Int)] w fun e w' => e = .returned (.int .u8 ((m.getD k 0).toNat : Int)) ∧ w' = w := by
  have i1 : (0 : Int) ≤ (k : Int) := by omega
  by_cases hlt : k < n
  · have i2 : (k : Int) < (n : Int) := by omega
    obtain ⟨B, off, rfl, hc⟩ := hb.cell k (by omega)
    generalize m.getD k 0 = x at hc ⊢
    go_enter Tryz.func112, Tryz.ntmps112
    go_wp2
    go_ret
    exact ⟨rfl, rfl⟩
  · have i2 : ¬ (k : Int) < (n : Int) := by omega
    have e0 : m.getD k 0 = 0 := by rw [List.getD_eq_getElem?_getD, List.getElem?_eq_none (by omega)]; rfl
    rw [e0]
    go_enter Tryz.func112, Tryz.ntmps112
    go_wp2
    go_ret
    exact ⟨rfl, rfl⟩

def SameTo (a b : List By) (k : Nat) : Prop := a.length = b.length ∧ ∀ j, j < k → a.getD j 0 = b.getD j 0
theorem sameTo_all {a b : List By} {k : Nat} (h : SameTo a b k) (hk : a.length ≤ k) : a = b := by
  obtain ⟨h1, h2⟩ := h
  apply List.ext_getElem h1
  intro i hi hi'
  have := h2 i (by omega)
  simpa [List.getD_eq_getElem?_getD, hi, hi'] using this
theorem sameTo_refl (a : List By) (k : Nat) : SameTo a a k := ⟨rfl, fun _ _ => rfl⟩
theorem or_zero (x y z : By) : (x ||| (y ^^^ z)) = 0 ↔ x = 0 ∧ y = z := by
  constructor
  · intro h
    have h1 : x = 0 := by
      apply BitVec.eq_of_getLsbD_eq
      intro i hi
      have := congrArg (fun v => v.getLsbD i) h
      simp at this ⊢
      exact this.1
    refine ⟨h1, ?_⟩
    subst h1
    apply BitVec.eq_of_getLsbD_eq
    intro i hi
    have := congrArg (fun v => v.getLsbD i) h
    simpa using this
  · rintro ⟨rfl, rfl⟩; simp

set_option maxHeartbeats 1000000 in
set_option maxRecDepth 100000 in
theorem equal_any (ao bo : Option Addr) (na nb ca cb : Nat) (a b : List By) (hna : a.length = na) (hnb : b.length = nb) (w : World) (ha : IsB w ao a) (hb : IsB w bo b) (hla : na ≤ 140737488355328) (hlb : nb ≤ 140737488355328) :
    Calls Tryz.prog 101 #[.slice ao na ca, .slice bo nb cb] w fun e w' => e = .returned (.bool (decide (a = b))) ∧ w' = w := by
  have HA : Hid (a.length = na) := hna
  have HB : Hid (b.length = nb) := hnb
  have IA : Hid (IsB w ao a) := ha
  have IB : Hid (IsB w bo b) := hb
  clear hna hnb ha hb
  obtain ⟨mx, hmx⟩ : ∃ n : Nat, n = max na nb := ⟨_, rfl⟩
  have fin : ∀ x : By, (x = 0 ↔ SameTo a b mx) → ((x.toNat : Int) == 0) = decide (a = b) := by
    intro x hx
    have h1 := HA.out
    by_cases hab : a = b
    · subst hab
      have : x = 0 := hx.2 (sameTo_refl a _)
      subst this
      simp
    · have hx0 : x ≠ 0 := fun h => hab (sameTo_all (hx.1 h) (by omega))
      have : x.toNat ≠ 0 := fun h => hx0 (BitVec.eq_of_toNat_eq (by simpa using h))
      rw [decide_eq_false hab, beq_eq_false_iff_ne]
      omega
  have FIN : Hid (∀ x : By, (x = 0 ↔ SameTo a b mx) → ((x.toNat : Int) == 0) = decide (a = b)) := fin
  clear fin
  have HMX : Hid (mx = max na nb) := hmx
  clear hmx
  rcases Nat.lt_trichotomy na nb with hne | hne | hne
  · have e1 : (((na : Int) != (nb : Int)) = true) := by rw [bne_iff_ne]; omega
    obtain rfl : mx = nb := by have := HMX.out; omega
    clear HMX
    go_enter Tryz.func101, Tryz.ntmps101
    go_wp2
    go_loop [5, 17] (fun p i => ∃ k : Nat, k ≤ mx ∧ i = .int .i64 k ∧ ∃ x : By, p = .int .u8 (x.toNat : Int) ∧ Hid (x = 0 ↔ SameTo a b k)) (fun _ i => mx - (intOf i).toNat)
    case atStart =>
      first
        | exact ⟨0, by omega, rfl, 0, rfl, (⟨fun _ => ⟨by rw [HA.out, HB.out], fun j hj => by omega⟩, fun _ => rfl⟩ : (0 : By) = 0 ↔ SameTo a b 0)⟩
        | exact ⟨0, by omega, rfl, 1, rfl, (⟨fun h => absurd h (by decide), fun h => by have h1 := h.1; rw [HA.out, HB.out] at h1; omega⟩ : (1 : By) = 0 ↔ SameTo a b 0)⟩
    case round =>
      obtain ⟨k, hk, rfl, x, rfl, hx⟩ := hrel
      by_cases hlt : k < mx
      · have i1 : (k : Int) < (mx : Int) := by omega
        go_wp2_with fail
        refine (byteAt_any ao _ ca a HA.out k _ IA.out).mono ?_
        rintro e w1 ⟨rfl, rfl⟩
        have hy : Hid (∀ y z : By, y = a.getD k 0 → z = b.getD k 0 → ((x ||| (y ^^^ z)) = 0 ↔ SameTo a b (k + 1))) := by
          intro y z hy hz
          rw [or_zero, hx.out]
          subst hy; subst hz
          constructor
          · rintro ⟨⟨h1, h2⟩, h3⟩
            refine ⟨h1, fun j hj => ?_⟩
            by_cases hjk : j = k
            · subst hjk; exact h3
            · exact h2 j (by omega)
          · rintro ⟨h1, h2⟩
            exact ⟨⟨h1, fun j hj => h2 j (by omega)⟩, h2 k (by omega)⟩
        obtain ⟨y, hya⟩ : ∃ y, y = a.getD k 0 := ⟨_, rfl⟩
        rw [← hya]
        have HYA : Hid (y = a.getD k 0) := hya
        clear hya
        go_wp2_with fail
        refine (byteAt_any bo _ cb b HB.out k _ IB.out).mono ?_
        rintro e w2 ⟨rfl, rfl⟩
        obtain ⟨z, hzb⟩ : ∃ z, z = b.getD k 0 := ⟨_, rfl⟩
        rw [← hzb]
        have HZB : Hid (z = b.getD k 0) := hzb
        clear hzb
        have f1 := bits8_xor y z
        have f2 := bits8_or x (y ^^^ z)
        go_wp2
        refine ⟨⟨k + 1, by omega, by go_num, x ||| (y ^^^ z), ?_, hy.out y z HYA.out HZB.out⟩, by simp [intOf]; omega⟩
        rw [← BitVec.toNat_xor, f2]
      · obtain rfl : k = mx := by omega
        have F := FIN.out x hx.out
        have i1 : ¬ (k : Int) < (k : Int) := by omega
        clear hlt hk
        go_wp2
        go_ret
        exact ⟨by rw [← F]; rfl, rfl⟩
  · subst hne
    have e1 : (((na : Int) != (na : Int)) = false) := by simp
    obtain rfl : mx = na := by have := HMX.out; omega
    clear HMX
    go_enter Tryz.func101, Tryz.ntmps101
    go_wp2
    go_loop [5, 17] (fun p i => ∃ k : Nat, k ≤ mx ∧ i = .int .i64 k ∧ ∃ x : By, p = .int .u8 (x.toNat : Int) ∧ Hid (x = 0 ↔ SameTo a b k)) (fun _ i => mx - (intOf i).toNat)
    case atStart =>
      first
        | exact ⟨0, by omega, rfl, 0, rfl, (⟨fun _ => ⟨by rw [HA.out, HB.out], fun j hj => by omega⟩, fun _ => rfl⟩ : (0 : By) = 0 ↔ SameTo a b 0)⟩
        | exact ⟨0, by omega, rfl, 1, rfl, (⟨fun h => absurd h (by decide), fun h => by have h1 := h.1; rw [HA.out, HB.out] at h1; omega⟩ : (1 : By) = 0 ↔ SameTo a b 0)⟩
    case round =>
      obtain ⟨k, hk, rfl, x, rfl, hx⟩ := hrel
      by_cases hlt : k < mx
      · have i1 : (k : Int) < (mx : Int) := by omega
        go_wp2_with fail
        refine (byteAt_any ao _ ca a HA.out k _ IA.out).mono ?_
        rintro e w1 ⟨rfl, rfl⟩
        have hy : Hid (∀ y z : By, y = a.getD k 0 → z = b.getD k 0 → ((x ||| (y ^^^ z)) = 0 ↔ SameTo a b (k + 1))) := by
          intro y z hy hz
          rw [or_zero, hx.out]
          subst hy; subst hz
          constructor
          · rintro ⟨⟨h1, h2⟩, h3⟩
            refine ⟨h1, fun j hj => ?_⟩
            by_cases hjk : j = k
            · subst hjk; exact h3
            · exact h2 j (by omega)
          · rintro ⟨h1, h2⟩
            exact ⟨⟨h1, fun j hj => h2 j (by omega)⟩, h2 k (by omega)⟩
        obtain ⟨y, hya⟩ : ∃ y, y = a.getD k 0 := ⟨_, rfl⟩
        rw [← hya]
        have HYA : Hid (y = a.getD k 0) := hya
        clear hya
        go_wp2_with fail
        refine (byteAt_any bo _ cb b HB.out k _ IB.out).mono ?_
        rintro e w2 ⟨rfl, rfl⟩
        obtain ⟨z, hzb⟩ : ∃ z, z = b.getD k 0 := ⟨_, rfl⟩
        rw [← hzb]
        have HZB : Hid (z = b.getD k 0) := hzb
        clear hzb
        have f1 := bits8_xor y z
        have f2 := bits8_or x (y ^^^ z)
        go_wp2
        refine ⟨⟨k + 1, by omega, by go_num, x ||| (y ^^^ z), ?_, hy.out y z HYA.out HZB.out⟩, by simp [intOf]; omega⟩
        rw [← BitVec.toNat_xor, f2]
      · obtain rfl : k = mx := by omega
        have F := FIN.out x hx.out
        have i1 : ¬ (k : Int) < (k : Int) := by omega
        clear hlt hk
        go_wp2
        go_ret
        exact ⟨by rw [← F]; rfl, rfl⟩
  · have e1 : (((na : Int) != (nb : Int)) = true) := by rw [bne_iff_ne]; omega
    obtain rfl : mx = na := by have := HMX.out; omega
    clear HMX
    go_enter Tryz.func101, Tryz.ntmps101
    go_wp2
    go_loop [5, 17] (fun p i => ∃ k : Nat, k ≤ mx ∧ i = .int .i64 k ∧ ∃ x : By, p = .int .u8 (x.toNat : Int) ∧ Hid (x = 0 ↔ SameTo a b k)) (fun _ i => mx - (intOf i).toNat)
    case atStart =>
      first
        | exact ⟨0, by omega, rfl, 0, rfl, (⟨fun _ => ⟨by rw [HA.out, HB.out], fun j hj => by omega⟩, fun _ => rfl⟩ : (0 : By) = 0 ↔ SameTo a b 0)⟩
        | exact ⟨0, by omega, rfl, 1, rfl, (⟨fun h => absurd h (by decide), fun h => by have h1 := h.1; rw [HA.out, HB.out] at h1; omega⟩ : (1 : By) = 0 ↔ SameTo a b 0)⟩
    case round =>
      obtain ⟨k, hk, rfl, x, rfl, hx⟩ := hrel
      by_cases hlt : k < mx
      · have i1 : (k : Int) < (mx : Int) := by omega
        go_wp2_with fail
        refine (byteAt_any ao _ ca a HA.out k _ IA.out).mono ?_
        rintro e w1 ⟨rfl, rfl⟩
        have hy : Hid (∀ y z : By, y = a.getD k 0 → z = b.getD k 0 → ((x ||| (y ^^^ z)) = 0 ↔ SameTo a b (k + 1))) := by
          intro y z hy hz
          rw [or_zero, hx.out]
          subst hy; subst hz
          constructor
          · rintro ⟨⟨h1, h2⟩, h3⟩
            refine ⟨h1, fun j hj => ?_⟩
            by_cases hjk : j = k
            · subst hjk; exact h3
            · exact h2 j (by omega)
          · rintro ⟨h1, h2⟩
            exact ⟨⟨h1, fun j hj => h2 j (by omega)⟩, h2 k (by omega)⟩
        obtain ⟨y, hya⟩ : ∃ y, y = a.getD k 0 := ⟨_, rfl⟩
        rw [← hya]
        have HYA : Hid (y = a.getD k 0) := hya
        clear hya
        go_wp2_with fail
        refine (byteAt_any bo _ cb b HB.out k _ IB.out).mono ?_
        rintro e w2 ⟨rfl, rfl⟩
        obtain ⟨z, hzb⟩ : ∃ z, z = b.getD k 0 := ⟨_, rfl⟩
        rw [← hzb]
        have HZB : Hid (z = b.getD k 0) := hzb
        clear hzb
        have f1 := bits8_xor y z
        have f2 := bits8_or x (y ^^^ z)
        go_wp2
        refine ⟨⟨k + 1, by omega, by go_num, x ||| (y ^^^ z), ?_, hy.out y z HYA.out HZB.out⟩, by simp [intOf]; omega⟩
        rw [← BitVec.toNat_xor, f2]
      · obtain rfl : k = mx := by omega
        have F := FIN.out x hx.out
        have i1 : ¬ (k : Int) < (k : Int) := by omega
        clear hlt hk
        go_wp2
        go_ret
        exact ⟨by rw [← F]; rfl, rfl⟩

end Go.Proofs.YtpcgkjngpdplmaaGreatDoor
