import Derived.Test.YtljjfhllpbcpeaaR5Right
/-! The document's Right. -/
namespace Go.Proofs.Ytljjfhllpbcpeaa
open Go.RowKit

theorem xor_ff (x y : By) : x ^^^ y = 255 ↔ x = ~~~ y := by
  rw [show (255 : By) = BitVec.allOnes 8 by decide]
  constructor
  · intro h
    have : x = (x ^^^ y) ^^^ y := by rw [BitVec.xor_assoc, BitVec.xor_self, BitVec.xor_zero]
    rw [this, h, BitVec.allOnes_xor]
  · rintro rfl
    rw [← BitVec.allOnes_xor, BitVec.xor_assoc, BitVec.xor_self, BitVec.xor_zero]

set_option maxHeartbeats 1000000 in
set_option maxRecDepth 100000 in
theorem refRight_any (ao : Option Addr) (n cap : Nat) (bs : List By) (hbs : bs.length = n) (w : World) (hb : IsB w ao bs) (hl : n ≤ 281474976710656) :
    Calls Try.prog 14 #[.slice ao n cap] w fun e w' => e = .returned (.bool (rightB bs)) ∧ Dr w w' := by
  have HL : Hid (bs.length = n) := hbs
  have HB : Hid (IsB w ao bs) := hb
  clear hbs hb
  by_cases hodd : n % 2 = 0
  · obtain ⟨h, rfl⟩ : ∃ h, n = 2 * h := ⟨n / 2, by omega⟩
    have e0 : (2 * (h : Int)) / 2 = (h : Int) := by omega
    have e1 : ((2 * (h : Int)) != (2 * (h : Int))) = false := by simp
    obtain ⟨G, hG⟩ : ∃ G : Prop, G = ∀ j, j < h → bs.getD j 0 = ~~~ bs.getD (h + j) 0 := ⟨_, rfl⟩
    have FIN : Hid (∀ r : Bool, (r = true ↔ G) → r = rightB bs) := by
      intro r hr
      unfold rightB
      have hx : isRail bs ↔ G := by
        rw [hG]; unfold isRail; rw [HL.out, show 2 * h / 2 = h by omega]
        exact ⟨fun x => x.2, fun x => ⟨by omega, x⟩⟩
      cases r
      · rw [eq_comm, decide_eq_false_iff_not, hx]; exact fun g => by simpa using hr.2 g
      · rw [eq_comm, decide_eq_true_iff, hx]; exact hr.1 rfl
    have HG : Hid (G = ∀ j, j < h → bs.getD j 0 = ~~~ bs.getD (h + j) 0) := hG
    clear hG hodd
    go_enter Try.func14, Try.ntmps14
    go_wp2
    go_loopw [4] (fun iv wr => ∃ p : Nat, p ≤ h ∧ iv = .int .i64 p ∧ Dr w wr ∧ Hid (∀ j, j < p → bs.getD j 0 = ~~~ bs.getD (h + j) 0)) (fun iv _ => h - (intOf iv).toNat)
    case atStart => exact ⟨0, by omega, rfl, Dr.refl _, fun j hj => by omega⟩
    case round =>
      obtain ⟨p, hp, rfl, d, heq⟩ := hrel
      by_cases hlt : p < h
      · have y1 : (p : Int) < (h : Int) := by omega
        have y0 : (0 : Int) ≤ (p : Int) := by omega
        have y2 : (h : Int) + (p : Int) < 2 * (h : Int) := by omega
        have y3 : (0 : Int) ≤ (h : Int) + (p : Int) := by omega
        have hb1 : IsB wr ao bs := HB.out.dr d
        obtain ⟨B, off, eao, c1⟩ := hb1.cell p (by rw [HL.out]; omega)
        obtain ⟨B', off', eao', c2⟩ := hb1.cell (h + p) (by rw [HL.out]; omega)
        rw [eao] at eao'
        injection eao' with eao'
        injection eao' with e3 e4
        subst e3 e4
        subst eao
        have HN : Hid (bs.getD p 0 = ~~~ bs.getD (h + p) 0 → ∀ j, j < p + 1 → bs.getD j 0 = ~~~ bs.getD (h + j) 0) := fun hh j hj => by
          by_cases hjp : j = p
          · rw [hjp]; exact hh
          · exact heq.out j (by omega)
        have HNE : Hid (¬ bs.getD p 0 = ~~~ bs.getD (h + p) 0 → ¬ G) := fun h1 h2 => by
          rw [HG.out] at h2; exact h1 (h2 p hlt)
        clear hb1 heq
        generalize bs.getD p 0 = x at *
        generalize bs.getD (h + p) 0 = y at *
        have ny := bits8_xor x y
        have hz := xor_ff x y
        generalize x ^^^ y = z at *
        have e255 : ((255 : By).toNat : Int) = 255 := by decide
        by_cases hxy : z = 255
        · have e9 := eq8 hxy
          rw [e255] at e9
          have HN2 : Hid _ := HN.out (hz.1 hxy)
          clear HN HNE hxy hz e255
          go_wp2
          go_quiet (fail)
          go_wp2
          exact ⟨⟨p + 1, by omega, by simp, d.drewN _, HN2⟩, by simp [intOf]; omega⟩
        · have e9 := ne8 hxy
          rw [e255] at e9
          have HN2 : Hid _ := HNE.out (fun h => hxy (hz.2 h))
          clear HN HNE hxy hz e255
          go_wp2
          go_quiet (fail)
          go_wp2
          go_ret
          exact ⟨congrArg _ (congrArg _ (FIN.out _ ⟨fun h => by simp at h, fun h => absurd h HN2.out⟩)), d.drewN _⟩
      · have y1 : ¬ (p : Int) < (h : Int) := by omega
        go_wp2
        go_ret
        exact ⟨congrArg _ (congrArg _ (FIN.out _ ⟨fun _ => by rw [HG.out]; exact fun j hj => heq.out j (by omega), fun _ => rfl⟩)), d⟩
  · have e0 : (((n : Int)) != (2 * ((n : Int) / 2))) = true := by rw [bne_iff_ne]; omega
    have hr : rightB bs = false := by
      unfold rightB; rw [decide_eq_false_iff_not]; intro hh; have h1 := hh.1; rw [HL.out] at h1; exact hodd h1
    rw [hr]
    go_enter Try.func14, Try.ntmps14
    go_wp2
    go_ret
    exact ⟨rfl, Dr.refl _⟩
end Go.Proofs.Ytljjfhllpbcpeaa
