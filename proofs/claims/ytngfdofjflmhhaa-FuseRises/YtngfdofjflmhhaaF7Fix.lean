
import Derived.Test.YtngfdofjflmhhaaF7Step
/-! The statement's fixed answers. -/
namespace Go.Proofs.Ytngfdofjflmhhaa
open Go.RowKit
set_option linter.unusedVariables false

theorem lay_fu {c : Cfg} {t : St} (hc : c.may = 0) (hf : Fit c t) : (layS c t).Fu := by
  obtain ⟨⟨s1, s2⟩, _, ⟨f1, f2⟩, ⟨k1, k2⟩, _⟩ := may_facts hc
  exact ⟨s1, s2, f1, f2, k1, k2, hf.2.2.1⟩

def fx7C : Cfg := ⟨4, 1, 3, 1, 1, 1, 0⟩
def fx70 : RS := layS fx7C (freshC fx7C)
def fx71 : RS := (fx70.raise 0 2).1
def fx72 : RS := (fx71.revoke 0).1
theorem fx7_may : fx7C.may = 0 := by decide +kernel
theorem fx7_e1 : (fx70.raise 0 2).2 = 0 := by decide +kernel
theorem fx7_c1 : fx71.count 0 = 2 := by decide +kernel
theorem fx7_c2 : fx71.countE 0 = 0 := by decide +kernel
theorem fx7_e2 : (fx71.revoke 0).2 = 0 := by decide +kernel
theorem fx7_r1 : fx72.revoked 0 = true := by decide +kernel
theorem fx7_r2 : fx72.revokedE 0 = 0 := by decide +kernel
theorem fx7_n : fx72.n = 3 := by decide +kernel
theorem fx7_n0 : fx70.n < 4611686018427387000 := by decide +kernel
theorem fx7_n1 : fx71.n < 4611686018427387000 := by decide +kernel
theorem fx7_f0 : fx70.Fu := lay_fu fx7_may (fresh_fit fx7_may)
theorem fx7_g0 : fx70.Good := lay_good fx7_may (fresh_fit fx7_may)
theorem fx7_f1 : fx71.Fu := fx7_f0.raise 0 2
theorem fx7_g1 : fx71.Good := (fx7_g0.raise fx7_f0 0 2).1
theorem fx7_f2 : fx72.Fu := fx7_f1.revoke 0

theorem below_kept {w w1 w2 : World} {N : Nat} {L : List Nat} (hb : Below N w w1) (kl : KeptL L w1 w2) (hL : ∀ B ∈ L, N ≤ B) (hN : N ≤ w1.heap.size) : Below N w w2 :=
  hb.trans ⟨kl.os, kl.tape, kl.output, kl.size, fun k hk => kl.block k (by omega) (fun hm => by have := hL k hm; omega)⟩

set_option maxHeartbeats 4000000 in
set_option maxRecDepth 100000 in
theorem l7fixed_any (w : World) : Calls Try.prog 5 #[] w fun e w' => e = .returned (.bool true) ∧ Below w.heap.size w w' := by
  obtain ⟨s0, hs0⟩ : ∃ s, s = fx70 := ⟨_, rfl⟩
  obtain ⟨s1, hs1⟩ : ∃ s, s = fx71 := ⟨_, rfl⟩
  obtain ⟨s2, hs2⟩ : ∃ s, s = fx72 := ⟨_, rfl⟩
  have HNEW : Hid (∀ W, Calls Try.prog 17 #[.agg #[.int .i64 4, .int .i64 1, .int .i64 3, .int .i64 1, .int .i64 1, .int .i64 1, .int .i64 0]] W fun e w' => ∃ F, e = .returned (.tuple #[.pointer (some ⟨F.g, 0, none⟩), .int .i64 0]) ∧ CAt w' F s0 ⟨#[]⟩ ∧ (∀ B ∈ F.blocks, W.heap.size ≤ B) ∧ Below W.heap.size W w') := fun W => by
    refine (cnew_any fx7C W).mono ?_
    rintro e w' ⟨hb, ⟨h1, _⟩ | ⟨_, F, h1, h2, h3⟩⟩
    · exact absurd fx7_may h1
    · exact ⟨F, h1, by rw [hs0]; exact h2, h3, hb⟩
  have HRA : Hid (∀ F S W, CAt W F s0 S → Calls Try.prog 15 #[.pointer (some ⟨F.g, 0, none⟩), .int .i64 0, .int .i64 2] W (CPost F s1 0 W)) := fun F S W hW => by
    rw [hs0] at hW
    have := furaise_any F fx70 S 0 2 W hW fx7_f0 fx7_g0 fx7_n0
    rw [fx7_e1] at this
    rw [hs1]; exact this
  have HCO : Hid (∀ F S W, CAt W F s1 S → Calls Try.prog 13 #[.pointer (some ⟨F.g, 0, none⟩), .int .i64 0] W fun e w' => e = .returned (.tuple #[.int .i64 2, .int .i64 0]) ∧ Below W.heap.size W w') := fun F S W hW => by
    rw [hs1] at hW
    have := fucount_any F fx71 S 0 W hW fx7_f1
    rw [fx7_c1, fx7_c2] at this
    exact this
  have HRV : Hid (∀ F S W, CAt W F s1 S → Calls Try.prog 18 #[.pointer (some ⟨F.g, 0, none⟩), .int .i64 0] W (CPost F s2 0 W)) := fun F S W hW => by
    rw [hs1] at hW
    have := furevoke_any F fx71 S 0 W hW fx7_f1 fx7_g1 fx7_n1
    rw [fx7_e2] at this
    rw [hs2]; exact this
  have HRD : Hid (∀ F S W, CAt W F s2 S → Calls Try.prog 19 #[.pointer (some ⟨F.g, 0, none⟩), .int .i64 0] W fun e w' => e = .returned (.tuple #[.bool true, .int .i64 0]) ∧ Below W.heap.size W w') := fun F S W hW => by
    rw [hs2] at hW
    have := furevoked_any F fx72 S 0 W hW fx7_f2
    rw [fx7_r1, fx7_r2] at this
    exact this
  have HAC : Hid (∀ F S W, CAt W F s2 S → Calls Try.prog 11 #[.pointer (some ⟨F.g, 0, none⟩)] W fun e w' => e = .returned (.int .i64 3) ∧ w' = W) := fun F S W hW => by
    rw [hs2] at hW
    have := cacts_any F fx72 S W hW
    rw [fx7_n] at this
    exact this
  clear hs0 hs1 hs2
  go_enter Try.func5, Try.ntmps5
  go_wp2_with fail
  refine (HNEW.out _).mono ?_
  rintro e w1 ⟨F, rfl, ca, hF, hb1⟩
  have HFB : Hid (∀ B ∈ F.blocks, w.heap.size ≤ B) := hF
  go_wp2_with fail
  refine (HRA.out F _ _ ca).mono ?_
  rintro e w2 ⟨rfl, ⟨S2, ca2⟩, kl2⟩
  have hb2 : Below w.heap.size w w2 := below_kept hb1 kl2 HFB.out hb1.size
  clear kl2 ca hb1
  go_wp2_with fail
  refine (HCO.out F _ _ ca2).mono ?_
  rintro e w3 ⟨rfl, hb3⟩
  have ca3 : CAt w3 F s1 S2 := ca2.below hb3 (Nat.le_refl _)
  have bb3 := hb2.trans (hb3.mono hb2.size)
  clear ca2 hb2 hb3
  go_wp2_with fail
  refine (HRV.out F _ _ ca3).mono ?_
  rintro e w4 ⟨rfl, ⟨S4, ca4⟩, kl4⟩
  have hb4 : Below w.heap.size w w4 := below_kept bb3 kl4 HFB.out bb3.size
  clear kl4 ca3 bb3
  go_wp2_with fail
  refine (HRD.out F _ _ ca4).mono ?_
  rintro e w5 ⟨rfl, hb5⟩
  have ca5 : CAt w5 F s2 S4 := ca4.below hb5 (Nat.le_refl _)
  have bb5 := hb4.trans (hb5.mono hb4.size)
  clear ca4 hb4 hb5
  go_wp2_with fail
  refine (HAC.out F _ _ ca5).mono ?_
  rintro e w6 ⟨rfl, rfl⟩
  go_wp2
  go_ret
  exact ⟨rfl, bb5⟩
end Go.Proofs.Ytngfdofjflmhhaa
