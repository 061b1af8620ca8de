
import Derived.Test.YtngfdofjflmhhaaC4Cut
/-! The code's chip: Blow, Config, blank. -/
namespace Go.Proofs.Ytngfdofjflmhhaa
open Go.RowKit

theorem and_one (b : By) : decide (b &&& 1#8 = 1#8) = (bits .and .u8 (b.toNat : Int) 1 == 1) := by
  revert b; decide +kernel

set_option maxHeartbeats 2000000 in
set_option maxRecDepth 100000 in
theorem cblow_any (F : RF) (s : RS) (S : ByteArray) (i : Int) (w : World) (h : CAt w F s S) (hn0 : 0 ≤ s.n) (hn : s.n < 4611686018427387904) (hw : s.wait < 9223372036854775808) :
    Calls Try.prog 31 #[.pointer (some ⟨F.g, 0, none⟩), .int .i64 i] w (CPost F (s.blow i) (s.blowE i) w) := by
  have hbg : F.g ∈ F.blocks := by simp [RF.blocks]
  have hbb : F.bB ∈ F.blocks := by simp [RF.blocks]
  obtain ⟨res, hres⟩ : ∃ r, r = s.blowE i := ⟨_, rfl⟩
  rw [← hres]
  have HR : Hid (res = s.blowE i) := hres
  clear hres
  by_cases h0 : s.fuse i = 0
  · obtain ⟨_, i1, i2⟩ := fuse_zero h0
    obtain ⟨n, rfl⟩ := Int.eq_ofNat_of_zero_le i1
    have hl : n < s.blown.length := by omega
    have HF : Hid (∀ W, CAt W F s S → Calls Try.prog 45 #[.pointer (some ⟨F.g, 0, none⟩), .int .i64 (n : Int)] W fun e w' => e = .returned (.int .i64 0) ∧ w' = W) := fun W hW => by have := caskFuse_any F s S n W hW; rw [h0] at this; exact this
    have HACT : Hid (∀ W, CAt W F s S → Calls Try.prog 46 #[.pointer (some ⟨F.g, 0, none⟩)] W (ActPost F s W)) := fun W hW => cact_any F s S W hW hn0 hn hw
    have HRES : Hid (res = (if s.cut then 8 else 0)) := by show _ = _; rw [HR.out]; simp [RS.blowE, h0]
    have HP : Hid (s.blow n = { s.act with blown := s.blown.set n (s.blowB n) }) := by show _ = _; simp [RS.blow, h0]
    have hc1 := h.ok.c1
    have HH : Hid (CAt w F s S) := h
    clear h h0 hn0 hn hw
    go_enter Try.func31, Try.ntmps31
    go_wp2_with fail
    refine (HF.out _ HH.out).mono ?_
    rintro e w1 ⟨rfl, rfl⟩
    go_wp2_with fail
    refine (HACT.out w1 HH.out).mono ?_
    rintro e w2 ⟨M, S', rfl, ⟨m, hM, hm, hbit⟩, ra2, sb2⟩
    rw [← HRES.out]
    have kl2 : KeptL F.blocks w1 w2 := (KeptL.refl _ _).but sb2 (.inl hbg)
    have c9 := ra2.cBl
    replace c9 : w2.cell? ⟨F.g, 9, none⟩ = some (.slice (some ⟨F.bB, 0, none⟩) s.blown.length F.bcap) := c9
    have cb : ∃ v, w2.cell? ⟨F.bB, n, none⟩ = some v := ⟨_, ra2.bl.cell n _ (by show (s.blown.map Value.bool)[n]? = _; rw [List.getElem?_map, List.getElem?_eq_getElem hl]; rfl)⟩
    obtain ⟨v0, cb⟩ := cb
    have fb := ra2.bl.frozen n
    have HMA : Hid (∀ W, Calls Try.prog 47 #[.string M, .int .i64 0] W fun e w' => e = .returned (.int .u8 ((bitsAt m 0).toNat : Int)) ∧ w' = W) := fun W => mat_any M m hM hm 0 W
    have hb0 := hbit 0 (by omega)
    have hbb0 : s.blowB n = (s.blown.getD n false || decide (bitsAt m 0 &&& 1#8 = 1#8)) := by
      unfold RS.blowB
      rw [hb0]
      cases s.cut
      · rw [if_neg (by simp)]; simp
      · rw [if_pos rfl]; simp
    have hao := and_one (bitsAt m 0)
    rw [hao] at hbb0
    have hl' : n < s.act.blown.length := hl
    have HYES : Hid (s.blowB n = true → CPost F (s.blow n) res w1 (.returned (.int .i64 res)) (w2.setCell ⟨F.bB, n, none⟩ (.bool true))) := by
      intro hy
      refine ⟨rfl, ⟨S', ?_⟩, kl2.but (SameBut.setCell F.bB n (.bool true) w2) (.inl hbb)⟩
      rw [HP.out, hy]
      exact ra2.setBlown n hl' true
    have HNO : Hid (s.blowB n = s.blown.getD n false → CPost F (s.blow n) res w1 (.returned (.int .i64 res)) w2) := by
      intro hy
      refine ⟨rfl, ⟨S', ?_⟩, kl2⟩
      have : s.blown.set n (s.blowB n) = s.blown := by
        rw [hy]
        apply List.ext_getElem?
        intro j
        rw [List.getElem?_set]
        by_cases hj : n = j
        · subst hj; rw [if_pos rfl, if_pos hl, List.getD_eq_getElem?_getD, List.getElem?_eq_getElem hl]; rfl
        · rw [if_neg hj]
      rw [HP.out, this]
      exact ra2
    generalize bitsAt m 0 = mb at *
    have HBB : Hid (s.blowB n = (s.blown.getD n false || (bits .and .u8 (mb.toNat : Int) 1 == 1))) := hbb0
    clear hb0 hbit hM hm hbb0 hao ra2 sb2 kl2
    generalize hbv : bits .and .u8 (mb.toNat : Int) 1 = bv at *
    by_cases hb1 : bv = 1
    · subst hb1
      have hfin := HYES.out (by rw [HBB.out]; simp)
      have hbt : ((1 : Int) == 1) = true := rfl
      go_wp2_with (refine (HMA.out _).mono ?_; rintro e w3 ⟨rfl, rfl⟩)
      go_ret
      exact hfin
    · have hbt : (bv == 1) = false := by rw [beq_eq_false_iff_ne]; exact hb1
      have hfin := HNO.out (by rw [HBB.out, hbt, Bool.or_false])
      go_wp2_with (refine (HMA.out _).mono ?_; rintro e w3 ⟨rfl, rfl⟩)
      go_ret
      exact hfin
  · have HP : Hid (s.blow i = s) := by show _ = _; simp [RS.blow, h0]
    have HF : Hid (∀ W, CAt W F s S → Calls Try.prog 45 #[.pointer (some ⟨F.g, 0, none⟩), .int .i64 i] W fun e w' => e = .returned (.int .i64 res) ∧ w' = W) := fun W hW => by have := caskFuse_any F s S i W hW; rw [HR.out, RS.blowE, if_neg h0]; exact this
    have e1 : (res != 0) = true := by rw [bne_iff_ne, HR.out, RS.blowE, if_neg h0]; exact h0
    have HH : Hid (CAt w F s S) := h
    clear h h0 HR
    go_enter Try.func31, Try.ntmps31
    go_wp2_with fail
    refine (HF.out _ HH.out).mono ?_
    rintro e w1 ⟨rfl, rfl⟩
    go_wp2
    go_ret
    exact ⟨rfl, ⟨S, by rw [HP.out]; exact HH.out⟩, KeptL.refl _ _⟩
end Go.Proofs.Ytngfdofjflmhhaa
