
import Derived.Test.YtdfbfheceobboaaDoorP25Mk
/-! The code's patch: keepEnds. -/
namespace Go.Proofs.YtdfbfheceobboaaDoor
open Go.RowKit
set_option linter.unusedVariables false
set_option linter.unusedSimpArgs false
set_option maxRecDepth 100000

theorem withB_le (l : List Pt) (y : Pt) : (withB l y).length ≤ l.length + 1 := by
  unfold withB
  split
  · omega
  · simp
/-- What is left of a slice behind a place: no room, bytes at a place, or none at all. -/
theorem slB_drop {N : Nat} {w : World} {ao : Option Addr} {n c : Nat} {m : List By} (h : SlB N w ao n c m) (k : Nat) (hk : k ≤ n) : (c = k ∧ m.drop k = []) ∨ (¬ c = k ∧ ∃ B off, ao = some ⟨B, off, none⟩ ∧ m ≠ []) ∨ (¬ c = k ∧ m = [] ∧ k = 0 ∧ ∃ a, ao = some a) := by
  by_cases hc : c = k
  · exact .inl ⟨hc, List.drop_eq_nil_of_le (by have := h.len; have := h.cap; omega)⟩
  · cases ao with
    | none => exact absurd (h.nil rfl) (by have := h.cap; omega)
    | some a =>
      by_cases hm : m = []
      · exact .inr (.inr ⟨hc, hm, by have := h.len; rw [hm] at this; simp at this; omega, a, rfl⟩)
      · rcases h.isb with h1 | ⟨B, off, e, hcc⟩
        · exact absurd h1 hm
        · exact .inr (.inl ⟨hc, B, off, e, hm⟩)
set_option maxHeartbeats 4000000 in
theorem ckeep_any (N : Nat) (w : World) (ao : Option Addr) (n c : Nat) (old : List By) (po : Option Addr) (pn pc : Nat) (new : List By) (h1 : SlB N w ao n c old) (h2 : SlB N w po pn pc new) (hn : n ≤ 524288) (hpn : pn ≤ 524288) :
    Calls Tryd.prog 12 #[.slice ao n c, .slice po pn pc] w (WitP N w (keptP old new (lcp old new) (lcsN old new))) := by
  have FB := ccb_any w ao n c old h1.len hn h1.isb po pn pc new h2.len hpn h2.isb
  have hle := lcs_le old new
  have hlp := lcp_le old new
  rw [h1.len, h2.len] at hle hlp
  have FE : Hid (∀ W ao' n1 c1 po' n2 c2, IsB W ao' (old.drop (lcp old new)) → IsB W po' (new.drop (lcp old new)) → n1 = n - lcp old new → n2 = pn - lcp old new → Calls Tryd.prog 21 #[.slice ao' n1 c1, .slice po' n2 c2] W fun e w' => e = .returned (.int .i64 (lcsN old new : Int)) ∧ ∃ m, w' = W.drewN m) := fun W ao' n1 c1 po' n2 c2 i1 i2 e1 e2 => by
    subst e1; subst e2
    exact cce_any W ao' (n - lcp old new) c1 (old.drop (lcp old new)) (by rw [List.length_drop, h1.len]) (by omega) i1 po' (pn - lcp old new) c2 (new.drop (lcp old new)) (by rw [List.length_drop, h2.len]) (by omega) i2
  have HK : Hid (keptP old new (lcp old new) (lcsN old new) = withB (withB (withB [] ⟨false, 0, lcp old new, []⟩) ⟨true, 0, pn - lcsN old new - lcp old new, (new.drop (lcp old new)).take (pn - lcsN old new - lcp old new)⟩) ⟨false, n - lcsN old new, lcsN old new, []⟩) := by
    show _ = _
    unfold keptP
    rw [h1.len, h2.len]
  generalize keptP old new (lcp old new) (lcsN old new) = KP at *
  generalize lcsN old new = t at *
  generalize lcp old new = h at *
  have HP1 : Hid (SlB N w ao n c old) := h1
  have HP2 : Hid (SlB N w po pn pc new) := h2
  have S1 := slB_drop h1 h hlp.1
  have S2 := slB_drop h2 h hlp.2
  have S1 : Hid ((c = h ∧ old.drop h = []) ∨ (¬ c = h ∧ ∃ B off, ao = some ⟨B, off, none⟩ ∧ old ≠ []) ∨ (¬ c = h ∧ old = [] ∧ h = 0 ∧ ∃ a, ao = some a)) := S1
  have S2 : Hid ((pc = h ∧ new.drop h = []) ∨ (¬ pc = h ∧ ∃ B off, po = some ⟨B, off, none⟩ ∧ new ≠ []) ∨ (¬ pc = h ∧ new = [] ∧ h = 0 ∧ ∃ a, po = some a)) := S2
  have cap1 := h1.cap
  have cap2 := h2.cap
  obtain ⟨L1, hL1⟩ : ∃ L1, L1 = withB [] ⟨false, 0, h, []⟩ := ⟨_, rfl⟩
  obtain ⟨L2, hL2⟩ : ∃ L2, L2 = withB L1 ⟨true, 0, pn - t - h, (new.drop h).take (pn - t - h)⟩ := ⟨_, rfl⟩
  have hl1 : L1.length ≤ 1 := by rw [hL1]; exact withB_le _ _
  have hl2 : L2.length ≤ 2 := by rw [hL2]; have := withB_le L1 ⟨true, 0, pn - t - h, (new.drop h).take (pn - t - h)⟩; omega
  have FW1 : Hid (∀ W, Dr w W → Calls Tryd.prog 19 #[.slice none 0 0, .iface 66 (.agg #[.int .i64 0, .int .i64 (h : Int)])] W (WitP N W L1)) := fun W hW => by
    rw [hL1]
    exact cwiths_any N [] none 0 0 h W (PaR.nil N W (by obtain ⟨k, rfl⟩ := hW; exact h1.lt)) (by simp)
  have FW2 : Hid (∀ W lo3 lc3 bo n2 c2, PaR N W L1 lo3 lc3 → n2 = pn - t - h → (n2 ≠ 0 → PaV N W ⟨true, 0, n2, (new.drop h).take n2⟩ (layV bo n2 c2)) → Calls Tryd.prog 19 #[.slice lo3 L1.length lc3, .iface 63 (.agg #[.slice bo n2 c2])] W (WitP N W L2)) := fun W lo3 lc3 bo n2 c2 q1 q2 q3 => by
    subst q2
    rw [hL2]
    exact cwithl_any N L1 lo3 lc3 bo _ c2 _ W q1 (by omega) q3
  have FW3 : Hid (∀ W lo3 lc3, PaR N W L2 lo3 lc3 → Calls Tryd.prog 19 #[.slice lo3 L2.length lc3, .iface 66 (.agg #[.int .i64 ((n - t : Nat) : Int), .int .i64 (t : Int)])] W (WitP N W KP)) := fun W lo3 lc3 q1 => by
    rw [HK.out, ← hL1, ← hL2]
    exact cwiths_any N L2 lo3 lc3 (n - t) t W q1 (by omega)
  have z1 : IntKind.i64.wrap ((pn : Int) - (t : Int)) = ((pn - t : Nat) : Int) := by rw [i64_in _ (by omega) (by omega)]; omega
  have z2 : IntKind.i64.wrap ((n : Int) - (t : Int)) = ((n - t : Nat) : Int) := by rw [i64_in _ (by omega) (by omega)]; omega
  clear h1 h2 hL1 hL2 hl1 hl2
  go_enter Tryd.func12, Tryd.ntmps12
  go_wp2_with fail
  refine FB.mono ?_
  rintro e w1 ⟨rfl, hd⟩
  have HD : Hid (Dr w w1) := hd
  clear hd FB
  dsimp only
  have y0 : (0 : Int) ≤ (h : Int) := by omega
  have y1 : (h : Int) ≤ (n : Int) := by omega
  have y2 : (h : Int) ≤ (pn : Int) := by omega
  have y3 : (n : Int) ≤ (c : Int) := by omega
  have y4 : (pn : Int) ≤ (pc : Int) := by omega
  go_upto_region 2 with fail
  go_cut [6] (fun s wx => ∃ wz, wz = wx ∧ s = .int .i64 (t : Int) ∧ Dr w wz)
  case first =>
    rcases S1.out with ⟨hc, e1⟩ | ⟨hc, B, off, rfl, hm⟩ | ⟨hc, e1, rfl, a, rfl⟩
    · have I1 : Hid (∀ W (X : Option Addr), Dr w W → IsB W X (old.drop h)) := fun W X _ => .inl e1
      clear e1
      rcases S2.out with ⟨hc2, e2⟩ | ⟨hc2, B2, off2, rfl, hm2⟩ | ⟨hc2, e2, rfl, a2, rfl⟩
      · have I2 : Hid (∀ W (X : Option Addr), Dr w W → IsB W X (new.drop h)) := fun W X _ => .inl e2
        clear e2
        clear S1 S2 HP1 HP2 HK
        obtain rfl : n = c := by omega
        subst hc
        obtain rfl : pn = pc := by omega
        subst hc2
        go_quiet (first | (go_at_call 21; exact Calls.quiet_of (FE.out _ _ _ _ _ _ _ (I1.out _ _ (HD.out.drewN _)) (I2.out _ _ (HD.out.drewN _)) (by omega) (by omega))))
        go_wp2
        go_meet
        case rel => exact ⟨_, rfl, rfl, HD.out.drewN nq⟩
      · have I2 : Hid (∀ W, Dr w W → IsB W (some ⟨B2, off2 + h, none⟩) (new.drop h)) := fun W hW => isb_dropk (HP2.out.isb.below (Below_dr (Below.refl _ _) hW) (Nat.le_refl _)) h
        clear S1 S2 HP1 HP2 HK
        obtain rfl : n = c := by omega
        subst hc
        go_quiet (first | (go_at_call 21; exact Calls.quiet_of (FE.out _ _ _ _ _ _ _ (I1.out _ _ (HD.out.drewN _)) (I2.out _ (HD.out.drewN _)) (by omega) (by omega))))
        go_wp2
        go_meet
        case rel => exact ⟨_, rfl, rfl, HD.out.drewN nq⟩
      · have I2 : Hid (∀ W (X : Option Addr), Dr w W → IsB W X (new.drop 0)) := fun W X _ => .inl (by rw [e2]; rfl)
        clear e2
        clear S1 S2 HP1 HP2 HK
        obtain rfl : n = c := by omega
        subst hc
        go_quiet (first | (go_at_call 21; exact Calls.quiet_of (FE.out _ _ _ _ _ _ _ (I1.out _ _ (HD.out.drewN _)) (I2.out _ _ (HD.out.drewN _)) (by omega) (by omega))))
        go_wp2
        go_meet
        case rel => exact ⟨_, rfl, rfl, HD.out.drewN nq⟩
    · have I1 : Hid (∀ W, Dr w W → IsB W (some ⟨B, off + h, none⟩) (old.drop h)) := fun W hW => isb_dropk (HP1.out.isb.below (Below_dr (Below.refl _ _) hW) (Nat.le_refl _)) h
      rcases S2.out with ⟨hc2, e2⟩ | ⟨hc2, B2, off2, rfl, hm2⟩ | ⟨hc2, e2, rfl, a2, rfl⟩
      · have I2 : Hid (∀ W (X : Option Addr), Dr w W → IsB W X (new.drop h)) := fun W X _ => .inl e2
        clear e2
        clear S1 S2 HP1 HP2 HK
        obtain rfl : pn = pc := by omega
        subst hc2
        go_quiet (first | (go_at_call 21; exact Calls.quiet_of (FE.out _ _ _ _ _ _ _ (I1.out _ (HD.out.drewN _)) (I2.out _ _ (HD.out.drewN _)) (by omega) (by omega))))
        go_wp2
        go_meet
        case rel => exact ⟨_, rfl, rfl, HD.out.drewN nq⟩
      · have I2 : Hid (∀ W, Dr w W → IsB W (some ⟨B2, off2 + h, none⟩) (new.drop h)) := fun W hW => isb_dropk (HP2.out.isb.below (Below_dr (Below.refl _ _) hW) (Nat.le_refl _)) h
        clear S1 S2 HP1 HP2 HK
        go_quiet (first | (go_at_call 21; exact Calls.quiet_of (FE.out _ _ _ _ _ _ _ (I1.out _ (HD.out.drewN _)) (I2.out _ (HD.out.drewN _)) (by omega) (by omega))))
        go_wp2
        go_meet
        case rel => exact ⟨_, rfl, rfl, HD.out.drewN nq⟩
      · have I2 : Hid (∀ W (X : Option Addr), Dr w W → IsB W X (new.drop 0)) := fun W X _ => .inl (by rw [e2]; rfl)
        clear e2
        clear S1 S2 HP1 HP2 HK
        go_quiet (first | (go_at_call 21; exact Calls.quiet_of (FE.out _ _ _ _ _ _ _ (I1.out _ (HD.out.drewN _)) (I2.out _ _ (HD.out.drewN _)) (by omega) (by omega))))
        go_wp2
        go_meet
        case rel => exact ⟨_, rfl, rfl, HD.out.drewN nq⟩
    · have I1 : Hid (∀ W (X : Option Addr), Dr w W → IsB W X (old.drop 0)) := fun W X _ => .inl (by rw [e1]; rfl)
      clear e1
      rcases S2.out with ⟨hc2, e2⟩ | ⟨hc2, B2, off2, rfl, hm2⟩ | ⟨hc2, e2, _, a2, rfl⟩
      · have I2 : Hid (∀ W (X : Option Addr), Dr w W → IsB W X (new.drop 0)) := fun W X _ => .inl e2
        clear e2
        clear S1 S2 HP1 HP2 HK
        obtain rfl : pn = pc := by omega
        subst hc2
        go_quiet (first | (go_at_call 21; exact Calls.quiet_of (FE.out _ _ _ _ _ _ _ (I1.out _ _ (HD.out.drewN _)) (I2.out _ _ (HD.out.drewN _)) (by omega) (by omega))))
        go_wp2
        go_meet
        case rel => exact ⟨_, rfl, rfl, HD.out.drewN nq⟩
      · have I2 : Hid (∀ W, Dr w W → IsB W (some ⟨B2, off2 + 0, none⟩) (new.drop 0)) := fun W hW => isb_dropk (HP2.out.isb.below (Below_dr (Below.refl _ _) hW) (Nat.le_refl _)) 0
        clear S1 S2 HP1 HP2 HK
        go_quiet (first | (go_at_call 21; exact Calls.quiet_of (FE.out _ _ _ _ _ _ _ (I1.out _ _ (HD.out.drewN _)) (I2.out _ (HD.out.drewN _)) (by omega) (by omega))))
        go_wp2
        go_meet
        case rel => exact ⟨_, rfl, rfl, HD.out.drewN nq⟩
      · have I2 : Hid (∀ W (X : Option Addr), Dr w W → IsB W X (new.drop 0)) := fun W X _ => .inl (by rw [e2]; rfl)
        clear e2
        clear S1 S2 HP1 HP2 HK
        go_quiet (first | (go_at_call 21; exact Calls.quiet_of (FE.out _ _ _ _ _ _ _ (I1.out _ _ (HD.out.drewN _)) (I2.out _ _ (HD.out.drewN _)) (by omega) (by omega))))
        go_wp2
        go_meet
        case rel => exact ⟨_, rfl, rfl, HD.out.drewN nq⟩
  case rest =>
    obtain ⟨w2, hw2, rfl, hd2⟩ := hcut
    subst hw2
    have HD2 : Hid (Dr w w2) := hd2
    clear hd2 HD FE S1
    go_wp2_with fail
    refine (FW1.out _ HD2.out).mono ?_
    rintro e w3 ⟨lo3, lc3, rfl, hp3, hb3⟩
    have HP3 : Hid (PaR N w3 L1 lo3 lc3 ∧ SlB N w3 po pn pc new ∧ Below N w w3) := by
      have hb : Below N w w3 := by
        obtain ⟨k, rfl⟩ := HD2.out
        exact (Below_drewN (Below.refl _ _) k).trans hb3
      exact ⟨hp3, HP2.out.keep hb, hb⟩
    clear hp3 hb3 FW1 HD2 HP1 HP2 HK
    dsimp only
    have y5 : (h : Int) ≤ ((pn - t : Nat) : Int) := by omega
    have y6 : ((pn - t : Nat) : Int) ≤ (pc : Int) := by omega
    rcases S2.out with ⟨hc2, e2⟩ | ⟨hc2, B2, off2, rfl, hm2⟩ | ⟨hc2, e2, rfl, a2, rfl⟩
    · clear S2
      have hz : pn - t - h = 0 := by omega
      obtain rfl : t = 0 := by omega
      obtain rfl : pn = h := by omega
      subst hc2
      go_wp2_with fail
      refine (FW2.out _ _ _ _ _ _ HP3.out.1 (by omega) (fun hh => absurd (show _ = 0 by omega) hh)).mono ?_
      rintro e w4 ⟨lo4, lc4, rfl, hp4, hb4⟩
      have HP4 : Hid (PaR N w4 L2 lo4 lc4 ∧ Below N w w4) := ⟨hp4, HP3.out.2.2.trans hb4⟩
      clear hp4 hb4
      dsimp only
      go_wp2_with fail
      refine (FW3.out _ _ _ HP4.out.1).mono ?_
      rintro e w5 ⟨lo5, lc5, rfl, hp5, hb5⟩
      have HP5 : Hid (WitP N w KP (.returned (.slice lo5 KP.length lc5)) w5) := ⟨lo5, lc5, rfl, hp5, HP4.out.2.trans hb5⟩
      clear hp5 hb5
      dsimp only
      go_wp2
      go_ret
      exact HP5.out
    · have HV : Hid (PaV N w3 ⟨true, 0, pn - t - h, (new.drop h).take (pn - t - h)⟩ (layV (some ⟨B2, off2 + h, none⟩) (pn - t - h) (pc - h)) ∨ pn - t - h = 0) := by
        by_cases hz : pn - t - h = 0
        · exact .inr hz
        · have q := HP3.out.2.1
          exact .inl ⟨.inr ⟨rfl, B2, off2 + h, pc - h, rfl, isb_takek (isb_dropk q.isb h) _, by rw [List.length_take, List.length_drop, q.len]; show min _ _ = pn - t - h; omega, by show pn - t - h ≤ pc - h; omega, q.blk B2 off2 rfl hm2⟩⟩
      clear S2
      have HV2 : Hid (∀ n2, n2 = pn - t - h → n2 ≠ 0 → PaV N w3 ⟨true, 0, n2, (new.drop h).take n2⟩ (layV (some ⟨B2, off2 + h, none⟩) n2 (pc - h))) := fun n2 e hn => by
        subst e
        rcases HV.out with h | h
        · exact h
        · exact absurd h hn
      clear HV
      go_wp2_with fail
      refine (FW2.out _ _ _ _ _ _ HP3.out.1 rfl (HV2.out _ rfl)).mono ?_
      rintro e w4 ⟨lo4, lc4, rfl, hp4, hb4⟩
      have HP4 : Hid (PaR N w4 L2 lo4 lc4 ∧ Below N w w4) := ⟨hp4, HP3.out.2.2.trans hb4⟩
      clear hp4 hb4
      dsimp only
      go_wp2_with fail
      refine (FW3.out _ _ _ HP4.out.1).mono ?_
      rintro e w5 ⟨lo5, lc5, rfl, hp5, hb5⟩
      have HP5 : Hid (WitP N w KP (.returned (.slice lo5 KP.length lc5)) w5) := ⟨lo5, lc5, rfl, hp5, HP4.out.2.trans hb5⟩
      clear hp5 hb5
      dsimp only
      go_wp2
      go_ret
      exact HP5.out
    · clear S2
      have e3 : pn = 0 := by have := HP3.out.2.1.len; rw [e2] at this; simpa using this.symm
      obtain rfl : t = 0 := by omega
      subst e3
      go_wp2_with fail
      refine (FW2.out _ _ _ _ _ _ HP3.out.1 (by omega) (fun hh => absurd (show _ = 0 by omega) hh)).mono ?_
      rintro e w4 ⟨lo4, lc4, rfl, hp4, hb4⟩
      have HP4 : Hid (PaR N w4 L2 lo4 lc4 ∧ Below N w w4) := ⟨hp4, HP3.out.2.2.trans hb4⟩
      clear hp4 hb4
      dsimp only
      go_wp2_with fail
      refine (FW3.out _ _ _ HP4.out.1).mono ?_
      rintro e w5 ⟨lo5, lc5, rfl, hp5, hb5⟩
      have HP5 : Hid (WitP N w KP (.returned (.slice lo5 KP.length lc5)) w5) := ⟨lo5, lc5, rfl, hp5, HP4.out.2.trans hb5⟩
      clear hp5 hb5
      dsimp only
      go_wp2
      go_ret
      exact HP5.out
end Go.Proofs.YtdfbfheceobboaaDoor
