import Derived.Test.YtdfbfheceobboaaDoorP25Ph
import Derived.BigQuiet

/-! The code's patch: what two rows begin and end with. -/
namespace Go.Proofs.YtdfbfheceobboaaDoor
open Go.RowKit
set_option linter.unusedVariables false
set_option linter.unusedSimpArgs false
set_option maxRecDepth 100000

set_option maxHeartbeats 4000000 in
theorem ccb_any (w : World) (ao : Option Addr) (n cap : Nat) (old : List By) (hn : old.length = n) (hn47 : n ≤ 524288) (hb : IsB w ao old)
    (po : Option Addr) (pn pc : Nat) (new : List By) (hpn : new.length = pn) (hp47 : pn ≤ 524288) (hp : IsB w po new) :
    Calls Tryd.prog 20 #[.slice ao n cap, .slice po pn pc] w fun e w' => e = .returned (.int .i64 (lcp old new : Int)) ∧ Dr w w' := by
  have HN : Hid (old.length = n) := hn
  have HP : Hid (new.length = pn) := hpn
  have HI : Hid (∀ W, Dr w W → ∀ j, j < n → ∃ B off, ao = some ⟨B, off, none⟩ ∧ W.cell? ⟨B, off + j, none⟩ = some (.int .u8 ((old.getD j 0).toNat : Int))) := fun W h j hj => (hb.below (Below_dr (Below.refl _ _) h) (Nat.le_refl _)).cell j (by omega)
  have HJ : Hid (∀ W, Dr w W → ∀ j, j < pn → ∃ B off, po = some ⟨B, off, none⟩ ∧ W.cell? ⟨B, off + j, none⟩ = some (.int .u8 ((new.getD j 0).toNat : Int))) := fun W h j hj => (hp.below (Below_dr (Below.refl _ _) h) (Nat.le_refl _)).cell j (by omega)
  obtain ⟨mn, hmn⟩ : ∃ mn, mn = min n pn := ⟨_, rfl⟩
  have HMN : Hid (mn = min n pn) := hmn
  have EMN : (if pn < n then (pn : Int) else (n : Int)) = (mn : Int) := by rw [hmn]; split <;> omega
  clear hb hp hn hpn hmn
  go_enter Tryd.func20, Tryd.ntmps20
  go_wp2
  go_loopw [5] (fun av wr => ∃ a : Nat, a ≤ mn ∧ av = .int .i64 a ∧ Hid (a + lcp (old.drop a) (new.drop a) = lcp old new ∧ Dr w wr)) (fun av _ => mn - (intOf av).toNat)
  case atStart => exact ⟨0, by omega, rfl, by simp, Dr.refl _⟩
  case round =>
    obtain ⟨a, ha, rfl, HA⟩ := hrel
    obtain ⟨r, hr⟩ : ∃ r, r = decide (a < mn ∧ old.getD a 0 = new.getD a 0) := ⟨_, rfl⟩
    have HR : Hid (r = decide (a < mn ∧ old.getD a 0 = new.getD a 0)) := hr
    have y0 : (0 : Int) ≤ (a : Int) := by omega
    clear hr
    go_upto_region 2 with fail
    go_cut [23] (fun s wx => s = .bool r ∧ Dr w wx)
    case first =>
      by_cases h1 : a < mn
      · have k1 : (a : Int) < (mn : Int) := by omega
        have yn1 : (a : Int) < (n : Int) := by have := HMN.out; omega
        have yp1 : (a : Int) < (pn : Int) := by have := HMN.out; omega
        obtain ⟨B, off, rfl, c1⟩ := HI.out _ HA.out.2 a (by have := HMN.out; omega)
        obtain ⟨B2, off2, rfl, c2⟩ := HJ.out _ HA.out.2 a (by have := HMN.out; omega)
        have qb := by_beq (old.getD a 0) (new.getD a 0)
        have hr : decide (old.getD a 0 = new.getD a 0) = r := by rw [HR.out]; simp [h1]
        rw [hr] at qb
        clear hr
        generalize (old.getD a 0).toNat = x1 at *
        generalize (new.getD a 0).toNat = x2 at *
        go_quiet (fail)
        go_wp2
        go_meet
        case rel => exact ⟨rfl, HA.out.2.drewN nq⟩
      · have k1 : decide ((a : Int) < (mn : Int)) = false := by rw [decide_eq_false_iff_not]; omega
        obtain rfl : r = false := by rw [HR.out]; simp [h1]
        go_quiet (fail)
        go_wp2
        go_meet
        case rel => exact ⟨rfl, HA.out.2.drewN nq⟩
    case rest =>
      obtain ⟨rfl, hd⟩ := hcut
      have HD : Hid (Dr w _) := hd
      clear hd
      cases r with
      | true =>
        have h2 := of_decide_eq_true HR.out.symm
        have z1 : IntKind.i64.wrap ((a : Int) + 1) = (a : Int) + 1 := i64_in _ (by omega) (by omega)
        go_wp2
        refine ⟨⟨a + 1, by omega, by go_num, ?_, HD.out⟩, by simp [intOf]; omega⟩
        have := HA.out.1
        rw [lcp_step, if_pos ⟨by have := HN.out; have := HMN.out; omega, by have := HP.out; have := HMN.out; omega, h2.2⟩] at this
        omega
      | false =>
        have h2 := of_decide_eq_false HR.out.symm
        have HZ : Hid (lcp old new = a) := by
          show _ = _
          have := HA.out.1
          rw [lcp_step, if_neg (fun hh => h2 ⟨by have := HN.out; have := HP.out; have := HMN.out; omega, hh.2.2⟩)] at this
          omega
        go_wp2
        go_ret
        exact ⟨by rw [HZ.out]; rfl, HD.out⟩
set_option maxHeartbeats 4000000 in
theorem cce_any (w : World) (ao : Option Addr) (n cap : Nat) (old : List By) (hn : old.length = n) (hn47 : n ≤ 524288) (hb : IsB w ao old)
    (po : Option Addr) (pn pc : Nat) (new : List By) (hpn : new.length = pn) (hp47 : pn ≤ 524288) (hp : IsB w po new) :
    Calls Tryd.prog 21 #[.slice ao n cap, .slice po pn pc] w fun e w' => e = .returned (.int .i64 (lcp old.reverse new.reverse : Int)) ∧ Dr w w' := by
  have HN : Hid (old.length = n) := hn
  have HP : Hid (new.length = pn) := hpn
  have HI : Hid (∀ W, Dr w W → ∀ j, j < n → ∃ B off, ao = some ⟨B, off, none⟩ ∧ W.cell? ⟨B, off + j, none⟩ = some (.int .u8 ((old.getD j 0).toNat : Int))) := fun W h j hj => (hb.below (Below_dr (Below.refl _ _) h) (Nat.le_refl _)).cell j (by omega)
  have HJ : Hid (∀ W, Dr w W → ∀ j, j < pn → ∃ B off, po = some ⟨B, off, none⟩ ∧ W.cell? ⟨B, off + j, none⟩ = some (.int .u8 ((new.getD j 0).toNat : Int))) := fun W h j hj => (hp.below (Below_dr (Below.refl _ _) h) (Nat.le_refl _)).cell j (by omega)
  obtain ⟨mn, hmn⟩ : ∃ mn, mn = min n pn := ⟨_, rfl⟩
  have HMN : Hid (mn = min n pn) := hmn
  have EMN : (if pn < n then (pn : Int) else (n : Int)) = (mn : Int) := by rw [hmn]; split <;> omega
  clear hb hp hn hpn hmn
  go_enter Tryd.func21, Tryd.ntmps21
  go_wp2
  go_loopw [5] (fun av wr => ∃ a : Nat, a ≤ mn ∧ av = .int .i64 a ∧ Hid (a + lcp (old.reverse.drop a) (new.reverse.drop a) = lcp old.reverse new.reverse ∧ Dr w wr)) (fun av _ => mn - (intOf av).toNat)
  case atStart => exact ⟨0, by omega, rfl, by simp, Dr.refl _⟩
  case round =>
    obtain ⟨a, ha, rfl, HA⟩ := hrel
    obtain ⟨r, hr⟩ : ∃ r, r = decide (a < mn ∧ old.getD (n - 1 - a) 0 = new.getD (pn - 1 - a) 0) := ⟨_, rfl⟩
    have HR : Hid (r = decide (a < mn ∧ old.getD (n - 1 - a) 0 = new.getD (pn - 1 - a) 0)) := hr
    have y0 : (0 : Int) ≤ (a : Int) := by omega
    clear hr
    go_upto_region 2 with fail
    go_cut [31] (fun s wx => s = .bool r ∧ Dr w wx)
    case first =>
      by_cases h1 : a < mn
      · have k1 : (a : Int) < (mn : Int) := by omega
        have zn : IntKind.i64.wrap ((n : Int) - 1) = (n : Int) - 1 := i64_in _ (by omega) (by omega)
        have zp : IntKind.i64.wrap ((pn : Int) - 1) = (pn : Int) - 1 := i64_in _ (by omega) (by omega)
        have zn2 : IntKind.i64.wrap ((n : Int) - 1 - (a : Int)) = ((n - 1 - a : Nat) : Int) := by rw [i64_in _ (by omega) (by omega)]; have := HMN.out; omega
        have zp2 : IntKind.i64.wrap ((pn : Int) - 1 - (a : Int)) = ((pn - 1 - a : Nat) : Int) := by rw [i64_in _ (by omega) (by omega)]; have := HMN.out; omega
        have yn0 : (0 : Int) ≤ ((n - 1 - a : Nat) : Int) := by omega
        have yn1 : ((n - 1 - a : Nat) : Int) < (n : Int) := by have := HMN.out; omega
        have yp0 : (0 : Int) ≤ ((pn - 1 - a : Nat) : Int) := by omega
        have yp1 : ((pn - 1 - a : Nat) : Int) < (pn : Int) := by have := HMN.out; omega
        obtain ⟨B, off, rfl, c1⟩ := HI.out _ HA.out.2 (n - 1 - a) (by have := HMN.out; omega)
        obtain ⟨B2, off2, rfl, c2⟩ := HJ.out _ HA.out.2 (pn - 1 - a) (by have := HMN.out; omega)
        have qb := by_beq (old.getD (n - 1 - a) 0) (new.getD (pn - 1 - a) 0)
        have hr : decide (old.getD (n - 1 - a) 0 = new.getD (pn - 1 - a) 0) = r := by rw [HR.out]; simp [h1]
        rw [hr] at qb
        clear hr
        generalize (old.getD (n - 1 - a) 0).toNat = x1 at *
        generalize (new.getD (pn - 1 - a) 0).toNat = x2 at *
        have hh1 := HMN.out
        obtain ⟨i1, hi1⟩ : ∃ i1, i1 = n - 1 - a := ⟨_, rfl⟩
        obtain ⟨i2, hi2⟩ : ∃ i2, i2 = pn - 1 - a := ⟨_, rfl⟩
        rw [← hi1] at zn2 yn0 yn1 c1
        rw [← hi2] at zp2 yp0 yp1 c2
        clear hi1 hi2 hh1
        go_quiet (fail)
        go_wp2
        go_meet
        case rel => exact ⟨rfl, HA.out.2.drewN nq⟩
      · have k1 : decide ((a : Int) < (mn : Int)) = false := by rw [decide_eq_false_iff_not]; omega
        obtain rfl : r = false := by rw [HR.out]; simp [h1]
        go_quiet (fail)
        go_wp2
        go_meet
        case rel => exact ⟨rfl, HA.out.2.drewN nq⟩
    case rest =>
      obtain ⟨rfl, hd⟩ := hcut
      have HD : Hid (Dr w _) := hd
      clear hd
      cases r with
      | true =>
        have h2 := of_decide_eq_true HR.out.symm
        have z1 : IntKind.i64.wrap ((a : Int) + 1) = (a : Int) + 1 := i64_in _ (by omega) (by omega)
        go_wp2
        refine ⟨⟨a + 1, by omega, by go_num, ?_, HD.out⟩, by simp [intOf]; omega⟩
        have := HA.out.1
        have l1 := HN.out
        have l2 := HP.out
        have l3 := HMN.out
        have e1 := rev_getD old 0 a (by omega)
        have e2 := rev_getD new 0 a (by omega)
        rw [List.drop_zero, l1] at e1
        rw [List.drop_zero, l2] at e2
        have hq : old.reverse.getD a 0 = new.reverse.getD a 0 := by rw [e1, e2]; exact h2.2
        rw [lcp_step, if_pos ⟨by rw [List.length_reverse]; omega, by rw [List.length_reverse]; omega, hq⟩] at this
        omega
      | false =>
        have h2 := of_decide_eq_false HR.out.symm
        have HZ : Hid (lcp old.reverse new.reverse = a) := by
          show _ = _
          have := HA.out.1
          have l1 := HN.out
          have l2 := HP.out
          have l3 := HMN.out
          have hq : ¬ (a < old.reverse.length ∧ a < new.reverse.length ∧ old.reverse.getD a 0 = new.reverse.getD a 0) := fun hh => by
            obtain ⟨k1, k2, k3⟩ := hh
            rw [List.length_reverse] at k1 k2
            have e1 := rev_getD old 0 a (by omega)
            have e2 := rev_getD new 0 a (by omega)
            rw [List.drop_zero, l1] at e1
            rw [List.drop_zero, l2] at e2
            rw [e1, e2] at k3
            exact h2 ⟨by omega, k3⟩
          rw [lcp_step, if_neg hq] at this
          omega
        go_wp2
        go_ret
        exact ⟨by rw [HZ.out]; rfl, HD.out⟩
end Go.Proofs.YtdfbfheceobboaaDoor


/-! The code's patch: the parts of Make. -/
namespace Go.Proofs.YtdfbfheceobboaaDoor
open Go.RowKit
set_option linter.unusedVariables false
set_option linter.unusedSimpArgs false
set_option maxRecDepth 100000

/-- Parts in new memory are answered. -/
def WitP (N : Nat) (w : World) (l : List Pt) (e : Ending) (w' : World) : Prop := ∃ lo lc, e = .returned (.slice lo l.length lc) ∧ PaR N w' l lo lc ∧ Below N w w'
theorem wit_more {N : Nat} {w W W' : World} {l : List Pt} {lo lo' : Option Addr} {lc' : Nat} {vs : List Value} {y : Pt} {v : Value} (hb : Below N w W) (hv1 : vs.length = l.length) (hv3 : ∀ (i : Nat) (y : Pt) (v : Value), l[i]? = some y → vs[i]? = some v → PaV N W y v) (hN : N ≤ W.heap.size) (ho : W'.ownsRow N 54 1 (.slice lo' (l.length + 1) lc') (l.length + 1) (vs ++ [v])) (hg : Grw N lo lo' W W') (hv : PaV N W y v) (hy : y.n ≠ 0) : WitP N w (withB l y) (.returned (.slice lo' (l.length + 1) lc')) W' := by
  have e : withB l y = l ++ [y] := by unfold withB; rw [if_neg hy]
  unfold WitP
  rw [e, List.length_append]
  exact ⟨lo', lc', rfl, PaR.snoc (W := W) (Nat.le_trans hN hg.size) hv1 (fun i z u hz hu => (hv3 i z u hz hu).keep hg.bel) ho (hv.keep hg.bel), hb.trans hg.bel⟩
set_option maxHeartbeats 1000000 in
theorem cwiths_any (N : Nat) (l : List Pt) (lo : Option Addr) (lc f n : Nat) (w : World) (h : PaR N w l lo lc) (hl : l.length ≤ 1000000) :
    Calls Tryd.prog 19 #[.slice lo l.length lc, spV f n] w (WitP N w (withB l ⟨false, f, n, []⟩)) := by
  have M1 := mSize_s
  have Fsq : Hid (Calls Tryd.prog 92 #[.agg #[.int .i64 (f : Int), .int .i64 (n : Int)]] w fun e w' => e = .returned (.int .i64 (n : Int)) ∧ Below w.heap.size w w') := ssize_any f n w
  have HH : Hid (PaR N w l lo lc) := h
  have HL : Hid (l.length ≤ 1000000) := hl
  clear h hl
  by_cases hn : n = 0
  · subst hn
    have HE : Hid (∀ w2, Below w.heap.size w w2 → WitP N w (withB l ⟨false, f, 0, []⟩) (.returned (.slice lo l.length lc)) w2) := fun w2 hb => by
      have e : withB l ⟨false, f, 0, []⟩ = l := rfl
      rw [e]
      exact ⟨lo, lc, rfl, HH.out.keep hb, hb.mono HH.out.sz⟩
    generalize withB l ⟨false, f, 0, []⟩ = l2 at *
    go_enter Tryd.func19, Tryd.ntmps19
    go_wp2_with (go_at_call 92; refine Fsq.out.mono ?_; rintro e w2 ⟨rfl, hb2⟩; have HB : Hid (Below w.heap.size w w2) := hb2; clear hb2 Fsq)
    go_ret
    exact HE.out _ HB.out
  · have i0 : ((n : Int) == 0) = false := by rw [beq_eq_false_iff_ne]; omega
    have HE : Hid (∀ W W' lo' lc' vs, Below N w W → vs.length = l.length → (∀ (i : Nat) (y : Pt) (v : Value), l[i]? = some y → vs[i]? = some v → PaV N W y v) → N ≤ W.heap.size → W'.ownsRow N 54 1 (.slice lo' (l.length + 1) lc') (l.length + 1) (vs ++ [spV f n]) → Grw N lo lo' W W' → WitP N w (withB l ⟨false, f, n, []⟩) (.returned (.slice lo' (l.length + 1) lc')) W') := fun W W' lo' lc' vs h1 h2 h3 h4 h5 h6 => wit_more (v := spV f n) h1 h2 h3 h4 h5 h6 ⟨.inl ⟨rfl, rfl⟩⟩ hn
    generalize withB l ⟨false, f, n, []⟩ = l2 at *
    go_enter Tryd.func19, Tryd.ntmps19
    go_wp2_with (first
      | (have hz := Fsq; clear hz; go_at_call 92; refine Fsq.out.mono ?_; rintro e w2 ⟨rfl, hb2⟩; have HR : Hid (PaR N w2 l lo lc ∧ Below N w w2) := ⟨HH.out.keep hb2, hb2.mono HH.out.sz⟩; clear hb2 Fsq; obtain ⟨vs, v1, v2, v3⟩ := HR.out.1.vs; have V1 : Hid (vs.length = l.length) := v1; have V2 : Hid (w2.ownsRow N 54 1 (.slice lo l.length lc) l.length vs) := v2; have V3 : Hid (∀ (i : Nat) (y : Pt) (v : Value), l[i]? = some y → vs[i]? = some v → PaV N w2 y v) := v3; clear v1 v2 v3)
      | (have hz := V2; clear hz; at_builtin; refine wpList_append_part rfl (.tmp 9) (.tmp 11) rfl N HR.out.1.sz lo l.length lc vs rfl V2.out w2.heap.size rfl rfl (spV f n) rfl (by have := HL.out; omega) ?_; intro lo3 lc3 w3 ho3 hg3; have H3 : Hid (WitP N w l2 (.returned (.slice lo3 (l.length + 1) lc3)) w3) := HE.out w2 w3 lo3 lc3 vs HR.out.2 V1.out V3.out HR.out.1.sz ho3 hg3; clear ho3 hg3 V2))
    go_ret
    exact H3.out
set_option maxHeartbeats 1000000 in
theorem cwithl_any (N : Nat) (l : List Pt) (lo : Option Addr) (lc : Nat) (bo : Option Addr) (n c : Nat) (b : List By) (w : World) (h : PaR N w l lo lc) (hl : l.length ≤ 1000000) (hv : n ≠ 0 → PaV N w ⟨true, 0, n, b⟩ (layV bo n c)) :
    Calls Tryd.prog 19 #[.slice lo l.length lc, layV bo n c] w (WitP N w (withB l ⟨true, 0, n, b⟩)) := by
  have M1 := mSize_l
  have Fsq : Hid (Calls Tryd.prog 88 #[.agg #[.slice bo n c]] w fun e w' => e = .returned (.int .i64 (n : Int)) ∧ Below w.heap.size w w') := lsize_any bo n c w
  have HH : Hid (PaR N w l lo lc) := h
  have HL : Hid (l.length ≤ 1000000) := hl
  have HV : Hid (n ≠ 0 → PaV N w ⟨true, 0, n, b⟩ (layV bo n c)) := hv
  clear h hl hv
  by_cases hn : n = 0
  · subst hn
    have HE : Hid (∀ w2, Below w.heap.size w w2 → WitP N w (withB l ⟨true, 0, 0, b⟩) (.returned (.slice lo l.length lc)) w2) := fun w2 hb => by
      have e : withB l ⟨true, 0, 0, b⟩ = l := rfl
      rw [e]
      exact ⟨lo, lc, rfl, HH.out.keep hb, hb.mono HH.out.sz⟩
    generalize withB l ⟨true, 0, 0, b⟩ = l2 at *
    clear HV
    go_enter Tryd.func19, Tryd.ntmps19
    go_wp2_with (go_at_call 88; refine Fsq.out.mono ?_; rintro e w2 ⟨rfl, hb2⟩; have HB : Hid (Below w.heap.size w w2) := hb2; clear hb2 Fsq)
    go_ret
    exact HE.out _ HB.out
  · have i0 : ((n : Int) == 0) = false := by rw [beq_eq_false_iff_ne]; omega
    have HE : Hid (∀ W W' lo' lc' vs, Below w.heap.size w W → vs.length = l.length → (∀ (i : Nat) (y : Pt) (v : Value), l[i]? = some y → vs[i]? = some v → PaV N W y v) → N ≤ W.heap.size → W'.ownsRow N 54 1 (.slice lo' (l.length + 1) lc') (l.length + 1) (vs ++ [layV bo n c]) → Grw N lo lo' W W' → WitP N w (withB l ⟨true, 0, n, b⟩) (.returned (.slice lo' (l.length + 1) lc')) W') := fun W W' lo' lc' vs h1 h2 h3 h4 h5 h6 => wit_more (v := layV bo n c) (h1.mono HH.out.sz) h2 h3 h4 h5 h6 ((HV.out hn).keep (h1.mono HH.out.sz)) hn
    generalize withB l ⟨true, 0, n, b⟩ = l2 at *
    clear HV
    go_enter Tryd.func19, Tryd.ntmps19
    go_wp2_with (first
      | (have hz := Fsq; clear hz; go_at_call 88; refine Fsq.out.mono ?_; rintro e w2 ⟨rfl, hb2⟩; have HR : Hid (PaR N w2 l lo lc ∧ Below w.heap.size w w2) := ⟨HH.out.keep hb2, hb2⟩; clear hb2 Fsq; obtain ⟨vs, v1, v2, v3⟩ := HR.out.1.vs; have V1 : Hid (vs.length = l.length) := v1; have V2 : Hid (w2.ownsRow N 54 1 (.slice lo l.length lc) l.length vs) := v2; have V3 : Hid (∀ (i : Nat) (y : Pt) (v : Value), l[i]? = some y → vs[i]? = some v → PaV N w2 y v) := v3; clear v1 v2 v3)
      | (have hz := V2; clear hz; at_builtin; refine wpList_append_part rfl (.tmp 9) (.tmp 11) rfl N HR.out.1.sz lo l.length lc vs rfl V2.out w2.heap.size rfl rfl (layV bo n c) rfl (by have := HL.out; omega) ?_; intro lo3 lc3 w3 ho3 hg3; have H3 : Hid (WitP N w l2 (.returned (.slice lo3 (l.length + 1) lc3)) w3) := HE.out w2 w3 lo3 lc3 vs HR.out.2 V1.out V3.out HR.out.1.sz ho3 hg3; clear ho3 hg3 V2))
    go_ret
    exact H3.out
/-- A slice that came in: bytes that can be read. -/
structure SlB (N : Nat) (w : World) (ao : Option Addr) (n c : Nat) (m : List By) : Prop where
  len : m.length = n
  cap : n ≤ c
  nil : ao = none → c = 0
  isb : IsB w ao m
  lt : N ≤ w.heap.size
  blk : ∀ B off, ao = some ⟨B, off, none⟩ → m ≠ [] → B < N
theorem SlB.of {w : World} {ao : Option Addr} {n c : Nat} {m : List By} (h1 : m.length = n) (h2 : n ≤ c) (h3 : ao = none → c = 0) (h4 : IsB w ao m) : SlB w.heap.size w ao n c m := by
  refine ⟨h1, h2, h3, h4, Nat.le_refl _, fun B off e hm => ?_⟩
  subst e
  rcases h4 with h | ⟨B', off', e, hc⟩
  · exact absurd h hm
  · injection e with e; injection e with e1 e2; subst e1; subst e2
    cases m with
    | nil => exact absurd rfl hm
    | cons x xs => exact cell_lt25 (hc 0 x rfl)
theorem SlB.keep {N : Nat} {w w' : World} {ao : Option Addr} {n c : Nat} {m : List By} (h : SlB N w ao n c m) (hb : Below N w w') : SlB N w' ao n c m := by
  refine ⟨h.len, h.cap, h.nil, ?_, Nat.le_trans h.lt hb.size, h.blk⟩
  by_cases hm : m = []
  · exact .inl hm
  · rcases h.isb with h1 | ⟨B, off, e, hc⟩
    · exact absurd h1 hm
    · subst e
      exact (show IsB w (some ⟨B, off, none⟩) m from h.isb).keepN hb (h.blk B off rfl hm)
theorem SlB.pav {N : Nat} {w : World} {ao : Option Addr} {n c : Nat} {m : List By} (h : SlB N w ao n c m) (hn : n ≠ 0) : PaV N w ⟨true, 0, n, m⟩ (layV ao n c) := by
  have hm : m ≠ [] := fun e => by have := h.len; rw [e] at this; exact hn this.symm
  rcases h.isb with h1 | ⟨B, off, e, hc⟩
  · exact absurd h1 hm
  · subst e
    exact ⟨.inr ⟨rfl, B, off, c, rfl, h.isb, h.len, h.cap, h.blk B off rfl hm⟩⟩
set_option maxHeartbeats 1000000 in
theorem calone_any (N : Nat) (w : World) (ao : Option Addr) (n c : Nat) (new : List By) (h : SlB N w ao n c new) : Calls Tryd.prog 11 #[.slice ao n c] w (WitP N w (aloneP new)) := by
  have F : Hid (Calls Tryd.prog 19 #[.slice none 0 0, layV ao n c] w (WitP N w (aloneP new))) := by
    have := cwithl_any N [] none 0 ao n c new w (PaR.nil N w h.lt) (by simp) (fun hn => h.pav hn)
    unfold aloneP
    rw [h.len]
    exact this
  clear h
  generalize aloneP new = l at *
  go_enter Tryd.func11, Tryd.ntmps11
  go_wp2_with (go_at_call 19; refine F.out.mono ?_; rintro e w2 ⟨lo, lc, rfl, h2, hb2⟩; have H2 : Hid (WitP N w l (.returned (.slice lo l.length lc)) w2) := ⟨lo, lc, rfl, h2, hb2⟩; clear h2 hb2)
  go_ret
  exact H2.out
theorem isb_dropk {W : World} {B off : Nat} {b : List By} (h : IsB W (some ⟨B, off, none⟩) b) (k : Nat) : IsB W (some ⟨B, off + k, none⟩) (b.drop k) := by
  rcases h with rfl | ⟨B', off', e, hc⟩
  · exact .inl (by simp)
  · injection e with e; injection e with e1 e2; subst e1; subst e2
    refine .inr ⟨_, _, rfl, fun j v hj => ?_⟩
    rw [List.getElem?_drop] at hj
    have := hc _ _ hj
    rw [← Nat.add_assoc] at this
    exact this
theorem isb_takek {W : World} {ao : Option Addr} {b : List By} (h : IsB W ao b) (k : Nat) : IsB W ao (b.take k) := by
  rcases h with rfl | ⟨B', off', e, hc⟩
  · exact .inl (by simp)
  · refine .inr ⟨_, _, e, fun j v hj => ?_⟩
    rw [List.getElem?_take] at hj
    split at hj
    · exact hc _ _ hj
    · cases hj
end Go.Proofs.YtdfbfheceobboaaDoor
