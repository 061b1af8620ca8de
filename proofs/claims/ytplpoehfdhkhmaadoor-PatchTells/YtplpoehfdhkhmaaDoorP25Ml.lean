import Derived.Test.YtplpoehfdhkhmaaDoorP25Ph
import Derived.BigQuiet

/-! The code's patch: what two rows begin and end with. -/
namespace Go.Proofs.YtplpoehfdhkhmaaDoor
open Go.RowKit
set_option linter.unusedVariables false
set_option linter.unusedSimpArgs false
set_option maxRecDepth 100000

set_option maxHeartbeats 4000000 in
theorem ccb_any (w : World) (ao : Option Addr) (n cap : Nat) (old : List By) (hn : old.length = n) (hn47 : n <= 524288) (hb : IsB w ao old)
    (po : Option Addr) (pn pc : Nat) (new : List By) (hpn : new.length = pn) (hp47 : pn <= 524288) (hp : IsB w po new) :
    Calls Tryd.prog 48 #[.slice ao n cap, .slice po pn pc] w fun e w' => e = .returned (.int .i64 (lcp old new : Int)) /\ Dr w w' := by
  have HN : Hid (old.length = n) := hn
  have HP : Hid (new.length = pn) := hpn
  have HI : Hid (∀ W, Dr w W -> ∀ j, j < n -> ∃ B off, ao = some ⟨B, off, none⟩ /\ W.cell? ⟨B, off + j, none⟩ = some (.int .u8 ((old.getD j 0).toNat : Int))) := fun W h j hj => (hb.below (Below_dr (Below.refl _ _) h) (Nat.le_refl _)).cell j (by omega)
  have HJ : Hid (∀ W, Dr w W -> ∀ j, j < pn -> ∃ B off, po = some ⟨B, off, none⟩ /\ W.cell? ⟨B, off + j, none⟩ = some (.int .u8 ((new.getD j 0).toNat : Int))) := fun W h j hj => (hp.below (Below_dr (Below.refl _ _) h) (Nat.le_refl _)).cell j (by omega)
  obtain ⟨mn, hmn⟩ : ∃ mn, mn = min n pn := ⟨_, rfl⟩
  have HMN : Hid (mn = min n pn) := hmn
  have EMN : (if pn < n then (pn : Int) else (n : Int)) = (mn : Int) := by rw [hmn]; split <;> omega
  clear hb hp hn hpn hmn
  go_enter Tryd.func48, Tryd.ntmps48
  go_wp2
  go_loopw [5] (fun av wr => ∃ a : Nat, a <= mn /\ av = .int .i64 a /\ Hid (a + lcp (old.drop a) (new.drop a) = lcp old new /\ Dr w wr)) (fun av _ => mn - (intOf av).toNat)
  case atStart => exact ⟨0, by omega, rfl, by simp, Dr.refl _⟩
  case round =>
    obtain ⟨a, ha, rfl, HA⟩ := hrel
    obtain ⟨r, hr⟩ : ∃ r, r = decide (a < mn /\ old.getD a 0 = new.getD a 0) := ⟨_, rfl⟩
    have HR : Hid (r = decide (a < mn /\ old.getD a 0 = new.getD a 0)) := hr
    have y0 : (0 : Int) <= (a : Int) := by omega
    clear hr
    go_upto_region 2 with fail
    go_cut [23] (fun s wx => s = .bool r /\ Dr w wx)
    case first =>
      by_cases h1 : a < mn
      · have k1 : (a : Int) < (mn : Int) := by omega
        have yn1 : (a : Int) < (n : Int) := by have := HMN.out; omega
        have yp1 : (a : Int) < (pn : Int) := by have := HMN.out; omega
        obtain ⟨B, off, rfl, c1⟩ := HI.out _ HA.out.2 a (by have := HMN.out; omega)
        obtain ⟨B2, off2, rfl, c2⟩ := HJ.out _ HA.out.2 a (by have := HMN.out; omega)
        have qb := by_beq (old.getD a 0) (new.getD a 0)
        have hr : decide (old.getD a 0 = new.getD a 0) = r := by rw [HR.out]; simp [h1]
        rw [hr] at qb
        clear hr
        generalize (old.getD a 0).toNat = x1 at *
        generalize (new.getD a 0).toNat = x2 at *
        go_quiet (fail)
        go_wp2
        go_meet
        case rel => exact ⟨rfl, HA.out.2.drewN nq⟩
      · have k1 : decide ((a : Int) < (mn : Int)) = false := by rw [decide_eq_false_iff_not]; omega
        obtain rfl : r = false := by rw [HR.out]; simp [h1]
        go_quiet (fail)
        go_wp2
        go_meet
        case rel => exact ⟨rfl, HA.out.2.drewN nq⟩
    case rest =>
      obtain ⟨rfl, hd⟩ := hcut
      have HD : Hid (Dr w _) := hd
      clear hd
      cases r with
      | true =>
        have h2 := of_decide_eq_true HR.out.symm
        have z1 : IntKind.i64.wrap ((a : Int) + 1) = (a : Int) + 1 := i64_in _ (by omega) (by omega)
        go_wp2
        refine ⟨⟨a + 1, by omega, by go_num, ?_, HD.out⟩, by simp [intOf]; omega⟩
        have := HA.out.1
        rw [lcp_step, if_pos ⟨by have := HN.out; have := HMN.out; omega, by have := HP.out; have := HMN.out; omega, h2.2⟩] at this
        omega
      | false =>
        have h2 := of_decide_eq_false HR.out.symm
        have HZ : Hid (lcp old new = a) := by
          show _ = _
          have := HA.out.1
          rw [lcp_step, if_neg (fun hh => h2 ⟨by have := HN.out; have := HP.out; have := HMN.out; omega, hh.2.2⟩)] at this
          omega
        go_wp2
        go_ret
        exact ⟨by rw [HZ.out]; rfl, HD.out⟩
set_option maxHeartbeats 4000000 in
theorem cce_any (w : World) (ao : Option Addr) (n cap : Nat) (old : List By) (hn : old.length = n) (hn47 : n <= 524288) (hb : IsB w ao old)
    (po : Option Addr) (pn pc : Nat) (new : List By) (hpn : new.length = pn) (hp47 : pn <= 524288) (hp : IsB w po new) :
    Calls Tryd.prog 49 #[.slice ao n cap, .slice po pn pc] w fun e w' => e = .returned (.int .i64 (lcp old.reverse new.reverse : Int)) /\ Dr w w' := by
  have HN : Hid (old.length = n) := hn
  have HP : Hid (new.length = pn) := hpn
  have HI : Hid (∀ W, Dr w W -> ∀ j, j < n -> ∃ B off, ao = some ⟨B, off, none⟩ /\ W.cell? ⟨B, off + j, none⟩ = some (.int .u8 ((old.getD j 0).toNat : Int))) := fun W h j hj => (hb.below (Below_dr (Below.refl _ _) h) (Nat.le_refl _)).cell j (by omega)
  have HJ : Hid (∀ W, Dr w W -> ∀ j, j < pn -> ∃ B off, po = some ⟨B, off, none⟩ /\ W.cell? ⟨B, off + j, none⟩ = some (.int .u8 ((new.getD j 0).toNat : Int))) := fun W h j hj => (hp.below (Below_dr (Below.refl _ _) h) (Nat.le_refl _)).cell j (by omega)
  obtain ⟨mn, hmn⟩ : ∃ mn, mn = min n pn := ⟨_, rfl⟩
  have HMN : Hid (mn = min n pn) := hmn
  have EMN : (if pn < n then (pn : Int) else (n : Int)) = (mn : Int) := by rw [hmn]; split <;> omega
  clear hb hp hn hpn hmn
  go_enter Tryd.func49, Tryd.ntmps49
  go_wp2
  go_loopw [5] (fun av wr => ∃ a : Nat, a <= mn /\ av = .int .i64 a /\ Hid (a + lcp (old.reverse.drop a) (new.reverse.drop a) = lcp old.reverse new.reverse /\ Dr w wr)) (fun av _ => mn - (intOf av).toNat)
  case atStart => exact ⟨0, by omega, rfl, by simp, Dr.refl _⟩
  case round =>
    obtain ⟨a, ha, rfl, HA⟩ := hrel
    obtain ⟨r, hr⟩ : ∃ r, r = decide (a < mn /\ old.getD (n - 1 - a) 0 = new.getD (pn - 1 - a) 0) := ⟨_, rfl⟩
    have HR : Hid (r = decide (a < mn /\ old.getD (n - 1 - a) 0 = new.getD (pn - 1 - a) 0)) := hr
    have y0 : (0 : Int) <= (a : Int) := by omega
    clear hr
    go_upto_region 2 with fail
    go_cut [31] (fun s wx => s = .bool r /\ Dr w wx)
    case first =>
      by_cases h1 : a < mn
      · have k1 : (a : Int) < (mn : Int) := by omega
        have zn : IntKind.i64.wrap ((n : Int) - 1) = (n : Int) - 1 := i64_in _ (by omega) (by omega)
        have zp : IntKind.i64.wrap ((pn : Int) - 1) = (pn : Int) - 1 := i64_in _ (by omega) (by omega)
        have zn2 : IntKind.i64.wrap ((n : Int) - 1 - (a : Int)) = ((n - 1 - a : Nat) : Int) := by rw [i64_in _ (by omega) (by omega)]; have := HMN.out; omega
        have zp2 : IntKind.i64.wrap ((pn : Int) - 1 - (a : Int)) = ((pn - 1 - a : Nat) : Int) := by rw [i64_in _ (by omega) (by omega)]; have := HMN.out; omega
        have yn0 : (0 : Int) <= ((n - 1 - a : Nat) : Int) := by omega
        have yn1 : ((n - 1 - a : Nat) : Int) < (n : Int) := by have := HMN.out; omega
        have yp0 : (0 : Int) <= ((pn - 1 - a : Nat) : Int) := by omega
        have yp1 : ((pn - 1 - a : Nat) : Int) < (pn : Int) := by have := HMN.out; omega
        obtain ⟨B, off, rfl, c1⟩ := HI.out _ HA.out.2 (n - 1 - a) (by have := HMN.out; omega)
        obtain ⟨B2, off2, rfl, c2⟩ := HJ.out _ HA.out.2 (pn - 1 - a) (by have := HMN.out; omega)
        have qb := by_beq (old.getD (n - 1 - a) 0) (new.getD (pn - 1 - a) 0)
        have hr : decide (old.getD (n - 1 - a) 0 = new.getD (pn - 1 - a) 0) = r := by rw [HR.out]; simp [h1]
        rw [hr] at qb
        clear hr
        generalize (old.getD (n - 1 - a) 0).toNat = x1 at *
        generalize (new.getD (pn - 1 - a) 0).toNat = x2 at *
        have hh1 := HMN.out
        obtain ⟨i1, hi1⟩ : ∃ i1, i1 = n - 1 - a := ⟨_, rfl⟩
        obtain ⟨i2, hi2⟩ : ∃ i2, i2 = pn - 1 - a := ⟨_, rfl⟩
        rw [<- hi1] at zn2 yn0 yn1 c1
        rw [<- hi2] at zp2 yp0 yp1 c2
        clear hi1 hi2 hh1
        go_quiet (fail)
        go_wp2
        go_meet
        case rel => exact ⟨rfl, HA.out.2.drewN nq⟩
      · have k1 : decide ((a : Int) < (mn : Int)) = false := by rw [decide_eq_false_iff_not]; omega
        obtain rfl : r = false := by rw [HR.out]; simp [h1]
        go_quiet (fail)
        go_wp2
        go_meet
        case rel => exact ⟨rfl, HA.out.2.drewN nq⟩
    case rest =>
      obtain ⟨rfl, hd⟩ := hcut
      have HD : Hid (Dr w _) := hd
      clear hd
      cases r with
      | true =>
        have h2 := of_decide_eq_true HR.out.symm
        have z1 : IntKind.i64.wrap ((a : Int) + 1) = (a : Int) + 1 := i64_in _ (by omega) (by omega)
        go_wp2
        refine ⟨⟨a + 1, by omega, by go_num, ?_, HD.out⟩, by simp [intOf]; omega⟩
        have := HA.out.1
        have l1 := HN.out
        have l2 := HP.out
        have l3 := HMN.out
        have e1 := rev_getD old 0 a (by omega)
        have e2 := rev_getD new 0 a (by omega)
        rw [List.drop_zero, l1] at e1
        rw [List.drop_zero, l2] at e2
        have hq : old.reverse.getD a 0 = new.reverse.getD a 0 := by rw [e1, e2]; exact h2.2
        rw [lcp_step, if_pos ⟨by rw [List.length_reverse]; omega, by rw [List.length_reverse]; omega, hq⟩] at this
        omega
      | false =>
        have h2 := of_decide_eq_false HR.out.symm
        have HZ : Hid (lcp old.reverse new.reverse = a) := by
          show _ = _
          have := HA.out.1
          have l1 := HN.out
          have l2 := HP.out
          have l3 := HMN.out
          have hq : ¬ (a < old.reverse.length /\ a < new.reverse.length /\ old.reverse.getD a 0 = new.reverse.getD a 0) := fun hh => by
            obtain ⟨k1, k2, k3⟩ := hh
            rw [List.length_reverse] at k1 k2
            have e1 := rev_getD old 0 a (by omega)
            have e2 := rev_getD new 0 a (by omega)
            rw [List.drop_zero, l1] at e1
            rw [List.drop_zero, l2] at e2
            rw [e1, e2] at k3
            exact h2 ⟨by omega, k3⟩
          rw [lcp_step, if_neg hq] at this
          omega
        go_wp2
        go_ret
        exact ⟨by rw [HZ.out]; rfl, HD.out⟩
end Go.Proofs.YtplpoehfdhkhmaaDoor


/-! The code's patch: the parts of Make. -/
namespace Go.Proofs.YtplpoehfdhkhmaaDoor
open Go.RowKit
set_option linter.unusedVariables false
set_option linter.unusedSimpArgs false
set_option maxRecDepth 100000

/-- Parts in new memory are answered. -/
def WitP (N : Nat) (w : World) (l : List Pt) (e : Ending) (w' : World) : Prop := ∃ lo lc, e = .returned (.slice lo l.length lc) /\ PaR N w' l lo lc /\ Below N w w'
theorem wit_more {N : Nat} {w W W' : World} {l : List Pt} {lo lo' : Option Addr} {lc' : Nat} {vs : List Value} {y : Pt} {v : Value} (hb : Below N w W) (hv1 : vs.length = l.length) (hv3 : ∀ (i : Nat) (y : Pt) (v : Value), l[i]? = some y -> vs[i]? = some v -> PaV N W y v) (hN : N <= W.heap.size) (ho : W'.ownsRow N 70 1 (.slice lo' (l.length + 1) lc') (l.length + 1) (vs ++ [v])) (hg : Grw N lo lo' W W') (hv : PaV N W y v) (hy : y.n ≠ 0) : WitP N w (withB l y) (.returned (.slice lo' (l.length + 1) lc')) W' := by
  have e : withB l y = l ++ [y] := by unfold withB; rw [if_neg hy]
  unfold WitP
  rw [e, List.length_append]
  exact ⟨lo', lc', rfl, PaR.snoc (W := W) (Nat.le_trans hN hg.size) hv1 (fun i z u hz hu => (hv3 i z u hz hu).keep hg.bel) ho (hv.keep hg.bel), hb.trans hg.bel⟩
set_option maxHeartbeats 1000000 in
theorem cwiths_any (N : Nat) (l : List Pt) (lo : Option Addr) (lc f n : Nat) (w : World) (h : PaR N w l lo lc) (hl : l.length <= 1000000) :
    Calls Tryd.prog 47 #[.slice lo l.length lc, spV f n] w (WitP N w (withB l ⟨false, f, n, []⟩)) := by
  have M1 := mSize_s
  have Fsq : Hid (Calls Tryd.prog 114 #[.agg #[.int .i64 (f : Int), .int .i64 (n : Int)]] w fun e w' => e = .returned (.int .i64 (n : Int)) /\ Below w.heap.size w w') := ssize_any f n w
  have HH : Hid (PaR N w l lo lc) := h
  have HL : Hid (l.length <= 1000000) := hl
  clear h hl
  by_cases hn : n = 0
  · subst hn
    have HE : Hid (∀ w2, Below w.heap.size w w2 -> WitP N w (withB l ⟨false, f, 0, []⟩) (.returned (.slice lo l.length lc)) w2) := fun w2 hb => by
      have e : withB l ⟨false, f, 0, []⟩ = l := rfl
      rw [e]
      exact ⟨lo, lc, rfl, HH.out.keep hb, hb.mono HH.out.sz⟩
    generalize withB l ⟨false, f, 0, []⟩ = l2 at *
    go_enter Tryd.func47, Tryd.ntmps47
    go_wp2_with (go_at_call 114; refine Fsq.out.mono ?_; rintro e w2 ⟨rfl, hb2⟩; have HB : Hid (Below w.heap.size w w2) := hb2; clear hb2 Fsq)
    go_ret
    exact HE.out _ HB.out
  · have i0 : ((n : Int) == 0) = false := by rw [beq_eq_false_iff_ne]; omega
    have HE : Hid (∀ W W' lo' lc' vs, Below N w W -> vs.length = l.length -> (∀ (i : Nat) (y : Pt) (v : Value), l[i]? = some y -> vs[i]? = some v -> PaV N W y v) -> N <= W.heap.size -> W'.ownsRow N 70 1 (.slice lo' (l.length + 1) lc') (l.length + 1) (vs ++ [spV f n]) -> Grw N lo lo' W W' -> WitP N w (withB l ⟨false, f, n, []⟩) (.returned (.slice lo' (l.length + 1) lc')) W') := fun W W' lo' lc' vs h1 h2 h3 h4 h5 h6 => wit_more (v := spV f n) h1 h2 h3 h4 h5 h6 ⟨.inl ⟨rfl, rfl⟩⟩ hn
    generalize withB l ⟨false, f, n, []⟩ = l2 at *
    go_enter Tryd.func47, Tryd.ntmps47
    go_wp2_with (first
      | (have hz := Fsq; clear hz; go_at_call 114; refine Fsq.out.mono ?_; rintro e w2 ⟨rfl, hb2⟩; have HR : Hid (PaR N w2 l lo lc /\ Below N w w2) := ⟨HH.out.keep hb2, hb2.mono HH.out.sz⟩; clear hb2 Fsq; obtain ⟨vs, v1, v2, v3⟩ := HR.out.1.vs; have V1 : Hid (vs.length = l.length) := v1; have V2 : Hid (w2.ownsRow N 70 1 (.slice lo l.length lc) l.length vs) := v2; have V3 : Hid (∀ (i : Nat) (y : Pt) (v : Value), l[i]? = some y -> vs[i]? = some v -> PaV N w2 y v) := v3; clear v1 v2 v3)
      | (have hz := V2; clear hz; at_builtin; refine wpList_append_part rfl (.tmp 9) (.tmp 11) rfl N HR.out.1.sz lo l.length lc vs rfl V2.out w2.heap.size rfl rfl (spV f n) rfl (by have := HL.out; omega) ?_; intro lo3 lc3 w3 ho3 hg3; have H3 : Hid (WitP N w l2 (.returned (.slice lo3 (l.length + 1) lc3)) w3) := HE.out w2 w3 lo3 lc3 vs HR.out.2 V1.out V3.out HR.out.1.sz ho3 hg3; clear ho3 hg3 V2))
    go_ret
    exact H3.out
set_option maxHeartbeats 1000000 in
theorem cwithl_any (N : Nat) (l : List Pt) (lo : Option Addr) (lc : Nat) (bo : Option Addr) (n c : Nat) (b : List By) (w : World) (h : PaR N w l lo lc) (hl : l.length <= 1000000) (hv : n ≠ 0 -> PaV N w ⟨true, 0, n, b⟩ (layV bo n c)) :
    Calls Tryd.prog 47 #[.slice lo l.length lc, layV bo n c] w (WitP N w (withB l ⟨true, 0, n, b⟩)) := by
  have M1 := mSize_l
  have Fsq : Hid (Calls Tryd.prog 110 #[.agg #[.slice bo n c]] w fun e w' => e = .returned (.int .i64 (n : Int)) /\ Below w.heap.size w w') := lsize_any bo n c w
  have HH : Hid (PaR N w l lo lc) := h
  have HL : Hid (l.length <= 1000000) := hl
  have HV : Hid (n ≠ 0 -> PaV N w ⟨true, 0, n, b⟩ (layV bo n c)) := hv
  clear h hl hv
  by_cases hn : n = 0
  · subst hn
    have HE : Hid (∀ w2, Below w.heap.size w w2 -> WitP N w (withB l ⟨true, 0, 0, b⟩) (.returned (.slice lo l.length lc)) w2) := fun w2 hb => by
      have e : withB l ⟨true, 0, 0, b⟩ = l := rfl
      rw [e]
      exact ⟨lo, lc, rfl, HH.out.keep hb, hb.mono HH.out.sz⟩
    generalize withB l ⟨true, 0, 0, b⟩ = l2 at *
    clear HV
    go_enter Tryd.func47, Tryd.ntmps47
    go_wp2_with (go_at_call 110; refine Fsq.out.mono ?_; rintro e w2 ⟨rfl, hb2⟩; have HB : Hid (Below w.heap.size w w2) := hb2; clear hb2 Fsq)
    go_ret
    exact HE.out _ HB.out
  · have i0 : ((n : Int) == 0) = false := by rw [beq_eq_false_iff_ne]; omega
    have HE : Hid (∀ W W' lo' lc' vs, Below w.heap.size w W -> vs.length = l.length -> (∀ (i : Nat) (y : Pt) (v : Value), l[i]? = some y -> vs[i]? = some v -> PaV N W y v) -> N <= W.heap.size -> W'.ownsRow N 70 1 (.slice lo' (l.length + 1) lc') (l.length + 1) (vs ++ [layV bo n c]) -> Grw N lo lo' W W' -> WitP N w (withB l ⟨true, 0, n, b⟩) (.returned (.slice lo' (l.length + 1) lc')) W') := fun W W' lo' lc' vs h1 h2 h3 h4 h5 h6 => wit_more (v := layV bo n c) (h1.mono HH.out.sz) h2 h3 h4 h5 h6 ((HV.out hn).keep (h1.mono HH.out.sz)) hn
    generalize withB l ⟨true, 0, n, b⟩ = l2 at *
    clear HV
    go_enter Tryd.func47, Tryd.ntmps47
    go_wp2_with (first
      | (have hz := Fsq; clear hz; go_at_call 110; refine Fsq.out.mono ?_; rintro e w2 ⟨rfl, hb2⟩; have HR : Hid (PaR N w2 l lo lc /\ Below w.heap.size w w2) := ⟨HH.out.keep hb2, hb2⟩; clear hb2 Fsq; obtain ⟨vs, v1, v2, v3⟩ := HR.out.1.vs; have V1 : Hid (vs.length = l.length) := v1; have V2 : Hid (w2.ownsRow N 70 1 (.slice lo l.length lc) l.length vs) := v2; have V3 : Hid (∀ (i : Nat) (y : Pt) (v : Value), l[i]? = some y -> vs[i]? = some v -> PaV N w2 y v) := v3; clear v1 v2 v3)
      | (have hz := V2; clear hz; at_builtin; refine wpList_append_part rfl (.tmp 9) (.tmp 11) rfl N HR.out.1.sz lo l.length lc vs rfl V2.out w2.heap.size rfl rfl (layV bo n c) rfl (by have := HL.out; omega) ?_; intro lo3 lc3 w3 ho3 hg3; have H3 : Hid (WitP N w l2 (.returned (.slice lo3 (l.length + 1) lc3)) w3) := HE.out w2 w3 lo3 lc3 vs HR.out.2 V1.out V3.out HR.out.1.sz ho3 hg3; clear ho3 hg3 V2))
    go_ret
    exact H3.out
/-- A slice that came in: bytes that can be read. -/
structure SlB (N : Nat) (w : World) (ao : Option Addr) (n c : Nat) (m : List By) : Prop where
  len : m.length = n
  cap : n <= c
  nil : ao = none -> c = 0
  isb : IsB w ao m
  lt : N <= w.heap.size
  blk : ∀ B off, ao = some ⟨B, off, none⟩ -> m ≠ [] -> B < N
theorem SlB.of {w : World} {ao : Option Addr} {n c : Nat} {m : List By} (h1 : m.length = n) (h2 : n <= c) (h3 : ao = none -> c = 0) (h4 : IsB w ao m) : SlB w.heap.size w ao n c m := by
  refine ⟨h1, h2, h3, h4, Nat.le_refl _, fun B off e hm => ?_⟩
  subst e
  rcases h4 with h | ⟨B', off', e, hc⟩
  · exact absurd h hm
  · injection e with e; injection e with e1 e2; subst e1; subst e2
    cases m with
    | nil => exact absurd rfl hm
    | cons x xs => exact cell_lt25 (hc 0 x rfl)
theorem SlB.keep {N : Nat} {w w' : World} {ao : Option Addr} {n c : Nat} {m : List By} (h : SlB N w ao n c m) (hb : Below N w w') : SlB N w' ao n c m := by
  refine ⟨h.len, h.cap, h.nil, ?_, Nat.le_trans h.lt hb.size, h.blk⟩
  by_cases hm : m = []
  · exact .inl hm
  · rcases h.isb with h1 | ⟨B, off, e, hc⟩
    · exact absurd h1 hm
    · subst e
      exact (show IsB w (some ⟨B, off, none⟩) m from h.isb).keepN hb (h.blk B off rfl hm)
theorem SlB.pav {N : Nat} {w : World} {ao : Option Addr} {n c : Nat} {m : List By} (h : SlB N w ao n c m) (hn : n ≠ 0) : PaV N w ⟨true, 0, n, m⟩ (layV ao n c) := by
  have hm : m ≠ [] := fun e => by have := h.len; rw [e] at this; exact hn this.symm
  rcases h.isb with h1 | ⟨B, off, e, hc⟩
  · exact absurd h1 hm
  · subst e
    exact ⟨.inr ⟨rfl, B, off, c, rfl, h.isb, h.len, h.cap, h.blk B off rfl hm⟩⟩
set_option maxHeartbeats 1000000 in
theorem calone_any (N : Nat) (w : World) (ao : Option Addr) (n c : Nat) (new : List By) (h : SlB N w ao n c new) : Calls Tryd.prog 29 #[.slice ao n c] w (WitP N w (aloneP new)) := by
  have F : Hid (Calls Tryd.prog 47 #[.slice none 0 0, layV ao n c] w (WitP N w (aloneP new))) := by
    have := cwithl_any N [] none 0 ao n c new w (PaR.nil N w h.lt) (by simp) (fun hn => h.pav hn)
    unfold aloneP
    rw [h.len]
    exact this
  clear h
  generalize aloneP new = l at *
  go_enter Tryd.func29, Tryd.ntmps29
  go_wp2_with (go_at_call 47; refine F.out.mono ?_; rintro e w2 ⟨lo, lc, rfl, h2, hb2⟩; have H2 : Hid (WitP N w l (.returned (.slice lo l.length lc)) w2) := ⟨lo, lc, rfl, h2, hb2⟩; clear h2 hb2)
  go_ret
  exact H2.out
theorem isb_dropk {W : World} {B off : Nat} {b : List By} (h : IsB W (some ⟨B, off, none⟩) b) (k : Nat) : IsB W (some ⟨B, off + k, none⟩) (b.drop k) := by
  rcases h with rfl | ⟨B', off', e, hc⟩
  · exact .inl (by simp)
  · injection e with e; injection e with e1 e2; subst e1; subst e2
    refine .inr ⟨_, _, rfl, fun j v hj => ?_⟩
    rw [List.getElem?_drop] at hj
    have := hc _ _ hj
    rw [<- Nat.add_assoc] at this
    exact this
theorem isb_takek {W : World} {ao : Option Addr} {b : List By} (h : IsB W ao b) (k : Nat) : IsB W ao (b.take k) := by
  rcases h with rfl | ⟨B', off', e, hc⟩
  · exact .inl (by simp)
  · refine .inr ⟨_, _, e, fun j v hj => ?_⟩
    rw [List.getElem?_take] at hj
    split at hj
    · exact hc _ _ hj
    · cases hj
end Go.Proofs.YtplpoehfdhkhmaaDoor


/-! The code's patch: keepEnds. -/
namespace Go.Proofs.YtplpoehfdhkhmaaDoor
open Go.RowKit
set_option linter.unusedVariables false
set_option linter.unusedSimpArgs false
set_option maxRecDepth 100000

theorem withB_le (l : List Pt) (y : Pt) : (withB l y).length <= l.length + 1 := by
  unfold withB
  split
  · omega
  · simp
/-- What is left of a slice behind a place: no room, bytes at a place, or none at all. -/
theorem slB_drop {N : Nat} {w : World} {ao : Option Addr} {n c : Nat} {m : List By} (h : SlB N w ao n c m) (k : Nat) (hk : k <= n) : (c = k /\ m.drop k = []) ∨ (¬ c = k /\ ∃ B off, ao = some ⟨B, off, none⟩ /\ m ≠ []) ∨ (¬ c = k /\ m = [] /\ k = 0 /\ ∃ a, ao = some a) := by
  by_cases hc : c = k
  · exact .inl ⟨hc, List.drop_eq_nil_of_le (by have := h.len; have := h.cap; omega)⟩
  · cases ao with
    | none => exact absurd (h.nil rfl) (by have := h.cap; omega)
    | some a =>
      by_cases hm : m = []
      · exact .inr (.inr ⟨hc, hm, by have := h.len; rw [hm] at this; simp at this; omega, a, rfl⟩)
      · rcases h.isb with h1 | ⟨B, off, e, hcc⟩
        · exact absurd h1 hm
        · exact .inr (.inl ⟨hc, B, off, e, hm⟩)
set_option maxHeartbeats 4000000 in
theorem ckeep_any (N : Nat) (w : World) (ao : Option Addr) (n c : Nat) (old : List By) (po : Option Addr) (pn pc : Nat) (new : List By) (h1 : SlB N w ao n c old) (h2 : SlB N w po pn pc new) (hn : n <= 524288) (hpn : pn <= 524288) :
    Calls Tryd.prog 30 #[.slice ao n c, .slice po pn pc] w (WitP N w (keptP old new (lcp old new) (lcsN old new))) := by
  have FB := ccb_any w ao n c old h1.len hn h1.isb po pn pc new h2.len hpn h2.isb
  have hle := lcs_le old new
  have hlp := lcp_le old new
  rw [h1.len, h2.len] at hle hlp
  have FE : Hid (∀ W ao' n1 c1 po' n2 c2, IsB W ao' (old.drop (lcp old new)) -> IsB W po' (new.drop (lcp old new)) -> n1 = n - lcp old new -> n2 = pn - lcp old new -> Calls Tryd.prog 49 #[.slice ao' n1 c1, .slice po' n2 c2] W fun e w' => e = .returned (.int .i64 (lcsN old new : Int)) /\ ∃ m, w' = W.drewN m) := fun W ao' n1 c1 po' n2 c2 i1 i2 e1 e2 => by
    subst e1; subst e2
    exact cce_any W ao' (n - lcp old new) c1 (old.drop (lcp old new)) (by rw [List.length_drop, h1.len]) (by omega) i1 po' (pn - lcp old new) c2 (new.drop (lcp old new)) (by rw [List.length_drop, h2.len]) (by omega) i2
  have HK : Hid (keptP old new (lcp old new) (lcsN old new) = withB (withB (withB [] ⟨false, 0, lcp old new, []⟩) ⟨true, 0, pn - lcsN old new - lcp old new, (new.drop (lcp old new)).take (pn - lcsN old new - lcp old new)⟩) ⟨false, n - lcsN old new, lcsN old new, []⟩) := by
    show _ = _
    unfold keptP
    rw [h1.len, h2.len]
  generalize keptP old new (lcp old new) (lcsN old new) = KP at *
  generalize lcsN old new = t at *
  generalize lcp old new = h at *
  have HP1 : Hid (SlB N w ao n c old) := h1
  have HP2 : Hid (SlB N w po pn pc new) := h2
  have S1 := slB_drop h1 h hlp.1
  have S2 := slB_drop h2 h hlp.2
  have S1 : Hid ((c = h /\ old.drop h = []) ∨ (¬ c = h /\ ∃ B off, ao = some ⟨B, off, none⟩ /\ old ≠ []) ∨ (¬ c = h /\ old = [] /\ h = 0 /\ ∃ a, ao = some a)) := S1
  have S2 : Hid ((pc = h /\ new.drop h = []) ∨ (¬ pc = h /\ ∃ B off, po = some ⟨B, off, none⟩ /\ new ≠ []) ∨ (¬ pc = h /\ new = [] /\ h = 0 /\ ∃ a, po = some a)) := S2
  have cap1 := h1.cap
  have cap2 := h2.cap
  obtain ⟨L1, hL1⟩ : ∃ L1, L1 = withB [] ⟨false, 0, h, []⟩ := ⟨_, rfl⟩
  obtain ⟨L2, hL2⟩ : ∃ L2, L2 = withB L1 ⟨true, 0, pn - t - h, (new.drop h).take (pn - t - h)⟩ := ⟨_, rfl⟩
  have hl1 : L1.length <= 1 := by rw [hL1]; exact withB_le _ _
  have hl2 : L2.length <= 2 := by rw [hL2]; have := withB_le L1 ⟨true, 0, pn - t - h, (new.drop h).take (pn - t - h)⟩; omega
  have FW1 : Hid (∀ W, Dr w W -> Calls Tryd.prog 47 #[.slice none 0 0, .iface 108 (.agg #[.int .i64 0, .int .i64 (h : Int)])] W (WitP N W L1)) := fun W hW => by
    rw [hL1]
    exact cwiths_any N [] none 0 0 h W (PaR.nil N W (by obtain ⟨k, rfl⟩ := hW; exact h1.lt)) (by simp)
  have FW2 : Hid (∀ W lo3 lc3 bo n2 c2, PaR N W L1 lo3 lc3 -> n2 = pn - t - h -> (n2 ≠ 0 -> PaV N W ⟨true, 0, n2, (new.drop h).take n2⟩ (layV bo n2 c2)) -> Calls Tryd.prog 47 #[.slice lo3 L1.length lc3, .iface 106 (.agg #[.slice bo n2 c2])] W (WitP N W L2)) := fun W lo3 lc3 bo n2 c2 q1 q2 q3 => by
    subst q2
    rw [hL2]
    exact cwithl_any N L1 lo3 lc3 bo _ c2 _ W q1 (by omega) q3
  have FW3 : Hid (∀ W lo3 lc3, PaR N W L2 lo3 lc3 -> Calls Tryd.prog 47 #[.slice lo3 L2.length lc3, .iface 108 (.agg #[.int .i64 ((n - t : Nat) : Int), .int .i64 (t : Int)])] W (WitP N W KP)) := fun W lo3 lc3 q1 => by
    rw [HK.out, <- hL1, <- hL2]
    exact cwiths_any N L2 lo3 lc3 (n - t) t W q1 (by omega)
  have z1 : IntKind.i64.wrap ((pn : Int) - (t : Int)) = ((pn - t : Nat) : Int) := by rw [i64_in _ (by omega) (by omega)]; omega
  have z2 : IntKind.i64.wrap ((n : Int) - (t : Int)) = ((n - t : Nat) : Int) := by rw [i64_in _ (by omega) (by omega)]; omega
  clear h1 h2 hL1 hL2 hl1 hl2
  go_enter Tryd.func30, Tryd.ntmps30
  go_wp2_with fail
  refine FB.mono ?_
  rintro e w1 ⟨rfl, hd⟩
  have HD : Hid (Dr w w1) := hd
  clear hd FB
  dsimp only
  have y0 : (0 : Int) <= (h : Int) := by omega
  have y1 : (h : Int) <= (n : Int) := by omega
  have y2 : (h : Int) <= (pn : Int) := by omega
  have y3 : (n : Int) <= (c : Int) := by omega
  have y4 : (pn : Int) <= (pc : Int) := by omega
  go_upto_region 2 with fail
  go_cut [6] (fun s wx => ∃ wz, wz = wx /\ s = .int .i64 (t : Int) /\ Dr w wz)
  case first =>
    rcases S1.out with ⟨hc, e1⟩ | ⟨hc, B, off, rfl, hm⟩ | ⟨hc, e1, rfl, a, rfl⟩
    · have I1 : Hid (∀ W (X : Option Addr), Dr w W -> IsB W X (old.drop h)) := fun W X _ => .inl e1
      clear e1
      rcases S2.out with ⟨hc2, e2⟩ | ⟨hc2, B2, off2, rfl, hm2⟩ | ⟨hc2, e2, rfl, a2, rfl⟩
      · have I2 : Hid (∀ W (X : Option Addr), Dr w W -> IsB W X (new.drop h)) := fun W X _ => .inl e2
        clear e2
        clear S1 S2 HP1 HP2 HK
        obtain rfl : n = c := by omega
        subst hc
        obtain rfl : pn = pc := by omega
        subst hc2
        go_quiet (first | (go_at_call 49; exact Calls.quiet_of (FE.out _ _ _ _ _ _ _ (I1.out _ _ (HD.out.drewN _)) (I2.out _ _ (HD.out.drewN _)) (by omega) (by omega))))
        go_wp2
        go_meet
        case rel => exact ⟨_, rfl, rfl, HD.out.drewN nq⟩
      · have I2 : Hid (∀ W, Dr w W -> IsB W (some ⟨B2, off2 + h, none⟩) (new.drop h)) := fun W hW => isb_dropk (HP2.out.isb.below (Below_dr (Below.refl _ _) hW) (Nat.le_refl _)) h
        clear S1 S2 HP1 HP2 HK
        obtain rfl : n = c := by omega
        subst hc
        go_quiet (first | (go_at_call 49; exact Calls.quiet_of (FE.out _ _ _ _ _ _ _ (I1.out _ _ (HD.out.drewN _)) (I2.out _ (HD.out.drewN _)) (by omega) (by omega))))
        go_wp2
        go_meet
        case rel => exact ⟨_, rfl, rfl, HD.out.drewN nq⟩
      · have I2 : Hid (∀ W (X : Option Addr), Dr w W -> IsB W X (new.drop 0)) := fun W X _ => .inl (by rw [e2]; rfl)
        clear e2
        clear S1 S2 HP1 HP2 HK
        obtain rfl : n = c := by omega
        subst hc
        go_quiet (first | (go_at_call 49; exact Calls.quiet_of (FE.out _ _ _ _ _ _ _ (I1.out _ _ (HD.out.drewN _)) (I2.out _ _ (HD.out.drewN _)) (by omega) (by omega))))
        go_wp2
        go_meet
        case rel => exact ⟨_, rfl, rfl, HD.out.drewN nq⟩
    · have I1 : Hid (∀ W, Dr w W -> IsB W (some ⟨B, off + h, none⟩) (old.drop h)) := fun W hW => isb_dropk (HP1.out.isb.below (Below_dr (Below.refl _ _) hW) (Nat.le_refl _)) h
      rcases S2.out with ⟨hc2, e2⟩ | ⟨hc2, B2, off2, rfl, hm2⟩ | ⟨hc2, e2, rfl, a2, rfl⟩
      · have I2 : Hid (∀ W (X : Option Addr), Dr w W -> IsB W X (new.drop h)) := fun W X _ => .inl e2
        clear e2
        clear S1 S2 HP1 HP2 HK
        obtain rfl : pn = pc := by omega
        subst hc2
        go_quiet (first | (go_at_call 49; exact Calls.quiet_of (FE.out _ _ _ _ _ _ _ (I1.out _ (HD.out.drewN _)) (I2.out _ _ (HD.out.drewN _)) (by omega) (by omega))))
        go_wp2
        go_meet
        case rel => exact ⟨_, rfl, rfl, HD.out.drewN nq⟩
      · have I2 : Hid (∀ W, Dr w W -> IsB W (some ⟨B2, off2 + h, none⟩) (new.drop h)) := fun W hW => isb_dropk (HP2.out.isb.below (Below_dr (Below.refl _ _) hW) (Nat.le_refl _)) h
        clear S1 S2 HP1 HP2 HK
        go_quiet (first | (go_at_call 49; exact Calls.quiet_of (FE.out _ _ _ _ _ _ _ (I1.out _ (HD.out.drewN _)) (I2.out _ (HD.out.drewN _)) (by omega) (by omega))))
        go_wp2
        go_meet
        case rel => exact ⟨_, rfl, rfl, HD.out.drewN nq⟩
      · have I2 : Hid (∀ W (X : Option Addr), Dr w W -> IsB W X (new.drop 0)) := fun W X _ => .inl (by rw [e2]; rfl)
        clear e2
        clear S1 S2 HP1 HP2 HK
        go_quiet (first | (go_at_call 49; exact Calls.quiet_of (FE.out _ _ _ _ _ _ _ (I1.out _ (HD.out.drewN _)) (I2.out _ _ (HD.out.drewN _)) (by omega) (by omega))))
        go_wp2
        go_meet
        case rel => exact ⟨_, rfl, rfl, HD.out.drewN nq⟩
    · have I1 : Hid (∀ W (X : Option Addr), Dr w W -> IsB W X (old.drop 0)) := fun W X _ => .inl (by rw [e1]; rfl)
      clear e1
      rcases S2.out with ⟨hc2, e2⟩ | ⟨hc2, B2, off2, rfl, hm2⟩ | ⟨hc2, e2, _, a2, rfl⟩
      · have I2 : Hid (∀ W (X : Option Addr), Dr w W -> IsB W X (new.drop 0)) := fun W X _ => .inl e2
        clear e2
        clear S1 S2 HP1 HP2 HK
        obtain rfl : pn = pc := by omega
        subst hc2
        go_quiet (first | (go_at_call 49; exact Calls.quiet_of (FE.out _ _ _ _ _ _ _ (I1.out _ _ (HD.out.drewN _)) (I2.out _ _ (HD.out.drewN _)) (by omega) (by omega))))
        go_wp2
        go_meet
        case rel => exact ⟨_, rfl, rfl, HD.out.drewN nq⟩
      · have I2 : Hid (∀ W, Dr w W -> IsB W (some ⟨B2, off2 + 0, none⟩) (new.drop 0)) := fun W hW => isb_dropk (HP2.out.isb.below (Below_dr (Below.refl _ _) hW) (Nat.le_refl _)) 0
        clear S1 S2 HP1 HP2 HK
        go_quiet (first | (go_at_call 49; exact Calls.quiet_of (FE.out _ _ _ _ _ _ _ (I1.out _ _ (HD.out.drewN _)) (I2.out _ (HD.out.drewN _)) (by omega) (by omega))))
        go_wp2
        go_meet
        case rel => exact ⟨_, rfl, rfl, HD.out.drewN nq⟩
      · have I2 : Hid (∀ W (X : Option Addr), Dr w W -> IsB W X (new.drop 0)) := fun W X _ => .inl (by rw [e2]; rfl)
        clear e2
        clear S1 S2 HP1 HP2 HK
        go_quiet (first | (go_at_call 49; exact Calls.quiet_of (FE.out _ _ _ _ _ _ _ (I1.out _ _ (HD.out.drewN _)) (I2.out _ _ (HD.out.drewN _)) (by omega) (by omega))))
        go_wp2
        go_meet
        case rel => exact ⟨_, rfl, rfl, HD.out.drewN nq⟩
  case rest =>
    obtain ⟨w2, hw2, rfl, hd2⟩ := hcut
    subst hw2
    have HD2 : Hid (Dr w w2) := hd2
    clear hd2 HD FE S1
    go_wp2_with fail
    refine (FW1.out _ HD2.out).mono ?_
    rintro e w3 ⟨lo3, lc3, rfl, hp3, hb3⟩
    have HP3 : Hid (PaR N w3 L1 lo3 lc3 /\ SlB N w3 po pn pc new /\ Below N w w3) := by
      have hb : Below N w w3 := by
        obtain ⟨k, rfl⟩ := HD2.out
        exact (Below_drewN (Below.refl _ _) k).trans hb3
      exact ⟨hp3, HP2.out.keep hb, hb⟩
    clear hp3 hb3 FW1 HD2 HP1 HP2 HK
    dsimp only
    have y5 : (h : Int) <= ((pn - t : Nat) : Int) := by omega
    have y6 : ((pn - t : Nat) : Int) <= (pc : Int) := by omega
    rcases S2.out with ⟨hc2, e2⟩ | ⟨hc2, B2, off2, rfl, hm2⟩ | ⟨hc2, e2, rfl, a2, rfl⟩
    · clear S2
      have hz : pn - t - h = 0 := by omega
      obtain rfl : t = 0 := by omega
      obtain rfl : pn = h := by omega
      subst hc2
      go_wp2_with fail
      refine (FW2.out _ _ _ _ _ _ HP3.out.1 (by omega) (fun hh => absurd (show _ = 0 by omega) hh)).mono ?_
      rintro e w4 ⟨lo4, lc4, rfl, hp4, hb4⟩
      have HP4 : Hid (PaR N w4 L2 lo4 lc4 /\ Below N w w4) := ⟨hp4, HP3.out.2.2.trans hb4⟩
      clear hp4 hb4
      dsimp only
      go_wp2_with fail
      refine (FW3.out _ _ _ HP4.out.1).mono ?_
      rintro e w5 ⟨lo5, lc5, rfl, hp5, hb5⟩
      have HP5 : Hid (WitP N w KP (.returned (.slice lo5 KP.length lc5)) w5) := ⟨lo5, lc5, rfl, hp5, HP4.out.2.trans hb5⟩
      clear hp5 hb5
      dsimp only
      go_wp2
      go_ret
      exact HP5.out
    · have HV : Hid (PaV N w3 ⟨true, 0, pn - t - h, (new.drop h).take (pn - t - h)⟩ (layV (some ⟨B2, off2 + h, none⟩) (pn - t - h) (pc - h)) ∨ pn - t - h = 0) := by
        by_cases hz : pn - t - h = 0
        · exact .inr hz
        · have q := HP3.out.2.1
          exact .inl ⟨.inr ⟨rfl, B2, off2 + h, pc - h, rfl, isb_takek (isb_dropk q.isb h) _, by rw [List.length_take, List.length_drop, q.len]; show min _ _ = pn - t - h; omega, by show pn - t - h <= pc - h; omega, q.blk B2 off2 rfl hm2⟩⟩
      clear S2
      have HV2 : Hid (∀ n2, n2 = pn - t - h -> n2 ≠ 0 -> PaV N w3 ⟨true, 0, n2, (new.drop h).take n2⟩ (layV (some ⟨B2, off2 + h, none⟩) n2 (pc - h))) := fun n2 e hn => by
        subst e
        rcases HV.out with h | h
        · exact h
        · exact absurd h hn
      clear HV
      go_wp2_with fail
      refine (FW2.out _ _ _ _ _ _ HP3.out.1 rfl (HV2.out _ rfl)).mono ?_
      rintro e w4 ⟨lo4, lc4, rfl, hp4, hb4⟩
      have HP4 : Hid (PaR N w4 L2 lo4 lc4 /\ Below N w w4) := ⟨hp4, HP3.out.2.2.trans hb4⟩
      clear hp4 hb4
      dsimp only
      go_wp2_with fail
      refine (FW3.out _ _ _ HP4.out.1).mono ?_
      rintro e w5 ⟨lo5, lc5, rfl, hp5, hb5⟩
      have HP5 : Hid (WitP N w KP (.returned (.slice lo5 KP.length lc5)) w5) := ⟨lo5, lc5, rfl, hp5, HP4.out.2.trans hb5⟩
      clear hp5 hb5
      dsimp only
      go_wp2
      go_ret
      exact HP5.out
    · clear S2
      have e3 : pn = 0 := by have := HP3.out.2.1.len; rw [e2] at this; simpa using this.symm
      obtain rfl : t = 0 := by omega
      subst e3
      go_wp2_with fail
      refine (FW2.out _ _ _ _ _ _ HP3.out.1 (by omega) (fun hh => absurd (show _ = 0 by omega) hh)).mono ?_
      rintro e w4 ⟨lo4, lc4, rfl, hp4, hb4⟩
      have HP4 : Hid (PaR N w4 L2 lo4 lc4 /\ Below N w w4) := ⟨hp4, HP3.out.2.2.trans hb4⟩
      clear hp4 hb4
      dsimp only
      go_wp2_with fail
      refine (FW3.out _ _ _ HP4.out.1).mono ?_
      rintro e w5 ⟨lo5, lc5, rfl, hp5, hb5⟩
      have HP5 : Hid (WitP N w KP (.returned (.slice lo5 KP.length lc5)) w5) := ⟨lo5, lc5, rfl, hp5, HP4.out.2.trans hb5⟩
      clear hp5 hb5
      dsimp only
      go_wp2
      go_ret
      exact HP5.out
end Go.Proofs.YtplpoehfdhkhmaaDoor
