
import Derived.Test.YtdfbfheceobboaaDoorP25Rc
/-! The code's patch: the next part. -/
namespace Go.Proofs.YtdfbfheceobboaaDoor
open Go.RowKit
set_option linter.unusedVariables false
set_option linter.unusedSimpArgs false
set_option maxRecDepth 100000

theorem LkP.form {N : Nat} {w : World} {a : Nat} {R : Except (Nat × Nat) (Pt × Nat)} {e : Ending} {w' : World} (h : LkP N w a R e w') : ∃ v1 v2 v3, e = .returned (.tuple #[v1, v2, v3]) := by
  obtain ⟨_, h⟩ := h
  split at h
  · obtain ⟨g, rfl, _⟩ := h; exact ⟨_, _, _, rfl⟩
  · obtain ⟨v, rfl, _⟩ := h; exact ⟨_, _, _, rfl⟩
theorem LkP.dr {N : Nat} {w W : World} {a : Nat} {R : Except (Nat × Nat) (Pt × Nat)} {e : Ending} {w' : World} (h : LkP N W a R e w') (hd : Dr w W) : LkP N w a R e w' := by
  obtain ⟨k, rfl⟩ := hd
  exact ⟨(Below_drewN (Below.refl _ _) k).trans h.1, h.2⟩
set_option maxHeartbeats 4000000 in
theorem look_any (N : Nat) (w : World) (g B off n pc a bef aft hv : Nat) (p : List By) (l : List Pt) (av : Value) (hr : Row w g 75 (rdC (.slice (some ⟨B, off, none⟩) n pc) a bef (aft - hv) av)) (hp : SlB N w (some ⟨B, off, none⟩) n pc p) (hn : n ≤ 140737488351232) (ha : a ≤ n) (hah : AhV l av) (hbef : bef ≤ 524288) (haft : aft ≤ 524288) (hhv : hv ≤ aft) :
    Calls Tryd.prog 40 #[.pointer (some ⟨g, 0, none⟩)] w (LkP N w a (partR bef aft l p a hv)) := by
  have hlen := hp.len
  have c0 := hr.cell 0 _ rfl
  have c1 := hr.cell 1 _ rfl
  have HR : Hid (∀ W, Dr w W → Row W g 75 (rdC (.slice (some ⟨B, off, none⟩) n pc) a bef (aft - hv) av)) := fun W h => hr.dr h
  have HBx : Hid (∀ W, Dr w W → Below w.heap.size w W) := fun W h => Below_dr (Below.refl _ _) h
  have Fsq : Hid (∀ W, Below w.heap.size w W → Row W g 75 (rdC (.slice (some ⟨B, off, none⟩) n pc) a bef (aft - hv) av) → Calls Tryd.prog 49 #[.pointer (some ⟨g, 0, none⟩)] W (WrgP W 6 n)) := fun W _ h => cshort_any W g _ n pc a bef _ av h
  have FO : Hid (∀ W, Below w.heap.size w W → Row W g 75 (rdC (.slice (some ⟨B, off, none⟩) n pc) a bef (aft - hv) av) → Calls Tryd.prog 52 #[.pointer (some ⟨g, 0, none⟩)] W (WrgP W 5 a)) := fun W _ h => cform_any W g _ a bef _ av h
  have hK : ∀ W, Dr w W → SlB N W (some ⟨B, off, none⟩) n pc p := fun W h => hp.keep ((Below_dr (Below.refl _ _) h).mono hp.lt)
  by_cases hA : a = n
  · have HE : Hid (∀ W W' g', Below w.heap.size w W → Below W.heap.size W W' → Row W' g' 52 [.int .i64 ((6 : Nat) : Int), .int .i64 (n : Int)] → LkP N w a (partR bef aft l p a hv) (.returned (.tuple #[.nilIface, .int .i64 0, .pointer (some ⟨g', 0, none⟩)])) W') := fun W W' g' hd hb hw => by
      have hpR : partR bef aft l p a hv = .error (6, n) := by unfold partR; rw [if_pos (by omega), hlen]
      rw [hpR]
      exact ⟨hd.trans (hb.mono hd.size), g', rfl, hw⟩
    have x1 : ((a : Int) == (n : Int)) = true := by rw [beq_iff_eq]; omega
    clear hr hp hah hK
    generalize partR bef aft l p a hv = R at *
    subst hA
    go_enter Tryd.func40, Tryd.ntmps40
    go_wp2
    go_quiet (fail)
    have HD1 : Hid (Dr w (w.drewN nq)) := ⟨nq, rfl⟩
    generalize w.drewN nq = W1 at *
    clear c0 c1
    go_wp2_with fail
    refine (Fsq.out _ (HBx.out _ HD1.out) (HR.out _ HD1.out)).mono ?_
    rintro e w5 ⟨g', rfl, hw2, hb2⟩
    dsimp only
    have H2 := HE.out _ w5 g' (HBx.out _ HD1.out) hb2 hw2
    have H2 : Hid (LkP N w a R (.returned (.tuple #[.nilIface, .int .i64 0, .pointer (some ⟨g', 0, none⟩)])) w5) := H2
    clear hw2 hb2
    go_wp2
    go_ret3
    exact H2.out
  · have x1 : ((a : Int) == (n : Int)) = false := by rw [beq_eq_false_iff_ne]; omega
    have x2 : ¬ a = n := hA
    have y0 : (0 : Int) ≤ (a : Int) := by omega
    have y1 : (a : Int) < (n : Int) := by omega
    have HC : Hid (∀ W, Dr w W → W.cell? ⟨B, off + a, none⟩ = some (.int .u8 ((p.getD a 0).toNat : Int))) := fun W h => by
      obtain ⟨B', off', e, hc⟩ := (hK W h).isb.cell a (by omega)
      injection e with e; injection e with e1 e2; subst e1; subst e2
      exact hc
    by_cases h1 : (p.getD a 0).toNat = 1
    · have FC : Hid (∀ W, Dr w W → Calls Tryd.prog 50 #[.pointer (some ⟨g, 0, none⟩)] W (LkP N W a (partR bef aft l p a hv))) := fun W h => lkcopy_any N W g B off n pc a bef aft hv p l av (hr.dr h) (hK W h) hn (by omega) h1 hah hbef haft hhv
      have HC : Hid (∀ W, Dr w W → W.cell? ⟨B, off + a, none⟩ = some (.int .u8 1)) := fun W h => by have := HC.out W h; rw [h1] at this; exact this
      clear hr hp hah hK
      generalize partR bef aft l p a hv = R at *
      go_enter Tryd.func40, Tryd.ntmps40
      go_wp2
      go_quiet (fail)
      have HD1 : Hid (Dr w (w.drewN nq)) := ⟨nq, rfl⟩
      generalize w.drewN nq = W1 at *
      clear c0 c1
      have r1 := HR.out W1 HD1.out
      have d0 := r1.cell 0 _ rfl
      have d1 := r1.cell 1 _ rfl
      have d2 := HC.out W1 HD1.out
      clear r1
      go_wp2
      go_quiet (fail)
      have HD2 : Hid (Dr w (W1.drewN nq)) := HD1.out.drewN nq
      generalize W1.drewN nq = W2 at *
      clear d0 d1 d2
      go_wp2_with fail
      refine (FC.out _ HD2.out).mono ?_
      intro e w3 h3
      obtain ⟨v1, v2, v3, rfl⟩ := h3.form
      have H3 : Hid (LkP N w a R (.returned (.tuple #[v1, v2, v3])) w3) := h3.dr HD2.out
      clear h3
      dsimp only
      go_wp2
      go_ret3
      exact H3.out
    · by_cases h2 : (p.getD a 0).toNat = 2
      · have FC : Hid (∀ W, Dr w W → Calls Tryd.prog 51 #[.pointer (some ⟨g, 0, none⟩)] W (LkP N W a (partR bef aft l p a hv))) := fun W h => lklay_any N W g B off n pc a bef aft hv p l av (hr.dr h) (hK W h) hn (by omega) h2 hah hbef haft hhv
        have HC : Hid (∀ W, Dr w W → W.cell? ⟨B, off + a, none⟩ = some (.int .u8 2)) := fun W h => by have := HC.out W h; rw [h2] at this; exact this
        clear hr hp hah hK
        generalize partR bef aft l p a hv = R at *
        go_enter Tryd.func40, Tryd.ntmps40
        go_wp2
        go_quiet (fail)
        have HD1 : Hid (Dr w (w.drewN nq)) := ⟨nq, rfl⟩
        generalize w.drewN nq = W1 at *
        clear c0 c1
        have r1 := HR.out W1 HD1.out
        have d0 := r1.cell 0 _ rfl
        have d1 := r1.cell 1 _ rfl
        have d2 := HC.out W1 HD1.out
        clear r1
        go_wp2
        go_quiet (fail)
        have HD2 : Hid (Dr w (W1.drewN nq)) := HD1.out.drewN nq
        generalize W1.drewN nq = W2 at *
        clear d0 d1 d2
        go_wp2_with fail
        refine (FC.out _ HD2.out).mono ?_
        intro e w3 h3
        obtain ⟨v1, v2, v3, rfl⟩ := h3.form
        have H3 : Hid (LkP N w a R (.returned (.tuple #[v1, v2, v3])) w3) := h3.dr HD2.out
        clear h3
        dsimp only
        go_wp2
        go_ret3
        exact H3.out
      · have HE : Hid (∀ W W' g', Below w.heap.size w W → Below W.heap.size W W' → Row W' g' 52 [.int .i64 ((5 : Nat) : Int), .int .i64 (a : Int)] → LkP N w a (partR bef aft l p a hv) (.returned (.tuple #[.nilIface, .int .i64 0, .pointer (some ⟨g', 0, none⟩)])) W') := fun W W' g' hd hb hw => by
          have hpR : partR bef aft l p a hv = .error (5, a) := by unfold partR; rw [if_neg (by omega), if_pos ⟨h1, h2⟩]
          rw [hpR]
          exact ⟨hd.trans (hb.mono hd.size), g', rfl, hw⟩
        generalize (p.getD a 0).toNat = cc at *
        have k1 : ((cc : Int) == 1) = false := by rw [beq_eq_false_iff_ne]; omega
        have k2 : ((cc : Int) == 2) = false := by rw [beq_eq_false_iff_ne]; omega
        clear hr hp hah hK
        generalize partR bef aft l p a hv = R at *
        go_enter Tryd.func40, Tryd.ntmps40
        go_wp2
        go_quiet (fail)
        have HD1 : Hid (Dr w (w.drewN nq)) := ⟨nq, rfl⟩
        generalize w.drewN nq = W1 at *
        clear c0 c1
        have r1 := HR.out W1 HD1.out
        have d0 := r1.cell 0 _ rfl
        have d1 := r1.cell 1 _ rfl
        have d2 := HC.out W1 HD1.out
        clear r1
        go_wp2
        go_quiet (fail)
        have HD2 : Hid (Dr w (W1.drewN nq)) := HD1.out.drewN nq
        generalize W1.drewN nq = W2 at *
        clear d0 d1 d2
        go_wp2_with fail
        refine (FO.out _ (HBx.out _ HD2.out) (HR.out _ HD2.out)).mono ?_
        rintro e w5 ⟨g', rfl, hw2, hb2⟩
        dsimp only
        have H2 := HE.out _ w5 g' (HBx.out _ HD2.out) hb2 hw2
        have H2 : Hid (LkP N w a R (.returned (.tuple #[.nilIface, .int .i64 0, .pointer (some ⟨g', 0, none⟩)])) w5) := H2
        clear hw2 hb2
        go_wp2
        go_ret3
        exact H2.out
end Go.Proofs.YtdfbfheceobboaaDoor
