
import Derived.Test.YtdfbfheceobboaaDoorP25Rb
/-! The code's patch: the next part, a lay. -/
namespace Go.Proofs.YtdfbfheceobboaaDoor
open Go.RowKit
set_option linter.unusedVariables false
set_option linter.unusedSimpArgs false
set_option maxRecDepth 100000

set_option maxHeartbeats 4000000 in
theorem lklay_any (N : Nat) (w : World) (g B off n pc a bef aft hv : Nat) (p : List By) (l : List Pt) (av : Value) (hr : Row w g 75 (rdC (.slice (some ⟨B, off, none⟩) n pc) a bef (aft - hv) av)) (hp : SlB N w (some ⟨B, off, none⟩) n pc p) (hn : n ≤ 140737488351232) (ha : a < n) (h1 : (p.getD a 0).toNat = 2) (hah : AhV l av) (hbef : bef ≤ 524288) (haft : aft ≤ 524288) (hhv : hv ≤ aft) :
    Calls Tryd.prog 51 #[.pointer (some ⟨g, 0, none⟩)] w (LkP N w a (partR bef aft l p a hv)) := by
  have hlen := hp.len
  have hpR := ptR_lay (bef := bef) (aft := aft) (l := l) (hv := hv) (a := a) (p := p) (by omega) h1
  rw [hlen] at hpR
  have c0 := hr.cell 0 _ rfl
  have c1 := hr.cell 1 _ rfl
  have HR : Hid (∀ W, Dr w W → Row W g 75 (rdC (.slice (some ⟨B, off, none⟩) n pc) a bef (aft - hv) av)) := fun W h => hr.dr h
  have HBx : Hid (∀ W, Dr w W → Below w.heap.size w W) := fun W h => Below_dr (Below.refl _ _) h
  have Fsq : Hid (∀ W, Below w.heap.size w W → Row W g 75 (rdC (.slice (some ⟨B, off, none⟩) n pc) a bef (aft - hv) av) → Calls Tryd.prog 49 #[.pointer (some ⟨g, 0, none⟩)] W (WrgP W 6 n)) := fun W _ h => cshort_any W g _ n pc a bef _ av h
  have FO : Hid (∀ W, Below w.heap.size w W → Row W g 75 (rdC (.slice (some ⟨B, off, none⟩) n pc) a bef (aft - hv) av) → Calls Tryd.prog 52 #[.pointer (some ⟨g, 0, none⟩)] W (WrgP W 5 a)) := fun W _ h => cform_any W g _ a bef _ av h
  have z0 : IntKind.i64.wrap ((n : Int) - (a : Int)) = ((n - a : Nat) : Int) := by rw [i64_in _ (by omega) (by omega)]; omega
  by_cases hA : n < a + 5
  · rw [if_pos hA] at hpR
    have x1 : ((n - a : Nat) : Int) < 5 := by omega
    have HE : Hid (∀ W W' g', Below w.heap.size w W → Below W.heap.size W W' → Row W' g' 52 [.int .i64 ((6 : Nat) : Int), .int .i64 (n : Int)] → LkP N w a (partR bef aft l p a hv) (.returned (.tuple #[.nilIface, .int .i64 0, .pointer (some ⟨g', 0, none⟩)])) W') := fun W W' g' hd hb hw => by
      rw [hpR]
      exact ⟨hd.trans (hb.mono hd.size), g', rfl, hw⟩
    clear hpR hr hp hah
    generalize partR bef aft l p a hv = R at *
    generalize n - a = d at *
    go_enter Tryd.func51, Tryd.ntmps51
    go_wp2
    go_quiet (fail)
    have HD1 : Hid (Dr w (w.drewN nq)) := ⟨nq, rfl⟩
    generalize w.drewN nq = W1 at *
    clear c0 c1
    go_wp2_with fail
    refine (Fsq.out _ (HBx.out _ HD1.out) (HR.out _ HD1.out)).mono ?_
    rintro e w5 ⟨g', rfl, hw2, hb2⟩
    dsimp only
    have H2 := HE.out _ w5 g' (HBx.out _ HD1.out) hb2 hw2
    have H2 : Hid (LkP N w a R (.returned (.tuple #[.nilIface, .int .i64 0, .pointer (some ⟨g', 0, none⟩)])) w5) := H2
    clear hw2 hb2
    go_wp2
    go_ret3
    exact H2.out
  · rw [if_neg hA] at hpR
    have x1 : decide (((n - a : Nat) : Int) < 5) = false := by rw [decide_eq_false_iff_not]; omega
    have hcap := hp.cap
    obtain ⟨nn, hnn⟩ : ∃ nn : Nat → Nat, nn = fun j => num4 (p.drop j) := ⟨_, rfl⟩
    have F1 : Hid (∀ W j, Dr w W → j + 4 ≤ n → Calls Tryd.prog 48 #[.slice (some ⟨B, off, none⟩) n pc, .int .i64 (j : Int)] W fun e w' => e = .returned (.int .u64 (nn j : Int)) ∧ w' = W) := fun W j h hj => by rw [hnn]; exact cnum_any B off n pc p j W hlen hj hcap hn (hp.isb.below (Below_dr (Below.refl _ _) h) (Nat.le_refl _))
    have en1 : nn (a + 1) = num4 (p.drop (a + 1)) := by rw [hnn]
    have l1 : a + 1 + 4 ≤ n := by omega
    clear hnn
    have hk := num4_lt (p.drop (a + 1))
    have z1 : IntKind.i64.wrap ((a : Int) + 1) = ((a + 1 : Nat) : Int) := by rw [i64_in _ (by omega) (by omega)]; push_cast; rfl
    generalize num4 (p.drop (a + 1)) = k at *
    have FF : Hid (∀ W, Dr w W → Calls Tryd.prog 61 #[.pointer (some ⟨g, 0, none⟩), .int .u64 (k : Int)] W fun e w' => e = .returned (.bool (decide (1 ≤ k ∧ k ≤ aft - hv))) ∧ w' = W) := fun W h => cfits_any W g _ a bef _ k av (by omega) hk (hr.dr h)
    by_cases hB : 1 ≤ k ∧ k ≤ aft - hv
    · have q1 : Hid (decide (1 ≤ k ∧ k ≤ aft - hv) = true) := by show _ = _; rw [decide_eq_true_iff]; exact hB
      have FF : Hid (∀ W, Dr w W → Calls Tryd.prog 61 #[.pointer (some ⟨g, 0, none⟩), .int .u64 (k : Int)] W fun e w' => e = .returned (.bool true) ∧ w' = W) := fun W h => by rw [← q1.out]; exact FF.out W h
      have FG : Hid (∀ W, Calls Tryd.prog 41 #[av, .iface 63 (.agg #[.slice none 0 0])] W fun e w' => e = .returned (.bool (!behB l true 0)) ∧ Below W.heap.size W w') := fun W => goes_ly l av hah none 0 0 W
      by_cases hC : behB l true 0 = false
      · rw [if_pos (.inr (.inr hC))] at hpR
        have FG : Hid (∀ W, Calls Tryd.prog 41 #[av, .iface 63 (.agg #[.slice none 0 0])] W fun e w' => e = .returned (.bool true) ∧ Below W.heap.size W w') := fun W => by have := FG.out W; rw [hC] at this; exact this
        have HE : Hid (∀ W W' g', Below w.heap.size w W → Below W.heap.size W W' → Row W' g' 52 [.int .i64 ((5 : Nat) : Int), .int .i64 (a : Int)] → LkP N w a (partR bef aft l p a hv) (.returned (.tuple #[.nilIface, .int .i64 0, .pointer (some ⟨g', 0, none⟩)])) W') := fun W W' g' hd hb hw => by
          rw [hpR]
          exact ⟨hd.trans (hb.mono hd.size), g', rfl, hw⟩
        clear hpR hr hp hah
        generalize partR bef aft l p a hv = R at *
        generalize n - a = d at *
        generalize a + 1 = a1 at *
        go_enter Tryd.func51, Tryd.ntmps51
        go_wp2
        go_quiet (fail)
        have HD1 : Hid (Dr w (w.drewN nq)) := ⟨nq, rfl⟩
        generalize w.drewN nq = W1 at *
        clear c0 c1
        have r1 := HR.out W1 HD1.out
        have d0 := r1.cell 0 _ rfl
        have d1 := r1.cell 1 _ rfl
        clear r1
        go_wp2
        go_quiet (first | (go_at_call 48; exact Calls.quiet_of_same (F1.out _ _ (HD1.out.drewN _) (by omega))))
        have HD2 : Hid (Dr w (W1.drewN nq)) := HD1.out.drewN nq
        generalize W1.drewN nq = W2 at *
        clear d0 d1
        have r2 := HR.out W2 HD2.out
        have c4 := r2.cell 4 _ rfl
        clear r2 F1 l1
        try rw [en1]
        try simp only [en1]
        go_wp2_with fail
        try rw [en1]
        refine (FF.out _ HD2.out).mono ?_
        rintro e w2 ⟨rfl, hw2⟩
        subst hw2
        dsimp only
        go_wp2_with fail
        refine (FG.out _).mono ?_
        rintro e w4 ⟨rfl, hb4⟩
        dsimp only
        have H4 : Hid (Below w.heap.size w w4 ∧ Row w4 g 75 (rdC (.slice (some ⟨B, off, none⟩) n pc) a bef (aft - hv) av)) := by
          have h2 := HBx.out _ HD2.out
          have r2 := HR.out _ HD2.out
          exact ⟨h2.trans (hb4.mono h2.size), r2.below hb4 r2.lt⟩
        clear hb4 FG
        go_wp2_with fail
        refine (FO.out _ H4.out.1 H4.out.2).mono ?_
        rintro e w5 ⟨g', rfl, hw2, hb2⟩
        dsimp only
        have H2 := HE.out _ w5 g' H4.out.1 hb2 hw2
        have H2 : Hid (LkP N w a R (.returned (.tuple #[.nilIface, .int .i64 0, .pointer (some ⟨g', 0, none⟩)])) w5) := H2
        clear hw2 hb2
        go_wp2
        go_ret3
        exact H2.out
      · have hC' : behB l true 0 = true := by simpa using hC
        rw [if_neg (by rw [hC']; simp only [not_or]; exact ⟨by omega, by omega, by simp⟩)] at hpR
        have FG : Hid (∀ W, Calls Tryd.prog 41 #[av, .iface 63 (.agg #[.slice none 0 0])] W fun e w' => e = .returned (.bool false) ∧ Below W.heap.size W w') := fun W => by have := FG.out W; rw [hC'] at this; exact this
        have z5 : IntKind.i64.wrap ((a : Int) + 5) = ((a + 5 : Nat) : Int) := by rw [i64_in _ (by omega) (by omega)]; push_cast; rfl
        have y0 : (0 : Int) ≤ ((a + 5 : Nat) : Int) := by omega
        have y1 : ((a + 5 : Nat) : Int) ≤ (n : Int) := by omega
        have y2 : (n : Int) ≤ (pc : Int) := by omega
        have zl : IntKind.u64.wrap ((n - (a + 5) : Nat) : Int) = ((n - (a + 5) : Nat) : Int) := by rw [wrapU64]; omega
        by_cases hD : n < a + 5 + k
        · rw [if_pos hD] at hpR
          have x3 : ((n - (a + 5) : Nat) : Int) < (k : Int) := by omega
          have x4 : n - (a + 5) < k := by omega
          have HE : Hid (∀ W W' g', Below w.heap.size w W → Below W.heap.size W W' → Row W' g' 52 [.int .i64 ((6 : Nat) : Int), .int .i64 (n : Int)] → LkP N w a (partR bef aft l p a hv) (.returned (.tuple #[.nilIface, .int .i64 0, .pointer (some ⟨g', 0, none⟩)])) W') := fun W W' g' hd hb hw => by
            rw [hpR]
            exact ⟨hd.trans (hb.mono hd.size), g', rfl, hw⟩
          clear hpR hr hp hah
          generalize partR bef aft l p a hv = R at *
          generalize n - a = d at *
          by_cases hE : pc = a + 5
          · obtain rfl : n = pc := by omega
            have x5 : (0 : Int) < (k : Int) := by omega
            have x6 : 0 < k := by omega
            have z6 : n - (a + 5) = 0 := by omega
            generalize a + 1 = a1 at *
            have hE2 : a + 5 = n := hE.symm
            rw [hE2] at z5 y0 y1 zl x3 x4 z6
            clear hE hE2 z6
            go_enter Tryd.func51, Tryd.ntmps51
            go_wp2
            go_quiet (fail)
            have HD1 : Hid (Dr w (w.drewN nq)) := ⟨nq, rfl⟩
            generalize w.drewN nq = W1 at *
            clear c0 c1
            have r1 := HR.out W1 HD1.out
            have d0 := r1.cell 0 _ rfl
            have d1 := r1.cell 1 _ rfl
            clear r1
            go_wp2
            go_quiet (first | (go_at_call 48; exact Calls.quiet_of_same (F1.out _ _ (HD1.out.drewN _) (by omega))))
            have HD2 : Hid (Dr w (W1.drewN nq)) := HD1.out.drewN nq
            generalize W1.drewN nq = W2 at *
            clear d0 d1
            have r2 := HR.out W2 HD2.out
            have c4 := r2.cell 4 _ rfl
            clear r2 F1 l1
            try rw [en1]
            try simp only [en1]
            go_wp2_with fail
            try rw [en1]
            refine (FF.out _ HD2.out).mono ?_
            rintro e w2 ⟨rfl, hw2⟩
            subst hw2
            dsimp only
            go_wp2_with fail
            refine (FG.out _).mono ?_
            rintro e w4 ⟨rfl, hb4⟩
            dsimp only
            have H4 : Hid (Below w.heap.size w w4 ∧ Row w4 g 75 (rdC (.slice (some ⟨B, off, none⟩) n n) a bef (aft - hv) av)) := by
              have h2 := HBx.out _ HD2.out
              have r2 := HR.out _ HD2.out
              exact ⟨h2.trans (hb4.mono h2.size), r2.below hb4 r2.lt⟩
            clear hb4 FG c4
            have e0 := H4.out.2.cell 0 _ rfl
            have e1 := H4.out.2.cell 1 _ rfl
            go_wp2
            go_quiet (fail)
            have H4 : Hid (Below w.heap.size w (w4.drewN nq) ∧ Row (w4.drewN nq) g 75 (rdC (.slice (some ⟨B, off, none⟩) n n) a bef (aft - hv) av)) := ⟨Below_drewN H4.out.1 nq, H4.out.2⟩
            generalize w4.drewN nq = w4 at *
            clear e0 e1
            go_wp2_with fail
            refine (Fsq.out _ H4.out.1 H4.out.2).mono ?_
            rintro e w5 ⟨g', rfl, hw2, hb2⟩
            dsimp only
            have H2 := HE.out _ w5 g' H4.out.1 hb2 hw2
            have H2 : Hid (LkP N w a R (.returned (.tuple #[.nilIface, .int .i64 0, .pointer (some ⟨g', 0, none⟩)])) w5) := H2
            clear hw2 hb2
            go_wp2
            go_ret3
            exact H2.out
          · generalize a + 1 = a1 at *
            obtain ⟨a5, ha5⟩ : ∃ a5, a5 = a + 5 := ⟨_, rfl⟩
            rw [← ha5] at z5 y0 y1 zl x3 x4 hE
            clear ha5
            go_enter Tryd.func51, Tryd.ntmps51
            go_wp2
            go_quiet (fail)
            have HD1 : Hid (Dr w (w.drewN nq)) := ⟨nq, rfl⟩
            generalize w.drewN nq = W1 at *
            clear c0 c1
            have r1 := HR.out W1 HD1.out
            have d0 := r1.cell 0 _ rfl
            have d1 := r1.cell 1 _ rfl
            clear r1
            go_wp2
            go_quiet (first | (go_at_call 48; exact Calls.quiet_of_same (F1.out _ _ (HD1.out.drewN _) (by omega))))
            have HD2 : Hid (Dr w (W1.drewN nq)) := HD1.out.drewN nq
            generalize W1.drewN nq = W2 at *
            clear d0 d1
            have r2 := HR.out W2 HD2.out
            have c4 := r2.cell 4 _ rfl
            clear r2 F1 l1
            try rw [en1]
            try simp only [en1]
            go_wp2_with fail
            try rw [en1]
            refine (FF.out _ HD2.out).mono ?_
            rintro e w2 ⟨rfl, hw2⟩
            subst hw2
            dsimp only
            go_wp2_with fail
            refine (FG.out _).mono ?_
            rintro e w4 ⟨rfl, hb4⟩
            dsimp only
            have H4 : Hid (Below w.heap.size w w4 ∧ Row w4 g 75 (rdC (.slice (some ⟨B, off, none⟩) n pc) a bef (aft - hv) av)) := by
              have h2 := HBx.out _ HD2.out
              have r2 := HR.out _ HD2.out
              exact ⟨h2.trans (hb4.mono h2.size), r2.below hb4 r2.lt⟩
            clear hb4 FG c4
            have e0 := H4.out.2.cell 0 _ rfl
            have e1 := H4.out.2.cell 1 _ rfl
            go_wp2
            go_quiet (fail)
            have H4 : Hid (Below w.heap.size w (w4.drewN nq) ∧ Row (w4.drewN nq) g 75 (rdC (.slice (some ⟨B, off, none⟩) n pc) a bef (aft - hv) av)) := ⟨Below_drewN H4.out.1 nq, H4.out.2⟩
            generalize w4.drewN nq = w4 at *
            clear e0 e1
            go_wp2_with fail
            refine (Fsq.out _ H4.out.1 H4.out.2).mono ?_
            rintro e w5 ⟨g', rfl, hw2, hb2⟩
            dsimp only
            have H2 := HE.out _ w5 g' H4.out.1 hb2 hw2
            have H2 : Hid (LkP N w a R (.returned (.tuple #[.nilIface, .int .i64 0, .pointer (some ⟨g', 0, none⟩)])) w5) := H2
            clear hw2 hb2
            go_wp2
            go_ret3
            exact H2.out
        · rw [if_neg hD] at hpR
          have x3 : decide (((n - (a + 5) : Nat) : Int) < (k : Int)) = false := by rw [decide_eq_false_iff_not]; omega
          have x4 : ¬ n - (a + 5) < k := by omega
          have x7 : decide (n - (a + 5) < k) = false := by rw [decide_eq_false_iff_not]; omega
          have hE : ¬ pc = a + 5 := by omega
          have y3 : (k : Int) ≤ ((pc - (a + 5) : Nat) : Int) := by omega
          have y4 : (0 : Int) ≤ (k : Int) := by omega
          have zk : IntKind.i64.wrap (k : Int) = (k : Int) := i64_in _ (by omega) (by omega)
          have z9 : IntKind.i64.wrap (5 + (k : Int)) = ((5 + k : Nat) : Int) := by rw [i64_in _ (by omega) (by omega)]; push_cast; rfl
          have HE : Hid (∀ W, Below w.heap.size w W → LkP N w a (partR bef aft l p a hv) (.returned (.tuple #[layV (some ⟨B, off + (a + 5), none⟩) k (pc - (a + 5)), .int .i64 ((5 + k : Nat) : Int), .pointer none])) W) := fun W hd => by
            rw [hpR]
            refine ⟨hd, _, by rw [show a + 5 + k - a = 5 + k by omega], ⟨.inr ⟨rfl, B, off + (a + 5), pc - (a + 5), rfl, ?_, ?_, ?_, ?_⟩⟩⟩
            · exact isb_takek (isb_dropk (hp.keep (hd.mono hp.lt)).isb (a + 5)) _
            · rw [List.length_take, List.length_drop, hlen]; show min _ _ = k; omega
            · show k ≤ pc - (a + 5); omega
            · exact hp.blk B off rfl (fun e => by rw [e] at hlen; simp at hlen; omega)
          clear hpR hr hp hah
          generalize partR bef aft l p a hv = R at *
          generalize n - a = d at *
          generalize a + 1 = a1 at *
          obtain ⟨a5, ha5⟩ : ∃ a5, a5 = a + 5 := ⟨_, rfl⟩
          rw [← ha5] at z5 y0 y1 zl x3 x4 x7 hE y3 HE
          clear ha5
          go_enter Tryd.func51, Tryd.ntmps51
          go_wp2
          go_quiet (fail)
          have HD1 : Hid (Dr w (w.drewN nq)) := ⟨nq, rfl⟩
          generalize w.drewN nq = W1 at *
          clear c0 c1
          have r1 := HR.out W1 HD1.out
          have d0 := r1.cell 0 _ rfl
          have d1 := r1.cell 1 _ rfl
          clear r1
          go_wp2
          go_quiet (first | (go_at_call 48; exact Calls.quiet_of_same (F1.out _ _ (HD1.out.drewN _) (by omega))))
          have HD2 : Hid (Dr w (W1.drewN nq)) := HD1.out.drewN nq
          generalize W1.drewN nq = W2 at *
          clear d0 d1
          have r2 := HR.out W2 HD2.out
          have c4 := r2.cell 4 _ rfl
          clear r2 F1 l1
          try rw [en1]
          try simp only [en1]
          go_wp2_with fail
          try rw [en1]
          refine (FF.out _ HD2.out).mono ?_
          rintro e w2 ⟨rfl, hw2⟩
          subst hw2
          dsimp only
          go_wp2_with fail
          refine (FG.out _).mono ?_
          rintro e w4 ⟨rfl, hb4⟩
          dsimp only
          have H4 : Hid (Below w.heap.size w w4 ∧ Row w4 g 75 (rdC (.slice (some ⟨B, off, none⟩) n pc) a bef (aft - hv) av)) := by
            have h2 := HBx.out _ HD2.out
            have r2 := HR.out _ HD2.out
            exact ⟨h2.trans (hb4.mono h2.size), r2.below hb4 r2.lt⟩
          clear hb4 FG c4
          have e0 := H4.out.2.cell 0 _ rfl
          have e1 := H4.out.2.cell 1 _ rfl
          go_wp2
          go_quiet (fail)
          have H4 : Hid (Below w.heap.size w (w4.drewN nq) ∧ Row (w4.drewN nq) g 75 (rdC (.slice (some ⟨B, off, none⟩) n pc) a bef (aft - hv) av)) := ⟨Below_drewN H4.out.1 nq, H4.out.2⟩
          generalize w4.drewN nq = w4 at *
          clear e0 e1
          have x8 := x7
          go_wp2
          go_ret3
          exact HE.out _ H4.out.1
    · rw [if_pos (by omega)] at hpR
      have FF : Hid (∀ W, Dr w W → Calls Tryd.prog 61 #[.pointer (some ⟨g, 0, none⟩), .int .u64 (k : Int)] W fun e w' => e = .returned (.bool false) ∧ w' = W) := fun W h => by
        have q1 : decide (1 ≤ k ∧ k ≤ aft - hv) = false := by rw [decide_eq_false_iff_not]; exact hB
        rw [← q1]; exact FF.out W h
      have HE : Hid (∀ W W' g', Below w.heap.size w W → Below W.heap.size W W' → Row W' g' 52 [.int .i64 ((5 : Nat) : Int), .int .i64 (a : Int)] → LkP N w a (partR bef aft l p a hv) (.returned (.tuple #[.nilIface, .int .i64 0, .pointer (some ⟨g', 0, none⟩)])) W') := fun W W' g' hd hb hw => by
        rw [hpR]
        exact ⟨hd.trans (hb.mono hd.size), g', rfl, hw⟩
      clear hpR hr hp hah
      generalize partR bef aft l p a hv = R at *
      generalize n - a = d at *
      generalize a + 1 = a1 at *
      go_enter Tryd.func51, Tryd.ntmps51
      go_wp2
      go_quiet (fail)
      have HD1 : Hid (Dr w (w.drewN nq)) := ⟨nq, rfl⟩
      generalize w.drewN nq = W1 at *
      clear c0 c1
      have r1 := HR.out W1 HD1.out
      have d0 := r1.cell 0 _ rfl
      have d1 := r1.cell 1 _ rfl
      clear r1
      go_wp2
      go_quiet (first | (go_at_call 48; exact Calls.quiet_of_same (F1.out _ _ (HD1.out.drewN _) (by omega))))
      have HD2 : Hid (Dr w (W1.drewN nq)) := HD1.out.drewN nq
      generalize W1.drewN nq = W2 at *
      clear d0 d1
      have r2 := HR.out W2 HD2.out
      have c4 := r2.cell 4 _ rfl
      clear r2 F1 l1
      try rw [en1]
      try simp only [en1]
      go_wp2_with fail
      try rw [en1]
      refine (FF.out _ HD2.out).mono ?_
      rintro e w2 ⟨rfl, hw2⟩
      subst hw2
      dsimp only
      go_wp2_with fail
      refine (FO.out _ (HBx.out _ HD2.out) (HR.out _ HD2.out)).mono ?_
      rintro e w5 ⟨g', rfl, hw2, hb2⟩
      dsimp only
      have H2 := HE.out _ w5 g' (HBx.out _ HD2.out) hb2 hw2
      have H2 : Hid (LkP N w a R (.returned (.tuple #[.nilIface, .int .i64 0, .pointer (some ⟨g', 0, none⟩)])) w5) := H2
      clear hw2 hb2
      go_wp2
      go_ret3
      exact H2.out
end Go.Proofs.YtdfbfheceobboaaDoor
