import Derived.Test.YtplpoehfdhkhmaaDoorP25St

/-! The reference's patch: start, gone through. -/
namespace Go.Proofs.YtplpoehfdhkhmaaDoor
open Go.RowKit
set_option linter.unusedVariables false

theorem zPx_one : ∀ v ∈ zPx, v.oneCell' = true := pxC_one z32b z32b 0 0 none 0 0
theorem wr2_one (e a : Int) : ∀ v ∈ [Value.int .i64 e, Value.int .i64 a], v.oneCell' = true := by
  intro v hv
  simp at hv
  rcases hv with rfl | rfl <;> rfl

set_option maxHeartbeats 4000000 in
set_option maxRecDepth 100000 in
theorem r25start_any (ao : Option Addr) (n cap : Nat) (p : List By) (hn : p.length = n) (hn47 : n <= 140737488351232) (w : World) (hb : IsB w ao p) :
    Calls Tryd.prog 23 #[.slice ao n cap] w fun e w' => e = .returned (stV (startR p)) /\ Below w.heap.size w w' := by
  obtain ⟨w1, hw1⟩ : ∃ w1, w1 = (w.alloc (.cells zPx.toArray 34)).alloc (.cells #[.int .i64 0, .int .i64 0] 37) := ⟨_, rfl⟩
  have hz1 : w1.heap.size = w.heap.size + 2 := by rw [hw1]; simp
  have S0 : SW w (w1.alloc (.cells (hd5.map B8).toArray 5)) := by
    refine ⟨?_, ?_, ?_, ?_⟩
    · rw [hw1]; exact ((((Below.refl _ _).alloc (Nat.le_refl _) _).alloc (by simp) _).alloc (by simp; omega) _)
    · rw [hw1]; exact ((Row.at w 34 zPx _ _ rfl rfl).alloc _).alloc _
    · rw [hw1]; exact (Row.at _ 37 [.int .i64 0, .int .i64 0] _ _ (by simp) rfl).alloc _
    · exact Row.at w1 _ _ _ _ hz1.symm rfl
  have MU := r25must_any w1
  rw [hz1] at MU
  have HN : Hid (p.length = n) := hn
  have HI : Hid (∀ W, Below w.heap.size w W -> IsB W ao p) := fun W h => hb.below h (Nat.le_refl _)
  have S0' : Hid (SW w (w1.alloc (.cells (hd5.map B8).toArray 5))) := S0
  clear hb hn S0
  rw [hw1] at MU
  go_enter Tryd.func23, Tryd.ntmps23
  go_wp2_with fail
  refine MU.mono ?_
  rw [<- hw1]
  rintro e w2 ⟨rfl, rfl⟩
  dsimp only
  clear MU hw1
  generalize hW2 : w1.alloc (.cells (hd5.map B8).toArray 5) = w2 at *
  clear hW2
  go_wp2_with fail
  go_loopw [5] (fun i wr => ∃ q : Nat, q <= 77 /\ q <= n /\ i = .int .i64 q /\ Hid (sE p q (77 - q) = sE p 0 77) /\ Hid (SW w wr)) (fun i _ => 77 - (intOf i).toNat)
  case atStart => exact ⟨0, by omega, by omega, rfl, rfl, S0'.out⟩
  case round =>
    clear S0'
    obtain ⟨q, hq, hqn, rfl, HQ, HS⟩ := hrel
    by_cases hlt : q < 77
    · have y1 : (q : Int) < 77 := by omega
      have hq2 := HQ.out
      rw [sE_at p q _ hlt rfl] at hq2
      by_cases h1 : q = n
      · subst h1
        rw [if_pos HN.out.symm] at hq2
        have HR : Hid (stV (startR p) = ansV zPx 6 q) := by
          show _ = _
          unfold startR
          rw [<- hq2]; rfl
        clear hq2 HQ
        go_wp2_with (first
          | (have hz := HS; clear hz; refine wpList_store_Row rfl 34 (.tmp 2) (.tmp 17) rfl w.heap.size 34 0 zPx zPx HS.out.px (Nat.le_refl _) rfl rfl (by kernel_rfl) zPx_one ?_; intro w3 hr3 hs3; have h3 : Hid (Row w3 w.heap.size 34 zPx /\ Row w3 (w.heap.size + 1) 37 [.int .i64 0, .int .i64 0] /\ Below w.heap.size w w3) := ⟨row_whole hr3 (Nat.le_refl _), HS.out.wr.but hs3 (by omega), hs3.below HS.out.bel (Nat.le_refl _)⟩; clear hr3 hs3 HS)
          | (have hz := h3; clear hz; refine wpList_store_Row rfl 37 (.tmp 3) (.tmp 19) rfl (w.heap.size + 1) 37 0 [.int .i64 0, .int .i64 0] [.int .i64 (6), .int .i64 ((q : Int))] h3.out.2.1 (Nat.le_refl _) rfl rfl (by kernel_rfl) (wr2_one _ _) ?_; intro w4 hr4 hs4; have h4 : Hid (Row w4 w.heap.size 34 zPx /\ Row w4 (w.heap.size + 1) 37 [.int .i64 (6), .int .i64 ((q : Int))] /\ Below w.heap.size w w4) := ⟨h3.out.1.but hs4 (by omega), row_whole hr4 (Nat.le_refl _), hs4.below h3.out.2.2 (by omega)⟩; clear hr4 hs4 h3))
        refine bodyPost_ret_by (results_rowrow Tryd.results23 _ w4 w.heap.size 34 (w.heap.size + 1) 37 _ _ _ _ rfl h4.out.1 Tryd.underlying34 rfl (by kernel_rfl) rfl h4.out.2.1 Tryd.underlying37 rfl (by kernel_rfl)) rfl ⟨?_, h4.out.2.2⟩
        rw [HR.out]; rfl
      · rw [if_neg (by rw [HN.out]; exact h1)] at hq2
        have i1 : ((q : Int) == (n : Int)) = false := by rw [beq_eq_false_iff_ne]; omega
        have y0 : (0 : Int) <= (q : Int) := by omega
        have y2 : (q : Int) < (n : Int) := by omega
        obtain ⟨B, off, rfl, hc⟩ := (HI.out _ HS.out.bel).cell q (by rw [HN.out]; omega)
        have HK : Hid (∀ k, SW w (wr.drewN k)) := fun k => HS.out.keep (Below_dr (Below.refl _ _) ⟨k, rfl⟩)
        have z1 : IntKind.i64.wrap ((q : Int) + 1) = (q : Int) + 1 := i64_in _ (by omega) (by omega)
        by_cases h5 : q < 5
        · have y3 : (q : Int) < 5 := by omega
          have hm := hd5_cell HS.out.mu q h5
          have NE : (((p.getD q 0).toNat : Int) == ((hd5.getD q 0).toNat : Int)) = decide (p.getD q 0 = hd5.getD q 0) := by
            rw [Bool.eq_iff_iff]
            simp only [beq_iff_eq, decide_eq_true_eq, Int.natCast_inj]
            exact ⟨fun h => BitVec.eq_of_toNat_eq h, fun h => by rw [h]⟩
          clear HS
          by_cases h6 : p.getD q 0 = hd5.getD q 0
          · rw [if_neg (fun h => h.2 h6), if_neg (by omega)] at hq2
            rw [h6] at hc
            have i72 : ((q : Int) == 72) = false := by rw [beq_eq_false_iff_ne]; omega
            have HQ2 : Hid (sE p (q + 1) (77 - (q + 1)) = sE p 0 77) := hq2
            clear hq2 HQ NE h6
            generalize (hd5.getD q 0).toNat = mq at *
            go_wp2_with fail
            go_quiet (fail)
            go_wp2
            exact ⟨⟨q + 1, by omega, by omega, by go_num, HQ2, HK.out _⟩, by simp [intOf]; omega⟩
          · rw [if_pos ⟨h5, h6⟩] at hq2
            rw [decide_eq_false h6] at NE
            have HR : Hid (stV (startR p) = ansV zPx 5 q) := by
              show _ = _
              unfold startR
              rw [<- hq2]; rfl
            clear hq2 HQ h6
            generalize (hd5.getD q 0).toNat = mq at *
            generalize (p.getD q 0).toNat = mp at *
            go_wp2_with fail
            go_quiet (fail)
            go_wp2_with (first
              | (have hz := HK; clear hz; refine wpList_store_Row rfl 34 (.tmp 2) (.tmp 33) rfl w.heap.size 34 0 zPx zPx (HK.out _).px (Nat.le_refl _) rfl rfl (by kernel_rfl) zPx_one ?_; intro w3 hr3 hs3; have h3 : Hid (Row w3 w.heap.size 34 zPx /\ Row w3 (w.heap.size + 1) 37 [.int .i64 0, .int .i64 0] /\ Below w.heap.size w w3) := ⟨row_whole hr3 (Nat.le_refl _), (HK.out _).wr.but hs3 (by omega), hs3.below (HK.out _).bel (Nat.le_refl _)⟩; clear hr3 hs3 HK)
              | (have hz := h3; clear hz; refine wpList_store_Row rfl 37 (.tmp 3) (.tmp 35) rfl (w.heap.size + 1) 37 0 [.int .i64 0, .int .i64 0] [.int .i64 (5), .int .i64 ((q : Int))] h3.out.2.1 (Nat.le_refl _) rfl rfl (by kernel_rfl) (wr2_one _ _) ?_; intro w4 hr4 hs4; have h4 : Hid (Row w4 w.heap.size 34 zPx /\ Row w4 (w.heap.size + 1) 37 [.int .i64 (5), .int .i64 ((q : Int))] /\ Below w.heap.size w w4) := ⟨h3.out.1.but hs4 (by omega), row_whole hr4 (Nat.le_refl _), hs4.below h3.out.2.2 (by omega)⟩; clear hr4 hs4 h3))
            refine bodyPost_ret_by (results_rowrow Tryd.results23 _ w4 w.heap.size 34 (w.heap.size + 1) 37 _ _ _ _ rfl h4.out.1 Tryd.underlying34 rfl (by kernel_rfl) rfl h4.out.2.1 Tryd.underlying37 rfl (by kernel_rfl)) rfl ⟨?_, h4.out.2.2⟩
            rw [HR.out]; rfl
        · have y3 : decide ((q : Int) < 5) = false := by rw [decide_eq_false_iff_not]; omega
          rw [if_neg (fun h => h5 h.1)] at hq2
          clear HS
          by_cases h7 : q = 72
          · subst h7
            have NU : Hid (∀ W, Below w.heap.size w W -> Calls Tryd.prog 40 #[.slice (some ⟨B, off, none⟩) n cap, .int .i64 69] W fun e w' => e = .returned (.int .i64 (num4 (p.drop 69))) /\ Below W.heap.size W w') := fun W h => r25number_any B off n cap p HN.out (by omega) 69 (by omega) W (HI.out W h)
            by_cases h8 : 524288 < num4 (p.drop 69)
            · rw [if_pos ⟨rfl, h8⟩] at hq2
              have HR : Hid (stV (startR p) = ansV zPx 5 69) := by
                show _ = _
                unfold startR
                rw [<- hq2]; rfl
              have i8 : (524288 : Int) < (num4 (p.drop 69) : Int) := by omega
              clear hq2 HQ h8
              generalize num4 (p.drop 69) = X69 at *
              go_wp2_with fail
              go_quiet (fail)
              go_wp2_with (first
                | (go_at_call 40; refine (NU.out _ (HK.out _).bel).mono ?_; rintro e w5 ⟨rfl, hb5⟩; have HS : Hid (SW w w5) := (HK.out _).keep hb5; clear hb5 HK)
                | (have hz := HS; clear hz; refine wpList_store_Row rfl 34 (.tmp 2) (.tmp 43) rfl w.heap.size 34 0 zPx zPx HS.out.px (Nat.le_refl _) rfl rfl (by kernel_rfl) zPx_one ?_; intro w3 hr3 hs3; have h3 : Hid (Row w3 w.heap.size 34 zPx /\ Row w3 (w.heap.size + 1) 37 [.int .i64 0, .int .i64 0] /\ Below w.heap.size w w3) := ⟨row_whole hr3 (Nat.le_refl _), HS.out.wr.but hs3 (by omega), hs3.below HS.out.bel (Nat.le_refl _)⟩; clear hr3 hs3 HS)
                | (have hz := h3; clear hz; refine wpList_store_Row rfl 37 (.tmp 3) (.tmp 44) rfl (w.heap.size + 1) 37 0 [.int .i64 0, .int .i64 0] [.int .i64 (5), .int .i64 (69)] h3.out.2.1 (Nat.le_refl _) rfl rfl (by kernel_rfl) (wr2_one _ _) ?_; intro w4 hr4 hs4; have h4 : Hid (Row w4 w.heap.size 34 zPx /\ Row w4 (w.heap.size + 1) 37 [.int .i64 (5), .int .i64 (69)] /\ Below w.heap.size w w4) := ⟨h3.out.1.but hs4 (by omega), row_whole hr4 (Nat.le_refl _), hs4.below h3.out.2.2 (by omega)⟩; clear hr4 hs4 h3))
              refine bodyPost_ret_by (results_rowrow Tryd.results23 _ w4 w.heap.size 34 (w.heap.size + 1) 37 _ _ _ _ rfl h4.out.1 Tryd.underlying34 rfl (by kernel_rfl) rfl h4.out.2.1 Tryd.underlying37 rfl (by kernel_rfl)) rfl ⟨?_, h4.out.2.2⟩
              rw [HR.out]; rfl
            · rw [if_neg (fun h => h8 h.2)] at hq2
              have i8 : ¬ (524288 : Int) < (num4 (p.drop 69) : Int) := by omega
              have HQ2 : Hid (sE p 73 (77 - 73) = sE p 0 77) := hq2
              clear hq2 HQ h8
              generalize num4 (p.drop 69) = X69 at *
              go_wp2_with fail
              go_quiet (fail)
              go_wp2_with (go_at_call 40; refine (NU.out _ (HK.out _).bel).mono ?_; rintro e w5 ⟨rfl, hb5⟩; have HS : Hid (SW w w5) := (HK.out _).keep hb5; clear hb5 HK)
              exact ⟨⟨73, by omega, by omega, by go_num, HQ2, HS⟩, by simp [intOf]⟩
          · rw [if_neg (fun h => h7 h.1)] at hq2
            have i72 : ((q : Int) == 72) = false := by rw [beq_eq_false_iff_ne]; omega
            have HQ2 : Hid (sE p (q + 1) (77 - (q + 1)) = sE p 0 77) := hq2
            clear hq2 HQ
            go_wp2_with fail
            go_quiet (fail)
            go_wp2
            exact ⟨⟨q + 1, by omega, by omega, by go_num, HQ2, HK.out _⟩, by simp [intOf]; omega⟩
    · obtain rfl : q = 77 := by omega
      obtain ⟨B, off, rfl, _⟩ := (HI.out _ HS.out.bel).cell 0 (by rw [HN.out]; omega)
      have hq2 := HQ.out
      rw [show sE p 77 (77 - 77) = none from rfl] at hq2
      have N69 : Hid (∀ W, Below w.heap.size w W -> Calls Tryd.prog 40 #[.slice (some ⟨B, off, none⟩) n cap, .int .i64 69] W fun e w' => e = .returned (.int .i64 (num4 (p.drop 69))) /\ Below W.heap.size W w') := fun W h => r25number_any B off n cap p HN.out (by omega) 69 (by omega) W (HI.out W h)
      have N73 : Hid (∀ W, Below w.heap.size w W -> Calls Tryd.prog 40 #[.slice (some ⟨B, off, none⟩) n cap, .int .i64 73] W fun e w' => e = .returned (.int .i64 (num4 (p.drop 73))) /\ Below W.heap.size W w') := fun W h => r25number_any B off n cap p HN.out (by omega) 73 (by omega) W (HI.out W h)
      have HST : Hid (startR p = if 524288 < num4 (p.drop 73) then .error (5, 73) else .ok ⟨(p.drop 5).take 32, (p.drop 37).take 32, num4 (p.drop 69), num4 (p.drop 73), []⟩) := by
        show _ = _
        unfold startR
        rw [<- hq2]
      have hX69 := num4_lt (p.drop 69)
      have hX73 := num4_lt (p.drop 73)
      clear hq2 HQ
      generalize num4 (p.drop 69) = X69 at *
      generalize num4 (p.drop 73) = X73 at *
      by_cases h73 : 524288 < X73
      · have HR : Hid (stV (startR p) = ansV zPx 5 73) := by
          show _ = _
          rw [HST.out, if_pos h73]; rfl
        have i8 : (524288 : Int) < (X73 : Int) := by omega
        go_wp2_with (first
          | (have hz := N69; clear hz; go_at_call 40; refine (N69.out _ HS.out.bel).mono ?_; rintro e w5 ⟨rfl, hb5⟩; have HS5 : Hid (SW w w5) := HS.out.keep hb5; clear hb5 HS N69)
          | (have hz := N73; clear hz; go_at_call 40; refine (N73.out _ HS5.out.bel).mono ?_; rintro e w6 ⟨rfl, hb6⟩; have HS6 : Hid (SW w w6) := HS5.out.keep hb6; have Z6 := Row.at w6 34 zPx _ _ rfl rfl; clear hb6 HS5 N73)
          | (have hz := HS6; clear hz; refine wpList_store_Row rfl 34 (.tmp 6) (.tmp 49) rfl w6.heap.size 34 0 zPx (pxC z32b z32b X69 X73 (.slice none 0 0)) Z6 (by simp [pxC]) rfl rfl (by kernel_rfl) (pxC_one _ _ _ _ _ _ _) ?_; intro w7 hr7 hs7; have RX : Hid (Row w7 w6.heap.size 34 (pxC z32b z32b X69 X73 (.slice none 0 0))) := row_whole hr7 (by simp [pxC]); have HS : Hid (SW w w7) := HS6.out.keep (hs7.below ((Below.refl _ _).alloc (Nat.le_refl _) _) (Nat.le_refl _)); have c65 := RX.out.cell 65 _ (pxC_aft rfl rfl); have HG : Hid (w.heap.size + 3 <= w6.heap.size) := HS6.out.mu.lt; clear hr7 hs7 Z6 HS6)
          | (have hz := HS; clear hz; refine wpList_store_Row rfl 34 (.tmp 2) (.tmp 53) rfl w.heap.size 34 0 zPx zPx HS.out.px (Nat.le_refl _) rfl rfl (by kernel_rfl) zPx_one ?_; intro w3 hr3 hs3; have h3 : Hid (Row w3 w.heap.size 34 zPx /\ Row w3 (w.heap.size + 1) 37 [.int .i64 0, .int .i64 0] /\ Below w.heap.size w w3) := ⟨row_whole hr3 (Nat.le_refl _), HS.out.wr.but hs3 (by omega), hs3.below HS.out.bel (Nat.le_refl _)⟩; clear hr3 hs3 HS)
          | (have hz := h3; clear hz; refine wpList_store_Row rfl 37 (.tmp 3) (.tmp 54) rfl (w.heap.size + 1) 37 0 [.int .i64 0, .int .i64 0] [.int .i64 (5), .int .i64 (73)] h3.out.2.1 (Nat.le_refl _) rfl rfl (by kernel_rfl) (wr2_one _ _) ?_; intro w4 hr4 hs4; have h4 : Hid (Row w4 w.heap.size 34 zPx /\ Row w4 (w.heap.size + 1) 37 [.int .i64 (5), .int .i64 (73)] /\ Below w.heap.size w w4) := ⟨h3.out.1.but hs4 (by omega), row_whole hr4 (Nat.le_refl _), hs4.below h3.out.2.2 (by omega)⟩; clear hr4 hs4 h3))
        refine bodyPost_ret_by (results_rowrow Tryd.results23 _ w4 w.heap.size 34 (w.heap.size + 1) 37 _ _ _ _ rfl h4.out.1 Tryd.underlying34 rfl (by kernel_rfl) rfl h4.out.2.1 Tryd.underlying37 rfl (by kernel_rfl)) rfl ⟨?_, h4.out.2.2⟩
        rw [HR.out]; rfl
      · have HR : Hid (startR p = .ok ⟨(p.drop 5).take 32, (p.drop 37).take 32, X69, X73, []⟩) := by
          show _ = _
          rw [HST.out, if_neg h73]
        have i8 : ¬ (524288 : Int) < (X73 : Int) := by omega
        go_wp2_with (first
          | (have hz := N69; clear hz; go_at_call 40; refine (N69.out _ HS.out.bel).mono ?_; rintro e w5 ⟨rfl, hb5⟩; have HS5 : Hid (SW w w5) := HS.out.keep hb5; clear hb5 HS N69)
          | (have hz := N73; clear hz; go_at_call 40; refine (N73.out _ HS5.out.bel).mono ?_; rintro e w6 ⟨rfl, hb6⟩; have HS6 : Hid (SW w w6) := HS5.out.keep hb6; have Z6 := Row.at w6 34 zPx _ _ rfl rfl; clear hb6 HS5 N73)
          | (have hz := HS6; clear hz; refine wpList_store_Row rfl 34 (.tmp 6) (.tmp 49) rfl w6.heap.size 34 0 zPx (pxC z32b z32b X69 X73 (.slice none 0 0)) Z6 (by simp [pxC]) rfl rfl (by kernel_rfl) (pxC_one _ _ _ _ _ _ _) ?_; intro w7 hr7 hs7; have RX : Hid (Row w7 w6.heap.size 34 (pxC z32b z32b X69 X73 (.slice none 0 0))) := row_whole hr7 (by simp [pxC]); have HS : Hid (SW w w7) := HS6.out.keep (hs7.below ((Below.refl _ _).alloc (Nat.le_refl _) _) (Nat.le_refl _)); have c65 := RX.out.cell 65 _ (pxC_aft rfl rfl); have HG : Hid (w.heap.size + 3 <= w6.heap.size) := HS6.out.mu.lt; clear hr7 hs7 Z6 HS6))
        clear c65
        generalize hG : w6.heap.size = G at *
        go_loopw [7] (fun iv wr => ∃ k : Nat, k <= 32 /\ iv = .int .i64 k /\ Hid (SW w wr /\ Row wr G 34 (pxC (cpd (p.drop 5) k) (cpd (p.drop 37) k) X69 X73 (.slice none 0 0)))) (fun iv _ => 32 - (intOf iv).toNat)
        case atStart => exact ⟨0, by omega, rfl, HS.out, by rw [cpd_zero, cpd_zero]; exact RX.out⟩
        case round =>
          clear HS RX
          obtain ⟨k, hk, rfl, HK⟩ := hrel
          by_cases hkl : k < 32
          · have q0 : (k : Int) < 32 := by omega
            have q1 : (0 : Int) <= (k : Int) := by omega
            have q2 : (0 : Int) <= 5 + (k : Int) := by omega
            have q3 : (0 : Int) <= 37 + (k : Int) := by omega
            have q4 : 5 + (k : Int) < (n : Int) := by omega
            have q5 : 37 + (k : Int) < (n : Int) := by omega
            have z5 : IntKind.i64.wrap (5 + (k : Int)) = 5 + (k : Int) := i64_in _ (by omega) (by omega)
            have z6 : IntKind.i64.wrap (37 + (k : Int)) = 37 + (k : Int) := i64_in _ (by omega) (by omega)
            have z7 : IntKind.i64.wrap ((k : Int) + 1) = (k : Int) + 1 := i64_in _ (by omega) (by omega)
            have t5 : (5 + (k : Int)).toNat = 5 + k := by omega
            have t6 : (37 + (k : Int)).toNat = 37 + k := by omega
            obtain ⟨hsw, hrow⟩ := HK.out
            have hcl : ∀ W, IsB W (some ⟨B, off, none⟩) p -> ∀ j, j < n -> W.cell? ⟨B, off + j, none⟩ = some (.int .u8 ((p.getD j 0).toNat : Int)) := fun W h j hj => by
              obtain ⟨B', off', e, hc⟩ := h.cell j (by rw [HN.out]; exact hj)
              injection e with e
              injection e with e1 e2
              subst e1 e2
              exact hc
            have ib := HI.out _ hsw.bel
            have hBw : B < w.heap.size := by
              have := hcl w (HI.out _ (Below.refl _ _)) 0 (by omega)
              exact cell_lt25 this
            have hBG : B ≠ G := by have := HG.out; omega
            have ca := hcl wr ib (5 + k) (by omega)
            have hs1 := SameBut.setCell G k (.int .u8 ((p.getD (5 + k) 0).toNat : Int)) wr
            have hr1 : Row (wr.setCell ⟨G, k, none⟩ (.int .u8 ((p.getD (5 + k) 0).toNat : Int))) G 34 (pxC (cpd (p.drop 5) (k + 1)) (cpd (p.drop 37) k) X69 X73 (.slice none 0 0)) := by
              have := hrow.set k (B8 (p.getD (5 + k) 0))
              rw [pxC_setOld (cpd_len _ _) k hkl] at this
              have e2 : p.getD (5 + k) 0 = (p.drop 5).getD k 0 := by simp [List.getD]
              rw [e2] at this
              rw [cpd_set _ _ hkl] at this
              rw [e2]
              exact this
            have sw1 : SW w (wr.setCell ⟨G, k, none⟩ (.int .u8 ((p.getD (5 + k) 0).toNat : Int))) := by
              have hg := HG.out
              exact ⟨hs1.below hsw.bel (by omega), hsw.px.but hs1 (by omega), hsw.wr.but hs1 (by omega), hsw.mu.but hs1 (by omega)⟩
            have cb := hcl _ (HI.out _ sw1.bel) (37 + k) (by omega)
            have ea := hrow.cell k _ (pxC_old (cpd_len _ _) k hkl)
            have fa := hrow.frozen k
            have eb := hr1.cell (32 + k) _ (pxC_new (cpd_len _ _) (cpd_len _ _) k hkl)
            have fb := hr1.frozen (32 + k)
            have FIN : Hid (SW w ((wr.setCell ⟨G, k, none⟩ (.int .u8 ((p.getD (5 + k) 0).toNat : Int))).setCell ⟨G, 32 + k, none⟩ (.int .u8 ((p.getD (37 + k) 0).toNat : Int))) /\ Row ((wr.setCell ⟨G, k, none⟩ (.int .u8 ((p.getD (5 + k) 0).toNat : Int))).setCell ⟨G, 32 + k, none⟩ (.int .u8 ((p.getD (37 + k) 0).toNat : Int))) G 34 (pxC (cpd (p.drop 5) (k + 1)) (cpd (p.drop 37) (k + 1)) X69 X73 (.slice none 0 0))) := by
              have hs2 := SameBut.setCell G (32 + k) (.int .u8 ((p.getD (37 + k) 0).toNat : Int)) (wr.setCell ⟨G, k, none⟩ (.int .u8 ((p.getD (5 + k) 0).toNat : Int)))
              have hg := HG.out
              refine ⟨⟨hs2.below sw1.bel (by omega), sw1.px.but hs2 (by omega), sw1.wr.but hs2 (by omega), sw1.mu.but hs2 (by omega)⟩, ?_⟩
              have := hr1.set (32 + k) (B8 (p.getD (37 + k) 0))
              rw [pxC_setNew (cpd_len _ _) (cpd_len _ _) k hkl] at this
              have e2 : p.getD (37 + k) 0 = (p.drop 37).getD k 0 := by simp [List.getD]
              rw [e2] at this
              rw [cpd_set _ _ hkl] at this
              rw [e2]
              exact this
            clear HK hsw hrow hr1 sw1 hs1 ib hcl
            generalize (p.getD (5 + k) 0).toNat = v5 at *
            generalize (p.getD (37 + k) 0).toNat = v37 at *
            go_wp2
            exact ⟨⟨k + 1, by omega, by go_num, FIN⟩, by simp [intOf]; omega⟩
          · obtain rfl : k = 32 := by omega
            have hrow := HK.out.2
            rw [cpd_all _ (by rw [List.length_drop, HN.out]; omega), cpd_all _ (by rw [List.length_drop, HN.out]; omega)] at hrow
            have lo : ((p.drop 5).take 32).length = 32 := by rw [List.length_take, List.length_drop, HN.out]; omega
            have ln : ((p.drop 37).take 32).length = 32 := by rw [List.length_take, List.length_drop, HN.out]; omega
            obtain ⟨C, hC⟩ : ∃ C, C = pxC ((p.drop 5).take 32) ((p.drop 37).take 32) X69 X73 (.slice none 0 0) := ⟨_, rfl⟩
            have lC : C.length = 67 := by rw [hC]; exact pxC_len lo ln
            have oC : Hid (∀ v ∈ C, v.oneCell' = true) := by rw [hC]; exact pxC_one _ _ _ _ _ _ _
            have HRV : Hid (stV (startR p) = ansV C 0 0) := by show _ = _; rw [HR.out, hC]; rfl
            rw [<- hC] at hrow
            have HS : Hid (SW w wr) := HK.out.1
            have RG : Hid (Row wr G 34 C) := hrow
            clear hC HK hrow lo ln
            go_wp2_with (first
              | (have hz := RG; clear hz; refine wpList_load_Row rfl 34 (.tmp 6) rfl G 34 C RG.out rfl _ Tryd.underlying34 rfl (by rw [lC]; kernel_rfl) ?_; clear RG)
              | (have hz := HS; clear hz; refine wpList_store_Row rfl 34 (.tmp 2) (.tmp 75) rfl w.heap.size 34 0 zPx C HS.out.px (by rw [lC]; exact Nat.le_refl _) rfl rfl (by rw [lC]; kernel_rfl) oC.out ?_; intro w3 hr3 hs3; have h3 : Hid (Row w3 w.heap.size 34 C /\ Row w3 (w.heap.size + 1) 37 [.int .i64 0, .int .i64 0] /\ Below w.heap.size w w3) := ⟨row_whole hr3 (by rw [lC]; exact Nat.le_refl _), HS.out.wr.but hs3 (by omega), hs3.below HS.out.bel (Nat.le_refl _)⟩; clear hr3 hs3 HS)
              | (have hz := h3; clear hz; refine wpList_store_Row rfl 37 (.tmp 3) (.tmp 76) rfl (w.heap.size + 1) 37 0 [.int .i64 0, .int .i64 0] [.int .i64 0, .int .i64 0] h3.out.2.1 (Nat.le_refl _) rfl rfl (by kernel_rfl) (wr2_one _ _) ?_; intro w4 hr4 hs4; have h4 : Hid (Row w4 w.heap.size 34 C /\ Row w4 (w.heap.size + 1) 37 [.int .i64 0, .int .i64 0] /\ Below w.heap.size w w4) := ⟨h3.out.1.but hs4 (by omega), row_whole hr4 (Nat.le_refl _), hs4.below h3.out.2.2 (by omega)⟩; clear hr4 hs4 h3))
            refine bodyPost_ret_by (results_rowrow Tryd.results23 _ w4 w.heap.size 34 (w.heap.size + 1) 37 _ _ _ _ rfl h4.out.1 Tryd.underlying34 rfl (by rw [lC]; kernel_rfl) rfl h4.out.2.1 Tryd.underlying37 rfl (by kernel_rfl)) rfl ⟨?_, h4.out.2.2⟩
            rw [HRV.out]; rfl
end Go.Proofs.YtplpoehfdhkhmaaDoor


/-! A patch of the reference in memory. -/
namespace Go.Proofs.YtplpoehfdhkhmaaDoor
open Go.RowKit
set_option linter.unusedVariables false

/-- A part's cells, and its bytes in memory of its own. -/
structure PtV (N : Nat) (W : World) (y : Pt) (v : List Value) : Prop where
  eq : ∃ bo bc, v = ptC y.lay y.frm y.n (.slice bo y.b.length bc) /\ Own N W (.slice bo y.b.length bc) y.b
theorem PtV.keep {N : Nat} {W W' : World} {y : Pt} {v : List Value} (h : PtV N W y v) (hb : Below W.heap.size W W') : PtV N W' y v := by
  obtain ⟨bo, bc, e, ho⟩ := h.eq
  exact ⟨bo, bc, e, ho.keep hb⟩
theorem PtV.len {N : Nat} {W : World} {y : Pt} {v : List Value} (h : PtV N W y v) : v.length = 4 := by
  obtain ⟨bo, bc, e, _⟩ := h.eq
  rw [e]; rfl
/-- A row of parts. -/
structure PxM (N : Nat) (W : World) (l : List Pt) (lo : Option Addr) (lc : Nat) : Prop where
  vs : ∃ vss : List (List Value), vss.length = l.length /\ W.ownsRow N 65 4 (.slice lo l.length lc) l.length vss.flatten /\ ∀ (i : Nat) (y : Pt) (v : List Value), l[i]? = some y -> vss[i]? = some v -> PtV N W y v
theorem own_keepL {N e size : Nat} {w w' : World} {ao : Option Addr} {n c : Nat} {xs : List Value} (h : w.ownsRow N e size (.slice ao n c) n xs) (hb : ∀ B, ao = some ⟨B, 0, none⟩ -> w'.heap[B]? = w.heap[B]?) : w'.ownsRow N e size (.slice ao n c) n xs := by
  refine ⟨h.1, ?_⟩
  rcases h.2 with h0 | ⟨g, c', cur, e1, h1, h2, r⟩
  · exact .inl h0
  · refine .inr ⟨g, c', cur, e1, h1, ?_, r⟩
    injection e1 with e1
    rw [hb g e1]; exact h2
theorem PxM.keep {N : Nat} {W W' : World} {l : List Pt} {lo : Option Addr} {lc : Nat} (h : PxM N W l lo lc) (hb : Below W.heap.size W W') : PxM N W' l lo lc := by
  obtain ⟨vss, h1, h2, h3⟩ := h.vs
  exact ⟨vss, h1, own_keepL h2 fun B e => hb.block B (by subst e; exact (h2.lt B rfl).2), fun i y v hi hv => (h3 i y v hi hv).keep hb⟩
theorem flat4 : ∀ {vss : List (List Value)}, (∀ v ∈ vss, v.length = 4) -> ∀ {i : Nat} {v : List Value}, vss[i]? = some v -> ∀ {j : Nat} {u : Value}, v[j]? = some u -> vss.flatten[i * 4 + j]? = some u
  | [], _, i, v, h, _, _, _ => by simp at h
  | y :: ys, ho, 0, v, h, j, u, hu => by
    injection h with h
    subst h
    have hl := (List.getElem?_eq_some_iff.1 hu).1
    rw [List.flatten_cons, Nat.zero_mul, Nat.zero_add, List.getElem?_append_left hl]; exact hu
  | y :: ys, ho, i + 1, v, h, j, u, hu => by
    have ly := ho y (List.mem_cons_self ..)
    rw [List.flatten_cons, List.getElem?_append_right (by rw [ly]; omega), ly]
    have e : (i + 1) * 4 + j - 4 = i * 4 + j := by omega
    rw [e]
    exact flat4 (fun z hz => ho z (List.mem_cons_of_mem _ hz)) h hu
theorem PxM.at {N : Nat} {W : World} {l : List Pt} {lo : Option Addr} {lc : Nat} (h : PxM N W l lo lc) {i : Nat} {y : Pt} (hi : l[i]? = some y) : ∃ B v, lo = some ⟨B, 0, none⟩ /\ W.rangeAt B (i * 4) v /\ PtV N W y v := by
  obtain ⟨vss, h1, h2, h3⟩ := h.vs
  have hil := (List.getElem?_eq_some_iff.1 hi).1
  have hv : vss[i]? = some vss[i] := List.getElem?_eq_getElem (by omega)
  have hall : ∀ v ∈ vss, v.length = 4 := fun v hv => by
    obtain ⟨k, hk⟩ := List.mem_iff_getElem?.1 hv
    have hkl := (List.getElem?_eq_some_iff.1 hk).1
    exact (h3 k l[k] v (List.getElem?_eq_getElem (by omega)) hk).len
  rcases h2.2 with ⟨e1, e2⟩ | ⟨g, c', cur, e1, _⟩
  · omega
  · injection e1 with e1
    refine ⟨g, vss[i], e1, fun j u hu => ?_, h3 i y _ hi hv⟩
    subst e1
    have := h2.cells (g := g) rfl (i * 4 + j) u (flat4 hall hv hu)
    rw [Addr.add_mid, Nat.zero_add] at this
    exact this
/-- What is known of a patch that was read. -/
structure PXok (x : PX) : Prop where
  lo : x.old.length = 32
  ln : x.new.length = 32
  bef : x.before <= 524288
  aft : x.after <= 524288
  sum : (x.l.map Pt.n).sum = x.after
  pos : ∀ y ∈ x.l, 1 <= y.n
  lay : ∀ y ∈ x.l, y.lay = true -> y.b.length = y.n
  cpy : ∀ y ∈ x.l, y.lay = false -> y.b = [] /\ y.frm + y.n <= x.before
  frm : ∀ y ∈ x.l, y.frm < 4294967296
theorem sum_le_of {l : List Pt} {y : Pt} (h : y ∈ l) : y.n <= (l.map Pt.n).sum := by
  induction l with
  | nil => cases h
  | cons z zs ih =>
    rw [List.map_cons, List.sum_cons]
    rcases List.mem_cons.1 h with rfl | h
    · omega
    · have := ih h; omega
theorem len_le_sum : ∀ {l : List Pt}, (∀ y ∈ l, 1 <= y.n) -> l.length <= (l.map Pt.n).sum
  | [], _ => by simp
  | z :: zs, h => by
    rw [List.map_cons, List.sum_cons, List.length_cons]
    have := h z (List.mem_cons_self ..)
    have := len_le_sum fun y hy => h y (List.mem_cons_of_mem _ hy)
    omega
theorem laid_le : ∀ (l : List Pt), laidN l <= (l.map Pt.n).sum
  | [] => by simp [laidN]
  | z :: zs => by
    have h := laid_le zs
    unfold laidN at *
    rw [List.map_cons, List.sum_cons, List.map_cons, List.sum_cons]
    split <;> omega
theorem laid_snoc (l : List Pt) (y : Pt) : laidN (l ++ [y]) = laidN l + (if y.lay then y.n else 0) := by simp [laidN]
theorem tells_snoc (l : List Pt) (y : Pt) (old : List By) : tells (l ++ [y]) old = tells l old ++ ptB old y := by simp [tells]
theorem takeP_one {l : List Pt} {k : Nat} {y : Pt} (h : l[k]? = some y) : l.take (k + 1) = l.take k ++ [y] := by
  rw [List.take_add_one, h]; rfl
/-- A patch's cells in memory. -/
structure PxV (N : Nat) (W : World) (x : PX) (C : List Value) : Prop where
  ok : PXok x
  eq : ∃ lo lc, C = pxC x.old x.new x.before x.after (.slice lo x.l.length lc) /\ PxM N W x.l lo lc
theorem PxV.keep {N : Nat} {W W' : World} {x : PX} {C : List Value} (h : PxV N W x C) (hb : Below W.heap.size W W') : PxV N W' x C := by
  obtain ⟨lo, lc, e, hm⟩ := h.eq
  exact ⟨h.ok, lo, lc, e, hm.keep hb⟩
theorem PxV.len {N : Nat} {W : World} {x : PX} {C : List Value} (h : PxV N W x C) : C.length = 67 := by
  obtain ⟨lo, lc, e, _⟩ := h.eq
  rw [e]; exact pxC_len h.ok.lo h.ok.ln
end Go.Proofs.YtplpoehfdhkhmaaDoor
