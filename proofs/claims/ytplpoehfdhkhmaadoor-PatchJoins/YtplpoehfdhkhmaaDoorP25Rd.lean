
import Derived.Test.YtplpoehfdhkhmaaDoorP25RdS
/-! The reference's patch: Read. (Printed by tools/genrd25.py.) -/
namespace Go.Proofs.YtplpoehfdhkhmaaDoor
open Go.RowKit
set_option linter.unusedVariables false

set_option maxHeartbeats 4000000 in
set_option maxRecDepth 100000 in
theorem rdC_any : RdC := by
  intro w po n pc p hpn hp47 hpc hp
  obtain ⟨w1, hw1⟩ : ∃ w1, w1 = (w.alloc (.cells zPx.toArray 34)).alloc (.cells #[.int .i64 0, .int .i64 0] 37) := ⟨_, rfl⟩
  have S1 : Hid (RS w w1) := by
    rw [hw1]
    exact ⟨(Row.at w _ _ _ _ rfl rfl).alloc _, Row.at _ _ _ _ _ (by simp) rfl, ((Below.refl _ _).alloc (Nat.le_refl _) _).alloc (by simp) _⟩
  have ST := r25start_any po n pc p hpn hp47 w1 (hp.below S1.out.bel (Nat.le_refl _))
  rw [hw1] at ST
  have HI : Hid (∀ W, Below w.heap.size w W -> IsB W po p) := fun W h => hp.below h (Nat.le_refl _)
  have HN : Hid (p.length = n) := hpn
  clear hp hpn
  go_enter Tryd.func11, Tryd.ntmps11
  go_wp2_with fail
  refine ST.mono ?_
  rw [<- hw1]
  clear ST hw1
  rintro e w2 ⟨rfl, hb2⟩
  have S2 : Hid (RS w w2) := S1.out.keep hb2
  have hG2 : w.heap.size + 2 <= w2.heap.size := by have := S2.out.r3.lt; omega
  clear S1 hb2
  obtain ⟨G, hG⟩ : ∃ G, G = w2.heap.size := ⟨_, rfl⟩
  have HG : Hid (G = w2.heap.size) := hG
  have Z4 : Hid (Row ((w2.alloc (.cells zPx.toArray 34)).alloc (.cells #[.int .i64 0, .int .i64 0] 37)) G 34 zPx) := (Row.at w2 _ _ _ _ hG rfl).alloc _
  have Z5 : Hid (Row ((w2.alloc (.cells zPx.toArray 34)).alloc (.cells #[.int .i64 0, .int .i64 0] 37)) (G + 1) 37 [.int .i64 0, .int .i64 0]) := Row.at _ _ _ _ _ (by rw [hG]; simp) rfl
  have Q5 : Hid (RS w ((w2.alloc (.cells zPx.toArray 34)).alloc (.cells #[.int .i64 0, .int .i64 0] 37))) := S2.out.keep (((Below.refl _ _).alloc (Nat.le_refl _) _).alloc (by simp) _)
  have hGl : w.heap.size + 2 <= G := by omega
  clear hG S2 hG2
  cases hst : startR p with
  | error ka =>
    obtain ⟨k, a⟩ := ka
    have hk := startR_wrong hst
    have HRR : Hid (readR p = .error (k, a)) := by show _ = _; unfold readR; rw [hst]
    have kne : (((k : Nat) : Int) != 0) = true := by rw [bne_iff_ne]; omega
    obtain ⟨ZP, hZP⟩ : ∃ ZP : Array Value, ZP = zPx.toArray := ⟨_, rfl⟩
    have HZP : Hid (ZP = zPx.toArray) := hZP
    unfold stV ansV
    dsimp only
    rw [<- hZP]
    clear hst hZP hk
    go_wp2_with (first
      | (have hz := Z4; clear hz; rw [<- HG.out]; refine wpList_store_Row rfl 34 (.tmp 4) (.tmp 14) rfl G 34 0 zPx zPx Z4.out (Nat.le_refl _) rfl (congrArg Value.agg HZP.out) (by kernel_rfl) zPx_one ?_; intro w3 hr3 hs3; have h7 : Hid (Row w3 (G + 1) 37 [.int .i64 0, .int .i64 0] /\ RS w w3) := ⟨Z5.out.but hs3 (by omega), Q5.out.but hs3 hGl⟩; clear hr3 hs3 Z4 Z5 Q5)
      | (have hz := h7; clear hz; refine wpList_store_Row rfl 37 (.tmp 5) (.tmp 15) rfl (G + 1) 37 0 [.int .i64 0, .int .i64 0] [.int .i64 (k : Int), .int .i64 (a : Int)] h7.out.1 (Nat.le_refl _) rfl rfl (by kernel_rfl) (wr2_one _ _) ?_; intro w4 hr4 hs4; have RW : Hid (Row w4 (G + 1) 37 [.int .i64 (k : Int), .int .i64 (a : Int)]) := row_whole hr4 (Nat.le_refl _); have HRS : Hid (RS w w4) := h7.out.2.but hs4 (by omega); have c0 := RW.out.cell 0 _ rfl; clear hr4 hs4 h7))
    have HGG : w.heap.size + 2 <= G + 1 := by omega
    obtain ⟨GE, hGE⟩ : ∃ GE : Nat, GE = (G + 1) := ⟨_, rfl⟩
    have HGE : Hid (w.heap.size + 2 <= GE) := by rw [hGE]; exact HGG
    have M3 : Hid (RE w [.int .i64 (k : Int), .int .i64 (a : Int)] GE false w4.drew) := ⟨HRS.out.r2, HRS.out.r3, by rw [hGE]; exact RW.out, HRS.out.bel.drew⟩
    rw [<- hGE]
    clear hGE HRS RW
    refine wp_region_inv (IRD3 w [.int .i64 (k : Int), .int .i64 (a : Int)] GE _ _ _ _ _ _ _ _ _ _ _ _ _ _ _ _ _ _ _ _ _ _ _ _ _ _ _ _ _ _ _ _ _ _ _ _ _ _ _ _ _ _ _ _ _ _ _ _ _ _ _ _ _ _ _ _) (by kernel_rfl) (by kernel_rfl) ⟨_, _, rfl, ⟨M3.out, fun k => (by cases k), fun k => (by cases k)⟩⟩ ?_ ?_
    · refine .cons ?_ (.cons ?_ (.cons ?_ (.cons ?_ .nil)))
      all_goals (rintro L _ W ⟨x19, x20, rfl, hI⟩ hL hd K hK)
      · rw [if_pos (by rfl)]
        go_simp
        exact hK.out _ _ ⟨_, _, rfl, { hI with p0 := fun _ => rfl }⟩
      · refine step_load_rng25 (by rfl) 37 _ rfl GE 0 [.int .i64 (k : Int), .int .i64 (a : Int)] (by have h5 := hI.x.rE.range 0 2; rw [List.drop_zero, List.take_of_length_le (by exact Nat.le_refl 2)] at h5; exact h5) rfl _ Tryd.underlying37 rfl (by kernel_rfl) ?_
        exact hK.out _ _ ⟨_, _, rfl, { hI with p1 := fun _ => rfl }⟩
      · obtain rfl := hI.p0 (hd 0 (by decide))
        refine step_store_Row rfl 34 _ _ rfl w.heap.size 34 zPx zPx hI.x.r2 rfl rfl rfl (by kernel_rfl) zPx_one ?_
        intro W2 hr2 hs2
        have hX := hI.x.s2 HGE.out hr2 hs2
        exact hK.out _ _ ⟨_, _, rfl, { hI with x := hX }⟩
      · obtain rfl := hI.p1 (hd 1 (by decide))
        refine step_store_Row rfl 37 _ _ rfl (w.heap.size + 1) 37 [.int .i64 0, .int .i64 0] [.int .i64 (k : Int), .int .i64 (a : Int)] (hI.x.no hL) rfl rfl rfl (by kernel_rfl) (wr2_one _ _) ?_
        intro W2 hr2 hs2
        have hX := hI.x.s3 HGE.out hr2 hs2
        exact hK.out _ _ ⟨_, _, rfl, { hI with x := hX }⟩
    · rintro L _ W hall ⟨x19, x20, rfl, hI⟩
      obtain rfl := hI.p0 (hall 0 (by decide))
      obtain rfl := hI.p1 (hall 1 (by decide))
      have hXe := hI.x
      rw [hall 3 (by decide)] at hXe
      clear hI hall
      try dsimp only
      have hr := hXe.r3
      rw [if_pos rfl] at hr
      have HE : Hid (Row W w.heap.size 34 zPx /\ Below w.heap.size w W) := ⟨hXe.r2, hXe.bel⟩
      clear hXe
      go_wp2
      refine bodyPost_ret_by (results_rowrow Tryd.results11 _ W w.heap.size 34 (w.heap.size + 1) 37 _ _ _ _ rfl HE.out.1 Tryd.underlying34 rfl (by kernel_rfl) rfl hr Tryd.underlying37 rfl (by kernel_rfl)) rfl ?_
      exact RdP.err HRR.out HE.out.2
  | ok x =>
    obtain ⟨h77, eo, en, _, _, el, haf⟩ := startR_ok hst
    have hbf := startR_bef hst
    have lo32 : x.old.length = 32 := by rw [eo, List.length_take, List.length_drop]; omega
    have ln32 : x.new.length = 32 := by rw [en, List.length_take, List.length_drop]; omega
    have HRD : Hid (readR p = match readL x.before x.after p x.after 77 0 [] with | .error (e, a) => .error (e, a) | .ok (l, a) => if a < p.length then .error (7, a) else .ok { x with l := l }) := by show _ = _; unfold readR; rw [hst]; rfl
    obtain ⟨C, hC⟩ : ∃ C, C = pxC x.old x.new x.before x.after (.slice none 0 0) := ⟨_, rfl⟩
    have lC : C.length = 67 := by rw [hC]; exact pxC_len lo32 ln32
    have oC : Hid (∀ v ∈ C, v.oneCell' = true) := by rw [hC]; exact pxC_one _ _ _ _ _ _ _
    have HC : Hid (C = pxC x.old x.new x.before x.after (.slice none 0 0)) := hC
    have HSV : stV (.ok x) = ansV C 0 0 := by rw [hC]; rfl
    rw [HSV]
    unfold ansV
    dsimp only
    have h77n : 77 <= n := by have := HN.out; omega
    clear hst eo en el hC HSV h77
    have L4 : Hid (∀ w3 w4, Row w3 G 34 C -> SameBut G ((w2.alloc (.cells zPx.toArray 34)).alloc (.cells #[.int .i64 0, .int .i64 0] 37)) w3 -> SameBut (G + 1) w3 w4 -> RL w p x.old x.new x.before x.after G 77 0 [] none 0 w4) := fun w3 w4 hr3 hs3 hs4 => by
      have hz5 := Z5.out.lt
      refine ⟨(Q5.out.but hs3 hGl).but hs4 (by omega), ?_, ⟨[], rfl, ⟨rfl, .inl ⟨rfl, rfl⟩⟩, fun i y v hi => (by cases hi)⟩, hGl, (by rw [hs4.size, hs3.size]; omega), rfl, fun y hy => (by cases hy), Nat.zero_le _, (by rw [HN.out]; exact h77n), x.after, by omega, rfl⟩
      have := hr3.but hs4 (by omega)
      rw [HC.out] at this
      exact this
    go_wp2_with (first
      | (have hz := Z4; clear hz; rw [<- HG.out]; refine wpList_store_Row rfl 34 (.tmp 4) (.tmp 14) rfl G 34 0 zPx C Z4.out (by rw [lC]; exact Nat.le_refl _) rfl rfl (by rw [lC]; kernel_rfl) oC.out ?_; intro w3 hr3 hs3; have h7 : Hid (Row w3 (G + 1) 37 [.int .i64 0, .int .i64 0] /\ Row w3 G 34 C /\ SameBut G ((w2.alloc (.cells zPx.toArray 34)).alloc (.cells #[.int .i64 0, .int .i64 0] 37)) w3) := ⟨Z5.out.but hs3 (by omega), row_whole hr3 (by rw [lC]; exact Nat.le_refl _), hs3⟩; clear hr3 hs3 Z4 Z5 Q5)
      | (have hz := h7; clear hz; refine wpList_store_Row rfl 37 (.tmp 5) (.tmp 15) rfl (G + 1) 37 0 [.int .i64 0, .int .i64 0] [.int .i64 0, .int .i64 0] h7.out.1 (Nat.le_refl _) rfl rfl (by kernel_rfl) (wr2_one _ _) ?_; intro w4 hr4 hs4; have RW := row_whole hr4 (Nat.le_refl _); have c0 := RW.cell 0 _ rfl; have E4 : Hid (RL w p x.old x.new x.before x.after G 77 0 [] none 0 w4) := L4.out _ _ h7.out.2.1 h7.out.2.2 hs4; clear hr4 hs4 h7 RW L4))
    clear c0
    generalize x.old = old at *
    generalize x.new = new at *
    generalize x.before = bef at *
    generalize x.after = aft at *
    go_loopw [6, 7] (fun av hv wr => ∃ (a h : Nat) (l : List Pt) (lo : Option Addr) (lc : Nat), av = .int .i64 a /\ hv = .int .i64 h /\ Hid (RL w p old new bef aft G a h l lo lc wr)) (fun _ hv _ => aft - (intOf hv).toNat)
    case atStart => exact ⟨77, 0, [], none, 0, rfl, rfl, E4⟩
    case round =>
      clear E4
      obtain ⟨a, h, l, lo, lc, rfl, rfl, HL⟩ := hrel
      have c65 := HL.out.row.cell 65 _ (pxC_aft lo32 ln32)
      have c66 := HL.out.row.cell 66 _ (pxC_sl lo32 ln32)
      have han := HL.out.at_
      rw [HN.out] at han
      have hle := HL.out.le
      by_cases hlt : h < aft
      · have y1 : (h : Int) < (aft : Int) := by omega
        obtain ⟨B0, HX⟩ := HL.out.pax lo32 ln32 hbf haf
        have PT := r25part_any wr G old new bef aft lo lc B0 l HX po n pc p HN.out hp47 hpc (HI.out _ HL.out.rs.bel) a h (by omega) (by omega)
        obtain ⟨k, hk, hrd⟩ := HL.out.more hlt
        clear HX
        go_wp2_with fail
        refine PT.mono ?_
        clear PT
        rintro e w5 ⟨hb5, hm⟩
        have HL5 : Hid (RL w p old new bef aft G a h l lo lc w5) := HL.out.keep hb5
        have hz5 : G + 2 <= wr.heap.size := HL.out.sz
        have hz6 : wr.heap.size <= w5.heap.size := hb5.size
        clear HL hb5 c65 c66
        obtain ⟨G8, hG8⟩ : ∃ G8, G8 = w5.heap.size := ⟨_, rfl⟩
        have HG8 : Hid (G8 = w5.heap.size) := hG8
        have Z8 : Hid (Row ((w5.alloc (.cells zPt.toArray 65)).alloc (.cells #[.int .i64 0, .int .i64 0] 37)) G8 65 zPt) := (Row.at w5 _ _ _ _ hG8 rfl).alloc _
        have Z9 : Hid (Row ((w5.alloc (.cells zPt.toArray 65)).alloc (.cells #[.int .i64 0, .int .i64 0] 37)) (G8 + 1) 37 [.int .i64 0, .int .i64 0]) := Row.at _ _ _ _ _ (by rw [hG8]; simp) rfl
        have B8 : Hid (∀ wa wb, SameBut G8 ((w5.alloc (.cells zPt.toArray 65)).alloc (.cells #[.int .i64 0, .int .i64 0] 37)) wa -> SameBut (G8 + 1) wa wb -> Below w5.heap.size w5 wb) := fun wa wb h1 h2 => h2.below (h1.below (((Below.refl _ _).alloc (Nat.le_refl _) _).alloc (by simp) _) (by omega)) (by omega)
        have hGG : w.heap.size + 2 <= G8 + 1 := by have := HL5.out.gg; omega
        clear hG8
        cases hpr : partR bef aft l p a h with
        | error kb =>
          obtain ⟨k2, b⟩ := kb
          rw [hpr] at hm hrd
          have hm : e = .returned (.tuple #[.agg zPt.toArray, .int .i64 0, .agg #[.int .i64 (k2 : Int), .int .i64 (b : Int)]]) := hm
          subst hm
          have hk2 := partR_err hpr
          have HRR : Hid (readR p = .error (k2, b)) := by show _ = _; rw [HRD.out, hrd]
          have kne : (((k2 : Nat) : Int) != 0) = true := by rw [bne_iff_ne]; omega
          dsimp only
          clear hpr hrd hk2 HRD
          go_wp2_with (first
            | (have hz := Z8; clear hz; rw [<- HG8.out]; refine wpList_store_Row rfl 65 (.tmp 8) (.tmp 30) rfl G8 65 0 zPt zPt Z8.out (Nat.le_refl _) rfl rfl (by kernel_rfl) zPt_one ?_; intro w6 hr6 hs6; have h7 : Hid (Row w6 (G8 + 1) 37 [.int .i64 0, .int .i64 0] /\ SameBut G8 ((w5.alloc (.cells zPt.toArray 65)).alloc (.cells #[.int .i64 0, .int .i64 0] 37)) w6) := ⟨Z9.out.but hs6 (by omega), hs6⟩; clear hr6 hs6 Z8 Z9)
            | (have hz := h7; clear hz; refine wpList_store_Row rfl 37 (.tmp 10) (.tmp 32) rfl (G8 + 1) 37 0 [.int .i64 0, .int .i64 0] [.int .i64 (k2 : Int), .int .i64 (b : Int)] h7.out.1 (Nat.le_refl _) rfl rfl (by kernel_rfl) (wr2_one _ _) ?_; intro w7 hr7 hs7; have RW : Hid (Row w7 (G8 + 1) 37 [.int .i64 (k2 : Int), .int .i64 (b : Int)]) := row_whole hr7 (Nat.le_refl _); have HRS : Hid (RS w w7) := HL5.out.rs.keep (B8.out _ _ h7.out.2 hs7); have c0 := RW.out.cell 0 _ rfl; clear hr7 hs7 h7))
          have HGG : w.heap.size + 2 <= G8 + 1 := hGG
          obtain ⟨GE, hGE⟩ : ∃ GE : Nat, GE = (G8 + 1) := ⟨_, rfl⟩
          have HGE : Hid (w.heap.size + 2 <= GE) := by rw [hGE]; exact HGG
          have M3 : Hid (RE w [.int .i64 (k2 : Int), .int .i64 (b : Int)] GE false w7.drew) := ⟨HRS.out.r2, HRS.out.r3, by rw [hGE]; exact RW.out, HRS.out.bel.drew⟩
          rw [<- hGE]
          clear hGE HRS RW
          refine wp_region_inv (IRD9 w [.int .i64 (k2 : Int), .int .i64 (b : Int)] GE _ _ _ _ _ _ _ _ _ _ _ _ _ _ _ _ _ _ _ _ _ _ _ _ _ _ _ _ _ _ _ _ _ _ _ _ _ _ _ _ _ _ _ _ _ _ _ _ _ _ _ _ _ _ _ _) (by kernel_rfl) (by kernel_rfl) ⟨_, _, rfl, ⟨M3.out, fun k => (by cases k), fun k => (by cases k)⟩⟩ ?_ ?_
          · refine .cons ?_ (.cons ?_ (.cons ?_ (.cons ?_ .nil)))
            all_goals (rintro L _ W ⟨x36, x37, rfl, hI⟩ hL hd K hK)
            · rw [if_pos (by rfl)]
              go_simp
              exact hK.out _ _ ⟨_, _, rfl, { hI with p0 := fun _ => rfl }⟩
            · refine step_load_rng25 (by rfl) 37 _ rfl GE 0 [.int .i64 (k2 : Int), .int .i64 (b : Int)] (by have h5 := hI.x.rE.range 0 2; rw [List.drop_zero, List.take_of_length_le (by exact Nat.le_refl 2)] at h5; exact h5) rfl _ Tryd.underlying37 rfl (by kernel_rfl) ?_
              exact hK.out _ _ ⟨_, _, rfl, { hI with p1 := fun _ => rfl }⟩
            · obtain rfl := hI.p0 (hd 0 (by decide))
              refine step_store_Row rfl 34 _ _ rfl w.heap.size 34 zPx zPx hI.x.r2 rfl rfl rfl (by kernel_rfl) zPx_one ?_
              intro W2 hr2 hs2
              have hX := hI.x.s2 HGE.out hr2 hs2
              exact hK.out _ _ ⟨_, _, rfl, { hI with x := hX }⟩
            · obtain rfl := hI.p1 (hd 1 (by decide))
              refine step_store_Row rfl 37 _ _ rfl (w.heap.size + 1) 37 [.int .i64 0, .int .i64 0] [.int .i64 (k2 : Int), .int .i64 (b : Int)] (hI.x.no hL) rfl rfl rfl (by kernel_rfl) (wr2_one _ _) ?_
              intro W2 hr2 hs2
              have hX := hI.x.s3 HGE.out hr2 hs2
              exact hK.out _ _ ⟨_, _, rfl, { hI with x := hX }⟩
          · rintro L _ W hall ⟨x36, x37, rfl, hI⟩
            obtain rfl := hI.p0 (hall 0 (by decide))
            obtain rfl := hI.p1 (hall 1 (by decide))
            have hXe := hI.x
            rw [hall 3 (by decide)] at hXe
            clear hI hall
            try dsimp only
            have hr := hXe.r3
            rw [if_pos rfl] at hr
            have HE : Hid (Row W w.heap.size 34 zPx /\ Below w.heap.size w W) := ⟨hXe.r2, hXe.bel⟩
            clear hXe
            go_wp2
            refine bodyPost_ret_by (results_rowrow Tryd.results11 _ W w.heap.size 34 (w.heap.size + 1) 37 _ _ _ _ rfl HE.out.1 Tryd.underlying34 rfl (by kernel_rfl) rfl hr Tryd.underlying37 rfl (by kernel_rfl)) rfl ?_
            exact RdP.err HRR.out HE.out.2
        | ok yn =>
          obtain ⟨y, nx⟩ := yn
          rw [hpr] at hm hrd
          obtain ⟨v, he, hpv⟩ := hm
          subst he
          have hok := partR_ok hpr
          have lv := hpv.len
          obtain ⟨bo, bc, hve, _⟩ := hpv.eq
          have ov : Hid (∀ u ∈ v, u.oneCell' = true) := by rw [hve]; exact ptC_one _ _ _ _ _ _
          have v2 : Hid (v[2]? = some (.int .i64 (y.n : Int))) := by rw [hve]; rfl
          have HPV : Hid (PtV (G + 2) w5 y v) := hpv.le hz5
          have HPR : Hid (partR bef aft l p a h = .ok (y, nx)) := hpr
          have HK : Hid (aft <= h + (k + 1)) := hk
          have HRL : Hid (readL bef aft p aft 77 0 [] = readL bef aft p k nx (h + y.n) (l ++ [y])) := hrd
          have hyn : h + y.n <= aft := hok.2.1
          have hyp : 1 <= y.n := hok.1.pos
          have zy : IntKind.i64.wrap ((h : Int) + (y.n : Int)) = ((h + y.n : Nat) : Int) := by rw [i64_in _ (by omega) (by omega)]; rfl
          have hll : l.length <= 524288 := Nat.le_trans HL5.out.len haf
          dsimp only
          clear hpr hrd hk hve hpv hok
          generalize hyN : y.n = yN at *
          go_wp2_with (first
            | (have hz := Z8; clear hz; rw [<- HG8.out]; refine wpList_store_Row rfl 65 (.tmp 8) (.tmp 30) rfl G8 65 0 zPt v Z8.out (by rw [lv]; exact Nat.le_refl _) rfl rfl (by rw [lv]; kernel_rfl) ov.out ?_; intro w6 hr6 hs6; have h7 : Hid (Row w6 (G8 + 1) 37 [.int .i64 0, .int .i64 0] /\ Row w6 G8 65 v /\ SameBut G8 ((w5.alloc (.cells zPt.toArray 65)).alloc (.cells #[.int .i64 0, .int .i64 0] 37)) w6) := ⟨Z9.out.but hs6 (by omega), row_whole hr6 (by rw [lv]; exact Nat.le_refl _), hs6⟩; clear hr6 hs6 Z8 Z9)
            | (have hz := h7; clear hz; refine wpList_store_Row rfl 37 (.tmp 10) (.tmp 32) rfl (G8 + 1) 37 0 [.int .i64 0, .int .i64 0] [.int .i64 0, .int .i64 0] h7.out.1 (Nat.le_refl _) rfl rfl (by kernel_rfl) (wr2_one _ _) ?_; intro w7 hr7 hs7; have c0 := (row_whole hr7 (Nat.le_refl _)).cell 0 _ rfl; have b7 := B8.out _ _ h7.out.2.2 hs7; have H7 : Hid (RL w p old new bef aft G a h l lo lc w7 /\ Row w7 G8 65 v /\ PtV (G + 2) w7 y v) := ⟨HL5.out.keep b7, h7.out.2.1.but hs7 (by omega), HPV.out.keep b7⟩; have c66 := H7.out.1.row.cell 66 _ (pxC_sl lo32 ln32); have NE : Hid (∀ g, lo = some ⟨g, 0, none⟩ -> G8 ≠ g) := (fun g eg => by subst eg; have := HL5.out.pm.lt; have := HG8.out; omega); clear hr7 hs7 h7 b7 HL5 HPV B8)
            | (have hz := H7; clear hz; refine wpList_load_Row rfl 65 (.tmp 8) rfl G8 65 v H7.out.2.1 rfl _ Tryd.underlying65 rfl (by rw [lv]; kernel_rfl) ?_; have J7 := H7; clear H7)
            | (have hz := J7; clear hz; refine wpList_buildP rfl (.tmp 40) rfl v lv rfl ?_; have K7 := J7; clear J7)
            | (have hz := K7; clear hz; at_builtin; refine wpList_appP rfl (.tmp 39) (.tmp 41) rfl (G + 2) w7 lo lc l y v w7.heap.size rfl rfl rfl K7.out.1.pm K7.out.2.2 K7.out.1.sz (Below.refl _ _) hll ?_; intro lo' lc' w8 hm8 hb8 hk8 hz8; obtain ⟨w9, hw9⟩ : ∃ w9, w9 = w8.setCell ⟨G, 66, none⟩ (.slice lo' (l.length + 1) lc') := ⟨_, rfl⟩; have r8 := K7.out.1.row.below hb8 (by omega); have c86 := r8.cell 66 _ (pxC_sl lo32 ln32); have f86 := r8.frozen 66; have H9 : Hid (RL w p old new bef aft G nx (h + yN) (l ++ [y]) lo' lc' w9) := (by have := K7.out.1.push lo32 ln32 HPR.out HK.out (by rw [hyN]; exact HRL.out) hm8 hb8 hw9 hz8; rw [hyN] at this; exact this); have rG8 : Row w8 G8 65 v := (hk8 G8 K7.out.2.1.lt NE.out).trans K7.out.2.1; have c92 : w9.cell? ⟨G8, 2, none⟩ = some (.int .i64 (yN : Int)) := (by rw [hw9]; exact (rG8.but (SameBut.setCell G 66 _ w8) (by have := HG8.out; omega)).cell 2 _ v2.out); clear hm8 hb8 hk8 hz8 r8 rG8 K7 NE c0 c66)
            | (rw [<- hw9]; clear hw9 c86 f86))
          exact ⟨⟨nx, h + yN, l ++ [y], lo', lc', rfl, by first | rfl | go_num, H9⟩, by simp [intOf]; omega⟩
      · have y1 : ¬ (h : Int) < (aft : Int) := by omega
        have hdone := HL.out.done (by omega)
        by_cases h9 : a < n
        · have y2 : (a : Int) < (n : Int) := by omega
          have HRR : Hid (readR p = .error (7, a)) := by show _ = _; rw [HRD.out, hdone]; dsimp only; rw [if_pos (by rw [HN.out]; exact h9)]
          have HRS : Hid (RS w wr) := HL.out.rs
          clear HL hdone c66 HRD
          go_wp2_with (first
            | (have hz := HRS; clear hz; refine wpList_store_Row rfl 34 (.tmp 2) (.tmp 53) rfl w.heap.size 34 0 zPx zPx HRS.out.r2 (Nat.le_refl _) rfl rfl (by kernel_rfl) zPx_one ?_; intro wa hra hsa; have ha8 : Hid (Row wa w.heap.size 34 zPx /\ Row wa (w.heap.size + 1) 37 [.int .i64 0, .int .i64 0] /\ Below w.heap.size w wa) := ⟨row_whole hra (Nat.le_refl _), HRS.out.r3.but hsa (by omega), hsa.below HRS.out.bel (Nat.le_refl _)⟩; clear hra hsa HRS)
            | (have hz := ha8; clear hz; refine wpList_store_Row rfl 37 (.tmp 3) (.tmp 55) rfl (w.heap.size + 1) 37 0 [.int .i64 0, .int .i64 0] [.int .i64 7, .int .i64 (a : Int)] ha8.out.2.1 (Nat.le_refl _) rfl rfl (by kernel_rfl) (wr2_one _ _) ?_; intro wb hrb hsb; have hb8 : Hid (Row wb w.heap.size 34 zPx /\ Row wb (w.heap.size + 1) 37 [.int .i64 7, .int .i64 (a : Int)] /\ Below w.heap.size w wb) := ⟨ha8.out.1.but hsb (by omega), row_whole hrb (Nat.le_refl _), hsb.below ha8.out.2.2 (by omega)⟩; clear hrb hsb ha8))
          refine bodyPost_ret_by (results_rowrow Tryd.results11 _ wb w.heap.size 34 (w.heap.size + 1) 37 _ _ _ _ rfl hb8.out.1 Tryd.underlying34 rfl (by kernel_rfl) rfl hb8.out.2.1 Tryd.underlying37 rfl (by kernel_rfl)) rfl ?_
          exact RdP.err HRR.out hb8.out.2.2
        · have y2 : ¬ (a : Int) < (n : Int) := by omega
          have HRR : Hid (readR p = .ok ⟨old, new, bef, aft, l⟩) := by show _ = _; rw [HRD.out, hdone]; dsimp only; rw [if_neg (by rw [HN.out]; exact h9)]
          obtain ⟨D, hD⟩ : ∃ D, D = pxC old new bef aft (.slice lo l.length lc) := ⟨_, rfl⟩
          have lD : D.length = 67 := by rw [hD]; exact pxC_len lo32 ln32
          have oD : Hid (∀ v ∈ D, v.oneCell' = true) := by rw [hD]; exact pxC_one _ _ _ _ _ _ _
          have HD : Hid (D = pxC old new bef aft (.slice lo l.length lc)) := hD
          have RD' : Hid (Row wr G 34 D) := by rw [hD]; exact HL.out.row
          clear hD hdone c66 HRD
          go_wp2_with (first
            | (have hz := RD'; clear hz; refine wpList_load_Row rfl 34 (.tmp 4) rfl G 34 D RD'.out rfl _ Tryd.underlying34 rfl (by rw [lD]; kernel_rfl) ?_; clear RD' c65)
            | (have hz := HL; clear hz; refine wpList_store_Row rfl 34 (.tmp 2) (.tmp 56) rfl w.heap.size 34 0 zPx D HL.out.rs.r2 (by rw [lD]; exact Nat.le_refl _) rfl rfl (by rw [lD]; kernel_rfl) oD.out ?_; intro wa hra hsa; have ha8 : Hid (Row wa w.heap.size 34 D /\ Row wa (w.heap.size + 1) 37 [.int .i64 0, .int .i64 0] /\ Below w.heap.size w wa /\ PxM (G + 2) wa l lo lc) := ⟨row_whole hra (by rw [lD]; exact Nat.le_refl _), HL.out.rs.r3.but hsa (by omega), hsa.below HL.out.rs.bel (Nat.le_refl _), HL.out.pm.low hsa (by omega)⟩; clear hra hsa HL)
            | (have hz := ha8; clear hz; refine wpList_store_Row rfl 37 (.tmp 3) (.tmp 57) rfl (w.heap.size + 1) 37 0 [.int .i64 0, .int .i64 0] [.int .i64 0, .int .i64 0] ha8.out.2.1 (Nat.le_refl _) rfl rfl (by kernel_rfl) (wr2_one _ _) ?_; intro wb hrb hsb; have hb8 : Hid (Row wb w.heap.size 34 D /\ Row wb (w.heap.size + 1) 37 [.int .i64 0, .int .i64 0] /\ Below w.heap.size w wb /\ PxM (G + 2) wb l lo lc) := ⟨ha8.out.1.but hsb (by omega), row_whole hrb (Nat.le_refl _), hsb.below ha8.out.2.2.1 (by omega), ha8.out.2.2.2.low hsb (by omega)⟩; clear hrb hsb ha8))
          refine bodyPost_ret_by (results_rowrow Tryd.results11 _ wb w.heap.size 34 (w.heap.size + 1) 37 _ _ _ _ rfl hb8.out.1 Tryd.underlying34 rfl (by rw [lD]; kernel_rfl) rfl hb8.out.2.1 Tryd.underlying37 rfl (by kernel_rfl)) rfl ?_
          exact RdP.ok HRR.out hb8.out.2.2.1 ⟨readR_ok HRR.out, lo, lc, HD.out, hb8.out.2.2.2.le (by omega)⟩
end Go.Proofs.YtplpoehfdhkhmaaDoor
