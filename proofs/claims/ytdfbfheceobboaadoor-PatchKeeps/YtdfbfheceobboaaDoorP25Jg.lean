
import Derived.Test.YtdfbfheceobboaaDoorP25Jf
/-! The code's patch: Join. -/
namespace Go.Proofs.YtdfbfheceobboaaDoor
open Go.RowKit
set_option linter.unusedVariables false
set_option linter.unusedSimpArgs false
set_option maxRecDepth 100000

def CJoO (w : World) (p q : List By) (e : Ending) (w' : World) : Prop :=
  Below w.heap.size w w' ∧ match joinsR p q with
    | .error (k, a) => ∃ v, e = .returned (.tuple #[.slice none 0 0, v]) ∧ ErrV w' k a v
    | .ok _ => ∃ ao c, e = .returned (.tuple #[.slice ao (joinJ p q).length c, .nilIface]) ∧ Own w.heap.size w' (.slice ao (joinJ p q).length c) (joinJ p q)
theorem ou_putall {S : Nat → Prop} {Nt N gh : Nat} {w : World} {l : List Pt} {lo : Option Addr} {lc : Nat} (h : OuR S Nt w l lo lc) (hgh : gh < Nt) : ∀ W ao', Grw N (some ⟨gh, 0, none⟩) ao' w W → ∀ i y, l[i]? = some y → ∃ B v, lo = some ⟨B, 0, none⟩ ∧ W.cell? ⟨B, i, none⟩ = some v ∧ PaV w.heap.size W y v ∧ Apt ao' v := by
  intro W ao' hg i y hy
  obtain ⟨vs, v1, v2, v3, v4, v5⟩ := h.vs
  have hil := (List.getElem?_eq_some_iff.1 hy).1
  have hv : vs[i]? = some vs[i] := List.getElem?_eq_getElem (by omega)
  have ho := v3 i y _ hy hv
  have hne : ∀ B, LayAt vs[i] B → (some ⟨gh, 0, none⟩ : Option Addr) ≠ some ⟨B, 0, none⟩ := fun B hB e => by
    injection e with e; injection e with e
    have := (ho.lt hB).1
    omega
  have how := ho.grw hg hne
  rcases v2.2 with ⟨e1, e2⟩ | ⟨g, c', cur, e1, hgN, _⟩
  · omega
  · injection e1 with e1
    subst e1
    have hc := v2.cells (g := g) rfl i _ hv
    rw [Addr.add_mid, Nat.zero_add] at hc
    have hblk : W.heap[g]? = w.heap[g]? := hg.oth g (v2.lt g rfl).2 (fun q e e2 => by injection e with e; injection e with e; omega)
    refine ⟨g, vs[i], rfl, (World.cell?_of_block (w := w) (a := ⟨g, i, none⟩) hblk).trans hc, ?_, ?_⟩
    · rcases how.eq with h1 | ⟨h1, B, c, h2, h3⟩
      · exact ⟨.inl h1⟩
      · exact ⟨.inr ⟨h1, B, 0, c, h2, own_IsB h3, h3.len, own_cap h3, (ho.lt ⟨_, _, h2⟩).2⟩⟩
    · intro B off n c e3 e4
      rcases ho.eq with ⟨_, h2⟩ | ⟨_, B', c', h2, h3⟩
      · rw [h2] at e3; cases e3
      · rw [h2] at e3
        have e5 := layV_blk e3
        subst e5
        have hl := h3.lt
        rcases hg.loc with e6 | ⟨g', e6, h6⟩
        · rw [e6] at e4; injection e4 with e4; injection e4 with e4; omega
        · rw [e6] at e4; injection e4 with e4; injection e4 with e4; omega
set_option maxHeartbeats 2000000 in
theorem cjoinO_any (w : World) (ao : Option Addr) (n c : Nat) (p : List By) (po : Option Addr) (pn pc : Nat) (q : List By) (h1 : SlB w.heap.size w ao n c p) (h2 : SlB w.heap.size w po pn pc q) (hn : n ≤ 140737488351232) (hpn : pn ≤ 140737488351232) :
    Calls Tryd.prog 7 #[.slice ao n c, .slice po pn pc] w (CJoO w p q) := by
  have FT := ctake_any w ao n c p h1 hn
  clear h1
  cases hS : readR p with
  | error eb =>
    obtain ⟨ke, be⟩ := eb
    have HX : Hid (joinsR p q = .error (ke, be)) := by show _ = _; unfold joinsR; rw [hS]
    rw [hS] at FT
    clear hS h2
    go_enter Tryd.func7, Tryd.ntmps7
    go_wp2_with fail
    refine FT.mono ?_
    rintro e w1 ⟨hb1, g1, rfl, hw1⟩
    have R1 : Hid (Row w1 g1 52 [.int .i64 (ke : Int), .int .i64 (be : Int)] ∧ Below w.heap.size w w1) := ⟨hw1, hb1⟩
    have HZ : Hid (Row (w1.alloc (.cells zInf.toArray 47)) w1.heap.size 47 zInf) := Row.at w1 _ _ _ _ rfl rfl
    clear hb1 hw1 FT
    dsimp only
    go_wp2_with (first
      | (have hz := HZ; clear hz; refine wpList_store_Row rfl 47 (.tmp 6) (.tmp 15) rfl w1.heap.size 47 0 zInf zInf HZ.out (Nat.le_refl _) rfl rfl (by kernel_rfl) zInf_one ?_; intro w4 hr4 hs4; have H4 : Hid (CJoO w p q (.returned (.tuple #[.slice none 0 0, .iface 48 (.pointer (some ⟨g1, 0, none⟩))])) w4) := (by
          have k2 := R1.out.1.lt
          unfold CJoO
          rw [HX.out]
          exact ⟨hs4.below (R1.out.2.alloc R1.out.2.size _) R1.out.2.size, _, rfl, g1, rfl, (R1.out.1.alloc _).but hs4 (by omega)⟩); clear HZ R1 hr4 hs4))
    go_ret2
    exact H4.out
  | ok x =>
    have hokx := readR_ok hS
    have hrx := readR_right hS
    rw [hS] at FT
    have FT2 : Hid (∀ W, Below w.heap.size w W → Calls Tryd.prog 15 #[.slice po pn pc] W (TkP W (readR q))) := fun W hW => ctake_any W po pn pc q ((h2.keep hW).raise hW.size (Nat.le_refl _)) hpn
    have L0 : Hid ((infoC x).length = 68) := infoC_lenk hokx
    have O0 : Hid (∀ v ∈ infoC x, v.oneCell' = true) := infoC_onek x
    clear h2
    go_enter Tryd.func7, Tryd.ntmps7
    go_wp2_with fail
    refine FT.mono ?_
    rintro e w1 ⟨hb1, lo1, lc1, rfl, hp1⟩
    have R1 : Hid (Below w.heap.size w w1 ∧ PaR w.heap.size w1 x.l lo1 lc1) := ⟨hb1, hp1⟩
    have HZ : Hid (Row (w1.alloc (.cells zInf.toArray 47)) w1.heap.size 47 zInf) := Row.at w1 _ _ _ _ rfl rfl
    clear hb1 hp1 FT
    dsimp only
    go_wp2_with (first
      | (have hz := HZ; clear hz; refine wpList_store_Row rfl 47 (.tmp 6) (.tmp 15) rfl w1.heap.size 47 0 zInf (infoC x) HZ.out (by rw [L0.out]; exact Nat.le_refl _) rfl rfl (by rw [L0.out]; kernel_rfl) O0.out ?_; intro w2 hr4 hs4; have R2 : Hid (Row w2 w1.heap.size 47 (infoC x) ∧ Below w.heap.size w w2 ∧ PaR w.heap.size w2 x.l lo1 lc1) := (by
          have hb : Below w1.heap.size w1 w2 := hs4.below ((Below.refl _ _).alloc (Nat.le_refl _) _) (Nat.le_refl _)
          exact ⟨row_whole hr4 (by rw [L0.out]; exact Nat.le_refl _), R1.out.1.trans (hb.mono R1.out.1.size), R1.out.2.keep hb⟩); clear HZ R1 hr4 hs4))
    have FQ := FT2.out _ R2.out.2.1
    clear FT2
    cases hQ : readR q with
    | error eb =>
      obtain ⟨ke, be⟩ := eb
      have HX : Hid (joinsR p q = .error (ke, be)) := by show _ = _; unfold joinsR; rw [hS]; simp only; rw [hQ]
      rw [hQ] at FQ
      clear hS hQ
      refine FQ.mono ?_
      rintro e w3 ⟨hb3, g1, rfl, hw3⟩
      have R1 : Hid (Row w3 g1 52 [.int .i64 (ke : Int), .int .i64 (be : Int)] ∧ Below w.heap.size w w3) := ⟨hw3, R2.out.2.1.trans (hb3.mono R2.out.2.1.size)⟩
      have HZ : Hid (Row (w3.alloc (.cells zInf.toArray 47)) w3.heap.size 47 zInf) := Row.at w3 _ _ _ _ rfl rfl
      clear hb3 hw3 FQ R2
      dsimp only
      go_wp2_with (first
        | (have hz := HZ; clear hz; refine wpList_store_Row rfl 47 (.tmp 9) (.tmp 25) rfl w3.heap.size 47 0 zInf zInf HZ.out (Nat.le_refl _) rfl rfl (by kernel_rfl) zInf_one ?_; intro w4 hr4 hs4; have H4 : Hid (CJoO w p q (.returned (.tuple #[.slice none 0 0, .iface 48 (.pointer (some ⟨g1, 0, none⟩))])) w4) := (by
            have k2 := R1.out.1.lt
            unfold CJoO
            rw [HX.out]
            exact ⟨hs4.below (R1.out.2.alloc R1.out.2.size _) R1.out.2.size, _, rfl, g1, rfl, (R1.out.1.alloc _).but hs4 (by omega)⟩); clear HZ R1 hr4 hs4))
      go_ret2
      exact H4.out
    | ok y =>
      have hoky := readR_ok hQ
      have hry := readR_right hQ
      rw [hQ] at FQ
      have HX : Hid (joinsR p q = if y.old ≠ x.new ∨ y.before ≠ x.after then .error (11, 5) else .ok (x, y)) := by show _ = _; unfold joinsR; rw [hS]; simp only; rw [hQ]
      have L1 : Hid ((infoC y).length = 68) := infoC_lenk hoky
      have O1 : Hid (∀ v ∈ infoC y, v.oneCell' = true) := infoC_onek y
      clear hS hQ
      refine FQ.mono ?_
      rintro e w3 ⟨hb3, lo2, lc2, rfl, hp3⟩
      have R3 : Hid (Row w3 w1.heap.size 47 (infoC x) ∧ Below w.heap.size w w3 ∧ PaR w.heap.size w3 x.l lo1 lc1 ∧ PaR w2.heap.size w3 y.l lo2 lc2) := ⟨R2.out.1.below hb3 R2.out.1.lt, R2.out.2.1.trans (hb3.mono R2.out.2.1.size), R2.out.2.2.keep hb3, hp3⟩
      have HZ : Hid (Row (w3.alloc (.cells zInf.toArray 47)) w3.heap.size 47 zInf) := Row.at w3 _ _ _ _ rfl rfl
      clear hb3 hp3 FQ R2
      dsimp only
      go_upto_region 7 with (first
        | (have hz := HZ; clear hz; refine wpList_store_Row rfl 47 (.tmp 9) (.tmp 25) rfl w3.heap.size 47 0 zInf (infoC y) HZ.out (by rw [L1.out]; exact Nat.le_refl _) rfl rfl (by rw [L1.out]; kernel_rfl) O1.out ?_; intro w4 hr4 hs4; have R4 : Hid (Row w4 w1.heap.size 47 (infoC x) ∧ Row w4 w3.heap.size 47 (infoC y) ∧ Below w.heap.size w w4 ∧ PaR w.heap.size w4 x.l lo1 lc1 ∧ PaR w2.heap.size w4 y.l lo2 lc2) := (by
            have hb : Below w3.heap.size w3 w4 := hs4.below ((Below.refl _ _).alloc (Nat.le_refl _) _) (Nat.le_refl _)
            exact ⟨R3.out.1.below hb R3.out.1.lt, row_whole hr4 (by rw [L1.out]; exact Nat.le_refl _), R3.out.2.1.trans (hb.mono R3.out.2.1.size), R3.out.2.2.1.keep hb, R3.out.2.2.2.keep hb⟩); clear HZ R3 hr4 hs4))
      generalize w1.heap.size = G6 at *
      generalize w3.heap.size = G9 at *
      generalize w2.heap.size = N2 at *
      obtain ⟨r, hr⟩ : ∃ r, r = decide (y.old = x.new) := ⟨_, rfl⟩
      have qe := eq_any y.old x.new hoky.lo hokx.ln r hr
      have HRR : Hid (r = decide (y.old = x.new)) := hr
      have LO : Hid ((y.old.map B8).length = 32 ∧ (x.new.map B8).length = 32 ∧ (x.old.map B8).length = 32 ∧ (y.new.map B8).length = 32) := ⟨by rw [List.length_map, hoky.lo], by rw [List.length_map, hokx.ln], by rw [List.length_map, hokx.lo], by rw [List.length_map, hoky.ln]⟩
      have RG : Hid (w4.rangeAt G9 0 (y.old.map B8) ∧ w4.rangeAt G6 32 (x.new.map B8) ∧ w4.rangeAt G6 0 (x.old.map B8) ∧ w4.rangeAt G9 32 (y.new.map B8)) := ⟨info_rngO R4.out.2.1 hoky.lo, info_rngN R4.out.1 hokx.lo hokx.ln, info_rngO R4.out.1 hokx.lo, info_rngN R4.out.2.1 hoky.lo hoky.ln⟩
      obtain ⟨ix64, ix65, _, _⟩ := infC_num hokx.lo hokx.ln x.before x.after x.l.length (laidN x.l)
      obtain ⟨iy64, iy65, _, _⟩ := infC_num hoky.lo hoky.ln y.before y.after y.l.length (laidN y.l)
      have c1 := R4.out.1.cell 64 _ ix64
      have c2 := R4.out.1.cell 65 _ ix65
      have c3 := R4.out.2.1.cell 64 _ iy64
      have c4 := R4.out.2.1.cell 65 _ iy65
      have HEB : Hid (joinsR p q = .error (11, 5) → ∀ X, X = w4.alloc (.cells #[.int .i64 11, .int .i64 5] 52) → CJoO w p q (.returned (.tuple #[.slice none 0 0, .iface 48 (.pointer (some ⟨w4.heap.size, 0, none⟩))])) X) := fun hh X e => by
        subst e
        unfold CJoO
        rw [hh]
        exact ⟨R4.out.2.2.1.alloc R4.out.2.2.1.size _, _, rfl, _, rfl, Row.at w4 _ _ _ _ rfl rfl⟩
      have T1 : Hid True := trivial
      have T2 : Hid True := trivial
      clear hr ix64 ix65 iy64 iy65
      cases r with
      | false =>
        have HN : Hid (joinsR p q = .error (11, 5)) := by show _ = _; rw [HX.out, if_pos (.inl (of_decide_eq_false HRR.out.symm))]
        have HEC := HEB.out HN.out
        have HEC : Hid (∀ X, X = w4.alloc (.cells #[.int .i64 11, .int .i64 5] 52) → CJoO w p q (.returned (.tuple #[.slice none 0 0, .iface 48 (.pointer (some ⟨w4.heap.size, 0, none⟩))])) X) := HEC
        generalize y.old.map B8 = YO at *
        generalize x.new.map B8 = XN at *
        clear HX HRR HN
        go_wp2_with (first
          | (have hz := T1; clear hz; refine wpList_load_mid rfl 44 (.tmp 32) rfl G9 0 rfl YO _ RG.out.1 Tryd.underlying44 rfl (by rw [LO.out.1]; kernel_rfl) ?_; clear T1)
          | (have hz := T2; clear hz; refine wpList_load_mid rfl 44 (.tmp 34) rfl G6 32 rfl XN _ RG.out.2.1 Tryd.underlying44 rfl (by rw [LO.out.2.1]; kernel_rfl) ?_; clear T2))
        go_ret2
        exact HEC.out _ rfl
      | true =>
        by_cases hba : y.before = x.after
        · have HJ : Hid (joinsR p q = .ok (x, y)) := by show _ = _; rw [HX.out, if_neg (fun h => h.elim (fun h => h (of_decide_eq_true HRR.out.symm)) (fun h => h hba))]
          have EJ : Hid (joinJ p q = headB x.old y.new x.before y.after ++ putL (through x.l y.l)) := by show _ = _; unfold joinJ; rw [HJ.out]
          have kb : ((y.before : Int) == (x.after : Int)) = true := by rw [beq_iff_eq]; omega
          have kb2 : ((y.before : Int) != (x.after : Int)) = false := by rw [bne_eq_false_iff_eq]; omega
          have BI : Hid (∀ W, (Instr.build 47 #[(0, .agg (x.old.map B8).toArray), (1, .agg (y.new.map B8).toArray), (2, .int .i64 (x.before : Int)), (3, .int .i64 (y.after : Int))]).run Tryd.prog W = .ok (.agg (infC x.old y.new x.before y.after 0 0).toArray) W) := fun W => build_inf4 x.before y.after W x.old y.new hokx.lo hoky.ln
          have FH : Hid (∀ W, Calls Tryd.prog 13 #[.agg (infC x.old y.new x.before y.after 0 0).toArray] W fun e w' => ∃ ao' c', e = .returned (.slice ao' 77 c') ∧ Own W.heap.size w' (.slice ao' 77 c') (headB x.old y.new x.before y.after) ∧ Below W.heap.size W w') := fun W => by
            have := cputhead_any x.old y.new x.before y.after 0 0 W hokx.lo hoky.ln (by have := hokx.bef; omega) (by have := hoky.aft; omega)
            unfold HeadP at this
            rw [headB_len hokx.lo hoky.ln] at this
            exact this
          have hay := hoky.aft
          have hax := hokx.aft
          have hbx := hokx.bef
          have HTR := through_right hrx.1 y.l [] (by simp) beh_nil (by rw [hrx.2, ← hba]; exact hry.1)
          have hts : sumN (through x.l y.l) = y.after := by
            have := HTR.2.2.1
            rw [sumN_nil, Nat.zero_add, hry.2] at this
            exact this
          have HSM := right_small (bef := x.before) (aft := y.after) HTR.1 hts hbx hay
          have FTH : Hid (∀ W, Below w4.heap.size w4 W → Calls Tryd.prog 16 #[.slice lo1 x.l.length lc1, .slice lo2 y.l.length lc2] W (ThrP W (through x.l y.l))) := fun W hW => cthrough_any w.heap.size N2 x.before W x.l lo1 lc1 y.l lo2 lc2 (Nat.le_trans R4.out.2.2.1.size hW.size) (R4.out.2.2.2.1.keep hW) (R4.out.2.2.2.2.keep hW) hrx.1 hbx (by rw [hrx.2]; exact hax) (by rw [hrx.2, ← hba]; exact hry.1) (by rw [hry.2]; exact hay)
          have HFN : Hid (∀ W ao' c', Below w.heap.size w W → Own w.heap.size W (.slice ao' (77 + (putL (through x.l y.l)).length) c') (headB x.old y.new x.before y.after ++ putL (through x.l y.l)) → CJoO w p q (.returned (.tuple #[.slice ao' (77 + (putL (through x.l y.l)).length) c', .nilIface])) W) := fun W ao' c' hb ho => by
            have hl : (joinJ p q).length = 77 + (putL (through x.l y.l)).length := by rw [EJ.out, List.length_append, headB_len hokx.lo hoky.ln]
            unfold CJoO
            rw [HJ.out]
            refine ⟨hb, ao', c', by rw [hl], ?_⟩
            rw [hl, EJ.out]
            exact ho
          have HB77 : Hid ((putL (through x.l y.l)).length ≤ 5242880 ∧ (through x.l y.l).length ≤ 524288 ∧ (∀ z ∈ through x.l y.l, 1 ≤ z.n ∧ z.n < 4294967296 ∧ z.frm < 4294967296)) := ⟨HSM.2.1, HSM.2.2, HSM.1⟩
          have HRB : Hid (Below w.heap.size w w4) := R4.out.2.2.1
          have T3 : Hid True := trivial
          have T4 : Hid True := trivial
          clear hokx hoky hrx hry HTR HSM hts HX HRR hba HEB R4 EJ HJ hay hax hbx
          generalize through x.l y.l = TH at *
          generalize infC x.old y.new x.before y.after 0 0 = IC at *
          generalize headB x.old y.new x.before y.after = HB at *
          generalize y.old.map B8 = YO at *
          generalize x.new.map B8 = XN at *
          generalize x.old.map B8 = XO at *
          generalize y.new.map B8 = YN at *
          go_wp2_with (first
            | (have hz := T1; clear hz; refine wpList_load_mid rfl 44 (.tmp 32) rfl G9 0 rfl YO _ RG.out.1 Tryd.underlying44 rfl (by rw [LO.out.1]; kernel_rfl) ?_; clear T1)
            | (have hz := T2; clear hz; refine wpList_load_mid rfl 44 (.tmp 34) rfl G6 32 rfl XN _ RG.out.2.1 Tryd.underlying44 rfl (by rw [LO.out.2.1]; kernel_rfl) ?_; clear T2)
            | (have hz := T3; clear hz; refine wpList_load_mid rfl 44 (.tmp 47) rfl G6 0 rfl XO _ RG.out.2.2.1 Tryd.underlying44 rfl (by rw [LO.out.2.2.1]; kernel_rfl) ?_; clear T3)
            | (have hz := T4; clear hz; refine wpList_load_mid rfl 44 (.tmp 49) rfl G9 32 rfl YN _ RG.out.2.2.2 Tryd.underlying44 rfl (by rw [LO.out.2.2.2]; kernel_rfl) ?_; clear T4)
            | (have hz := BI; clear hz; refine wpList_build4 rfl 47 0 1 2 3 (.tmp 48) (.tmp 50) (.tmp 52) (.tmp 54) rfl (.agg XO.toArray) (.agg YN.toArray) (.int .i64 (x.before : Int)) (.int .i64 (y.after : Int)) (.agg IC.toArray) rfl rfl rfl rfl (BI.out _) ?_; clear BI))
          refine (FH.out _).mono ?_
          rintro e w7 ⟨ao7, c7, rfl, ho7, hb7⟩
          obtain ⟨gh, e7, hg7⟩ := ho7.at (by omega)
          subst e7
          have H7 : Hid (Own w.heap.size w7 (.slice (some ⟨gh, 0, none⟩) 77 c7) HB ∧ Below w4.heap.size w4 w7 ∧ gh < w7.heap.size) := ⟨own_le ho7 HRB.out.size, hb7, hg7.2⟩
          clear ho7 hb7 hg7 FH qe c1 c2 c3 c4 RG LO
          dsimp only
          go_wp2_with fail
          refine (FTH.out _ H7.out.2.1).mono ?_
          rintro e w8 ⟨S, Nt, lo8, lc8, rfl, ho8, hn8, hb8⟩
          have H8 : Hid (OuR S Nt w8 TH lo8 lc8 ∧ w7.heap.size ≤ Nt ∧ Own w.heap.size w8 (.slice (some ⟨gh, 0, none⟩) 77 c7) HB ∧ Below w.heap.size w w8) := ⟨ho8, hn8, H7.out.1.keep hb8, (HRB.out.trans (H7.out.2.1.mono HRB.out.size)).trans (hb8.mono (Nat.le_trans HRB.out.size H7.out.2.1.size))⟩
          clear ho8 hn8 hb8 FTH
          dsimp only
          have FPA : Hid (Calls Tryd.prog 10 #[.slice (some ⟨gh, 0, none⟩) 77 c7, .slice lo8 TH.length lc8] w8 (PutP w.heap.size (some ⟨gh, 0, none⟩) w8 (77 + (putL TH).length) (HB ++ putL TH))) := cputall_any w.heap.size w8.heap.size (some ⟨gh, 0, none⟩) 77 c7 HB w8 TH lo8 lc8 H8.out.2.2.1 (ou_putall H8.out.1 (Nat.lt_of_lt_of_le H7.out.2.2 H8.out.2.1)) HB77.out.2.2 (by have := HB77.out.1; omega) (by have := HB77.out.2.1; omega)
          go_wp2_with fail
          refine FPA.out.mono ?_
          rintro e w9 ⟨ao9, c9, rfl, ho9, hg9⟩
          have H9 := HFN.out w9 ao9 c9 (H8.out.2.2.2.trans hg9.bel) ho9
          have H9 : Hid (CJoO w p q (.returned (.tuple #[.slice ao9 (77 + (putL TH).length) c9, .nilIface])) w9) := H9
          clear ho9 hg9
          dsimp only
          go_wp2
          go_ret2
          exact H9.out
        · have HN : Hid (joinsR p q = .error (11, 5)) := by show _ = _; rw [HX.out, if_pos (.inr hba)]
          have HEC := HEB.out HN.out
          have HEC : Hid (∀ X, X = w4.alloc (.cells #[.int .i64 11, .int .i64 5] 52) → CJoO w p q (.returned (.tuple #[.slice none 0 0, .iface 48 (.pointer (some ⟨w4.heap.size, 0, none⟩))])) X) := HEC
          have kb : ((y.before : Int) == (x.after : Int)) = false := by rw [beq_eq_false_iff_ne]; omega
          have kb2 : ((y.before : Int) != (x.after : Int)) = true := by rw [bne_iff_ne]; omega
          generalize y.old.map B8 = YO at *
          generalize x.new.map B8 = XN at *
          clear HX HRR HN
          go_wp2_with (first
            | (have hz := T1; clear hz; refine wpList_load_mid rfl 44 (.tmp 32) rfl G9 0 rfl YO _ RG.out.1 Tryd.underlying44 rfl (by rw [LO.out.1]; kernel_rfl) ?_; clear T1)
            | (have hz := T2; clear hz; refine wpList_load_mid rfl 44 (.tmp 34) rfl G6 32 rfl XN _ RG.out.2.1 Tryd.underlying44 rfl (by rw [LO.out.2.1]; kernel_rfl) ?_; clear T2))
          go_ret2
          exact HEC.out _ rfl
end Go.Proofs.YtdfbfheceobboaaDoor
