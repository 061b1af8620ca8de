
import Derived.Test.YtgpnbiaghokjkaaDoorD21On
import Derived.Test.YtgpnbiaghokjkaaDoorD21Math
/-! Same of dump's reference. -/
namespace Go.Proofs.YtgpnbiaghokjkaaDoor
open Go.RowKit

set_option maxHeartbeats 4000000 in
set_option maxRecDepth 100000 in
theorem r21same_any (va vb : SV) (ta tb : St) (w : World) (ha : StV w va ta) (hb : StV w vb tb) (la : ta.pages.length ≤ 140737488355328 ∧ ta.erases.length ≤ 140737488355328 ∧ ta.blown.length ≤ 140737488355328 ∧ ∀ p ∈ ta.pages, p.length ≤ 140737488355328) (lb : tb.pages.length ≤ 140737488355328 ∧ tb.erases.length ≤ 140737488355328 ∧ tb.blown.length ≤ 140737488355328 ∧ ∀ p ∈ tb.pages, p.length ≤ 140737488355328) (r : Bool) (hr : r = true ↔ ta = tb) :
    Calls Tryd.prog 14 #[.agg (va.vals ta).toArray, .agg (vb.vals tb).toArray] w fun e w' => e = .returned (.bool r) ∧ Below w.heap.size w w' := by
  have HRF : Hid (¬ ta = tb → r = false) := fun h => by cases hrr : r with | false => rfl | true => exact absurd (hr.1 hrr) h
  have HRT : Hid (ta = tb → r = true) := fun h => hr.2 h
  clear hr
  have b0 : ∀ o1 o2, Below w.heap.size w ((w.alloc o1).alloc o2) := fun o1 o2 => ((Below.refl _ _).alloc (Nat.le_refl _) _).alloc (by simp) _
  have rA : Row ((w.alloc (.cells (va.vals ta).toArray 29)).alloc (.cells (vb.vals tb).toArray 29)) w.heap.size 29 (va.vals ta) := (Row.at w 29 (va.vals ta) _ _ rfl rfl).alloc _
  have rB : Row ((w.alloc (.cells (va.vals ta).toArray 29)).alloc (.cells (vb.vals tb).toArray 29)) (w.heap.size + 1) 29 (vb.vals tb) := Row.at _ _ _ _ _ (by simp) rfl
  have bb := b0 (.cells (va.vals ta).toArray 29) (.cells (vb.vals tb).toArray 29)
  have HA : Hid (∀ W, Below w.heap.size w W → StV W va ta) := fun W h => ha.below h (Nat.le_refl _)
  have HB : Hid (∀ W, Below w.heap.size w W → StV W vb tb) := fun W h => hb.below h (Nat.le_refl _)
  have LA := la
  have LB := lb
  have HLA : Hid (∀ p ∈ ta.pages, p.length ≤ 140737488355328) := la.2.2.2
  have HLB : Hid (∀ p ∈ tb.pages, p.length ≤ 140737488355328) := lb.2.2.2
  obtain ⟨la1, la2, la3, _⟩ := LA
  obtain ⟨lb1, lb2, lb3, _⟩ := LB
  clear la lb ha hb b0
  have a0 := rA.cell 0 _ rfl
  have a1 := rA.cell 1 _ rfl
  have a2 := rA.cell 2 _ rfl
  have b0 := rB.cell 0 _ rfl
  have b1 := rB.cell 1 _ rfl
  have b2 := rB.cell 2 _ rfl
  clear rA rB
  simp only [SV.vals] at a0 a1 a2 b0 b1 b2 bb ⊢
  generalize hW0 : (w.alloc (.cells [Value.slice va.po ta.pages.length va.pc, .slice va.eo ta.erases.length va.ec, .slice va.bo ta.blown.length va.bc].toArray 29)).alloc (.cells [Value.slice vb.po tb.pages.length vb.pc, .slice vb.eo tb.erases.length vb.ec, .slice vb.bo tb.blown.length vb.bc].toArray 29) = W0 at *
  by_cases n1 : ta.pages.length = tb.pages.length
  · by_cases n2 : ta.erases.length = tb.erases.length
    · by_cases n3 : ta.blown.length = tb.blown.length
      · rw [← n1] at b0
        rw [← n2] at b1
        rw [← n3] at b2
        have N1 : Hid (ta.pages.length = tb.pages.length) := n1
        have N2 : Hid (ta.erases.length = tb.erases.length) := n2
        have N3 : Hid (ta.blown.length = tb.blown.length) := n3
        have e1 : ((ta.pages.length : Int) != (ta.pages.length : Int)) = false := by simp
        have e2 : ((ta.erases.length : Int) != (ta.erases.length : Int)) = false := by simp
        have e3 : ((ta.blown.length : Int) != (ta.blown.length : Int)) = false := by simp
        clear n1 n2 n3 lb1 lb2 lb3
        have hd0 : Dr W0 W0 := Dr.refl _
        go_enter Tryd.func14, Tryd.ntmps14
        go_wp2
        go_loopw [5] (fun iv wr => ∃ p : Nat, p ≤ ta.pages.length ∧ iv = .int .i64 p ∧ Dr W0 wr ∧ Hid (∀ j, j < p → ta.pages.getD j [] = tb.pages.getD j [])) (fun iv _ => ta.pages.length - (intOf iv).toNat)
        case atStart => exact ⟨0, by omega, rfl, hd0, fun j hj => by omega⟩
        case round =>
          obtain ⟨p, hp, rfl, d, heq⟩ := hrel
          have a0' := d.cell a0
          have b0' := d.cell b0
          by_cases hlt : p < ta.pages.length
          · have y1 : (p : Int) < (ta.pages.length : Int) := by omega
            have y0 : (0 : Int) ≤ (p : Int) := by omega
            have bwr : Below w.heap.size w wr := Below_dr bb d
            obtain ⟨BA, oA, qa, qca, epa, cpa, ila, x32a⟩ := (HA.out wr bwr).page p hlt
            obtain ⟨BB, oB, qb, qcb, epb, cpb, ilb, x32b⟩ := (HB.out wr bwr).page p (by rw [← N1.out]; exact hlt)
            rw [epa] at a0'
            rw [epb] at b0'
            clear epa epb
            have hPA : (ta.pages.getD p []).length ≤ 140737488355328 := by
              rw [List.getD_eq_getElem?_getD, List.getElem?_eq_getElem hlt]; exact HLA.out _ (List.getElem_mem _)
            by_cases hpl : (ta.pages.getD p []).length = (tb.pages.getD p []).length
            · rw [← hpl] at cpb
              have HPL : Hid ((ta.pages.getD p []).length = (tb.pages.getD p []).length) := hpl
              have e9 : (((ta.pages.getD p []).length : Int) != ((ta.pages.getD p []).length : Int)) = false := by simp
              have HILA : Hid (IsL wr qa ((ta.pages.getD p []).flatten.map B8)) := ila
              have HILB : Hid (IsL wr qb ((tb.pages.getD p []).flatten.map B8)) := ilb
              have HXA : Hid (∀ x ∈ ta.pages.getD p [], x.length = 32) := x32a
              have HXB : Hid (∀ x ∈ tb.pages.getD p [], x.length = 32) := x32b
              have HNE : Hid (¬ ta.pages.getD p [] = tb.pages.getD p [] → ¬ ta = tb) := fun h1 h2 => h1 (by rw [h2])
              have HNP : Hid (∀ h : ta.pages.getD p [] = tb.pages.getD p [], ∀ j, j < p + 1 → ta.pages.getD j [] = tb.pages.getD j []) := fun h j hj => by
                by_cases hjp : j = p
                · rw [hjp]; exact h
                · exact heq.out j (by omega)
              clear hpl ila ilb x32a x32b
              generalize ta.pages.getD p [] = PA at *
              generalize tb.pages.getD p [] = PB at *
              go_wp2
              go_quiet (fail)
              go_wp2
              go_loopw [6] (fun iv wq => ∃ i : Nat, i ≤ PA.length ∧ iv = .int .i64 i ∧ Dr wr wq ∧ Hid (∀ j, j < i → PA.getD j [] = PB.getD j [])) (fun iv _ => PA.length - (intOf iv).toNat)
              case atStart => exact ⟨0, by omega, rfl, ⟨nq, rfl⟩, fun j hj => by omega⟩
              case round =>
                obtain ⟨i, hi, rfl, d2, heq2⟩ := hrel
                have dd : Dr W0 wr := d.trans d2
                have a0q := d2.cell a0'
                have b0q := d2.cell b0'
                have cpaq := d2.cell cpa
                have cpbq := d2.cell cpb
                have HILAq : Hid (IsL wr qa (PA.flatten.map B8)) := HILA.out.dr d2
                have HILBq : Hid (IsL wr qb (PB.flatten.map B8)) := HILB.out.dr d2
                by_cases hil : i < PA.length
                · have z1 : (i : Int) < (PA.length : Int) := by omega
                  have z0 : (0 : Int) ≤ (i : Int) := by omega
                  have hilb : i < PB.length := by rw [← HPL.out]; exact hil
                  have fa := flat_len _ HXA.out
                  have fb := flat_len _ HXB.out
                  obtain ⟨QA, pA, eqa, rga⟩ := HILAq.out.range (i * 32) 32 (by omega) (by rw [List.length_map, fa]; omega)
                  obtain ⟨QB, pB, eqb, rgb⟩ := HILBq.out.range (i * 32) 32 (by omega) (by rw [List.length_map, fb]; omega)
                  rw [← List.map_drop, ← List.map_take, Nat.mul_comm i 32, flat_seg _ HXA.out i hil, Nat.mul_comm 32 i] at rga
                  rw [← List.map_drop, ← List.map_take, Nat.mul_comm i 32, flat_seg _ HXB.out i hilb, Nat.mul_comm 32 i] at rgb
                  have lxA : (PA.getD i []).length = 32 := by rw [List.getD_eq_getElem?_getD, List.getElem?_eq_getElem hil]; exact HXA.out _ (List.getElem_mem _)
                  have lxB : (PB.getD i []).length = 32 := by rw [List.getD_eq_getElem?_getD, List.getElem?_eq_getElem hilb]; exact HXB.out _ (List.getElem_mem _)
                  rw [eqa] at cpaq
                  rw [eqb] at cpbq
                  clear eqa eqb
                  have hq := eq_cell (PA.getD i []) (PB.getD i []) lxA lxB
                  have HNX : Hid (∀ h : PA.getD i [] = PB.getD i [], ∀ j, j < i + 1 → PA.getD j [] = PB.getD j []) := fun h j hj => by
                    by_cases hji : j = i
                    · rw [hji]; exact h
                    · exact heq2.out j (by omega)
                  have HDF : Hid (¬ PA.getD i [] = PB.getD i [] → ¬ ta = tb) := fun h => HNE.out (fun h2 => h (by rw [h2]))
                  clear fa fb
                  generalize PA.getD i [] = XA at *
                  generalize PB.getD i [] = XB at *
                  obtain ⟨eqb', heb⟩ : ∃ b, decide (XA = XB) = b := ⟨_, rfl⟩
                  rw [heb] at hq
                  have HEB : Hid (decide (XA = XB) = eqb') := heb
                  clear heb
                  go_wp2
                  refine wp_region_still_lit (by kernel_rfl) (by kernel_rfl) ?_
                  have hdz : Dr wr { wr with drawn := wr.drawn + 1 } := ⟨1, rfl⟩
                  generalize { wr with drawn := wr.drawn + 1 } = wz at hdz ⊢
                  replace a0q := hdz.cell a0q
                  replace b0q := hdz.cell b0q
                  replace cpaq := hdz.cell cpaq
                  replace cpbq := hdz.cell cpbq
                  have rgaz : wz.rangeAt QA (pA + i * 32) (XA.map B8) := fun j v hv => hdz.cell (rga j v hv)
                  have rgbz : wz.rangeAt QB (pB + i * 32) (XB.map B8) := fun j v hv => hdz.cell (rgb j v hv)
                  still_step
                  still_step
                  still_step
                  still_step
                  still_step
                  still_step
                  still_step
                  refine wpStill_load_range rfl 56 _ rfl QA (pA + i * 32) 32 _ rgaz rfl _ (by rw [List.length_map]; exact lxA) Tryd.underlying56 rfl (by kernel_rfl) ?_
                  still_step
                  still_step
                  still_step
                  still_step
                  still_step
                  still_step
                  still_step
                  refine wpStill_load_range rfl 56 _ rfl QB (pB + i * 32) 32 _ rgbz rfl _ (by rw [List.length_map]; exact lxB) Tryd.underlying56 rfl (by kernel_rfl) ?_
                  still_step
                  refine wpStill_nil ?_
                  cases eqb'
                  · go_wp2
                    go_ret
                    have hne : ¬ XA = XB := by have := HEB.out; simpa using this
                    exact ⟨by rw [HRF.out (HDF.out hne)]; rfl, Below_dr bb (dd.trans hdz)⟩
                  · have heq3 : XA = XB := by have := HEB.out; simpa using this
                    have HNX' : Hid (∀ j, j < i + 1 → PA.getD j [] = PB.getD j []) := HNX.out heq3
                    clear heq3
                    go_wp2
                    exact ⟨⟨i + 1, by omega, by go_num, d2.trans hdz, HNX'.out⟩, by simp [intOf]; omega⟩
                · obtain rfl : i = PA.length := by omega
                  have z1 : ¬ (PA.length : Int) < (PA.length : Int) := by omega
                  have HPP : Hid (∀ j, j < p + 1 → ta.pages.getD j [] = tb.pages.getD j []) := HNP.out (getD_ext [] _ _ HPL.out heq2.out)
                  clear hil hi heq2
                  go_wp2
                  exact ⟨⟨p + 1, by omega, by go_num, dd, HPP.out⟩, by simp [intOf]; omega⟩
            · have e9 : (((ta.pages.getD p []).length : Int) != ((tb.pages.getD p []).length : Int)) = true := by rw [bne_iff_ne]; omega
              have HX : Hid (¬ ta = tb) := fun h => hpl (by rw [h])
              clear hpl
              generalize (ta.pages.getD p []).length = LA at *
              generalize (tb.pages.getD p []).length = LB at *
              go_wp2
              go_quiet (fail)
              go_wp2
              go_ret
              exact ⟨by rw [HRF.out HX.out]; rfl, Below_dr bb (d.drewN nq)⟩
          · obtain rfl : p = ta.pages.length := by omega
            have y1 : ¬ (ta.pages.length : Int) < (ta.pages.length : Int) := by omega
            have HPG : Hid (ta.pages = tb.pages) := getD_ext [] _ _ N1.out heq.out
            clear hlt hp heq
            go_wp2
            go_loopw [7] (fun iv wr => ∃ p : Nat, p ≤ ta.erases.length ∧ iv = .int .i64 p ∧ Dr W0 wr ∧ Hid (∀ j, j < p → ta.erases.getD j 0 = tb.erases.getD j 0)) (fun iv _ => ta.erases.length - (intOf iv).toNat)
            case atStart => exact ⟨0, by omega, rfl, d, fun j hj => by omega⟩
            case round =>
              obtain ⟨p, hp, rfl, d, heq⟩ := hrel
              have a' := d.cell a1
              have b' := d.cell b1
              by_cases hlt : p < ta.erases.length
              · have y1 : (p : Int) < (ta.erases.length : Int) := by omega
                have y0 : (0 : Int) ≤ (p : Int) := by omega
                have bwr : Below w.heap.size w wr := Below_dr bb d
                have hltb : p < tb.erases.length := by rw [← N2.out]; exact hlt
                obtain ⟨BA, oA, eA, cA⟩ := (HA.out wr bwr).er.cell p (Value.int .i64 (ta.erases.getD p 0)) (by rw [List.getElem?_map, List.getD_eq_getElem?_getD, List.getElem?_eq_getElem hlt]; rfl)
                obtain ⟨BB, oB, eB, cB⟩ := (HB.out wr bwr).er.cell p (Value.int .i64 (tb.erases.getD p 0)) (by rw [List.getElem?_map, List.getD_eq_getElem?_getD, List.getElem?_eq_getElem hltb]; rfl)
                rw [eA] at a'
                rw [eB] at b'
                by_cases hxy : ta.erases.getD p 0 = tb.erases.getD p 0
                · have e9 : ((ta.erases.getD p 0) != (tb.erases.getD p 0)) = false := by rw [bne_eq_false_iff_eq]; exact hxy
                  have HS : Hid (∀ j, j < p + 1 → ta.erases.getD j 0 = tb.erases.getD j 0) := fun j hj => by
                    by_cases hjp : j = p
                    · rw [hjp]; exact hxy
                    · exact heq.out j (by omega)
                  clear hxy
                  generalize ta.erases.getD p 0 = xA at *
                  generalize tb.erases.getD p 0 = xB at *
                  go_wp2
                  go_quiet (fail)
                  go_wp2
                  exact ⟨⟨p + 1, by omega, by go_num, d.drewN nq, HS.out⟩, by simp [intOf]; omega⟩
                · have e9 : ((ta.erases.getD p 0) != (tb.erases.getD p 0)) = true := by rw [bne_iff_ne]; exact hxy
                  have HX : Hid (¬ ta = tb) := fun h => hxy (by rw [h])
                  clear hxy
                  generalize ta.erases.getD p 0 = xA at *
                  generalize tb.erases.getD p 0 = xB at *
                  go_wp2
                  go_quiet (fail)
                  go_wp2
                  go_ret
                  exact ⟨by rw [HRF.out HX.out]; rfl, Below_dr bb (d.drewN nq)⟩
              · obtain rfl : p = ta.erases.length := by omega
                have y1 : ¬ (ta.erases.length : Int) < (ta.erases.length : Int) := by omega
                have HEQ1 : Hid (ta.erases = tb.erases) := getD_ext 0 _ _ N2.out heq.out
                clear hlt hp heq
                go_wp2
                go_loopw [8] (fun iv wr => ∃ p : Nat, p ≤ ta.blown.length ∧ iv = .int .i64 p ∧ Dr W0 wr ∧ Hid (∀ j, j < p → ta.blown.getD j false = tb.blown.getD j false)) (fun iv _ => ta.blown.length - (intOf iv).toNat)
                case atStart => exact ⟨0, by omega, rfl, d, fun j hj => by omega⟩
                case round =>
                  obtain ⟨p, hp, rfl, d, heq⟩ := hrel
                  have a' := d.cell a2
                  have b' := d.cell b2
                  by_cases hlt : p < ta.blown.length
                  · have y1 : (p : Int) < (ta.blown.length : Int) := by omega
                    have y0 : (0 : Int) ≤ (p : Int) := by omega
                    have bwr : Below w.heap.size w wr := Below_dr bb d
                    have hltb : p < tb.blown.length := by rw [← N3.out]; exact hlt
                    obtain ⟨BA, oA, eA, cA⟩ := (HA.out wr bwr).bl.cell p (Value.bool (ta.blown.getD p false)) (by rw [List.getElem?_map, List.getD_eq_getElem?_getD, List.getElem?_eq_getElem hlt]; rfl)
                    obtain ⟨BB, oB, eB, cB⟩ := (HB.out wr bwr).bl.cell p (Value.bool (tb.blown.getD p false)) (by rw [List.getElem?_map, List.getD_eq_getElem?_getD, List.getElem?_eq_getElem hltb]; rfl)
                    rw [eA] at a'
                    rw [eB] at b'
                    generalize hxA : ta.blown.getD p false = xA at cA
                    generalize hxB : tb.blown.getD p false = xB at cB
                    have HXA : Hid (ta.blown.getD p false = xA) := hxA
                    have HXB : Hid (tb.blown.getD p false = xB) := hxB
                    clear hxA hxB
                    cases xA <;> cases xB
                    all_goals
                      go_wp2
                      go_quiet (fail)
                      go_wp2
                      first
                        | exact ⟨⟨p + 1, by omega, by go_num, d.drewN nq, (fun j hj => by
                            by_cases hjp : j = p
                            · rw [hjp, HXA.out, HXB.out]
                            · exact heq.out j (by omega))⟩, by simp [intOf]; omega⟩
                        | (go_ret; exact ⟨by rw [HRF.out (fun h => by have h1 := HXA.out; rw [h, HXB.out] at h1; cases h1)]; rfl, Below_dr bb (d.drewN nq)⟩)
                  · obtain rfl : p = ta.blown.length := by omega
                    have y1 : ¬ (ta.blown.length : Int) < (ta.blown.length : Int) := by omega
                    have HEQ2 : Hid (ta.blown = tb.blown) := getD_ext false _ _ N3.out heq.out
                    clear hlt hp heq
                    go_wp2
                    go_ret
                    exact ⟨by rw [HRT.out (St_ext HPG.out HEQ1.out HEQ2.out)]; rfl, Below_dr bb d⟩
      · have e1 : ((ta.pages.length : Int) != (tb.pages.length : Int)) = false := by rw [bne_eq_false_iff_eq]; omega
        have e2 : ((ta.erases.length : Int) != (tb.erases.length : Int)) = false := by rw [bne_eq_false_iff_eq]; omega
        have e3 : ((ta.blown.length : Int) != (tb.blown.length : Int)) = true := by rw [bne_iff_ne]; omega
        have N3 : Hid (¬ ta.blown.length = tb.blown.length) := n3
        clear n1 n2 n3
        go_enter Tryd.func14, Tryd.ntmps14
        go_wp2
        go_ret
        exact ⟨by rw [HRF.out (fun h => N3.out (by rw [h]))]; rfl, bb⟩
    · have e1 : ((ta.pages.length : Int) != (tb.pages.length : Int)) = false := by rw [bne_eq_false_iff_eq]; omega
      have e2 : ((ta.erases.length : Int) != (tb.erases.length : Int)) = true := by rw [bne_iff_ne]; omega
      have N2 : Hid (¬ ta.erases.length = tb.erases.length) := n2
      clear n1 n2
      go_enter Tryd.func14, Tryd.ntmps14
      go_wp2
      go_ret
      exact ⟨by rw [HRF.out (fun h => N2.out (by rw [h]))]; rfl, bb⟩
  · have e1 : ((ta.pages.length : Int) != (tb.pages.length : Int)) = true := by rw [bne_iff_ne]; omega
    have N1 : Hid (¬ ta.pages.length = tb.pages.length) := n1
    clear n1
    go_enter Tryd.func14, Tryd.ntmps14
    go_wp2
    go_ret
    exact ⟨by rw [HRF.out (fun h => N1.out (by rw [h]))]; rfl, bb⟩
end Go.Proofs.YtgpnbiaghokjkaaDoor
