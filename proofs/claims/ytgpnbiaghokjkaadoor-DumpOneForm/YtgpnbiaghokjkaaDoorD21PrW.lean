
import Derived.Test.YtgpnbiaghokjkaaDoorD21Print
/-! Layer 21, the document's answer: Print, its walk. (Printed by tools/gend21.py.) -/
namespace Go.Proofs.YtgpnbiaghokjkaaDoor
open Go.RowKit
set_option linter.unusedVariables false
set_option linter.unusedSimpArgs false
set_option maxRecDepth 100000

theorem k_lfblown : ({ data := #[10, 98, 108, 111, 119, 110] } : ByteArray) = strOf (10#8 :: wBlown) := rfl
set_option maxHeartbeats 4000000 in
theorem r21print_bad (c : Cfg) (v : SV) (t : St) (w : World) (h : StV w v t) (l1 : t.pages.length ≤ 140737488355328) (l2 : t.erases.length ≤ 140737488355328) (l3 : t.blown.length ≤ 140737488355328) (hb : ¬ (c.may = 0 ∧ Fit c t)) :
    Calls Tryd.prog 11 #[.agg c.vals.toArray, .agg (v.vals t).toArray] w fun e w' => e = .returned (.tuple #[.string (strOf []), .int .i64 (if c.may = 0 then 5 else 1)]) ∧ Below w.heap.size w w' := by
  have hlv : c.vals.length = 7 := rfl
  have hls : (v.vals t).length = 3 := rfl
  have hls1 : ∀ u ∈ v.vals t, Value.oneCell' u = true := by intro u hu; simp [SV.vals] at hu; rcases hu with rfl | rfl | rfl <;> rfl
  obtain ⟨W0, hW0⟩ : ∃ W0, W0 = (w.alloc (.cells c.vals.toArray 24)).alloc (.cells (v.vals t).toArray 29) := ⟨_, rfl⟩
  have r0 : Row W0 w.heap.size 24 c.vals := by rw [hW0]; exact (Row.at w 24 _ _ _ rfl rfl).alloc _
  have r1 : Row W0 (w.heap.size + 1) 29 (v.vals t) := by rw [hW0]; exact Row.at _ _ _ _ _ (by simp) rfl
  have bb : Below w.heap.size w W0 := by rw [hW0]; exact ((Below.refl _ _).alloc (Nat.le_refl _) _).alloc (by simp) _
  have HMY : Hid (∀ W, Calls Tryd.prog 21 #[.agg c.vals.toArray] W fun e w' => e = .returned (.bool (decide (c.may = 0))) ∧ Below W.heap.size W w') := fun W => r21may_any c W
  have HR0 : Hid (Row W0 w.heap.size 24 c.vals) := r0
  have HR1 : Hid (Row W0 (w.heap.size + 1) 29 (v.vals t)) := r1
  by_cases hm : c.may = 0
  · rw [if_pos hm]
    have hf : ¬ Fit c t := fun hh => hb ⟨hm, hh⟩
    have HFT : Hid (∀ W, Below w.heap.size w W → Calls Tryd.prog 22 #[.agg c.vals.toArray, .agg (v.vals t).toArray] W fun e w' => e = .returned (.bool false) ∧ Below W.heap.size W w') := fun W hW => r21fits_any c v t W (h.below hW (Nat.le_refl _)) hm l1 l2 l3 false ⟨fun e => (by cases e), fun e => absurd e hf⟩
    rw [decide_eq_true hm] at HMY
    generalize c.vals = CV at *
    generalize v.vals t = SV' at *
    clear h hb hf hls1
    go_enter Tryd.func11, Tryd.ntmps11
    go_upto_region 1 with fail
    rw [← hW0]
    clear hW0
    go_wp2_with (refine wpList_load_Row rfl 24 _ rfl _ _ CV r0 rfl _ Tryd.underlying24 rfl (by rw [hlv]; kernel_rfl) ?_)
    refine (HMY.out _).mono ?_
    rintro e w1 ⟨rfl, hb1⟩
    dsimp only
    have q0 := HR0.out.below hb1 HR0.out.lt
    have q1 := HR1.out.below hb1 HR1.out.lt
    have bb1 : Below w.heap.size w w1 := bb.trans (hb1.mono bb.size)
    clear r0 r1
    go_wp2_with (first | (refine wpList_load_Row rfl 24 _ rfl _ _ CV q0 rfl _ Tryd.underlying24 rfl (by rw [hlv]; kernel_rfl) ?_) | (refine wpList_load_Row rfl 29 _ rfl _ _ SV' q1 rfl _ Tryd.underlying29 rfl (by rw [hls]; kernel_rfl) ?_))
    refine (HFT.out _ bb1).mono ?_
    rintro e w2 ⟨rfl, hb2⟩
    dsimp only
    go_wp2
    go_ret2
    exact ⟨rfl, bb1.trans (hb2.mono bb1.size)⟩
  · rw [if_neg hm]
    rw [decide_eq_false hm] at HMY
    generalize c.vals = CV at *
    generalize v.vals t = SV' at *
    clear h hb hls1
    go_enter Tryd.func11, Tryd.ntmps11
    go_upto_region 1 with fail
    rw [← hW0]
    clear hW0
    go_wp2_with (refine wpList_load_Row rfl 24 _ rfl _ _ CV r0 rfl _ Tryd.underlying24 rfl (by rw [hlv]; kernel_rfl) ?_)
    refine (HMY.out _).mono ?_
    rintro e w1 ⟨rfl, hb1⟩
    dsimp only
    go_wp2
    go_ret2
    exact ⟨rfl, bb.trans (hb1.mono bb.size)⟩

set_option maxHeartbeats 8000000 in
theorem r21print_ok (c : Cfg) (v : SV) (t : St) (w : World) (h : StV w v t) (hm : c.may = 0) (hf : Fit c t) (he63 : ∀ e ∈ t.erases, e < 9223372036854775808) :
    Calls Tryd.prog 11 #[.agg c.vals.toArray, .agg (v.vals t).toArray] w fun e w' => e = .returned (.tuple #[.string (strOf (printL c t)), .int .i64 0]) ∧ Below w.heap.size w w' := by
  obtain ⟨m1, m2, m3, m4, m5, m6, m7⟩ := may_all hm
  obtain ⟨f1, f2, f3, f4⟩ := hf
  have hprod : 1 ≤ c.slots * c.fuses ∧ c.slots * c.fuses ≤ 512 := ⟨by
    have := Int.mul_le_mul m1.1 m3.1 (by omega) (by omega); omega, by
    have := Int.mul_le_mul m1.2 m3.2 (by omega) (by omega); omega⟩
  have lP : t.pages.length ≤ 130 := by omega
  have lE : t.erases.length = t.pages.length := by omega
  have HLE : Hid (t.erases.length = t.pages.length) := lE
  have lB : t.blown.length ≤ 1000 := by omega
  obtain ⟨C, hC⟩ : ∃ C : Nat, c.cells = (C : Int) := Int.eq_ofNat_of_zero_le (by omega)
  have hC256 : C ≤ 256 := by omega
  have hC4 : 4 ≤ C := by omega
  have HG : Hid (∀ p, p < t.pages.length → (t.pages.getD p []).length = C ∧ 0 ≤ t.erases.getD p 0 ∧ t.erases.getD p 0 < 9223372036854775808 ∧ ∀ i, i < C → ((t.pages.getD p []).getD i []).length = 32) := fun p hp => by
    have h1 := f4 p hp
    have hgl : (t.pages.getD p []).length = C := by omega
    refine ⟨hgl, h1.2, ?_, fun i hi => ?_⟩
    · rw [List.getD_eq_getElem?_getD, List.getElem?_eq_getElem (by omega)]
      exact he63 _ (List.getElem_mem _)
    · exact h.by8 _ (getD_mem' _ _ _ hp) _ (getD_mem' _ _ _ (by omega))
  have HPT : Hid (∀ i, (preT c t.blown i).length ≤ 30000000) := fun i => preT_len c hm t.blown (by omega) i
  have HPG : Hid (∀ p, (pagT c t p).length ≤ 40000000) := fun p => by
    have h1 := HPT.out t.blown.length
    have h2 := pagesL_len C hC256 (t.pages.take p) t.erases 0 (by rw [List.length_take]; omega) he63 (fun g hg => by
      have hg' := List.mem_of_mem_take hg
      obtain ⟨i, hi, e⟩ := List.mem_iff_getElem.1 hg'
      have h3 := HG.out i hi
      have e2 : t.pages.getD i [] = g := by rw [List.getD_eq_getElem?_getD, List.getElem?_eq_getElem hi, e]; rfl
      rw [e2] at h3
      exact ⟨h3.1, h.by8 g hg'⟩)
    rw [List.length_take] at h2
    show (pagT c t p).length ≤ _
    unfold pagT
    simp only [List.length_append, List.length_cons, List.length_nil]
    omega
  have HCT : Hid (∀ p i, p < t.pages.length → (celT c t p i).length ≤ 41000000) := fun p i hp => by
    have h1 := HPG.out p
    obtain ⟨g1, g2, g3, g4⟩ := HG.out p hp
    have h2 := headL_len p (t.erases.getD p 0) (by omega) g3
    have h3 := cellsL_len ((t.pages.getD p []).take i) 0 (by rw [List.length_take]; omega) (fun x hx => h.by8 _ (getD_mem' _ _ _ hp) x (List.mem_of_mem_take hx))
    rw [List.length_take] at h3
    show (celT c t p i).length ≤ _
    unfold celT
    simp only [List.length_append]
    omega
  have HTS : Hid (∀ i, i < t.blown.length → preT c t.blown (i + 1) = preT c t.blown i ++ (if t.blown.getD i false then 32#8 :: num i else [])) := fun i hi => by
    show _ = _
    unfold preT
    rw [trues_step _ _ hi]
    simp only [List.append_assoc]
  have HEND : Hid (pagT c t t.pages.length = printL c t) := pagT_end c t
  have HPN : Hid (∀ p, p < t.pages.length → celT c t p C = pagT c t (p + 1)) := fun p hp => by
    have := pagT_next c t p hp
    rw [(HG.out p hp).1] at this
    exact this
  have HCN : Hid (∀ p i, p < t.pages.length → i < C → celT c t p (i + 1) = celT c t p i ++ (if (t.pages.getD p []).getD i [] = List.replicate 32 255#8 then [] else cellL i ((t.pages.getD p []).getD i []))) := fun p i hp hi => celT_next c t p i (by rw [(HG.out p hp).1]; exact hi)
  have HC0 : Hid (∀ p, celT c t p 0 = pagT c t p ++ headL p (t.erases.getD p 0)) := fun p => celT_zero c t p
  have HP0 : Hid (preT c t.blown t.blown.length ++ [10#8] = pagT c t 0) := by
    show _ = _
    unfold pagT
    rw [List.take_zero, pagesL, List.append_nil]
  have HPZ : Hid (preT c t.blown 0 = wChip ++ numsL c.nums ++ (10#8 :: wBlown)) := by
    show _ = _
    unfold preT
    rw [List.take_zero, trues, show numsL [] = [] from rfl, List.append_nil]
    simp [List.append_assoc]
  have hlv : c.vals.length = 7 := rfl
  have HV0 : Hid (c.vals[0]? = some (.int .i64 (C : Int))) := by rw [← hC]; exact rfl
  have HMY : Hid (∀ W, Calls Tryd.prog 21 #[.agg c.vals.toArray] W fun e w' => e = .returned (.bool true) ∧ Below W.heap.size W w') := fun W => by
    have := r21may_any c W
    rw [decide_eq_true hm] at this
    exact this
  have HFT : Hid (∀ W, Below w.heap.size w W → Calls Tryd.prog 22 #[.agg c.vals.toArray, .agg (v.vals t).toArray] W fun e w' => e = .returned (.bool true) ∧ Below W.heap.size W w') := fun W hW => r21fits_any c v t W (h.below hW (Nat.le_refl _)) hm (by omega) (by omega) (by omega) true ⟨fun _ => ⟨f1, f2, f3, f4⟩, fun _ => rfl⟩
  have HFI : Hid (∀ W, Calls Tryd.prog 23 #[.agg c.vals.toArray] W fun e w' => e = .returned (.string (strOf (wChip ++ numsL c.nums))) ∧ Below W.heap.size W w') := fun W => r21first_any c hm W
  have HNU : Hid (∀ (W : World) (n : Nat), n < 9223372036854775808 → Calls Tryd.prog 24 #[.int .i64 (n : Int)] W fun e w' => e = .returned (.string (strOf (num n))) ∧ Below W.heap.size W w') := fun W n hn => r21number_any n W hn
  have HBK : Hid (∀ (W : World) (x : List By), x.length = 32 → Calls Tryd.prog 25 #[.agg (x.map B8).toArray] W fun e w' => e = .returned (.bool (decide (x = List.replicate 32 255#8))) ∧ Below W.heap.size W w') := fun W x hx => r21blank_any x hx W
  have HBY : Hid (∀ (W : World) (x : List By), x.length = 32 → Calls Tryd.prog 26 #[.agg (x.map B8).toArray] W fun e w' => e = .returned (.string (strOf (hexC x))) ∧ Below W.heap.size W w') := fun W x hx => r21bytes_any x hx W
  have HV : Hid (∀ W, Below w.heap.size w W → StV W v t) := fun W hW => h.below hW (Nat.le_refl _)
  have hfl := numsL_len c.nums (fun n hn => by have := (cfg_of_nums hm).2 n hn; omega)
  have hnl : c.nums.length = 7 := rfl
  have sa0 : ∀ W : World, (Op.stringOp .add (strOf (wChip ++ numsL c.nums)) { data := #[10, 98, 108, 111, 119, 110] }).run Tryd.prog W = .ok (.string (strOf (preT c t.blown 0))) W := fun W => by
    rw [k_lfblown, str_add _ _ (by rw [List.length_append]; show 4 + _ + 6 ≤ _; omega) W, HPZ.out]
  obtain ⟨W0, hW0⟩ : ∃ W0, W0 = (w.alloc (.cells c.vals.toArray 24)).alloc (.cells (v.vals t).toArray 29) := ⟨_, rfl⟩
  have r0 : Row W0 w.heap.size 24 c.vals := by rw [hW0]; exact (Row.at w 24 _ _ _ rfl rfl).alloc _
  have r1 : Row W0 (w.heap.size + 1) 29 (v.vals t) := by rw [hW0]; exact Row.at _ _ _ _ _ (by simp) rfl
  have bb : Below w.heap.size w W0 := by rw [hW0]; exact ((Below.refl _ _).alloc (Nat.le_refl _) _).alloc (by simp) _
  have HR0 : Hid (Row W0 w.heap.size 24 c.vals) := r0
  have HR1 : Hid (Row W0 (w.heap.size + 1) 29 (v.vals t)) := r1
  have hls : (v.vals t).length = 3 := rfl
  have HS0 : Hid ((v.vals t)[0]? = some (.slice v.po t.pages.length v.pc) ∧ (v.vals t)[1]? = some (.slice v.eo t.erases.length v.ec) ∧ (v.vals t)[2]? = some (.slice v.bo t.blown.length v.bc)) := ⟨rfl, rfl, rfl⟩
  rw [← HEND.out]
  clear lE h hm f1 f2 f3 f4 m1 m2 m3 m4 m5 m6 m7 hprod hC he63 hfl hnl HPZ HEND
  generalize c.vals = CV at *
  generalize v.vals t = SV' at *
  generalize strOf (wChip ++ numsL c.nums) = SF at *
  go_enter Tryd.func11, Tryd.ntmps11
  go_upto_region 1 with fail
  rw [← hW0]
  clear hW0
  go_wp2_with (refine wpList_load_Row rfl 24 _ rfl _ _ CV r0 rfl _ Tryd.underlying24 rfl (by rw [hlv]; kernel_rfl) ?_)
  refine (HMY.out _).mono ?_
  rintro e w1 ⟨rfl, hb1⟩
  dsimp only
  have q0 := HR0.out.below hb1 HR0.out.lt
  have q1 := HR1.out.below hb1 HR1.out.lt
  have bb1 : Below w.heap.size w w1 := bb.trans (hb1.mono bb.size)
  have HQ0 : Hid (Row w1 w.heap.size 24 CV) := q0
  have HQ1 : Hid (Row w1 (w.heap.size + 1) 29 SV') := q1
  clear r0 r1 bb hb1 HR0 HR1 HMY
  go_wp2_with (first | (refine wpList_load_Row rfl 24 _ rfl _ _ CV q0 rfl _ Tryd.underlying24 rfl (by rw [hlv]; kernel_rfl) ?_) | (refine wpList_load_Row rfl 29 _ rfl _ _ SV' q1 rfl _ Tryd.underlying29 rfl (by rw [hls]; kernel_rfl) ?_))
  refine (HFT.out _ bb1).mono ?_
  rintro e w0 ⟨rfl, hb2⟩
  dsimp only
  have HW0 : Hid (Below w.heap.size w w0) := bb1.trans (hb2.mono bb1.size)
  have HX0 : Hid (Row w0 w.heap.size 24 CV) := HQ0.out.below hb2 HQ0.out.lt
  have HX1 : Hid (Row w0 (w.heap.size + 1) 29 SV') := HQ1.out.below hb2 HQ1.out.lt
  clear q0 q1 bb1 hb2 HQ0 HQ1 HFT
  have HWW : Hid (∀ W, Below w0.heap.size w0 W → Below w.heap.size w W) := fun W hW => HW0.out.trans (hW.mono HW0.out.size)
  have HVV : Hid (∀ W, Below w0.heap.size w0 W → StV W v t) := fun W hW => HV.out W (HWW.out W hW)
  have HCC : Hid (∀ W, Below w0.heap.size w0 W → Row W w.heap.size 24 CV ∧ W.cell? ⟨w.heap.size, 0, none⟩ = some (.int .i64 (C : Int)) ∧ W.cell? ⟨w.heap.size + 1, 0, none⟩ = some (.slice v.po t.pages.length v.pc) ∧ W.cell? ⟨w.heap.size + 1, 1, none⟩ = some (.slice v.eo t.erases.length v.ec) ∧ W.cell? ⟨w.heap.size + 1, 2, none⟩ = some (.slice v.bo t.blown.length v.bc)) := fun W hW => by
    have a0 := HX0.out.below hW HX0.out.lt
    have a1 := HX1.out.below hW HX1.out.lt
    exact ⟨a0, a0.cell 0 _ HV0.out, a1.cell 0 _ HS0.out.1, a1.cell 1 _ HS0.out.2.1, a1.cell 2 _ HS0.out.2.2⟩
  have HO0 : Hid (Own w0.heap.size (w0.alloc (.cells #[] 5)) (.slice (some ⟨w0.heap.size, 0, none⟩) 0 0) []) := own_empty _ w0 (Nat.le_refl _) #[] rfl
  have HB0 : Hid (Below w0.heap.size w0 (w0.alloc (.cells #[] 5))) := (Below.refl _ _).alloc (Nat.le_refl _) _
  have r2 := (HCC.out _ HB0.out).1
  clear HW0 HX0 HX1 HV HV0 HS0
  generalize hGC : w.heap.size = GC at *
  generalize hN : w0.heap.size = N at *
  go_wp2_with (refine wpList_load_Row rfl 24 _ rfl _ _ CV r2 rfl _ Tryd.underlying24 rfl (by rw [hlv]; kernel_rfl) ?_)
  refine (HFI.out _).mono ?_
  rintro e w3 ⟨rfl, hb3⟩
  dsimp only
  have HB3 : Hid (Below N w0 w3) := HB0.out.trans (hb3.mono (by have := HO0.out.2; omega))
  have HO3 : Hid (Own N w3 (.slice (some ⟨N, 0, none⟩) 0 0) []) := HO0.out.keep hb3
  clear hb3 r2 HB0 HO0 HFI
  have hp0 := HPT.out 0
  go_wp2_with (at_builtin; refine wpList_append_str rfl (.tmp 18) (.tmp 21) rfl N w0 (some ⟨N, 0, none⟩) 0 0 [] rfl rfl HO3.out HB3.out _ rfl (preT c t.blown 0) (strCells_of _) _ rfl (by omega) ?_; intro ao4 c4 w4 ho4 hb4)
  have HO4 : Hid (Own N w4 (.slice ao4 (preT c t.blown 0).length c4) (preT c t.blown 0)) := by
    rw [Nat.zero_add, List.nil_append] at ho4
    exact ho4
  have HB4 : Hid (Below N w0 w4) := hb4
  clear ho4 hb4 HO3 HB3 sa0 hp0
  try rw [Nat.zero_add]
  go_loopw [6, 7] (fun bv iv wr => ∃ (i : Nat) (ao : Option Addr) (cc : Nat), i ≤ t.blown.length ∧ iv = .int .i64 i ∧ bv = .slice ao (preT c t.blown i).length cc ∧ Hid (Own N wr (.slice ao (preT c t.blown i).length cc) (preT c t.blown i)) ∧ Hid (Below N w0 wr)) (fun _ iv _ => t.blown.length - (intOf iv).toNat)
  case atStart => exact ⟨0, ao4, c4, by omega, rfl, rfl, HO4, HB4⟩
  case round =>
    clear HO4 HB4
    obtain ⟨i, ao, cc, hi, rfl, rfl, HO, HB⟩ := hrel
    obtain ⟨_, _, _, _, d2⟩ := HCC.out _ HB.out
    by_cases hlt : i < t.blown.length
    · have y0 : (0 : Int) ≤ (i : Int) := by omega
      have y1 : (i : Int) < (t.blown.length : Int) := by omega
      obtain ⟨BB, oB, eB, cB⟩ := (HVV.out wr HB.out).bl.cell i (Value.bool (t.blown.getD i false)) (by rw [List.getElem?_map, List.getD_eq_getElem?_getD, List.getElem?_eq_getElem hlt]; rfl)
      rw [eB] at d2
      have hn := HTS.out i hlt
      have hpl := HPT.out i
      have NU := HNU.out wr i (by omega)
      have hnu := num_len (n := i) (by omega)
      have sa : ∀ W : World, (Op.stringOp .add { data := #[32] } (strOf (num i))).run Tryd.prog W = .ok (.string (strOf (32#8 :: num i))) W := fun W => str_add [32#8] _ (by show 1 + _ ≤ _; omega) W
      generalize t.blown.getD i false = b at *
      cases b with
      | false =>
        have HN : Hid (preT c t.blown (i + 1) = preT c t.blown i) := by
          show _ = _
          rw [hn]; simp
        clear hn eB
        go_wp2
        exact ⟨⟨i + 1, ao, cc, by omega, by go_num, by rw [HN.out], by rw [HN.out]; exact HO, HB⟩, by simp [intOf]; omega⟩
      | true =>
        have HN : Hid (preT c t.blown (i + 1) = preT c t.blown i ++ (32#8 :: num i)) := by
          show _ = _
          rw [hn]; simp
        have hl : (32#8 :: num i).length ≤ 20 := by rw [List.length_cons]; omega
        clear hn eB
        go_wp2_with fail
        refine NU.mono ?_
        clear NU
        rintro e w5 ⟨rfl, hb5⟩
        dsimp only
        have HO5 : Hid (Own N w5 (.slice ao (preT c t.blown i).length cc) (preT c t.blown i)) := HO.out.keep hb5
        have HB5 : Hid (Below N w0 w5) := HB.out.trans (hb5.mono HO.out.2)
        clear hb5 HO HB cB d2
        go_wp2_with (at_builtin; refine wpList_append_str rfl (.tmp 35) (.tmp 38) rfl N w0 ao _ cc (preT c t.blown i) rfl rfl HO5.out HB5.out _ rfl (32#8 :: num i) (strCells_of _) _ rfl (by omega) ?_; intro ao6 c6 w6 ho6 hb6)
        exact ⟨⟨i + 1, ao6, c6, by omega, by go_num, (by rw [HN.out, List.length_append]; rfl), by rw [HN.out, List.length_append]; exact ho6, hb6⟩, by simp [intOf]; omega⟩
    · obtain rfl : i = t.blown.length := by omega
      have hpl := HPT.out t.blown.length
      have HB5 : Hid (Below N w0 (wr.alloc (.cells #[.int .u8 10] 5))) := HB.out.alloc HO.out.2 _
      have HO5 : Hid (Own N (wr.alloc (.cells #[.int .u8 10] 5)) (.slice ao (preT c t.blown t.blown.length).length cc) (preT c t.blown t.blown.length)) := HO.out.keep ((Below.refl _ _).alloc (Nat.le_refl _) _)
      have HI5 : Hid (IsB (wr.alloc (.cells #[.int .u8 10] 5)) (some ⟨wr.heap.size, 0, none⟩) [10#8]) := own_IsB (own_one wr.heap.size wr 10#8 (Nat.le_refl _) 10 rfl)
      clear HO HB
      go_wp2_with (at_builtin; refine wpList_append_more rfl (.tmp 40) (.tmp 41) rfl N w0 ao _ cc (preT c t.blown t.blown.length) rfl rfl HO5.out HB5.out (some ⟨wr.heap.size, 0, none⟩) 1 1 [10#8] rfl rfl HI5.out (fun e => by cases e) (by omega) ?_; intro ao6 c6 w6 ho6 hb6)
      have HO6 : Hid (Own N w6 (.slice ao6 (pagT c t 0).length c6) (pagT c t 0)) := by
        show Own _ _ _ _
        rw [← HP0.out, List.length_append]
        exact ho6
      have HB6 : Hid (Below N w0 w6) := hb6
      have HL6 : Hid ((preT c t.blown t.blown.length).length + 1 = (pagT c t 0).length) := by
        show _ = _
        rw [← HP0.out, List.length_append]; rfl
      clear ho6 hb6 HO5 HB5 HI5 hpl d2
      try rw [HL6.out]
      go_loopw [6, 8] (fun bv iv wr => ∃ (p : Nat) (ao : Option Addr) (cc : Nat), p ≤ t.pages.length ∧ iv = .int .i64 p ∧ bv = .slice ao (pagT c t p).length cc ∧ Hid (Own N wr (.slice ao (pagT c t p).length cc) (pagT c t p)) ∧ Hid (Below N w0 wr)) (fun _ iv _ => t.pages.length - (intOf iv).toNat)
      case atStart => exact ⟨0, ao6, c6, by omega, rfl, rfl, HO6, HB6⟩
      case round =>
        clear HO6 HB6 HL6
        obtain ⟨p, ao, cc0, hp, rfl, rfl, HO, HB⟩ := hrel
        obtain ⟨_, _, dP, _, _⟩ := HCC.out _ HB.out
        by_cases hlt : p < t.pages.length
        · have y0 : (0 : Int) ≤ (p : Int) := by omega
          have y1 : (p : Int) < (t.pages.length : Int) := by omega
          have y2 : (p : Int) < (t.erases.length : Int) := by have := HLE.out; omega
          obtain ⟨g1, g2, g3, g4⟩ := HG.out p hlt
          obtain ⟨EB, eo, eE, cE0⟩ := (HVV.out w0 (by rw [← hN]; exact Below.refl _ _)).er.cell p (Value.int .i64 (t.erases.getD p 0)) (by rw [List.getElem?_map, List.getD_eq_getElem?_getD, List.getElem?_eq_getElem (by have := HLE.out; omega)]; rfl)
          obtain ⟨PB, po, qa, qc, eP, cP0, iL0, _⟩ := (HVV.out w0 (by rw [← hN]; exact Below.refl _ _)).page p hlt
          obtain ⟨en, hen⟩ : ∃ en : Nat, t.erases.getD p 0 = (en : Int) := Int.eq_ofNat_of_zero_le g2
          have hen2 : (t.erases.getD p 0).toNat = en := by omega
          have HCS : Hid (∀ W, Below N w0 W → W.cell? ⟨GC + 1, 1, none⟩ = some (.slice (some ⟨EB, eo, none⟩) t.erases.length v.ec) ∧ W.cell? ⟨EB, eo + p, none⟩ = some (.int .i64 (en : Int))) := fun W hW => by
            obtain ⟨_, _, _, d1, _⟩ := HCC.out W hW
            rw [eE] at d1
            have hbl : EB < N := by rw [← hN]; exact World.block_lt_of_cell? _ _ cE0
            refine ⟨d1, ?_⟩
            rw [← hen]
            exact (hW.cell (p := ⟨EB, eo + p, none⟩) hbl).trans cE0
          have hml := HPG.out p
          have hhl := headL_len p (t.erases.getD p 0) (by omega) g3
          have HN1 : Hid (∀ W, Calls Tryd.prog 24 #[.int .i64 (p : Int)] W fun e w' => e = .returned (.string (strOf (num p))) ∧ Below W.heap.size W w') := fun W => HNU.out W p (by omega)
          have HN2 : Hid (∀ W, Calls Tryd.prog 24 #[.int .i64 (en : Int)] W fun e w' => e = .returned (.string (strOf (num en))) ∧ Below W.heap.size W w') := fun W => HNU.out W en (by omega)
          have hn1 := num_len (n := p) (by omega)
          have hn2 := num_len (n := en) (by omega)
          have HS1 : Hid (∀ W : World, (Op.stringOp .add { data := #[112, 97, 103, 101, 32] } (strOf (num p))).run Tryd.prog W = .ok (.string (strOf (wPage ++ [32#8] ++ num p))) W) := fun W => str_add (wPage ++ [32#8]) _ (by show 5 + _ ≤ _; omega) W
          have HS2 : Hid (∀ W : World, (Op.stringOp .add (strOf (wPage ++ [32#8] ++ num p)) { data := #[32] }).run Tryd.prog W = .ok (.string (strOf (wPage ++ [32#8] ++ num p ++ [32#8]))) W) := fun W => str_add _ [32#8] (by rw [List.length_append]; show 5 + _ + 1 ≤ _; omega) W
          have HS3 : Hid (∀ W : World, (Op.stringOp .add (strOf (wPage ++ [32#8] ++ num p ++ [32#8])) (strOf (num en))).run Tryd.prog W = .ok (.string (strOf (wPage ++ [32#8] ++ num p ++ [32#8] ++ num en))) W) := fun W => str_add _ _ (by rw [List.length_append, List.length_append]; show 5 + _ + 1 + _ ≤ _; omega) W
          have HS4 : Hid (∀ W : World, (Op.stringOp .add (strOf (wPage ++ [32#8] ++ num p ++ [32#8] ++ num en)) { data := #[10] }).run Tryd.prog W = .ok (.string (strOf (headL p (t.erases.getD p 0)))) W) := fun W => by
            rw [k_lf, str_add _ [10#8] (by rw [List.length_append, List.length_append, List.length_append]; show 5 + _ + 1 + _ + 1 ≤ _; omega) W]
            unfold headL
            rw [hen2]
            simp [List.append_assoc]
          have HC0p := HC0.out p
          have HBL : Hid ((pagT c t p).length + (headL p (t.erases.getD p 0)).length ≤ 140737488353280) := by show _ ≤ _; omega
          obtain ⟨QB, qo, hqa, hQ⟩ : ∃ QB qo, qa = some ⟨QB, qo, none⟩ ∧ ∀ j u, ((t.pages.getD p []).flatten.map B8)[j]? = some u → w0.cell? ⟨QB, qo + j, none⟩ = some u := by
            rcases iL0 with h0 | h0
            · have h1 := congrArg List.length h0
              rw [List.length_map, flat_len _ (fun x hx => by
                obtain ⟨k, hk, e⟩ := List.mem_iff_getElem.1 hx
                have := g4 k (by omega)
                rw [List.getD_eq_getElem?_getD, List.getElem?_eq_getElem hk, e] at this
                exact this), g1] at h1
              simp at h1
              omega
            · exact h0
          subst hqa
          have HCP : Hid (∀ W, Below N w0 W → W.cell? ⟨GC + 1, 0, none⟩ = some (.slice (some ⟨PB, po, none⟩) t.pages.length v.pc) ∧ W.cell? ⟨PB, po + p, none⟩ = some (.slice (some ⟨QB, qo, none⟩) C qc) ∧ W.cell? ⟨GC, 0, none⟩ = some (.int .i64 (C : Int))) := fun W hW => by
            obtain ⟨_, dc, d0, _, _⟩ := HCC.out W hW
            rw [eP] at d0
            have hbl : PB < N := by rw [← hN]; exact World.block_lt_of_cell? _ _ cP0
            refine ⟨d0, ?_, dc⟩
            rw [← g1]
            exact (hW.cell (p := ⟨PB, po + p, none⟩) hbl).trans cP0
          have HRG : Hid (∀ W i, Below N w0 W → i < C → W.rangeAt QB (qo + i * 32) (((t.pages.getD p []).getD i []).map B8)) := fun W i hW hi j u hu => by
            have hj : j < 32 := by
              have := (List.getElem?_eq_some_iff.1 hu).1
              rw [List.length_map, g4 i hi] at this
              exact this
            have hall : ∀ x ∈ t.pages.getD p [], x.length = 32 := fun x hx => by
              obtain ⟨k, hk, e⟩ := List.mem_iff_getElem.1 hx
              have := g4 k (by omega)
              rw [List.getD_eq_getElem?_getD, List.getElem?_eq_getElem hk, e] at this
              exact this
            have h1 := flat_get (t.pages.getD p []) hall i j (by omega) hj
            have h2 : ((t.pages.getD p []).flatten.map B8)[32 * i + j]? = some u := by
              rw [List.getElem?_map, h1]
              rw [List.getElem?_map] at hu
              rw [← hu, List.getD_eq_getElem?_getD (l := (t.pages.getD p []).getD i []), List.getElem?_eq_getElem (by rw [g4 i hi]; exact hj)]; rfl
            have h3 := hQ _ _ h2
            have hbl : QB < N := by rw [← hN]; exact World.block_lt_of_cell? _ _ h3
            have h4 := (hW.cell (p := ⟨QB, qo + (32 * i + j), none⟩) hbl).trans h3
            rw [show qo + i * 32 + j = qo + (32 * i + j) by omega]
            exact h4
          have HG4 : Hid (∀ i, i < C → ((t.pages.getD p []).getD i []).length = 32) := g4
          have HPNp := HPN.out p hlt
          have HCNp : Hid (∀ i, i < C → celT c t p (i + 1) = celT c t p i ++ (if (t.pages.getD p []).getD i [] = List.replicate 32 255#8 then [] else cellL i ((t.pages.getD p []).getD i []))) := fun i hi => HCN.out p i hlt hi
          have HCTp : Hid (∀ i, (celT c t p i).length ≤ 41000000) := fun i => HCT.out p i hlt
          obtain ⟨dP2, _, _⟩ := HCP.out _ HB.out
          clear hQ iL0 cP0 cE0 eE eP hen hen2 g1 g2 g3 g4 hml hhl hn1 hn2 dP
          generalize strOf (wPage ++ [32#8] ++ num p ++ [32#8] ++ num en) = S61 at *
          generalize strOf (wPage ++ [32#8] ++ num p ++ [32#8]) = S54 at *
          generalize strOf (wPage ++ [32#8] ++ num p) = S53 at *
          generalize strOf (num p) = S52 at *
          generalize strOf (num en) = S60 at *
          obtain ⟨wo, hwo⟩ : ∃ wo, wo = wr := ⟨wr, rfl⟩
          subst hwo
          go_wp2_with fail
          refine wp_region_inv (IPr16 wo N w0 ao (pagT c t p).length cc0 (pagT c t p) (headL p (t.erases.getD p 0)) (GC + 1) EB eo t.erases.length v.ec p en S52 S53 S54 S60 S61 _ _ _ _ _ _ _ _ _ _ _ _ _ _ _ _ _ _ _ _ _ _ _ _ _ _ _ _ _ _ _ _ _ _ _ _ _ _ _ _ _ _ _ _ _ _ _ _ _ _ _ _ _ _ _ _ _ _ _ _ _ _ _ _ _ _ _ _ _ _ _ _ _ _ _ _ _ _ _ _ _ _ _ _) (by kernel_rfl) (by kernel_rfl) ⟨_, _, _, _, _, _, _, _, _, _, _, _, _, _, _, rfl, ⟨ApS.zero (Below_dr HB.out ⟨1, rfl⟩) (HO.out.keep (Below.refl _ _).drew), fun k => (by cases k), fun k => (by cases k), fun k => (by cases k), fun k => (by cases k), fun k => (by cases k), fun k => (by cases k), fun k => (by cases k), fun k => (by cases k), fun k => (by cases k), fun k => (by cases k), fun k => (by cases k), fun k => (by cases k), fun k => (by cases k), fun k => (by cases k)⟩⟩ ?_ ?_
          · refine .cons ?_ (.cons ?_ (.cons ?_ (.cons ?_ (.cons ?_ (.cons ?_ (.cons ?_ (.cons ?_ (.cons ?_ (.cons ?_ (.cons ?_ (.cons ?_ (.cons ?_ (.cons ?_ (.cons ?_ .nil))))))))))))))
            all_goals (rintro L _ W ⟨x50, x51, x52, x53, x54, x55, x56, x57, x58, x59, x60, x61, x62, x63, x6, rfl, hI⟩ hL hd K hK)
            · rw [if_pos (by rfl)]
              have ha : L 13 = false := ff hI.c13_0 hL
              have e3 := hI.x.z (ff hI.x.c ha)
              subst e3
              go_simp
              exact hK.out _ _ ⟨_, _, _, _, _, _, _, _, _, _, _, _, _, _, _, rfl, { hI with p0 := fun _ => rfl, c13_0 := fun _ => rfl }⟩
            · rw [if_pos (by rfl)]
              go_simp
              exact hK.out _ _ ⟨_, _, _, _, _, _, _, _, _, _, _, _, _, _, _, rfl, { hI with p1 := fun _ => rfl }⟩
            · obtain rfl := hI.p1 (hd 1 (by decide))
              rw [if_pos (by rfl)]
              go_simp
              refine (HN1.out W).mono ?_
              rintro e W2 ⟨rfl, hb3⟩
              go_simp
              exact hK.out _ _ ⟨_, _, _, _, _, _, _, _, _, _, _, _, _, _, _, rfl, { hI with x := (hI.x.call hb3), p2 := fun _ => rfl }⟩
            · obtain rfl := hI.p2 (hd 2 (by decide))
              rw [if_pos (by rfl)]
              have hs := HS1.out
              go_simp
              exact hK.out _ _ ⟨_, _, _, _, _, _, _, _, _, _, _, _, _, _, _, rfl, { hI with p3 := fun _ => rfl }⟩
            · obtain rfl := hI.p3 (hd 3 (by decide))
              rw [if_pos (by rfl)]
              have hs := HS2.out
              go_simp
              exact hK.out _ _ ⟨_, _, _, _, _, _, _, _, _, _, _, _, _, _, _, rfl, { hI with p4 := fun _ => rfl }⟩
            · rw [if_pos (by rfl)]
              go_simp
              exact hK.out _ _ ⟨_, _, _, _, _, _, _, _, _, _, _, _, _, _, _, rfl, { hI with p5 := fun _ => rfl }⟩
            · obtain rfl := hI.p5 (hd 5 (by decide))
              rw [if_pos (by rfl)]
              have hc := (HCS.out _ hI.x.bel).1
              go_simp
              exact hK.out _ _ ⟨_, _, _, _, _, _, _, _, _, _, _, _, _, _, _, rfl, { hI with p6 := fun _ => rfl }⟩
            · rw [if_pos (by rfl)]
              go_simp
              exact hK.out _ _ ⟨_, _, _, _, _, _, _, _, _, _, _, _, _, _, _, rfl, { hI with p7 := fun _ => rfl }⟩
            · obtain rfl := hI.p6 (hd 6 (by decide))
              obtain rfl := hI.p7 (hd 7 (by decide))
              rw [if_pos (by rfl)]
              go_simp
              exact hK.out _ _ ⟨_, _, _, _, _, _, _, _, _, _, _, _, _, _, _, rfl, { hI with p8 := fun _ => rfl }⟩
            · obtain rfl := hI.p8 (hd 8 (by decide))
              rw [if_pos (by rfl)]
              have hc := (HCS.out _ hI.x.bel).2
              go_simp
              exact hK.out _ _ ⟨_, _, _, _, _, _, _, _, _, _, _, _, _, _, _, rfl, { hI with p9 := fun _ => rfl }⟩
            · obtain rfl := hI.p9 (hd 9 (by decide))
              rw [if_pos (by rfl)]
              go_simp
              refine (HN2.out W).mono ?_
              rintro e W2 ⟨rfl, hb3⟩
              go_simp
              exact hK.out _ _ ⟨_, _, _, _, _, _, _, _, _, _, _, _, _, _, _, rfl, { hI with x := (hI.x.call hb3), p10 := fun _ => rfl }⟩
            · obtain rfl := hI.p4 (hd 4 (by decide))
              obtain rfl := hI.p10 (hd 10 (by decide))
              rw [if_pos (by rfl)]
              have hs := HS3.out
              go_simp
              exact hK.out _ _ ⟨_, _, _, _, _, _, _, _, _, _, _, _, _, _, _, rfl, { hI with p11 := fun _ => rfl }⟩
            · obtain rfl := hI.p11 (hd 11 (by decide))
              rw [if_pos (by rfl)]
              have hs := HS4.out
              go_simp
              exact hK.out _ _ ⟨_, _, _, _, _, _, _, _, _, _, _, _, _, _, _, rfl, { hI with p12 := fun _ => rfl }⟩
            · obtain rfl := hI.p0 (hd 0 (by decide))
              obtain rfl := hI.p12 (hd 12 (by decide))
              have h14 := ff hI.x.c hL
              refine step_append_str rfl (.tmp 50) (.tmp 62) rfl N w0 ao _ cc0 _ rfl rfl (hI.x.o hL) hI.x.bel _ rfl _ rfl HBL.out ?_
              intro ao7 c7 W2 ho7 hb7
              have hX := hI.x.app hL h14 ho7 hb7
              exact hK.out _ _ ⟨_, _, _, _, _, _, _, _, _, _, _, _, _, _, _, rfl, { hI with x := hX, c13_0 := fun _ => (hd 0 (by decide)) }⟩
            · have hL0 := (hI.c13_0 (hd 13 (by decide)))
              rw [if_pos (by rfl)]
              have hX := hI.x.fin (hd 13 (by decide))
              go_simp
              exact hK.out _ _ ⟨_, _, _, _, _, _, _, _, _, _, _, _, _, _, _, rfl, { hI with x := hX }⟩
          · rintro L _ W hall ⟨x50, x51, x52, x53, x54, x55, x56, x57, x58, x59, x60, x61, x62, x63, x6, rfl, hI⟩
            obtain rfl := hI.p0 (hall 0 (by decide))
            obtain rfl := hI.p1 (hall 1 (by decide))
            obtain rfl := hI.p2 (hall 2 (by decide))
            obtain rfl := hI.p3 (hall 3 (by decide))
            obtain rfl := hI.p4 (hall 4 (by decide))
            obtain rfl := hI.p5 (hall 5 (by decide))
            obtain rfl := hI.p6 (hall 6 (by decide))
            obtain rfl := hI.p7 (hall 7 (by decide))
            obtain rfl := hI.p8 (hall 8 (by decide))
            obtain rfl := hI.p9 (hall 9 (by decide))
            obtain rfl := hI.p10 (hall 10 (by decide))
            obtain rfl := hI.p11 (hall 11 (by decide))
            obtain rfl := hI.p12 (hall 12 (by decide))
            have hXe := hI.x
            rw [hall 13 (by decide)] at hXe
            rw [hall 14 (by decide)] at hXe
            clear hI hall
            try dsimp only
            obtain ⟨ao', c', e63, ho⟩ := hXe.r rfl
            have e6 := hXe.f rfl
            have HB2 : Hid (Below N w0 W) := hXe.bel
            subst e6 e63
            have hll : (pagT c t p).length + (headL p (t.erases.getD p 0)).length = (celT c t p 0).length := by rw [HC0p, List.length_append]
            have HO2 : Hid (Own N W (.slice ao' (celT c t p 0).length c') (celT c t p 0)) := by
              show Own _ _ _ _
              rw [← hll, HC0p]; exact ho
            rw [hll]
            clear hXe ho hll HS1 HS2 HS3 HS4 HN1 HN2 HCS HBL HO HB HC0p
            go_wp2
            go_loopw [6, 9] (fun bv iv wr => ∃ (i : Nat) (ao : Option Addr) (cc : Nat), i ≤ C ∧ iv = .int .i64 i ∧ bv = .slice ao (celT c t p i).length cc ∧ Hid (Own N wr (.slice ao (celT c t p i).length cc) (celT c t p i)) ∧ Hid (Below N w0 wr)) (fun _ iv _ => C - (intOf iv).toNat)
            case atStart => exact ⟨0, ao', c', by omega, rfl, rfl, HO2, HB2⟩
            case round =>
              clear HO2 HB2
              obtain ⟨i, ao, cc0, hi, rfl, rfl, HO, HB⟩ := hrel
              obtain ⟨dP, dQ, dC⟩ := HCP.out _ HB.out
              by_cases hli : i < C
              · have z0 : (0 : Int) ≤ (i : Int) := by omega
                have z1 : (i : Int) < (C : Int) := by omega
                have hx := HG4.out i hli
                have rng := HRG.out _ i HB.out hli
                have BK := HBK.out wr _ hx
                have hN2 := HCNp.out i hli
                have hcl := HCTp.out i
                have lx : (((t.pages.getD p []).getD i []).map B8).length = 32 := by rw [List.length_map, hx]
                have HRGi : Hid (∀ W, Below N w0 W → W.rangeAt QB (qo + i * 32) (((t.pages.getD p []).getD i []).map B8)) := fun W hW => HRG.out W i hW hli
                have HN2 : Hid (∀ W, Calls Tryd.prog 26 #[.agg (((t.pages.getD p []).getD i []).map B8).toArray] W fun e w' => e = .returned (.string (strOf (hexC ((t.pages.getD p []).getD i [])))) ∧ Below W.heap.size W w') := fun W => HBY.out W _ hx
                have hcc := cellL_len i ((t.pages.getD p []).getD i []) (by omega) hx
                have hhx := hexC_len ((t.pages.getD p []).getD i [])
                rw [hx] at hhx
                generalize (t.pages.getD p []).getD i [] = X at *
                obtain ⟨wa, hwa⟩ : ∃ wa, wa = wr := ⟨wr, rfl⟩
                subst hwa
                obtain ⟨bk_, hbk⟩ : ∃ b, b = decide (X = List.replicate 32 255#8) := ⟨_, rfl⟩
                rw [← hbk] at BK
                have HBKE : Hid (bk_ = decide (X = List.replicate 32 255#8)) := hbk
                clear hbk
                go_wp2_with (refine wpList_load_mid rfl 56 (.tmp 76) rfl QB (qo + i * 32) rfl (X.map B8) _ rng Tryd.underlying56 rfl (by rw [lx]; kernel_rfl) ?_)
                refine BK.mono ?_
                clear BK
                rintro e wb ⟨rfl, hbb⟩
                dsimp only
                have HOb : Hid (Own N wb (.slice ao (celT c t p i).length cc0) (celT c t p i)) := HO.out.keep hbb
                have HBb : Hid (Below N w0 wb) := HB.out.trans (hbb.mono HO.out.2)
                clear hbb HO HB dP dQ dC rng
                cases bk_ with
                | true =>
                  have hX := of_decide_eq_true HBKE.out.symm
                  have HNN : Hid (celT c t p (i + 1) = celT c t p i) := by
                    show _ = _
                    rw [hN2, if_pos hX, List.append_nil]
                  clear hN2 hX
                  go_wp2
                  refine ⟨⟨_, _, _, _, _, _, _, _, _, _, _, _, _, _, _, _, _, _, _, _, _, _, _, _, _, _, _, _, _, _, _, _, _, _, _, ?_, rfl⟩, by simp [intOf]; omega⟩
                  exact ⟨i + 1, ao, cc0, by omega, by go_num, by rw [HNN.out], by rw [HNN.out]; exact HOb, HBb⟩
                | false =>
                  have hX := of_decide_eq_false HBKE.out.symm
                  have HNN : Hid (celT c t p (i + 1) = celT c t p i ++ cellL i X) := by
                    show _ = _
                    rw [hN2, if_neg hX]
                  clear hN2 hX
                  have HB : Hid (Below N w0 wb) := HBb
                  have HO : Hid (Own N wb (.slice ao (celT c t p i).length cc0) (celT c t p i)) := HOb
                  have HN1 : Hid (∀ W, Calls Tryd.prog 24 #[.int .i64 (i : Int)] W fun e w' => e = .returned (.string (strOf (num i))) ∧ Below W.heap.size W w') := fun W => HNU.out W i (by omega)
                  have hn1 := num_len (n := i) (by omega)
                  have HS1 : Hid (∀ W : World, (Op.stringOp .add { data := #[99, 101, 108, 108, 32] } (strOf (num i))).run Tryd.prog W = .ok (.string (strOf (wCell ++ [32#8] ++ num i))) W) := fun W => str_add (wCell ++ [32#8]) _ (by show 5 + _ ≤ _; omega) W
                  have HS2 : Hid (∀ W : World, (Op.stringOp .add (strOf (wCell ++ [32#8] ++ num i)) { data := #[32] }).run Tryd.prog W = .ok (.string (strOf (wCell ++ [32#8] ++ num i ++ [32#8]))) W) := fun W => str_add _ [32#8] (by rw [List.length_append]; show 5 + _ + 1 ≤ _; omega) W
                  have HS3 : Hid (∀ W : World, (Op.stringOp .add (strOf (wCell ++ [32#8] ++ num i ++ [32#8])) (strOf (hexC X))).run Tryd.prog W = .ok (.string (strOf (wCell ++ [32#8] ++ num i ++ [32#8] ++ hexC X))) W) := fun W => str_add _ _ (by rw [List.length_append, List.length_append]; show 5 + _ + 1 + _ ≤ _; omega) W
                  have HS4 : Hid (∀ W : World, (Op.stringOp .add (strOf (wCell ++ [32#8] ++ num i ++ [32#8] ++ hexC X)) { data := #[10] }).run Tryd.prog W = .ok (.string (strOf (cellL i X))) W) := fun W => by
                    rw [k_lf, str_add _ [10#8] (by rw [List.length_append, List.length_append, List.length_append]; show 5 + _ + 1 + _ + 1 ≤ _; omega) W]
                    unfold cellL
                    simp [List.append_assoc]
                  have HBL : Hid ((celT c t p i).length + (cellL i X).length ≤ 140737488353280) := by show _ ≤ _; omega
                  clear HOb HBb
                  generalize strOf (wCell ++ [32#8] ++ num i ++ [32#8] ++ hexC X) = S61 at *
                  generalize strOf (wCell ++ [32#8] ++ num i ++ [32#8]) = S54 at *
                  generalize strOf (wCell ++ [32#8] ++ num i) = S53 at *
                  generalize strOf (num i) = S52 at *
                  generalize strOf (hexC X) = S60 at *
                  obtain ⟨wa, hwa⟩ : ∃ wa, wa = wb := ⟨wb, rfl⟩
                  subst hwa
                  go_wp2_with fail
                  refine wp_region_inv (IPr21 wa N w0 ao (celT c t p i).length cc0 (celT c t p i) (cellL i X) (GC + 1) PB po t.pages.length v.pc p i QB qo C qc X S52 S53 S54 S60 S61 _ _ _ _ _ _ _ _ _ _ _ _ _ _ _ _ _ _ _ _ _ _ _ _ _ _ _ _ _ _ _ _ _ _ _ _ _ _ _ _ _ _ _ _ _ _ _ _ _ _ _ _ _ _ _ _ _ _ _ _ _ _ _ _ _ _ _ _ _ _ _ _ _ _ _ _ _ _ _ _ _) (by kernel_rfl) (by kernel_rfl) ⟨_, _, _, _, _, _, _, _, _, _, _, _, _, _, _, _, _, _, rfl, ⟨ApS.zero (Below_dr HB.out ⟨1, rfl⟩) (HO.out.keep (Below.refl _ _).drew), fun k => (by cases k), fun k => (by cases k), fun k => (by cases k), fun k => (by cases k), fun k => (by cases k), fun k => (by cases k), fun k => (by cases k), fun k => (by cases k), fun k => (by cases k), fun k => (by cases k), fun k => (by cases k), fun k => (by cases k), fun k => (by cases k), fun k => (by cases k), fun k => (by cases k), fun k => (by cases k), fun k => (by cases k)⟩⟩ ?_ ?_
                  · refine .cons ?_ (.cons ?_ (.cons ?_ (.cons ?_ (.cons ?_ (.cons ?_ (.cons ?_ (.cons ?_ (.cons ?_ (.cons ?_ (.cons ?_ (.cons ?_ (.cons ?_ (.cons ?_ (.cons ?_ (.cons ?_ (.cons ?_ (.cons ?_ .nil)))))))))))))))))
                    all_goals (refine Pr21.step ?_; intro x80 x81 x82 x83 x84 x85 x86 x87 x88 x89 x90 x91 x92 x93 x94 x95 x96 x6 L W hI hL hd K hK)
                    · rw [if_pos (by rfl)]
                      have ha : L 16 = false := ff hI.c16_0 hL
                      have e3 := hI.x.z (ff hI.x.c ha)
                      subst e3
                      go_simp
                      exact hK.out _ _ ⟨_, _, _, _, _, _, _, _, _, _, _, _, _, _, _, _, _, _, rfl, { hI with p0 := fun _ => rfl, c16_0 := fun _ => rfl }⟩
                    · rw [if_pos (by rfl)]
                      go_simp
                      exact hK.out _ _ ⟨_, _, _, _, _, _, _, _, _, _, _, _, _, _, _, _, _, _, rfl, { hI with p1 := fun _ => rfl }⟩
                    · obtain rfl := hI.p1 (hd 1 (by decide))
                      rw [if_pos (by rfl)]
                      go_simp
                      refine (HN1.out W).mono ?_
                      rintro e W2 ⟨rfl, hb3⟩
                      go_simp
                      exact hK.out _ _ ⟨_, _, _, _, _, _, _, _, _, _, _, _, _, _, _, _, _, _, rfl, { hI with x := (hI.x.call hb3), p2 := fun _ => rfl }⟩
                    · obtain rfl := hI.p2 (hd 2 (by decide))
                      rw [if_pos (by rfl)]
                      have hs := HS1.out
                      go_simp
                      exact hK.out _ _ ⟨_, _, _, _, _, _, _, _, _, _, _, _, _, _, _, _, _, _, rfl, { hI with p3 := fun _ => rfl }⟩
                    · obtain rfl := hI.p3 (hd 3 (by decide))
                      rw [if_pos (by rfl)]
                      have hs := HS2.out
                      go_simp
                      exact hK.out _ _ ⟨_, _, _, _, _, _, _, _, _, _, _, _, _, _, _, _, _, _, rfl, { hI with p4 := fun _ => rfl }⟩
                    · rw [if_pos (by rfl)]
                      go_simp
                      exact hK.out _ _ ⟨_, _, _, _, _, _, _, _, _, _, _, _, _, _, _, _, _, _, rfl, { hI with p5 := fun _ => rfl }⟩
                    · obtain rfl := hI.p5 (hd 5 (by decide))
                      rw [if_pos (by rfl)]
                      have hc := (HCP.out _ hI.x.bel).1
                      go_simp
                      exact hK.out _ _ ⟨_, _, _, _, _, _, _, _, _, _, _, _, _, _, _, _, _, _, rfl, { hI with p6 := fun _ => rfl }⟩
                    · rw [if_pos (by rfl)]
                      go_simp
                      exact hK.out _ _ ⟨_, _, _, _, _, _, _, _, _, _, _, _, _, _, _, _, _, _, rfl, { hI with p7 := fun _ => rfl }⟩
                    · obtain rfl := hI.p6 (hd 6 (by decide))
                      obtain rfl := hI.p7 (hd 7 (by decide))
                      rw [if_pos (by rfl)]
                      go_simp
                      exact hK.out _ _ ⟨_, _, _, _, _, _, _, _, _, _, _, _, _, _, _, _, _, _, rfl, { hI with p8 := fun _ => rfl }⟩
                    · obtain rfl := hI.p8 (hd 8 (by decide))
                      rw [if_pos (by rfl)]
                      have hc := (HCP.out _ hI.x.bel).2
                      go_simp
                      exact hK.out _ _ ⟨_, _, _, _, _, _, _, _, _, _, _, _, _, _, _, _, _, _, rfl, { hI with p9 := fun _ => rfl }⟩
                    · rw [if_pos (by rfl)]
                      go_simp
                      exact hK.out _ _ ⟨_, _, _, _, _, _, _, _, _, _, _, _, _, _, _, _, _, _, rfl, { hI with p10 := fun _ => rfl }⟩
                    · obtain rfl := hI.p9 (hd 9 (by decide))
                      obtain rfl := hI.p10 (hd 10 (by decide))
                      rw [if_pos (by rfl)]
                      go_simp
                      exact hK.out _ _ ⟨_, _, _, _, _, _, _, _, _, _, _, _, _, _, _, _, _, _, rfl, { hI with p11 := fun _ => rfl }⟩
                    · obtain rfl := hI.p11 (hd 11 (by decide))
                      refine step_load_rng' (by rfl) 56 _ rfl QB (qo + i * 32) _ (HRGi.out _ hI.x.bel) rfl _ Tryd.underlying56 rfl (by rw [lx]; kernel_rfl) ?_
                      exact hK.out _ _ ⟨_, _, _, _, _, _, _, _, _, _, _, _, _, _, _, _, _, _, rfl, { hI with p12 := fun _ => rfl }⟩
                    · obtain rfl := hI.p12 (hd 12 (by decide))
                      rw [if_pos (by rfl)]
                      go_simp
                      refine (HN2.out W).mono ?_
                      rintro e W2 ⟨rfl, hb3⟩
                      go_simp
                      exact hK.out _ _ ⟨_, _, _, _, _, _, _, _, _, _, _, _, _, _, _, _, _, _, rfl, { hI with x := (hI.x.call hb3), p13 := fun _ => rfl }⟩
                    · obtain rfl := hI.p4 (hd 4 (by decide))
                      obtain rfl := hI.p13 (hd 13 (by decide))
                      rw [if_pos (by rfl)]
                      have hs := HS3.out
                      go_simp
                      exact hK.out _ _ ⟨_, _, _, _, _, _, _, _, _, _, _, _, _, _, _, _, _, _, rfl, { hI with p14 := fun _ => rfl }⟩
                    · obtain rfl := hI.p14 (hd 14 (by decide))
                      rw [if_pos (by rfl)]
                      have hs := HS4.out
                      go_simp
                      exact hK.out _ _ ⟨_, _, _, _, _, _, _, _, _, _, _, _, _, _, _, _, _, _, rfl, { hI with p15 := fun _ => rfl }⟩
                    · obtain rfl := hI.p0 (hd 0 (by decide))
                      obtain rfl := hI.p15 (hd 15 (by decide))
                      have h17 := ff hI.x.c hL
                      refine step_append_str rfl (.tmp 80) (.tmp 95) rfl N w0 ao _ cc0 _ rfl rfl (hI.x.o hL) hI.x.bel _ rfl _ rfl HBL.out ?_
                      intro ao7 c7 W2 ho7 hb7
                      have hX := hI.x.app hL h17 ho7 hb7
                      exact hK.out _ _ ⟨_, _, _, _, _, _, _, _, _, _, _, _, _, _, _, _, _, _, rfl, { hI with x := hX, c16_0 := fun _ => (hd 0 (by decide)) }⟩
                    · have hL0 := (hI.c16_0 (hd 16 (by decide)))
                      rw [if_pos (by rfl)]
                      have hX := hI.x.fin (hd 16 (by decide))
                      go_simp
                      exact hK.out _ _ ⟨_, _, _, _, _, _, _, _, _, _, _, _, _, _, _, _, _, _, rfl, { hI with x := hX }⟩
                  · rintro L _ W hall ⟨x80, x81, x82, x83, x84, x85, x86, x87, x88, x89, x90, x91, x92, x93, x94, x95, x96, x6, rfl, hI⟩
                    obtain rfl := hI.p0 (hall 0 (by decide))
                    obtain rfl := hI.p1 (hall 1 (by decide))
                    obtain rfl := hI.p2 (hall 2 (by decide))
                    obtain rfl := hI.p3 (hall 3 (by decide))
                    obtain rfl := hI.p4 (hall 4 (by decide))
                    obtain rfl := hI.p5 (hall 5 (by decide))
                    obtain rfl := hI.p6 (hall 6 (by decide))
                    obtain rfl := hI.p7 (hall 7 (by decide))
                    obtain rfl := hI.p8 (hall 8 (by decide))
                    obtain rfl := hI.p9 (hall 9 (by decide))
                    obtain rfl := hI.p10 (hall 10 (by decide))
                    obtain rfl := hI.p11 (hall 11 (by decide))
                    obtain rfl := hI.p12 (hall 12 (by decide))
                    obtain rfl := hI.p13 (hall 13 (by decide))
                    obtain rfl := hI.p14 (hall 14 (by decide))
                    obtain rfl := hI.p15 (hall 15 (by decide))
                    have hXe := hI.x
                    rw [hall 16 (by decide)] at hXe
                    rw [hall 17 (by decide)] at hXe
                    clear hI hall
                    try dsimp only
                    obtain ⟨ao', c', e96, ho⟩ := hXe.r rfl
                    have e6 := hXe.f rfl
                    have HB2 : Hid (Below N w0 W) := hXe.bel
                    subst e6 e96
                    have hll : (celT c t p i).length + (cellL i X).length = (celT c t p (i + 1)).length := by rw [HNN.out, List.length_append]
                    have HO2 : Hid (Own N W (.slice ao' (celT c t p (i + 1)).length c') (celT c t p (i + 1))) := by
                      show Own _ _ _ _
                      rw [← hll, HNN.out]; exact ho
                    rw [hll]
                    clear hXe ho hll
                    go_wp2
                    refine ⟨⟨_, _, _, _, _, _, _, _, _, _, _, _, _, _, _, _, _, _, _, _, _, _, _, _, _, _, _, _, _, _, _, _, _, _, _, ?_, rfl⟩, by simp [intOf]; omega⟩
                    exact ⟨i + 1, ao', c', by omega, by go_num, rfl, HO2, HB2⟩
              · obtain rfl : i = C := by omega
                rw [HPNp] at HO ⊢
                go_wp2
                exact ⟨⟨p + 1, ao, cc0, by omega, by go_num, rfl, HO, HB⟩, by simp [intOf]; omega⟩
        · obtain rfl : p = t.pages.length := by omega
          have cv := conv_bytes wr ao _ cc0 _ rfl (own_IsB HO.out)
          have HBF : Hid (Below GC w wr) := HWW.out _ HB.out
          clear HO HB
          obtain ⟨SS, hSS⟩ : ∃ SS, strOf (pagT c t t.pages.length) = SS := ⟨_, rfl⟩
          rw [hSS] at cv
          have HSS : Hid (strOf (pagT c t t.pages.length) = SS) := hSS
          clear hSS
          go_wp2
          go_ret2
          exact ⟨by rw [HSS.out]; rfl, by rw [hGC]; exact HBF.out⟩
end Go.Proofs.YtgpnbiaghokjkaaDoor
