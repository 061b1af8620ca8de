import Derived.Test.YtgpnbiaghokjkaaDoorD21P5
import Derived.Test.YtgpnbiaghokjkaaDoorD21Law
/-! Layer 21, the landed code: textOf, Print. -/
namespace Go.Proofs.YtgpnbiaghokjkaaDoor
open Go.RowKit
set_option linter.unusedVariables false
set_option linter.unusedSimpArgs false
set_option maxRecDepth 100000

theorem cfg_one0 (c : Cfg) : ∀ u ∈ c.vals, Value.oneCell' u = true := by intro u hu; simp [Cfg.vals] at hu; rcases hu with rfl | rfl | rfl | rfl | rfl | rfl | rfl <;> rfl
theorem numAt_own {N : Nat} {w : World} {lo : Option Addr} {n c : Nat} {l : List Nat} (h : w.ownsRow N 3 1 (.slice lo n c) n (l.map nI)) : NumAt w lo l := by
  rcases h.2 with ⟨e, e0⟩ | ⟨g, cap, cur, e, _, hg, _, _, hs, ht⟩
  · left
    have := h.1
    rw [List.length_map, e0] at this
    exact List.eq_nil_of_length_eq_zero (by omega)
  · right
    injection e with e1 _ _
    refine ⟨g, 3, cur.toList, e1, by decide, ?_, fun j k hj => ?_⟩
    · show w.heap[g]? = some (.cells cur.toList.toArray 3 (0, 0))
      rw [Array.toArray_toList]; exact hg
    · have h1 : (l.map nI)[j]? = some (nI k) := by rw [List.getElem?_map, hj]; rfl
      rw [← ht, List.getElem?_take] at h1
      split at h1
      · exact h1
      · cases h1
theorem headL_nums (p en : Nat) (e : Int) (h : e = (en : Int)) : headL p e = wPage ++ numsL [p, en] ++ [10#8] := by
  subst h
  unfold headL numsL
  simp [List.append_assoc]

set_option maxHeartbeats 8000000 in
theorem textOf_any (c : Cfg) (v : SV) (t : St) (w : World) (hq : Tab w) (h : StV w v t) (hm : c.may = 0) (hf : Fit c t) (he63 : ∀ e ∈ t.erases, e < 9223372036854775808) :
    Calls Tryd.prog 20 #[.agg c.vals.toArray, .agg (v.vals t).toArray] w (Wrote w.heap.size w (printL c t)) := by
  obtain ⟨m1, m2, m3, m4, m5, m6, m7⟩ := may_all hm
  obtain ⟨f1, f2, f3, f4⟩ := hf
  have hprod : 1 ≤ c.slots * c.fuses ∧ c.slots * c.fuses ≤ 512 := ⟨by
    have := Int.mul_le_mul m1.1 m3.1 (by omega) (by omega); omega, by
    have := Int.mul_le_mul m1.2 m3.2 (by omega) (by omega); omega⟩
  have lP : t.pages.length ≤ 130 := by omega
  have lE : t.erases.length = t.pages.length := by omega
  have lB : t.blown.length ≤ 1000 := by omega
  obtain ⟨C, hC⟩ : ∃ C : Nat, c.cells = (C : Int) := Int.eq_ofNat_of_zero_le (by omega)
  have hC256 : C ≤ 256 := by omega
  have HG : Hid (∀ p, p < t.pages.length → (t.pages.getD p []).length = C ∧ 0 ≤ t.erases.getD p 0 ∧ t.erases.getD p 0 < 9223372036854775808) := fun p hp => by
    have h1 := f4 p hp
    refine ⟨by omega, h1.2, ?_⟩
    rw [List.getD_eq_getElem?_getD, List.getElem?_eq_getElem (by omega)]
    exact he63 _ (List.getElem_mem _)
  have HPG : Hid (∀ p, (pagT c t p).length ≤ 40000000) := fun p => by
    have h1 := preT_len c hm t.blown (by omega) t.blown.length
    have h2 := pagesL_len C hC256 (t.pages.take p) t.erases 0 (by rw [List.length_take]; omega) he63 (fun g hg => by
      have hg' := List.mem_of_mem_take hg
      obtain ⟨i, hi, e⟩ := List.mem_iff_getElem.1 hg'
      have h3 := HG.out i hi
      have e2 : t.pages.getD i [] = g := by rw [List.getD_eq_getElem?_getD, List.getElem?_eq_getElem hi, e]; rfl
      rw [e2] at h3
      exact ⟨h3.1, h.by8 g hg'⟩)
    rw [List.length_take] at h2
    show (pagT c t p).length ≤ _
    unfold pagT
    simp only [List.length_append, List.length_cons, List.length_nil]
    omega
  have HPE : Hid (∀ p, p < t.pages.length → ∃ PB po qo qc, v.po = some ⟨PB, po, none⟩ ∧ (∀ W, Below w.heap.size w W → W.cell? ⟨PB, po + p, none⟩ = some (.slice qo (t.pages.getD p []).length qc)) ∧ PgAt w.heap.size w qo (t.pages.getD p []) ∧ ∀ x ∈ t.pages.getD p [], x.length = 32) := fun p hp => by
    obtain ⟨PB, po, qo, qc, e1, c1, hQ, h32⟩ := h.page p hp
    exact ⟨PB, po, qo, qc, e1, fun W hW => (hW.cell (p := ⟨PB, po + p, none⟩) (World.block_lt_of_cell? _ _ c1)).trans c1, pgAt hQ h32 _ (Nat.le_refl _), h32⟩
  have HEE : Hid (∀ p, p < t.pages.length → ∃ EB eo en, v.eo = some ⟨EB, eo, none⟩ ∧ en < 9223372036854775808 ∧ t.erases.getD p 0 = ((en : Nat) : Int) ∧ ∀ W, Below w.heap.size w W → W.cell? ⟨EB, eo + p, none⟩ = some (.int .i64 (en : Int))) := fun p hp => by
    obtain ⟨g1, g2, g3⟩ := HG.out p hp
    obtain ⟨en, hen⟩ := Int.eq_ofNat_of_zero_le g2
    obtain ⟨EB, eo, e1, c1⟩ := h.er.cell p (.int .i64 (t.erases.getD p 0)) (by rw [List.getElem?_map, List.getElem?_eq_getElem (by omega), List.getD_eq_getElem?_getD, List.getElem?_eq_getElem (by omega)]; rfl)
    rw [hen] at c1
    exact ⟨EB, eo, en, e1, by omega, hen, fun W hW => (hW.cell (p := ⟨EB, eo + p, none⟩) (World.block_lt_of_cell? _ _ c1)).trans c1⟩
  have HGL : Hid (∀ p, p < t.pages.length → (t.pages.getD p []).length ≤ 1000) := fun p hp => by
    show _ ≤ _
    rw [(HG.out p hp).1]; omega
  have HST : Hid (∀ p en, p < t.pages.length → t.erases.getD p 0 = ((en : Nat) : Int) → pagT c t (p + 1) = pagT c t p ++ (wPage ++ numsL [p, en] ++ [10#8]) ++ cellsL (t.pages.getD p []) 0) := fun p en hp he => by
    show _ = _
    unfold pagT
    rw [pages_step _ _ _ hp, headL_nums p en _ he]
    simp only [List.append_assoc]
  have HEND : Hid (pagT c t t.pages.length = printL c t) := pagT_end c t
  have HP0 : Hid ([] ++ (wChip ++ numsL c.nums ++ [10#8]) ++ (wBlown ++ numsL (trues t.blown 0) ++ [10#8]) = pagT c t 0) := by
    show _ = _
    unfold pagT preT
    rw [List.take_zero, pagesL, List.append_nil, List.take_length]
    simp [List.append_assoc]
  have HNO : Hid (∀ W : World, Calls Tryd.prog 37 #[.agg c.vals.toArray] W fun e w' => e = .returned (.agg c.vals.toArray) ∧ Below W.heap.size W w') := fun W => numbersOf_any c W
  have HBO : Hid (∀ W : World, Below w.heap.size w W → Calls Tryd.prog 39 #[.agg (v.vals t).toArray] W fun e w' => ∃ lo c, e = .returned (.slice lo (trues t.blown 0).length c) ∧ w'.ownsRow W.heap.size 3 1 (.slice lo (trues t.blown 0).length c) (trues t.blown 0).length ((trues t.blown 0).map nI) ∧ Below W.heap.size W w') := fun W hW => blownOf_any v t W (h.bl.below hW (Nat.le_refl _)) (by omega)
  have HT : Hid (∀ W, Below w.heap.size w W → TabB w.heap.size W) := fun W hW => hq.b.on hW
  have HC7 : Hid (c.nums.length = 7 ∧ (∀ n ∈ c.nums, n < 9223372036854775808) ∧ ∀ (j n : Nat), c.nums[j]? = some n → c.vals[j]? = some (nI n)) := by
    refine ⟨rfl, fun n hn => by have := (cfg_of_nums hm).2 n hn; omega, fun j n hj => ?_⟩
    have e : c.vals = c.nums.map nI := by
      unfold Cfg.vals Cfg.nums nI
      simp only [List.map_cons, List.map_nil]
      rw [Int.toNat_of_nonneg (show 0 ≤ c.cells by omega), Int.toNat_of_nonneg (show 0 ≤ c.slots by omega), Int.toNat_of_nonneg (show 0 ≤ c.fuses by omega), Int.toNat_of_nonneg (show 0 ≤ c.step by omega), Int.toNat_of_nonneg (show 0 ≤ c.keys by omega), Int.toNat_of_nonneg (show 0 ≤ c.erases by omega), Int.toNat_of_nonneg (show 0 ≤ c.area by omega)]
    rw [e, List.getElem?_map, hj]; rfl
  have HTB : Hid (∀ n ∈ trues t.blown 0, n < 9223372036854775808) := fun n hn => by
    have := mem_trues _ _ _ hn
    omega
  have HTL : Hid ((trues t.blown 0).length ≤ 1000) := by
    have := trues_len t.blown 0
    show _ ≤ _
    omega
  have HH0 : Hid (([] ++ (wChip ++ numsL c.nums ++ [10#8])).length ≤ 1000) := by
    have := numsL_len c.nums (fun n hn => by have := (cfg_of_nums hm).2 n hn; omega)
    have e7 : c.nums.length = 7 := rfl
    show _ ≤ _
    simp only [List.length_append, List.nil_append, List.length_cons, List.length_nil, wChip]
    omega
  have lc : c.vals.length = 7 := rfl
  have oc := cfg_one0 c
  have ls : (v.vals t).length = 3 := rfl
  obtain ⟨W0, hW0⟩ : ∃ W0, W0 = (w.alloc (.cells c.vals.toArray 24)).alloc (.cells (v.vals t).toArray 29) := ⟨_, rfl⟩
  have r0 : Row W0 w.heap.size 24 c.vals := by rw [hW0]; exact (Row.at w 24 _ _ _ rfl rfl).alloc _
  have HR1 : Hid (Row W0 (w.heap.size + 1) 29 (v.vals t)) := by rw [hW0]; exact Row.at _ _ _ _ _ (by simp) rfl
  have HF0 : Hid (Fr w.heap.size w W0) := by rw [hW0]; exact ((Fr.refl _ _).alloc (Nat.le_refl _) _).alloc (by simp) _
  have HSV : Hid (v.vals t = [.slice v.po t.pages.length v.pc, .slice v.eo t.erases.length v.ec, .slice v.bo t.blown.length v.bc]) := rfl
  clear lB h hm f1 f2 f3 f4 m1 m2 m3 m4 m5 m6 m7 hprod hC he63 hC256 HG hq
  rw [lE] at HSV
  rw [← HEND.out]
  clear lE
  generalize c.vals = CV at *
  generalize v.vals t = SV' at *
  generalize hG : w.heap.size = G at *
  go_enter Tryd.func20, Tryd.ntmps20
  go_upto_region 1 with fail
  try rw [← hW0]
  clear hW0
  try rw [hG]
  go_wp2_with (refine wpList_load_Row rfl 24 _ rfl G 24 CV r0 rfl _ Tryd.underlying24 rfl (by rw [lc]; kernel_rfl) ?_)
  refine (HNO.out _).mono ?_
  rintro e w1 ⟨rfl, hb1⟩
  dsimp only
  have HF1 : Hid (Fr G w w1) := HF0.out.below hb1 (by rw [← hG]; exact HF0.out.1.size)
  have HS1 : Hid (Row w1 (G + 1) 29 SV') := HR1.out.below hb1 HR1.out.lt
  have HG1 : Hid (G ≤ w1.heap.size) := by rw [← hG]; exact HF1.out.1.size
  clear r0 HR1 HF0 hb1
  go_upto_region 2 with (refine wpList_store_Row rfl 81 (.tmp 5) _ rfl w1.heap.size 81 0 [.int .i64 0, .int .i64 0, .int .i64 0, .int .i64 0, .int .i64 0, .int .i64 0, .int .i64 0] CV (Row.at w1 _ _ _ _ rfl rfl) (by rw [lc]; decide) rfl rfl (by rw [lc]; kernel_rfl) oc ?_; intro w2 hr2 hs2)
  have HNB : Hid (Row w2 w1.heap.size 81 CV) := row_whole hr2 (by rw [lc]; decide)
  have HF2 : Hid (Fr G w w2) := HF1.out.below (new_cell hs2) HG1.out
  have HS2 : Hid (Row w2 (G + 1) 29 SV') := HS1.out.below (new_cell hs2) HS1.out.lt
  have HG2 : Hid (G ≤ w2.heap.size) := by rw [← hG]; exact HF2.out.1.size
  clear hr2 hs2 HF1 HS1 HG1
  generalize w1.heap.size = NB at *
  have A1 : Calls Tryd.prog 38 #[.slice none 0 0, .string { data := #[99, 104, 105, 112] }, .slice (some ⟨NB, 0, none⟩) 7 7] w2 (Wrote G w2 ([] ++ (wChip ++ numsL c.nums ++ [10#8]))) :=
    appendLine_any G _ [] w2 (own_nil G w2 HG2.out) (HT.out _ HF2.out.1) _ wChip k_chip (by decide) c.nums (by rw [HC7.out.1]; decide) HC7.out.2.1 (some ⟨NB, 0, none⟩) 7 (.inr ⟨NB, 81, CV, rfl, by decide, HNB.out, HC7.out.2.2⟩) (by decide)
  generalize [] ++ (wChip ++ numsL c.nums ++ [10#8]) = H0 at *
  go_wp2_with fail
  refine A1.mono ?_
  clear A1 HNB
  rintro e w3 ⟨v3, rfl, hb3⟩
  dsimp only
  have HB3 : Hid (Buf G w H0 v3 w3) := ⟨hb3.own, HF2.out.trans hb3.fr⟩
  have s3 : Row w3 (G + 1) 29 SV' := hb3.row HS2.out (by decide)
  clear hb3 HF2 HS2 HG2
  have B3 := HBO.out w3 HB3.out.fr.1
  go_wp2_with (refine wpList_load_Row rfl 29 _ rfl (G + 1) 29 SV' s3 rfl _ Tryd.underlying29 rfl (by rw [ls]; kernel_rfl) ?_)
  refine B3.mono ?_
  clear B3 HBO
  rintro e w4 ⟨lo, lc4, rfl, ho4, hb4⟩
  dsimp only
  have HB4 : Hid (Buf G w H0 v3 w4) := HB3.out.below hb4
  have HS4 : Hid (Row w4 (G + 1) 29 SV') := s3.below hb4 s3.lt
  have A2 : Calls Tryd.prog 38 #[v3, .string { data := #[98, 108, 111, 119, 110] }, .slice lo (trues t.blown 0).length lc4] w4 (Wrote G w4 (H0 ++ (wBlown ++ numsL (trues t.blown 0) ++ [10#8]))) :=
    appendLine_any G _ H0 w4 HB4.out.own (HT.out _ HB4.out.fr.1) _ wBlown k_blown (by decide) (trues t.blown 0) (by have := HTL.out; omega) HTB.out lo lc4 (numAt_own ho4) (by have := HH0.out; omega)
  clear ho4 hb4 HB3 s3
  rw [HP0.out] at A2
  generalize (trues t.blown 0).length = TL at *
  go_wp2_with fail
  refine A2.mono ?_
  clear A2
  rintro e w5 ⟨v5, rfl, hb5⟩
  dsimp only
  have HB5 : Hid (Buf G w (pagT c t 0) v5 w5) := ⟨hb5.own, HB4.out.fr.trans hb5.fr⟩
  have HS5 : Hid (Row w5 (G + 1) 29 SV') := hb5.row HS4.out (by decide)
  clear hb5 HB4 HS4
  go_upto_region 4 with fail
  have c0 := HS5.out.cell 0 (.slice v.po t.pages.length v.pc) (by rw [HSV.out]; rfl)
  go_wp2_with fail
  clear c0
  go_loopw [6, 20] (fun bv iv wr => ∃ (p : Nat), p ≤ t.pages.length ∧ iv = .int .i64 p ∧ Hid (Buf G w (pagT c t p) bv wr) ∧ Hid (Row wr (G + 1) 29 SV')) (fun _ iv _ => t.pages.length - (intOf iv).toNat)
  case atStart => exact ⟨0, by omega, rfl, HB5, HS5⟩
  case round =>
    clear HB5 HS5
    obtain ⟨p, hp, rfl, HB, HS⟩ := hrel
    by_cases hlt : p < t.pages.length
    · have y0 : (0 : Int) ≤ (p : Int) := by omega
      have y1 : (p : Int) < (t.pages.length : Int) := by omega
      have wi : IntKind.i64.wrap ((p : Int) + 1) = (p : Int) + 1 := i64_in _ (by omega) (by omega)
      obtain ⟨PB, po, qo, qc, epo, hcp, hpg, h32⟩ := HPE.out p hlt
      obtain ⟨EB, eo, en, eeo, hen, hee, hce⟩ := HEE.out p hlt
      have cP := hcp wr HB.out.fr.1
      have cE := hce wr HB.out.fr.1
      have c1 := HS.out.cell 1 (.slice v.eo t.pages.length v.ec) (by rw [HSV.out]; rfl)
      rw [eeo] at c1
      have HPO : Hid (v.po = some ⟨PB, po, none⟩) := epo
      rw [epo]
      have HPX : Hid (PgAt G w qo (t.pages.getD p []) ∧ ∀ x ∈ t.pages.getD p [], x.length = 32) := ⟨hpg, h32⟩
      have HS1 := HST.out p en hlt hee
      have HGLp : Hid ((t.pages.getD p []).length ≤ 1000) := HGL.out p hlt
      have HPGp : Hid ((pagT c t p).length ≤ 40000000) := HPG.out p
      have HX1 : Hid (pagT c t (p + 1) = pagT c t p ++ (wPage ++ numsL [p, en] ++ [10#8]) ++ cellsL (t.pages.getD p []) 0) := HS1
      have HB7 : Hid (Buf G w (pagT c t p) u6 (wr.alloc (.cells #[.int .i64 (p : Int), .int .i64 (en : Int)] 3))) := HB.out.alloc _
      have HS7 : Hid (Row (wr.alloc (.cells #[.int .i64 (p : Int), .int .i64 (en : Int)] 3)) (G + 1) 29 SV') := HS.out.alloc _
      have A7 : Calls Tryd.prog 38 #[u6, .string { data := #[112, 97, 103, 101] }, .slice (some ⟨wr.heap.size, 0, none⟩) 2 2] (wr.alloc (.cells #[.int .i64 (p : Int), .int .i64 (en : Int)] 3)) (Wrote G (wr.alloc (.cells #[.int .i64 (p : Int), .int .i64 (en : Int)] 3)) (pagT c t p ++ (wPage ++ numsL [p, en] ++ [10#8]))) :=
        appendLine_any G _ (pagT c t p) _ HB7.out.own (HT.out _ HB7.out.fr.1) _ wPage k_page (by decide) [p, en] (by show 2 ≤ 1000000; decide) (fun n hn => by simp at hn; rcases hn with rfl | rfl <;> omega) (some ⟨wr.heap.size, 0, none⟩) 2 (.inr ⟨wr.heap.size, 3, [nI p, nI en], rfl, by decide, Row.at wr _ _ _ _ rfl rfl, fun j n hj => by
          match j, hj with
          | 0, hj => simp at hj; subst hj; rfl
          | 1, hj => simp at hj; subst hj; rfl
          | j + 2, hj => simp at hj⟩) (by have := HPGp.out; omega)
      have HM7 : Hid ((pagT c t p ++ (wPage ++ numsL [p, en] ++ [10#8])).length ≤ 50000000) := by
        have h1 := HPGp.out
        have h2 := numsL_len [p, en] (fun n hn => by simp at hn; rcases hn with rfl | rfl <;> omega)
        show _ ≤ _
        simp only [List.length_append, List.length_cons, List.length_nil, wPage] at h2 ⊢
        omega
      clear epo hcp hpg h32 eeo hee hce HS1 HB HS
      generalize pagT c t p ++ (wPage ++ numsL [p, en] ++ [10#8]) = M7 at *
      generalize t.pages.getD p [] = g at *
      go_wp2_with fail
      refine A7.mono ?_
      clear A7 cP cE c1
      rintro e w8 ⟨v8, rfl, hb8⟩
      dsimp only
      have HB8 : Hid (Buf G w M7 v8 w8) := ⟨hb8.own, HB7.out.fr.trans hb8.fr⟩
      have HS8 : Hid (Row w8 (G + 1) 29 SV') := hb8.row HS7.out (by decide)
      clear hb8 HB7 HS7
      have A8 : Calls Tryd.prog 40 #[v8, .slice qo g.length qc] w8 (Wrote G w8 (M7 ++ cellsL g 0)) := appendCells_any G v8 M7 w8 HB8.out.own (HT.out _ HB8.out.fr.1) g qo qc (HPX.out.1.on HB8.out.fr.1) HPX.out.2 HGLp.out (by have := HM7.out; omega)
      rw [← HX1.out] at A8
      generalize g.length = GL at *
      go_wp2_with fail
      refine A8.mono ?_
      clear A8
      rintro e w9 ⟨v9, rfl, hb9⟩
      dsimp only
      have HB9 : Hid (Buf G w (pagT c t (p + 1)) v9 w9) := ⟨hb9.own, HB8.out.fr.trans hb9.fr⟩
      have HS9 : Hid (Row w9 (G + 1) 29 SV') := hb9.row HS8.out (by decide)
      clear hb9 HB8 HS8
      go_wp2
      exact ⟨⟨p + 1, by omega, by go_num, HB9, HS9⟩, by simp [intOf]; omega⟩
    · obtain rfl : p = t.pages.length := by omega
      go_wp2
      go_ret
      exact ⟨_, rfl, HB.out⟩
end Go.Proofs.YtgpnbiaghokjkaaDoor

/-! Layer 21, the landed code: Print. -/
namespace Go.Proofs.YtgpnbiaghokjkaaDoor
open Go.RowKit
set_option linter.unusedVariables false
set_option linter.unusedSimpArgs false
set_option maxRecDepth 100000

set_option maxHeartbeats 4000000 in
theorem print_any (c : Cfg) (v : SV) (t : St) (w : World) (hq : Tab w) (h : StV w v t) (hl : Lens t) (he : ∀ e ∈ t.erases, e < 9223372036854775808) :
    Calls Tryd.prog 10 #[.agg c.vals.toArray, .agg (v.vals t).toArray] w (PrintP c t w) := by
  have HLY : Hid (∀ W, Below w.heap.size w W → Calls Tryd.prog 15 #[.agg c.vals.toArray, .agg (v.vals t).toArray] W (LayPost c t W)) := fun W hW => clay_any c v t W (h.below hW (Nat.le_refl _)) hl.1 hl.2.1 hl.2.2.1 hl.2.2.2
  have HTX : Hid (∀ W, Below w.heap.size w W → c.may = 0 → Fit c t → Calls Tryd.prog 20 #[.agg c.vals.toArray, .agg (v.vals t).toArray] W (Wrote W.heap.size W (printL c t))) := fun W hW h1 h2 => textOf_any c v t W (hq.on hW (Nat.le_refl _)) (h.below hW (Nat.le_refl _)) h1 h2 he
  have HM : Hid (¬ c.may = 0 → c.may = 1) := fun hh => by
    unfold Cfg.may at *
    split at hh <;> simp_all
  have lc : c.vals.length = 7 := rfl
  have ls : (v.vals t).length = 3 := rfl
  obtain ⟨W0, hW0⟩ : ∃ W0, W0 = (w.alloc (.cells c.vals.toArray 24)).alloc (.cells (v.vals t).toArray 29) := ⟨_, rfl⟩
  have r0 : Row W0 w.heap.size 24 c.vals := by rw [hW0]; exact (Row.at w 24 _ _ _ rfl rfl).alloc _
  have r1 : Row W0 (w.heap.size + 1) 29 (v.vals t) := by rw [hW0]; exact Row.at _ _ _ _ _ (by simp) rfl
  have bb : Below w.heap.size w W0 := by rw [hW0]; exact ((Below.refl _ _).alloc (Nat.le_refl _) _).alloc (by simp) _
  clear h hl he hq
  generalize c.vals = CV at *
  generalize v.vals t = SV' at *
  generalize hG : w.heap.size = G at *
  go_enter Tryd.func10, Tryd.ntmps10
  go_upto_region 1 with fail
  try rw [← hW0]
  clear hW0
  try rw [hG]
  go_wp2_with (first | (refine wpList_load_Row rfl 24 _ rfl G 24 CV r0 rfl _ Tryd.underlying24 rfl (by rw [lc]; kernel_rfl) ?_) | (refine wpList_load_Row rfl 29 _ rfl (G + 1) 29 SV' r1 rfl _ Tryd.underlying29 rfl (by rw [ls]; kernel_rfl) ?_))
  refine (HLY.out _ bb).mono ?_
  rintro e w1 ⟨hb1, hcase⟩
  have s0 : Row w1 G 24 CV := r0.below hb1 r0.lt
  have s1 : Row w1 (G + 1) 29 SV' := r1.below hb1 r1.lt
  have HB1 : Hid (Below G w w1) := bb.trans (hb1.mono (by rw [← hG]; exact bb.size))
  clear r0 r1 bb hb1 HLY
  rcases hcase with ⟨hm, rfl⟩ | ⟨hm, hf, rfl⟩ | ⟨hm, hf, F, rfl, _, _⟩
  · rw [HM.out hm]
    have HPP : Hid (PrP c t [] 1) := .inr ⟨fun hh => hm hh.1, rfl, by rw [if_neg hm]⟩
    clear hm s0 s1
    dsimp only
    go_wp2
    go_ret2
    exact ⟨[], 1, HPP.out, rfl, by rw [hG]; exact HB1.out⟩
  · have HPP : Hid (PrP c t [] 5) := .inr ⟨fun hh => hf hh.2, rfl, by rw [if_pos hm]⟩
    clear hm hf s0 s1
    dsimp only
    go_wp2
    go_ret2
    exact ⟨[], 5, HPP.out, rfl, by rw [hG]; exact HB1.out⟩
  · have HPP : Hid (PrP c t (printL c t) 0) := .inl ⟨hm, hf, rfl, rfl⟩
    have TX := HTX.out w1 HB1.out hm hf
    clear hm hf HTX
    dsimp only
    go_wp2_with (first | (refine wpList_load_Row rfl 24 _ rfl G 24 CV s0 rfl _ Tryd.underlying24 rfl (by rw [lc]; kernel_rfl) ?_) | (refine wpList_load_Row rfl 29 _ rfl (G + 1) 29 SV' s1 rfl _ Tryd.underlying29 rfl (by rw [ls]; kernel_rfl) ?_))
    refine TX.mono ?_
    clear TX s0 s1
    rintro e w2 ⟨v2, rfl, hb2⟩
    obtain ⟨ao, cc, rfl⟩ := hb2.form
    have cv := conv_bytes w2 ao _ cc _ rfl (own_IsB hb2.own)
    have HB2 : Hid (Below G w w2) := HB1.out.trans (hb2.fr.1.mono (by rw [← hG]; exact HB1.out.size))
    clear hb2
    obtain ⟨ST, hST⟩ : ∃ ST, strOf (printL c t) = ST := ⟨_, rfl⟩
    have HST : Hid (strOf (printL c t) = ST) := hST
    rw [hST] at cv
    clear hST
    dsimp only
    go_wp2
    go_ret2
    exact ⟨printL c t, 0, HPP.out, by rw [HST.out]; rfl, by rw [hG]; exact HB2.out⟩
end Go.Proofs.YtgpnbiaghokjkaaDoor
