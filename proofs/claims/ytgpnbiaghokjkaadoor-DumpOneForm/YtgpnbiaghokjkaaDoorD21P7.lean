import Derived.Test.YtgpnbiaghokjkaaDoorD21P4
import Derived.Test.YtgpnbiaghokjkaaDoorD21T5
import Derived.Test.YtgpnbiaghokjkaaDoorD21SpM
/-! Layer 21, the landed code: appendCells. -/
namespace Go.Proofs.YtgpnbiaghokjkaaDoor
open Go.RowKit
set_option linter.unusedVariables false
set_option linter.unusedSimpArgs false
set_option maxRecDepth 100000

/-- The cells of a page lie there, whatever is done to what is newer. -/
def PgAt (N : Nat) (w : World) (po : Option Addr) (g : List (List By)) : Prop := 0 < g.length → ∃ QB qo, po = some ⟨QB, qo, none⟩ ∧ ∀ W, Below N w W → ∀ i, i < g.length → W.rangeAt QB (qo + i * 32) ((g.getD i []).map B8)
theorem PgAt.on {N : Nat} {w w' : World} {po : Option Addr} {g : List (List By)} (h : PgAt N w po g) (hb : Below N w w') : PgAt N w' po g := fun h0 => by
  obtain ⟨QB, qo, e, hr⟩ := h h0
  exact ⟨QB, qo, e, fun W hW => hr W (hb.trans hW)⟩
theorem pgAt {w : World} {po : Option Addr} {g : List (List By)} (h : IsL w po (g.flatten.map B8)) (h32 : ∀ x ∈ g, x.length = 32) (N : Nat) (hN : w.heap.size ≤ N) : PgAt N w po g := fun h0 => by
  have g4 : ∀ i, i < g.length → (g.getD i []).length = 32 := fun i hi => h32 _ (getD_mem' g [] i hi)
  rcases h with h | ⟨QB, qo, e, hQ⟩
  · have h1 := flat_get g h32 0 0 h0 (by omega)
    have h2 := congrArg List.length h
    rw [List.length_map] at h2
    have h3 : g.flatten = [] := List.eq_nil_of_length_eq_zero h2
    rw [h3] at h1
    cases h1
  · refine ⟨QB, qo, e, fun W hW i hi j u hu => ?_⟩
    have hj : j < 32 := by
      have := (List.getElem?_eq_some_iff.1 hu).1
      rw [List.length_map, g4 i hi] at this
      exact this
    have h1 := flat_get g h32 i j hi hj
    have h2 : (g.flatten.map B8)[32 * i + j]? = some u := by
      rw [List.getElem?_map, h1]
      rw [List.getElem?_map] at hu
      rw [← hu, List.getD_eq_getElem?_getD (l := g.getD i []), List.getElem?_eq_getElem (by rw [g4 i hi]; exact hj)]; rfl
    have h3 := hQ _ _ h2
    have hbl : QB < N := Nat.lt_of_lt_of_le (World.block_lt_of_cell? _ _ h3) hN
    have h4 := (hW.cell (p := ⟨QB, qo + (32 * i + j), none⟩) hbl).trans h3
    rw [show qo + i * 32 + j = qo + (32 * i + j) by omega]
    exact h4

set_option maxHeartbeats 16000000 in
theorem appendCells_any (N : Nat) (v : Value) (m : List By) (w : World) (ho : Own N w v m) (ht : TabB N w) (g : List (List By)) (po : Option Addr) (pc : Nat) (hP : PgAt N w po g) (h32 : ∀ x ∈ g, x.length = 32) (hgl : g.length ≤ 1000) (hm : m.length ≤ 90000000000000) :
    Calls Tryd.prog 40 #[v, .slice po g.length pc] w (Wrote N w (m ++ cellsL g 0)) := by
  obtain ⟨BC, hBC⟩ : ∃ BC, (List.replicate 32 (255#8 : By)).map B8 = BC := ⟨_, rfl⟩
  have lb : BC.length = 32 := by rw [← hBC]; simp
  have ob : Hid (∀ u ∈ BC, u.oneCell' = true) := by show ∀ u ∈ BC, _; rw [← hBC]; exact B8_one _
  have HBL : Hid (∀ W : World, Calls Tryd.prog 54 #[] W fun e w' => e = .returned (.agg BC.toArray) ∧ Below W.heap.size W w') := fun W => by
    rw [← hBC]; exact dublank_any W
  have HEQ : Hid (∀ (x : List By), x.length = 32 → ∀ W : World, (Op.equalIn 10000 56 (.agg (x.map B8).toArray) (.agg BC.toArray)).run Tryd.prog W = .ok (decide (x = List.replicate 32 255#8)) W) := fun x hx W => by
    rw [← hBC]; exact eq_cell x (List.replicate 32 255#8) hx (by simp) W
  have HT : Hid (∀ W, Below N w W → TabB N W) := fun W hW => ht.on hW
  have HP : Hid (PgAt N w po g) := hP
  have H32 : Hid (∀ i, i < g.length → (g.getD i []).length = 32) := fun i hi => h32 _ (getD_mem' g [] i hi)
  have HST : Hid (∀ i, i < g.length → cellsL (g.take (i + 1)) 0 = cellsL (g.take i) 0 ++ (if g.getD i [] = List.replicate 32 255#8 then [] else cellL i (g.getD i []))) := fun i hi => cells_step g i hi
  have HLN : Hid (∀ i, (m ++ cellsL (g.take i) 0).length ≤ 90000000200000) := fun i => by
    have := cellsL_len (g.take i) 0 (by rw [List.length_take]; omega) (fun x hx => h32 x (List.mem_of_mem_take hx))
    rw [List.length_take] at this
    rw [List.length_append]; omega
  have HAW : Hid (∀ (W : World) (u : Value) (k : List By) (i B : Nat), Own N W u k → TabB N W → k.length ≤ 90000000200000 → i < 9223372036854775808 → Row W B 3 [.int .i64 (i : Int)] → Calls Tryd.prog 53 #[u, .string { data := #[99, 101, 108, 108] }, .slice (some ⟨B, 0, none⟩) 1 1] W (Wrote N W (k ++ (wCell ++ numsL [i])))) := fun W u k i B h1 h2 h3 h4 h5 =>
    appendWords_any N u k W h1 h2 _ wCell k_cell (by decide) [i] (by show 1 ≤ 1000000; decide) (fun n hn => by simp at hn; omega) (some ⟨B, 0, none⟩) 1 (.inr ⟨B, 3, _, rfl, by decide, h5, fun j n hj => by
      cases j with
      | zero => simp at hj; subst hj; rfl
      | succ j => simp at hj⟩) (by omega)
  have HAB : Hid (∀ (W : World) (u : Value) (k x : List By), Own N W u k → x.length = 32 → k.length ≤ 100000000000000 → Calls Tryd.prog 55 #[u, .agg (x.map B8).toArray] W (Wrote N W (k ++ hexC x))) := fun W u k x h1 h2 h3 => appendBytes_any N u k W h1 x h2 h3
  have HB0 : Hid (Buf N w m v w) := ⟨ho, Fr.refl _ _⟩
  have HEND : Hid (cellsL (g.take g.length) 0 = cellsL g 0) := by show _ = _; rw [List.take_length]
  have hgl' : g.length < 9223372036854775808 := by omega
  clear ho ht hP h32 hm hBC hgl
  go_enter Tryd.func40, Tryd.ntmps40
  go_upto_region 2 with (first
    | (refine (HBL.out _).mono ?_; clear HBL; rintro e w1 ⟨rfl, hb1⟩; have HB1 : Hid (Buf N w m v w1) := HB0.out.below hb1; clear HB0 hb1)
    | (refine wpList_store_Row rfl 56 (.tmp 5) _ rfl w1.heap.size 56 0 zc32 BC (Row.at w1 _ _ _ _ rfl rfl) (by rw [lb]; exact Nat.le_refl _) rfl rfl (by rw [lb]; kernel_rfl) ob.out ?_; intro w2 hr2 hs2))
  have HB2 : Hid (Buf N w m v w2) := HB1.out.below (new_cell hs2)
  have HE2 : Hid (Row w2 w1.heap.size 56 BC) := row_whole hr2 (by rw [lb]; exact Nat.le_refl _)
  clear hr2 hs2 HB1
  generalize w1.heap.size = EB at *
  go_wp2_with fail
  go_loopw [0, 11] (fun bv iv wr => ∃ (i : Nat), i ≤ g.length ∧ iv = .int .i64 i ∧ Hid (Buf N w (m ++ cellsL (g.take i) 0) bv wr) ∧ Hid (Row wr EB 56 BC)) (fun _ iv _ => g.length - (intOf iv).toNat)
  case atStart => exact ⟨0, by omega, rfl, by rw [List.take_zero, cellsL, List.append_nil]; exact HB2, HE2⟩
  case round =>
    clear HB2 HE2
    obtain ⟨i, hi, rfl, HB, HE⟩ := hrel
    by_cases hlt : i < g.length
    · have y0 : (0 : Int) ≤ (i : Int) := by omega
      have y1 : (i : Int) < (g.length : Int) := by omega
      have wi : IntKind.i64.wrap ((i : Int) + 1) = (i : Int) + 1 := i64_in _ (by omega) (by omega)
      obtain ⟨QB, qo, epo, hrg⟩ := HP.out (by omega)
      have rng := hrg wr HB.out.fr.1 i hlt
      have HPO : Hid (po = some ⟨QB, qo, none⟩) := epo
      rw [epo]
      clear epo hrg
      have hx := H32.out i hlt
      have hst := HST.out i hlt
      have hln := HLN.out i
      have heq := HEQ.out (g.getD i []) hx
      have lx : ((g.getD i []).map B8).length = 32 := by rw [List.length_map, hx]
      have ox : Hid (∀ u ∈ (g.getD i []).map B8, u.oneCell' = true) := B8_one _
      have HHL : Hid ((hexC (g.getD i [])).length = 64) := by show _ = _; rw [hexC_len, hx]
      have hnl := num_len (n := i) (by omega)
      generalize g.getD i [] = X at *
      by_cases hX : X = List.replicate 32 255#8
      · rw [decide_eq_true hX] at heq
        rw [if_pos hX, List.append_nil] at hst
        have HS : Hid (cellsL (g.take (i + 1)) 0 = cellsL (g.take i) 0) := hst
        clear hst hX
        go_upto_region 5 with (first
          | (refine wpList_load_mid rfl 56 (.tmp 14) rfl QB (qo + i * 32) rfl (X.map B8) _ rng Tryd.underlying56 rfl (by rw [lx]; kernel_rfl) ?_)
          | (refine wpList_store_Row rfl 56 (.tmp 7) _ rfl wr.heap.size 56 0 zc32 (X.map B8) (Row.at wr _ _ _ _ rfl rfl) (by rw [lx]; exact Nat.le_refl _) rfl rfl (by rw [lx]; kernel_rfl) ox.out ?_; intro w3 hr3 hs3))
        have HB3 : Hid (Buf N w (m ++ cellsL (g.take (i + 1)) 0) u0 w3) := by
          show Buf _ _ _ _ _
          rw [HS.out]; exact HB.out.below (new_cell hs3)
        have he3 : Row w3 EB 56 BC := HE.out.below (new_cell hs3) HE.out.lt
        have hx3 : Row w3 wr.heap.size 56 (X.map B8) := row_whole hr3 (by rw [lx]; exact Nat.le_refl _)
        have HE3 : Hid (Row w3 EB 56 BC) := he3
        clear hr3 hs3 HB HE rng
        generalize wr.heap.size = XB at *
        go_wp2_with (first
          | (refine wpList_load_Row rfl 56 (.tmp 7) rfl XB 56 (X.map B8) hx3 rfl _ Tryd.underlying56 rfl (by rw [lx]; kernel_rfl) ?_)
          | (refine wpList_load_Row rfl 56 (.tmp 5) rfl EB 56 BC he3 rfl _ Tryd.underlying56 rfl (by rw [lb]; kernel_rfl) ?_))
        exact ⟨⟨i + 1, by omega, by go_num, HB3, HE3⟩, by simp [intOf]; omega⟩
      · rw [decide_eq_false hX] at heq
        rw [if_neg hX] at hst
        have HS : Hid (m ++ cellsL (g.take (i + 1)) 0 = m ++ cellsL (g.take i) 0 ++ (wCell ++ numsL [i]) ++ [32#8] ++ hexC X ++ [10#8]) := by
          show _ = _
          rw [hst]
          unfold cellL numsL
          simp [List.append_assoc]
        have HHX : Hid (X.length = 32) := hx
        clear hst hX
        generalize m ++ cellsL (g.take i) 0 = M at *
        have HWL : Hid ((wCell ++ numsL [i]).length ≤ 30) := by
          show _ ≤ _
          rw [List.length_append, show numsL [i] = 32#8 :: num i from by unfold numsL; simp, List.length_cons]
          show 4 + _ ≤ 30
          omega
        go_upto_region 5 with (first
          | (refine wpList_load_mid rfl 56 (.tmp 14) rfl QB (qo + i * 32) rfl (X.map B8) _ rng Tryd.underlying56 rfl (by rw [lx]; kernel_rfl) ?_)
          | (refine wpList_store_Row rfl 56 (.tmp 7) _ rfl wr.heap.size 56 0 zc32 (X.map B8) (Row.at wr _ _ _ _ rfl rfl) (by rw [lx]; exact Nat.le_refl _) rfl rfl (by rw [lx]; kernel_rfl) ox.out ?_; intro w3 hr3 hs3))
        have HB3 : Hid (Buf N w M u0 w3) := HB.out.below (new_cell hs3)
        have he3 : Row w3 EB 56 BC := HE.out.below (new_cell hs3) HE.out.lt
        have hx3 : Row w3 wr.heap.size 56 (X.map B8) := row_whole hr3 (by rw [lx]; exact Nat.le_refl _)
        have HE3 : Hid (Row w3 EB 56 BC) := he3
        have HX3 : Hid (Row w3 wr.heap.size 56 (X.map B8)) := hx3
        clear hr3 hs3 HB HE rng
        generalize wr.heap.size = XB at *
        go_upto_region 6 with (first
          | (refine wpList_load_Row rfl 56 (.tmp 7) rfl XB 56 (X.map B8) hx3 rfl _ Tryd.underlying56 rfl (by rw [lx]; kernel_rfl) ?_)
          | (refine wpList_load_Row rfl 56 (.tmp 5) rfl EB 56 BC he3 rfl _ Tryd.underlying56 rfl (by rw [lb]; kernel_rfl) ?_))
        clear he3 hx3 heq
        have HB4 : Hid (Buf N w M u0 (w3.alloc (.cells #[.int .i64 (i : Int)] 3))) := HB3.out.alloc _
        have HR4 : Hid (Row (w3.alloc (.cells #[.int .i64 (i : Int)] 3)) w3.heap.size 3 [.int .i64 (i : Int)]) := Row.at w3 _ _ _ _ rfl rfl
        go_wp2_with fail
        refine (HAW.out _ _ M i w3.heap.size HB4.out.own (HT.out _ HB4.out.fr.1) hln (by omega) HR4.out).mono ?_
        rintro e w5 ⟨v5, rfl, hb5⟩
        dsimp only
        go_upto_region 7 with fail
        have HB5 : Hid (Buf N w (M ++ (wCell ++ numsL [i])) v5 w5) := ⟨hb5.own, HB4.out.fr.trans hb5.fr⟩
        have HE5 : Hid (Row w5 EB 56 BC) := hb5.row (HE3.out.alloc _) (by decide)
        have HX5 : Hid (Row w5 XB 56 (X.map B8)) := hb5.row (HX3.out.alloc _) (by decide)
        clear hb5 HB4 HR4 HB3 HE3 HX3
        have HL5 : Hid ((M ++ (wCell ++ numsL [i])).length ≤ 90000000200030) := by
          have := HWL.out
          show _ ≤ _
          rw [List.length_append]; omega
        generalize M ++ (wCell ++ numsL [i]) = M5 at *
        go_upto_region 8 with (at_builtin; refine wpList_bap1 rfl (.tmp 23) (.tmp 24) rfl N w5 _ M5 ⟨HB5.out.own, Fr.refl _ _⟩ rfl 32#8 32 rfl rfl (by have := HL5.out; omega) ?_; intro v6 w6 hb6)
        have HB6 : Hid (Buf N w (M5 ++ [32#8]) v6 w6) := ⟨hb6.own, HB5.out.fr.trans hb6.fr⟩
        have HE6 : Hid (Row w6 EB 56 BC) := hb6.row HE5.out (by decide)
        have hx6 : Row w6 XB 56 (X.map B8) := hb6.row HX5.out (by decide)
        clear hb6 HB5 HE5 HX5
        have HL6 : Hid ((M5 ++ [32#8]).length ≤ 90000000200031) := by
          have := HL5.out
          show _ ≤ _
          rw [List.length_append]; show _ + 1 ≤ _; omega
        generalize M5 ++ [32#8] = M6 at *
        go_wp2_with (refine wpList_load_Row rfl 56 (.tmp 7) rfl XB 56 (X.map B8) hx6 rfl _ Tryd.underlying56 rfl (by rw [lx]; kernel_rfl) ?_)
        refine (HAB.out _ _ M6 X HB6.out.own HHX.out (by have := HL6.out; omega)).mono ?_
        rintro e w7 ⟨v7, rfl, hb7⟩
        dsimp only
        go_upto_region 9 with fail
        have HB7 : Hid (Buf N w (M6 ++ hexC X) v7 w7) := ⟨hb7.own, HB6.out.fr.trans hb7.fr⟩
        have HE7 : Hid (Row w7 EB 56 BC) := hb7.row HE6.out (by decide)
        clear hb7 HB6 HE6 hx6
        have HL7 : Hid ((M6 ++ hexC X).length + 1 ≤ 140737488353280) := by
          have h1 := HL6.out
          have h2 := HHL.out
          show _ ≤ _
          rw [List.length_append]; omega
        generalize M6 ++ hexC X = M7 at *
        go_upto_region 10 with (at_builtin; refine wpList_bap1 rfl (.tmp 29) (.tmp 30) rfl N w7 _ M7 ⟨HB7.out.own, Fr.refl _ _⟩ rfl 10#8 10 rfl rfl HL7.out ?_; intro v8 w8 hb8)
        have HB8 : Hid (Buf N w (m ++ cellsL (g.take (i + 1)) 0) v8 w8) := by
          show Buf _ _ _ _ _
          rw [HS.out]; exact ⟨hb8.own, HB7.out.fr.trans hb8.fr⟩
        have HE8 : Hid (Row w8 EB 56 BC) := hb8.row HE7.out (by decide)
        clear hb8 HB7 HE7
        go_wp2
        exact ⟨⟨i + 1, by omega, by go_num, HB8, HE8⟩, by simp [intOf]; omega⟩
    · obtain rfl : i = g.length := by omega
      rw [HEND.out] at HB
      go_wp2
      go_ret
      exact ⟨_, rfl, HB.out⟩
end Go.Proofs.YtgpnbiaghokjkaaDoor

/-! Layer 21, the landed code: textOf, Print. -/
namespace Go.Proofs.YtgpnbiaghokjkaaDoor
open Go.RowKit
set_option linter.unusedVariables false
set_option linter.unusedSimpArgs false
set_option maxRecDepth 100000

theorem cfg_one0 (c : Cfg) : ∀ u ∈ c.vals, Value.oneCell' u = true := by intro u hu; simp [Cfg.vals] at hu; rcases hu with rfl | rfl | rfl | rfl | rfl | rfl | rfl <;> rfl
theorem numAt_own {N : Nat} {w : World} {lo : Option Addr} {n c : Nat} {l : List Nat} (h : w.ownsRow N 3 1 (.slice lo n c) n (l.map nI)) : NumAt w lo l := by
  rcases h.2 with ⟨e, e0⟩ | ⟨g, cap, cur, e, _, hg, _, _, hs, ht⟩
  · left
    have := h.1
    rw [List.length_map, e0] at this
    exact List.eq_nil_of_length_eq_zero (by omega)
  · right
    injection e with e1 _ _
    refine ⟨g, 3, cur.toList, e1, by decide, ?_, fun j k hj => ?_⟩
    · show w.heap[g]? = some (.cells cur.toList.toArray 3 (0, 0))
      rw [Array.toArray_toList]; exact hg
    · have h1 : (l.map nI)[j]? = some (nI k) := by rw [List.getElem?_map, hj]; rfl
      rw [← ht, List.getElem?_take] at h1
      split at h1
      · exact h1
      · cases h1
theorem headL_nums (p en : Nat) (e : Int) (h : e = (en : Int)) : headL p e = wPage ++ numsL [p, en] ++ [10#8] := by
  subst h
  unfold headL numsL
  simp [List.append_assoc]

set_option maxHeartbeats 8000000 in
theorem textOf_any (c : Cfg) (v : SV) (t : St) (w : World) (hq : Tab w) (h : StV w v t) (hm : c.may = 0) (hf : Fit c t) (he63 : ∀ e ∈ t.erases, e < 9223372036854775808) :
    Calls Tryd.prog 20 #[.agg c.vals.toArray, .agg (v.vals t).toArray] w (Wrote w.heap.size w (printL c t)) := by
  obtain ⟨m1, m2, m3, m4, m5, m6, m7⟩ := may_all hm
  obtain ⟨f1, f2, f3, f4⟩ := hf
  have hprod : 1 ≤ c.slots * c.fuses ∧ c.slots * c.fuses ≤ 512 := ⟨by
    have := Int.mul_le_mul m1.1 m3.1 (by omega) (by omega); omega, by
    have := Int.mul_le_mul m1.2 m3.2 (by omega) (by omega); omega⟩
  have lP : t.pages.length ≤ 130 := by omega
  have lE : t.erases.length = t.pages.length := by omega
  have lB : t.blown.length ≤ 1000 := by omega
  obtain ⟨C, hC⟩ : ∃ C : Nat, c.cells = (C : Int) := Int.eq_ofNat_of_zero_le (by omega)
  have hC256 : C ≤ 256 := by omega
  have HG : Hid (∀ p, p < t.pages.length → (t.pages.getD p []).length = C ∧ 0 ≤ t.erases.getD p 0 ∧ t.erases.getD p 0 < 9223372036854775808) := fun p hp => by
    have h1 := f4 p hp
    refine ⟨by omega, h1.2, ?_⟩
    rw [List.getD_eq_getElem?_getD, List.getElem?_eq_getElem (by omega)]
    exact he63 _ (List.getElem_mem _)
  have HPG : Hid (∀ p, (pagT c t p).length ≤ 40000000) := fun p => by
    have h1 := preT_len c hm t.blown (by omega) t.blown.length
    have h2 := pagesL_len C hC256 (t.pages.take p) t.erases 0 (by rw [List.length_take]; omega) he63 (fun g hg => by
      have hg' := List.mem_of_mem_take hg
      obtain ⟨i, hi, e⟩ := List.mem_iff_getElem.1 hg'
      have h3 := HG.out i hi
      have e2 : t.pages.getD i [] = g := by rw [List.getD_eq_getElem?_getD, List.getElem?_eq_getElem hi, e]; rfl
      rw [e2] at h3
      exact ⟨h3.1, h.by8 g hg'⟩)
    rw [List.length_take] at h2
    show (pagT c t p).length ≤ _
    unfold pagT
    simp only [List.length_append, List.length_cons, List.length_nil]
    omega
  have HPE : Hid (∀ p, p < t.pages.length → ∃ PB po qo qc, v.po = some ⟨PB, po, none⟩ ∧ (∀ W, Below w.heap.size w W → W.cell? ⟨PB, po + p, none⟩ = some (.slice qo (t.pages.getD p []).length qc)) ∧ PgAt w.heap.size w qo (t.pages.getD p []) ∧ ∀ x ∈ t.pages.getD p [], x.length = 32) := fun p hp => by
    obtain ⟨PB, po, qo, qc, e1, c1, hQ, h32⟩ := h.page p hp
    exact ⟨PB, po, qo, qc, e1, fun W hW => (hW.cell (p := ⟨PB, po + p, none⟩) (World.block_lt_of_cell? _ _ c1)).trans c1, pgAt hQ h32 _ (Nat.le_refl _), h32⟩
  have HEE : Hid (∀ p, p < t.pages.length → ∃ EB eo en, v.eo = some ⟨EB, eo, none⟩ ∧ en < 9223372036854775808 ∧ t.erases.getD p 0 = ((en : Nat) : Int) ∧ ∀ W, Below w.heap.size w W → W.cell? ⟨EB, eo + p, none⟩ = some (.int .i64 (en : Int))) := fun p hp => by
    obtain ⟨g1, g2, g3⟩ := HG.out p hp
    obtain ⟨en, hen⟩ := Int.eq_ofNat_of_zero_le g2
    obtain ⟨EB, eo, e1, c1⟩ := h.er.cell p (.int .i64 (t.erases.getD p 0)) (by rw [List.getElem?_map, List.getElem?_eq_getElem (by omega), List.getD_eq_getElem?_getD, List.getElem?_eq_getElem (by omega)]; rfl)
    rw [hen] at c1
    exact ⟨EB, eo, en, e1, by omega, hen, fun W hW => (hW.cell (p := ⟨EB, eo + p, none⟩) (World.block_lt_of_cell? _ _ c1)).trans c1⟩
  have HGL : Hid (∀ p, p < t.pages.length → (t.pages.getD p []).length ≤ 1000) := fun p hp => by
    show _ ≤ _
    rw [(HG.out p hp).1]; omega
  have HST : Hid (∀ p en, p < t.pages.length → t.erases.getD p 0 = ((en : Nat) : Int) → pagT c t (p + 1) = pagT c t p ++ (wPage ++ numsL [p, en] ++ [10#8]) ++ cellsL (t.pages.getD p []) 0) := fun p en hp he => by
    show _ = _
    unfold pagT
    rw [pages_step _ _ _ hp, headL_nums p en _ he]
    simp only [List.append_assoc]
  have HEND : Hid (pagT c t t.pages.length = printL c t) := pagT_end c t
  have HP0 : Hid ([] ++ (wChip ++ numsL c.nums ++ [10#8]) ++ (wBlown ++ numsL (trues t.blown 0) ++ [10#8]) = pagT c t 0) := by
    show _ = _
    unfold pagT preT
    rw [List.take_zero, pagesL, List.append_nil, List.take_length]
    simp [List.append_assoc]
  have HNO : Hid (∀ W : World, Calls Tryd.prog 37 #[.agg c.vals.toArray] W fun e w' => e = .returned (.agg c.vals.toArray) ∧ Below W.heap.size W w') := fun W => numbersOf_any c W
  have HBO : Hid (∀ W : World, Below w.heap.size w W → Calls Tryd.prog 39 #[.agg (v.vals t).toArray] W fun e w' => ∃ lo c, e = .returned (.slice lo (trues t.blown 0).length c) ∧ w'.ownsRow W.heap.size 3 1 (.slice lo (trues t.blown 0).length c) (trues t.blown 0).length ((trues t.blown 0).map nI) ∧ Below W.heap.size W w') := fun W hW => blownOf_any v t W (h.bl.below hW (Nat.le_refl _)) (by omega)
  have HT : Hid (∀ W, Below w.heap.size w W → TabB w.heap.size W) := fun W hW => hq.b.on hW
  have HC7 : Hid (c.nums.length = 7 ∧ (∀ n ∈ c.nums, n < 9223372036854775808) ∧ ∀ (j n : Nat), c.nums[j]? = some n → c.vals[j]? = some (nI n)) := by
    refine ⟨rfl, fun n hn => by have := (cfg_of_nums hm).2 n hn; omega, fun j n hj => ?_⟩
    have e : c.vals = c.nums.map nI := by
      unfold Cfg.vals Cfg.nums nI
      simp only [List.map_cons, List.map_nil]
      rw [Int.toNat_of_nonneg (show 0 ≤ c.cells by omega), Int.toNat_of_nonneg (show 0 ≤ c.slots by omega), Int.toNat_of_nonneg (show 0 ≤ c.fuses by omega), Int.toNat_of_nonneg (show 0 ≤ c.step by omega), Int.toNat_of_nonneg (show 0 ≤ c.keys by omega), Int.toNat_of_nonneg (show 0 ≤ c.erases by omega), Int.toNat_of_nonneg (show 0 ≤ c.area by omega)]
    rw [e, List.getElem?_map, hj]; rfl
  have HTB : Hid (∀ n ∈ trues t.blown 0, n < 9223372036854775808) := fun n hn => by
    have := mem_trues _ _ _ hn
    omega
  have HTL : Hid ((trues t.blown 0).length ≤ 1000) := by
    have := trues_len t.blown 0
    show _ ≤ _
    omega
  have HH0 : Hid (([] ++ (wChip ++ numsL c.nums ++ [10#8])).length ≤ 1000) := by
    have := numsL_len c.nums (fun n hn => by have := (cfg_of_nums hm).2 n hn; omega)
    have e7 : c.nums.length = 7 := rfl
    show _ ≤ _
    simp only [List.length_append, List.nil_append, List.length_cons, List.length_nil, wChip]
    omega
  have lc : c.vals.length = 7 := rfl
  have oc := cfg_one0 c
  have ls : (v.vals t).length = 3 := rfl
  obtain ⟨W0, hW0⟩ : ∃ W0, W0 = (w.alloc (.cells c.vals.toArray 24)).alloc (.cells (v.vals t).toArray 29) := ⟨_, rfl⟩
  have r0 : Row W0 w.heap.size 24 c.vals := by rw [hW0]; exact (Row.at w 24 _ _ _ rfl rfl).alloc _
  have HR1 : Hid (Row W0 (w.heap.size + 1) 29 (v.vals t)) := by rw [hW0]; exact Row.at _ _ _ _ _ (by simp) rfl
  have HF0 : Hid (Fr w.heap.size w W0) := by rw [hW0]; exact ((Fr.refl _ _).alloc (Nat.le_refl _) _).alloc (by simp) _
  have HSV : Hid (v.vals t = [.slice v.po t.pages.length v.pc, .slice v.eo t.erases.length v.ec, .slice v.bo t.blown.length v.bc]) := rfl
  clear lB h hm f1 f2 f3 f4 m1 m2 m3 m4 m5 m6 m7 hprod hC he63 hC256 HG hq
  rw [lE] at HSV
  rw [← HEND.out]
  clear lE
  generalize c.vals = CV at *
  generalize v.vals t = SV' at *
  generalize hG : w.heap.size = G at *
  go_enter Tryd.func20, Tryd.ntmps20
  go_upto_region 1 with fail
  try rw [← hW0]
  clear hW0
  try rw [hG]
  go_wp2_with (refine wpList_load_Row rfl 24 _ rfl G 24 CV r0 rfl _ Tryd.underlying24 rfl (by rw [lc]; kernel_rfl) ?_)
  refine (HNO.out _).mono ?_
  rintro e w1 ⟨rfl, hb1⟩
  dsimp only
  have HF1 : Hid (Fr G w w1) := HF0.out.below hb1 (by rw [← hG]; exact HF0.out.1.size)
  have HS1 : Hid (Row w1 (G + 1) 29 SV') := HR1.out.below hb1 HR1.out.lt
  have HG1 : Hid (G ≤ w1.heap.size) := by rw [← hG]; exact HF1.out.1.size
  clear r0 HR1 HF0 hb1
  go_upto_region 2 with (refine wpList_store_Row rfl 81 (.tmp 5) _ rfl w1.heap.size 81 0 [.int .i64 0, .int .i64 0, .int .i64 0, .int .i64 0, .int .i64 0, .int .i64 0, .int .i64 0] CV (Row.at w1 _ _ _ _ rfl rfl) (by rw [lc]; decide) rfl rfl (by rw [lc]; kernel_rfl) oc ?_; intro w2 hr2 hs2)
  have HNB : Hid (Row w2 w1.heap.size 81 CV) := row_whole hr2 (by rw [lc]; decide)
  have HF2 : Hid (Fr G w w2) := HF1.out.below (new_cell hs2) HG1.out
  have HS2 : Hid (Row w2 (G + 1) 29 SV') := HS1.out.below (new_cell hs2) HS1.out.lt
  have HG2 : Hid (G ≤ w2.heap.size) := by rw [← hG]; exact HF2.out.1.size
  clear hr2 hs2 HF1 HS1 HG1
  generalize w1.heap.size = NB at *
  have A1 : Calls Tryd.prog 38 #[.slice none 0 0, .string { data := #[99, 104, 105, 112] }, .slice (some ⟨NB, 0, none⟩) 7 7] w2 (Wrote G w2 ([] ++ (wChip ++ numsL c.nums ++ [10#8]))) :=
    appendLine_any G _ [] w2 (own_nil G w2 HG2.out) (HT.out _ HF2.out.1) _ wChip k_chip (by decide) c.nums (by rw [HC7.out.1]; decide) HC7.out.2.1 (some ⟨NB, 0, none⟩) 7 (.inr ⟨NB, 81, CV, rfl, by decide, HNB.out, HC7.out.2.2⟩) (by decide)
  generalize [] ++ (wChip ++ numsL c.nums ++ [10#8]) = H0 at *
  go_wp2_with fail
  refine A1.mono ?_
  clear A1 HNB
  rintro e w3 ⟨v3, rfl, hb3⟩
  dsimp only
  have HB3 : Hid (Buf G w H0 v3 w3) := ⟨hb3.own, HF2.out.trans hb3.fr⟩
  have s3 : Row w3 (G + 1) 29 SV' := hb3.row HS2.out (by decide)
  clear hb3 HF2 HS2 HG2
  have B3 := HBO.out w3 HB3.out.fr.1
  go_wp2_with (refine wpList_load_Row rfl 29 _ rfl (G + 1) 29 SV' s3 rfl _ Tryd.underlying29 rfl (by rw [ls]; kernel_rfl) ?_)
  refine B3.mono ?_
  clear B3 HBO
  rintro e w4 ⟨lo, lc4, rfl, ho4, hb4⟩
  dsimp only
  have HB4 : Hid (Buf G w H0 v3 w4) := HB3.out.below hb4
  have HS4 : Hid (Row w4 (G + 1) 29 SV') := s3.below hb4 s3.lt
  have A2 : Calls Tryd.prog 38 #[v3, .string { data := #[98, 108, 111, 119, 110] }, .slice lo (trues t.blown 0).length lc4] w4 (Wrote G w4 (H0 ++ (wBlown ++ numsL (trues t.blown 0) ++ [10#8]))) :=
    appendLine_any G _ H0 w4 HB4.out.own (HT.out _ HB4.out.fr.1) _ wBlown k_blown (by decide) (trues t.blown 0) (by have := HTL.out; omega) HTB.out lo lc4 (numAt_own ho4) (by have := HH0.out; omega)
  clear ho4 hb4 HB3 s3
  rw [HP0.out] at A2
  generalize (trues t.blown 0).length = TL at *
  go_wp2_with fail
  refine A2.mono ?_
  clear A2
  rintro e w5 ⟨v5, rfl, hb5⟩
  dsimp only
  have HB5 : Hid (Buf G w (pagT c t 0) v5 w5) := ⟨hb5.own, HB4.out.fr.trans hb5.fr⟩
  have HS5 : Hid (Row w5 (G + 1) 29 SV') := hb5.row HS4.out (by decide)
  clear hb5 HB4 HS4
  go_upto_region 4 with fail
  have c0 := HS5.out.cell 0 (.slice v.po t.pages.length v.pc) (by rw [HSV.out]; rfl)
  go_wp2_with fail
  clear c0
  go_loopw [6, 20] (fun bv iv wr => ∃ (p : Nat), p ≤ t.pages.length ∧ iv = .int .i64 p ∧ Hid (Buf G w (pagT c t p) bv wr) ∧ Hid (Row wr (G + 1) 29 SV')) (fun _ iv _ => t.pages.length - (intOf iv).toNat)
  case atStart => exact ⟨0, by omega, rfl, HB5, HS5⟩
  case round =>
    clear HB5 HS5
    obtain ⟨p, hp, rfl, HB, HS⟩ := hrel
    by_cases hlt : p < t.pages.length
    · have y0 : (0 : Int) ≤ (p : Int) := by omega
      have y1 : (p : Int) < (t.pages.length : Int) := by omega
      have wi : IntKind.i64.wrap ((p : Int) + 1) = (p : Int) + 1 := i64_in _ (by omega) (by omega)
      obtain ⟨PB, po, qo, qc, epo, hcp, hpg, h32⟩ := HPE.out p hlt
      obtain ⟨EB, eo, en, eeo, hen, hee, hce⟩ := HEE.out p hlt
      have cP := hcp wr HB.out.fr.1
      have cE := hce wr HB.out.fr.1
      have c1 := HS.out.cell 1 (.slice v.eo t.pages.length v.ec) (by rw [HSV.out]; rfl)
      rw [eeo] at c1
      have HPO : Hid (v.po = some ⟨PB, po, none⟩) := epo
      rw [epo]
      have HPX : Hid (PgAt G w qo (t.pages.getD p []) ∧ ∀ x ∈ t.pages.getD p [], x.length = 32) := ⟨hpg, h32⟩
      have HS1 := HST.out p en hlt hee
      have HGLp : Hid ((t.pages.getD p []).length ≤ 1000) := HGL.out p hlt
      have HPGp : Hid ((pagT c t p).length ≤ 40000000) := HPG.out p
      have HX1 : Hid (pagT c t (p + 1) = pagT c t p ++ (wPage ++ numsL [p, en] ++ [10#8]) ++ cellsL (t.pages.getD p []) 0) := HS1
      have HB7 : Hid (Buf G w (pagT c t p) u6 (wr.alloc (.cells #[.int .i64 (p : Int), .int .i64 (en : Int)] 3))) := HB.out.alloc _
      have HS7 : Hid (Row (wr.alloc (.cells #[.int .i64 (p : Int), .int .i64 (en : Int)] 3)) (G + 1) 29 SV') := HS.out.alloc _
      have A7 : Calls Tryd.prog 38 #[u6, .string { data := #[112, 97, 103, 101] }, .slice (some ⟨wr.heap.size, 0, none⟩) 2 2] (wr.alloc (.cells #[.int .i64 (p : Int), .int .i64 (en : Int)] 3)) (Wrote G (wr.alloc (.cells #[.int .i64 (p : Int), .int .i64 (en : Int)] 3)) (pagT c t p ++ (wPage ++ numsL [p, en] ++ [10#8]))) :=
        appendLine_any G _ (pagT c t p) _ HB7.out.own (HT.out _ HB7.out.fr.1) _ wPage k_page (by decide) [p, en] (by show 2 ≤ 1000000; decide) (fun n hn => by simp at hn; rcases hn with rfl | rfl <;> omega) (some ⟨wr.heap.size, 0, none⟩) 2 (.inr ⟨wr.heap.size, 3, [nI p, nI en], rfl, by decide, Row.at wr _ _ _ _ rfl rfl, fun j n hj => by
          match j, hj with
          | 0, hj => simp at hj; subst hj; rfl
          | 1, hj => simp at hj; subst hj; rfl
          | j + 2, hj => simp at hj⟩) (by have := HPGp.out; omega)
      have HM7 : Hid ((pagT c t p ++ (wPage ++ numsL [p, en] ++ [10#8])).length ≤ 50000000) := by
        have h1 := HPGp.out
        have h2 := numsL_len [p, en] (fun n hn => by simp at hn; rcases hn with rfl | rfl <;> omega)
        show _ ≤ _
        simp only [List.length_append, List.length_cons, List.length_nil, wPage] at h2 ⊢
        omega
      clear epo hcp hpg h32 eeo hee hce HS1 HB HS
      generalize pagT c t p ++ (wPage ++ numsL [p, en] ++ [10#8]) = M7 at *
      generalize t.pages.getD p [] = g at *
      go_wp2_with fail
      refine A7.mono ?_
      clear A7 cP cE c1
      rintro e w8 ⟨v8, rfl, hb8⟩
      dsimp only
      have HB8 : Hid (Buf G w M7 v8 w8) := ⟨hb8.own, HB7.out.fr.trans hb8.fr⟩
      have HS8 : Hid (Row w8 (G + 1) 29 SV') := hb8.row HS7.out (by decide)
      clear hb8 HB7 HS7
      have A8 : Calls Tryd.prog 40 #[v8, .slice qo g.length qc] w8 (Wrote G w8 (M7 ++ cellsL g 0)) := appendCells_any G v8 M7 w8 HB8.out.own (HT.out _ HB8.out.fr.1) g qo qc (HPX.out.1.on HB8.out.fr.1) HPX.out.2 HGLp.out (by have := HM7.out; omega)
      rw [← HX1.out] at A8
      generalize g.length = GL at *
      go_wp2_with fail
      refine A8.mono ?_
      clear A8
      rintro e w9 ⟨v9, rfl, hb9⟩
      dsimp only
      have HB9 : Hid (Buf G w (pagT c t (p + 1)) v9 w9) := ⟨hb9.own, HB8.out.fr.trans hb9.fr⟩
      have HS9 : Hid (Row w9 (G + 1) 29 SV') := hb9.row HS8.out (by decide)
      clear hb9 HB8 HS8
      go_wp2
      exact ⟨⟨p + 1, by omega, by go_num, HB9, HS9⟩, by simp [intOf]; omega⟩
    · obtain rfl : p = t.pages.length := by omega
      go_wp2
      go_ret
      exact ⟨_, rfl, HB.out⟩
end Go.Proofs.YtgpnbiaghokjkaaDoor

/-! Layer 21, the landed code: Print. -/
namespace Go.Proofs.YtgpnbiaghokjkaaDoor
open Go.RowKit
set_option linter.unusedVariables false
set_option linter.unusedSimpArgs false
set_option maxRecDepth 100000

set_option maxHeartbeats 4000000 in
theorem print_any (c : Cfg) (v : SV) (t : St) (w : World) (hq : Tab w) (h : StV w v t) (hl : Lens t) (he : ∀ e ∈ t.erases, e < 9223372036854775808) :
    Calls Tryd.prog 10 #[.agg c.vals.toArray, .agg (v.vals t).toArray] w (PrintP c t w) := by
  have HLY : Hid (∀ W, Below w.heap.size w W → Calls Tryd.prog 15 #[.agg c.vals.toArray, .agg (v.vals t).toArray] W (LayPost c t W)) := fun W hW => clay_any c v t W (h.below hW (Nat.le_refl _)) hl.1 hl.2.1 hl.2.2.1 hl.2.2.2
  have HTX : Hid (∀ W, Below w.heap.size w W → c.may = 0 → Fit c t → Calls Tryd.prog 20 #[.agg c.vals.toArray, .agg (v.vals t).toArray] W (Wrote W.heap.size W (printL c t))) := fun W hW h1 h2 => textOf_any c v t W (hq.on hW (Nat.le_refl _)) (h.below hW (Nat.le_refl _)) h1 h2 he
  have HM : Hid (¬ c.may = 0 → c.may = 1) := fun hh => by
    unfold Cfg.may at *
    split at hh <;> simp_all
  have lc : c.vals.length = 7 := rfl
  have ls : (v.vals t).length = 3 := rfl
  obtain ⟨W0, hW0⟩ : ∃ W0, W0 = (w.alloc (.cells c.vals.toArray 24)).alloc (.cells (v.vals t).toArray 29) := ⟨_, rfl⟩
  have r0 : Row W0 w.heap.size 24 c.vals := by rw [hW0]; exact (Row.at w 24 _ _ _ rfl rfl).alloc _
  have r1 : Row W0 (w.heap.size + 1) 29 (v.vals t) := by rw [hW0]; exact Row.at _ _ _ _ _ (by simp) rfl
  have bb : Below w.heap.size w W0 := by rw [hW0]; exact ((Below.refl _ _).alloc (Nat.le_refl _) _).alloc (by simp) _
  clear h hl he hq
  generalize c.vals = CV at *
  generalize v.vals t = SV' at *
  generalize hG : w.heap.size = G at *
  go_enter Tryd.func10, Tryd.ntmps10
  go_upto_region 1 with fail
  try rw [← hW0]
  clear hW0
  try rw [hG]
  go_wp2_with (first | (refine wpList_load_Row rfl 24 _ rfl G 24 CV r0 rfl _ Tryd.underlying24 rfl (by rw [lc]; kernel_rfl) ?_) | (refine wpList_load_Row rfl 29 _ rfl (G + 1) 29 SV' r1 rfl _ Tryd.underlying29 rfl (by rw [ls]; kernel_rfl) ?_))
  refine (HLY.out _ bb).mono ?_
  rintro e w1 ⟨hb1, hcase⟩
  have s0 : Row w1 G 24 CV := r0.below hb1 r0.lt
  have s1 : Row w1 (G + 1) 29 SV' := r1.below hb1 r1.lt
  have HB1 : Hid (Below G w w1) := bb.trans (hb1.mono (by rw [← hG]; exact bb.size))
  clear r0 r1 bb hb1 HLY
  rcases hcase with ⟨hm, rfl⟩ | ⟨hm, hf, rfl⟩ | ⟨hm, hf, F, rfl, _, _⟩
  · rw [HM.out hm]
    have HPP : Hid (PrP c t [] 1) := .inr ⟨fun hh => hm hh.1, rfl, by rw [if_neg hm]⟩
    clear hm s0 s1
    dsimp only
    go_wp2
    go_ret2
    exact ⟨[], 1, HPP.out, rfl, by rw [hG]; exact HB1.out⟩
  · have HPP : Hid (PrP c t [] 5) := .inr ⟨fun hh => hf hh.2, rfl, by rw [if_pos hm]⟩
    clear hm hf s0 s1
    dsimp only
    go_wp2
    go_ret2
    exact ⟨[], 5, HPP.out, rfl, by rw [hG]; exact HB1.out⟩
  · have HPP : Hid (PrP c t (printL c t) 0) := .inl ⟨hm, hf, rfl, rfl⟩
    have TX := HTX.out w1 HB1.out hm hf
    clear hm hf HTX
    dsimp only
    go_wp2_with (first | (refine wpList_load_Row rfl 24 _ rfl G 24 CV s0 rfl _ Tryd.underlying24 rfl (by rw [lc]; kernel_rfl) ?_) | (refine wpList_load_Row rfl 29 _ rfl (G + 1) 29 SV' s1 rfl _ Tryd.underlying29 rfl (by rw [ls]; kernel_rfl) ?_))
    refine TX.mono ?_
    clear TX s0 s1
    rintro e w2 ⟨v2, rfl, hb2⟩
    obtain ⟨ao, cc, rfl⟩ := hb2.form
    have cv := conv_bytes w2 ao _ cc _ rfl (own_IsB hb2.own)
    have HB2 : Hid (Below G w w2) := HB1.out.trans (hb2.fr.1.mono (by rw [← hG]; exact HB1.out.size))
    clear hb2
    obtain ⟨ST, hST⟩ : ∃ ST, strOf (printL c t) = ST := ⟨_, rfl⟩
    have HST : Hid (strOf (printL c t) = ST) := hST
    rw [hST] at cv
    clear hST
    dsimp only
    go_wp2
    go_ret2
    exact ⟨printL c t, 0, HPP.out, by rw [HST.out]; rfl, by rw [hG]; exact HB2.out⟩
end Go.Proofs.YtgpnbiaghokjkaaDoor
