import Derived.Test.YtgpnbiaghokjkaaDoorD21P4
import Derived.Test.YtgpnbiaghokjkaaDoorD21T5
/-! Layer 21, the landed code: appendCells. -/
namespace Go.Proofs.YtgpnbiaghokjkaaDoor
open Go.RowKit
set_option linter.unusedVariables false
set_option linter.unusedSimpArgs false
set_option maxRecDepth 100000

/-- The cells of a page lie there, whatever is done to what is newer. -/
def PgAt (N : Nat) (w : World) (po : Option Addr) (g : List (List By)) : Prop := 0 < g.length → ∃ QB qo, po = some ⟨QB, qo, none⟩ ∧ ∀ W, Below N w W → ∀ i, i < g.length → W.rangeAt QB (qo + i * 32) ((g.getD i []).map B8)
theorem PgAt.on {N : Nat} {w w' : World} {po : Option Addr} {g : List (List By)} (h : PgAt N w po g) (hb : Below N w w') : PgAt N w' po g := fun h0 => by
  obtain ⟨QB, qo, e, hr⟩ := h h0
  exact ⟨QB, qo, e, fun W hW => hr W (hb.trans hW)⟩
theorem pgAt {w : World} {po : Option Addr} {g : List (List By)} (h : IsL w po (g.flatten.map B8)) (h32 : ∀ x ∈ g, x.length = 32) (N : Nat) (hN : w.heap.size ≤ N) : PgAt N w po g := fun h0 => by
  have g4 : ∀ i, i < g.length → (g.getD i []).length = 32 := fun i hi => h32 _ (getD_mem' g [] i hi)
  rcases h with h | ⟨QB, qo, e, hQ⟩
  · have h1 := flat_get g h32 0 0 h0 (by omega)
    have h2 := congrArg List.length h
    rw [List.length_map] at h2
    have h3 : g.flatten = [] := List.eq_nil_of_length_eq_zero h2
    rw [h3] at h1
    cases h1
  · refine ⟨QB, qo, e, fun W hW i hi j u hu => ?_⟩
    have hj : j < 32 := by
      have := (List.getElem?_eq_some_iff.1 hu).1
      rw [List.length_map, g4 i hi] at this
      exact this
    have h1 := flat_get g h32 i j hi hj
    have h2 : (g.flatten.map B8)[32 * i + j]? = some u := by
      rw [List.getElem?_map, h1]
      rw [List.getElem?_map] at hu
      rw [← hu, List.getD_eq_getElem?_getD (l := g.getD i []), List.getElem?_eq_getElem (by rw [g4 i hi]; exact hj)]; rfl
    have h3 := hQ _ _ h2
    have hbl : QB < N := Nat.lt_of_lt_of_le (World.block_lt_of_cell? _ _ h3) hN
    have h4 := (hW.cell (p := ⟨QB, qo + (32 * i + j), none⟩) hbl).trans h3
    rw [show qo + i * 32 + j = qo + (32 * i + j) by omega]
    exact h4

set_option maxHeartbeats 16000000 in
theorem appendCells_any (N : Nat) (v : Value) (m : List By) (w : World) (ho : Own N w v m) (ht : TabB N w) (g : List (List By)) (po : Option Addr) (pc : Nat) (hP : PgAt N w po g) (h32 : ∀ x ∈ g, x.length = 32) (hgl : g.length ≤ 1000) (hm : m.length ≤ 90000000000000) :
    Calls Tryd.prog 40 #[v, .slice po g.length pc] w (Wrote N w (m ++ cellsL g 0)) := by
  obtain ⟨BC, hBC⟩ : ∃ BC, (List.replicate 32 (255#8 : By)).map B8 = BC := ⟨_, rfl⟩
  have lb : BC.length = 32 := by rw [← hBC]; simp
  have ob : Hid (∀ u ∈ BC, u.oneCell' = true) := by show ∀ u ∈ BC, _; rw [← hBC]; exact B8_one _
  have HBL : Hid (∀ W : World, Calls Tryd.prog 54 #[] W fun e w' => e = .returned (.agg BC.toArray) ∧ Below W.heap.size W w') := fun W => by
    rw [← hBC]; exact dublank_any W
  have HEQ : Hid (∀ (x : List By), x.length = 32 → ∀ W : World, (Op.equalIn 10000 56 (.agg (x.map B8).toArray) (.agg BC.toArray)).run Tryd.prog W = .ok (decide (x = List.replicate 32 255#8)) W) := fun x hx W => by
    rw [← hBC]; exact eq_cell x (List.replicate 32 255#8) hx (by simp) W
  have HT : Hid (∀ W, Below N w W → TabB N W) := fun W hW => ht.on hW
  have HP : Hid (PgAt N w po g) := hP
  have H32 : Hid (∀ i, i < g.length → (g.getD i []).length = 32) := fun i hi => h32 _ (getD_mem' g [] i hi)
  have HST : Hid (∀ i, i < g.length → cellsL (g.take (i + 1)) 0 = cellsL (g.take i) 0 ++ (if g.getD i [] = List.replicate 32 255#8 then [] else cellL i (g.getD i []))) := fun i hi => cells_step g i hi
  have HLN : Hid (∀ i, (m ++ cellsL (g.take i) 0).length ≤ 90000000200000) := fun i => by
    have := cellsL_len (g.take i) 0 (by rw [List.length_take]; omega) (fun x hx => h32 x (List.mem_of_mem_take hx))
    rw [List.length_take] at this
    rw [List.length_append]; omega
  have HAW : Hid (∀ (W : World) (u : Value) (k : List By) (i B : Nat), Own N W u k → TabB N W → k.length ≤ 90000000200000 → i < 9223372036854775808 → Row W B 3 [.int .i64 (i : Int)] → Calls Tryd.prog 53 #[u, .string { data := #[99, 101, 108, 108] }, .slice (some ⟨B, 0, none⟩) 1 1] W (Wrote N W (k ++ (wCell ++ numsL [i])))) := fun W u k i B h1 h2 h3 h4 h5 =>
    appendWords_any N u k W h1 h2 _ wCell k_cell (by decide) [i] (by show 1 ≤ 1000000; decide) (fun n hn => by simp at hn; omega) (some ⟨B, 0, none⟩) 1 (.inr ⟨B, 3, _, rfl, by decide, h5, fun j n hj => by
      cases j with
      | zero => simp at hj; subst hj; rfl
      | succ j => simp at hj⟩) (by omega)
  have HAB : Hid (∀ (W : World) (u : Value) (k x : List By), Own N W u k → x.length = 32 → k.length ≤ 100000000000000 → Calls Tryd.prog 55 #[u, .agg (x.map B8).toArray] W (Wrote N W (k ++ hexC x))) := fun W u k x h1 h2 h3 => appendBytes_any N u k W h1 x h2 h3
  have HB0 : Hid (Buf N w m v w) := ⟨ho, Fr.refl _ _⟩
  have HEND : Hid (cellsL (g.take g.length) 0 = cellsL g 0) := by show _ = _; rw [List.take_length]
  have hgl' : g.length < 9223372036854775808 := by omega
  clear ho ht hP h32 hm hBC hgl
  go_enter Tryd.func40, Tryd.ntmps40
  go_upto_region 2 with (first
    | (refine (HBL.out _).mono ?_; clear HBL; rintro e w1 ⟨rfl, hb1⟩; have HB1 : Hid (Buf N w m v w1) := HB0.out.below hb1; clear HB0 hb1)
    | (refine wpList_store_Row rfl 56 (.tmp 5) _ rfl w1.heap.size 56 0 zc32 BC (Row.at w1 _ _ _ _ rfl rfl) (by rw [lb]; exact Nat.le_refl _) rfl rfl (by rw [lb]; kernel_rfl) ob.out ?_; intro w2 hr2 hs2))
  have HB2 : Hid (Buf N w m v w2) := HB1.out.below (new_cell hs2)
  have HE2 : Hid (Row w2 w1.heap.size 56 BC) := row_whole hr2 (by rw [lb]; exact Nat.le_refl _)
  clear hr2 hs2 HB1
  generalize w1.heap.size = EB at *
  go_wp2_with fail
  go_loopw [0, 11] (fun bv iv wr => ∃ (i : Nat), i ≤ g.length ∧ iv = .int .i64 i ∧ Hid (Buf N w (m ++ cellsL (g.take i) 0) bv wr) ∧ Hid (Row wr EB 56 BC)) (fun _ iv _ => g.length - (intOf iv).toNat)
  case atStart => exact ⟨0, by omega, rfl, by rw [List.take_zero, cellsL, List.append_nil]; exact HB2, HE2⟩
  case round =>
    clear HB2 HE2
    obtain ⟨i, hi, rfl, HB, HE⟩ := hrel
    by_cases hlt : i < g.length
    · have y0 : (0 : Int) ≤ (i : Int) := by omega
      have y1 : (i : Int) < (g.length : Int) := by omega
      have wi : IntKind.i64.wrap ((i : Int) + 1) = (i : Int) + 1 := i64_in _ (by omega) (by omega)
      obtain ⟨QB, qo, epo, hrg⟩ := HP.out (by omega)
      have rng := hrg wr HB.out.fr.1 i hlt
      have HPO : Hid (po = some ⟨QB, qo, none⟩) := epo
      rw [epo]
      clear epo hrg
      have hx := H32.out i hlt
      have hst := HST.out i hlt
      have hln := HLN.out i
      have heq := HEQ.out (g.getD i []) hx
      have lx : ((g.getD i []).map B8).length = 32 := by rw [List.length_map, hx]
      have ox : Hid (∀ u ∈ (g.getD i []).map B8, u.oneCell' = true) := B8_one _
      have HHL : Hid ((hexC (g.getD i [])).length = 64) := by show _ = _; rw [hexC_len, hx]
      have hnl := num_len (n := i) (by omega)
      generalize g.getD i [] = X at *
      by_cases hX : X = List.replicate 32 255#8
      · rw [decide_eq_true hX] at heq
        rw [if_pos hX, List.append_nil] at hst
        have HS : Hid (cellsL (g.take (i + 1)) 0 = cellsL (g.take i) 0) := hst
        clear hst hX
        go_upto_region 5 with (first
          | (refine wpList_load_mid rfl 56 (.tmp 14) rfl QB (qo + i * 32) rfl (X.map B8) _ rng Tryd.underlying56 rfl (by rw [lx]; kernel_rfl) ?_)
          | (refine wpList_store_Row rfl 56 (.tmp 7) _ rfl wr.heap.size 56 0 zc32 (X.map B8) (Row.at wr _ _ _ _ rfl rfl) (by rw [lx]; exact Nat.le_refl _) rfl rfl (by rw [lx]; kernel_rfl) ox.out ?_; intro w3 hr3 hs3))
        have HB3 : Hid (Buf N w (m ++ cellsL (g.take (i + 1)) 0) u0 w3) := by
          show Buf _ _ _ _ _
          rw [HS.out]; exact HB.out.below (new_cell hs3)
        have he3 : Row w3 EB 56 BC := HE.out.below (new_cell hs3) HE.out.lt
        have hx3 : Row w3 wr.heap.size 56 (X.map B8) := row_whole hr3 (by rw [lx]; exact Nat.le_refl _)
        have HE3 : Hid (Row w3 EB 56 BC) := he3
        clear hr3 hs3 HB HE rng
        generalize wr.heap.size = XB at *
        go_wp2_with (first
          | (refine wpList_load_Row rfl 56 (.tmp 7) rfl XB 56 (X.map B8) hx3 rfl _ Tryd.underlying56 rfl (by rw [lx]; kernel_rfl) ?_)
          | (refine wpList_load_Row rfl 56 (.tmp 5) rfl EB 56 BC he3 rfl _ Tryd.underlying56 rfl (by rw [lb]; kernel_rfl) ?_))
        exact ⟨⟨i + 1, by omega, by go_num, HB3, HE3⟩, by simp [intOf]; omega⟩
      · rw [decide_eq_false hX] at heq
        rw [if_neg hX] at hst
        have HS : Hid (m ++ cellsL (g.take (i + 1)) 0 = m ++ cellsL (g.take i) 0 ++ (wCell ++ numsL [i]) ++ [32#8] ++ hexC X ++ [10#8]) := by
          show _ = _
          rw [hst]
          unfold cellL numsL
          simp [List.append_assoc]
        have HHX : Hid (X.length = 32) := hx
        clear hst hX
        generalize m ++ cellsL (g.take i) 0 = M at *
        have HWL : Hid ((wCell ++ numsL [i]).length ≤ 30) := by
          show _ ≤ _
          rw [List.length_append, show numsL [i] = 32#8 :: num i from by unfold numsL; simp, List.length_cons]
          show 4 + _ ≤ 30
          omega
        go_upto_region 5 with (first
          | (refine wpList_load_mid rfl 56 (.tmp 14) rfl QB (qo + i * 32) rfl (X.map B8) _ rng Tryd.underlying56 rfl (by rw [lx]; kernel_rfl) ?_)
          | (refine wpList_store_Row rfl 56 (.tmp 7) _ rfl wr.heap.size 56 0 zc32 (X.map B8) (Row.at wr _ _ _ _ rfl rfl) (by rw [lx]; exact Nat.le_refl _) rfl rfl (by rw [lx]; kernel_rfl) ox.out ?_; intro w3 hr3 hs3))
        have HB3 : Hid (Buf N w M u0 w3) := HB.out.below (new_cell hs3)
        have he3 : Row w3 EB 56 BC := HE.out.below (new_cell hs3) HE.out.lt
        have hx3 : Row w3 wr.heap.size 56 (X.map B8) := row_whole hr3 (by rw [lx]; exact Nat.le_refl _)
        have HE3 : Hid (Row w3 EB 56 BC) := he3
        have HX3 : Hid (Row w3 wr.heap.size 56 (X.map B8)) := hx3
        clear hr3 hs3 HB HE rng
        generalize wr.heap.size = XB at *
        go_upto_region 6 with (first
          | (refine wpList_load_Row rfl 56 (.tmp 7) rfl XB 56 (X.map B8) hx3 rfl _ Tryd.underlying56 rfl (by rw [lx]; kernel_rfl) ?_)
          | (refine wpList_load_Row rfl 56 (.tmp 5) rfl EB 56 BC he3 rfl _ Tryd.underlying56 rfl (by rw [lb]; kernel_rfl) ?_))
        clear he3 hx3 heq
        have HB4 : Hid (Buf N w M u0 (w3.alloc (.cells #[.int .i64 (i : Int)] 3))) := HB3.out.alloc _
        have HR4 : Hid (Row (w3.alloc (.cells #[.int .i64 (i : Int)] 3)) w3.heap.size 3 [.int .i64 (i : Int)]) := Row.at w3 _ _ _ _ rfl rfl
        go_wp2_with fail
        refine (HAW.out _ _ M i w3.heap.size HB4.out.own (HT.out _ HB4.out.fr.1) hln (by omega) HR4.out).mono ?_
        rintro e w5 ⟨v5, rfl, hb5⟩
        dsimp only
        go_upto_region 7 with fail
        have HB5 : Hid (Buf N w (M ++ (wCell ++ numsL [i])) v5 w5) := ⟨hb5.own, HB4.out.fr.trans hb5.fr⟩
        have HE5 : Hid (Row w5 EB 56 BC) := hb5.row (HE3.out.alloc _) (by decide)
        have HX5 : Hid (Row w5 XB 56 (X.map B8)) := hb5.row (HX3.out.alloc _) (by decide)
        clear hb5 HB4 HR4 HB3 HE3 HX3
        have HL5 : Hid ((M ++ (wCell ++ numsL [i])).length ≤ 90000000200030) := by
          have := HWL.out
          show _ ≤ _
          rw [List.length_append]; omega
        generalize M ++ (wCell ++ numsL [i]) = M5 at *
        go_upto_region 8 with (at_builtin; refine wpList_bap1 rfl (.tmp 23) (.tmp 24) rfl N w5 _ M5 ⟨HB5.out.own, Fr.refl _ _⟩ rfl 32#8 32 rfl rfl (by have := HL5.out; omega) ?_; intro v6 w6 hb6)
        have HB6 : Hid (Buf N w (M5 ++ [32#8]) v6 w6) := ⟨hb6.own, HB5.out.fr.trans hb6.fr⟩
        have HE6 : Hid (Row w6 EB 56 BC) := hb6.row HE5.out (by decide)
        have hx6 : Row w6 XB 56 (X.map B8) := hb6.row HX5.out (by decide)
        clear hb6 HB5 HE5 HX5
        have HL6 : Hid ((M5 ++ [32#8]).length ≤ 90000000200031) := by
          have := HL5.out
          show _ ≤ _
          rw [List.length_append]; show _ + 1 ≤ _; omega
        generalize M5 ++ [32#8] = M6 at *
        go_wp2_with (refine wpList_load_Row rfl 56 (.tmp 7) rfl XB 56 (X.map B8) hx6 rfl _ Tryd.underlying56 rfl (by rw [lx]; kernel_rfl) ?_)
        refine (HAB.out _ _ M6 X HB6.out.own HHX.out (by have := HL6.out; omega)).mono ?_
        rintro e w7 ⟨v7, rfl, hb7⟩
        dsimp only
        go_upto_region 9 with fail
        have HB7 : Hid (Buf N w (M6 ++ hexC X) v7 w7) := ⟨hb7.own, HB6.out.fr.trans hb7.fr⟩
        have HE7 : Hid (Row w7 EB 56 BC) := hb7.row HE6.out (by decide)
        clear hb7 HB6 HE6 hx6
        have HL7 : Hid ((M6 ++ hexC X).length + 1 ≤ 140737488353280) := by
          have h1 := HL6.out
          have h2 := HHL.out
          show _ ≤ _
          rw [List.length_append]; omega
        generalize M6 ++ hexC X = M7 at *
        go_upto_region 10 with (at_builtin; refine wpList_bap1 rfl (.tmp 29) (.tmp 30) rfl N w7 _ M7 ⟨HB7.out.own, Fr.refl _ _⟩ rfl 10#8 10 rfl rfl HL7.out ?_; intro v8 w8 hb8)
        have HB8 : Hid (Buf N w (m ++ cellsL (g.take (i + 1)) 0) v8 w8) := by
          show Buf _ _ _ _ _
          rw [HS.out]; exact ⟨hb8.own, HB7.out.fr.trans hb8.fr⟩
        have HE8 : Hid (Row w8 EB 56 BC) := hb8.row HE7.out (by decide)
        clear hb8 HB7 HE7
        go_wp2
        exact ⟨⟨i + 1, by omega, by go_num, HB8, HE8⟩, by simp [intOf]; omega⟩
    · obtain rfl : i = g.length := by omega
      rw [HEND.out] at HB
      go_wp2
      go_ret
      exact ⟨_, rfl, HB.out⟩
end Go.Proofs.YtgpnbiaghokjkaaDoor
