import Derived.Test.YtgpnbiaghokjkaaDoorD21Wd

/-! Layer 21, the document's answer: values. -/
namespace Go.Proofs.YtgpnbiaghokjkaaDoor
open Go.RowKit
set_option linter.unusedVariables false
set_option linter.unusedSimpArgs false
set_option maxRecDepth 100000

theorem vals_app : ∀ (a b : List (List By)) (L : List Nat), vals? a = some L → vals? (a ++ b) = (vals? b).map (L ++ ·)
  | [], b, L, h => by
    injection h with h
    subst h
    rw [List.nil_append]
    cases vals? b <;> rfl
  | w :: a, b, L, h => by
    rw [vals?] at h
    split at h
    · rename_i n hn
      split at h
      · rename_i l' hl
        injection h with h
        subst h
        rw [List.cons_append, vals?, hn, vals_app a b l' hl]
        cases vals? b <;> rfl
      · cases h
    · cases h
theorem vals_step {ws : List (List By)} {k : Nat} {L : List Nat} {n : Nat} (h : vals? (ws.take k) = some L) (hk : k < ws.length) (hn : val? (ws.getD k []) = some n) : vals? (ws.take (k + 1)) = some (L ++ [n]) := by
  have e : ws.take (k + 1) = ws.take k ++ [ws.getD k []] := by
    rw [List.take_add_one, List.getElem?_eq_getElem hk, List.getD_eq_getElem?_getD, List.getElem?_eq_getElem hk]; rfl
  rw [e, vals_app _ _ L h, vals?, hn]; rfl
theorem vals_no {ws : List (List By)} {k : Nat} {L : List Nat} (h : vals? (ws.take k) = some L) (hk : k < ws.length) (hn : val? (ws.getD k []) = none) : vals? ws = none := by
  have e : ws = ws.take k ++ ws.getD k [] :: ws.drop (k + 1) := by
    conv => lhs; rw [← List.take_append_drop k ws]
    rw [List.drop_eq_getElem_cons hk, List.getD_eq_getElem?_getD, List.getElem?_eq_getElem hk]; rfl
  rw [e, vals_app _ _ L h, vals?, hn]; rfl
theorem vals_len : ∀ (ws : List (List By)) (L : List Nat), vals? ws = some L → L.length = ws.length
  | ws, L, h => by
    obtain ⟨e, _⟩ := vals_some ws L h
    rw [e, List.length_map]
theorem words_le (l : List By) : ∀ w ∈ wordsL l, w.length ≤ l.length := by
  induction l with
  | nil => intro w hw; simp [wordsL] at hw; rw [hw]; exact Nat.le_refl _
  | cons x l ih =>
    intro w hw
    rw [wordsL] at hw
    rw [List.length_cons]
    split at hw
    · rcases List.mem_cons.1 hw with rfl | hw
      · simp
      · have := ih w hw; omega
    · split at hw
      · rename_i w0 ws hws
        rcases List.mem_cons.1 hw with rfl | hw
        · have := ih w0 (by rw [hws]; exact List.mem_cons_self ..)
          rw [List.length_cons]; omega
        · have := ih w (by rw [hws]; exact List.mem_cons_of_mem _ hw); omega
      · rcases List.mem_cons.1 hw with rfl | hw
        · simp
        · cases hw
theorem words_len (l : List By) : 1 ≤ (wordsL l).length ∧ (wordsL l).length ≤ l.length + 1 := by
  induction l with
  | nil => simp [wordsL]
  | cons x l ih =>
    rw [wordsL]
    split
    · rw [List.length_cons, List.length_cons]; omega
    · split
      · rename_i w ws hw
        rw [hw] at ih
        rw [List.length_cons] at ih ⊢
        rw [List.length_cons]; omega
      · simp
/-- What values tells. -/
def ValP (N : Nat) (w : World) (l word : List By) (e : Ending) (w' : World) : Prop :=
  ((∃ v L, values? l word = some L ∧ e = .returned (.tuple #[v, .bool true]) ∧ OwnE 3 N w' v (L.map nI)) ∨ (values? l word = none ∧ e = .returned (.tuple #[.slice none 0 0, .bool false]))) ∧ Below N w w'
set_option maxHeartbeats 4000000 in
theorem r21values_any (l word : List By) (hl : l.length ≤ 2000000) (w : World) :
    Calls Tryd.prog 30 #[.string (strOf l), .string (strOf word)] w (ValP w.heap.size w l word) := by
  have HWD : Hid (∀ W, W = w → Calls Tryd.prog 46 #[.string (strOf l)] W fun e w' => ∃ v, e = .returned v ∧ OwnE 9 W.heap.size w' v ((wordsL l).map strV) ∧ Below W.heap.size W w') := by
    rintro W rfl
    exact r21words_any l (by omega) W
  obtain ⟨ws, hws⟩ : ∃ ws, wordsL l = ws := ⟨_, rfl⟩
  have hwl := words_len l
  have HWL : Hid (∀ x ∈ ws, x.length ≤ 4000000) := fun x hx => by
    have := words_le l x (by rw [hws]; exact hx)
    omega
  have HVA : Hid (values? l word = if ws.getD 0 [] = word then vals? ws.tail else none) := by
    show _ = _
    unfold values?
    rw [hws]
    cases ws with
    | nil => rw [hws] at hwl; simp at hwl
    | cons a b => rfl
  rw [hws] at HWD hwl
  clear hws
  generalize hVV : values? l word = VV at *
  have HVV : Hid (values? l word = VV) := hVV
  clear hVV
  have HVL : Hid (∀ (W : World) (x : List By), x.length ≤ 4000000 → Calls Tryd.prog 47 #[.string (strOf x)] W fun e w' => e = .returned (.tuple #[.int .i64 (valN x : Int), .bool (val? x).isSome]) ∧ Below W.heap.size W w') := fun W x hx => r21value_any x hx W
  have HQ := strOf_beq (ws.getD 0 []) word
  generalize strOf l = SL at *
  obtain ⟨n, hn⟩ : ∃ n, ws.length = n := ⟨_, rfl⟩
  have HN : Hid (ws.length = n) := hn
  rw [hn] at hwl
  clear hn
  have h10 : (0 : Int) < (n : Int) := by omega
  by_cases h0 : ws.getD 0 [] = word
  · rw [decide_eq_true h0] at HQ
    rw [if_pos h0] at HVA
    have hq2 : ((strOf (ws.getD 0 [])).toList != (strOf word).toList) = false := by rw [bne, HQ]; rfl
    have HC0 : Hid ((ws.map strV)[0]? = some (.string (strOf (ws.getD 0 [])))) := by
      show _ = _
      rw [List.getElem?_map, List.getD_eq_getElem?_getD, List.getElem?_eq_getElem (by rw [HN.out]; omega)]; rfl
    generalize strOf (ws.getD 0 []) = S0 at *
    generalize strOf word = SW at *
    clear h0
    go_enter Tryd.func30, Tryd.ntmps30
    go_wp2_with fail
    refine (HWD.out _ rfl).mono ?_
    rintro e w1 ⟨v1, rfl, ho1, hb1⟩
    dsimp only
    obtain ⟨g, c, hv1, hg, hgl, cc⟩ := ho1.at 0 _ HC0.out
    subst hv1
    rw [List.length_map, HN.out]
    have HO1 : Hid (OwnE 9 w.heap.size w1 (.slice (some ⟨g, 0, none⟩) n c) (ws.map strV)) := by
      have := ho1
      rw [List.length_map, HN.out] at this
      exact this
    have HB1 : Hid (Below w.heap.size w w1) := hb1
    clear ho1 hb1 HC0
    have HT : Hid (ws.tail.length = n - 1) := by show _ = _; rw [List.length_tail, HN.out]
    have HTG : Hid (∀ k, k + 1 < n → ws.tail.getD k [] = ws.getD (k + 1) []) := fun k hk => by
      show _ = _
      rw [List.getD_eq_getElem?_getD, List.getD_eq_getElem?_getD, List.getElem?_tail]
    have HO2 : Hid (OwnE 3 w1.heap.size (w1.alloc (.cells #[] 3)) (.slice (some ⟨w1.heap.size, 0, none⟩) 0 0) (([] : List Nat).map nI)) := ownE_empty 3 w1.heap.size w1 (Nat.le_refl _)
    have HB2 : Hid (Below w1.heap.size w1 (w1.alloc (.cells #[] 3))) := (Below.refl _ _).alloc (Nat.le_refl _) _
    have HWW : Hid (∀ W, Below w1.heap.size w1 W → ∀ k, k + 1 < n → W.cell? ⟨g, k + 1, none⟩ = some (.string (strOf (ws.tail.getD k [])))) := fun W hW k hk => by
      obtain ⟨g', c', e', hg', hl', cc'⟩ := HO1.out.at (k + 1) (.string (strOf (ws.tail.getD k []))) (by
        rw [HTG.out k hk, List.getElem?_map, List.getD_eq_getElem?_getD, List.getElem?_eq_getElem (by rw [HN.out]; exact hk)]; rfl)
      injection e' with e1 _ _
      injection e1 with e1
      injection e1 with e1 _
      subst e1
      exact (hW.cell (p := ⟨g, k + 1, none⟩) hl').trans cc'
    have HXL : Hid (∀ k, k + 1 < n → (ws.tail.getD k []).length ≤ 4000000) := fun k hk => by
      rw [HTG.out k hk]
      refine HWL.out _ ?_
      rw [List.getD_eq_getElem?_getD, List.getElem?_eq_getElem (by rw [HN.out]; exact hk)]; exact List.getElem_mem _
    have hN1w : w.heap.size ≤ w1.heap.size := HB1.out.size
    have HBB : Hid (∀ W, Below w1.heap.size w1 W → Below w.heap.size w W) := fun W hW => HB1.out.trans (hW.mono HB1.out.size)
    clear HO1 HB1 hgl hg HWL
    generalize hN1 : w1.heap.size = N1 at *
    go_wp2_with fail
    go_loopw [7, 8] (fun lv iv wr => ∃ (k : Nat) (L : List Nat), k + 1 ≤ n ∧ iv = .int .i64 ((k + 1 : Nat) : Int) ∧ L.length = k ∧ Hid (vals? (ws.tail.take k) = some L) ∧ Hid (OwnE 3 N1 wr lv (L.map nI)) ∧ Hid (Below N1 w1 wr)) (fun _ iv _ => n - (intOf iv).toNat)
    case atStart => exact ⟨0, [], by omega, rfl, rfl, rfl, HO2, HB2⟩
    case round =>
      clear HO2 HB2 cc
      obtain ⟨k, L, hk, rfl, hLk, HVS, HO, HB⟩ := hrel
      by_cases hlt : k + 1 < n
      · have y0 : (0 : Int) ≤ ((k + 1 : Nat) : Int) := by omega
        have y1 : ((k + 1 : Nat) : Int) < (n : Int) := by omega
        have cw := HWW.out _ HB.out k hlt
        have VL := HVL.out wr _ (HXL.out k hlt)
        have HS1 : Hid (∀ m, val? (ws.tail.getD k []) = some m → vals? (ws.tail.take (k + 1)) = some (L ++ [m])) := fun m hm => vals_step HVS.out (by rw [HT.out]; omega) hm
        have HS2 : Hid (val? (ws.tail.getD k []) = none → VV = none) := fun hm => by
          rw [HVA.out]
          exact vals_no HVS.out (by rw [HT.out]; omega) hm
        have HVN : Hid (∀ m, val? (ws.tail.getD k []) = some m → valN (ws.tail.getD k []) = m) := fun m hm => by
          unfold val? at hm
          split at hm
          · injection hm
          · cases hm
        have wk : IntKind.i64.wrap (((k + 1 : Nat) : Int) + 1) = ((k + 1 + 1 : Nat) : Int) := by rw [i64_in _ (by omega) (by omega)]; omega
        clear HVS
        generalize hK1 : k + 1 = K1 at *
        cases hv : val? (ws.tail.getD k []) with
        | none =>
          have HF : Hid (VV = none) := HS2.out hv
          rw [hv] at VL
          clear HS1 HS2 HVN hv
          generalize strOf (ws.tail.getD k []) = SX at *
          generalize valN (ws.tail.getD k []) = VN at *
          go_wp2_with fail
          refine VL.mono ?_
          rintro e w3 ⟨rfl, hb3⟩
          dsimp only
          have HB3 : Hid (Below w.heap.size w w3) := HBB.out _ (HB.out.trans (hb3.mono HO.out.2))
          clear hb3 VL
          go_wp2
          go_ret2
          exact ⟨.inr ⟨by rw [HVV.out, HF.out], rfl⟩, HB3.out⟩
        | some m =>
          have HF : Hid (vals? (ws.tail.take (k + 1)) = some (L ++ [m])) := by rw [hK1]; exact HS1.out m hv
          rw [hv, HVN.out m hv] at VL
          clear HS1 HS2 HVN hv
          generalize strOf (ws.tail.getD k []) = SX at *
          go_wp2_with fail
          refine VL.mono ?_
          rintro e w3 ⟨rfl, hb3⟩
          dsimp only
          have HO3 : Hid (OwnE 3 N1 w3 u7 (L.map nI)) := HO.out.keep hb3
          have HB3 : Hid (Below N1 w1 w3) := HB.out.trans (hb3.mono HO.out.2)
          have hml : (L.map nI).length ≤ 4000000 := by rw [List.length_map]; omega
          clear hb3 VL HO HB cw
          go_wp2_with (at_builtin; refine wpList_app1 el_ints rfl (.tmp 35) (.tmp 37) rfl N1 _ w1 _ (L.map nI) (.int .i64 (m : Int)) rfl _ rfl rfl rfl HO3.out HB3.out (by omega) (by unfold maxLen; omega) ?_; intro ao6 c6 w6 ho6 hb6)
          refine ⟨⟨K1, L ++ [m], by omega, by first | rfl | (rw [wk]) | go_num, by rw [List.length_append, hLk]; exact hK1, by rw [← hK1]; exact HF, ?_, hb6⟩, by simp [intOf]; omega⟩
          rw [List.length_map, show L.length + 1 = K1 by omega] at ho6
          rw [List.map_append]
          exact ho6
      · have hkn : k + 1 = n := by omega
        have y1 : ¬ ((k + 1 : Nat) : Int) < (n : Int) := by omega
        have HF : Hid (VV = some L) := by
          show _ = _
          rw [HVA.out, ← HVS.out, List.take_of_length_le (by rw [HT.out]; omega)]
        have HB3 : Hid (Below w.heap.size w wr) := HBB.out _ HB.out
        clear HVS HB
        generalize k + 1 = K1 at *
        go_wp2
        go_ret2
        exact ⟨.inl ⟨_, L, by rw [HVV.out, HF.out], rfl, HO.out.mono hN1w⟩, HB3.out⟩
  · rw [decide_eq_false h0] at HQ
    rw [if_neg h0] at HVA
    have hq2 : ((strOf (ws.getD 0 [])).toList != (strOf word).toList) = true := by rw [bne, HQ]; rfl
    have HC0 : Hid ((ws.map strV)[0]? = some (.string (strOf (ws.getD 0 [])))) := by
      show _ = _
      rw [List.getElem?_map, List.getD_eq_getElem?_getD, List.getElem?_eq_getElem (by rw [HN.out]; omega)]; rfl
    generalize strOf (ws.getD 0 []) = S0 at *
    generalize strOf word = SW at *
    clear h0
    go_enter Tryd.func30, Tryd.ntmps30
    go_wp2_with fail
    refine (HWD.out _ rfl).mono ?_
    rintro e w1 ⟨v1, rfl, ho1, hb1⟩
    dsimp only
    obtain ⟨g, c, hv1, hg, hgl, cc⟩ := ho1.at 0 _ HC0.out
    subst hv1
    rw [List.length_map, HN.out]
    clear ho1 HC0
    go_wp2
    go_ret2
    exact ⟨.inr ⟨by rw [HVV.out, HVA.out], rfl⟩, hb1⟩
end Go.Proofs.YtgpnbiaghokjkaaDoor


/-! Layer 21: a cell's digits, gone through. -/
namespace Go.Proofs.YtgpnbiaghokjkaaDoor
open Go.RowKit
set_option linter.unusedVariables false
set_option linter.unusedSimpArgs false
set_option maxRecDepth 100000

/-- The value of a digit of a row, 0 where it is none. -/
def hN (t : List By) (j : Nat) : Nat := (hv (t.getD j 0)).getD 0
theorem hN_lt (t : List By) (j : Nat) : hN t j < 16 := by
  unfold hN
  cases h : hv (t.getD j 0) with
  | none => show 0 < 16; omega
  | some n => exact (hv_facts _ n h).1
/-- The bytes of the first i digits. -/
def hexTo (t : List By) (i : Nat) : List By := (List.range 32).map fun k => if 2 * k + 1 < i then BitVec.ofNat 8 (16 * hN t (2 * k) + hN t (2 * k + 1)) else if 2 * k + 1 = i then BitVec.ofNat 8 (hN t (2 * k)) else 0
theorem hexTo_len (t : List By) (i : Nat) : (hexTo t i).length = 32 := by simp [hexTo]
theorem hexTo_zero (t : List By) : hexTo t 0 = List.replicate 32 0 := by
  apply List.ext_getElem?
  intro k
  unfold hexTo
  rw [List.getElem?_map, List.getElem?_replicate]
  by_cases hk : k < 32
  · rw [List.getElem?_range hk, if_pos hk, Option.map_some, if_neg (by omega), if_neg (by omega)]
  · rw [List.getElem?_eq_none (by simp; omega), if_neg hk]; rfl
theorem hexTo_get (t : List By) (i k : Nat) (hk : k < 32) : (hexTo t i).getD k 0 = if 2 * k + 1 < i then BitVec.ofNat 8 (16 * hN t (2 * k) + hN t (2 * k + 1)) else if 2 * k + 1 = i then BitVec.ofNat 8 (hN t (2 * k)) else 0 := by
  unfold hexTo
  rw [List.getD_eq_getElem?_getD, List.getElem?_map, List.getElem?_range hk]; rfl
/-- One digit more. -/
theorem hexTo_step (t : List By) (i : Nat) (hi : i < 64) : (hexTo t i).set (i / 2) (BitVec.ofNat 8 ((((hexTo t i).getD (i / 2) 0).toNat * 16) % 256 + hN t i)) = hexTo t (i + 1) := by
  have hk : i / 2 < 32 := by omega
  apply List.ext_getElem?
  intro k
  rw [List.getElem?_set, hexTo_len]
  by_cases e : i / 2 = k
  · subst e
    rw [if_pos rfl, if_pos hk, hexTo_get t i _ hk]
    unfold hexTo
    rw [List.getElem?_map, List.getElem?_range hk, Option.map_some]
    have h1 := hN_lt t (2 * (i / 2))
    have h2 := hN_lt t i
    by_cases hev : i % 2 = 0
    · have e1 : i = 2 * (i / 2) := by omega
      rw [if_neg (by omega), if_neg (by omega), if_neg (by omega), if_pos (by omega)]
      congr 1
      rw [← e1]
      congr 1
      show (0#8).toNat * 16 % 256 + hN t i = _
      simp
    · have e1 : 2 * (i / 2) + 1 = i := by omega
      rw [if_neg (by omega), if_pos e1, if_pos (by omega)]
      congr 2
      rw [BitVec.toNat_ofNat, e1]; omega
  · rw [if_neg e]
    unfold hexTo
    rw [List.getElem?_map, List.getElem?_map]
    by_cases hk2 : k < 32
    · rw [List.getElem?_range hk2, Option.map_some, Option.map_some]
      congr 1
      by_cases h1 : 2 * k + 1 < i
      · rw [if_pos h1, if_pos (by omega)]
      · by_cases h2 : 2 * k + 1 = i
        · omega
        · rw [if_neg h1, if_neg h2, if_neg (by omega), if_neg (by omega)]
    · rw [List.getElem?_eq_none (by simp; omega)]; rfl
theorem unhex_all : ∀ (k : Nat) (t : List By), t.length = 2 * k → (∀ j, j < 2 * k → hv (t.getD j 0) = some (hN t j)) → unhex t = some ((List.range k).map fun q => BitVec.ofNat 8 (16 * hN t (2 * q) + hN t (2 * q + 1)))
  | 0, t, hl, h => by
    obtain rfl : t = [] := List.eq_nil_of_length_eq_zero (by omega)
    rfl
  | k + 1, t, hl, h => by
    match t, hl with
    | a :: b :: r, hl =>
      rw [List.length_cons, List.length_cons] at hl
      have ih := unhex_all k r (by omega) (fun j hj => by
        have := h (j + 2) (by omega)
        exact this)
      have h0 := h 0 (by omega)
      have h1 := h 1 (by omega)
      have h0' : hv a = some (hN (a :: b :: r) 0) := h0
      have h1' : hv b = some (hN (a :: b :: r) 1) := h1
      rw [unhex, h0', h1', ih]
      show some (_ :: _) = _
      rw [List.range_succ_eq_map, List.map_cons, List.map_map]
      congr 1
theorem unhex_no : ∀ (t : List By) (j : Nat), j < t.length → hv (t.getD j 0) = none → unhex t = none
  | [], j, hj, _ => by simp at hj
  | [a], j, _, _ => rfl
  | a :: b :: r, 0, _, h => by
    have h' : hv a = none := h
    rw [unhex, h']
  | a :: b :: r, 1, _, h => by
    have h' : hv b = none := h
    rw [unhex, h']
    cases hv a <;> rfl
  | a :: b :: r, j + 2, hj, h => by
    have h' : hv (r.getD j 0) = none := h
    have := unhex_no r j (by simpa using hj) h'
    rw [unhex, this]
    cases hv a <;> cases hv b <;> rfl
theorem hexTo_end (t : List By) (hl : t.length = 64) (h : ∀ j, j < 64 → hv (t.getD j 0) = some (hN t j)) : unhex t = some (hexTo t 64) := by
  rw [unhex_all 32 t hl h]
  rfl
/-- Which digit it is, by the row of them. -/
theorem hv_of {c : By} {d : Nat} (hd : d < 16) (h : hx d = c) : hv c = some d := by rw [← h]; exact (hx_facts d hd).1
theorem hv_no {c : By} (h : ∀ d, d < 16 → ¬ hx d = c) : hv c = none := by
  cases hh : hv c with
  | none => rfl
  | some d =>
    obtain ⟨h1, h2⟩ := hv_facts c d hh
    exact absurd h2 (h d h1)
theorem one_eq (l : List By) : one? l = match wordsL l with
  | [w0, w1, w2] => if w0 = wCell ∧ w2.length = 64 then (match val? w1, unhex w2 with | some n, some x => if x = List.replicate 32 255#8 then none else some (n, x) | _, _ => none) else none
  | _ => none := rfl
/-- byte shifted by four, a digit put behind it. -/
theorem shl_or : ∀ (b : By) (d : Fin 16), bits .or .u8 (((b.toNat * 16) % 256 : Nat) : Int) ((d.val : Nat) : Int) = (((b.toNat * 16) % 256 + d.val : Nat) : Int) := by decide +kernel
end Go.Proofs.YtgpnbiaghokjkaaDoor
