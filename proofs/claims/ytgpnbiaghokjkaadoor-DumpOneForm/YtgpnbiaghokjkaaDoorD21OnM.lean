import Derived.Test.YtgpnbiaghokjkaaDoorD21Rd
import Derived.Test.YtgpnbiaghokjkaaDoorD21Hex

/-! Layer 21, the document's answer: words, value, values. -/
namespace Go.Proofs.YtgpnbiaghokjkaaDoor
open Go.RowKit
set_option linter.unusedVariables false
set_option linter.unusedSimpArgs false
set_option maxRecDepth 100000

/-- A slice of one-cell elements in memory of its own. -/
def OwnE (e N : Nat) (w : World) (v : Value) (vs : List Value) : Prop := w.ownsRow N e 1 v vs.length vs ∧ N ≤ w.heap.size
section
variable {e N : Nat} {w w' : World} {v : Value} {vs : List Value}
theorem OwnE.keep (h : OwnE e N w v vs) (hb : Below w.heap.size w w') : OwnE e N w' v vs := by
  refine ⟨⟨h.1.1, ?_⟩, Nat.le_trans h.2 hb.size⟩
  rcases h.1.2 with h1 | ⟨g, c, cur, e, hg, hh, hr⟩
  · exact .inl h1
  · exact .inr ⟨g, c, cur, e, hg, (hb.block g (Array.getElem?_eq_some_iff.1 hh).1).trans hh, hr⟩
theorem OwnE.form (h : OwnE e N w v vs) : ∃ ao c, v = .slice ao vs.length c := by
  rcases h.1.2 with ⟨e, e0⟩ | ⟨g, c, cur, e, _⟩
  · exact ⟨none, 0, by rw [e, e0]⟩
  · exact ⟨_, _, e⟩
theorem OwnE.at (h : OwnE e N w v vs) (j : Nat) (u : Value) (hu : vs[j]? = some u) : ∃ g c, v = .slice (some ⟨g, 0, none⟩) vs.length c ∧ N ≤ g ∧ g < w.heap.size ∧ w.cell? ⟨g, j, none⟩ = some u := by
  have hj : j < vs.length := (List.getElem?_eq_some_iff.1 hu).1
  obtain ⟨ao, c0, rfl⟩ := h.form
  have h1 := h.1
  rcases h.1.2 with ⟨e, e0⟩ | ⟨g, c, cur, e, hg, hh, _⟩
  · omega
  · injection e with e1 e2 e3
    subst e1
    refine ⟨g, c0, rfl, hg, (Array.getElem?_eq_some_iff.1 hh).1, ?_⟩
    rw [h1.cellAt j (by omega)]; exact hu
theorem OwnE.mono {M : Nat} (h : OwnE e N w v vs) (hM : M ≤ N) : OwnE e M w v vs := by
  refine ⟨⟨h.1.1, ?_⟩, Nat.le_trans hM h.2⟩
  rcases h.1.2 with h1 | ⟨g, c, cur, e, hg, hr⟩
  · exact .inl h1
  · exact .inr ⟨g, c, cur, e, Nat.le_trans hM hg, hr⟩
end
theorem ownE_empty (e N : Nat) (w : World) (h : N ≤ w.heap.size) : OwnE e N (w.alloc (.cells #[] e)) (.slice (some ⟨w.heap.size, 0, none⟩) 0 0) [] := ⟨owns_empty N w h e 1, by simp; omega⟩
/-- append of one element to a slice of one's own. -/
theorem wpList_app1 {T e bytes : Nat} {z : Value} (E : ElT T e 1 bytes z) {ops : Array Oper} {rest : List Oper} {o : Oper} {a : Act} {w : World} {Q : Exit → Act → World → Prop} (hgd : o.guard = none) (s x : Operand)
    (ho : o.op = .call { callee := .builtin .append, args := #[s, x], argTypes := #[T, T] })
    (N t : Nat) (a0 : World) (v : Value) (vs : List Value) (u : Value) (hu : u.oneCell' = true) (g0 : Nat) (hg0 : g0 = w.heap.size) (hs : a.eval s = v) (hx : a.eval x = .slice (some ⟨g0, 0, none⟩) 1 1)
    (hown : OwnE e N w v vs) (hbel : Below N a0 w) (hm : (vs.length + 1) * bytes ≤ 140737488355328) (hm2 : vs.length + 1 ≤ maxLen)
    (h : ∀ ao' c' w', OwnE e N w' (.slice ao' (vs.length + 1) c') (vs ++ [u]) → Below N a0 w' → wpList Tryd.prog ops Q rest (a.put o.dst (.slice ao' (vs.length + 1) c')) w') :
    wpList Tryd.prog ops Q (o :: rest) a (w.alloc (.cells #[u] t)) := by
  subst hg0
  obtain ⟨ao, c, rfl⟩ := hown.form
  refine wpList_append_gen E hgd s x ho N a0 ao vs.length c vs hs (hown.1.alloc _) (by have := hown.2; simp; omega) (hbel.alloc hown.2 _) (some ⟨w.heap.size, 0, none⟩) 1 1 [u] hx rfl (.inr ⟨_, _, rfl, fun j u' hu' => ?_⟩) ?_ (fun e => by cases e) hm2 hm ?_
  · rw [← Addr.add_mid]
    exact cell_one_new w _ t j u' hu'
  · intro u' hu'; simp at hu'; subst hu'; exact hu
  · intro ao' cap' w' h1 h2 h3 h4
    refine h ao' cap' w' ⟨?_, ?_⟩ h2
    · rw [List.length_append]; exact h1
    · have := hown.2; simp at h3; omega

def strV (l : List By) : Value := .string (strOf l)
theorem el_strs : ElT 34 9 1 16 (.string ⟨#[]⟩) := ⟨Tryd.underlying34, by kernel_rfl, rfl, by omega⟩

/-- The words of a line, gone through up to i, the last one begun at f. -/
structure Wds (l : List By) (ws : List (List By)) (f i : Nat) : Prop where
  fi : f ≤ i
  il : i ≤ l.length + 1
  n : ws.length ≤ i
  e : (i ≤ l.length ∧ wordsL l = ws ++ wordsL (l.drop f) ∧ 32#8 ∉ (l.drop f).take (i - f)) ∨ (i = l.length + 1 ∧ wordsL l = ws)
theorem Wds.zero (l : List By) : Wds l [] 0 0 := ⟨Nat.le_refl _, by omega, Nat.le_refl _, .inl ⟨by omega, by simp, by simp⟩⟩
theorem Wds.skip {l : List By} {ws : List (List By)} {f i : Nat} (h : Wds l ws f i) (hi : i < l.length) (hx : ¬ l.getD i 0 = 32#8) : Wds l ws f (i + 1) := by
  have hf := h.fi
  refine ⟨by omega, by omega, by have := h.n; omega, ?_⟩
  rcases h.e with ⟨h1, h2, h3⟩ | ⟨h1, _⟩
  · refine .inl ⟨by omega, h2, ?_⟩
    have e : (l.drop f).take (i + 1 - f) = (l.drop f).take (i - f) ++ [l.getD i 0] := by
      rw [show i + 1 - f = (i - f) + 1 by omega, List.take_add_one, List.getElem?_drop, show f + (i - f) = i by omega, List.getElem?_eq_getElem hi, List.getD_eq_getElem?_getD, List.getElem?_eq_getElem hi]; rfl
    rw [e, List.mem_append, not_or]
    exact ⟨h3, fun hm => hx (List.mem_singleton.1 hm).symm⟩
  · omega
theorem Wds.word {l : List By} {ws : List (List By)} {f i : Nat} (h : Wds l ws f i) (hi : i < l.length) (hx : l.getD i 0 = 32#8) : Wds l (ws ++ [(l.drop f).take (i - f)]) (i + 1) (i + 1) := by
  have hf := h.fi
  refine ⟨Nat.le_refl _, by omega, by rw [List.length_append]; have := h.n; simp; omega, ?_⟩
  rcases h.e with ⟨h1, h2, h3⟩ | ⟨h1, _⟩
  · refine .inl ⟨by omega, ?_, by simp⟩
    have e : l.drop f = (l.drop f).take (i - f) ++ 32#8 :: l.drop (i + 1) := by
      conv => lhs; rw [← List.take_append_drop (i - f) (l.drop f)]
      rw [List.drop_drop, show f + (i - f) = i by omega, List.drop_eq_getElem_cons hi]
      rw [List.getD_eq_getElem?_getD, List.getElem?_eq_getElem hi] at hx
      rw [show l[i] = 32#8 from hx]
    have h4 := wordsL_app ((l.drop f).take (i - f)) (l.drop (i + 1)) h3
    rw [← e] at h4
    rw [h2, h4, List.append_assoc]; rfl
  · omega
theorem Wds.last {l : List By} {ws : List (List By)} {f : Nat} (h : Wds l ws f l.length) : Wds l (ws ++ [(l.drop f).take (l.length - f)]) (l.length + 1) (l.length + 1) := by
  have hf := h.fi
  refine ⟨Nat.le_refl _, Nat.le_refl _, by rw [List.length_append]; have := h.n; simp; omega, .inr ⟨rfl, ?_⟩⟩
  rcases h.e with ⟨h1, h2, h3⟩ | ⟨h1, _⟩
  · have e : (l.drop f).take (l.length - f) = l.drop f := List.take_of_length_le (by rw [List.length_drop]; omega)
    rw [e] at h3
    rw [h2, wordsL_one _ h3, e]
  · omega

set_option maxHeartbeats 4000000 in
theorem r21words_any (l : List By) (hl : l.length ≤ 4000000) (w : World) :
    Calls Tryd.prog 46 #[.string (strOf l)] w fun e w' => ∃ v, e = .returned v ∧ OwnE 9 w.heap.size w' v ((wordsL l).map strV) ∧ Below w.heap.size w w' := by
  have slen : ∀ W : World, (Builtin.len_ #[9] 3 #[.string (strOf l)]).run Tryd.prog W = .ok (goInt l.length) W := fun W => str_len l 3 W
  have HIX : Hid (∀ (i : Nat), i < l.length → ∀ W : World, (Instr.index 9 (.string (strOf l)) (.int .i64 (i : Int))).run Tryd.prog W = .ok (.int .u8 ((l.getD i 0).toNat : Int)) W) := fun i hi W => str_index l .i64 i hi W
  have HSL : Hid (∀ (f i : Nat), f ≤ i → i ≤ l.length → ∀ W : World, (Instr.slice 9 (.string (strOf l)) (some (.int .i64 (f : Int))) (some (.int .i64 (i : Int))) none).run Tryd.prog W = .ok (.string (strOf ((l.drop f).take (i - f)))) W) := fun f i h1 h2 W => str_slice l .i64 .i64 f i h1 h2 W
  have HO0 : Hid (OwnE 9 w.heap.size (w.alloc (.cells #[] 9)) (.slice (some ⟨w.heap.size, 0, none⟩) 0 0) (([] : List (List By)).map strV)) := ownE_empty 9 w.heap.size w (Nat.le_refl _)
  have HB0 : Hid (Below w.heap.size w (w.alloc (.cells #[] 9))) := (Below.refl _ _).alloc (Nat.le_refl _) _
  generalize strOf l = ST at *
  go_enter Tryd.func46, Tryd.ntmps46
  go_wp2_with fail
  go_loopw [3, 4, 5] (fun lv fv iv wr => ∃ (ws : List (List By)) (f i : Nat), fv = .int .i64 f ∧ iv = .int .i64 i ∧ Hid (Wds l ws f i) ∧ Hid (OwnE 9 w.heap.size wr lv (ws.map strV)) ∧ Hid (Below w.heap.size w wr)) (fun _ _ iv _ => l.length + 1 - (intOf iv).toNat)
  case atStart => exact ⟨[], 0, 0, rfl, rfl, Wds.zero l, HO0, HB0⟩
  case round =>
    clear HO0 HB0
    obtain ⟨ws, f, i, rfl, rfl, HW, HO, HB⟩ := hrel
    have hfi := HW.out.fi
    have hil := HW.out.il
    have hwn := HW.out.n
    by_cases hle : i ≤ l.length
    · have y1 : (i : Int) ≤ (l.length : Int) := by omega
      have y0 : (0 : Int) ≤ (i : Int) := by omega
      have wi : IntKind.i64.wrap ((i : Int) + 1) = (i : Int) + 1 := i64_in _ (by omega) (by omega)
      by_cases hend : i = l.length
      · have he1 : ((i : Int) == (l.length : Int)) = true := by rw [beq_iff_eq]; omega
        have sl := HSL.out f i hfi hle
        have HW2 : Hid (Wds l (ws ++ [(l.drop f).take (i - f)]) (i + 1) (i + 1)) := by
          have := HW.out
          rw [hend] at this ⊢
          exact this.last
        obtain ⟨u, hu⟩ : ∃ u, strOf ((l.drop f).take (i - f)) = u := ⟨_, rfl⟩
        rw [hu] at sl
        have HU : Hid (strV ((l.drop f).take (i - f)) = .string u) := by rw [← hu]; exact rfl
        have hu1 : (Value.string u).oneCell' = true := rfl
        have hml : (ws.map strV).length ≤ 4000000 := by rw [List.length_map]; omega
        clear hu HW hend
        go_wp2_with (at_builtin; refine wpList_app1 el_strs rfl (.tmp 23) (.tmp 28) rfl w.heap.size _ w _ (ws.map strV) (.string u) hu1 _ rfl rfl rfl HO.out HB.out (by omega) (by unfold maxLen; omega) ?_; intro ao6 c6 w6 ho6 hb6)
        exact ⟨⟨ws ++ [(l.drop f).take (i - f)], i + 1, i + 1, by go_num, by go_num, HW2, by rw [List.map_append, List.map_cons, List.map_nil, HU.out]; rw [List.length_map] at ho6; exact ho6, hb6⟩, by simp [intOf]; omega⟩
      · have hlt : i < l.length := by omega
        have y2 : (i : Int) < (l.length : Int) := by omega
        have he1 : ((i : Int) == (l.length : Int)) = false := by rw [beq_eq_false_iff_ne]; omega
        have ix := HIX.out i hlt
        by_cases hx : l.getD i 0 = 32#8
        · have hxn : ((l.getD i 0).toNat : Int) = 32 := by rw [hx]; rfl
          rw [hxn] at ix
          have sl := HSL.out f i hfi hle
          have HW2 : Hid (Wds l (ws ++ [(l.drop f).take (i - f)]) (i + 1) (i + 1)) := HW.out.word hlt hx
          obtain ⟨u, hu⟩ : ∃ u, strOf ((l.drop f).take (i - f)) = u := ⟨_, rfl⟩
          rw [hu] at sl
          have HU : Hid (strV ((l.drop f).take (i - f)) = .string u) := by rw [← hu]; exact rfl
          have hu1 : (Value.string u).oneCell' = true := rfl
          have hml : (ws.map strV).length ≤ 4000000 := by rw [List.length_map]; omega
          clear hu HW hx hxn
          go_wp2_with (at_builtin; refine wpList_app1 el_strs rfl (.tmp 23) (.tmp 28) rfl w.heap.size _ w _ (ws.map strV) (.string u) hu1 _ rfl rfl rfl HO.out HB.out (by omega) (by unfold maxLen; omega) ?_; intro ao6 c6 w6 ho6 hb6)
          exact ⟨⟨ws ++ [(l.drop f).take (i - f)], i + 1, i + 1, by go_num, by go_num, HW2, by rw [List.map_append, List.map_cons, List.map_nil, HU.out]; rw [List.length_map] at ho6; exact ho6, hb6⟩, by simp [intOf]; omega⟩
        · have HW2 : Hid (Wds l ws f (i + 1)) := HW.out.skip hlt hx
          have hq : (((l.getD i 0).toNat : Int) == 32) = false := by
            rw [beq_eq_false_iff_ne]
            intro e
            exact hx (BitVec.eq_of_toNat_eq (by show (l.getD i 0).toNat = 32; omega))
          clear HW hx
          generalize (l.getD i 0).toNat = y at *
          go_wp2
          exact ⟨⟨ws, f, i + 1, by go_num, by go_num, HW2, HO, HB⟩, by simp [intOf]; omega⟩
    · have y1 : ¬ (i : Int) ≤ (l.length : Int) := by omega
      have HE : Hid (wordsL l = ws) := by
        rcases HW.out.e with ⟨h1, _⟩ | ⟨_, h1⟩
        · omega
        · exact h1
      clear HW
      go_wp2
      go_ret
      exact ⟨_, rfl, by rw [HE.out]; exact HO.out, HB.out⟩

/-- The number of the first i bytes of a word. -/
def valTo (l : List By) (i : Nat) : Nat := (l.take i).foldl (fun n c => 10 * n + c.toNat % 16) 0
theorem valTo_step (l : List By) (i : Nat) (hi : i < l.length) : valTo l (i + 1) = 10 * valTo l i + (l.getD i 0).toNat % 16 := by
  unfold valTo
  rw [List.take_add_one, List.getElem?_eq_getElem hi, List.foldl_append, List.getD_eq_getElem?_getD, List.getElem?_eq_getElem hi]; rfl
theorem valTo_lt (l : List By) : ∀ i, valTo l i < 16 ^ i
  | 0 => by simp [valTo]
  | i + 1 => by
    have ih' := valTo_lt l i
    by_cases hi : i < l.length
    · rw [valTo_step l i hi, Nat.pow_succ]
      omega
    · have e : valTo l (i + 1) = valTo l i := by
        unfold valTo
        rw [List.take_of_length_le (by omega), List.take_of_length_le (by omega)]
      rw [e, Nat.pow_succ]; omega
theorem valTo_b (l : List By) (i : Nat) (hi : i ≤ 11) : valTo l i < 17592186044416 := by
  have h := valTo_lt l i
  have : 16 ^ i ≤ 16 ^ 11 := Nat.pow_le_pow_right (by omega) hi
  omega
theorem val_isSome (l : List By) : (val? l).isSome = (decide (0 < l.length) && (decide (l.length < 11) && (decide (valN l ≤ 2147483647) && decide (num (valN l) = l)))) := by
  unfold val?
  split
  · rename_i h
    obtain ⟨h1, h2, h3, h4⟩ := h
    rw [decide_eq_true h1, decide_eq_true h2, decide_eq_true h3, decide_eq_true h4]; rfl
  · rename_i h
    symm
    rw [Option.isSome_none]
    by_cases h1 : 0 < l.length
    · by_cases h2 : l.length < 11
      · by_cases h3 : valN l ≤ 2147483647
        · have h4 : ¬ num (valN l) = l := fun e => h ⟨h1, h2, h3, e⟩
          rw [decide_eq_false h4]; simp
        · rw [decide_eq_false h3]; simp
      · rw [decide_eq_false h2]; simp
    · rw [decide_eq_false h1]; simp
set_option maxHeartbeats 4000000 in
theorem r21value_any (l : List By) (hl : l.length ≤ 4000000) (w : World) :
    Calls Tryd.prog 47 #[.string (strOf l)] w fun e w' => e = .returned (.tuple #[.int .i64 (valN l : Int), .bool (val? l).isSome]) ∧ Below w.heap.size w w' := by
  have slen : ∀ W : World, (Builtin.len_ #[9] 3 #[.string (strOf l)]).run Tryd.prog W = .ok (goInt l.length) W := fun W => str_len l 3 W
  have HIX : Hid (∀ (i : Nat), i < l.length → ∀ W : World, (Instr.index 9 (.string (strOf l)) (.int .i64 (i : Int))).run Tryd.prog W = .ok (.int .u8 ((l.getD i 0).toNat : Int)) W) := fun i hi W => str_index l .i64 i hi W
  have HVN : Hid (valN l = valTo l (min l.length 11)) := by
    show _ = _
    unfold valN valTo
    by_cases h : l.length ≤ 11
    · rw [Nat.min_eq_left h, List.take_of_length_le h, List.take_length]
    · rw [Nat.min_eq_right (by omega)]
  have HIS := val_isSome l
  have HNU : Hid (Calls Tryd.prog 24 #[.int .i64 (valN l : Int)] w fun e w' => e = .returned (.string (strOf (num (valN l)))) ∧ Below w.heap.size w w') := r21number_any (valN l) w (by rw [HVN.out]; have := valTo_b l (min l.length 11) (by omega); omega)
  have hq := strOf_beq (num (valN l)) l
  have HB : Hid (valN l < 17592186044416) := by rw [HVN.out]; exact valTo_b l _ (by omega)
  obtain ⟨b4, hb4⟩ : ∃ b, b = decide (num (valN l) = l) := ⟨_, rfl⟩
  rw [← hb4] at hq HIS
  have HI : Hid ((val? l).isSome = (decide (0 < l.length) && (decide (l.length < 11) && (decide (valN l ≤ 2147483647) && b4)))) := HIS
  clear HIS hb4
  generalize (val? l).isSome = R at *
  generalize strOf (num (valN l)) = SN at *
  generalize valN l = V at *
  generalize strOf l = ST at *
  obtain ⟨LL, hLL⟩ : ∃ LL, l.length = LL := ⟨_, rfl⟩
  have HLL : Hid (l.length = LL) := hLL
  simp only [hLL] at slen HIX HVN HI hl
  clear hLL
  go_enter Tryd.func47, Tryd.ntmps47
  go_wp2_with fail
  go_loopw [4, 5] (fun nv iv wr => ∃ i : Nat, i ≤ LL ∧ i ≤ 11 ∧ nv = .int .i64 (valTo l i : Int) ∧ iv = .int .i64 i ∧ wr = w) (fun _ iv _ => LL - (intOf iv).toNat)
  case atStart => exact ⟨0, by omega, by omega, rfl, rfl, rfl⟩
  case round =>
    obtain ⟨i, hi1, hi2, rfl, rfl, rfl⟩ := hrel
    have y0 : (0 : Int) ≤ (i : Int) := by omega
    by_cases hlt : i < LL ∧ i < 11
    · obtain ⟨h1, h2⟩ := hlt
      have y1 : (i : Int) < (LL : Int) := by omega
      have y2 : (i : Int) < 11 := by omega
      have d1 : decide ((i : Int) < (LL : Int)) = true := by simpa using y1
      have d2 : decide ((i : Int) < 11) = true := by simpa using y2
      have ix := HIX.out i h1
      have hst := valTo_step l i (by rw [HLL.out]; exact h1)
      have hb := valTo_b l i hi2
      have hbx := (l.getD i 0).isLt
      have m1 : IntKind.i64.wrap (10 * (valTo l i : Int)) = 10 * (valTo l i : Int) := i64_in _ (by omega) (by omega)
      have m2 : Int.tmod ((l.getD i 0).toNat : Int) 16 = (((l.getD i 0).toNat % 16 : Nat) : Int) := rfl
      have m3 : ((l.getD i 0).toNat : Int) % 16 = (((l.getD i 0).toNat % 16 : Nat) : Int) := by omega
      have m4 : IntKind.i64.wrap (10 * (valTo l i : Int) + (((l.getD i 0).toNat % 16 : Nat) : Int)) = (valTo l (i + 1) : Int) := by
        rw [i64_in _ (by omega) (by omega), hst]; omega
      have m5 : IntKind.i64.wrap ((l.getD i 0).toNat : Int) = ((l.getD i 0).toNat : Int) := i64_in _ (by omega) (by omega)
      clear hst hb hbx
      generalize (l.getD i 0).toNat % 16 = z at *
      generalize (l.getD i 0).toNat = y at *
      obtain ⟨V2, hV2⟩ : ∃ V2, valTo l (i + 1) = V2 := ⟨_, rfl⟩
      rw [hV2] at m4
      have HV2 : Hid (valTo l (i + 1) = V2) := hV2
      clear hV2
      generalize valTo l i = V1 at *
      go_wp2
      exact ⟨⟨i + 1, by omega, by omega, by rw [HV2.out], by go_num, by first | trivial | rfl⟩, by simp [intOf]; omega⟩
    · have hie : i = min LL 11 := by omega
      have hv : valTo l i = V := by rw [HVN.out, hie]
      rw [hv]
      have hb := HB.out
      clear hv
      by_cases h1 : 0 < LL
      · have g1 : decide ((LL : Int) > 0) = true := decide_eq_true (by omega)
        have g1' : decide ((0 : Int) < (LL : Int)) = true := decide_eq_true (by omega)
        by_cases h2 : LL < 11
        · have hil : i = LL := by omega
          have d1 : decide ((i : Int) < (LL : Int)) = false := decide_eq_false (by omega)
          have y1 : ¬ (i : Int) < (LL : Int) := by omega
          have g2 : decide ((LL : Int) < 11) = true := decide_eq_true (by omega)
          by_cases h3 : V ≤ 2147483647
          · have g3 : decide ((V : Int) ≤ 2147483647) = true := decide_eq_true (by omega)
            have HR : Hid (R = b4) := by
              show _ = _
              rw [HI.out, decide_eq_true h1, decide_eq_true h2, decide_eq_true h3]; rfl
            clear h2 h3 hlt hie hil
            go_wp2_with fail
            refine HNU.out.mono ?_
            rintro e w2 ⟨rfl, hb2⟩
            dsimp only
            go_wp2
            go_ret2
            exact ⟨by rw [HR.out]; rfl, hb2⟩
          · have g3 : decide ((V : Int) ≤ 2147483647) = false := decide_eq_false (by omega)
            have HR : Hid (R = false) := by
              show _ = _
              rw [HI.out, decide_eq_false h3]; simp
            clear h2 h3 hlt hie hil
            go_wp2
            go_ret2
            exact ⟨by rw [HR.out]; rfl, Below.refl _ _⟩
        · have g2 : decide ((LL : Int) < 11) = false := decide_eq_false (by omega)
          have HR : Hid (R = false) := by
            show _ = _
            rw [HI.out, decide_eq_false h2]; simp
          by_cases h4 : i < LL
          · have d1 : decide ((i : Int) < (LL : Int)) = true := decide_eq_true (by omega)
            have d2 : decide ((i : Int) < 11) = false := decide_eq_false (by omega)
            have y1 : (i : Int) < (LL : Int) := by omega
            have y2 : ¬ (i : Int) < 11 := by omega
            clear h2 hlt hie h4
            go_wp2
            go_ret2
            exact ⟨by rw [HR.out]; rfl, Below.refl _ _⟩
          · have d1 : decide ((i : Int) < (LL : Int)) = false := decide_eq_false (by omega)
            have y1 : ¬ (i : Int) < (LL : Int) := by omega
            clear h2 hlt hie h4
            go_wp2
            go_ret2
            exact ⟨by rw [HR.out]; rfl, Below.refl _ _⟩
      · have g1 : decide ((LL : Int) > 0) = false := decide_eq_false (by omega)
        have g1' : decide ((0 : Int) < (LL : Int)) = false := decide_eq_false (by omega)
        have g1'' : decide (0 < LL) = false := decide_eq_false (by omega)
        have hL0 : LL = 0 := by omega
        have d1 : decide ((i : Int) < (LL : Int)) = false := decide_eq_false (by omega)
        have y1 : ¬ (i : Int) < (LL : Int) := by omega
        have HR : Hid (R = false) := by
          show _ = _
          rw [HI.out, decide_eq_false h1]; simp
        subst hL0
        clear h1 hlt hie
        go_wp2
        go_ret2
        exact ⟨by rw [HR.out]; rfl, Below.refl _ _⟩
end Go.Proofs.YtgpnbiaghokjkaaDoor


/-! Layer 21, the document's answer: values. -/
namespace Go.Proofs.YtgpnbiaghokjkaaDoor
open Go.RowKit
set_option linter.unusedVariables false
set_option linter.unusedSimpArgs false
set_option maxRecDepth 100000

theorem vals_app : ∀ (a b : List (List By)) (L : List Nat), vals? a = some L → vals? (a ++ b) = (vals? b).map (L ++ ·)
  | [], b, L, h => by
    injection h with h
    subst h
    rw [List.nil_append]
    cases vals? b <;> rfl
  | w :: a, b, L, h => by
    rw [vals?] at h
    split at h
    · rename_i n hn
      split at h
      · rename_i l' hl
        injection h with h
        subst h
        rw [List.cons_append, vals?, hn, vals_app a b l' hl]
        cases vals? b <;> rfl
      · cases h
    · cases h
theorem vals_step {ws : List (List By)} {k : Nat} {L : List Nat} {n : Nat} (h : vals? (ws.take k) = some L) (hk : k < ws.length) (hn : val? (ws.getD k []) = some n) : vals? (ws.take (k + 1)) = some (L ++ [n]) := by
  have e : ws.take (k + 1) = ws.take k ++ [ws.getD k []] := by
    rw [List.take_add_one, List.getElem?_eq_getElem hk, List.getD_eq_getElem?_getD, List.getElem?_eq_getElem hk]; rfl
  rw [e, vals_app _ _ L h, vals?, hn]; rfl
theorem vals_no {ws : List (List By)} {k : Nat} {L : List Nat} (h : vals? (ws.take k) = some L) (hk : k < ws.length) (hn : val? (ws.getD k []) = none) : vals? ws = none := by
  have e : ws = ws.take k ++ ws.getD k [] :: ws.drop (k + 1) := by
    conv => lhs; rw [← List.take_append_drop k ws]
    rw [List.drop_eq_getElem_cons hk, List.getD_eq_getElem?_getD, List.getElem?_eq_getElem hk]; rfl
  rw [e, vals_app _ _ L h, vals?, hn]; rfl
theorem vals_len : ∀ (ws : List (List By)) (L : List Nat), vals? ws = some L → L.length = ws.length
  | ws, L, h => by
    obtain ⟨e, _⟩ := vals_some ws L h
    rw [e, List.length_map]
theorem words_le (l : List By) : ∀ w ∈ wordsL l, w.length ≤ l.length := by
  induction l with
  | nil => intro w hw; simp [wordsL] at hw; rw [hw]; exact Nat.le_refl _
  | cons x l ih =>
    intro w hw
    rw [wordsL] at hw
    rw [List.length_cons]
    split at hw
    · rcases List.mem_cons.1 hw with rfl | hw
      · simp
      · have := ih w hw; omega
    · split at hw
      · rename_i w0 ws hws
        rcases List.mem_cons.1 hw with rfl | hw
        · have := ih w0 (by rw [hws]; exact List.mem_cons_self ..)
          rw [List.length_cons]; omega
        · have := ih w (by rw [hws]; exact List.mem_cons_of_mem _ hw); omega
      · rcases List.mem_cons.1 hw with rfl | hw
        · simp
        · cases hw
theorem words_len (l : List By) : 1 ≤ (wordsL l).length ∧ (wordsL l).length ≤ l.length + 1 := by
  induction l with
  | nil => simp [wordsL]
  | cons x l ih =>
    rw [wordsL]
    split
    · rw [List.length_cons, List.length_cons]; omega
    · split
      · rename_i w ws hw
        rw [hw] at ih
        rw [List.length_cons] at ih ⊢
        rw [List.length_cons]; omega
      · simp
/-- What values tells. -/
def ValP (N : Nat) (w : World) (l word : List By) (e : Ending) (w' : World) : Prop :=
  ((∃ v L, values? l word = some L ∧ e = .returned (.tuple #[v, .bool true]) ∧ OwnE 3 N w' v (L.map nI)) ∨ (values? l word = none ∧ e = .returned (.tuple #[.slice none 0 0, .bool false]))) ∧ Below N w w'
set_option maxHeartbeats 4000000 in
theorem r21values_any (l word : List By) (hl : l.length ≤ 2000000) (w : World) :
    Calls Tryd.prog 30 #[.string (strOf l), .string (strOf word)] w (ValP w.heap.size w l word) := by
  have HWD : Hid (∀ W, W = w → Calls Tryd.prog 46 #[.string (strOf l)] W fun e w' => ∃ v, e = .returned v ∧ OwnE 9 W.heap.size w' v ((wordsL l).map strV) ∧ Below W.heap.size W w') := by
    rintro W rfl
    exact r21words_any l (by omega) W
  obtain ⟨ws, hws⟩ : ∃ ws, wordsL l = ws := ⟨_, rfl⟩
  have hwl := words_len l
  have HWL : Hid (∀ x ∈ ws, x.length ≤ 4000000) := fun x hx => by
    have := words_le l x (by rw [hws]; exact hx)
    omega
  have HVA : Hid (values? l word = if ws.getD 0 [] = word then vals? ws.tail else none) := by
    show _ = _
    unfold values?
    rw [hws]
    cases ws with
    | nil => rw [hws] at hwl; simp at hwl
    | cons a b => rfl
  rw [hws] at HWD hwl
  clear hws
  generalize hVV : values? l word = VV at *
  have HVV : Hid (values? l word = VV) := hVV
  clear hVV
  have HVL : Hid (∀ (W : World) (x : List By), x.length ≤ 4000000 → Calls Tryd.prog 47 #[.string (strOf x)] W fun e w' => e = .returned (.tuple #[.int .i64 (valN x : Int), .bool (val? x).isSome]) ∧ Below W.heap.size W w') := fun W x hx => r21value_any x hx W
  have HQ := strOf_beq (ws.getD 0 []) word
  generalize strOf l = SL at *
  obtain ⟨n, hn⟩ : ∃ n, ws.length = n := ⟨_, rfl⟩
  have HN : Hid (ws.length = n) := hn
  rw [hn] at hwl
  clear hn
  have h10 : (0 : Int) < (n : Int) := by omega
  by_cases h0 : ws.getD 0 [] = word
  · rw [decide_eq_true h0] at HQ
    rw [if_pos h0] at HVA
    have hq2 : ((strOf (ws.getD 0 [])).toList != (strOf word).toList) = false := by rw [bne, HQ]; rfl
    have HC0 : Hid ((ws.map strV)[0]? = some (.string (strOf (ws.getD 0 [])))) := by
      show _ = _
      rw [List.getElem?_map, List.getD_eq_getElem?_getD, List.getElem?_eq_getElem (by rw [HN.out]; omega)]; rfl
    generalize strOf (ws.getD 0 []) = S0 at *
    generalize strOf word = SW at *
    clear h0
    go_enter Tryd.func30, Tryd.ntmps30
    go_wp2_with fail
    refine (HWD.out _ rfl).mono ?_
    rintro e w1 ⟨v1, rfl, ho1, hb1⟩
    dsimp only
    obtain ⟨g, c, hv1, hg, hgl, cc⟩ := ho1.at 0 _ HC0.out
    subst hv1
    rw [List.length_map, HN.out]
    have HO1 : Hid (OwnE 9 w.heap.size w1 (.slice (some ⟨g, 0, none⟩) n c) (ws.map strV)) := by
      have := ho1
      rw [List.length_map, HN.out] at this
      exact this
    have HB1 : Hid (Below w.heap.size w w1) := hb1
    clear ho1 hb1 HC0
    have HT : Hid (ws.tail.length = n - 1) := by show _ = _; rw [List.length_tail, HN.out]
    have HTG : Hid (∀ k, k + 1 < n → ws.tail.getD k [] = ws.getD (k + 1) []) := fun k hk => by
      show _ = _
      rw [List.getD_eq_getElem?_getD, List.getD_eq_getElem?_getD, List.getElem?_tail]
    have HO2 : Hid (OwnE 3 w1.heap.size (w1.alloc (.cells #[] 3)) (.slice (some ⟨w1.heap.size, 0, none⟩) 0 0) (([] : List Nat).map nI)) := ownE_empty 3 w1.heap.size w1 (Nat.le_refl _)
    have HB2 : Hid (Below w1.heap.size w1 (w1.alloc (.cells #[] 3))) := (Below.refl _ _).alloc (Nat.le_refl _) _
    have HWW : Hid (∀ W, Below w1.heap.size w1 W → ∀ k, k + 1 < n → W.cell? ⟨g, k + 1, none⟩ = some (.string (strOf (ws.tail.getD k [])))) := fun W hW k hk => by
      obtain ⟨g', c', e', hg', hl', cc'⟩ := HO1.out.at (k + 1) (.string (strOf (ws.tail.getD k []))) (by
        rw [HTG.out k hk, List.getElem?_map, List.getD_eq_getElem?_getD, List.getElem?_eq_getElem (by rw [HN.out]; exact hk)]; rfl)
      injection e' with e1 _ _
      injection e1 with e1
      injection e1 with e1 _
      subst e1
      exact (hW.cell (p := ⟨g, k + 1, none⟩) hl').trans cc'
    have HXL : Hid (∀ k, k + 1 < n → (ws.tail.getD k []).length ≤ 4000000) := fun k hk => by
      rw [HTG.out k hk]
      refine HWL.out _ ?_
      rw [List.getD_eq_getElem?_getD, List.getElem?_eq_getElem (by rw [HN.out]; exact hk)]; exact List.getElem_mem _
    have hN1w : w.heap.size ≤ w1.heap.size := HB1.out.size
    have HBB : Hid (∀ W, Below w1.heap.size w1 W → Below w.heap.size w W) := fun W hW => HB1.out.trans (hW.mono HB1.out.size)
    clear HO1 HB1 hgl hg HWL
    generalize hN1 : w1.heap.size = N1 at *
    go_wp2_with fail
    go_loopw [7, 8] (fun lv iv wr => ∃ (k : Nat) (L : List Nat), k + 1 ≤ n ∧ iv = .int .i64 ((k + 1 : Nat) : Int) ∧ L.length = k ∧ Hid (vals? (ws.tail.take k) = some L) ∧ Hid (OwnE 3 N1 wr lv (L.map nI)) ∧ Hid (Below N1 w1 wr)) (fun _ iv _ => n - (intOf iv).toNat)
    case atStart => exact ⟨0, [], by omega, rfl, rfl, rfl, HO2, HB2⟩
    case round =>
      clear HO2 HB2 cc
      obtain ⟨k, L, hk, rfl, hLk, HVS, HO, HB⟩ := hrel
      by_cases hlt : k + 1 < n
      · have y0 : (0 : Int) ≤ ((k + 1 : Nat) : Int) := by omega
        have y1 : ((k + 1 : Nat) : Int) < (n : Int) := by omega
        have cw := HWW.out _ HB.out k hlt
        have VL := HVL.out wr _ (HXL.out k hlt)
        have HS1 : Hid (∀ m, val? (ws.tail.getD k []) = some m → vals? (ws.tail.take (k + 1)) = some (L ++ [m])) := fun m hm => vals_step HVS.out (by rw [HT.out]; omega) hm
        have HS2 : Hid (val? (ws.tail.getD k []) = none → VV = none) := fun hm => by
          rw [HVA.out]
          exact vals_no HVS.out (by rw [HT.out]; omega) hm
        have HVN : Hid (∀ m, val? (ws.tail.getD k []) = some m → valN (ws.tail.getD k []) = m) := fun m hm => by
          unfold val? at hm
          split at hm
          · injection hm
          · cases hm
        have wk : IntKind.i64.wrap (((k + 1 : Nat) : Int) + 1) = ((k + 1 + 1 : Nat) : Int) := by rw [i64_in _ (by omega) (by omega)]; omega
        clear HVS
        generalize hK1 : k + 1 = K1 at *
        cases hv : val? (ws.tail.getD k []) with
        | none =>
          have HF : Hid (VV = none) := HS2.out hv
          rw [hv] at VL
          clear HS1 HS2 HVN hv
          generalize strOf (ws.tail.getD k []) = SX at *
          generalize valN (ws.tail.getD k []) = VN at *
          go_wp2_with fail
          refine VL.mono ?_
          rintro e w3 ⟨rfl, hb3⟩
          dsimp only
          have HB3 : Hid (Below w.heap.size w w3) := HBB.out _ (HB.out.trans (hb3.mono HO.out.2))
          clear hb3 VL
          go_wp2
          go_ret2
          exact ⟨.inr ⟨by rw [HVV.out, HF.out], rfl⟩, HB3.out⟩
        | some m =>
          have HF : Hid (vals? (ws.tail.take (k + 1)) = some (L ++ [m])) := by rw [hK1]; exact HS1.out m hv
          rw [hv, HVN.out m hv] at VL
          clear HS1 HS2 HVN hv
          generalize strOf (ws.tail.getD k []) = SX at *
          go_wp2_with fail
          refine VL.mono ?_
          rintro e w3 ⟨rfl, hb3⟩
          dsimp only
          have HO3 : Hid (OwnE 3 N1 w3 u7 (L.map nI)) := HO.out.keep hb3
          have HB3 : Hid (Below N1 w1 w3) := HB.out.trans (hb3.mono HO.out.2)
          have hml : (L.map nI).length ≤ 4000000 := by rw [List.length_map]; omega
          clear hb3 VL HO HB cw
          go_wp2_with (at_builtin; refine wpList_app1 el_ints rfl (.tmp 35) (.tmp 37) rfl N1 _ w1 _ (L.map nI) (.int .i64 (m : Int)) rfl _ rfl rfl rfl HO3.out HB3.out (by omega) (by unfold maxLen; omega) ?_; intro ao6 c6 w6 ho6 hb6)
          refine ⟨⟨K1, L ++ [m], by omega, by first | rfl | (rw [wk]) | go_num, by rw [List.length_append, hLk]; exact hK1, by rw [← hK1]; exact HF, ?_, hb6⟩, by simp [intOf]; omega⟩
          rw [List.length_map, show L.length + 1 = K1 by omega] at ho6
          rw [List.map_append]
          exact ho6
      · have hkn : k + 1 = n := by omega
        have y1 : ¬ ((k + 1 : Nat) : Int) < (n : Int) := by omega
        have HF : Hid (VV = some L) := by
          show _ = _
          rw [HVA.out, ← HVS.out, List.take_of_length_le (by rw [HT.out]; omega)]
        have HB3 : Hid (Below w.heap.size w wr) := HBB.out _ HB.out
        clear HVS HB
        generalize k + 1 = K1 at *
        go_wp2
        go_ret2
        exact ⟨.inl ⟨_, L, by rw [HVV.out, HF.out], rfl, HO.out.mono hN1w⟩, HB3.out⟩
  · rw [decide_eq_false h0] at HQ
    rw [if_neg h0] at HVA
    have hq2 : ((strOf (ws.getD 0 [])).toList != (strOf word).toList) = true := by rw [bne, HQ]; rfl
    have HC0 : Hid ((ws.map strV)[0]? = some (.string (strOf (ws.getD 0 [])))) := by
      show _ = _
      rw [List.getElem?_map, List.getD_eq_getElem?_getD, List.getElem?_eq_getElem (by rw [HN.out]; omega)]; rfl
    generalize strOf (ws.getD 0 []) = S0 at *
    generalize strOf word = SW at *
    clear h0
    go_enter Tryd.func30, Tryd.ntmps30
    go_wp2_with fail
    refine (HWD.out _ rfl).mono ?_
    rintro e w1 ⟨v1, rfl, ho1, hb1⟩
    dsimp only
    obtain ⟨g, c, hv1, hg, hgl, cc⟩ := ho1.at 0 _ HC0.out
    subst hv1
    rw [List.length_map, HN.out]
    clear ho1 HC0
    go_wp2
    go_ret2
    exact ⟨.inr ⟨by rw [HVV.out, HVA.out], rfl⟩, hb1⟩
end Go.Proofs.YtgpnbiaghokjkaaDoor


/-! Layer 21: a cell's digits, gone through. -/
namespace Go.Proofs.YtgpnbiaghokjkaaDoor
open Go.RowKit
set_option linter.unusedVariables false
set_option linter.unusedSimpArgs false
set_option maxRecDepth 100000

/-- The value of a digit of a row, 0 where it is none. -/
def hN (t : List By) (j : Nat) : Nat := (hv (t.getD j 0)).getD 0
theorem hN_lt (t : List By) (j : Nat) : hN t j < 16 := by
  unfold hN
  cases h : hv (t.getD j 0) with
  | none => show 0 < 16; omega
  | some n => exact (hv_facts _ n h).1
/-- The bytes of the first i digits. -/
def hexTo (t : List By) (i : Nat) : List By := (List.range 32).map fun k => if 2 * k + 1 < i then BitVec.ofNat 8 (16 * hN t (2 * k) + hN t (2 * k + 1)) else if 2 * k + 1 = i then BitVec.ofNat 8 (hN t (2 * k)) else 0
theorem hexTo_len (t : List By) (i : Nat) : (hexTo t i).length = 32 := by simp [hexTo]
theorem hexTo_zero (t : List By) : hexTo t 0 = List.replicate 32 0 := by
  apply List.ext_getElem?
  intro k
  unfold hexTo
  rw [List.getElem?_map, List.getElem?_replicate]
  by_cases hk : k < 32
  · rw [List.getElem?_range hk, if_pos hk, Option.map_some, if_neg (by omega), if_neg (by omega)]
  · rw [List.getElem?_eq_none (by simp; omega), if_neg hk]; rfl
theorem hexTo_get (t : List By) (i k : Nat) (hk : k < 32) : (hexTo t i).getD k 0 = if 2 * k + 1 < i then BitVec.ofNat 8 (16 * hN t (2 * k) + hN t (2 * k + 1)) else if 2 * k + 1 = i then BitVec.ofNat 8 (hN t (2 * k)) else 0 := by
  unfold hexTo
  rw [List.getD_eq_getElem?_getD, List.getElem?_map, List.getElem?_range hk]; rfl
/-- One digit more. -/
theorem hexTo_step (t : List By) (i : Nat) (hi : i < 64) : (hexTo t i).set (i / 2) (BitVec.ofNat 8 ((((hexTo t i).getD (i / 2) 0).toNat * 16) % 256 + hN t i)) = hexTo t (i + 1) := by
  have hk : i / 2 < 32 := by omega
  apply List.ext_getElem?
  intro k
  rw [List.getElem?_set, hexTo_len]
  by_cases e : i / 2 = k
  · subst e
    rw [if_pos rfl, if_pos hk, hexTo_get t i _ hk]
    unfold hexTo
    rw [List.getElem?_map, List.getElem?_range hk, Option.map_some]
    have h1 := hN_lt t (2 * (i / 2))
    have h2 := hN_lt t i
    by_cases hev : i % 2 = 0
    · have e1 : i = 2 * (i / 2) := by omega
      rw [if_neg (by omega), if_neg (by omega), if_neg (by omega), if_pos (by omega)]
      congr 1
      rw [← e1]
      congr 1
      show (0#8).toNat * 16 % 256 + hN t i = _
      simp
    · have e1 : 2 * (i / 2) + 1 = i := by omega
      rw [if_neg (by omega), if_pos e1, if_pos (by omega)]
      congr 2
      rw [BitVec.toNat_ofNat, e1]; omega
  · rw [if_neg e]
    unfold hexTo
    rw [List.getElem?_map, List.getElem?_map]
    by_cases hk2 : k < 32
    · rw [List.getElem?_range hk2, Option.map_some, Option.map_some]
      congr 1
      by_cases h1 : 2 * k + 1 < i
      · rw [if_pos h1, if_pos (by omega)]
      · by_cases h2 : 2 * k + 1 = i
        · omega
        · rw [if_neg h1, if_neg h2, if_neg (by omega), if_neg (by omega)]
    · rw [List.getElem?_eq_none (by simp; omega)]; rfl
theorem unhex_all : ∀ (k : Nat) (t : List By), t.length = 2 * k → (∀ j, j < 2 * k → hv (t.getD j 0) = some (hN t j)) → unhex t = some ((List.range k).map fun q => BitVec.ofNat 8 (16 * hN t (2 * q) + hN t (2 * q + 1)))
  | 0, t, hl, h => by
    obtain rfl : t = [] := List.eq_nil_of_length_eq_zero (by omega)
    rfl
  | k + 1, t, hl, h => by
    match t, hl with
    | a :: b :: r, hl =>
      rw [List.length_cons, List.length_cons] at hl
      have ih := unhex_all k r (by omega) (fun j hj => by
        have := h (j + 2) (by omega)
        exact this)
      have h0 := h 0 (by omega)
      have h1 := h 1 (by omega)
      have h0' : hv a = some (hN (a :: b :: r) 0) := h0
      have h1' : hv b = some (hN (a :: b :: r) 1) := h1
      rw [unhex, h0', h1', ih]
      show some (_ :: _) = _
      rw [List.range_succ_eq_map, List.map_cons, List.map_map]
      congr 1
theorem unhex_no : ∀ (t : List By) (j : Nat), j < t.length → hv (t.getD j 0) = none → unhex t = none
  | [], j, hj, _ => by simp at hj
  | [a], j, _, _ => rfl
  | a :: b :: r, 0, _, h => by
    have h' : hv a = none := h
    rw [unhex, h']
  | a :: b :: r, 1, _, h => by
    have h' : hv b = none := h
    rw [unhex, h']
    cases hv a <;> rfl
  | a :: b :: r, j + 2, hj, h => by
    have h' : hv (r.getD j 0) = none := h
    have := unhex_no r j (by simpa using hj) h'
    rw [unhex, this]
    cases hv a <;> cases hv b <;> rfl
theorem hexTo_end (t : List By) (hl : t.length = 64) (h : ∀ j, j < 64 → hv (t.getD j 0) = some (hN t j)) : unhex t = some (hexTo t 64) := by
  rw [unhex_all 32 t hl h]
  rfl
/-- Which digit it is, by the row of them. -/
theorem hv_of {c : By} {d : Nat} (hd : d < 16) (h : hx d = c) : hv c = some d := by rw [← h]; exact (hx_facts d hd).1
theorem hv_no {c : By} (h : ∀ d, d < 16 → ¬ hx d = c) : hv c = none := by
  cases hh : hv c with
  | none => rfl
  | some d =>
    obtain ⟨h1, h2⟩ := hv_facts c d hh
    exact absurd h2 (h d h1)
theorem one_eq (l : List By) : one? l = match wordsL l with
  | [w0, w1, w2] => if w0 = wCell ∧ w2.length = 64 then (match val? w1, unhex w2 with | some n, some x => if x = List.replicate 32 255#8 then none else some (n, x) | _, _ => none) else none
  | _ => none := rfl
/-- byte shifted by four, a digit put behind it. -/
theorem shl_or : ∀ (b : By) (d : Fin 16), bits .or .u8 (((b.toNat * 16) % 256 : Nat) : Int) ((d.val : Nat) : Int) = (((b.toNat * 16) % 256 + d.val : Nat) : Int) := by decide +kernel
end Go.Proofs.YtgpnbiaghokjkaaDoor
