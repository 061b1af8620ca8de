
import Derived.Test.YtgpnbiaghokjkaaDoorD21Rd
import Derived.Test.YtgpnbiaghokjkaaDoorD21P1
/-! Layer 21, the document's answer: words, value, values. -/
namespace Go.Proofs.YtgpnbiaghokjkaaDoor
open Go.RowKit
set_option linter.unusedVariables false
set_option linter.unusedSimpArgs false
set_option maxRecDepth 100000

/-- A slice of one-cell elements in memory of its own. -/
def OwnE (e N : Nat) (w : World) (v : Value) (vs : List Value) : Prop := w.ownsRow N e 1 v vs.length vs ∧ N ≤ w.heap.size
section
variable {e N : Nat} {w w' : World} {v : Value} {vs : List Value}
theorem OwnE.keep (h : OwnE e N w v vs) (hb : Below w.heap.size w w') : OwnE e N w' v vs := by
  refine ⟨⟨h.1.1, ?_⟩, Nat.le_trans h.2 hb.size⟩
  rcases h.1.2 with h1 | ⟨g, c, cur, e, hg, hh, hr⟩
  · exact .inl h1
  · exact .inr ⟨g, c, cur, e, hg, (hb.block g (Array.getElem?_eq_some_iff.1 hh).1).trans hh, hr⟩
theorem OwnE.form (h : OwnE e N w v vs) : ∃ ao c, v = .slice ao vs.length c := by
  rcases h.1.2 with ⟨e, e0⟩ | ⟨g, c, cur, e, _⟩
  · exact ⟨none, 0, by rw [e, e0]⟩
  · exact ⟨_, _, e⟩
theorem OwnE.at (h : OwnE e N w v vs) (j : Nat) (u : Value) (hu : vs[j]? = some u) : ∃ g c, v = .slice (some ⟨g, 0, none⟩) vs.length c ∧ N ≤ g ∧ g < w.heap.size ∧ w.cell? ⟨g, j, none⟩ = some u := by
  have hj : j < vs.length := (List.getElem?_eq_some_iff.1 hu).1
  obtain ⟨ao, c0, rfl⟩ := h.form
  have h1 := h.1
  rcases h.1.2 with ⟨e, e0⟩ | ⟨g, c, cur, e, hg, hh, _⟩
  · omega
  · injection e with e1 e2 e3
    subst e1
    refine ⟨g, c0, rfl, hg, (Array.getElem?_eq_some_iff.1 hh).1, ?_⟩
    rw [h1.cellAt j (by omega)]; exact hu
theorem OwnE.mono {M : Nat} (h : OwnE e N w v vs) (hM : M ≤ N) : OwnE e M w v vs := by
  refine ⟨⟨h.1.1, ?_⟩, Nat.le_trans hM h.2⟩
  rcases h.1.2 with h1 | ⟨g, c, cur, e, hg, hr⟩
  · exact .inl h1
  · exact .inr ⟨g, c, cur, e, Nat.le_trans hM hg, hr⟩
end
theorem ownE_empty (e N : Nat) (w : World) (h : N ≤ w.heap.size) : OwnE e N (w.alloc (.cells #[] e)) (.slice (some ⟨w.heap.size, 0, none⟩) 0 0) [] := ⟨owns_empty N w h e 1, by simp; omega⟩
/-- append of one element to a slice of one's own. -/
theorem wpList_app1 {T e bytes : Nat} {z : Value} (E : ElT T e 1 bytes z) {ops : Array Oper} {rest : List Oper} {o : Oper} {a : Act} {w : World} {Q : Exit → Act → World → Prop} (hgd : o.guard = none) (s x : Operand)
    (ho : o.op = .call { callee := .builtin .append, args := #[s, x], argTypes := #[T, T] })
    (N t : Nat) (a0 : World) (v : Value) (vs : List Value) (u : Value) (hu : u.oneCell' = true) (g0 : Nat) (hg0 : g0 = w.heap.size) (hs : a.eval s = v) (hx : a.eval x = .slice (some ⟨g0, 0, none⟩) 1 1)
    (hown : OwnE e N w v vs) (hbel : Below N a0 w) (hm : (vs.length + 1) * bytes ≤ 140737488355328) (hm2 : vs.length + 1 ≤ maxLen)
    (h : ∀ ao' c' w', OwnE e N w' (.slice ao' (vs.length + 1) c') (vs ++ [u]) → Below N a0 w' → wpList Tryd.prog ops Q rest (a.put o.dst (.slice ao' (vs.length + 1) c')) w') :
    wpList Tryd.prog ops Q (o :: rest) a (w.alloc (.cells #[u] t)) := by
  subst hg0
  obtain ⟨ao, c, rfl⟩ := hown.form
  refine wpList_append_gen E hgd s x ho N a0 ao vs.length c vs hs (hown.1.alloc _) (by have := hown.2; simp; omega) (hbel.alloc hown.2 _) (some ⟨w.heap.size, 0, none⟩) 1 1 [u] hx rfl (.inr ⟨_, _, rfl, fun j u' hu' => ?_⟩) ?_ (fun e => by cases e) hm2 hm ?_
  · rw [← Addr.add_mid]
    exact cell_one_new w _ t j u' hu'
  · intro u' hu'; simp at hu'; subst hu'; exact hu
  · intro ao' cap' w' h1 h2 h3 h4
    refine h ao' cap' w' ⟨?_, ?_⟩ h2
    · rw [List.length_append]; exact h1
    · have := hown.2; simp at h3; omega

def strV (l : List By) : Value := .string (strOf l)
theorem el_strs : ElT 34 9 1 16 (.string ⟨#[]⟩) := ⟨Tryd.underlying34, by kernel_rfl, rfl, by omega⟩

/-- The words of a line, gone through up to i, the last one begun at f. -/
structure Wds (l : List By) (ws : List (List By)) (f i : Nat) : Prop where
  fi : f ≤ i
  il : i ≤ l.length + 1
  n : ws.length ≤ i
  e : (i ≤ l.length ∧ wordsL l = ws ++ wordsL (l.drop f) ∧ 32#8 ∉ (l.drop f).take (i - f)) ∨ (i = l.length + 1 ∧ wordsL l = ws)
theorem Wds.zero (l : List By) : Wds l [] 0 0 := ⟨Nat.le_refl _, by omega, Nat.le_refl _, .inl ⟨by omega, by simp, by simp⟩⟩
theorem Wds.skip {l : List By} {ws : List (List By)} {f i : Nat} (h : Wds l ws f i) (hi : i < l.length) (hx : ¬ l.getD i 0 = 32#8) : Wds l ws f (i + 1) := by
  have hf := h.fi
  refine ⟨by omega, by omega, by have := h.n; omega, ?_⟩
  rcases h.e with ⟨h1, h2, h3⟩ | ⟨h1, _⟩
  · refine .inl ⟨by omega, h2, ?_⟩
    have e : (l.drop f).take (i + 1 - f) = (l.drop f).take (i - f) ++ [l.getD i 0] := by
      rw [show i + 1 - f = (i - f) + 1 by omega, List.take_add_one, List.getElem?_drop, show f + (i - f) = i by omega, List.getElem?_eq_getElem hi, List.getD_eq_getElem?_getD, List.getElem?_eq_getElem hi]; rfl
    rw [e, List.mem_append, not_or]
    exact ⟨h3, fun hm => hx (List.mem_singleton.1 hm).symm⟩
  · omega
theorem Wds.word {l : List By} {ws : List (List By)} {f i : Nat} (h : Wds l ws f i) (hi : i < l.length) (hx : l.getD i 0 = 32#8) : Wds l (ws ++ [(l.drop f).take (i - f)]) (i + 1) (i + 1) := by
  have hf := h.fi
  refine ⟨Nat.le_refl _, by omega, by rw [List.length_append]; have := h.n; simp; omega, ?_⟩
  rcases h.e with ⟨h1, h2, h3⟩ | ⟨h1, _⟩
  · refine .inl ⟨by omega, ?_, by simp⟩
    have e : l.drop f = (l.drop f).take (i - f) ++ 32#8 :: l.drop (i + 1) := by
      conv => lhs; rw [← List.take_append_drop (i - f) (l.drop f)]
      rw [List.drop_drop, show f + (i - f) = i by omega, List.drop_eq_getElem_cons hi]
      rw [List.getD_eq_getElem?_getD, List.getElem?_eq_getElem hi] at hx
      rw [show l[i] = 32#8 from hx]
    have h4 := wordsL_app ((l.drop f).take (i - f)) (l.drop (i + 1)) h3
    rw [← e] at h4
    rw [h2, h4, List.append_assoc]; rfl
  · omega
theorem Wds.last {l : List By} {ws : List (List By)} {f : Nat} (h : Wds l ws f l.length) : Wds l (ws ++ [(l.drop f).take (l.length - f)]) (l.length + 1) (l.length + 1) := by
  have hf := h.fi
  refine ⟨Nat.le_refl _, Nat.le_refl _, by rw [List.length_append]; have := h.n; simp; omega, .inr ⟨rfl, ?_⟩⟩
  rcases h.e with ⟨h1, h2, h3⟩ | ⟨h1, _⟩
  · have e : (l.drop f).take (l.length - f) = l.drop f := List.take_of_length_le (by rw [List.length_drop]; omega)
    rw [e] at h3
    rw [h2, wordsL_one _ h3, e]
  · omega

set_option maxHeartbeats 4000000 in
theorem r21words_any (l : List By) (hl : l.length ≤ 4000000) (w : World) :
    Calls Tryd.prog 46 #[.string (strOf l)] w fun e w' => ∃ v, e = .returned v ∧ OwnE 9 w.heap.size w' v ((wordsL l).map strV) ∧ Below w.heap.size w w' := by
  have slen : ∀ W : World, (Builtin.len_ #[9] 3 #[.string (strOf l)]).run Tryd.prog W = .ok (goInt l.length) W := fun W => str_len l 3 W
  have HIX : Hid (∀ (i : Nat), i < l.length → ∀ W : World, (Instr.index 9 (.string (strOf l)) (.int .i64 (i : Int))).run Tryd.prog W = .ok (.int .u8 ((l.getD i 0).toNat : Int)) W) := fun i hi W => str_index l .i64 i hi W
  have HSL : Hid (∀ (f i : Nat), f ≤ i → i ≤ l.length → ∀ W : World, (Instr.slice 9 (.string (strOf l)) (some (.int .i64 (f : Int))) (some (.int .i64 (i : Int))) none).run Tryd.prog W = .ok (.string (strOf ((l.drop f).take (i - f)))) W) := fun f i h1 h2 W => str_slice l .i64 .i64 f i h1 h2 W
  have HO0 : Hid (OwnE 9 w.heap.size (w.alloc (.cells #[] 9)) (.slice (some ⟨w.heap.size, 0, none⟩) 0 0) (([] : List (List By)).map strV)) := ownE_empty 9 w.heap.size w (Nat.le_refl _)
  have HB0 : Hid (Below w.heap.size w (w.alloc (.cells #[] 9))) := (Below.refl _ _).alloc (Nat.le_refl _) _
  generalize strOf l = ST at *
  go_enter Tryd.func46, Tryd.ntmps46
  go_wp2_with fail
  go_loopw [3, 4, 5] (fun lv fv iv wr => ∃ (ws : List (List By)) (f i : Nat), fv = .int .i64 f ∧ iv = .int .i64 i ∧ Hid (Wds l ws f i) ∧ Hid (OwnE 9 w.heap.size wr lv (ws.map strV)) ∧ Hid (Below w.heap.size w wr)) (fun _ _ iv _ => l.length + 1 - (intOf iv).toNat)
  case atStart => exact ⟨[], 0, 0, rfl, rfl, Wds.zero l, HO0, HB0⟩
  case round =>
    clear HO0 HB0
    obtain ⟨ws, f, i, rfl, rfl, HW, HO, HB⟩ := hrel
    have hfi := HW.out.fi
    have hil := HW.out.il
    have hwn := HW.out.n
    by_cases hle : i ≤ l.length
    · have y1 : (i : Int) ≤ (l.length : Int) := by omega
      have y0 : (0 : Int) ≤ (i : Int) := by omega
      have wi : IntKind.i64.wrap ((i : Int) + 1) = (i : Int) + 1 := i64_in _ (by omega) (by omega)
      by_cases hend : i = l.length
      · have he1 : ((i : Int) == (l.length : Int)) = true := by rw [beq_iff_eq]; omega
        have sl := HSL.out f i hfi hle
        have HW2 : Hid (Wds l (ws ++ [(l.drop f).take (i - f)]) (i + 1) (i + 1)) := by
          have := HW.out
          rw [hend] at this ⊢
          exact this.last
        obtain ⟨u, hu⟩ : ∃ u, strOf ((l.drop f).take (i - f)) = u := ⟨_, rfl⟩
        rw [hu] at sl
        have HU : Hid (strV ((l.drop f).take (i - f)) = .string u) := by rw [← hu]; exact rfl
        have hu1 : (Value.string u).oneCell' = true := rfl
        have hml : (ws.map strV).length ≤ 4000000 := by rw [List.length_map]; omega
        clear hu HW hend
        go_wp2_with (at_builtin; refine wpList_app1 el_strs rfl (.tmp 23) (.tmp 28) rfl w.heap.size _ w _ (ws.map strV) (.string u) hu1 _ rfl rfl rfl HO.out HB.out (by omega) (by unfold maxLen; omega) ?_; intro ao6 c6 w6 ho6 hb6)
        exact ⟨⟨ws ++ [(l.drop f).take (i - f)], i + 1, i + 1, by go_num, by go_num, HW2, by rw [List.map_append, List.map_cons, List.map_nil, HU.out]; rw [List.length_map] at ho6; exact ho6, hb6⟩, by simp [intOf]; omega⟩
      · have hlt : i < l.length := by omega
        have y2 : (i : Int) < (l.length : Int) := by omega
        have he1 : ((i : Int) == (l.length : Int)) = false := by rw [beq_eq_false_iff_ne]; omega
        have ix := HIX.out i hlt
        by_cases hx : l.getD i 0 = 32#8
        · have hxn : ((l.getD i 0).toNat : Int) = 32 := by rw [hx]; rfl
          rw [hxn] at ix
          have sl := HSL.out f i hfi hle
          have HW2 : Hid (Wds l (ws ++ [(l.drop f).take (i - f)]) (i + 1) (i + 1)) := HW.out.word hlt hx
          obtain ⟨u, hu⟩ : ∃ u, strOf ((l.drop f).take (i - f)) = u := ⟨_, rfl⟩
          rw [hu] at sl
          have HU : Hid (strV ((l.drop f).take (i - f)) = .string u) := by rw [← hu]; exact rfl
          have hu1 : (Value.string u).oneCell' = true := rfl
          have hml : (ws.map strV).length ≤ 4000000 := by rw [List.length_map]; omega
          clear hu HW hx hxn
          go_wp2_with (at_builtin; refine wpList_app1 el_strs rfl (.tmp 23) (.tmp 28) rfl w.heap.size _ w _ (ws.map strV) (.string u) hu1 _ rfl rfl rfl HO.out HB.out (by omega) (by unfold maxLen; omega) ?_; intro ao6 c6 w6 ho6 hb6)
          exact ⟨⟨ws ++ [(l.drop f).take (i - f)], i + 1, i + 1, by go_num, by go_num, HW2, by rw [List.map_append, List.map_cons, List.map_nil, HU.out]; rw [List.length_map] at ho6; exact ho6, hb6⟩, by simp [intOf]; omega⟩
        · have HW2 : Hid (Wds l ws f (i + 1)) := HW.out.skip hlt hx
          have hq : (((l.getD i 0).toNat : Int) == 32) = false := by
            rw [beq_eq_false_iff_ne]
            intro e
            exact hx (BitVec.eq_of_toNat_eq (by show (l.getD i 0).toNat = 32; omega))
          clear HW hx
          generalize (l.getD i 0).toNat = y at *
          go_wp2
          exact ⟨⟨ws, f, i + 1, by go_num, by go_num, HW2, HO, HB⟩, by simp [intOf]; omega⟩
    · have y1 : ¬ (i : Int) ≤ (l.length : Int) := by omega
      have HE : Hid (wordsL l = ws) := by
        rcases HW.out.e with ⟨h1, _⟩ | ⟨_, h1⟩
        · omega
        · exact h1
      clear HW
      go_wp2
      go_ret
      exact ⟨_, rfl, by rw [HE.out]; exact HO.out, HB.out⟩

/-- The number of the first i bytes of a word. -/
def valTo (l : List By) (i : Nat) : Nat := (l.take i).foldl (fun n c => 10 * n + c.toNat % 16) 0
theorem valTo_step (l : List By) (i : Nat) (hi : i < l.length) : valTo l (i + 1) = 10 * valTo l i + (l.getD i 0).toNat % 16 := by
  unfold valTo
  rw [List.take_add_one, List.getElem?_eq_getElem hi, List.foldl_append, List.getD_eq_getElem?_getD, List.getElem?_eq_getElem hi]; rfl
theorem valTo_lt (l : List By) : ∀ i, valTo l i < 16 ^ i
  | 0 => by simp [valTo]
  | i + 1 => by
    have ih' := valTo_lt l i
    by_cases hi : i < l.length
    · rw [valTo_step l i hi, Nat.pow_succ]
      omega
    · have e : valTo l (i + 1) = valTo l i := by
        unfold valTo
        rw [List.take_of_length_le (by omega), List.take_of_length_le (by omega)]
      rw [e, Nat.pow_succ]; omega
theorem valTo_b (l : List By) (i : Nat) (hi : i ≤ 11) : valTo l i < 17592186044416 := by
  have h := valTo_lt l i
  have : 16 ^ i ≤ 16 ^ 11 := Nat.pow_le_pow_right (by omega) hi
  omega
theorem val_isSome (l : List By) : (val? l).isSome = (decide (0 < l.length) && (decide (l.length < 11) && (decide (valN l ≤ 2147483647) && decide (num (valN l) = l)))) := by
  unfold val?
  split
  · rename_i h
    obtain ⟨h1, h2, h3, h4⟩ := h
    rw [decide_eq_true h1, decide_eq_true h2, decide_eq_true h3, decide_eq_true h4]; rfl
  · rename_i h
    symm
    rw [Option.isSome_none]
    by_cases h1 : 0 < l.length
    · by_cases h2 : l.length < 11
      · by_cases h3 : valN l ≤ 2147483647
        · have h4 : ¬ num (valN l) = l := fun e => h ⟨h1, h2, h3, e⟩
          rw [decide_eq_false h4]; simp
        · rw [decide_eq_false h3]; simp
      · rw [decide_eq_false h2]; simp
    · rw [decide_eq_false h1]; simp
set_option maxHeartbeats 4000000 in
theorem r21value_any (l : List By) (hl : l.length ≤ 4000000) (w : World) :
    Calls Tryd.prog 47 #[.string (strOf l)] w fun e w' => e = .returned (.tuple #[.int .i64 (valN l : Int), .bool (val? l).isSome]) ∧ Below w.heap.size w w' := by
  have slen : ∀ W : World, (Builtin.len_ #[9] 3 #[.string (strOf l)]).run Tryd.prog W = .ok (goInt l.length) W := fun W => str_len l 3 W
  have HIX : Hid (∀ (i : Nat), i < l.length → ∀ W : World, (Instr.index 9 (.string (strOf l)) (.int .i64 (i : Int))).run Tryd.prog W = .ok (.int .u8 ((l.getD i 0).toNat : Int)) W) := fun i hi W => str_index l .i64 i hi W
  have HVN : Hid (valN l = valTo l (min l.length 11)) := by
    show _ = _
    unfold valN valTo
    by_cases h : l.length ≤ 11
    · rw [Nat.min_eq_left h, List.take_of_length_le h, List.take_length]
    · rw [Nat.min_eq_right (by omega)]
  have HIS := val_isSome l
  have HNU : Hid (Calls Tryd.prog 24 #[.int .i64 (valN l : Int)] w fun e w' => e = .returned (.string (strOf (num (valN l)))) ∧ Below w.heap.size w w') := r21number_any (valN l) w (by rw [HVN.out]; have := valTo_b l (min l.length 11) (by omega); omega)
  have hq := strOf_beq (num (valN l)) l
  have HB : Hid (valN l < 17592186044416) := by rw [HVN.out]; exact valTo_b l _ (by omega)
  obtain ⟨b4, hb4⟩ : ∃ b, b = decide (num (valN l) = l) := ⟨_, rfl⟩
  rw [← hb4] at hq HIS
  have HI : Hid ((val? l).isSome = (decide (0 < l.length) && (decide (l.length < 11) && (decide (valN l ≤ 2147483647) && b4)))) := HIS
  clear HIS hb4
  generalize (val? l).isSome = R at *
  generalize strOf (num (valN l)) = SN at *
  generalize valN l = V at *
  generalize strOf l = ST at *
  obtain ⟨LL, hLL⟩ : ∃ LL, l.length = LL := ⟨_, rfl⟩
  have HLL : Hid (l.length = LL) := hLL
  simp only [hLL] at slen HIX HVN HI hl
  clear hLL
  go_enter Tryd.func47, Tryd.ntmps47
  go_wp2_with fail
  go_loopw [4, 5] (fun nv iv wr => ∃ i : Nat, i ≤ LL ∧ i ≤ 11 ∧ nv = .int .i64 (valTo l i : Int) ∧ iv = .int .i64 i ∧ wr = w) (fun _ iv _ => LL - (intOf iv).toNat)
  case atStart => exact ⟨0, by omega, by omega, rfl, rfl, rfl⟩
  case round =>
    obtain ⟨i, hi1, hi2, rfl, rfl, rfl⟩ := hrel
    have y0 : (0 : Int) ≤ (i : Int) := by omega
    by_cases hlt : i < LL ∧ i < 11
    · obtain ⟨h1, h2⟩ := hlt
      have y1 : (i : Int) < (LL : Int) := by omega
      have y2 : (i : Int) < 11 := by omega
      have d1 : decide ((i : Int) < (LL : Int)) = true := by simpa using y1
      have d2 : decide ((i : Int) < 11) = true := by simpa using y2
      have ix := HIX.out i h1
      have hst := valTo_step l i (by rw [HLL.out]; exact h1)
      have hb := valTo_b l i hi2
      have hbx := (l.getD i 0).isLt
      have m1 : IntKind.i64.wrap (10 * (valTo l i : Int)) = 10 * (valTo l i : Int) := i64_in _ (by omega) (by omega)
      have m2 : Int.tmod ((l.getD i 0).toNat : Int) 16 = (((l.getD i 0).toNat % 16 : Nat) : Int) := rfl
      have m3 : ((l.getD i 0).toNat : Int) % 16 = (((l.getD i 0).toNat % 16 : Nat) : Int) := by omega
      have m4 : IntKind.i64.wrap (10 * (valTo l i : Int) + (((l.getD i 0).toNat % 16 : Nat) : Int)) = (valTo l (i + 1) : Int) := by
        rw [i64_in _ (by omega) (by omega), hst]; omega
      have m5 : IntKind.i64.wrap ((l.getD i 0).toNat : Int) = ((l.getD i 0).toNat : Int) := i64_in _ (by omega) (by omega)
      clear hst hb hbx
      generalize (l.getD i 0).toNat % 16 = z at *
      generalize (l.getD i 0).toNat = y at *
      obtain ⟨V2, hV2⟩ : ∃ V2, valTo l (i + 1) = V2 := ⟨_, rfl⟩
      rw [hV2] at m4
      have HV2 : Hid (valTo l (i + 1) = V2) := hV2
      clear hV2
      generalize valTo l i = V1 at *
      go_wp2
      exact ⟨⟨i + 1, by omega, by omega, by rw [HV2.out], by go_num, by first | trivial | rfl⟩, by simp [intOf]; omega⟩
    · have hie : i = min LL 11 := by omega
      have hv : valTo l i = V := by rw [HVN.out, hie]
      rw [hv]
      have hb := HB.out
      clear hv
      by_cases h1 : 0 < LL
      · have g1 : decide ((LL : Int) > 0) = true := decide_eq_true (by omega)
        have g1' : decide ((0 : Int) < (LL : Int)) = true := decide_eq_true (by omega)
        by_cases h2 : LL < 11
        · have hil : i = LL := by omega
          have d1 : decide ((i : Int) < (LL : Int)) = false := decide_eq_false (by omega)
          have y1 : ¬ (i : Int) < (LL : Int) := by omega
          have g2 : decide ((LL : Int) < 11) = true := decide_eq_true (by omega)
          by_cases h3 : V ≤ 2147483647
          · have g3 : decide ((V : Int) ≤ 2147483647) = true := decide_eq_true (by omega)
            have HR : Hid (R = b4) := by
              show _ = _
              rw [HI.out, decide_eq_true h1, decide_eq_true h2, decide_eq_true h3]; rfl
            clear h2 h3 hlt hie hil
            go_wp2_with fail
            refine HNU.out.mono ?_
            rintro e w2 ⟨rfl, hb2⟩
            dsimp only
            go_wp2
            go_ret2
            exact ⟨by rw [HR.out]; rfl, hb2⟩
          · have g3 : decide ((V : Int) ≤ 2147483647) = false := decide_eq_false (by omega)
            have HR : Hid (R = false) := by
              show _ = _
              rw [HI.out, decide_eq_false h3]; simp
            clear h2 h3 hlt hie hil
            go_wp2
            go_ret2
            exact ⟨by rw [HR.out]; rfl, Below.refl _ _⟩
        · have g2 : decide ((LL : Int) < 11) = false := decide_eq_false (by omega)
          have HR : Hid (R = false) := by
            show _ = _
            rw [HI.out, decide_eq_false h2]; simp
          by_cases h4 : i < LL
          · have d1 : decide ((i : Int) < (LL : Int)) = true := decide_eq_true (by omega)
            have d2 : decide ((i : Int) < 11) = false := decide_eq_false (by omega)
            have y1 : (i : Int) < (LL : Int) := by omega
            have y2 : ¬ (i : Int) < 11 := by omega
            clear h2 hlt hie h4
            go_wp2
            go_ret2
            exact ⟨by rw [HR.out]; rfl, Below.refl _ _⟩
          · have d1 : decide ((i : Int) < (LL : Int)) = false := decide_eq_false (by omega)
            have y1 : ¬ (i : Int) < (LL : Int) := by omega
            clear h2 hlt hie h4
            go_wp2
            go_ret2
            exact ⟨by rw [HR.out]; rfl, Below.refl _ _⟩
      · have g1 : decide ((LL : Int) > 0) = false := decide_eq_false (by omega)
        have g1' : decide ((0 : Int) < (LL : Int)) = false := decide_eq_false (by omega)
        have g1'' : decide (0 < LL) = false := decide_eq_false (by omega)
        have hL0 : LL = 0 := by omega
        have d1 : decide ((i : Int) < (LL : Int)) = false := decide_eq_false (by omega)
        have y1 : ¬ (i : Int) < (LL : Int) := by omega
        have HR : Hid (R = false) := by
          show _ = _
          rw [HI.out, decide_eq_false h1]; simp
        subst hL0
        clear h1 hlt hie
        go_wp2
        go_ret2
        exact ⟨by rw [HR.out]; rfl, Below.refl _ _⟩
end Go.Proofs.YtgpnbiaghokjkaaDoor
