import Derived.Test.YtgpnbiaghokjkaaDoorD21P1
/-! Layer 21, the landed code: what is written so far; append onto it. -/
namespace Go.Proofs.YtgpnbiaghokjkaaDoor
open Go.RowKit
set_option linter.unusedVariables false
set_option linter.unusedSimpArgs false
set_option maxRecDepth 100000

/-- What is written so far. -/
structure Buf (N : Nat) (w0 : World) (m : List By) (v : Value) (w : World) : Prop where
  own : Own N w v m
  fr : Fr N w0 w
section
variable {N : Nat} {w0 w w' : World} {m : List By} {v : Value}
theorem Buf.form (h : Buf N w0 m v w) : ∃ ao c, v = .slice ao m.length c := own_form h.own
theorem Buf.alloc (h : Buf N w0 m v w) (o : Obj) : Buf N w0 m v (w.alloc o) := ⟨h.own.keep ((Below.refl _ _).alloc (Nat.le_refl _) _), h.fr.alloc h.own.2 o⟩
theorem Buf.below (h : Buf N w0 m v w) (hb : Below w.heap.size w w') : Buf N w0 m v w' := ⟨h.own.keep hb, h.fr.below hb h.own.2⟩
theorem Buf.drew (h : Buf N w0 m v w) : Buf N w0 m v w.drew := h.below (Below_dr (Below.refl _ _) ⟨1, rfl⟩)
theorem Buf.row (h : Buf N w0 m v w) {g T : Nat} {cs : List Value} (hr : Row w0 g T cs) (hT : T ≠ 5) : Row w g T cs := h.fr.row hr hT
end
theorem run_app (N : Nat) (w0 w : World) (ty : TypeId) (v : Value) (m : List By) (hbuf : Buf N w0 m v w)
    (ao : Option Addr) (n cap : Nat) (bs : List By) (hn : bs.length = n) (hb : IsB w ao bs) (hnil : ao = none → cap = 0) (hl : m.length + n ≤ 140737488353280) :
    ∃ v' w', (Builtin.append_ #[49, 49] ty #[v, .slice ao n cap]).run Tryd.prog w = .ok v' w' ∧ Buf N w0 (m ++ bs) v' w' := by
  obtain ⟨i0, hi, hz0, hz1, hz2⟩ := info_parts Tryd.infoU8
  subst hn
  have hown := hbuf.own
  have hN := hown.2
  have some_case : ∀ ad : Addr, (∀ j u, (bs.map B8)[j]? = some u → w.cell? (ad.add j) = some u) → ∃ v' w', (Builtin.append_ #[49, 49] ty #[v, .slice (some ad) bs.length cap]).run Tryd.prog w = .ok v' w' ∧ Buf N w0 (m ++ bs) v' w' := by
    intro ad hnews
    obtain ⟨v', w', h1, h2, h3, _⟩ := run_append_own (P := Tryd.prog) w N 49 ty 5 i0 (.int .u8 0) 1 1 Tryd.underlying49 hi hz0 hz1 hz2 rfl (by decide) _ m.length (m.map B8) hown.1 ad bs.length cap (bs.map B8) (by simp) hnews (B8_one bs) (by unfold maxLen; omega) (by omega) hN
    refine ⟨v', w', h1, ⟨?_, Nat.le_trans hN h3.size⟩, hbuf.fr.1.grown h3 hN (fun k hk => (hown.1.lt k hk).1), hbuf.fr.2.grown h3 (Lib.ownsRow_kind hown.1)⟩
    rw [List.length_append, List.map_append]; exact h2
  rcases hb with rfl | ⟨B, off, rfl, hc⟩
  · cases ao with
    | none =>
      rw [hnil rfl]
      refine ⟨v, w, ?_, ?_⟩
      · have := run_append_owned_none (P := Tryd.prog) (w := w) N 49 ty 5 i0 1 Tryd.underlying49 hi _ m.length (m.map B8) hown.1
        simpa using this
      · simpa using hbuf
    | some ad => exact some_case ad (by simp)
  · refine some_case _ ?_
    intro j u hu
    rw [Addr.add_mid]
    rw [List.getElem?_map] at hu
    cases hj : bs[j]? with
    | none => rw [hj] at hu; cases hu
    | some v => rw [hj] at hu; injection hu with hu; subst hu; exact hc j v hj
/-- append of bytes that lie somewhere. -/
theorem wpList_bap {ops : Array Oper} {rest : List Oper} {o : Oper} {a : Act} {w : World} {Q : Exit → Act → World → Prop} (hgd : o.guard = none) (s x : Operand)
    (ho : o.op = .call { callee := .builtin .append, args := #[s, x], argTypes := #[49, 49] })
    (N : Nat) (w0 : World) (v : Value) (m : List By) (hbuf : Buf N w0 m v w) (hs : a.eval s = v)
    (ao : Option Addr) (n cap : Nat) (bs : List By) (hx : a.eval x = .slice ao n cap) (hn : bs.length = n) (hb : IsB w ao bs) (hnil : ao = none → cap = 0) (hl : m.length + n ≤ 140737488353280)
    (h : ∀ v' w', Buf N w0 (m ++ bs) v' w' → wpList Tryd.prog ops Q rest (a.put o.dst v') w') : wpList Tryd.prog ops Q (o :: rest) a w := by
  refine wpList_plain hgd fun K hK => ?_
  obtain ⟨v', w', hrun, h2⟩ := run_app N w0 w o.type v m hbuf ao n cap bs hn hb hnil hl
  unfold Oper.wp execOp
  simp only [ho, resolve, invoke, builtin, Sem.run_bind, Sem.run_pure, Result.andThen_ok, List.map_toArray, List.map_cons, List.map_nil, hs, hx, hrun]
  exact hK _ _ (h v' w' h2)
/-- append of one byte that was just laid. -/
theorem wpList_bap1 {ops : Array Oper} {rest : List Oper} {o : Oper} {a : Act} {w : World} {Q : Exit → Act → World → Prop} (hgd : o.guard = none) (s x : Operand)
    (ho : o.op = .call { callee := .builtin .append, args := #[s, x], argTypes := #[49, 49] })
    (N : Nat) (w0 : World) (v : Value) (m : List By) (hbuf : Buf N w0 m v w) (hs : a.eval s = v) (y : By) (yy : Int) (hyy : yy = (y.toNat : Int)) (hx : a.eval x = .slice (some ⟨w.heap.size, 0, none⟩) 1 1) (hl : m.length + 1 ≤ 140737488353280)
    (h : ∀ v' w', Buf N w0 (m ++ [y]) v' w' → wpList Tryd.prog ops Q rest (a.put o.dst v') w') : wpList Tryd.prog ops Q (o :: rest) a (w.alloc (.cells #[.int .u8 yy] 5)) :=
  wpList_bap hgd s x ho N w0 v m (hbuf.alloc _) hs _ 1 1 [y] hx rfl (own_IsB (own_one w.heap.size w y (Nat.le_refl _) yy hyy)) (fun e => by cases e) hl h
/-- append of a string. -/
theorem wpList_baps {ops : Array Oper} {rest : List Oper} {o : Oper} {a : Act} {w : World} {Q : Exit → Act → World → Prop} (hgd : o.guard = none) (x y : Operand)
    (ho : o.op = .call { callee := .builtin .append, args := #[x, y], argTypes := #[49, 9] })
    (N : Nat) (w0 : World) (v : Value) (m : List By) (hbuf : Buf N w0 m v w) (hx : a.eval x = v)
    (s : ByteArray) (hy : a.eval y = .string s) (bs : List By) (hs : s = strOf bs) (hl : m.length + bs.length ≤ 140737488353280)
    (h : ∀ v' w', Buf N w0 (m ++ bs) v' w' → wpList Tryd.prog ops Q rest (a.put o.dst v') w') : wpList Tryd.prog ops Q (o :: rest) a w := by
  refine wpList_plain hgd fun K hK => ?_
  obtain ⟨i0, hi, hz0, hz1, hz2⟩ := info_parts Tryd.info5
  have hown := hbuf.own
  have hz : s.size = bs.length := by rw [hs, strOf_size]
  obtain ⟨v', w', hrun, h2, h3, _⟩ := Lib.run_append_own_string (P := Tryd.prog) w N 49 9 o.type 5 i0 Tryd.underlying49 Tryd.underlying9 hi hz0 hz1 hz2 _ m.length (m.map B8) hown.1 s (by unfold maxLen; omega) (by omega) hown.2
  unfold Oper.wp execOp
  simp only [ho, resolve, invoke, builtin, Sem.run_bind, Sem.run_pure, Result.andThen_ok, List.map_toArray, List.map_cons, List.map_nil, hx, hy, hrun]
  refine hK _ _ (h v' w' ⟨⟨?_, Nat.le_trans hown.2 h3.size⟩, hbuf.fr.1.grown h3 hown.2 (fun k hk => (hown.1.lt k hk).1), hbuf.fr.2.grown h3 (Lib.ownsRow_kind hown.1)⟩)
  rw [hz, hs, strCells_of] at h2
  rw [List.length_append, List.map_append]; exact h2
/-- Numbers that lie in memory, not among bytes. -/
def NumAt (w : World) (lo : Option Addr) (l : List Nat) : Prop := l = [] ∨ ∃ B T cs, lo = some ⟨B, 0, none⟩ ∧ T ≠ 5 ∧ Row w B T cs ∧ ∀ (j n : Nat), l[j]? = some n → cs[j]? = some (nI n)
theorem NumAt.fr {w w' : World} {lo : Option Addr} {l : List Nat} {N : Nat} (h : NumAt w lo l) (hf : Fr N w w') : NumAt w' lo l := by
  rcases h with h | ⟨B, T, cs, e, hT, hr, hc⟩
  · exact .inl h
  · exact .inr ⟨B, T, cs, e, hT, hf.row hr hT, hc⟩
theorem NumAt.cell {w : World} {lo : Option Addr} {l : List Nat} (h : NumAt w lo l) (j : Nat) (hj : j < l.length) : ∃ B, lo = some ⟨B, 0, none⟩ ∧ w.cell? ⟨B, j, none⟩ = some (.int .i64 (l.getD j 0 : Int)) := by
  rcases h with h | ⟨B, T, cs, e, hT, hr, hc⟩
  · subst h; cases hj
  · refine ⟨B, e, hr.cell j _ ?_⟩
    rw [hc j _ (List.getElem?_eq_getElem hj), List.getD_eq_getElem?_getD, List.getElem?_eq_getElem hj]; rfl
/-- What a writer tells. -/
def Wrote (N : Nat) (w : World) (m : List By) (e : Ending) (w' : World) : Prop := ∃ v', e = .returned v' ∧ Buf N w m v' w'

set_option maxHeartbeats 2000000 in
theorem appendWords_any (N : Nat) (v : Value) (m : List By) (w : World) (ho : Own N w v m) (ht : TabB N w) (S : ByteArray) (word : List By) (hS : S = strOf word) (hwl : word.length ≤ 100) (l : List Nat) (hll : l.length ≤ 1000000) (hl63 : ∀ n ∈ l, n < 9223372036854775808) (lo : Option Addr) (lc : Nat) (hn : NumAt w lo l) (hm : m.length ≤ 100000000000000) :
    Calls Tryd.prog 53 #[v, .string S, .slice lo l.length lc] w (Wrote N w (m ++ (word ++ numsL l))) := by
  have HT : Hid (∀ W, Below N w W → TabB N W) := fun W hW => ht.on hW
  have HN : Hid (∀ W, Fr N w W → ∀ i, i < l.length → ∃ B, lo = some ⟨B, 0, none⟩ ∧ W.cell? ⟨B, i, none⟩ = some (.int .i64 (l.getD i 0 : Int))) := fun W hW i hi => (hn.fr hW).cell i hi
  have H63 : Hid (∀ i, i < l.length → l.getD i 0 < 9223372036854775808) := fun i hi => hl63 _ (by rw [List.getD_eq_getElem?_getD, List.getElem?_eq_getElem hi]; exact List.getElem_mem _)
  have HLN : Hid (∀ i, (numsL (l.take i)).length ≤ 20000000) := fun i => by
    have := numsL_len (l.take i) (fun n hn => hl63 n (List.mem_of_mem_take hn))
    rw [List.length_take] at this
    omega
  have HST : Hid (∀ i, i < l.length → numsL (l.take (i + 1)) = numsL (l.take i) ++ (32#8 :: num (l.getD i 0))) := fun i hi => nums_take l i hi
  have HEND : Hid (numsL (l.take l.length) = numsL l) := by show _ = _; rw [List.take_length]
  have HB : Hid (Buf N w m v w) := ⟨ho, Fr.refl _ _⟩
  have HS : Hid (S = strOf word) := hS
  have HAI : Hid (∀ (W : World) (n : Nat) (u : Value) (k : List By), Own N W u k → n < 9223372036854775808 → k.length + 21 ≤ 140737488355328 → TabB N W → Calls Tryd.prog 64 #[u, .int .i64 (n : Int), .int .i64 10] W fun e w' => ∃ v', e = .returned v' ∧ Own N w' v' (k ++ num n) ∧ Fr N W w') := fun W n u k h1 h2 h3 h4 => appendInt_any N n h2 u k W h1 h3 h4
  have HWL : Hid (word.length ≤ 100) := hwl
  have HM : Hid (m.length ≤ 100000000000000) := hm
  have hLs : l.length < 9223372036854775808 := by omega
  clear ho ht hn hl63 hS hwl hm hll
  go_enter Tryd.func53, Tryd.ntmps53
  go_upto_region 2 with (at_builtin; refine wpList_baps rfl (.tmp 9) (.tmp 10) rfl N w _ m HB.out rfl S rfl word HS.out (by have := HWL.out; have := HM.out; omega) ?_; intro v1 w1 hb1)
  have HB1 : Hid (Buf N w (m ++ word) v1 w1) := hb1
  clear hb1 HB
  go_wp2_with fail
  go_loopw [0, 14] (fun bv iv wr => ∃ (i : Nat), i ≤ l.length ∧ iv = .int .i64 i ∧ Hid (Buf N w (m ++ (word ++ numsL (l.take i))) bv wr)) (fun _ iv _ => l.length - (intOf iv).toNat)
  case atStart => exact ⟨0, by omega, rfl, by show Buf _ _ _ _ _; rw [List.take_zero, show numsL [] = [] from rfl, List.append_nil]; exact HB1.out⟩
  case round =>
    clear HB1
    obtain ⟨i, hi, rfl, HBW⟩ := hrel
    by_cases hlt : i < l.length
    · have y0 : (0 : Int) ≤ (i : Int) := by omega
      have y1 : (i : Int) < (l.length : Int) := by omega
      have wi : IntKind.i64.wrap ((i : Int) + 1) = (i : Int) + 1 := i64_in _ (by omega) (by omega)
      obtain ⟨B, hlo, cc⟩ := HN.out wr HBW.out.fr i hlt
      have HLO : Hid (lo = some ⟨B, 0, none⟩) := hlo
      have HLEN : Hid ((m ++ (word ++ numsL (l.take i))).length ≤ 100000030000000) := by
        have h1 := HLN.out i
        have h2 := HWL.out
        have h3 := HM.out
        show _ ≤ _
        rw [List.length_append, List.length_append]; omega
      rw [hlo]
      clear hlo
      have hn63 := H63.out i hlt
      have HN1 : Hid (m ++ (word ++ numsL (l.take (i + 1))) = m ++ (word ++ numsL (l.take i)) ++ [32#8] ++ num (l.getD i 0)) := by
        show _ = _
        rw [HST.out i hlt]; simp [List.append_assoc]
      generalize l.getD i 0 = n at *
      generalize m ++ (word ++ numsL (l.take i)) = M at *
      go_upto_region 6 with (at_builtin; go_loud (refine wpList_bap1 rfl (.tmp 18) (.tmp 19) rfl N w _ M HBW.out rfl 32#8 32 rfl rfl (by have := HLEN.out; omega) ?_; intro v2 w2 hb2))
      have HB2 : Hid (Buf N w (M ++ [32#8]) v2 w2) := hb2
      clear hb2 HBW cc
      go_wp2_with fail
      refine (HAI.out w2 n v2 (M ++ [32#8]) HB2.out.own hn63 (by have := HLEN.out; rw [List.length_append]; show _ + 1 + 21 ≤ _; omega) (HT.out _ HB2.out.fr.1)).mono ?_
      rintro e w3 ⟨v3, rfl, ho3, hf3⟩
      have HB3 : Hid (Buf N w (m ++ (word ++ numsL (l.take (i + 1)))) v3 w3) := by
        show Buf _ _ _ _ _
        rw [HN1.out]; exact ⟨ho3, HB2.out.fr.trans hf3⟩
      clear ho3 hf3 HB2
      dsimp only
      go_wp2
      exact ⟨⟨i + 1, by omega, by go_num, HB3⟩, by simp [intOf]; omega⟩
    · obtain rfl : i = l.length := by omega
      rw [HEND.out] at HBW
      go_wp2
      go_ret
      exact ⟨_, rfl, HBW.out⟩
end Go.Proofs.YtgpnbiaghokjkaaDoor
