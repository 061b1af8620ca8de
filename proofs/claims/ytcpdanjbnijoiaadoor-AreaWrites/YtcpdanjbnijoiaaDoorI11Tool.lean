
import Derived.Test.YtcpdanjbnijoiaaDoorEnding
import Derived.Test.YtcpdanjbnijoiaaDoorMOf
import Derived.Lib.AppendStr
import Derived.Laws.MakeOwn
import Derived.Laws.CopyOwn
import Derived.Lib.LazyBuf
/-! Of any code that makes bytes: append of a string's bytes, make with room, copy into a part of a known block. -/
namespace Go.Proofs.YtcpdanjbnijoiaaDoor
open Go.RowKit
set_option linter.unusedVariables false

/-- 'make([]byte, 0, c)'. -/
theorem wpList_make_cap {ops : Array Oper} {rest : List Oper} {o : Oper} {a : Act} {w : World} {Q : Exit → Act → World → Prop} (hgd : o.guard = none) (x y : Operand) (ho : o.op = .makeSlice 29 x y)
    (N : Nat) (a0 : World) (c : Nat) (hx : a.eval x = .int .i64 0) (hy : a.eval y = .int .i64 (c : Int)) (hc : c ≤ 140737488355328) (hN : N ≤ w.heap.size) (hbel : Below N a0 w)
    (h : ∀ w', Own N w' (.slice (some ⟨w.heap.size, 0, none⟩) 0 c) [] → Below N a0 w' → wpList Tryd.prog ops Q rest (a.put o.dst (.slice (some ⟨w.heap.size, 0, none⟩) 0 c)) w') : wpList Tryd.prog ops Q (o :: rest) a w := by
  refine wpList_plain hgd fun K hK => ?_
  obtain ⟨i0, hi, hz0, hz1, hz2⟩ := info_parts Tryd.info5
  obtain ⟨w', hrun, h2, h3⟩ := run_make_own (P := Tryd.prog) w N 29 5 i0 (.int .u8 0) 1 Tryd.underlying29 hi hz0 hz1 .i64 .i64 c (by rw [hz2]; omega) (by unfold maxLen; omega) hN
  unfold Oper.wp
  simp [execOp, ho, hx, hy, hrun, Result.andThen]
  exact hK _ _ (h w' ⟨h2, Nat.le_trans hN h3.size⟩ (hbel.grown h3 hN (fun k hk => by cases hk)))

theorem run_append_str (N : Nat) (a0 w : World) (ty : TypeId) (aoD : Option Addr) (nD capD : Nat) (m : List By) (hD : m.length = nD) (hown : Own N w (.slice aoD nD capD) m) (hbel : Below N a0 w)
    (s : ByteArray) (bs : List By) (hs : Lib.strCells s = bs.map B8) (n : Nat) (hn : bs.length = n) (hl : nD + n ≤ 140737488353280) :
    ∃ ao' cap' w', (Builtin.append_ #[29, 9] ty #[.slice aoD nD capD, .string s]).run Tryd.prog w = .ok (.slice ao' (nD + n) cap') w' ∧ Own N w' (.slice ao' (nD + n) cap') (m ++ bs) ∧ Below N a0 w' := by
  obtain ⟨i0, hi, hz0, hz1, hz2⟩ := info_parts Tryd.info5
  have hz : s.size = n := by have := congrArg List.length hs; rw [Lib.strCells_length, List.length_map, hn] at this; exact this
  subst hD
  obtain ⟨v', w', h1, h2, h3, _⟩ := Lib.run_append_own_string (P := Tryd.prog) w N 29 9 ty 5 i0 Tryd.underlying29 Tryd.underlying9 hi hz0 hz1 hz2 _ m.length (m.map B8) hown.1 s (by unfold maxLen; omega) (by omega) hown.2
  have hform : ∃ ao' cap', v' = .slice ao' (m.length + n) cap' := by
    rcases h2.2 with ⟨e, e0⟩ | ⟨g, c, cur, e, _⟩
    · exact ⟨none, 0, by rw [e, ← hz, e0]⟩
    · exact ⟨_, _, by rw [← hz]; exact e⟩
  obtain ⟨ao', cap', rfl⟩ := hform
  refine ⟨ao', cap', w', h1, ⟨?_, Nat.le_trans hown.2 h3.size⟩, hbel.grown h3 hown.2 (fun k hk => (hown.1.lt k hk).1)⟩
  rw [hz, hs] at h2
  rw [List.length_append, List.map_append, hn]; exact h2

/-- 'append(b, "..."...)' onto the call's own (or nil). -/
theorem wpList_append_str {ops : Array Oper} {rest : List Oper} {o : Oper} {a : Act} {w : World} {Q : Exit → Act → World → Prop} (hgd : o.guard = none) (x y : Operand)
    (ho : o.op = .call { callee := .builtin .append, args := #[x, y], argTypes := #[29, 9] })
    (N : Nat) (a0 : World) (aoD : Option Addr) (nD capD : Nat) (m : List By) (hx : a.eval x = .slice aoD nD capD) (hD : m.length = nD) (hown : Own N w (.slice aoD nD capD) m) (hbel : Below N a0 w)
    (s : ByteArray) (hy : a.eval y = .string s) (bs : List By) (hs : Lib.strCells s = bs.map B8) (n : Nat) (hn : bs.length = n) (hl : nD + n ≤ 140737488353280)
    (h : ∀ ao' cap' w', Own N w' (.slice ao' (nD + n) cap') (m ++ bs) → Below N a0 w' → wpList Tryd.prog ops Q rest (a.put o.dst (.slice ao' (nD + n) cap')) w') : wpList Tryd.prog ops Q (o :: rest) a w := by
  refine wpList_plain hgd fun K hK => ?_
  obtain ⟨ao', cap', w', hrun, h2, h3⟩ := run_append_str N a0 w o.type aoD nD capD m hD hown hbel s bs hs n hn hl
  unfold Oper.wp execOp
  simp only [ho, resolve, invoke, builtin, Sem.run_bind, Sem.run_pure, Result.andThen_ok, List.map_toArray, List.map_cons, List.map_nil, hx, hy, hrun]
  exact hK _ _ (h ao' cap' w' h2 h3)

/-- copy() into a part of a block known whole, at a step of a drawn region. -/
theorem step_copy_Row {ops : Array Oper} {o : Oper} {a : Act} {w : World} {K : Act → World → Prop} {Q : Exit → Act → World → Prop} {E : Prop} (hgd : o.guard = none) (d s : Operand)
    (ho : o.op = .call { callee := .builtin .copy, args := #[d, s], argTypes := #[29, 29] })
    (D od dLen dCap B off sLen sCap : Nat) (hd : a.eval d = .slice (some ⟨D, od, none⟩) dLen dCap) (hs : a.eval s = .slice (some ⟨B, off, none⟩) sLen sCap)
    (t : Nat) (cur : List Value) (hr : Row w D t cur) (cs : List By) (k : Nat) (hk : cs.length = k) (hn : k = Nat.min sLen dLen)
    (hsrc : ∀ j v, cs[j]? = some v → w.cell? ⟨B, off + j, none⟩ = some (B8 v)) (hfit : od + k ≤ cur.length)
    (h : ∀ w', Row w' D t (cur.take od ++ cs.map B8 ++ cur.drop (od + (cs.map B8).length)) → SameBut D w w' → K (a.put o.dst (.int .i64 (k : Int))) w') :
    if Region.wanted o (yielded ops a.tmps) = true then Oper.wp Tryd.prog o a w K Q else E := by
  have hw : Region.wanted o (yielded ops a.tmps) = true := by simp [Region.wanted, hgd]
  rw [if_pos hw]
  have hth := hr.there od k hfit
  have hrun := run_copy_cells (P := Tryd.prog) w 29 29 o.type 5 D od dLen dCap ⟨B, off, none⟩ sLen sCap (cs.map B8) Tryd.underlying29 (by kernel_rfl) (by rw [List.length_map, hk, hn])
    (by
      intro j v hv
      rw [Addr.add_mid]
      rw [List.getElem?_map] at hv
      cases hj : cs[j]? with
      | none => rw [hj] at hv; cases hv
      | some x => rw [hj] at hv; injection hv with hv; subst hv; exact hsrc j x hj)
    (fun j hj => (hth j (by rw [List.length_map, hk] at hj; exact hj)).1) (fun j hj => (hth j (by rw [List.length_map, hk] at hj; exact hj)).2) (B8_one cs)
  unfold Oper.wp
  simp [execOp, ho, resolve, invoke, builtin, hd, hs, hrun, Result.andThen, goInt, hk]
  refine h _ ?_ (SameBut.setCells D _ od w)
  exact Row.setCells (cs.map B8) od w cur hr (by rw [List.length_map, hk]; exact hfit)

/-- 'make([]byte, n)': a row of its own. -/
theorem wpList_make_rowN {ops : Array Oper} {rest : List Oper} {o : Oper} {a : Act} {w : World} {Q : Exit → Act → World → Prop} (hg : o.guard = none) (l c : Operand) (hop : o.op = Op.makeSlice 29 l c)
    (kl kc : IntKind) (L C : Int) (n : Nat) (hl : a.eval l = .int kl L) (hc : a.eval c = .int kc C) (hL : L = (n : Int)) (hC : C = (n : Int)) (hn : n ≤ 281474976710656)
    (hK : ∀ w', Row w' w.heap.size 5 ((List.replicate n (0 : By)).map B8) → Below w.heap.size w w' → w'.heap.size = w.heap.size + 1 → wpList Tryd.prog ops Q rest (a.put o.dst (.slice (some ⟨w.heap.size, 0, none⟩) n n)) w') :
    wpList Tryd.prog ops Q (o :: rest) a w := by
  obtain ⟨i0, hi, hz0, hz1, hz2⟩ := info_parts Tryd.info5
  refine wpList_plain hg fun K hK' => ?_
  subst hL
  subst hC
  have hrun := run_make (P := Tryd.prog) w 29 5 i0 (.int .u8 0) Tryd.underlying29 hi hz0 kl kc (n : Int) (n : Int) (by omega) (by omega) (by rw [hz2]; omega) (by omega)
  unfold Oper.wp
  simp [execOp, hop, hl, hc, hrun, Result.andThen]
  refine hK' _ _ (hK _ ?_ ?_ (by simp))
  · refine Row.at w 5 _ _ _ rfl ?_
    rw [hz1, Nat.mul_one]
    have : (madeCells #[Value.int .u8 0] n).toList = (List.replicate n (0 : By)).map B8 := by
      rw [toList_madeCells_one]; simp [B8]
    rw [← this]; rfl
  · exact (Below.refl _ _).alloc (Nat.le_refl _) _

/-- A row of bytes that lies above N is the call's own. -/
theorem own_row {N : Nat} {w : World} {g : Nat} {m : List By} (h : Row w g 5 (m.map B8)) (hg : N ≤ g) (n : Nat) (hn : m.length = n) (hm : n ≤ 140737488355328) : Own N w (.slice (some ⟨g, 0, none⟩) n n) m := by
  have hl := h.lt
  subst hn
  refine ⟨⟨by simp, .inr ⟨g, m.length, (m.map B8).toArray, rfl, hg, h, Nat.le_refl _, by unfold maxLen; omega, by simp, ?_⟩⟩, by omega⟩
  simp
  exact List.take_of_length_le (by simp)

/-- 'copy' of all bytes of a slice into a row, from place 'od' on. -/
theorem run_copy_to (w : World) (ty D od dLen dCap : Nat) (bo : Option Addr) (n cap : Nat) (hle : n ≤ dLen) (m : List By) (hr : Row w D 5 (m.map B8)) (b : List By) (hb0 : b.length = n) (hb : IsB w bo b) (hfit : od + n ≤ m.length) :
    ∃ w', (Builtin.copy_ #[29, 29] ty #[.slice (some ⟨D, od, none⟩) dLen dCap, .slice bo n cap]).run Tryd.prog w = .ok (.int .i64 (n : Int)) w' ∧ Row w' D 5 ((splice m od b).map B8) ∧ SameBut D w w' := by
  by_cases h0 : n = 0
  · have hbn : b = [] := List.eq_nil_of_length_eq_zero (by rw [hb0]; exact h0)
    subst hbn
    subst h0
    refine ⟨w, run_copy_none (P := Tryd.prog) w 29 29 ty 5 (some ⟨D, od, none⟩) bo dLen dCap 0 cap Tryd.underlying29 (by kernel_rfl) (by exact Nat.zero_min _), ?_, SameBut.refl _ _⟩
    simpa [splice] using hr
  · rcases hb with rfl | ⟨B, off, rfl, hc⟩
    · simp at hb0; omega
    · have hth := hr.there od n (by simpa using hfit)
      have hrun := run_copy_cells (P := Tryd.prog) w 29 29 ty 5 D od dLen dCap ⟨B, off, none⟩ n cap (b.map B8) Tryd.underlying29 (by kernel_rfl) (by rw [List.length_map, hb0]; exact (Nat.min_eq_left hle).symm)
        (by
          intro j v hv
          rw [Addr.add_mid]
          rw [List.getElem?_map] at hv
          cases hj : b[j]? with
          | none => rw [hj] at hv; cases hv
          | some x => rw [hj] at hv; injection hv with hv; subst hv; exact hc j x hj)
        (fun j hj => (hth j (by rw [List.length_map, hb0] at hj; exact hj)).1) (fun j hj => (hth j (by rw [List.length_map, hb0] at hj; exact hj)).2) (B8_one b)
      rw [List.length_map, hb0] at hrun
      refine ⟨_, hrun, ?_, SameBut.setCells D _ od w⟩
      have := Row.setCells (b.map B8) od w (m.map B8) hr (by rw [List.length_map, List.length_map, hb0]; exact hfit)
      simpa [splice, hb0, List.map_take, List.map_drop] using this
theorem wpList_copy_to {ops : Array Oper} {rest : List Oper} {o : Oper} {a : Act} {w : World} {Q : Exit → Act → World → Prop} (hgd : o.guard = none) (d s : Operand)
    (ho : o.op = .call { callee := .builtin .copy, args := #[d, s], argTypes := #[29, 29] })
    (D od dLen dCap : Nat) (bo : Option Addr) (n cap : Nat) (hd : a.eval d = .slice (some ⟨D, od, none⟩) dLen dCap) (hs : a.eval s = .slice bo n cap) (hle : n ≤ dLen) (m : List By) (hr : Row w D 5 (m.map B8)) (b : List By) (hb0 : b.length = n) (hb : IsB w bo b) (hfit : od + n ≤ m.length)
    (h : ∀ w', Row w' D 5 ((splice m od b).map B8) → SameBut D w w' → wpList Tryd.prog ops Q rest (a.put o.dst (.int .i64 (n : Int))) w') : wpList Tryd.prog ops Q (o :: rest) a w := by
  refine wpList_plain hgd fun K hK => ?_
  obtain ⟨w', hrun, h1, h2⟩ := run_copy_to w o.type D od dLen dCap bo n cap hle m hr b hb0 hb hfit
  unfold Oper.wp
  simp [execOp, ho, resolve, invoke, builtin, hd, hs, hrun, Result.andThen]
  exact hK _ _ (h w' h1 h2)
theorem step_copy_to {ops : Array Oper} {o : Oper} {a : Act} {w : World} {K : Act → World → Prop} {Q : Exit → Act → World → Prop} {E : Prop} (hgd : o.guard = none) (d s : Operand)
    (ho : o.op = .call { callee := .builtin .copy, args := #[d, s], argTypes := #[29, 29] })
    (D od dLen dCap : Nat) (bo : Option Addr) (n cap : Nat) (hd : a.eval d = .slice (some ⟨D, od, none⟩) dLen dCap) (hs : a.eval s = .slice bo n cap) (hle : n ≤ dLen) (m : List By) (hr : Row w D 5 (m.map B8)) (b : List By) (hb0 : b.length = n) (hb : IsB w bo b) (hfit : od + n ≤ m.length)
    (h : ∀ w', Row w' D 5 ((splice m od b).map B8) → SameBut D w w' → K (a.put o.dst (.int .i64 (n : Int))) w') :
    if Region.wanted o (yielded ops a.tmps) = true then Oper.wp Tryd.prog o a w K Q else E := by
  have hw : Region.wanted o (yielded ops a.tmps) = true := by simp [Region.wanted, hgd]
  rw [if_pos hw]
  obtain ⟨w', hrun, h1, h2⟩ := run_copy_to w o.type D od dLen dCap bo n cap hle m hr b hb0 hb hfit
  unfold Oper.wp
  simp [execOp, ho, resolve, invoke, builtin, hd, hs, hrun, Result.andThen]
  exact h w' h1 h2

/-- 'copy' of a string's bytes into a row. -/
theorem wpList_copy_str {ops : Array Oper} {rest : List Oper} {o : Oper} {a : Act} {w : World} {Q : Exit → Act → World → Prop} (hgd : o.guard = none) (d s : Operand)
    (ho : o.op = .call { callee := .builtin .copy, args := #[d, s], argTypes := #[29, 9] })
    (D od dLen dCap : Nat) (t : ByteArray) (hd : a.eval d = .slice (some ⟨D, od, none⟩) dLen dCap) (hs : a.eval s = .string t) (m : List By) (hr : Row w D 5 (m.map B8)) (b : List By) (hb : Lib.strCells t = b.map B8) (n : Nat) (hn : b.length = n) (hle : n ≤ dLen) (hfit : od + n ≤ m.length)
    (h : ∀ w', Row w' D 5 ((splice m od b).map B8) → SameBut D w w' → wpList Tryd.prog ops Q rest (a.put o.dst (.int .i64 (n : Int))) w') : wpList Tryd.prog ops Q (o :: rest) a w := by
  refine wpList_plain hgd fun K hK => ?_
  obtain ⟨i0, hi, hz0, hz1, hz2⟩ := info_parts Tryd.info5
  have hz : t.size = n := by have := congrArg List.length hb; rw [Lib.strCells_length, List.length_map, hn] at this; exact this
  have hth := hr.there od n (by simpa using hfit)
  have hrun := run_copy_string (P := Tryd.prog) w 29 9 o.type 5 D od dLen dCap t Tryd.underlying29 (fun w => by simp [sizeOf, typeInfo, hi, hz1]) (by rw [hz]; exact hle) (fun j hj => (hth j (by rw [hz] at hj; exact hj)).1) (fun j hj => (hth j (by rw [hz] at hj; exact hj)).2)
  unfold Oper.wp
  simp [execOp, ho, resolve, invoke, builtin, hd, hs, hrun, Result.andThen, hz, goInt]
  refine hK _ _ (h _ ?_ (SameBut.setCells D _ od w))
  have e : (t.data.toList.map fun x => Value.int .u8 (x.toNat : Int)) = b.map B8 := hb
  rw [e]
  have := Row.setCells (b.map B8) od w (m.map B8) hr (by rw [List.length_map, List.length_map, hn]; exact hfit)
  simpa [splice, hn, List.map_take, List.map_drop] using this

/-- Bytes laid over zeroes. -/
theorem splice_zeros (pre b : List By) (od k n : Nat) (hp : pre.length = od) (hn : b.length = n) : splice (pre ++ List.replicate (k + n) 0) od b = (pre ++ b) ++ List.replicate k 0 := by
  subst hp
  subst hn
  unfold splice
  rw [List.take_append_of_le_length (Nat.le_refl _), List.take_length, List.drop_append]
  simp
end Go.Proofs.YtcpdanjbnijoiaaDoor
