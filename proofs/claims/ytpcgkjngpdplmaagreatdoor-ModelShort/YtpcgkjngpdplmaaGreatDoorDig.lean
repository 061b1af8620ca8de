
import Derived.Test.YtpcgkjngpdplmaaGreatDoorEnding
import Derived.Laws.CopyOwn
namespace Go.Proofs.YtpcgkjngpdplmaaGreatDoor
open Go.RowKit

theorem digCells_len (s : S8) (p : List By) (n : Nat) (hp : p.length = 64) : (digCells s p n).length = 73 := by simp [digCells, S8.list_len, hp]
theorem digCells_one (s : S8) (p : List By) (n : Nat) : ∀ v ∈ digCells s p n, v.oneCell' = true := by
  intro v hv
  simp only [digCells, List.mem_append, List.mem_singleton] at hv
  rcases hv with h | h | h
  · exact U_one _ v h
  · exact B8_one _ v h
  · subst h; rfl
theorem digCells_count (s : S8) (p : List By) (n : Nat) (hp : p.length = 64) : (digCells s p n)[72]? = some (.int .u64 (n : Int)) := by
  unfold digCells
  rw [List.getElem?_append_right (by simp [S8.list_len]), List.getElem?_append_right (by simp [S8.list_len, hp])]
  simp [S8.list_len, hp]
theorem digCells_setCount (s : S8) (p : List By) (n n' : Nat) (hp : p.length = 64) : (digCells s p n).set 72 (.int .u64 (n' : Int)) = digCells s p n' := by
  unfold digCells
  rw [List.set_append_right _ _ (by simp [S8.list_len]), List.set_append_right _ _ (by simp [S8.list_len, hp])]
  simp [S8.list_len, hp]
theorem digCells_load (s : S8) (p : List By) (n : Nat) : ((digCells s p n).drop 0).take 8 = s.list.map U := by
  unfold digCells
  rw [List.drop_zero, List.take_append_of_le_length (by simp [S8.list_len])]
  exact List.take_of_length_le (by simp [S8.list_len])
theorem digCells_part (s : S8) (p X : List By) (n h t : Nat) (hp : p.length = 64) (ht : X.length = t) (hh : h + t ≤ 64) :
    (digCells s p n).take (8 + h) ++ X.map B8 ++ (digCells s p n).drop (8 + h + (X.map B8).length) = digCells s (p.take h ++ X ++ p.drop (h + t)) n := by
  unfold digCells
  have e8 : (s.list.map U).length = 8 := by simp [S8.list_len]
  have h1 : (s.list.map U ++ (p.map B8 ++ [Value.int .u64 (n : Int)])).take (8 + h) = s.list.map U ++ (p.take h).map B8 := by
    rw [List.take_append, e8, show 8 + h - 8 = h by omega, List.take_of_length_le (by omega), List.take_append_of_le_length (by simp; omega), List.map_take]
  have h2 : (s.list.map U ++ (p.map B8 ++ [Value.int .u64 (n : Int)])).drop (8 + h + t) = (p.drop (h + t)).map B8 ++ [Value.int .u64 (n : Int)] := by
    rw [List.drop_append, e8, show 8 + h + t - 8 = h + t by omega, List.drop_eq_nil_of_le (by omega), List.nil_append, List.drop_append_of_le_length (by simp; omega), List.map_drop]
  rw [h1, List.length_map, ht, h2]
  simp
theorem digCells_byte (s : S8) (p : List By) (n j : Nat) (hp : p.length = 64) (hj : j < 64) : (digCells s p n)[8 + j]? = some (B8 (p.getD j 0)) := by
  unfold digCells
  rw [List.getElem?_append_right (by simp [S8.list_len]), show 8 + j - (s.list.map U).length = j by simp [S8.list_len], List.getElem?_append_left (by simp; omega)]
  simp [hp, hj]

/-! ### The state behind some pieces, and more bytes behind them -/
theorem pc_append (M X : List By) (k : Nat) (h : 64 * (k + 1) ≤ M.length) : pc (M ++ X) k = pc M k := by
  unfold pc
  rw [List.drop_append_of_le_length (by omega), List.take_append_of_le_length (by simp; omega)]
theorem hs_append (M X : List By) (n : Nat) (h : 64 * n ≤ M.length) : hs (M ++ X) n = hs M n := by
  induction n with
  | zero => simp only [hs]
  | succ k ih => rw [← hs_succ, ← hs_succ, ih (by omega), pc_append M X k h]

/-- The Digest at block D has the bytes M. -/
def Dig (w : World) (D : Nat) (M : List By) : Prop := ∃ p, p.length = 64 ∧ p.take (M.length % 64) = M.drop (64 * (M.length / 64)) ∧ Row w D 183 (digCells (hs M (M.length / 64)) p M.length)

/-- The same, the Digest being the first part of a block of type T: 'post' comes behind it. -/
def DigT (w : World) (D T : Nat) (post : List Value) (M : List By) : Prop := ∃ p, p.length = 64 ∧ p.take (M.length % 64) = M.drop (64 * (M.length / 64)) ∧ Row w D T (digCells (hs M (M.length / 64)) p M.length ++ post)
theorem dig_iff (w : World) (D : Nat) (M : List By) : Dig w D M ↔ DigT w D 183 [] M := by simp [Dig, DigT]
theorem digX_count (s : S8) (p : List By) (n : Nat) (post : List Value) (hp : p.length = 64) : (digCells s p n ++ post)[72]? = some (.int .u64 (n : Int)) := by
  rw [List.getElem?_append_left (by rw [digCells_len _ _ _ hp]; omega)]; exact digCells_count s p n hp
theorem digX_setCount (s : S8) (p : List By) (n n' : Nat) (post : List Value) (hp : p.length = 64) : (digCells s p n ++ post).set 72 (.int .u64 (n' : Int)) = digCells s p n' ++ post := by
  rw [List.set_append_left _ _ (by rw [digCells_len _ _ _ hp]; omega), digCells_setCount s p n n' hp]
theorem digX_part (s : S8) (p X : List By) (n h t : Nat) (post : List Value) (hp : p.length = 64) (ht : X.length = t) (hh : h + t ≤ 64) :
    (digCells s p n ++ post).take (8 + h) ++ X.map B8 ++ (digCells s p n ++ post).drop (8 + h + (X.map B8).length) = digCells s (p.take h ++ X ++ p.drop (h + t)) n ++ post := by
  have hl := digCells_len s p n hp
  rw [List.take_append_of_le_length (by omega), List.drop_append_of_le_length (by rw [List.length_map, ht]; omega), ← List.append_assoc, digCells_part s p X n h t hp ht hh]
theorem digX_byte (s : S8) (p : List By) (n j : Nat) (post : List Value) (hp : p.length = 64) (hj : j < 64) : (digCells s p n ++ post)[8 + j]? = some (B8 (p.getD j 0)) := by
  rw [List.getElem?_append_left (by rw [digCells_len _ _ _ hp]; omega)]; exact digCells_byte s p n j hp hj

theorem dig_less (M X p : List By) (hp : p.length = 64) (hpt : p.take (M.length % 64) = M.drop (64 * (M.length / 64))) (hX : M.length % 64 + X.length < 64) :
    (p.take (M.length % 64) ++ X ++ p.drop (M.length % 64 + X.length)).length = 64 ∧
    (p.take (M.length % 64) ++ X ++ p.drop (M.length % 64 + X.length)).take ((M ++ X).length % 64) = (M ++ X).drop (64 * ((M ++ X).length / 64)) ∧
    hs (M ++ X) ((M ++ X).length / 64) = hs M (M.length / 64) := by
  have e1 : (M ++ X).length / 64 = M.length / 64 := by simp; omega
  have e2 : (M ++ X).length % 64 = M.length % 64 + X.length := by simp; omega
  refine ⟨by simp; omega, ?_, ?_⟩
  · rw [e1, e2, List.drop_append_of_le_length (by omega), ← hpt]
    exact List.take_left' (by simp; omega)
  · rw [e1]; exact hs_append M X _ (by omega)
theorem dig_full (M X p : List By) (hp : p.length = 64) (hpt : p.take (M.length % 64) = M.drop (64 * (M.length / 64))) (hX : M.length % 64 + X.length = 64) :
    (p.take (M.length % 64) ++ X ++ p.drop (M.length % 64 + X.length)).length = 64 ∧
    (M ++ X).length % 64 = 0 ∧ (M ++ X).length / 64 = M.length / 64 + 1 ∧
    hs (M ++ X) ((M ++ X).length / 64) = comp (hs M (M.length / 64)) (p.take (M.length % 64) ++ X ++ p.drop (M.length % 64 + X.length)) := by
  have e1 : (M ++ X).length / 64 = M.length / 64 + 1 := by simp; omega
  refine ⟨by simp; omega, by simp; omega, e1, ?_⟩
  rw [e1, ← hs_succ, hs_append M X _ (by omega)]
  have e2 : pc (M ++ X) (M.length / 64) = p.take (M.length % 64) ++ X ++ p.drop (M.length % 64 + X.length) := by
    unfold pc
    have e3 : p.drop (M.length % 64 + X.length) = [] := List.drop_eq_nil_of_le (by omega)
    rw [List.drop_append_of_le_length (by omega), ← hpt, e3, List.append_nil]
    exact List.take_of_length_le (by simp; omega)
  rw [e2]

/-- All old blocks but D are as they were. -/
structure Kept (D : Nat) (w w' : World) : Prop where
  os : w'.os = w.os
  tape : w'.tape = w.tape
  output : w'.output = w.output
  size : w.heap.size ≤ w'.heap.size
  block : ∀ k, k < w.heap.size → k ≠ D → w'.heap[k]? = w.heap[k]?
theorem Kept.refl (D : Nat) (w : World) : Kept D w w := ⟨rfl, rfl, rfl, Nat.le_refl _, fun _ _ _ => rfl⟩
theorem Kept.trans {D : Nat} {a b c : World} (h : Kept D a b) (k : Kept D b c) : Kept D a c :=
  ⟨k.os.trans h.os, k.tape.trans h.tape, k.output.trans h.output, Nat.le_trans h.size k.size, fun i hi hne => (k.block i (Nat.lt_of_lt_of_le hi h.size) hne).trans (h.block i hi hne)⟩
theorem Kept.but {D : Nat} {a w w' : World} (h : Kept D a w) (hs : SameBut D w w') : Kept D a w' :=
  h.trans ⟨hs.os, hs.tape, hs.output, Nat.le_of_eq hs.size.symm, fun k _ hne => hs.block k hne⟩
theorem Kept.below {D : Nat} {a w w' : World} (h : Kept D a w) (hb : Below w.heap.size w w') : Kept D a w' :=
  h.trans ⟨hb.os, hb.tape, hb.output, hb.size, fun k hk _ => hb.block k hk⟩
theorem Kept.dr {D : Nat} {a w w' : World} (h : Kept D a w) (d : Dr w w') : Kept D a w' := by
  obtain ⟨n, rfl⟩ := d; exact ⟨h.os, h.tape, h.output, h.size, h.block⟩
theorem Row.kept {w w' : World} {g t D : Nat} {cs : List Value} (h : Row w g t cs) (k : Kept D w w') (hne : g ≠ D) : Row w' g t cs := (k.block g h.lt hne).trans h
theorem Kept.toBelow {D B : Nat} {a w w' : World} (h : Kept D w w') (hb : Below B a w) (hBD : B ≤ D) (hB : B ≤ w.heap.size) : Below B a w' :=
  hb.trans ⟨h.os, h.tape, h.output, h.size, fun k hk => h.block k (by omega) (by omega)⟩

/-- What a slice holds, its block another than D. -/
def IsBn (D : Nat) (w : World) (ao : Option Addr) (m : List By) : Prop :=
  m = [] ∨ ∃ B off, ao = some ⟨B, off, none⟩ ∧ ∀ j v, m[j]? = some v → B ≠ D ∧ w.cell? ⟨B, off + j, none⟩ = some (B8 v)
theorem IsBn.keep {D : Nat} {w w' : World} {ao : Option Addr} {m : List By} (h : IsBn D w ao m) (hk : ∀ B, B < w.heap.size → B ≠ D → w'.heap[B]? = w.heap[B]?) : IsBn D w' ao m := by
  rcases h with h | ⟨B, off, rfl, hc⟩
  · exact .inl h
  · refine .inr ⟨B, off, rfl, fun j v hj => ?_⟩
    obtain ⟨h1, h2⟩ := hc j v hj
    exact ⟨h1, (World.cell?_of_block (w := w) (hk B (block_lt_of_cell h2) h1)).trans h2⟩

theorem wpList_copy_Row {ops : Array Oper} {rest : List Oper} {o : Oper} {a : Act} {w : World} {Q : Exit → Act → World → Prop} (hgd : o.guard = none) (d s : Operand)
    (ho : o.op = .call { callee := .builtin .copy, args := #[d, s], argTypes := #[32, 32] })
    (D od dLen dCap B off sLen sCap : Nat) (hd : a.eval d = .slice (some ⟨D, od, none⟩) dLen dCap) (hs : a.eval s = .slice (some ⟨B, off, none⟩) sLen sCap)
    (t : Nat) (cur : List Value) (hr : Row w D t cur) (cs : List By) (k : Nat) (hk : cs.length = k) (hn : k = Nat.min sLen dLen)
    (hsrc : ∀ j v, cs[j]? = some v → w.cell? ⟨B, off + j, none⟩ = some (B8 v)) (hfit : od + k ≤ cur.length)
    (h : ∀ w', Row w' D t (cur.take od ++ cs.map B8 ++ cur.drop (od + (cs.map B8).length)) → SameBut D w w' → wpList Tryz.prog ops Q rest (a.put o.dst (.int .i64 (k : Int))) w') : wpList Tryz.prog ops Q (o :: rest) a w := by
  refine wpList_plain hgd fun K hK => ?_
  have hth := hr.there od k hfit
  have hrun := run_copy_cells (P := Tryz.prog) w 32 32 o.type 5 D od dLen dCap ⟨B, off, none⟩ sLen sCap (cs.map B8) Tryz.underlying32 (by kernel_rfl) (by rw [List.length_map, hk, hn])
    (by
      intro j v hv
      rw [Addr.add_mid]
      rw [List.getElem?_map] at hv
      cases hj : cs[j]? with
      | none => rw [hj] at hv; cases hv
      | some x => rw [hj] at hv; injection hv with hv; subst hv; exact hsrc j x hj)
    (fun j hj => (hth j (by rw [List.length_map, hk] at hj; exact hj)).1) (fun j hj => (hth j (by rw [List.length_map, hk] at hj; exact hj)).2) (B8_one cs)
  unfold Oper.wp
  simp [execOp, ho, resolve, invoke, builtin, hd, hs, hrun, Result.andThen, goInt, hk]
  refine hK _ _ (h _ ?_ (SameBut.setCells D _ od w))
  exact Row.setCells (cs.map B8) od w cur hr (by rw [List.length_map, hk]; exact hfit)

end Go.Proofs.YtpcgkjngpdplmaaGreatDoor
