import Derived.Test.YtdfbfheceobboaaDoorComp
import Derived.Test.YtdfbfheceobboaaDoorRefOf
import Derived.Laws.CopyOwn

namespace Go.Proofs.YtdfbfheceobboaaDoor
open Go.RowKit

/-- A Digest's cells: the state, the bytes that don't make a piece yet, the count of all bytes. -/
def digCells (s : S8) (p : List By) (n : Nat) : List Value := s.list.map U ++ (p.map B8 ++ [.int .u64 (n : Int)])

set_option maxHeartbeats 1000000 in
set_option maxRecDepth 100000 in
theorem new_any (w : World) : Calls Tryd.prog 23 #[] w fun e w' => ∃ g, e = .returned (.pointer (some ⟨g, 0, none⟩)) ∧ w.heap.size ≤ g ∧ Row w' g 92 (digCells init8 (List.replicate 64 0) 0) ∧ Below w.heap.size w w' := by
  go_enter Tryd.func23, Tryd.ntmps23
  go_wp2_with fail
  refine (firstState_any _).mono ?_
  rintro e w1 ⟨rfl, hb1⟩
  have e0 : (init8.list.map U).toArray = #[.int .u32 1779033703, .int .u32 3144134277, .int .u32 1013904242, .int .u32 2773480762, .int .u32 1359893119, .int .u32 2600822924, .int .u32 528734635, .int .u32 1541459225] := rfl
  rw [e0]
  clear e0
  have hz : ∀ w : World, (zeroValue 92).run Tryd.prog w = .ok (.agg #[.int .u32 0, .int .u32 0, .int .u32 0, .int .u32 0, .int .u32 0, .int .u32 0, .int .u32 0, .int .u32 0, .int .u8 0, .int .u8 0, .int .u8 0, .int .u8 0, .int .u8 0, .int .u8 0, .int .u8 0, .int .u8 0, .int .u8 0, .int .u8 0, .int .u8 0, .int .u8 0, .int .u8 0, .int .u8 0, .int .u8 0, .int .u8 0, .int .u8 0, .int .u8 0, .int .u8 0, .int .u8 0, .int .u8 0, .int .u8 0, .int .u8 0, .int .u8 0, .int .u8 0, .int .u8 0, .int .u8 0, .int .u8 0, .int .u8 0, .int .u8 0, .int .u8 0, .int .u8 0, .int .u8 0, .int .u8 0, .int .u8 0, .int .u8 0, .int .u8 0, .int .u8 0, .int .u8 0, .int .u8 0, .int .u8 0, .int .u8 0, .int .u8 0, .int .u8 0, .int .u8 0, .int .u8 0, .int .u8 0, .int .u8 0, .int .u8 0, .int .u8 0, .int .u8 0, .int .u8 0, .int .u8 0, .int .u8 0, .int .u8 0, .int .u8 0, .int .u8 0, .int .u8 0, .int .u8 0, .int .u8 0, .int .u8 0, .int .u8 0, .int .u8 0, .int .u8 0, .int .u64 0]) w := fun _ => by kernel_rfl
  go_wp2
  go_ret
  exact ⟨_, rfl, hb1.size, Row.at _ _ _ _ _ rfl rfl, hb1.alloc hb1.size _⟩
end Go.Proofs.YtdfbfheceobboaaDoor


namespace Go.Proofs.YtdfbfheceobboaaDoor
open Go.RowKit

theorem wpList_make_Row {ops : Array Oper} {rest : List Oper} {o : Oper} {a : Act} {w : World} {Q : Exit → Act → World → Prop} (hg : o.guard = none) (l c : Operand) (hop : o.op = Op.makeSlice 22 l c)
    (kl kc : IntKind) (L C : Int) (n : Nat) (hl : a.eval l = .int kl L) (hc : a.eval c = .int kc C) (hL : L = (n : Int)) (hC : C = (n : Int)) (hn : n ≤ 1000000)
    (hK : ∀ w', Row w' w.heap.size 5 ((List.replicate n (0 : By)).map B8) → Below w.heap.size w w' → wpList Tryd.prog ops Q rest (a.put o.dst (.slice (some ⟨w.heap.size, 0, none⟩) n n)) w') :
    wpList Tryd.prog ops Q (o :: rest) a w := by
  obtain ⟨i0, hi, hz0, hz1, hz2⟩ := info_parts Tryd.info5
  refine wpList_plain hg fun K hK' => ?_
  subst hL
  subst hC
  have hrun := run_make (P := Tryd.prog) w 22 5 i0 (.int .u8 0) Tryd.underlying22 hi hz0 kl kc (n : Int) (n : Int) (by omega) (by omega) (by rw [hz2]; omega) (by omega)
  unfold Oper.wp
  simp [execOp, hop, hl, hc, hrun, Result.andThen]
  refine hK' _ _ (hK _ ?_ ?_)
  · refine Row.at w 5 _ _ _ rfl ?_
    rw [hz1, Nat.mul_one]
    have : (madeCells #[Value.int .u8 0] n).toList = (List.replicate n (0 : By)).map B8 := by
      rw [toList_madeCells_one]; simp [B8]
    rw [← this]; rfl
  · exact (Below.refl _ _).alloc (Nat.le_refl _) _

theorem set4 (pre post : List Value) (a b c d x y z t : Value) (o : Nat) (ho : o = pre.length) :
    ((((pre ++ a :: b :: c :: d :: post).set o x).set (o + 1) y).set (o + 2) z).set (o + 3) t = pre ++ x :: y :: z :: t :: post := by
  subst ho
  simp
theorem Row.put4 {w : World} {g ty o : Nat} {pre post : List Value} {a b c d : Value} (h : Row w g ty (pre ++ a :: b :: c :: d :: post)) (ho : o = pre.length) (x : Wd) :
    Row (put4 w g o x) g ty (pre ++ ((wbytes x).map B8 ++ post)) := by
  have := (((h.set o (B8 ((x >>> 24).setWidth 8))).set (o + 1) (B8 ((x >>> 16).setWidth 8))).set (o + 2) (B8 ((x >>> 8).setWidth 8))).set (o + 3) (B8 (x.setWidth 8))
  rw [set4 pre post a b c d _ _ _ _ o ho] at this
  exact this
theorem put4_but (w : World) (g o : Nat) (x : Wd) : SameBut g w (put4 w g o x) :=
  (((SameBut.setCell g o _ w).trans (SameBut.setCell g (o + 1) _ _)).trans (SameBut.setCell g (o + 2) _ _)).trans (SameBut.setCell g (o + 3) _ _)
theorem Row.there {w : World} {g t : Nat} {cs : List Value} (h : Row w g t cs) (o n : Nat) (hl : o + n ≤ cs.length) : w.there g o n := by
  intro j hj
  refine ⟨?_, h.frozen _⟩
  rw [h.cell (o + j) (cs[o + j]'(by omega)) (List.getElem?_eq_getElem (by omega))]; rfl

theorem lenBytes_of (n : Nat) : wbytes (BitVec.ofNat 32 (8 * n / 4294967296)) ++ wbytes (BitVec.ofNat 32 (8 * n)) = lenBytes n := by
  have h : ∀ (k s : Nat), s ≤ 24 → ((BitVec.ofNat 32 k >>> s).setWidth 8 : By) = BitVec.ofNat 8 (k / 2 ^ s) := by
    intro k s hs
    apply BitVec.eq_of_toNat_eq
    rw [BitVec.toNat_setWidth, BitVec.toNat_ushiftRight, BitVec.toNat_ofNat, BitVec.toNat_ofNat, Nat.shiftRight_eq_div_pow]
    have e : (2 : Nat) ^ 32 = 2 ^ s * 2 ^ (32 - s) := by rw [← Nat.pow_add]; congr 1; omega
    rw [e, Nat.mod_mul_right_div_self]
    have e2 : (2 : Nat) ^ (32 - s) = 2 ^ 8 * 2 ^ (24 - s) := by rw [← Nat.pow_add]; congr 1; omega
    rw [e2, Nat.mod_mul_right_mod]
  have h0 : ∀ k : Nat, ((BitVec.ofNat 32 k).setWidth 8 : By) = BitVec.ofNat 8 k := by
    intro k
    apply BitVec.eq_of_toNat_eq
    rw [BitVec.toNat_setWidth, BitVec.toNat_ofNat, BitVec.toNat_ofNat]
    omega
  simp only [wbytes, lenBytes, h0, h _ 24 (by omega), h _ 16 (by omega), h _ 8 (by omega), List.cons_append, List.nil_append, Nat.div_div_eq_div_mul, Nat.reducePow, Nat.reduceMul]

set_option maxHeartbeats 1000000 in
set_option maxRecDepth 100000 in
theorem ending_any (n : Nat) (hn : n < 1152921504606846976) (w : World) :
    Calls Tryd.prog 37 #[.int .u64 (n : Int)] w fun e w' => e = .returned (.slice (some ⟨w.heap.size, 0, none⟩) (9 + zerosOf n) (9 + zerosOf n)) ∧ Lies w' w.heap.size 0 (ending n) ∧ Below w.heap.size w w' := by
  have hz : zerosOf n ≤ 63 := by unfold zerosOf; omega
  have hzz : (119 - (n : Int) % 64) % 64 = (zerosOf n : Int) := by unfold zerosOf; omega
  have HE : Hid (ending n = 128#8 :: (List.replicate (zerosOf n) 0 ++ (wbytes (BitVec.ofNat 32 (8 * n / 4294967296)) ++ wbytes (BitVec.ofNat 32 (8 * n))))) := by
    show _ = _
    rw [lenBytes_of]; rfl
  have hel : Hid ((ending n).length = 9 + zerosOf n) := ending_len n
  have j1 : IntKind.u64.wrap (8 * (n : Int)) = ((8 * n : Nat) : Int) := by rw [IntKind.wrap_u64]; omega
  have j2 : ((8 * n : Nat) : Int) / (4294967296 : Int) % (4294967296 : Int) = ((BitVec.ofNat 32 (8 * n / 4294967296)).toNat : Int) := by rw [BitVec.toNat_ofNat]; omega
  have j3 : ((8 * n : Nat) : Int) % (4294967296 : Int) = ((BitVec.ofNat 32 (8 * n)).toNat : Int) := by rw [BitVec.toNat_ofNat]; omega
  generalize BitVec.ofNat 32 (8 * n / 4294967296) = hi at *
  generalize BitVec.ofNat 32 (8 * n) = lo at *
  generalize 8 * n = E at *
  generalize zerosOf n = z at *
  clear hn
  have i1 : (1 : Int) + (z : Int) ≤ (9 + z : Nat) := by omega
  have i2 : (0 : Int) ≤ 1 + (z : Int) := by omega
  go_enter Tryd.func37, Tryd.ntmps37
  go_wp2_with (first | (refine wpList_make_Row rfl _ _ rfl .u64 .u64 _ _ (9 + z) rfl rfl (by omega) (by omega) (by omega) ?_; intro w1 r1 hb1; have c0 := r1.cell 0 (B8 0) (by simp [List.getElem?_replicate]); have f0 := r1.frozen 0))
  have r2 := r1.set 0 (.int .u8 128)
  have eL : ((List.replicate (9 + z) (0 : By)).map B8).set 0 (.int .u8 128) = ((128#8 :: List.replicate z 0).map B8) ++ B8 0 :: B8 0 :: B8 0 :: B8 0 :: [B8 0, B8 0, B8 0, B8 0] := by
    have e1 : List.replicate (9 + z) (0 : By) = 0 :: (List.replicate z 0 ++ List.replicate 8 0) := by
      rw [List.replicate_append_replicate, ← List.replicate_succ]; congr 1; omega
    rw [e1]
    simp [B8, List.replicate_succ]
  rw [eL] at r2
  have bl2 : Below w.heap.size w (w1.setCell ⟨w.heap.size, 0, none⟩ (.int .u8 128)) := hb1.setCell (Nat.le_refl _) _
  clear eL c0 f0 r1 hb1
  refine (putWord_any hi w.heap.size (1 + z) _ _ _ (by omega) (r2.there (1 + z) 4 (by simp; omega))).mono ?_
  rintro e w2 ⟨rfl, hw2⟩
  have r3 := r2.put4 (o := 1 + z) (by simp; omega) hi
  have bl3 := (put4_but (w1.setCell ⟨w.heap.size, 0, none⟩ (.int .u8 128)) w.heap.size (1 + z) hi).below bl2 (Nat.le_refl _)
  rw [← hw2] at r3 bl3
  clear hw2 r2 bl2
  have r3' : Row w2 w.heap.size 5 ((((128#8 :: List.replicate z 0) ++ wbytes hi).map B8) ++ B8 0 :: B8 0 :: B8 0 :: B8 0 :: []) := by
    simpa using r3
  have i3 : (0 : Int) ≤ 1 + (z : Int) + 4 := by omega
  have i4 : (1 : Int) + (z : Int) + 4 ≤ (9 + z : Nat) := by omega
  go_wp2_with fail
  refine (putWord_any lo w.heap.size (1 + z + 4) _ _ _ (by omega) (r3'.there (1 + z + 4) 4 (by simp [wbytes]; omega))).mono ?_
  rintro e w3 ⟨rfl, hw3⟩
  have r4 := r3'.put4 (o := 1 + z + 4) (by simp [wbytes]; omega) lo
  have bl4 := (put4_but w2 w.heap.size (1 + z + 4) lo).below bl3 (Nat.le_refl _)
  rw [← hw3] at r4 bl4
  clear hw3 r3 r3' bl3
  go_wp2
  go_ret
  refine ⟨rfl, ?_, bl4⟩
  have r5 : Row w3 w.heap.size 5 ((ending n).map B8) := by
    rw [HE.out]; simpa using r4
  intro j hj
  rw [Nat.zero_add]
  refine r5.cell j _ ?_
  simp [hj]
end Go.Proofs.YtdfbfheceobboaaDoor


namespace Go.Proofs.YtdfbfheceobboaaDoor
open Go.RowKit

theorem digCells_len (s : S8) (p : List By) (n : Nat) (hp : p.length = 64) : (digCells s p n).length = 73 := by simp [digCells, S8.list_len, hp]
theorem digCells_one (s : S8) (p : List By) (n : Nat) : ∀ v ∈ digCells s p n, v.oneCell' = true := by
  intro v hv
  simp only [digCells, List.mem_append, List.mem_singleton] at hv
  rcases hv with h | h | h
  · exact U_one _ v h
  · exact B8_one _ v h
  · subst h; rfl
theorem digCells_count (s : S8) (p : List By) (n : Nat) (hp : p.length = 64) : (digCells s p n)[72]? = some (.int .u64 (n : Int)) := by
  unfold digCells
  rw [List.getElem?_append_right (by simp [S8.list_len]), List.getElem?_append_right (by simp [S8.list_len, hp])]
  simp [S8.list_len, hp]
theorem digCells_setCount (s : S8) (p : List By) (n n' : Nat) (hp : p.length = 64) : (digCells s p n).set 72 (.int .u64 (n' : Int)) = digCells s p n' := by
  unfold digCells
  rw [List.set_append_right _ _ (by simp [S8.list_len]), List.set_append_right _ _ (by simp [S8.list_len, hp])]
  simp [S8.list_len, hp]
theorem digCells_load (s : S8) (p : List By) (n : Nat) : ((digCells s p n).drop 0).take 8 = s.list.map U := by
  unfold digCells
  rw [List.drop_zero, List.take_append_of_le_length (by simp [S8.list_len])]
  exact List.take_of_length_le (by simp [S8.list_len])
theorem digCells_part (s : S8) (p X : List By) (n h t : Nat) (hp : p.length = 64) (ht : X.length = t) (hh : h + t ≤ 64) :
    (digCells s p n).take (8 + h) ++ X.map B8 ++ (digCells s p n).drop (8 + h + (X.map B8).length) = digCells s (p.take h ++ X ++ p.drop (h + t)) n := by
  unfold digCells
  have e8 : (s.list.map U).length = 8 := by simp [S8.list_len]
  have h1 : (s.list.map U ++ (p.map B8 ++ [Value.int .u64 (n : Int)])).take (8 + h) = s.list.map U ++ (p.take h).map B8 := by
    rw [List.take_append, e8, show 8 + h - 8 = h by omega, List.take_of_length_le (by omega), List.take_append_of_le_length (by simp; omega), List.map_take]
  have h2 : (s.list.map U ++ (p.map B8 ++ [Value.int .u64 (n : Int)])).drop (8 + h + t) = (p.drop (h + t)).map B8 ++ [Value.int .u64 (n : Int)] := by
    rw [List.drop_append, e8, show 8 + h + t - 8 = h + t by omega, List.drop_eq_nil_of_le (by omega), List.nil_append, List.drop_append_of_le_length (by simp; omega), List.map_drop]
  rw [h1, List.length_map, ht, h2]
  simp
theorem digCells_byte (s : S8) (p : List By) (n j : Nat) (hp : p.length = 64) (hj : j < 64) : (digCells s p n)[8 + j]? = some (B8 (p.getD j 0)) := by
  unfold digCells
  rw [List.getElem?_append_right (by simp [S8.list_len]), show 8 + j - (s.list.map U).length = j by simp [S8.list_len], List.getElem?_append_left (by simp; omega)]
  simp [hp, hj]

/-! ### The state behind some pieces, and more bytes behind them -/
theorem pc_append (M X : List By) (k : Nat) (h : 64 * (k + 1) ≤ M.length) : pc (M ++ X) k = pc M k := by
  unfold pc
  rw [List.drop_append_of_le_length (by omega), List.take_append_of_le_length (by simp; omega)]
theorem hs_append (M X : List By) (n : Nat) (h : 64 * n ≤ M.length) : hs (M ++ X) n = hs M n := by
  induction n with
  | zero => simp only [hs]
  | succ k ih => rw [← hs_succ, ← hs_succ, ih (by omega), pc_append M X k h]

/-- The Digest at block D has the bytes M. -/
def Dig (w : World) (D : Nat) (M : List By) : Prop := ∃ p, p.length = 64 ∧ p.take (M.length % 64) = M.drop (64 * (M.length / 64)) ∧ Row w D 92 (digCells (hs M (M.length / 64)) p M.length)

/-- The same, the Digest being the first part of a block of type T: 'post' comes behind it. -/
def DigT (w : World) (D T : Nat) (post : List Value) (M : List By) : Prop := ∃ p, p.length = 64 ∧ p.take (M.length % 64) = M.drop (64 * (M.length / 64)) ∧ Row w D T (digCells (hs M (M.length / 64)) p M.length ++ post)
theorem dig_iff (w : World) (D : Nat) (M : List By) : Dig w D M ↔ DigT w D 92 [] M := by simp [Dig, DigT]
theorem digX_count (s : S8) (p : List By) (n : Nat) (post : List Value) (hp : p.length = 64) : (digCells s p n ++ post)[72]? = some (.int .u64 (n : Int)) := by
  rw [List.getElem?_append_left (by rw [digCells_len _ _ _ hp]; omega)]; exact digCells_count s p n hp
theorem digX_setCount (s : S8) (p : List By) (n n' : Nat) (post : List Value) (hp : p.length = 64) : (digCells s p n ++ post).set 72 (.int .u64 (n' : Int)) = digCells s p n' ++ post := by
  rw [List.set_append_left _ _ (by rw [digCells_len _ _ _ hp]; omega), digCells_setCount s p n n' hp]
theorem digX_part (s : S8) (p X : List By) (n h t : Nat) (post : List Value) (hp : p.length = 64) (ht : X.length = t) (hh : h + t ≤ 64) :
    (digCells s p n ++ post).take (8 + h) ++ X.map B8 ++ (digCells s p n ++ post).drop (8 + h + (X.map B8).length) = digCells s (p.take h ++ X ++ p.drop (h + t)) n ++ post := by
  have hl := digCells_len s p n hp
  rw [List.take_append_of_le_length (by omega), List.drop_append_of_le_length (by rw [List.length_map, ht]; omega), ← List.append_assoc, digCells_part s p X n h t hp ht hh]
theorem digX_byte (s : S8) (p : List By) (n j : Nat) (post : List Value) (hp : p.length = 64) (hj : j < 64) : (digCells s p n ++ post)[8 + j]? = some (B8 (p.getD j 0)) := by
  rw [List.getElem?_append_left (by rw [digCells_len _ _ _ hp]; omega)]; exact digCells_byte s p n j hp hj

theorem dig_less (M X p : List By) (hp : p.length = 64) (hpt : p.take (M.length % 64) = M.drop (64 * (M.length / 64))) (hX : M.length % 64 + X.length < 64) :
    (p.take (M.length % 64) ++ X ++ p.drop (M.length % 64 + X.length)).length = 64 ∧
    (p.take (M.length % 64) ++ X ++ p.drop (M.length % 64 + X.length)).take ((M ++ X).length % 64) = (M ++ X).drop (64 * ((M ++ X).length / 64)) ∧
    hs (M ++ X) ((M ++ X).length / 64) = hs M (M.length / 64) := by
  have e1 : (M ++ X).length / 64 = M.length / 64 := by simp; omega
  have e2 : (M ++ X).length % 64 = M.length % 64 + X.length := by simp; omega
  refine ⟨by simp; omega, ?_, ?_⟩
  · rw [e1, e2, List.drop_append_of_le_length (by omega), ← hpt]
    exact List.take_left' (by simp; omega)
  · rw [e1]; exact hs_append M X _ (by omega)
theorem dig_full (M X p : List By) (hp : p.length = 64) (hpt : p.take (M.length % 64) = M.drop (64 * (M.length / 64))) (hX : M.length % 64 + X.length = 64) :
    (p.take (M.length % 64) ++ X ++ p.drop (M.length % 64 + X.length)).length = 64 ∧
    (M ++ X).length % 64 = 0 ∧ (M ++ X).length / 64 = M.length / 64 + 1 ∧
    hs (M ++ X) ((M ++ X).length / 64) = comp (hs M (M.length / 64)) (p.take (M.length % 64) ++ X ++ p.drop (M.length % 64 + X.length)) := by
  have e1 : (M ++ X).length / 64 = M.length / 64 + 1 := by simp; omega
  refine ⟨by simp; omega, by simp; omega, e1, ?_⟩
  rw [e1, ← hs_succ, hs_append M X _ (by omega)]
  have e2 : pc (M ++ X) (M.length / 64) = p.take (M.length % 64) ++ X ++ p.drop (M.length % 64 + X.length) := by
    unfold pc
    have e3 : p.drop (M.length % 64 + X.length) = [] := List.drop_eq_nil_of_le (by omega)
    rw [List.drop_append_of_le_length (by omega), ← hpt, e3, List.append_nil]
    exact List.take_of_length_le (by simp; omega)
  rw [e2]

/-- All old blocks but D are as they were. -/
structure Kept (D : Nat) (w w' : World) : Prop where
  os : w'.os = w.os
  tape : w'.tape = w.tape
  output : w'.output = w.output
  size : w.heap.size ≤ w'.heap.size
  block : ∀ k, k < w.heap.size → k ≠ D → w'.heap[k]? = w.heap[k]?
theorem Kept.refl (D : Nat) (w : World) : Kept D w w := ⟨rfl, rfl, rfl, Nat.le_refl _, fun _ _ _ => rfl⟩
theorem Kept.trans {D : Nat} {a b c : World} (h : Kept D a b) (k : Kept D b c) : Kept D a c :=
  ⟨k.os.trans h.os, k.tape.trans h.tape, k.output.trans h.output, Nat.le_trans h.size k.size, fun i hi hne => (k.block i (Nat.lt_of_lt_of_le hi h.size) hne).trans (h.block i hi hne)⟩
theorem Kept.but {D : Nat} {a w w' : World} (h : Kept D a w) (hs : SameBut D w w') : Kept D a w' :=
  h.trans ⟨hs.os, hs.tape, hs.output, Nat.le_of_eq hs.size.symm, fun k _ hne => hs.block k hne⟩
theorem Kept.below {D : Nat} {a w w' : World} (h : Kept D a w) (hb : Below w.heap.size w w') : Kept D a w' :=
  h.trans ⟨hb.os, hb.tape, hb.output, hb.size, fun k hk _ => hb.block k hk⟩
theorem Kept.dr {D : Nat} {a w w' : World} (h : Kept D a w) (d : Dr w w') : Kept D a w' := by
  obtain ⟨n, rfl⟩ := d; exact ⟨h.os, h.tape, h.output, h.size, h.block⟩
theorem Row.kept {w w' : World} {g t D : Nat} {cs : List Value} (h : Row w g t cs) (k : Kept D w w') (hne : g ≠ D) : Row w' g t cs := (k.block g h.lt hne).trans h
theorem Kept.toBelow {D B : Nat} {a w w' : World} (h : Kept D w w') (hb : Below B a w) (hBD : B ≤ D) (hB : B ≤ w.heap.size) : Below B a w' :=
  hb.trans ⟨h.os, h.tape, h.output, h.size, fun k hk => h.block k (by omega) (by omega)⟩

/-- What a slice holds, its block another than D. -/
def IsBn (D : Nat) (w : World) (ao : Option Addr) (m : List By) : Prop :=
  m = [] ∨ ∃ B off, ao = some ⟨B, off, none⟩ ∧ ∀ j v, m[j]? = some v → B ≠ D ∧ w.cell? ⟨B, off + j, none⟩ = some (B8 v)
theorem IsBn.keep {D : Nat} {w w' : World} {ao : Option Addr} {m : List By} (h : IsBn D w ao m) (hk : ∀ B, B < w.heap.size → B ≠ D → w'.heap[B]? = w.heap[B]?) : IsBn D w' ao m := by
  rcases h with h | ⟨B, off, rfl, hc⟩
  · exact .inl h
  · refine .inr ⟨B, off, rfl, fun j v hj => ?_⟩
    obtain ⟨h1, h2⟩ := hc j v hj
    exact ⟨h1, (World.cell?_of_block (w := w) (hk B (block_lt_of_cell h2) h1)).trans h2⟩

theorem wpList_copy_Row {ops : Array Oper} {rest : List Oper} {o : Oper} {a : Act} {w : World} {Q : Exit → Act → World → Prop} (hgd : o.guard = none) (d s : Operand)
    (ho : o.op = .call { callee := .builtin .copy, args := #[d, s], argTypes := #[22, 22] })
    (D od dLen dCap B off sLen sCap : Nat) (hd : a.eval d = .slice (some ⟨D, od, none⟩) dLen dCap) (hs : a.eval s = .slice (some ⟨B, off, none⟩) sLen sCap)
    (t : Nat) (cur : List Value) (hr : Row w D t cur) (cs : List By) (k : Nat) (hk : cs.length = k) (hn : k = Nat.min sLen dLen)
    (hsrc : ∀ j v, cs[j]? = some v → w.cell? ⟨B, off + j, none⟩ = some (B8 v)) (hfit : od + k ≤ cur.length)
    (h : ∀ w', Row w' D t (cur.take od ++ cs.map B8 ++ cur.drop (od + (cs.map B8).length)) → SameBut D w w' → wpList Tryd.prog ops Q rest (a.put o.dst (.int .i64 (k : Int))) w') : wpList Tryd.prog ops Q (o :: rest) a w := by
  refine wpList_plain hgd fun K hK => ?_
  have hth := hr.there od k hfit
  have hrun := run_copy_cells (P := Tryd.prog) w 22 22 o.type 5 D od dLen dCap ⟨B, off, none⟩ sLen sCap (cs.map B8) Tryd.underlying22 (by kernel_rfl) (by rw [List.length_map, hk, hn])
    (by
      intro j v hv
      rw [Addr.add_mid]
      rw [List.getElem?_map] at hv
      cases hj : cs[j]? with
      | none => rw [hj] at hv; cases hv
      | some x => rw [hj] at hv; injection hv with hv; subst hv; exact hsrc j x hj)
    (fun j hj => (hth j (by rw [List.length_map, hk] at hj; exact hj)).1) (fun j hj => (hth j (by rw [List.length_map, hk] at hj; exact hj)).2) (B8_one cs)
  unfold Oper.wp
  simp [execOp, ho, resolve, invoke, builtin, hd, hs, hrun, Result.andThen, goInt, hk]
  refine hK _ _ (h _ ?_ (SameBut.setCells D _ od w))
  exact Row.setCells (cs.map B8) od w cur hr (by rw [List.length_map, hk]; exact hfit)

end Go.Proofs.YtdfbfheceobboaaDoor
