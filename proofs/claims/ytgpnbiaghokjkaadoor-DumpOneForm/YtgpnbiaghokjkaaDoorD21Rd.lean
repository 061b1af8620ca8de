import Derived.Test.YtgpnbiaghokjkaaDoorD21Print
import Derived.Shelf.Strconv.AppendIntPublic10
import Derived.Lib.SmallJoins
import Derived.Lib.OwnKind
import Derived.Test.YtgpnbiaghokjkaaDoorD21May
import Derived.BigQuiet
/-! Layer 21, the landed code: numbers in digits (strconv.AppendInt), laid at this program. (The table of numbers and its rows are printed by tools/laysai.py.) -/
namespace Go.Proofs.YtgpnbiaghokjkaaDoor
open Go.RowKit
set_option linter.unusedVariables false
set_option linter.unusedSimpArgs false
set_option maxRecDepth 100000

def Tryd.laysAI_ren : Go.Shelf.Ren := ⟨fun | 176 => 64 | 249 => 75 | 288 => 80 | 283 => 83 | 284 => 84 | 285 => 85 | 286 => 86 | 129 => 88 | 317 => 87 | 318 => 89 | 319 => 90 | 320 => 91 | 337 => 92 | 338 => 93 | n => n, fun | 37 => 49 | 2 => 2 | 3 => 3 | 53 => 114 | 4 => 4 | 9 => 9 | 171 => 116 | 0 => 0 | 173 => 119 | 212 => 123 | 51 => 124 | 5 => 5 | 20 => 20 | 213 => 125 | 46 => 87 | 232 => 55 | 233 => 129 | n => n, fun | 17 => 1 | 18 => 2 | 19 => 3 | n => n⟩
theorem Tryd.laysAI : Go.Proofs.LaysM.n176 Tryd.prog Tryd.laysAI_ren where
  mixed := by kernel_rfl
  f129 := Tryd.func88.trans (congrArg some (by kernel_rfl))
  f176 := Tryd.func64.trans (congrArg some (by kernel_rfl))
  f249 := Tryd.func75.trans (congrArg some (by kernel_rfl))
  f283 := Tryd.func83.trans (congrArg some (by kernel_rfl))
  f284 := Tryd.func84.trans (congrArg some (by kernel_rfl))
  f285 := Tryd.func85.trans (congrArg some (by kernel_rfl))
  f286 := Tryd.func86.trans (congrArg some (by kernel_rfl))
  f288 := Tryd.func80.trans (congrArg some (by kernel_rfl))
  f317 := Tryd.func87.trans (congrArg some (by kernel_rfl))
  f318 := Tryd.func89.trans (congrArg some (by kernel_rfl))
  f319 := Tryd.func90.trans (congrArg some (by kernel_rfl))
  f320 := Tryd.func91.trans (congrArg some (by kernel_rfl))
  f337 := Tryd.func92.trans (congrArg some (by kernel_rfl))
  f338 := Tryd.func93.trans (congrArg some (by kernel_rfl))
  t0 := Tryd.underlying0
  a0 := Tryd.isAgg0
  z0 := Tryd.sizeOf0
  v0 := Tryd.zeroValue0
  t2 := Tryd.underlying2
  a2 := Tryd.isAgg2
  z2 := Tryd.sizeOf2
  v2 := Tryd.zeroValue2
  t3 := Tryd.underlying3
  a3 := Tryd.isAgg3
  z3 := Tryd.sizeOf3
  v3 := Tryd.zeroValue3
  t4 := Tryd.underlying4
  a4 := Tryd.isAgg4
  z4 := Tryd.sizeOf4
  v4 := Tryd.zeroValue4
  t5 := Tryd.underlying5
  a5 := Tryd.isAgg5
  z5 := Tryd.sizeOf5
  v5 := Tryd.zeroValue5
  t9 := Tryd.underlying9
  a9 := Tryd.isAgg9
  z9 := Tryd.sizeOf9
  v9 := Tryd.zeroValue9
  t20 := Tryd.underlying20
  a20 := Tryd.isAgg20
  z20 := Tryd.sizeOf20
  v20 := Tryd.zeroValue20
  t37 := Tryd.underlying49
  a37 := Tryd.isAgg49
  z37 := Tryd.sizeOf49
  v37 := Tryd.zeroValue49
  t46 := Tryd.underlying87
  a46 := Tryd.isAgg87
  z46 := Tryd.sizeOf87
  v46 := Tryd.zeroValue87
  t51 := Tryd.underlying124
  a51 := Tryd.isAgg124
  z51 := Tryd.sizeOf124
  v51 := Tryd.zeroValue124
  t53 := Tryd.underlying114
  a53 := Tryd.isAgg114
  z53 := Tryd.sizeOf114
  v53 := Tryd.zeroValue114
  t171 := Tryd.underlying116
  a171 := Tryd.isAgg116
  z171 := Tryd.sizeOf116
  v171 := Tryd.zeroValue116
  t173 := Tryd.underlying119
  a173 := Tryd.isAgg119
  z173 := Tryd.sizeOf119
  v173 := Tryd.zeroValue119
  t212 := Tryd.underlying123
  a212 := Tryd.isAgg123
  z212 := Tryd.sizeOf123
  v212 := Tryd.zeroValue123
  t213 := Tryd.underlying125
  a213 := Tryd.isAgg125
  z213 := Tryd.sizeOf125
  t232 := Tryd.underlying55
  a232 := Tryd.isAgg55
  z232 := Tryd.sizeOf55
  v232 := Tryd.zeroValue55
  t233 := Tryd.underlying129
  a233 := Tryd.isAgg129
  z233 := Tryd.sizeOf129
  v233 := Tryd.zeroValue129
  g17 := by kernel_rfl
  g18 := by kernel_rfl
  g19 := by kernel_rfl
  i0 := by kernel_rfl
  i2 := by kernel_rfl
  i3 := by kernel_rfl
  i4 := by kernel_rfl
  i5 := by kernel_rfl
  i9 := by kernel_rfl
  i20 := by kernel_rfl
  i37 := by kernel_rfl
  i46 := by kernel_rfl
  i51 := by kernel_rfl
  i53 := by kernel_rfl
  i171 := by kernel_rfl
  i173 := by kernel_rfl
  i212 := by kernel_rfl
  i232 := by kernel_rfl
  i233 := by kernel_rfl
  m17 := by kernel_rfl
  m18 := by kernel_rfl
  m19 := by kernel_rfl

theorem dec_num : ∀ (k u : Nat), u < 10 ^ (k + 1) → Lib.byteCells (Lib.decDigits u) = (numF k u).map B8
  | 0, u, h => by
    have h' : u < 10 := by simpa using h
    rw [Lib.decDigits, dif_pos h', numF]
    unfold Lib.byteCells
    show [Value.int .u8 _] = [B8 (dg u)]
    unfold B8 dg
    rw [BitVec.toNat_ofNat, Nat.mod_eq_of_lt h', UInt8.toNat_ofNat']
  | k + 1, u, h => by
    by_cases h' : u < 10
    · rw [Lib.decDigits, dif_pos h', numF, if_pos h']
      unfold Lib.byteCells
      show [Value.int .u8 _] = [B8 (dg u)]
      unfold B8 dg
      rw [BitVec.toNat_ofNat, Nat.mod_eq_of_lt h', UInt8.toNat_ofNat']
    · rw [Lib.decDigits, dif_neg h', numF, if_neg h', Lib.byteCells_append, List.map_append, dec_num k (u / 10) (by rw [Nat.pow_succ] at h; omega)]
      congr 1
theorem itoa_num (n : Nat) (hn : n < 9223372036854775808) : Lib.byteCells (Lib.itoa (n : Int)) = (num n).map B8 := by
  rw [Lib.itoa_nonneg]
  exact dec_num 20 n (by omega)

/-- The table that AppendInt reads. -/
def Tab (w : World) : Prop := Lib.TabIs Tryd.prog w "internal/strconv.uint64pow10" .u64 Lib.pow10Tab
def TabB (N : Nat) (w : World) : Prop := Lib.TabBelow Tryd.prog N w "internal/strconv.uint64pow10" .u64 Lib.pow10Tab
theorem Tab.b {w : World} (h : Tab w) : TabB w.heap.size w := Lib.tabBelow_of_tabIs h
theorem Tab.on {w w' : World} {N : Nat} (h : Tab w) (hb : Below N w w') (hN : w.heap.size ≤ N) : Tab w' := h.b w' (hb.mono hN)
theorem TabB.on {N : Nat} {w w' : World} (h : TabB N w) (hb : Below N w w') : TabB N w' := Lib.TabBelow.on h hb

/-- What the writers leave as it was: all that is older, and all but bytes. -/
def Fr (N : Nat) (w w' : World) : Prop := Below N w w' ∧ Lib.OthersKept 5 none w w'
theorem Fr.refl (N : Nat) (w : World) : Fr N w w := ⟨Below.refl _ _, Lib.OthersKept.refl _ _ _⟩
theorem Fr.trans {N : Nat} {a b c : World} (h : Fr N a b) (k : Fr N b c) : Fr N a c := ⟨h.1.trans k.1, h.2.trans k.2⟩
theorem Fr.alloc {N : Nat} {a w : World} (h : Fr N a w) (hN : N ≤ w.heap.size) (o : Obj) : Fr N a (w.alloc o) := ⟨h.1.alloc hN o, h.2.alloc o⟩
theorem Fr.below {N : Nat} {a w w' : World} (h : Fr N a w) (hb : Below w.heap.size w w') (hN : N ≤ w.heap.size) : Fr N a w' := ⟨h.1.trans (hb.mono hN), h.2.below hb⟩
theorem Fr.row {N : Nat} {w w' : World} (h : Fr N w w') {g T : Nat} {cs : List Value} (hr : Row w g T cs) (hT : T ≠ 5) : Row w' g T cs :=
  h.2 g _ hr (by simp) fun c fz e => by injection e with e1 e2 e3; exact hT e2

set_option maxHeartbeats 1000000 in
theorem appendInt_any (N : Nat) (n : Nat) (hn : n < 9223372036854775808) (v : Value) (m : List By) (w : World) (ho : Own N w v m) (hl : m.length + 21 ≤ 140737488355328) (ht : TabB N w) :
    Calls Tryd.prog 64 #[v, .int .i64 (n : Int), .int .i64 10] w fun e w' => ∃ v', e = .returned v' ∧ Own N w' v' (m ++ num n) ∧ Fr N w w' := by
  have hL : (Lib.itoa (n : Int)).length = (num n).length := by
    have := congrArg List.length (itoa_num n hn)
    rwa [Lib.byteCells_length, List.length_map] at this
  refine (Any.strconv_AppendInt_10 Tryd.laysAI N m.length (n : Int) (by omega) (by omega) v (m.map B8) w ho.1 ho.2 hl ht).mono ?_
  rintro e w' ⟨v', rfl, h1, h2, h3⟩
  refine ⟨v', rfl, ⟨?_, Nat.le_trans ho.2 h2.size⟩, h2, h3⟩
  rw [itoa_num n hn, hL] at h1
  rw [List.length_append, List.map_append]
  exact h1
end Go.Proofs.YtgpnbiaghokjkaaDoor

/-! Layer 21, the landed code: what is written so far; append onto it. -/
namespace Go.Proofs.YtgpnbiaghokjkaaDoor
open Go.RowKit
set_option linter.unusedVariables false
set_option linter.unusedSimpArgs false
set_option maxRecDepth 100000

/-- What is written so far. -/
structure Buf (N : Nat) (w0 : World) (m : List By) (v : Value) (w : World) : Prop where
  own : Own N w v m
  fr : Fr N w0 w
section
variable {N : Nat} {w0 w w' : World} {m : List By} {v : Value}
theorem Buf.form (h : Buf N w0 m v w) : ∃ ao c, v = .slice ao m.length c := own_form h.own
theorem Buf.alloc (h : Buf N w0 m v w) (o : Obj) : Buf N w0 m v (w.alloc o) := ⟨h.own.keep ((Below.refl _ _).alloc (Nat.le_refl _) _), h.fr.alloc h.own.2 o⟩
theorem Buf.below (h : Buf N w0 m v w) (hb : Below w.heap.size w w') : Buf N w0 m v w' := ⟨h.own.keep hb, h.fr.below hb h.own.2⟩
theorem Buf.drew (h : Buf N w0 m v w) : Buf N w0 m v w.drew := h.below (Below_dr (Below.refl _ _) ⟨1, rfl⟩)
theorem Buf.row (h : Buf N w0 m v w) {g T : Nat} {cs : List Value} (hr : Row w0 g T cs) (hT : T ≠ 5) : Row w g T cs := h.fr.row hr hT
end
theorem run_app (N : Nat) (w0 w : World) (ty : TypeId) (v : Value) (m : List By) (hbuf : Buf N w0 m v w)
    (ao : Option Addr) (n cap : Nat) (bs : List By) (hn : bs.length = n) (hb : IsB w ao bs) (hnil : ao = none → cap = 0) (hl : m.length + n ≤ 140737488353280) :
    ∃ v' w', (Builtin.append_ #[49, 49] ty #[v, .slice ao n cap]).run Tryd.prog w = .ok v' w' ∧ Buf N w0 (m ++ bs) v' w' := by
  obtain ⟨i0, hi, hz0, hz1, hz2⟩ := info_parts Tryd.infoU8
  subst hn
  have hown := hbuf.own
  have hN := hown.2
  have some_case : ∀ ad : Addr, (∀ j u, (bs.map B8)[j]? = some u → w.cell? (ad.add j) = some u) → ∃ v' w', (Builtin.append_ #[49, 49] ty #[v, .slice (some ad) bs.length cap]).run Tryd.prog w = .ok v' w' ∧ Buf N w0 (m ++ bs) v' w' := by
    intro ad hnews
    obtain ⟨v', w', h1, h2, h3, _⟩ := run_append_own (P := Tryd.prog) w N 49 ty 5 i0 (.int .u8 0) 1 1 Tryd.underlying49 hi hz0 hz1 hz2 rfl (by decide) _ m.length (m.map B8) hown.1 ad bs.length cap (bs.map B8) (by simp) hnews (B8_one bs) (by unfold maxLen; omega) (by omega) hN
    refine ⟨v', w', h1, ⟨?_, Nat.le_trans hN h3.size⟩, hbuf.fr.1.grown h3 hN (fun k hk => (hown.1.lt k hk).1), hbuf.fr.2.grown h3 (Lib.ownsRow_kind hown.1)⟩
    rw [List.length_append, List.map_append]; exact h2
  rcases hb with rfl | ⟨B, off, rfl, hc⟩
  · cases ao with
    | none =>
      rw [hnil rfl]
      refine ⟨v, w, ?_, ?_⟩
      · have := run_append_owned_none (P := Tryd.prog) (w := w) N 49 ty 5 i0 1 Tryd.underlying49 hi _ m.length (m.map B8) hown.1
        simpa using this
      · simpa using hbuf
    | some ad => exact some_case ad (by simp)
  · refine some_case _ ?_
    intro j u hu
    rw [Addr.add_mid]
    rw [List.getElem?_map] at hu
    cases hj : bs[j]? with
    | none => rw [hj] at hu; cases hu
    | some v => rw [hj] at hu; injection hu with hu; subst hu; exact hc j v hj
/-- append of bytes that lie somewhere. -/
theorem wpList_bap {ops : Array Oper} {rest : List Oper} {o : Oper} {a : Act} {w : World} {Q : Exit → Act → World → Prop} (hgd : o.guard = none) (s x : Operand)
    (ho : o.op = .call { callee := .builtin .append, args := #[s, x], argTypes := #[49, 49] })
    (N : Nat) (w0 : World) (v : Value) (m : List By) (hbuf : Buf N w0 m v w) (hs : a.eval s = v)
    (ao : Option Addr) (n cap : Nat) (bs : List By) (hx : a.eval x = .slice ao n cap) (hn : bs.length = n) (hb : IsB w ao bs) (hnil : ao = none → cap = 0) (hl : m.length + n ≤ 140737488353280)
    (h : ∀ v' w', Buf N w0 (m ++ bs) v' w' → wpList Tryd.prog ops Q rest (a.put o.dst v') w') : wpList Tryd.prog ops Q (o :: rest) a w := by
  refine wpList_plain hgd fun K hK => ?_
  obtain ⟨v', w', hrun, h2⟩ := run_app N w0 w o.type v m hbuf ao n cap bs hn hb hnil hl
  unfold Oper.wp execOp
  simp only [ho, resolve, invoke, builtin, Sem.run_bind, Sem.run_pure, Result.andThen_ok, List.map_toArray, List.map_cons, List.map_nil, hs, hx, hrun]
  exact hK _ _ (h v' w' h2)
/-- append of one byte that was just laid. -/
theorem wpList_bap1 {ops : Array Oper} {rest : List Oper} {o : Oper} {a : Act} {w : World} {Q : Exit → Act → World → Prop} (hgd : o.guard = none) (s x : Operand)
    (ho : o.op = .call { callee := .builtin .append, args := #[s, x], argTypes := #[49, 49] })
    (N : Nat) (w0 : World) (v : Value) (m : List By) (hbuf : Buf N w0 m v w) (hs : a.eval s = v) (y : By) (yy : Int) (hyy : yy = (y.toNat : Int)) (hx : a.eval x = .slice (some ⟨w.heap.size, 0, none⟩) 1 1) (hl : m.length + 1 ≤ 140737488353280)
    (h : ∀ v' w', Buf N w0 (m ++ [y]) v' w' → wpList Tryd.prog ops Q rest (a.put o.dst v') w') : wpList Tryd.prog ops Q (o :: rest) a (w.alloc (.cells #[.int .u8 yy] 5)) :=
  wpList_bap hgd s x ho N w0 v m (hbuf.alloc _) hs _ 1 1 [y] hx rfl (own_IsB (own_one w.heap.size w y (Nat.le_refl _) yy hyy)) (fun e => by cases e) hl h
/-- append of a string. -/
theorem wpList_baps {ops : Array Oper} {rest : List Oper} {o : Oper} {a : Act} {w : World} {Q : Exit → Act → World → Prop} (hgd : o.guard = none) (x y : Operand)
    (ho : o.op = .call { callee := .builtin .append, args := #[x, y], argTypes := #[49, 9] })
    (N : Nat) (w0 : World) (v : Value) (m : List By) (hbuf : Buf N w0 m v w) (hx : a.eval x = v)
    (s : ByteArray) (hy : a.eval y = .string s) (bs : List By) (hs : s = strOf bs) (hl : m.length + bs.length ≤ 140737488353280)
    (h : ∀ v' w', Buf N w0 (m ++ bs) v' w' → wpList Tryd.prog ops Q rest (a.put o.dst v') w') : wpList Tryd.prog ops Q (o :: rest) a w := by
  refine wpList_plain hgd fun K hK => ?_
  obtain ⟨i0, hi, hz0, hz1, hz2⟩ := info_parts Tryd.info5
  have hown := hbuf.own
  have hz : s.size = bs.length := by rw [hs, strOf_size]
  obtain ⟨v', w', hrun, h2, h3, _⟩ := Lib.run_append_own_string (P := Tryd.prog) w N 49 9 o.type 5 i0 Tryd.underlying49 Tryd.underlying9 hi hz0 hz1 hz2 _ m.length (m.map B8) hown.1 s (by unfold maxLen; omega) (by omega) hown.2
  unfold Oper.wp execOp
  simp only [ho, resolve, invoke, builtin, Sem.run_bind, Sem.run_pure, Result.andThen_ok, List.map_toArray, List.map_cons, List.map_nil, hx, hy, hrun]
  refine hK _ _ (h v' w' ⟨⟨?_, Nat.le_trans hown.2 h3.size⟩, hbuf.fr.1.grown h3 hown.2 (fun k hk => (hown.1.lt k hk).1), hbuf.fr.2.grown h3 (Lib.ownsRow_kind hown.1)⟩)
  rw [hz, hs, strCells_of] at h2
  rw [List.length_append, List.map_append]; exact h2
/-- Numbers that lie in memory, not among bytes. -/
def NumAt (w : World) (lo : Option Addr) (l : List Nat) : Prop := l = [] ∨ ∃ B T cs, lo = some ⟨B, 0, none⟩ ∧ T ≠ 5 ∧ Row w B T cs ∧ ∀ (j n : Nat), l[j]? = some n → cs[j]? = some (nI n)
theorem NumAt.fr {w w' : World} {lo : Option Addr} {l : List Nat} {N : Nat} (h : NumAt w lo l) (hf : Fr N w w') : NumAt w' lo l := by
  rcases h with h | ⟨B, T, cs, e, hT, hr, hc⟩
  · exact .inl h
  · exact .inr ⟨B, T, cs, e, hT, hf.row hr hT, hc⟩
theorem NumAt.cell {w : World} {lo : Option Addr} {l : List Nat} (h : NumAt w lo l) (j : Nat) (hj : j < l.length) : ∃ B, lo = some ⟨B, 0, none⟩ ∧ w.cell? ⟨B, j, none⟩ = some (.int .i64 (l.getD j 0 : Int)) := by
  rcases h with h | ⟨B, T, cs, e, hT, hr, hc⟩
  · subst h; cases hj
  · refine ⟨B, e, hr.cell j _ ?_⟩
    rw [hc j _ (List.getElem?_eq_getElem hj), List.getD_eq_getElem?_getD, List.getElem?_eq_getElem hj]; rfl
/-- What a writer tells. -/
def Wrote (N : Nat) (w : World) (m : List By) (e : Ending) (w' : World) : Prop := ∃ v', e = .returned v' ∧ Buf N w m v' w'

set_option maxHeartbeats 2000000 in
theorem appendWords_any (N : Nat) (v : Value) (m : List By) (w : World) (ho : Own N w v m) (ht : TabB N w) (S : ByteArray) (word : List By) (hS : S = strOf word) (hwl : word.length ≤ 100) (l : List Nat) (hll : l.length ≤ 1000000) (hl63 : ∀ n ∈ l, n < 9223372036854775808) (lo : Option Addr) (lc : Nat) (hn : NumAt w lo l) (hm : m.length ≤ 100000000000000) :
    Calls Tryd.prog 53 #[v, .string S, .slice lo l.length lc] w (Wrote N w (m ++ (word ++ numsL l))) := by
  have HT : Hid (∀ W, Below N w W → TabB N W) := fun W hW => ht.on hW
  have HN : Hid (∀ W, Fr N w W → ∀ i, i < l.length → ∃ B, lo = some ⟨B, 0, none⟩ ∧ W.cell? ⟨B, i, none⟩ = some (.int .i64 (l.getD i 0 : Int))) := fun W hW i hi => (hn.fr hW).cell i hi
  have H63 : Hid (∀ i, i < l.length → l.getD i 0 < 9223372036854775808) := fun i hi => hl63 _ (by rw [List.getD_eq_getElem?_getD, List.getElem?_eq_getElem hi]; exact List.getElem_mem _)
  have HLN : Hid (∀ i, (numsL (l.take i)).length ≤ 20000000) := fun i => by
    have := numsL_len (l.take i) (fun n hn => hl63 n (List.mem_of_mem_take hn))
    rw [List.length_take] at this
    omega
  have HST : Hid (∀ i, i < l.length → numsL (l.take (i + 1)) = numsL (l.take i) ++ (32#8 :: num (l.getD i 0))) := fun i hi => nums_take l i hi
  have HEND : Hid (numsL (l.take l.length) = numsL l) := by show _ = _; rw [List.take_length]
  have HB : Hid (Buf N w m v w) := ⟨ho, Fr.refl _ _⟩
  have HS : Hid (S = strOf word) := hS
  have HAI : Hid (∀ (W : World) (n : Nat) (u : Value) (k : List By), Own N W u k → n < 9223372036854775808 → k.length + 21 ≤ 140737488355328 → TabB N W → Calls Tryd.prog 64 #[u, .int .i64 (n : Int), .int .i64 10] W fun e w' => ∃ v', e = .returned v' ∧ Own N w' v' (k ++ num n) ∧ Fr N W w') := fun W n u k h1 h2 h3 h4 => appendInt_any N n h2 u k W h1 h3 h4
  have HWL : Hid (word.length ≤ 100) := hwl
  have HM : Hid (m.length ≤ 100000000000000) := hm
  have hLs : l.length < 9223372036854775808 := by omega
  clear ho ht hn hl63 hS hwl hm hll
  go_enter Tryd.func53, Tryd.ntmps53
  go_upto_region 2 with (at_builtin; refine wpList_baps rfl (.tmp 9) (.tmp 10) rfl N w _ m HB.out rfl S rfl word HS.out (by have := HWL.out; have := HM.out; omega) ?_; intro v1 w1 hb1)
  have HB1 : Hid (Buf N w (m ++ word) v1 w1) := hb1
  clear hb1 HB
  go_wp2_with fail
  go_loopw [0, 14] (fun bv iv wr => ∃ (i : Nat), i ≤ l.length ∧ iv = .int .i64 i ∧ Hid (Buf N w (m ++ (word ++ numsL (l.take i))) bv wr)) (fun _ iv _ => l.length - (intOf iv).toNat)
  case atStart => exact ⟨0, by omega, rfl, by show Buf _ _ _ _ _; rw [List.take_zero, show numsL [] = [] from rfl, List.append_nil]; exact HB1.out⟩
  case round =>
    clear HB1
    obtain ⟨i, hi, rfl, HBW⟩ := hrel
    by_cases hlt : i < l.length
    · have y0 : (0 : Int) ≤ (i : Int) := by omega
      have y1 : (i : Int) < (l.length : Int) := by omega
      have wi : IntKind.i64.wrap ((i : Int) + 1) = (i : Int) + 1 := i64_in _ (by omega) (by omega)
      obtain ⟨B, hlo, cc⟩ := HN.out wr HBW.out.fr i hlt
      have HLO : Hid (lo = some ⟨B, 0, none⟩) := hlo
      have HLEN : Hid ((m ++ (word ++ numsL (l.take i))).length ≤ 100000030000000) := by
        have h1 := HLN.out i
        have h2 := HWL.out
        have h3 := HM.out
        show _ ≤ _
        rw [List.length_append, List.length_append]; omega
      rw [hlo]
      clear hlo
      have hn63 := H63.out i hlt
      have HN1 : Hid (m ++ (word ++ numsL (l.take (i + 1))) = m ++ (word ++ numsL (l.take i)) ++ [32#8] ++ num (l.getD i 0)) := by
        show _ = _
        rw [HST.out i hlt]; simp [List.append_assoc]
      generalize l.getD i 0 = n at *
      generalize m ++ (word ++ numsL (l.take i)) = M at *
      go_upto_region 6 with (at_builtin; go_loud (refine wpList_bap1 rfl (.tmp 18) (.tmp 19) rfl N w _ M HBW.out rfl 32#8 32 rfl rfl (by have := HLEN.out; omega) ?_; intro v2 w2 hb2))
      have HB2 : Hid (Buf N w (M ++ [32#8]) v2 w2) := hb2
      clear hb2 HBW cc
      go_wp2_with fail
      refine (HAI.out w2 n v2 (M ++ [32#8]) HB2.out.own hn63 (by have := HLEN.out; rw [List.length_append]; show _ + 1 + 21 ≤ _; omega) (HT.out _ HB2.out.fr.1)).mono ?_
      rintro e w3 ⟨v3, rfl, ho3, hf3⟩
      have HB3 : Hid (Buf N w (m ++ (word ++ numsL (l.take (i + 1)))) v3 w3) := by
        show Buf _ _ _ _ _
        rw [HN1.out]; exact ⟨ho3, HB2.out.fr.trans hf3⟩
      clear ho3 hf3 HB2
      dsimp only
      go_wp2
      exact ⟨⟨i + 1, by omega, by go_num, HB3⟩, by simp [intOf]; omega⟩
    · obtain rfl : i = l.length := by omega
      rw [HEND.out] at HBW
      go_wp2
      go_ret
      exact ⟨_, rfl, HBW.out⟩
end Go.Proofs.YtgpnbiaghokjkaaDoor


/-! Layer 21, the document's answer: the reader's next, see. -/
namespace Go.Proofs.YtgpnbiaghokjkaaDoor
open Go.RowKit
set_option linter.unusedVariables false
set_option linter.unusedSimpArgs false
set_option maxRecDepth 100000

theorem lineOf_none : ∀ (l : List By), 10#8 ∉ l → lineOf l = none
  | [], _ => rfl
  | x :: l, h => by
    rw [lineOf, if_neg (fun e => h (by rw [e]; exact List.mem_cons_self ..)), lineOf_none l (fun hm => h (List.mem_cons_of_mem _ hm))]
/-- A text gone through from a on up to i: no line feed yet. -/
def noLF (T : List By) (a i : Nat) : Prop := 10#8 ∉ (T.drop a).take (i - a)
theorem noLF_step {T : List By} {a i : Nat} (h : noLF T a i) (ha : a ≤ i) (hi : i < T.length) (hx : ¬ T.getD i 0 = 10#8) : noLF T a (i + 1) := by
  unfold noLF at h ⊢
  have e : (T.drop a).take (i + 1 - a) = (T.drop a).take (i - a) ++ [T.getD i 0] := by
    rw [show i + 1 - a = (i - a) + 1 by omega, List.take_add_one, List.getElem?_drop, show a + (i - a) = i by omega, List.getElem?_eq_getElem hi, List.getD_eq_getElem?_getD, List.getElem?_eq_getElem hi]; rfl
  rw [e, List.mem_append, not_or]
  exact ⟨h, fun hm => hx (List.mem_singleton.1 hm).symm⟩
theorem noLF_line {T : List By} {a i : Nat} (h : noLF T a i) (ha : a ≤ i) (hi : i < T.length) (hx : T.getD i 0 = 10#8) : lineOf (T.drop a) = some ((T.drop a).take (i - a), T.drop (i + 1)) := by
  have e : T.drop a = (T.drop a).take (i - a) ++ 10#8 :: T.drop (i + 1) := by
    conv => lhs; rw [← List.take_append_drop (i - a) (T.drop a)]
    rw [List.drop_drop, show a + (i - a) = i by omega, List.drop_eq_getElem_cons hi]
    rw [List.getD_eq_getElem?_getD, List.getElem?_eq_getElem hi] at hx
    rw [show T[i] = 10#8 from hx]
  have := lineOf_app ((T.drop a).take (i - a)) (T.drop (i + 1)) h
  rw [← e] at this
  exact this
theorem noLF_none {T : List By} {a : Nat} (h : noLF T a T.length) : lineOf (T.drop a) = none := by
  refine lineOf_none _ ?_
  unfold noLF at h
  rw [List.take_of_length_le (by rw [List.length_drop]; omega)] at h
  exact h

/-- The document's reader, in memory. -/
def rdC (T : List By) (a ln : Nat) : List Value := [.string (strOf T), .int .i64 (a : Int), .int .i64 (ln : Int)]
/-- What next tells and leaves. -/
def NextP (g : Nat) (T : List By) (a ln : Nat) (w : World) (e : Ending) (w' : World) : Prop :=
  (∃ l a', lineOf (T.drop a) = some (l, T.drop a') ∧ a' ≤ T.length ∧ a < a' ∧ e = .returned (.tuple #[.string (strOf l), .bool true]) ∧ Row w' g 65 (rdC T a' (ln + 1)) ∧ KeptL [g] w w') ∨
  (lineOf (T.drop a) = none ∧ e = .returned (.tuple #[.string (strOf []), .bool false]) ∧ Row w' g 65 (rdC T a (ln + 1)) ∧ KeptL [g] w w')

set_option maxHeartbeats 4000000 in
theorem r21next_any (g : Nat) (T : List By) (a ln : Nat) (w : World) (hr : Row w g 65 (rdC T a ln)) (ha : a ≤ T.length) (hT : T.length ≤ 140737488355328) (hln : ln ≤ 4611686018427387904) :
    Calls Tryd.prog 29 #[.pointer (some ⟨g, 0, none⟩)] w (NextP g T a ln w) := by
  have l0 := hr.cell 2 (.int .i64 (ln : Int)) rfl
  have l0f := hr.frozen 2
  have r1 := hr.set 2 (.int .i64 ((ln : Int) + 1))
  have s1 := SameBut.setCell g 2 (.int .i64 ((ln : Int) + 1)) w
  have e1 : (rdC T a ln).set 2 (.int .i64 ((ln : Int) + 1)) = rdC T a (ln + 1) := by simp [rdC]
  rw [e1] at r1
  have wl : IntKind.i64.wrap ((ln : Int) + 1) = (ln : Int) + 1 := i64_in _ (by omega) (by omega)
  obtain ⟨W1, hW1⟩ : ∃ W1, W1 = w.setCell ⟨g, 2, none⟩ (.int .i64 ((ln : Int) + 1)) := ⟨_, rfl⟩
  rw [← hW1] at r1 s1
  have c0 := r1.cell 0 (.string (strOf T)) rfl
  have c1 := r1.cell 1 (.int .i64 (a : Int)) rfl
  have f1 := r1.frozen 1
  have HR1 : Hid (Row W1 g 65 (rdC T a (ln + 1))) := r1
  have HS1 : Hid (KeptL [g] w W1) := (KeptL.refl _ _).but s1 (.inl (by simp))
  have HIX : Hid (∀ (i : Nat), i < T.length → ∀ W : World, (Instr.index 9 (.string (strOf T)) (.int .i64 (i : Int))).run Tryd.prog W = .ok (.int .u8 ((T.getD i 0).toNat : Int)) W) := fun i hi W => str_index T .i64 i hi W
  have HSL : Hid (∀ (i : Nat), a ≤ i → i ≤ T.length → ∀ W : World, (Instr.slice 9 (.string (strOf T)) (some (.int .i64 (a : Int))) (some (.int .i64 (i : Int))) none).run Tryd.prog W = .ok (.string (strOf ((T.drop a).take (i - a)))) W) := fun i h1 h2 W => str_slice T .i64 .i64 a i h1 h2 W
  have slen : ∀ W : World, (Builtin.len_ #[9] 3 #[.string (strOf T)]).run Tryd.prog W = .ok (goInt T.length) W := fun W => str_len T 3 W
  clear hr r1 s1 e1
  generalize strOf T = ST at *
  go_enter Tryd.func29, Tryd.ntmps29
  go_upto_region 2 with fail
  rw [← hW1]
  clear hW1 l0 l0f
  go_wp2_with fail
  go_loopw [4] (fun iv wr => ∃ i : Nat, a ≤ i ∧ i ≤ T.length ∧ iv = .int .i64 i ∧ wr = W1 ∧ Hid (noLF T a i)) (fun iv _ => T.length - (intOf iv).toNat)
  case atStart => exact ⟨a, Nat.le_refl _, ha, rfl, rfl, by show 10#8 ∉ _; rw [Nat.sub_self]; simp⟩
  case round =>
    obtain ⟨i, hi1, hi2, rfl, rfl, HN⟩ := hrel
    by_cases hlt : i < T.length
    · have y0 : (0 : Int) ≤ (i : Int) := by omega
      have y1 : (i : Int) < (T.length : Int) := by omega
      have ix := HIX.out i hlt
      by_cases hx : T.getD i 0 = 10#8
      · have sl := HSL.out i hi1 hi2
        have hxn : ((T.getD i 0).toNat : Int) = 10 := by rw [hx]; rfl
        rw [hxn] at ix
        have HL : Hid (lineOf (T.drop a) = some ((T.drop a).take (i - a), T.drop (i + 1))) := noLF_line HN.out hi1 hlt hx
        have HR2 : Hid (∀ n, Row ((wr.drewN n).setCell ⟨g, 1, none⟩ (.int .i64 ((i : Int) + 1))) g 65 (rdC T (i + 1) (ln + 1))) := fun n => by
          have r2 := (HR1.out.dr ⟨n, rfl⟩).set 1 (.int .i64 ((i : Int) + 1))
          have e2 : (rdC T a (ln + 1)).set 1 (.int .i64 ((i : Int) + 1)) = rdC T (i + 1) (ln + 1) := by simp [rdC]
          rw [e2] at r2
          exact r2
        have HS2 : Hid (∀ n, KeptL [g] w ((wr.drewN n).setCell ⟨g, 1, none⟩ (.int .i64 ((i : Int) + 1)))) := fun n => (HS1.out.dr ⟨n, rfl⟩).but (SameBut.setCell g 1 (.int .i64 ((i : Int) + 1)) (wr.drewN n)) (.inl (by simp))
        have wi : IntKind.i64.wrap ((i : Int) + 1) = (i : Int) + 1 := i64_in _ (by omega) (by omega)
        clear HN hx hxn
        obtain ⟨SL, hSL⟩ : ∃ SL, strOf ((T.drop a).take (i - a)) = SL := ⟨_, rfl⟩
        rw [hSL] at sl
        have HSLE : Hid (strOf ((T.drop a).take (i - a)) = SL) := hSL
        clear hSL
        go_wp2
        go_quiet (fail)
        go_wp2
        go_ret2
        exact .inl ⟨_, i + 1, HL.out, by omega, by omega, by rw [HSLE.out]; rfl, HR2.out _, HS2.out _⟩
      · have HN2 : Hid (noLF T a (i + 1)) := noLF_step HN.out hi1 hlt hx
        have hq : (((T.getD i 0).toNat : Int) == 10) = false := by
          rw [beq_eq_false_iff_ne]
          intro e
          exact hx (BitVec.eq_of_toNat_eq (by show (T.getD i 0).toNat = 10; omega))
        clear HN hx
        generalize (T.getD i 0).toNat = y at *
        go_wp2
        exact ⟨⟨i + 1, by omega, by omega, by go_num, by first | trivial | rfl, HN2⟩, by simp [intOf]; omega⟩
    · obtain rfl : i = T.length := by omega
      have HL : Hid (lineOf (T.drop a) = none) := noLF_none HN.out
      clear HN
      go_wp2
      go_ret2
      exact .inr ⟨HL.out, rfl, HR1.out, HS1.out⟩

theorem sees_eq (T word : List By) (a : Nat) (ha : a ≤ T.length) : sees (T.drop a) word = (decide (word.length ≤ T.length - a) && decide ((T.drop a).take word.length = word)) := by
  unfold sees
  by_cases h : word.length ≤ T.length - a
  · rw [decide_eq_true h, Bool.true_and]
  · rw [decide_eq_false h, Bool.false_and]
    refine decide_eq_false fun e => h ?_
    have := congrArg List.length e
    rw [List.length_take, List.length_drop] at this
    omega
set_option maxHeartbeats 4000000 in
theorem r21see_any (g : Nat) (T word : List By) (a ln : Nat) (w : World) (hr : Row w g 65 (rdC T a ln)) (ha : a ≤ T.length) (hT : T.length ≤ 140737488355328) (hw : word.length ≤ 1000) :
    Calls Tryd.prog 48 #[.pointer (some ⟨g, 0, none⟩), .string (strOf word)] w fun e w' => e = .returned (.bool (sees (T.drop a) word)) ∧ Dr w w' := by
  have c0 := hr.cell 0 (.string (strOf T)) rfl
  have c1 := hr.cell 1 (.int .i64 (a : Int)) rfl
  have sl1 : ∀ W : World, (Builtin.len_ #[9] 3 #[.string (strOf T)]).run Tryd.prog W = .ok (goInt T.length) W := fun W => str_len T 3 W
  have sl2 : ∀ W : World, (Builtin.len_ #[9] 3 #[.string (strOf word)]).run Tryd.prog W = .ok (goInt word.length) W := fun W => str_len word 3 W
  have w1 : IntKind.i64.wrap ((T.length : Int) - (a : Int)) = (T.length : Int) - (a : Int) := i64_in _ (by omega) (by omega)
  have HSE := sees_eq T word a ha
  clear hr
  by_cases h : word.length ≤ T.length - a
  · have h1 : decide ((word.length : Int) ≤ (T.length : Int) - (a : Int)) = true := by simp; omega
    have h2 : (T.length : Int) - (a : Int) ≥ (word.length : Int) := by omega
    have w2 : IntKind.i64.wrap ((a : Int) + (word.length : Int)) = ((a + word.length : Nat) : Int) := by rw [i64_in _ (by omega) (by omega)]; omega
    have sx : ∀ W : World, (Instr.slice 9 (.string (strOf T)) (some (.int .i64 (a : Int))) (some (.int .i64 ((a + word.length : Nat) : Int))) none).run Tryd.prog W = .ok (.string (strOf ((T.drop a).take word.length))) W := fun W => by
      have := str_slice T .i64 .i64 a (a + word.length) (by omega) (by omega) W
      rw [Nat.add_sub_cancel_left] at this
      exact this
    have hq := strOf_beq ((T.drop a).take word.length) word
    rw [decide_eq_true h, Bool.true_and] at HSE
    have HS : Hid (sees (T.drop a) word = decide ((T.drop a).take word.length = word)) := HSE
    clear HSE h
    generalize decide ((T.drop a).take word.length = word) = R at *
    generalize sees (T.drop a) word = R0 at *
    generalize strOf ((T.drop a).take word.length) = S1 at *
    generalize strOf word = S2 at *
    generalize strOf T = S3 at *
    generalize a + word.length = AW at *
    go_enter Tryd.func48, Tryd.ntmps48
    go_wp2
    go_quiet (fail)
    go_wp2
    go_ret
    exact ⟨by rw [HS.out]; rfl, ⟨nq, rfl⟩⟩
  · have h1 : decide ((word.length : Int) ≤ (T.length : Int) - (a : Int)) = false := by simp; omega
    have h2 : ¬ (T.length : Int) - (a : Int) ≥ (word.length : Int) := by omega
    rw [decide_eq_false h, Bool.false_and] at HSE
    have HS : Hid (sees (T.drop a) word = false) := HSE
    clear HSE h
    generalize sees (T.drop a) word = R0 at *
    generalize strOf word = S2 at *
    generalize strOf T = S3 at *
    go_enter Tryd.func48, Tryd.ntmps48
    go_wp2
    go_quiet (fail)
    go_wp2
    go_ret
    exact ⟨by rw [HS.out]; rfl, ⟨nq, rfl⟩⟩
end Go.Proofs.YtgpnbiaghokjkaaDoor
