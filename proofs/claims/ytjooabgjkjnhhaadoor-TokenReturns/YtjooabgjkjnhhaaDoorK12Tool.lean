import Derived.Test.YtjooabgjkjnhhaaDoorK12Map
import Derived.Test.YtjooabgjkjnhhaaDoorI11Inv
import Derived.Test.YtjooabgjkjnhhaaDoorT24J
import Derived.Test.YtjooabgjkjnhhaaDoorK12Ref2
import Derived.Test.YtjooabgjkjnhhaaDoorI11Mem
import Derived.Laws.MakeOwn
import Derived.Laws.CopyOwn
import Derived.Lib.LazyBuf

/-! The reference's New of a ring. (Printed by tools/gennew12.py.) -/
namespace Go.Proofs.YtjooabgjkjnhhaaDoor
open Go.RowKit
set_option linter.unusedVariables false

/-- What is wrong with the secret number i, if anything. -/
def secE (l : Secs) (i : Nat) : Option Int :=
  if (l.getD i (0, [])).1 < 0 ∨ 63 < (l.getD i (0, [])).1 then some 2
  else if (l.getD i (0, [])).2.length < 1 ∨ 256 < (l.getD i (0, [])).2.length then some 4
  else if (fnd (l.take i) (l.getD i (0, [])).1).isSome then some 18 else none
/-- What is wrong with secrets, and with which one. -/
def newE (l : Secs) : Option (Int × Nat) :=
  if 64 < l.length then some (3, 64) else (List.range l.length).findSome? fun i => (secE l i).map fun e => (e, i)
theorem newE_many {l : Secs} (h : 64 < l.length) : newE l = some (3, 64) := by unfold newE; rw [if_pos h]
theorem range_findSome {α : Type} (f : Nat → Option α) : ∀ (n i : Nat), i < n → (∀ j, j < i → f j = none) → ∀ x, f i = some x → (List.range n).findSome? f = some x
  | 0, i, h, _, _, _ => absurd h (by omega)
  | n + 1, i, h, hj, x, hx => by
    rw [List.range_succ, List.findSome?_append]
    rcases Nat.lt_or_ge i n with h1 | h1
    · rw [range_findSome f n i h1 hj x hx]; rfl
    · obtain rfl : i = n := by omega
      have : (List.range i).findSome? f = none := by
        rw [List.findSome?_eq_none_iff]
        intro j h2
        exact hj j (by simpa using h2)
      rw [this]
      simp [hx]
theorem newE_at {l : Secs} (h : l.length ≤ 64) (i : Nat) (hi : i < l.length) (hj : ∀ j, j < i → secE l j = none) (e : Int) (he : secE l i = some e) : newE l = some (e, i) := by
  unfold newE
  rw [if_neg (by omega)]
  exact range_findSome _ _ i hi (fun j h2 => by rw [hj j h2]; rfl) _ (by rw [he]; rfl)
theorem newE_ok {l : Secs} (h : l.length ≤ 64) (hj : ∀ j, j < l.length → secE l j = none) : newE l = none := by
  unfold newE
  rw [if_neg (by omega), List.findSome?_eq_none_iff]
  intro j h2
  rw [hj j (by simpa using h2)]; rfl
theorem newE_none {l : Secs} (h : newE l = none) : l.length ≤ 64 ∧ ∀ j, j < l.length → secE l j = none := by
  unfold newE at h
  by_cases h1 : 64 < l.length
  · rw [if_pos h1] at h; cases h
  · rw [if_neg h1, List.findSome?_eq_none_iff] at h
    refine ⟨by omega, fun j hj => ?_⟩
    have := h j (by simpa using hj)
    simpa using this
theorem take_push (l : Secs) (k : Nat) (h : k < l.length) : l.take (k + 1) = l.take k ++ [((l.getD k (0, [])).1, (l.getD k (0, [])).2)] := by
  rw [List.take_add_one, List.getElem?_eq_getElem h, List.getD_eq_getElem?_getD, List.getElem?_eq_getElem h]; rfl

/-- Secrets that are handed in. -/
structure SecIn (w : World) (B off : Nat) (vs : List Value) (l : Secs) : Prop where
  key : ∀ i, i < l.length → w.cell? ⟨B, off + i * 2, none⟩ = some (.int .i64 (l.getD i (0, [])).1)
  sl : ∀ i, i < l.length → w.cell? ⟨B, off + i * 2 + 1, none⟩ = some (vs.getD i undef)
  bytes : ∀ i, i < l.length → ∃ bo c, vs.getD i undef = .slice bo (l.getD i (0, [])).2.length c ∧ IsB w bo (l.getD i (0, [])).2 ∧ (l.getD i (0, [])).2.length ≤ c ∧ (bo = none → c = 0)
theorem SecIn.keep {w w' : World} {B off : Nat} {vs : List Value} {l : Secs} (h : SecIn w B off vs l) (hb : Below w.heap.size w w') : SecIn w' B off vs l where
  key i hi := (hb.cell (cell_lt (h.key i hi))).trans (h.key i hi)
  sl i hi := (hb.cell (cell_lt (h.sl i hi))).trans (h.sl i hi)
  bytes i hi := by
    obtain ⟨bo, c, e, hb2, h1, h2⟩ := h.bytes i hi
    exact ⟨bo, c, e, hb2.below hb (Nat.le_refl _), h1, h2⟩

theorem el_secs : ElT 58 57 2 32 (.agg #[.int .i64 0, .slice none 0 0]) := ⟨Tryd.underlying58, by kernel_rfl, rfl, by omega⟩

section
variable {N : Nat} {W0 : World} {g : Nat} {ao : Option Addr} {cap : Nat} {vs : List Value} {l : Secs} {k : Int} {b : List By} {l16 l17 l18 l19 l22 : Bool} {x76 x77 x78 x79 : Value} {W : World}
theorem ff {a b : Bool} (h : a = true → b = true) (hb : b = false) : a = false := by
  cases a with
  | false => rfl
  | true => rw [h rfl] at hb; cases hb
end

/-- append at a step of a drawn region. -/
theorem step_append_g {T e size bytes : Nat} {z : Value} (E : ElT T e size bytes z) {ops : Array Oper} {o : Oper} {a : Act} {w : World} {K : Act → World → Prop} {Q : Exit → Act → World → Prop} {X : Prop} (hgd : o.guard = none) (s x : Operand)
    (ho : o.op = .call { callee := .builtin .append, args := #[s, x], argTypes := #[T, T] })
    (N : Nat) (a0 : World) (aoD : Option Addr) (nD capD : Nat) (vs : List Value) (hs : a.eval s = .slice aoD nD capD) (hown : w.ownsRow N e size (.slice aoD nD capD) nD vs) (hN : N ≤ w.heap.size) (hbel : Below N a0 w)
    (B off n cap : Nat) (news : List Value) (hx : a.eval x = .slice (some ⟨B, off, none⟩) n cap) (hn : news.length = n * size) (hc : ∀ j u, news[j]? = some u → w.cell? ⟨B, off + j, none⟩ = some u) (h1 : ∀ u ∈ news, u.oneCell' = true) (hm : nD + n ≤ maxLen) (hl : (nD + n) * bytes ≤ 140737488355328)
    (h : ∀ ao' cap' w', w'.ownsRow N e size (.slice ao' (nD + n) cap') (nD + n) (vs ++ news) → Below N a0 w' → w.heap.size ≤ w'.heap.size → (∀ k, k < w.heap.size → (∀ g, aoD = some ⟨g, 0, none⟩ → k ≠ g) → w'.heap[k]? = w.heap[k]?) → K (a.put o.dst (.slice ao' (nD + n) cap')) w') : if Region.wanted o (yielded ops a.tmps) = true then Oper.wp Tryd.prog o a w K Q else X := by
  have hw : Region.wanted o (yielded ops a.tmps) = true := by simp [Region.wanted, hgd]
  rw [if_pos hw]
  obtain ⟨ao', cap', w', hrun, h2, h3, h4, h5⟩ := run_append_gen E N a0 w o.type aoD nD capD vs hown hN hbel (some ⟨B, off, none⟩) n cap news hn (.inr ⟨B, off, rfl, hc⟩) h1 (by simp) hm hl
  unfold Oper.wp execOp
  simp only [ho, resolve, invoke, builtin, Sem.run_bind, Sem.run_pure, Result.andThen_ok, List.map_toArray, List.map_cons, List.map_nil, hs, hx, hrun]
  exact h ao' cap' w' h2 h3 h4 h5
section
variable {W1 : World} {N : Nat} {W0 : World} {g : Nat} {ao : Option Addr} {cap : Nat} {vs : List Value} {l : Secs} {k : Int} {b : List By} {B off n cp ki bc : Nat} {bo : Option Addr} {L : Nat → Bool} {x60 x61 x62 x63 x64 x65 x66 x67 x68 x69 x70 x71 x72 x73 x74 x75 x76 x77 x78 x79 x80 x81 : Value} {W W2 : World}
end
end Go.Proofs.YtjooabgjkjnhhaaDoor


/-! Two hashes held against each other; the reference's Check. -/
namespace Go.Proofs.YtjooabgjkjnhhaaDoor
open Go.RowKit
set_option linter.unusedVariables false

end Go.Proofs.YtjooabgjkjnhhaaDoor


/-! Slices of numbers of one's own; the reference's Numbers. -/
namespace Go.Proofs.YtjooabgjkjnhhaaDoor
open Go.RowKit
set_option linter.unusedVariables false

def I64 (x : Int) : Value := .int .i64 x
/-- A slice of numbers that lies in a block from N on, or is nil. -/
def OwnI (N : Nat) (w : World) (v : Value) (m : List Int) : Prop := w.ownsRow N 3 1 v m.length (m.map I64) ∧ N ≤ w.heap.size
theorem OwnI.keep {N : Nat} {w w' : World} {v : Value} {m : List Int} (h : OwnI N w v m) (hb : Below w.heap.size w w') : OwnI N w' v m := by
  refine ⟨⟨h.1.1, ?_⟩, Nat.le_trans h.2 hb.size⟩
  rcases h.1.2 with hn | ⟨g, cap, cur, e, h1, h2, h3⟩
  · exact .inl hn
  · refine .inr ⟨g, cap, cur, e, h1, ?_, h3⟩
    have hl : g < w.heap.size := (Array.getElem?_eq_some_iff.1 h2).1
    exact (hb.block g hl).trans h2
theorem owni_nil (N : Nat) (w : World) (h : N ≤ w.heap.size) : OwnI N w (.slice none 0 0) [] := ⟨World.ownsRow_nil _ _ _ _, h⟩
theorem owni_empty (N : Nat) (w : World) (h : N ≤ w.heap.size) (C : Array Value) (hC : C.size = 0) : OwnI N (w.alloc (.cells C 3)) (.slice (some ⟨w.heap.size, 0, none⟩) 0 0) [] := by
  have hC' : C = #[] := Array.eq_empty_of_size_eq_zero hC
  subst hC'
  refine ⟨⟨by simp, .inr ⟨w.heap.size, 0, #[], rfl, h, heap_alloc_new w _, by simp, by unfold maxLen; omega, by simp, by simp⟩⟩, by simp; omega⟩
theorem OwnI.len {N : Nat} {w : World} {ao : Option Addr} {n c : Nat} {m : List Int} (h : OwnI N w (.slice ao n c) m) : m.length = n := by
  rcases h.1.2 with ⟨e, e2⟩ | ⟨g, cap, cur, e, _⟩
  · injection e with e1 e3 e4; omega
  · injection e with e1 e3 e4; exact e3.symm
theorem OwnI.lt {N : Nat} {w : World} {q n c : Nat} {m : List Int} (h : OwnI N w (.slice (some ⟨q, 0, none⟩) n c) m) : N ≤ q ∧ q < w.heap.size := h.1.lt q rfl
theorem OwnI.at {N : Nat} {w : World} {ao : Option Addr} {n c : Nat} {m : List Int} (h : OwnI N w (.slice ao n c) m) (hn : 0 < n) : ∃ g, ao = some ⟨g, 0, none⟩ ∧ N ≤ g ∧ g < w.heap.size := by
  have hlen := h.len
  rcases h.1.2 with ⟨e, e2⟩ | ⟨g, cap, cur, e, _⟩
  · omega
  · injection e with e1
    subst e1
    exact ⟨g, rfl, h.lt⟩
theorem OwnI.cell {N : Nat} {w : World} {g n c : Nat} {m : List Int} (h : OwnI N w (.slice (some ⟨g, 0, none⟩) n c) m) (j : Nat) (hj : j < n) : w.cell? ⟨g, j, none⟩ = some (.int .i64 (m.getD j 0)) := by
  have hlen := h.len
  have h1 := h.1
  rw [hlen] at h1
  rw [h1.cellAt j (by omega), List.getElem?_map, List.getElem?_eq_getElem (by omega)]
  simp [I64, hlen, hj]

theorem el_ints : ElT 204 3 1 8 (.int .i64 0) := ⟨Tryd.underlying204, by kernel_rfl, rfl, by omega⟩

/-- One number more. -/
theorem wpList_append_int {ops : Array Oper} {rest : List Oper} {o : Oper} {a : Act} {w : World} {Q : Exit → Act → World → Prop} (hgd : o.guard = none) (s x : Operand)
    (ho : o.op = .call { callee := .builtin .append, args := #[s, x], argTypes := #[204, 204] })
    (N : Nat) (aoD : Option Addr) (nD capD : Nat) (m : List Int) (hs : a.eval s = .slice aoD nD capD) (hown : OwnI N w (.slice aoD nD capD) m)
    (B : Nat) (y : Int) (hx : a.eval x = .slice (some ⟨B, 0, none⟩) 1 1) (hB : Row w B 3 [I64 y]) (hl : nD < 1000000)
    (h : ∀ ao' cap' w', OwnI N w' (.slice ao' (nD + 1) cap') (m ++ [y]) → w.heap.size ≤ w'.heap.size → Below N w w' → (∀ k, k < w.heap.size → aoD ≠ some ⟨k, 0, none⟩ → w'.heap[k]? = w.heap[k]?) → (ao' = aoD ∨ ao' = some ⟨w.heap.size, 0, none⟩) → wpList Tryd.prog ops Q rest (a.put o.dst (.slice ao' (nD + 1) cap')) w') : wpList Tryd.prog ops Q (o :: rest) a w := by
  have hlen := hown.len
  have h1 := hown.1
  rw [hlen] at h1
  refine wpList_append_where el_ints hgd s x ho N w aoD nD capD (m.map I64) hs h1 hown.2 (Below.refl _ _) B 0 1 1 [I64 y] hx rfl (fun j u hu => by rw [Nat.zero_add]; exact hB.cell j u hu) (by omega) (by intro u hu; simp at hu; subst hu; rfl) (by unfold maxLen; omega) (by omega) ?_
  intro ao' cap' w' q1 q2 q3 q4 q5
  refine h ao' cap' w' ⟨?_, Nat.le_trans hown.2 q3⟩ q3 q2 (fun k hk hne => q4 k hk (fun g e e2 => hne (by rw [e, e2]))) q5
  rw [List.length_append, hlen, List.map_append]
  exact q1

/-- The numbers below k that a ring has. -/
def nums (l : Secs) (k : Nat) : List Int := ((List.range k).filter fun (i : Nat) => (fnd l (i : Int)).isSome).map fun (i : Nat) => (i : Int)
theorem nums_len (l : Secs) (k : Nat) : (nums l k).length ≤ k := by
  unfold nums
  rw [List.length_map]
  exact Nat.le_trans (List.length_filter_le _ _) (by simp)
theorem nums_yes {l : Secs} {k : Nat} (h : (fnd l (k : Int)).isSome = true) : nums l (k + 1) = nums l k ++ [(k : Int)] := by
  unfold nums; rw [List.range_succ, List.filter_append]; simp [h]
theorem nums_no {l : Secs} {k : Nat} (h : (fnd l (k : Int)).isSome = false) : nums l (k + 1) = nums l k := by
  unfold nums; rw [List.range_succ, List.filter_append]; simp [h]

end Go.Proofs.YtjooabgjkjnhhaaDoor


/-! The code's ring in memory; its Has. (Over a stand-in: a map of bytes by number.) -/
namespace Go.Proofs.YtjooabgjkjnhhaaDoor
open Go.RowKit
set_option linter.unusedVariables false

theorem kmT : MpT 87 23 (.slice none 0 0) := ⟨Tryd.underlying87, fun w => by kernel_rfl⟩

/-- The code's ring, in blocks from N on and below M. -/
structure KgO (N M : Nat) (w : World) (g b : Nat) (vs : List Value) (l : Secs) : Prop where
  row : Row w g 89 [.map (some b)]
  mp : MpAt w b (kvs l vs)
  len : vs.length = l.length
  lo : N ≤ g ∧ g < M ∧ N ≤ b ∧ b < M
  sz : M ≤ w.heap.size
  bytes : ∀ i, i < l.length → ∃ q c, vs.getD i undef = .slice (some ⟨q, 0, none⟩) (l.getD i (0, [])).2.length c ∧ IsB w (some ⟨q, 0, none⟩) (l.getD i (0, [])).2 ∧ (l.getD i (0, [])).2.length ≤ c ∧ N ≤ q ∧ q < M
theorem IsB.of_block {w w' : World} {q off : Nat} {m : List By} (h : IsB w (some ⟨q, off, none⟩) m) (hb : w'.heap[q]? = w.heap[q]?) : IsB w' (some ⟨q, off, none⟩) m := by
  rcases h with rfl | ⟨B, o, e, hc⟩
  · exact .inl rfl
  · injection e with e
    injection e with e1 e2
    subst e1 e2
    exact .inr ⟨q, off, rfl, fun j v hj => (World.cell?_of_block (w := w) (by exact hb)).trans (hc j v hj)⟩
theorem KgO.keep {N M : Nat} {w w' : World} {g b : Nat} {vs : List Value} {l : Secs} (h : KgO N M w g b vs l) (hz : w.heap.size ≤ w'.heap.size) (hb : ∀ j, N ≤ j → j < M → w'.heap[j]? = w.heap[j]?) : KgO N M w' g b vs l where
  row := (hb g h.lo.1 h.lo.2.1).trans h.row
  mp := h.mp.of_block (hb b h.lo.2.2.1 h.lo.2.2.2)
  len := h.len
  lo := h.lo
  sz := Nat.le_trans h.sz hz
  bytes i hi := by
    obtain ⟨q, c, e, h1, h2, h3, h4⟩ := h.bytes i hi
    exact ⟨q, c, e, h1.of_block (hb q h3 h4), h2, h3, h4⟩
theorem KgO.below {N M : Nat} {w w' : World} {g b : Nat} {vs : List Value} {l : Secs} (h : KgO N M w g b vs l) (hb : Below w.heap.size w w') : KgO N M w' g b vs l :=
  h.keep hb.size fun j _ hj => hb.block j (Nat.lt_of_lt_of_le hj h.sz)

set_option maxHeartbeats 1000000 in
set_option maxRecDepth 100000 in
theorem chas_any {N M : Nat} {w : World} {g b : Nat} {vs : List Value} {l : Secs} (h : KgO N M w g b vs l) (key : Int) :
    Calls Tryd.prog 34 #[.pointer (some ⟨g, 0, none⟩), .int .i64 key] w fun e w' => e = .returned (.bool (fnd l key).isSome) ∧ w' = w := by
  have h0 := h.row.cell 0 _ rfl
  cases hf : fnd l key with
  | none =>
    have q := look_none kmT h.mp key (kvs_none key l vs h.len (by rw [hf]; rfl))
    clear h hf
    go_enter Tryd.func34, Tryd.ntmps34
    go_wp2
    go_ret
    exact ⟨rfl, rfl⟩
  | some i =>
    have q := look_some kmT h.mp key (vs.getD i undef) (by rw [kvs_find key l vs h.len, hf]; rfl)
    clear h hf
    generalize vs.getD i undef = v at q
    go_enter Tryd.func34, Tryd.ntmps34
    go_wp2
    go_ret
    exact ⟨rfl, rfl⟩

/-- What New answers. -/
def CNewPost (l : Secs) (w : World) (e : Ending) (w' : World) : Prop := Below w.heap.size w w' ∧ ((∃ (er : Int) (i : Nat), newE l = some (er, i) ∧ e = .returned (.tuple #[.pointer none, .int .i64 er, .int .i64 i])) ∨
  newE l = none ∧ ∃ g b vs, e = .returned (.tuple #[.pointer (some ⟨g, 0, none⟩), .int .i64 0, .int .i64 0]) ∧ KgO w.heap.size w'.heap.size w' g b vs l)

end Go.Proofs.YtjooabgjkjnhhaaDoor


/-! A row of bytes that is made and copied into. (The same as in I11Tool, without image.) -/
namespace Go.Proofs.YtjooabgjkjnhhaaDoor
open Go.RowKit
set_option linter.unusedVariables false

theorem wpList_make_rowN {ops : Array Oper} {rest : List Oper} {o : Oper} {a : Act} {w : World} {Q : Exit → Act → World → Prop} (hg : o.guard = none) (l c : Operand) (hop : o.op = Op.makeSlice 23 l c)
    (kl kc : IntKind) (L C : Int) (n : Nat) (hl : a.eval l = .int kl L) (hc : a.eval c = .int kc C) (hL : L = (n : Int)) (hC : C = (n : Int)) (hn : n ≤ 281474976710656)
    (hK : ∀ w', Row w' w.heap.size 5 ((List.replicate n (0 : By)).map B8) → Below w.heap.size w w' → w'.heap.size = w.heap.size + 1 → wpList Tryd.prog ops Q rest (a.put o.dst (.slice (some ⟨w.heap.size, 0, none⟩) n n)) w') :
    wpList Tryd.prog ops Q (o :: rest) a w := by
  obtain ⟨i0, hi, hz0, hz1, hz2⟩ := info_parts Tryd.info5
  refine wpList_plain hg fun K hK' => ?_
  subst hL
  subst hC
  have hrun := run_make (P := Tryd.prog) w 23 5 i0 (.int .u8 0) Tryd.underlying23 hi hz0 kl kc (n : Int) (n : Int) (by omega) (by omega) (by rw [hz2]; omega) (by omega)
  unfold Oper.wp
  simp [execOp, hop, hl, hc, hrun, Result.andThen]
  refine hK' _ _ (hK _ ?_ ?_ (by simp))
  · refine Row.at w 5 _ _ _ rfl ?_
    rw [hz1, Nat.mul_one]
    have : (madeCells #[Value.int .u8 0] n).toList = (List.replicate n (0 : By)).map B8 := by
      rw [toList_madeCells_one]; simp [B8]
    rw [← this]; rfl
  · exact (Below.refl _ _).alloc (Nat.le_refl _) _

/-- A row of bytes that lies above N is the call's own. -/
theorem own_row {N : Nat} {w : World} {g : Nat} {m : List By} (h : Row w g 5 (m.map B8)) (hg : N ≤ g) (n : Nat) (hn : m.length = n) (hm : n ≤ 140737488355328) : Own N w (.slice (some ⟨g, 0, none⟩) n n) m := by
  have hl := h.lt
  subst hn
  refine ⟨⟨by simp, .inr ⟨g, m.length, (m.map B8).toArray, rfl, hg, h, Nat.le_refl _, by unfold maxLen; omega, by simp, ?_⟩⟩, by omega⟩
  simp
  exact List.take_of_length_le (by simp)

/-- 'copy' of all bytes of a slice into a row, from place 'od' on. -/
theorem run_copy_to (w : World) (ty D od dLen dCap : Nat) (bo : Option Addr) (n cap : Nat) (hle : n ≤ dLen) (m : List By) (hr : Row w D 5 (m.map B8)) (b : List By) (hb0 : b.length = n) (hb : IsB w bo b) (hfit : od + n ≤ m.length) :
    ∃ w', (Builtin.copy_ #[23, 23] ty #[.slice (some ⟨D, od, none⟩) dLen dCap, .slice bo n cap]).run Tryd.prog w = .ok (.int .i64 (n : Int)) w' ∧ Row w' D 5 ((splice m od b).map B8) ∧ SameBut D w w' := by
  by_cases h0 : n = 0
  · have hbn : b = [] := List.eq_nil_of_length_eq_zero (by rw [hb0]; exact h0)
    subst hbn
    subst h0
    refine ⟨w, run_copy_none (P := Tryd.prog) w 23 23 ty 5 (some ⟨D, od, none⟩) bo dLen dCap 0 cap Tryd.underlying23 (by kernel_rfl) (by exact Nat.zero_min _), ?_, SameBut.refl _ _⟩
    simpa [splice] using hr
  · rcases hb with rfl | ⟨B, off, rfl, hc⟩
    · simp at hb0; omega
    · have hth := hr.there od n (by simpa using hfit)
      have hrun := run_copy_cells (P := Tryd.prog) w 23 23 ty 5 D od dLen dCap ⟨B, off, none⟩ n cap (b.map B8) Tryd.underlying23 (by kernel_rfl) (by rw [List.length_map, hb0]; exact (Nat.min_eq_left hle).symm)
        (by
          intro j v hv
          rw [Addr.add_mid]
          rw [List.getElem?_map] at hv
          cases hj : b[j]? with
          | none => rw [hj] at hv; cases hv
          | some x => rw [hj] at hv; injection hv with hv; subst hv; exact hc j x hj)
        (fun j hj => (hth j (by rw [List.length_map, hb0] at hj; exact hj)).1) (fun j hj => (hth j (by rw [List.length_map, hb0] at hj; exact hj)).2) (B8_one b)
      rw [List.length_map, hb0] at hrun
      refine ⟨_, hrun, ?_, SameBut.setCells D _ od w⟩
      have := Row.setCells (b.map B8) od w (m.map B8) hr (by rw [List.length_map, List.length_map, hb0]; exact hfit)
      simpa [splice, hb0, List.map_take, List.map_drop] using this
theorem wpList_copy_to {ops : Array Oper} {rest : List Oper} {o : Oper} {a : Act} {w : World} {Q : Exit → Act → World → Prop} (hgd : o.guard = none) (d s : Operand)
    (ho : o.op = .call { callee := .builtin .copy, args := #[d, s], argTypes := #[23, 23] })
    (D od dLen dCap : Nat) (bo : Option Addr) (n cap : Nat) (hd : a.eval d = .slice (some ⟨D, od, none⟩) dLen dCap) (hs : a.eval s = .slice bo n cap) (hle : n ≤ dLen) (m : List By) (hr : Row w D 5 (m.map B8)) (b : List By) (hb0 : b.length = n) (hb : IsB w bo b) (hfit : od + n ≤ m.length)
    (h : ∀ w', Row w' D 5 ((splice m od b).map B8) → SameBut D w w' → wpList Tryd.prog ops Q rest (a.put o.dst (.int .i64 (n : Int))) w') : wpList Tryd.prog ops Q (o :: rest) a w := by
  refine wpList_plain hgd fun K hK => ?_
  obtain ⟨w', hrun, h1, h2⟩ := run_copy_to w o.type D od dLen dCap bo n cap hle m hr b hb0 hb hfit
  unfold Oper.wp
  simp [execOp, ho, resolve, invoke, builtin, hd, hs, hrun, Result.andThen]
  exact hK _ _ (h w' h1 h2)
theorem splice_all (m b : List By) (h : b.length = m.length) : splice m 0 b = b := by
  unfold splice
  simp [h]
end Go.Proofs.YtjooabgjkjnhhaaDoor
