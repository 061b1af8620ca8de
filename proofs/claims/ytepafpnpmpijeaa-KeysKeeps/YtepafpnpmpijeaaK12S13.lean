import Derived.Test.YtepafpnpmpijeaaK12S14

/-! Lists of numbers written over and grown: what stays. -/
namespace Go.Proofs.Ytepafpnpmpijeaa
open Go.RowKit
set_option linter.unusedVariables false

theorem OwnI.frozen {N : Nat} {w : World} {g n c : Nat} {m : List Int} (h : OwnI N w (.slice (some ⟨g, 0, none⟩) n c) m) (j : Nat) : w.frozen? ⟨g, j, none⟩ = false := by
  have hl := h.len
  have h1 := h.1
  rw [hl] at h1
  exact h1.frozenAt j
theorem OwnI.set {N : Nat} {w : World} {g n c : Nat} {m : List Int} (h : OwnI N w (.slice (some ⟨g, 0, none⟩) n c) m) (j : Nat) (x : Int) : OwnI N (w.setCell ⟨g, j, none⟩ (.int .i64 x)) (.slice (some ⟨g, 0, none⟩) n c) (m.set j x) := by
  have hl := h.len
  have h1 := h.1
  rw [hl] at h1
  refine ⟨?_, by simp [World.setCell]; exact h.2⟩
  rw [List.length_set, hl, List.map_set]
  exact (h1.stored j _).1
theorem OwnI.of_block {N : Nat} {w w' : World} {ao : Option Addr} {n c : Nat} {m : List Int} (h : OwnI N w (.slice ao n c) m) (hs : N ≤ w'.heap.size) (hb : ∀ B, ao = some ⟨B, 0, none⟩ → w'.heap[B]? = w.heap[B]?) : OwnI N w' (.slice ao n c) m := by
  refine ⟨owns_blk h.1 fun B e => ?_, hs⟩
  rcases h.1.2 with ⟨e1, _⟩ | ⟨g, c1, cur, e1, _⟩
  · rw [e1] at e; cases e
  · injection e1 with e1 _ _
    subst e1
    injection e with e
    subst e
    exact hb _ rfl
theorem OwnI.take {N : Nat} {w : World} {ao : Option Addr} {n c : Nat} {m : List Int} (h : OwnI N w (.slice ao n c) m) (k : Nat) (hk : k ≤ n) : RdI w ao k (m.take k) := by
  have hl := h.len
  refine ⟨by rw [List.length_take]; omega, fun h0 => ?_⟩
  obtain ⟨g, rfl, _, _⟩ := h.at (by omega)
  refine ⟨g, rfl, fun j hj => ?_⟩
  rw [h.cell j (by omega), List.getD_eq_getElem?_getD, List.getD_eq_getElem?_getD, List.getElem?_take, if_pos hj]
theorem OwnI.ty {N : Nat} {w : World} {g n c : Nat} {m : List Int} (h : OwnI N w (.slice (some ⟨g, 0, none⟩) n c) m) : ∃ cur, w.heap[g]? = some (.cells cur 3 (0, 0)) := owns_ty h.1 g rfl
theorem RdI.of_block {w w' : World} {ao : Option Addr} {n : Nat} {m : List Int} (h : RdI w ao n m) (hb : ∀ q, ao = some ⟨q, 0, none⟩ → w'.heap[q]? = w.heap[q]?) : RdI w' ao n m := by
  refine ⟨h.1, fun h0 => ?_⟩
  obtain ⟨q, e, hc⟩ := h.2 h0
  exact ⟨q, e, fun j hj => (World.cell?_of_block (w := w) (hb q e)).trans (hc j hj)⟩

/-- Nothing below N has changed, and of what was there at most the block of t. -/
structure ChI (N : Nat) (t : Option Addr) (w w' : World) : Prop where
  bel : Below N w w'
  blk : ∀ k, k < w.heap.size → t ≠ some ⟨k, 0, none⟩ → w'.heap[k]? = w.heap[k]?
theorem ChI.refl (N : Nat) (t : Option Addr) (w : World) : ChI N t w w := ⟨Below.refl _ _, fun _ _ _ => rfl⟩

/-- A list is written over: j numbers are. -/
structure Ov (N : Nat) (t : Tl) (c : Nat) (v : Int) (W0 : World) (j : Nat) (w : World) : Prop where
  own : ∃ m : List Int, OwnI N w (.slice t.1 c t.2) m ∧ m.take j = List.replicate j v
  chg : ChI N t.1 W0 w
theorem Ov.zero {N : Nat} {t : Tl} {c : Nat} {v : Int} {W0 : World} (h : ∃ m : List Int, OwnI N W0 (.slice t.1 c t.2) m) : Ov N t c v W0 0 W0 := by
  obtain ⟨m, hm⟩ := h
  exact ⟨⟨m, hm, rfl⟩, ChI.refl _ _ _⟩
theorem Ov.step {N : Nat} {t : Tl} {c : Nat} {v : Int} {W0 : World} {j : Nat} {w : World} (h : Ov N t c v W0 j w) (hj : j < c) (g : Nat) (hg : t.1 = some ⟨g, 0, none⟩) (hN : N ≤ g) : Ov N t c v W0 (j + 1) (w.setCell ⟨g, j, none⟩ (.int .i64 v)) := by
  obtain ⟨m, hm, ht⟩ := h.own
  have hl := hm.len
  rw [hg] at hm
  refine ⟨⟨m.set j v, by rw [hg]; exact hm.set j v, ?_⟩, ⟨(SameBut.setCell g j _ w).below h.chg.bel hN, fun k hk hne => ((SameBut.setCell g j _ w).block k (fun e => hne (by rw [hg, e]))).trans (h.chg.blk k hk hne)⟩⟩
  rw [List.take_set, List.take_add_one, ht, List.getElem?_eq_getElem (by omega)]
  rw [List.set_append_right _ _ (by simp)]
  simp [List.replicate_succ']
theorem Ov.all {N : Nat} {t : Tl} {c : Nat} {v : Int} {W0 : World} {w : World} (h : Ov N t c v W0 c w) : OwnI N w (.slice t.1 c t.2) (List.replicate c v) := by
  obtain ⟨m, hm, ht⟩ := h.own
  rw [List.take_of_length_le (by rw [hm.len]; exact Nat.le_refl _)] at ht
  rw [← ht]; exact hm

/-- A list is grown: i numbers stand behind it. -/
structure GrI (N : Nat) (t : Tl) (c : Nat) (v : Int) (W0 : World) (i : Nat) (ao : Option Addr) (cap : Nat) (w : World) : Prop where
  own : OwnI N w (.slice ao (c + i) cap) (List.replicate (c + i) v)
  rd : RdI w t.1 c (List.replicate c v)
  pl : ao = t.1 ∨ ∃ g, ao = some ⟨g, 0, none⟩ ∧ W0.heap.size ≤ g
  chg : ChI N t.1 W0 w
theorem GrI.step {N : Nat} {t : Tl} {c : Nat} {v : Int} {W0 : World} {i : Nat} {ao : Option Addr} {cap : Nat} {w w' : World} {o : Obj} {ao' : Option Addr} {cap' : Nat} (h : GrI N t c v W0 i ao cap w) (hlt : ∀ g, t.1 = some ⟨g, 0, none⟩ → g < W0.heap.size)
    (h1 : OwnI N w' (.slice ao' (c + i + 1) cap') (List.replicate (c + i) v ++ [v])) (h2 : Below N (w.alloc o) w') (h3 : ∀ k, k < (w.alloc o).heap.size → ao ≠ some ⟨k, 0, none⟩ → w'.heap[k]? = (w.alloc o).heap[k]?) (h4 : ao' = ao ∨ (ao' = some ⟨(w.alloc o).heap.size, 0, none⟩ ∧ Below (w.alloc o).heap.size (w.alloc o) w')) :
    GrI N t c v W0 (i + 1) ao' cap' w' := by
  have hsz : (w.alloc o).heap.size = w.heap.size + 1 := by simp
  have hW := h.chg.bel.size
  have hal : ∀ k, k < w.heap.size → (w.alloc o).heap[k]? = w.heap[k]? := fun k hk => Below.heap_alloc w o k hk
  have h1' : OwnI N w' (.slice ao' (c + (i + 1)) cap') (List.replicate (c + (i + 1)) v) := by
    rw [show c + (i + 1) = c + i + 1 by omega, List.replicate_succ']; exact h1
  have hblk : ∀ k, k < W0.heap.size → t.1 ≠ some ⟨k, 0, none⟩ → w'.heap[k]? = w.heap[k]? := by
    intro k hk hne
    refine (h3 k (by omega) ?_).trans (hal k (by omega))
    rcases h.pl with e | ⟨g, e, hg⟩
    · rw [e]; exact hne
    · rw [e]; intro e2; injection e2 with e2; injection e2 with e2 _; omega
  refine ⟨h1', ?_, ?_, ⟨h.chg.bel.trans (((Below.refl N w).alloc h.own.2 o).trans h2), fun k hk hne => (hblk k hk hne).trans (h.chg.blk k hk hne)⟩⟩
  · by_cases he : ao' = t.1
    · rw [← he]
      have := h1'.take c (by omega)
      rw [List.take_replicate, Nat.min_eq_left (by omega)] at this
      exact this
    · refine h.rd.of_block fun q e => ?_
      have hlq := hlt q e
      rcases h4 with e4 | ⟨_, hbl⟩
      · refine (h3 q (by omega) (fun e5 => he ?_)).trans (hal q (by omega))
        rw [e4, e5, e]
      · exact (hbl.block q (by omega)).trans (hal q (by omega))
  · rcases h4 with e | ⟨e, _⟩
    · rw [e]; exact h.pl
    · refine .inr ⟨_, e, ?_⟩
      omega

theorem wpList_append_whr {T e size bytes : Nat} {z : Value} (E : ElT T e size bytes z) {ops : Array Oper} {rest : List Oper} {o : Oper} {a : Act} {w : World} {Q : Exit → Act → World → Prop} (hgd : o.guard = none) (s x : Operand)
    (ho : o.op = .call { callee := .builtin .append, args := #[s, x], argTypes := #[T, T] })
    (N : Nat) (a0 : World) (aoD : Option Addr) (nD capD : Nat) (vs : List Value) (hs : a.eval s = .slice aoD nD capD) (hown : w.ownsRow N e size (.slice aoD nD capD) nD vs) (hN : N ≤ w.heap.size) (hbel : Below N a0 w)
    (B off n cap : Nat) (news : List Value) (hx : a.eval x = .slice (some ⟨B, off, none⟩) n cap) (hn : news.length = n * size) (hc : ∀ j u, news[j]? = some u → w.cell? ⟨B, off + j, none⟩ = some u) (hn0 : 0 < n) (h1 : ∀ u ∈ news, u.oneCell' = true) (hm : nD + n ≤ maxLen) (hl : (nD + n) * bytes ≤ 140737488355328)
    (h : ∀ ao' cap' w', w'.ownsRow N e size (.slice ao' (nD + n) cap') (nD + n) (vs ++ news) → Below N a0 w' → w.heap.size ≤ w'.heap.size → (∀ k, k < w.heap.size → (∀ g, aoD = some ⟨g, 0, none⟩ → k ≠ g) → w'.heap[k]? = w.heap[k]?) → (ao' = aoD ∨ (ao' = some ⟨w.heap.size, 0, none⟩ ∧ Below w.heap.size w w')) → wpList Try.prog ops Q rest (a.put o.dst (.slice ao' (nD + n) cap')) w') : wpList Try.prog ops Q (o :: rest) a w := by
  refine wpList_plain hgd fun K hK => ?_
  obtain ⟨ao', cap', w', hrun, h2, h3, h4, h5⟩ := run_append_gen E N a0 w o.type aoD nD capD vs hown hN hbel (some ⟨B, off, none⟩) n cap news hn (.inr ⟨B, off, rfl, hc⟩) h1 (by simp) hm hl
  have hwh := append_where E N w o.type aoD nD capD vs hown ⟨B, off, none⟩ n cap news hn (fun j u hu => by rw [Addr.add_mid]; exact hc j u hu) h1 hn0 hm hl ao' _ cap' w' hrun
  unfold Oper.wp execOp
  simp only [ho, resolve, invoke, builtin, Sem.run_bind, Sem.run_pure, Result.andThen_ok, List.map_toArray, List.map_cons, List.map_nil, hs, hx, hrun]
  exact hK _ _ (h ao' cap' w' h2 h3 h4 h5 (hwh.imp (·.1) fun h => ⟨h.1, h.2.1⟩))
/-- One number more, and where it lies. -/
theorem wpList_append_num {ops : Array Oper} {rest : List Oper} {o : Oper} {a : Act} {w : World} {Q : Exit → Act → World → Prop} (hgd : o.guard = none) (s x : Operand)
    (ho : o.op = .call { callee := .builtin .append, args := #[s, x], argTypes := #[35, 35] })
    (N : Nat) (aoD : Option Addr) (nD capD : Nat) (m : List Int) (hs : a.eval s = .slice aoD nD capD) (hown : OwnI N w (.slice aoD nD capD) m)
    (B : Nat) (y : Int) (hx : a.eval x = .slice (some ⟨B, 0, none⟩) 1 1) (hB : Row w B 3 [I64 y]) (hl : nD < 1000000)
    (h : ∀ ao' cap' w', OwnI N w' (.slice ao' (nD + 1) cap') (m ++ [y]) → Below N w w' → (∀ k, k < w.heap.size → aoD ≠ some ⟨k, 0, none⟩ → w'.heap[k]? = w.heap[k]?) → (ao' = aoD ∨ (ao' = some ⟨w.heap.size, 0, none⟩ ∧ Below w.heap.size w w')) → wpList Try.prog ops Q rest (a.put o.dst (.slice ao' (nD + 1) cap')) w') : wpList Try.prog ops Q (o :: rest) a w := by
  have hlen := hown.len
  have h1 := hown.1
  rw [hlen] at h1
  refine wpList_append_whr el_ints hgd s x ho N w aoD nD capD (m.map I64) hs h1 hown.2 (Below.refl _ _) B 0 1 1 [I64 y] hx rfl (fun j u hu => by rw [Nat.zero_add]; exact hB.cell j u hu) (by omega) (by intro u hu; simp at hu; subst hu; rfl) (by unfold maxLen; omega) (by omega) ?_
  intro ao' cap' w' q1 q2 q3 q4 q5
  refine h ao' cap' w' ⟨?_, Nat.le_trans hown.2 q3⟩ q2 (fun k hk hne => q4 k hk (fun g e e2 => hne (by rw [e, e2]))) q5
  rw [List.length_append, hlen, List.map_append]
  exact q1

/-- The lists that came out, each in a block of its own. -/
structure ToldO (N : Nat) (W : World) (tn : Option Addr) (tc c : Nat) (ts : List Tl) : Prop where
  row : W.ownsRow N 35 1 (.slice tn ts.length tc) ts.length (ts.map fun t => .slice t.1 c t.2)
  own : ∀ (i : Nat) (t : Tl), ts[i]? = some t → ∃ m : List Int, OwnI N W (.slice t.1 c t.2) m
  sep : ∀ (i j : Nat) (t t' : Tl) (g : Nat), ts[i]? = some t → ts[j]? = some t' → t.1 = some ⟨g, 0, none⟩ → t'.1 = some ⟨g, 0, none⟩ → i = j
/-- .. when k of them are written over and grown. -/
structure T5 (N : Nat) (Wa wr : World) (tn : Option Addr) (tc c : Nat) (ts : List Tl) (k : Nat) : Prop where
  bel : Below N Wa wr
  hN : N ≤ wr.heap.size
  row : wr.ownsRow N 35 1 (.slice tn ts.length tc) ts.length (ts.map fun t => .slice t.1 c t.2)
  own : ∀ (i : Nat) (t : Tl), k ≤ i → ts[i]? = some t → ∃ m : List Int, OwnI N wr (.slice t.1 c t.2) m
  rd : ∀ (i : Nat) (t : Tl), i < k → ts[i]? = some t → RdI wr t.1 c (List.replicate c (-1 - (i : Int)))
  sep : ∀ (i j : Nat) (t t' : Tl) (g : Nat), ts[i]? = some t → ts[j]? = some t' → t.1 = some ⟨g, 0, none⟩ → t'.1 = some ⟨g, 0, none⟩ → i = j
  lt : ∀ (i : Nat) (t : Tl) (g : Nat), ts[i]? = some t → t.1 = some ⟨g, 0, none⟩ → N ≤ g ∧ g < Wa.heap.size
theorem ToldO.to {N : Nat} {W : World} {tn : Option Addr} {tc c : Nat} {ts : List Tl} (h : ToldO N W tn tc c ts) (hN : N ≤ W.heap.size) : T5 N W W tn tc c ts 0 :=
  ⟨Below.refl _ _, hN, h.row, fun i t _ hi => h.own i t hi, fun i t h0 => absurd h0 (by omega), h.sep, fun i t g hi e => by
    obtain ⟨m, hm⟩ := h.own i t hi
    rw [e] at hm
    exact hm.lt⟩
theorem T5.next {N : Nat} {Wa w0 w : World} {tn : Option Addr} {tc c : Nat} {ts : List Tl} {k : Nat} {t : Tl} (h : T5 N Wa w0 tn tc c ts k) (hk : ts[k]? = some t) (hc : ChI N t.1 w0 w) (hr : RdI w t.1 c (List.replicate c (-1 - (k : Int)))) : T5 N Wa w tn tc c ts (k + 1) := by
  have hsz := hc.bel.size
  obtain ⟨m0, hm0⟩ := h.own k t (Nat.le_refl _) hk
  refine ⟨h.bel.trans hc.bel, Nat.le_trans h.hN hsz, owns_blk h.row fun B e => hc.blk B (h.row.lt B e).2 ?_, ?_, ?_, h.sep, h.lt⟩
  · intro e2
    rw [e2] at hm0
    obtain ⟨cur, hcur⟩ := hm0.ty
    obtain ⟨cur2, hcur2⟩ := owns_ty h.row B e
    rw [hcur] at hcur2
    injection hcur2 with hcur2
    injection hcur2 with _ h3
    exact absurd h3 (by decide)
  · intro i t' hi hti
    obtain ⟨m, hm⟩ := h.own i t' (by omega) hti
    exact ⟨m, hm.of_block (Nat.le_trans h.hN hsz) fun B e => hc.blk B (by rw [e] at hm; exact hm.lt.2) (fun e2 => by have := h.sep i k t' t B hti hk e e2; omega)⟩
  · intro i t' hi hti
    by_cases he : i = k
    · subst he
      rw [hk] at hti
      injection hti with hti
      subst hti
      exact hr
    · exact (h.rd i t' (by omega) hti).of_block fun q e => hc.blk q (Nat.lt_of_lt_of_le (h.lt i t' q hti e).2 h.bel.size) (fun e2 => he (h.sep i k t' t q hti hk e e2))
theorem T5.done {N : Nat} {Wa w : World} {tn : Option Addr} {tc c : Nat} {ts : List Tl} (h : T5 N Wa w tn tc c ts ts.length) : ToldR w tn c ts := by
  refine ⟨fun i t hi => ?_, fun i t hi => h.rd i t (List.getElem?_eq_some_iff.1 hi).1 hi⟩
  have hlt := (List.getElem?_eq_some_iff.1 hi).1
  have hrow := h.row
  rcases h.row.2 with ⟨e, e2⟩ | ⟨q, c1, cur, e, _⟩
  · omega
  · injection e with e1 _ _
    subst e1
    refine ⟨q, rfl, ?_⟩
    rw [hrow.cellAt i (by omega), List.getElem?_map, hi]; rfl
theorem T5.at {N : Nat} {Wa w : World} {tn : Option Addr} {tc c : Nat} {ts : List Tl} {k : Nat} (h : T5 N Wa w tn tc c ts k) (i : Nat) (t : Tl) (hi : ts[i]? = some t) : ∃ q, tn = some ⟨q, 0, none⟩ ∧ w.cell? ⟨q, i, none⟩ = some (.slice t.1 c t.2) := by
  have hlt := (List.getElem?_eq_some_iff.1 hi).1
  have hrow := h.row
  rcases h.row.2 with ⟨e, e2⟩ | ⟨q, c1, cur, e, _⟩
  · omega
  · injection e with e1 _ _
    subst e1
    refine ⟨q, rfl, ?_⟩
    rw [hrow.cellAt i (by omega), List.getElem?_map, hi]; rfl
end Go.Proofs.Ytepafpnpmpijeaa


/-! KeysKeeps: the lists that came out are written over and grown. (Printed by tools/genst13.py.) -/
namespace Go.Proofs.Ytepafpnpmpijeaa
open Go.RowKit
set_option linter.unusedVariables false

set_option maxHeartbeats 4000000 in
set_option maxRecDepth 1000000 in
theorem st13 (c2 c3 c4 c5 c6 c7 c8 c10 c11 c13 c14 c15 c16 c17 c18 c19 c21 c22 c23 c24 c25 c26 c27 c28 c29 c30 c31 c32 c33 c34 c35 c36 c37 c38 c39 c40 c41 c42 c43 c44 c45 c46 c47 c48 c49 c50 c51 c52 c53 c54 c55 c56 c57 c58 c59 c60 c61 c62 c63 c64 c65 c66 c67 c68 c69 c70 c71 c72 c73 c74 c75 c76 c77 c78 c79 c80 c81 c82 c83 c84 c85 c86 c87 c88 c89 c90 c91 c92 c93 c94 c95 c96 c97 c98 c99 c100 c101 c102 c103 c104 c105 c106 c107 c108 c109 c110 c111 c112 c113 c114 c115 c116 c117 c118 c119 c120 c121 c122 c123 c124 c125 c126 c127 c128 c129 c130 c131 c132 c133 c134 c135 c136 c137 c138 c139 c140 c141 c142 c143 c144 c145 c146 c147 c148 c149 c150 c151 c152 c153 c154 c155 c156 c157 c158 c159 c160 c161 c162 c163 c164 c165 c166 c167 c168 c169 c170 c171 c172 c173 c174 c175 c176 c177 c178 c179 c180 c181 c182 c183 c184 c185 c186 c187 c188 c189 c190 c191 c192 c193 c194 c195 c196 c197 c198 c199 c200 c201 c202 c203 c204 c205 c206 c207 c208 c209 c210 c211 c212 c213 c214 c215 c216 c217 c218 c219 c220 c221 c222 c223 c224 c225 c226 c227 c228 c229 c230 c231 c232 c233 c234 c235 c236 c237 c238 c239 c240 c241 c242 c243 c244 c245 c246 c247 c248 c249 c250 c251 c252 c253 c254 c255 c256 c257 c258 c259 c260 c261 c262 c263 c264 c265 c266 c267 c268 c269 c270 c271 c272 c273 c274 c275 c276 c277 c278 c279 c280 c281 c282 c283 c284 c285 c286 c287 c288 c289 c290 c291 c292 c293 c294 c295 c296 c297 c298 c299 c300 c301 c302 c303 c304 c305 : Value) (w Wa : World) (NB : Nat) (hbw : ∀ W', Below NB Wa W' → Below w.heap.size w W') (ao : Option Addr) (n cap : Nat) {N M : Nat} {g b : Nat} {vs : List Value} {l : Secs} (hk : ∀ W', Below NB Wa W' → KgO N M W' g b vs l) {g2 : Nat} {ao2 : Option Addr} {cap2 : Nat} {vs2 : List Value} (hr : ∀ W', Below NB Wa W' → RgAt W' g2 ao2 cap2 vs2 l) (hl : l.length ≤ 64) (hb256 : ∀ i, i < l.length → (l.getD i (0, [])).2.length ≤ 256)
    (qo : Option Addr) (m qc D dff : Nat) (xs : List AskV) (hm : xs.length = m) (hm47 : m ≤ 140737488355328) (hqo : 0 < m → qo = some ⟨D, dff, none⟩) (has : ∀ W', Below NB Wa W' → AskIn W' D dff xs) (hbig : ∀ (i : Nat) (a : AskV), xs[i]? = some a → a.b.length ≤ 140737488351232)
    (tn : Option Addr) (tc c : Nat) (ts : List Tl) (hts : ts.length ≤ 3) (hc : c ≤ 64) (ht : ToldO NB Wa tn tc c ts) (hNB : NB ≤ Wa.heap.size) :
    Code.wp Try.prog (dropS 13 (Try.f6.body.getD .skip)) (bodyPost Try.prog Try.f6 (KP w)) ⟨#[.slice ao n cap, .slice qo m qc, c2, c3, c4, c5, c6, c7, c8, .pointer (some ⟨g, 0, none⟩), c10, c11, .pointer (some ⟨g2, 0, none⟩), c13, c14, c15, c16, c17, c18, c19, .slice tn ts.length tc, c21, c22, c23, c24, c25, c26, c27, c28, c29, c30, c31, c32, c33, c34, c35, c36, c37, c38, c39, c40, c41, c42, c43, c44, c45, c46, c47, c48, c49, c50, c51, c52, c53, c54, c55, c56, c57, c58, c59, c60, c61, c62, c63, c64, c65, c66, c67, c68, c69, c70, c71, c72, c73, c74, c75, c76, c77, c78, c79, c80, c81, c82, c83, c84, c85, c86, c87, c88, c89, c90, c91, c92, c93, c94, c95, c96, c97, c98, c99, c100, c101, c102, c103, c104, c105, c106, c107, c108, c109, c110, c111, c112, c113, c114, c115, c116, c117, c118, c119, c120, c121, c122, c123, c124, c125, c126, c127, c128, c129, c130, c131, c132, c133, c134, c135, c136, c137, c138, c139, c140, c141, c142, c143, c144, c145, c146, c147, c148, c149, c150, c151, c152, c153, c154, c155, c156, c157, c158, c159, c160, c161, c162, c163, c164, c165, c166, c167, c168, c169, c170, c171, c172, c173, c174, c175, c176, c177, c178, c179, c180, c181, c182, c183, c184, c185, c186, c187, c188, c189, c190, c191, c192, c193, c194, c195, c196, c197, c198, c199, c200, c201, c202, c203, c204, c205, c206, c207, c208, c209, c210, c211, c212, c213, c214, c215, c216, c217, c218, c219, c220, c221, c222, c223, c224, c225, c226, c227, c228, c229, c230, c231, c232, c233, c234, c235, c236, c237, c238, c239, c240, c241, c242, c243, c244, c245, c246, c247, c248, c249, c250, c251, c252, c253, c254, c255, c256, c257, c258, c259, c260, c261, c262, c263, c264, c265, c266, c267, c268, c269, c270, c271, c272, c273, c274, c275, c276, c277, c278, c279, c280, c281, c282, c283, c284, c285, c286, c287, c288, c289, c290, c291, c292, c293, c294, c295, c296, c297, c298, c299, c300, c301, c302, c303, c304, c305], []⟩ Wa := by
  have NXT : Hid (∀ W', Below NB Wa W' → ToldR W' tn c ts → ∀ (c2 c3 c4 c5 c6 c7 c8 c10 c11 c13 c14 c15 c16 c17 c18 c19 c21 c22 c23 c24 c25 c26 c27 c28 c29 c30 c31 c32 c33 c34 c35 c36 c37 c38 c39 c40 c41 c42 c43 c44 c45 c46 c47 c48 c49 c50 c51 c52 c53 c54 c55 c56 c57 c58 c59 c60 c61 c62 c63 c64 c65 c66 c67 c68 c69 c70 c71 c72 c73 c74 c75 c76 c77 c78 c79 c80 c81 c82 c83 c84 c85 c86 c87 c88 c89 c90 c91 c92 c93 c94 c95 c96 c97 c98 c99 c100 c101 c102 c103 c104 c105 c106 c107 c108 c109 c110 c111 c112 c113 c114 c115 c116 c117 c118 c119 c120 c121 c122 c123 c124 c125 c126 c127 c128 c129 c130 c131 c132 c133 c134 c135 c136 c137 c138 c139 c140 c141 c142 c143 c144 c145 c146 c147 c148 c149 c150 c151 c152 c153 c154 c155 c156 c157 c158 c159 c160 c161 c162 c163 c164 c165 c166 c167 c168 c169 c170 c171 c172 c173 c174 c175 c176 c177 c178 c179 c180 c181 c182 c183 c184 c185 c186 c187 c188 c189 c190 c191 c192 c193 c194 c195 c196 c197 c198 c199 c200 c201 c202 c203 c204 c205 c206 c207 c208 c209 c210 c211 c212 c213 c214 c215 c216 c217 c218 c219 c220 c221 c222 c223 c224 c225 c226 c227 c228 c229 c230 c231 c232 c233 c234 c235 c236 c237 c238 c239 c240 c241 c242 c243 c244 c245 c246 c247 c248 c249 c250 c251 c252 c253 c254 c255 c256 c257 c258 c259 c260 c261 c262 c263 c264 c265 c266 c267 c268 c269 c270 c271 c272 c273 c274 c275 c276 c277 c278 c279 c280 c281 c282 c283 c284 c285 c286 c287 c288 c289 c290 c291 c292 c293 c294 c295 c296 c297 c298 c299 c300 c301 c302 c303 c304 c305 : Value), Code.wp Try.prog (dropS 14 (Try.f6.body.getD .skip)) (bodyPost Try.prog Try.f6 (KP w)) ⟨#[.slice ao n cap, .slice qo m qc, c2, c3, c4, c5, c6, c7, c8, .pointer (some ⟨g, 0, none⟩), c10, c11, .pointer (some ⟨g2, 0, none⟩), c13, c14, c15, c16, c17, c18, c19, .slice tn ts.length tc, c21, c22, c23, c24, c25, c26, c27, c28, c29, c30, c31, c32, c33, c34, c35, c36, c37, c38, c39, c40, c41, c42, c43, c44, c45, c46, c47, c48, c49, c50, c51, c52, c53, c54, c55, c56, c57, c58, c59, c60, c61, c62, c63, c64, c65, c66, c67, c68, c69, c70, c71, c72, c73, c74, c75, c76, c77, c78, c79, c80, c81, c82, c83, c84, c85, c86, c87, c88, c89, c90, c91, c92, c93, c94, c95, c96, c97, c98, c99, c100, c101, c102, c103, c104, c105, c106, c107, c108, c109, c110, c111, c112, c113, c114, c115, c116, c117, c118, c119, c120, c121, c122, c123, c124, c125, c126, c127, c128, c129, c130, c131, c132, c133, c134, c135, c136, c137, c138, c139, c140, c141, c142, c143, c144, c145, c146, c147, c148, c149, c150, c151, c152, c153, c154, c155, c156, c157, c158, c159, c160, c161, c162, c163, c164, c165, c166, c167, c168, c169, c170, c171, c172, c173, c174, c175, c176, c177, c178, c179, c180, c181, c182, c183, c184, c185, c186, c187, c188, c189, c190, c191, c192, c193, c194, c195, c196, c197, c198, c199, c200, c201, c202, c203, c204, c205, c206, c207, c208, c209, c210, c211, c212, c213, c214, c215, c216, c217, c218, c219, c220, c221, c222, c223, c224, c225, c226, c227, c228, c229, c230, c231, c232, c233, c234, c235, c236, c237, c238, c239, c240, c241, c242, c243, c244, c245, c246, c247, c248, c249, c250, c251, c252, c253, c254, c255, c256, c257, c258, c259, c260, c261, c262, c263, c264, c265, c266, c267, c268, c269, c270, c271, c272, c273, c274, c275, c276, c277, c278, c279, c280, c281, c282, c283, c284, c285, c286, c287, c288, c289, c290, c291, c292, c293, c294, c295, c296, c297, c298, c299, c300, c301, c302, c303, c304, c305], []⟩ W') := fun W' hW' hT c2 c3 c4 c5 c6 c7 c8 c10 c11 c13 c14 c15 c16 c17 c18 c19 c21 c22 c23 c24 c25 c26 c27 c28 c29 c30 c31 c32 c33 c34 c35 c36 c37 c38 c39 c40 c41 c42 c43 c44 c45 c46 c47 c48 c49 c50 c51 c52 c53 c54 c55 c56 c57 c58 c59 c60 c61 c62 c63 c64 c65 c66 c67 c68 c69 c70 c71 c72 c73 c74 c75 c76 c77 c78 c79 c80 c81 c82 c83 c84 c85 c86 c87 c88 c89 c90 c91 c92 c93 c94 c95 c96 c97 c98 c99 c100 c101 c102 c103 c104 c105 c106 c107 c108 c109 c110 c111 c112 c113 c114 c115 c116 c117 c118 c119 c120 c121 c122 c123 c124 c125 c126 c127 c128 c129 c130 c131 c132 c133 c134 c135 c136 c137 c138 c139 c140 c141 c142 c143 c144 c145 c146 c147 c148 c149 c150 c151 c152 c153 c154 c155 c156 c157 c158 c159 c160 c161 c162 c163 c164 c165 c166 c167 c168 c169 c170 c171 c172 c173 c174 c175 c176 c177 c178 c179 c180 c181 c182 c183 c184 c185 c186 c187 c188 c189 c190 c191 c192 c193 c194 c195 c196 c197 c198 c199 c200 c201 c202 c203 c204 c205 c206 c207 c208 c209 c210 c211 c212 c213 c214 c215 c216 c217 c218 c219 c220 c221 c222 c223 c224 c225 c226 c227 c228 c229 c230 c231 c232 c233 c234 c235 c236 c237 c238 c239 c240 c241 c242 c243 c244 c245 c246 c247 c248 c249 c250 c251 c252 c253 c254 c255 c256 c257 c258 c259 c260 c261 c262 c263 c264 c265 c266 c267 c268 c269 c270 c271 c272 c273 c274 c275 c276 c277 c278 c279 c280 c281 c282 c283 c284 c285 c286 c287 c288 c289 c290 c291 c292 c293 c294 c295 c296 c297 c298 c299 c300 c301 c302 c303 c304 c305 => st14 c2 c3 c4 c5 c6 c7 c8 c10 c11 c13 c14 c15 c16 c17 c18 c19 c21 c22 c23 c24 c25 c26 c27 c28 c29 c30 c31 c32 c33 c34 c35 c36 c37 c38 c39 c40 c41 c42 c43 c44 c45 c46 c47 c48 c49 c50 c51 c52 c53 c54 c55 c56 c57 c58 c59 c60 c61 c62 c63 c64 c65 c66 c67 c68 c69 c70 c71 c72 c73 c74 c75 c76 c77 c78 c79 c80 c81 c82 c83 c84 c85 c86 c87 c88 c89 c90 c91 c92 c93 c94 c95 c96 c97 c98 c99 c100 c101 c102 c103 c104 c105 c106 c107 c108 c109 c110 c111 c112 c113 c114 c115 c116 c117 c118 c119 c120 c121 c122 c123 c124 c125 c126 c127 c128 c129 c130 c131 c132 c133 c134 c135 c136 c137 c138 c139 c140 c141 c142 c143 c144 c145 c146 c147 c148 c149 c150 c151 c152 c153 c154 c155 c156 c157 c158 c159 c160 c161 c162 c163 c164 c165 c166 c167 c168 c169 c170 c171 c172 c173 c174 c175 c176 c177 c178 c179 c180 c181 c182 c183 c184 c185 c186 c187 c188 c189 c190 c191 c192 c193 c194 c195 c196 c197 c198 c199 c200 c201 c202 c203 c204 c205 c206 c207 c208 c209 c210 c211 c212 c213 c214 c215 c216 c217 c218 c219 c220 c221 c222 c223 c224 c225 c226 c227 c228 c229 c230 c231 c232 c233 c234 c235 c236 c237 c238 c239 c240 c241 c242 c243 c244 c245 c246 c247 c248 c249 c250 c251 c252 c253 c254 c255 c256 c257 c258 c259 c260 c261 c262 c263 c264 c265 c266 c267 c268 c269 c270 c271 c272 c273 c274 c275 c276 c277 c278 c279 c280 c281 c282 c283 c284 c285 c286 c287 c288 c289 c290 c291 c292 c293 c294 c295 c296 c297 c298 c299 c300 c301 c302 c303 c304 c305 w W' (hbw W' hW') ao n cap (hk W' hW') (hr W' hW') hl hb256 qo m qc D dff xs hm hm47 hqo (has W' hW') hbig tn tc c ts hts hc hT
  have H0 : Hid (T5 NB Wa Wa tn tc c ts 0) := ht.to hNB
  clear hk hr has hl hb256 hm hqo hbw hbig ht hm47
  conv => arg 2; whnf
  refine wp_seq_k fun K hK => ?_
  have HKK : Hid _ := hK
  clear hK
  generalize hT : ts.length = T at *
  have HTL : Hid (ts.length = T) := hT
  clear hT
  go_wp2
  go_loopw [205] (fun iv wr => ∃ k : Nat, k ≤ T ∧ iv = .int .i64 k ∧ Hid (T5 NB Wa wr tn tc c ts k)) (fun iv _ => T - (intOf iv).toNat)
  case atStart => exact ⟨0, by omega, rfl, H0⟩
  case round =>
    clear H0
    obtain ⟨k, hk, rfl, HT⟩ := hrel
    by_cases hlt : k < T
    · have y0 : (0 : Int) ≤ (k : Int) := by omega
      have y1 : (k : Int) < (T : Int) := by omega
      obtain ⟨wo, hwo⟩ : ∃ wo, wo = wr := ⟨wr, rfl⟩
      subst hwo
      obtain ⟨t, htk⟩ : ∃ t, ts[k]? = some t := ⟨_, List.getElem?_eq_getElem (by rw [HTL.out]; exact hlt)⟩
      have HTK : Hid (ts[k]? = some t) := htk
      obtain ⟨q, rfl, hcl⟩ := HT.out.at k t htk
      have hsub : IntKind.i64.wrap (-1 - (k : Int)) = -1 - (k : Int) := i64_in _ (by omega) (by omega)
      have HOV : Hid (Ov NB t c (-1 - (k : Int)) wo 0 wo) := Ov.zero (HT.out.own k t (Nat.le_refl _) htk)
      have HLT : Hid (∀ g, t.1 = some ⟨g, 0, none⟩ → NB ≤ g ∧ g < wo.heap.size) := fun g e => ⟨(HT.out.lt k t g htk e).1, Nat.lt_of_lt_of_le (HT.out.lt k t g htk e).2 HT.out.bel.size⟩
      clear htk
      go_wp2
      go_loopw [212] (fun iv wo' => ∃ j : Nat, j ≤ c ∧ iv = .int .i64 j ∧ Hid (Ov NB t c (-1 - (k : Int)) wo j wo')) (fun iv _ => c - (intOf iv).toNat)
      case atStart => exact ⟨0, by omega, rfl, HOV⟩
      case round =>
        clear HOV
        obtain ⟨j, hj, rfl, HO⟩ := hrel
        by_cases hjc : j < c
        · have x0 : (0 : Int) ≤ (j : Int) := by omega
          have x1 : (j : Int) < (c : Int) := by omega
          obtain ⟨mm, hmm, _⟩ := HO.out.own
          obtain ⟨gq, hgq, hg1, hg2⟩ := hmm.at (by omega)
          have HO2 : Hid (Ov NB t c (-1 - (k : Int)) wo (j + 1) (wr.setCell ⟨gq, j, none⟩ (.int .i64 (-1 - (k : Int))))) := HO.out.step hjc gq hgq hg1
          rw [hgq] at hmm
          have hcj := hmm.cell j hjc
          have hfj := hmm.frozen j
          clear hmm hcl
          generalize t.1 = tq at *
          subst hgq
          generalize mm.getD j 0 = y at hcj
          go_wp2
          exact ⟨⟨j + 1, by omega, by go_num, HO2⟩, by simp [intOf]; omega⟩
        · obtain rfl : j = c := by omega
          have x1 : ¬ ((j : Nat) : Int) < (j : Int) := by omega
          have HG0 : Hid (GrI NB t j (-1 - (k : Int)) wo 0 t.1 t.2 wr) := by
            have h0 := HO.out.all
            refine ⟨h0, ?_, .inl rfl, HO.out.chg⟩
            have := h0.take j (Nat.le_refl _)
            rw [List.take_replicate, Nat.min_self] at this
            exact this
          clear HO hcl
          go_wp2
          go_loopw [23, 25] (fun xv iv wo' => ∃ (i : Nat) (xo : Option Addr) (xc : Nat), i ≤ 70 ∧ xv = .slice xo (j + i) xc ∧ iv = .int .i64 i ∧ Hid (GrI NB t j (-1 - (k : Int)) wo i xo xc wo')) (fun _ iv _ => 70 - (intOf iv).toNat)
          case atStart => exact ⟨0, _, _, by omega, rfl, rfl, HG0⟩
          case round =>
            clear HG0
            obtain ⟨i, xo, xc, hi, rfl, rfl, HG⟩ := hrel
            by_cases hi7 : i < 70
            · have v1 : (i : Int) < 70 := by omega
              have v0 : (0 : Int) ≤ (i : Int) := by omega
              have ba : Hid (Below wr.heap.size wr (wr.alloc (.cells #[.int .i64 (-1 - (k : Int))] 3))) := (Below.refl _ _).alloc (Nat.le_refl _) _
              have rB : Hid (Row (wr.alloc (.cells #[.int .i64 (-1 - (k : Int))] 3)) wr.heap.size 3 [I64 (-1 - (k : Int))]) := Row.at wr _ _ _ _ rfl rfl
              go_wp2_with (at_builtin; refine wpList_append_num rfl (.tmp 225) (.tmp 228) rfl NB xo (j + i) xc (List.replicate (j + i) (-1 - (k : Int))) rfl (HG.out.own.keep ba.out) wr.heap.size (-1 - (k : Int)) rfl rB.out (by omega) ?_; intro ao3 c3' w3 ho3 hb3 hk3 hw3)
              exact ⟨⟨i + 1, ao3, c3', by omega, rfl, by go_num, HG.out.step (fun g e => (HLT.out g e).2) ho3 hb3 hk3 hw3⟩, by simp [intOf]; omega⟩
            · obtain rfl : i = 70 := by omega
              have v1 : ¬ ((70 : Nat) : Int) < 70 := by omega
              have HT2 : Hid (T5 NB Wa wr (some ⟨q, 0, none⟩) tc j ts (k + 1)) := HT.out.next HTK.out HG.out.chg HG.out.rd
              clear HG HT
              go_wp2
              exact ⟨⟨k + 1, by omega, by go_num, HT2⟩, by simp [intOf]; omega⟩
    · obtain rfl : k = T := by omega
      have y1 : ¬ ((k : Nat) : Int) < (k : Int) := by omega
      have HTD : Hid (ToldR wr tn c ts) := by
        have := HT.out
        rw [← HTL.out] at this
        exact this.done
      have HBL : Hid (Below NB Wa wr) := HT.out.bel
      clear HT
      go_wp2
      refine HKK.out _ _ ?_
      exact NXT.out _ HBL.out HTD.out _ _ _ _ _ _ _ _ _ _ _ _ _ _ _ _ _ _ _ _ _ _ _ _ _ _ _ _ _ _ _ _ _ _ _ _ _ _ _ _ _ _ _ _ _ _ _ _ _ _ _ _ _ _ _ _ _ _ _ _ _ _ _ _ _ _ _ _ _ _ _ _ _ _ _ _ _ _ _ _ _ _ _ _ _ _ _ _ _ _ _ _ _ _ _ _ _ _ _ _ _ _ _ _ _ _ _ _ _ _ _ _ _ _ _ _ _ _ _ _ _ _ _ _ _ _ _ _ _ _ _ _ _ _ _ _ _ _ _ _ _ _ _ _ _ _ _ _ _ _ _ _ _ _ _ _ _ _ _ _ _ _ _ _ _ _ _ _ _ _ _ _ _ _ _ _ _ _ _ _ _ _ _ _ _ _ _ _ _ _ _ _ _ _ _ _ _ _ _ _ _ _ _ _ _ _ _ _ _ _ _ _ _ _ _ _ _ _ _ _ _ _ _ _ _ _ _ _ _ _ _ _ _ _ _ _ _ _ _ _ _ _ _ _ _ _ _ _ _ _ _ _ _ _ _ _ _ _ _ _ _ _ _ _ _ _ _ _ _ _ _ _ _ _ _ _ _ _ _ _ _ _ _ _ _ _ _ _ _ _ _ _ _ _ _ _ _ _ _ _ _

end Go.Proofs.Ytepafpnpmpijeaa
