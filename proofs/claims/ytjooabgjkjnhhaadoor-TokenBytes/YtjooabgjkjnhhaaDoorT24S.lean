
import Derived.Test.YtjooabgjkjnhhaaDoorT24Q
import Derived.Test.YtjooabgjkjnhhaaDoorT24A
/-! The reference's token: Narrow, what it stands on. (Printed by tools/gent24b.py.) -/
namespace Go.Proofs.YtjooabgjkjnhhaaDoor
open Go.RowKit
set_option linter.unusedVariables false
set_option linter.unusedSimpArgs false
set_option maxRecDepth 100000

/-- append of any row at a step of a drawn region, and what it leaves of other blocks. -/
theorem step_append_any {T e size bytes : Nat} {z : Value} (E : ElT T e size bytes z) {ops : Array Oper} {o : Oper} {a : Act} {w : World} {K : Act → World → Prop} {Q : Exit → Act → World → Prop} {X : Prop} (hw : Region.wanted o (yielded ops a.tmps) = true) (s x : Operand)
    (ho : o.op = .call { callee := .builtin .append, args := #[s, x], argTypes := #[T, T] })
    (N : Nat) (aoD : Option Addr) (nD capD : Nat) (vs : List Value) (hs : a.eval s = .slice aoD nD capD) (hown : w.ownsRow N e size (.slice aoD nD capD) nD vs) (hN : N ≤ w.heap.size)
    (ao : Option Addr) (n cap : Nat) (news : List Value) (hx : a.eval x = .slice ao n cap) (hn : news.length = n * size) (hb : IsL w ao news) (h1 : ∀ u ∈ news, u.oneCell' = true) (hnil : ao = none → cap = 0) (hm : nD + n ≤ maxLen) (hl : (nD + n) * bytes ≤ 140737488355328)
    (h : ∀ ao' cap' w', w'.ownsRow N e size (.slice ao' (nD + n) cap') (nD + n) (vs ++ news) → Below N w w' → w.heap.size ≤ w'.heap.size → (∀ k, k < w.heap.size → (∀ g, aoD = some ⟨g, 0, none⟩ → k ≠ g) → w'.heap[k]? = w.heap[k]?) → K (a.put o.dst (.slice ao' (nD + n) cap')) w') : if Region.wanted o (yielded ops a.tmps) = true then Oper.wp Tryd.prog o a w K Q else X := by
  rw [if_pos hw]
  obtain ⟨ao', cap', w', hrun, h2, h3, h4, h5⟩ := run_append_gen E N w w o.type aoD nD capD vs hown hN (Below.refl _ _) ao n cap news hn hb h1 hnil hm hl
  unfold Oper.wp execOp
  simp only [ho, resolve, invoke, builtin, Sem.run_bind, Sem.run_pure, Result.andThen_ok, List.map_toArray, List.map_cons, List.map_nil, hs, hx, hrun]
  exact h ao' cap' w' h2 h3 h4 h5
/-- The same at a plain step. -/
theorem wpList_append_any {T e size bytes : Nat} {z : Value} (E : ElT T e size bytes z) {ops : Array Oper} {rest : List Oper} {o : Oper} {a : Act} {w : World} {Q : Exit → Act → World → Prop} (hgd : o.guard = none) (s x : Operand)
    (ho : o.op = .call { callee := .builtin .append, args := #[s, x], argTypes := #[T, T] })
    (N : Nat) (aoD : Option Addr) (nD capD : Nat) (vs : List Value) (hs : a.eval s = .slice aoD nD capD) (hown : w.ownsRow N e size (.slice aoD nD capD) nD vs) (hN : N ≤ w.heap.size)
    (ao : Option Addr) (n cap : Nat) (news : List Value) (hx : a.eval x = .slice ao n cap) (hn : news.length = n * size) (hb : IsL w ao news) (h1 : ∀ u ∈ news, u.oneCell' = true) (hnil : ao = none → cap = 0) (hm : nD + n ≤ maxLen) (hl : (nD + n) * bytes ≤ 140737488355328)
    (h : ∀ ao' cap' w', w'.ownsRow N e size (.slice ao' (nD + n) cap') (nD + n) (vs ++ news) → Below N w w' → w.heap.size ≤ w'.heap.size → (∀ k, k < w.heap.size → (∀ g, aoD = some ⟨g, 0, none⟩ → k ≠ g) → w'.heap[k]? = w.heap[k]?) → wpList Tryd.prog ops Q rest (a.put o.dst (.slice ao' (nD + n) cap')) w') : wpList Tryd.prog ops Q (o :: rest) a w := by
  refine wpList_plain hgd fun K hK => ?_
  obtain ⟨ao', cap', w', hrun, h2, h3, h4, h5⟩ := run_append_gen E N w w o.type aoD nD capD vs hown hN (Below.refl _ _) ao n cap news hn hb h1 hnil hm hl
  unfold Oper.wp execOp
  simp only [ho, resolve, invoke, builtin, Sem.run_bind, Sem.run_pure, Result.andThen_ok, List.map_toArray, List.map_cons, List.map_nil, hs, hx, hrun]
  exact hK _ _ (h ao' cap' w' h2 h3 h4 h5)
/-- What an append to an own row leaves of a row of another type. -/
theorem row_still {N e size n : Nat} {W W2 : World} {ao : Option Addr} {c : Nat} {vs : List Value} (h : W.ownsRow N e size (.slice ao n c) n vs) (hk : ∀ k, k < W.heap.size → (∀ g, ao = some ⟨g, 0, none⟩ → k ≠ g) → W2.heap[k]? = W.heap[k]?) {g' t' : Nat} {cs : List Value} (hr : Row W g' t' cs) (ht : t' ≠ e) : Row W2 g' t' cs :=
  (hk g' hr.lt (fun q eq e2 => by
    rcases h.2 with ⟨e1, _⟩ | ⟨g2, c', cur, e1, _, hh, _⟩
    · injection e1 with e1; rw [e1] at eq; cases eq
    · injection e1 with e1 _ _
      rw [e1] at eq; injection eq with eq; injection eq with eq
      subst e2; subst eq
      have h2 : W.heap[g2]? = _ := hr
      rw [hh] at h2
      injection h2 with h2
      injection h2 with _ h2
      exact ht h2.symm)).trans hr
theorem own_still {N e size n N' e' size' n' : Nat} {W W2 : World} {ao : Option Addr} {c : Nat} {vs vs' : List Value} {v : Value} (h : W.ownsRow N e size (.slice ao n c) n vs) (hk : ∀ k, k < W.heap.size → (∀ g, ao = some ⟨g, 0, none⟩ → k ≠ g) → W2.heap[k]? = W.heap[k]?) (ho : W.ownsRow N' e' size' v n' vs') (ht : e' ≠ e) : W2.ownsRow N' e' size' v n' vs' := by
  refine ⟨ho.1, ?_⟩
  rcases ho.2 with h1 | ⟨g2, c', cur, e1, hg2, hh, hr⟩
  · exact .inl h1
  · refine .inr ⟨g2, c', cur, e1, hg2, ?_, hr⟩
    have : Row W g2 e' cur.toList := by show W.heap[g2]? = _; rw [hh]
    have := row_still h hk this ht
    exact (this : W2.heap[g2]? = _)
theorem isB_isL {w : World} {ao : Option Addr} {bs : List By} (h : IsB w ao bs) : IsL w ao (bs.map B8) := by
  rcases h with rfl | ⟨B, off, e, hc⟩
  · exact .inl rfl
  · refine .inr ⟨B, off, e, fun j v hv => ?_⟩
    rw [List.getElem?_map] at hv
    obtain ⟨x, hx, rfl⟩ := Option.map_eq_some_iff.1 hv
    exact hc j x hx
theorem cvs_isL {w : World} {lo : Option Addr} {l : List Cv} (h : CvsIn w lo l) : IsL w lo (l.flatMap cvC) := by
  cases l with
  | nil => exact .inl rfl
  | cons c r =>
    obtain ⟨B, off, e, _, _⟩ := h 0 c rfl
    refine .inr ⟨B, off, e, fun j v hv => ?_⟩
    have hj : j < ((c :: r).flatMap cvC).length := (List.getElem?_eq_some_iff.1 hv).1
    rw [flC_len] at hj
    obtain ⟨d, hd⟩ : ∃ d, (c :: r)[j / 5]? = some d := ⟨_, List.getElem?_eq_getElem (by omega)⟩
    obtain ⟨B2, off2, e2, _, hr⟩ := h (j / 5) d hd
    rw [e] at e2
    injection e2 with e2
    injection e2 with e3 e4
    subst e3; subst e4
    obtain ⟨u, hu⟩ : ∃ u, (cvC d)[j % 5]? = some u := ⟨_, List.getElem?_eq_getElem (by simp [cvC]; omega)⟩
    have h1 := flC_at (c :: r) (j / 5) d hd (j % 5) u hu
    rw [show j / 5 * 5 + j % 5 = j by omega, hv] at h1
    injection h1 with h1
    subst h1
    have := hr (j % 5) v hu
    rw [Nat.add_assoc, show j / 5 * 5 + j % 5 = j by omega] at this
    exact this
theorem flC_one (l : List Cv) : ∀ v ∈ l.flatMap cvC, v.oneCell' = true := by
  intro v hv
  obtain ⟨c, _, hc⟩ := List.mem_flatMap.1 hv
  exact cvC_one c v hc
/-- While a token with a caveat more is put together: ID appended (5), caveat made (8), appended (9), built (10), a box (11), laid (12). -/
structure N8 (N : Nat) (W0 : World) (key : Int) (id : List By) (E1 : Nat) (l7 : Option Addr) (lc7 : Nat) (cs : List Cv) (c : Cv) (q5 q8 q9 q10 q11 q12 : Bool) (x29 x32 x33 x34 x8 : Value) (W : World) : Prop where
  c9 : q9 = true → q8 = true
  c10 : q10 = true → q5 = true ∧ q9 = true
  c12 : q12 = true → q10 = true ∧ q11 = true
  bel : Below N W0 W
  sz : N ≤ W.heap.size
  id0 : q5 = false → W.ownsRow N 5 1 (.slice (some ⟨E1, 0, none⟩) 0 0) 0 []
  p5 : q5 = true → ∃ ao c', x29 = .slice ao id.length c' ∧ W.ownsRow N 5 1 (.slice ao id.length c') id.length (id.map B8)
  l0 : q9 = false → W.ownsRow N 72 5 (.slice l7 cs.length lc7) cs.length (cs.flatMap cvC)
  p8 : q8 = true → q9 = false → ∃ G, x32 = .slice (some ⟨G, 0, none⟩) 1 1 ∧ Row W G 72 (cvC c)
  p9 : q9 = true → ∃ ao c', x33 = .slice ao (cs.length + 1) c' ∧ W.ownsRow N 72 5 (.slice ao (cs.length + 1) c') (cs.length + 1) (cs.flatMap cvC ++ cvC c)
  p10 : q10 = true → ∃ io2 ic2 lo2 lc2, x29 = .slice io2 id.length ic2 ∧ x33 = .slice lo2 (cs.length + 1) lc2 ∧ x34 = .agg (tkC key io2 id.length ic2 lo2 (cs.length + 1) lc2 (List.replicate 32 0)).toArray
  p11 : q11 = true → ∃ g8, x8 = .pointer (some ⟨g8, 0, none⟩) ∧ N ≤ g8 ∧ (q12 = false → Row W g8 28 zTk) ∧ (q12 = true → ∀ io2 ic2 lo2 lc2, x29 = .slice io2 id.length ic2 → x33 = .slice lo2 (cs.length + 1) lc2 → Row W g8 28 (tkC key io2 id.length ic2 lo2 (cs.length + 1) lc2 (List.replicate 32 0)))
section
variable {N : Nat} {W0 : World} {key : Int} {id : List By} {E1 : Nat} {l7 : Option Addr} {lc7 : Nat} {cs : List Cv} {c : Cv} {q5 q8 q9 q10 q11 q12 : Bool} {x29 x32 x33 x34 x8 : Value} {W W2 : World}
theorem N8.keep (h : N8 N W0 key id E1 l7 lc7 cs c q5 q8 q9 q10 q11 q12 x29 x32 x33 x34 x8 W) (hb : Below W.heap.size W W2) : N8 N W0 key id E1 l7 lc7 cs c q5 q8 q9 q10 q11 q12 x29 x32 x33 x34 x8 W2 :=
  ⟨h.c9, h.c10, h.c12, h.bel.trans (hb.mono h.sz), Nat.le_trans h.sz hb.size, fun e => owB_keep (h.id0 e) hb, fun e => let ⟨ao, c', a, b⟩ := h.p5 e; ⟨ao, c', a, owB_keep b hb⟩, fun e => owB_keep (h.l0 e) hb, fun e f => let ⟨G, a, b⟩ := h.p8 e f; ⟨G, a, b.below hb b.lt⟩, fun e => let ⟨ao, c', a, b⟩ := h.p9 e; ⟨ao, c', a, owB_keep b hb⟩, h.p10, fun e => let ⟨g, a, b, r1, r2⟩ := h.p11 e; ⟨g, a, b, fun f => (r1 f).below hb (r1 f).lt, fun f i1 i2 i3 i4 u1 u2 => (r2 f i1 i2 i3 i4 u1 u2).below hb (r2 f i1 i2 i3 i4 u1 u2).lt⟩⟩
theorem N8.s5 (h : N8 N W0 key id E1 l7 lc7 cs c q5 q8 q9 q10 q11 q12 x29 x32 x33 x34 x8 W) (e5 : q5 = false) {ao : Option Addr} {c' : Nat} (ho : W2.ownsRow N 5 1 (.slice ao id.length c') id.length (id.map B8)) (hb : Below N W W2) (hz : W.heap.size ≤ W2.heap.size) (hk : ∀ k, k < W.heap.size → (∀ g, (some ⟨E1, 0, none⟩ : Option Addr) = some ⟨g, 0, none⟩ → k ≠ g) → W2.heap[k]? = W.heap[k]?) :
    N8 N W0 key id E1 l7 lc7 cs c true q8 q9 q10 q11 q12 (.slice ao id.length c') x32 x33 x34 x8 W2 := by
  have e10 : q10 = false := ff24 (fun e => (h.c10 e).1) e5
  have e12 : q12 = false := ff24 (fun e => (h.c12 e).1) e10
  subst e10 e12
  have o := h.id0 e5
  exact ⟨h.c9, fun e => (by cases e), fun e => (by cases e), h.bel.trans hb, Nat.le_trans h.sz hz, fun e => (by cases e), fun _ => ⟨ao, c', rfl, ho⟩, fun e => own_still o hk (h.l0 e) (by decide), fun e f => let ⟨G, a, b⟩ := h.p8 e f; ⟨G, a, row_still o hk b (by decide)⟩, fun e => let ⟨ao, c', a, b⟩ := h.p9 e; ⟨ao, c', a, own_still o hk b (by decide)⟩, fun e => (by cases e), fun e => let ⟨g, a, b, r1, _⟩ := h.p11 e; ⟨g, a, b, fun f => row_still o hk (r1 f) (by decide), fun f => (by cases f)⟩⟩
theorem N8.s8 (h : N8 N W0 key id E1 l7 lc7 cs c q5 q8 q9 q10 q11 q12 x29 x32 x33 x34 x8 W) (e8 : q8 = false) : N8 N W0 key id E1 l7 lc7 cs c q5 true q9 q10 q11 q12 x29 (.slice (some ⟨W.heap.size, 0, none⟩) 1 1) x33 x34 x8 (W.alloc (.cells (cvC c).toArray 72)) := by
  have e9 : q9 = false := ff24 h.c9 e8
  have e10 : q10 = false := ff24 (fun e => (h.c10 e).2) e9
  have e12 : q12 = false := ff24 (fun e => (h.c12 e).1) e10
  subst e9 e10 e12
  have k := h.keep (W2 := W.alloc (.cells (cvC c).toArray 72)) ((Below.refl _ _).alloc (Nat.le_refl _) _)
  exact ⟨fun e => (by cases e), k.c10, k.c12, k.bel, k.sz, k.id0, k.p5, k.l0, fun _ _ => ⟨_, rfl, Row.at W _ _ _ _ rfl rfl⟩, k.p9, k.p10, k.p11⟩
theorem N8.s9 (h : N8 N W0 key id E1 l7 lc7 cs c q5 q8 q9 q10 q11 q12 x29 x32 x33 x34 x8 W) (e8 : q8 = true) (e9 : q9 = false) {ao : Option Addr} {c' : Nat} (ho : W2.ownsRow N 72 5 (.slice ao (cs.length + 1) c') (cs.length + 1) (cs.flatMap cvC ++ cvC c)) (hb : Below N W W2) (hz : W.heap.size ≤ W2.heap.size) (hk : ∀ k, k < W.heap.size → (∀ g, l7 = some ⟨g, 0, none⟩ → k ≠ g) → W2.heap[k]? = W.heap[k]?) :
    N8 N W0 key id E1 l7 lc7 cs c q5 q8 true q10 q11 q12 x29 x32 (.slice ao (cs.length + 1) c') x34 x8 W2 := by
  have e10 : q10 = false := ff24 (fun e => (h.c10 e).2) e9
  have e12 : q12 = false := ff24 (fun e => (h.c12 e).1) e10
  subst e10 e12
  have o := h.l0 e9
  exact ⟨fun _ => e8, fun e => (by cases e), fun e => (by cases e), h.bel.trans hb, Nat.le_trans h.sz hz, fun e => own_still o hk (h.id0 e) (by decide), fun e => let ⟨ao, c', a, b⟩ := h.p5 e; ⟨ao, c', a, own_still o hk b (by decide)⟩, fun e => (by cases e), fun _ f => (by cases f), fun _ => ⟨ao, c', rfl, ho⟩, fun e => (by cases e), fun e => let ⟨g, a, b, r1, _⟩ := h.p11 e; ⟨g, a, b, fun f => row_still o hk (r1 f) (by decide), fun f => (by cases f)⟩⟩
theorem N8.s10 (h : N8 N W0 key id E1 l7 lc7 cs c q5 q8 q9 q10 q11 q12 x29 x32 x33 x34 x8 W) (e5 : q5 = true) (e9 : q9 = true) (e10 : q10 = false) {io2 : Option Addr} {ic2 : Nat} {lo2 : Option Addr} {lc2 : Nat} (u1 : x29 = .slice io2 id.length ic2) (u2 : x33 = .slice lo2 (cs.length + 1) lc2) : N8 N W0 key id E1 l7 lc7 cs c q5 q8 q9 true q11 q12 x29 x32 x33 (.agg (tkC key io2 id.length ic2 lo2 (cs.length + 1) lc2 (List.replicate 32 0)).toArray) x8 W := by
  have e12 : q12 = false := ff24 (fun e => (h.c12 e).1) e10
  subst e12
  exact ⟨h.c9, fun _ => ⟨e5, e9⟩, fun e => (by cases e), h.bel, h.sz, h.id0, h.p5, h.l0, h.p8, h.p9, fun _ => ⟨_, _, _, _, u1, u2, rfl⟩, h.p11⟩
theorem N8.s11 (h : N8 N W0 key id E1 l7 lc7 cs c q5 q8 q9 q10 q11 q12 x29 x32 x33 x34 x8 W) (e11 : q11 = false) : N8 N W0 key id E1 l7 lc7 cs c q5 q8 q9 q10 true q12 x29 x32 x33 x34 (.pointer (some ⟨W.heap.size, 0, none⟩)) (W.alloc (.cells zTk.toArray 28)) := by
  have e12 : q12 = false := ff24 (fun e => (h.c12 e).2) e11
  subst e12
  have k := h.keep (W2 := W.alloc (.cells zTk.toArray 28)) ((Below.refl _ _).alloc (Nat.le_refl _) _)
  exact ⟨k.c9, k.c10, fun e => (by cases e), k.bel, k.sz, k.id0, k.p5, k.l0, k.p8, k.p9, k.p10, fun _ => ⟨_, rfl, h.sz, fun _ => Row.at W _ _ _ _ rfl rfl, fun f => (by cases f)⟩⟩
theorem N8.s12 (h : N8 N W0 key id E1 l7 lc7 cs c q5 q8 q9 q10 q11 q12 x29 x32 x33 x34 x8 W) (e10 : q10 = true) (e11 : q11 = true) (e12 : q12 = false) {io2 : Option Addr} {ic2 : Nat} {lo2 : Option Addr} {lc2 g8 : Nat} (u1 : x29 = .slice io2 id.length ic2) (u2 : x33 = .slice lo2 (cs.length + 1) lc2) (u3 : x8 = .pointer (some ⟨g8, 0, none⟩)) (hg : N ≤ g8) (hr0 : Row W g8 28 zTk) (hr : Row W2 g8 28 (tkC key io2 id.length ic2 lo2 (cs.length + 1) lc2 (List.replicate 32 0))) (hs : SameBut g8 W W2) : N8 N W0 key id E1 l7 lc7 cs c q5 q8 q9 q10 q11 true x29 x32 x33 x34 x8 W2 := by
  obtain ⟨e5, e9⟩ := h.c10 e10
  refine ⟨h.c9, h.c10, fun _ => ⟨e10, e11⟩, hs.below h.bel hg, by rw [hs.size]; exact h.sz, fun e => (by rw [e5] at e; cases e), fun e => let ⟨ao, c', a, b⟩ := h.p5 e; ⟨ao, c', a, owB_but b hs hr0 (by decide)⟩, fun e => (by rw [e9] at e; cases e), fun _ f => (by rw [e9] at f; cases f), fun e => let ⟨ao, c', a, b⟩ := h.p9 e; ⟨ao, c', a, owB_but b hs hr0 (by decide)⟩, h.p10, fun _ => ⟨g8, u3, hg, fun f => (by cases f), fun _ i1 i2 i3 i4 v1 v2 => ?_⟩⟩
  rw [u1] at v1; rw [u2] at v2
  injection v1 with a1 _ a3
  injection v2 with b1 _ b3
  subst a1; subst a3; subst b1; subst b3
  exact hr
end
end Go.Proofs.YtjooabgjkjnhhaaDoor
