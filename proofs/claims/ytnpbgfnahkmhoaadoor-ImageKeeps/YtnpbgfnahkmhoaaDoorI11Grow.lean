import Derived.Test.YtnpbgfnahkmhoaaDoorI11Keep

/-! The law's grown: rows of their owner's, each filled with a mark, and grown: what lies where. -/
namespace Go.Proofs.YtnpbgfnahkmhoaaDoor
open Go.RowKit
set_option maxRecDepth 100000

/-- A row of the list: where it lies. -/
structure Gr where
  ao : Option Addr
  n : Nat
  c : Nat
def Gr.val (r : Gr) : Value := .slice r.ao r.n r.c
/-- The mark of a place. -/
def mrk (j : Nat) : By := BitVec.ofNat 8 (j + 1)
/-- The block that a slice lies in holds bytes. -/
def TB (w : World) (ao : Option Addr) : Prop := ∀ B off, ao = some ⟨B, off, none⟩ → ∃ cur fz, w.heap[B]? = some (.cells cur 5 fz)

theorem IsB.of_block {w w' : World} {ao : Option Addr} {m : List By} (h : IsB w ao m) (hb : ∀ B off, ao = some ⟨B, off, none⟩ → w'.heap[B]? = w.heap[B]?) : IsB w' ao m := by
  rcases h with h | ⟨B, off, h1, h2⟩
  · exact .inl h
  · exact .inr ⟨B, off, h1, fun j v hj => (World.cell?_of_block (w := w) (hb B off h1)).trans (h2 j v hj)⟩
theorem TB.of_block {w w' : World} {ao : Option Addr} (h : TB w ao) (hb : ∀ B off, ao = some ⟨B, off, none⟩ → w'.heap[B]? = w.heap[B]?) : TB w' ao := by
  intro B off e
  obtain ⟨cur, fz, h1⟩ := h B off e
  exact ⟨cur, fz, (hb B off e).trans h1⟩
theorem Own.tb {N : Nat} {w : World} {ao : Option Addr} {n c : Nat} {m : List By} (h : Own N w (.slice ao n c) m) : TB w ao := by
  intro B off e
  rcases h.1.2 with ⟨e1, _⟩ | ⟨g, cap, cur, e1, _, h3, _⟩
  · injection e1 with e1; rw [e] at e1; cases e1
  · injection e1 with e1; rw [e] at e1; injection e1 with e1; injection e1 with e1; subst e1
    exact ⟨cur, _, h3⟩
/-- Where an own slice lies. -/
theorem Own.lies {N : Nat} {w : World} {ao : Option Addr} {n c : Nat} {m : List By} (h : Own N w (.slice ao n c) m) : ∀ B off, ao = some ⟨B, off, none⟩ → off = 0 ∧ N ≤ B ∧ B < w.heap.size := by
  intro B off e
  rcases h.1.2 with ⟨e1, _⟩ | ⟨g, cap, cur, e1, h2, h3, _⟩
  · injection e1 with e1; rw [e] at e1; cases e1
  · injection e1 with e1; rw [e] at e1; injection e1 with e1; injection e1 with e1 e2; subst e1 e2
    exact ⟨rfl, h2, (Array.getElem?_eq_some_iff.1 h3).1⟩
theorem Own.of_block {N : Nat} {w w' : World} {ao : Option Addr} {n c : Nat} {m : List By} (h : Own N w (.slice ao n c) m) (hs : N ≤ w'.heap.size) (hb : ∀ B off, ao = some ⟨B, off, none⟩ → w'.heap[B]? = w.heap[B]?) : Own N w' (.slice ao n c) m := by
  refine ⟨⟨h.1.1, ?_⟩, hs⟩
  rcases h.1.2 with h1 | ⟨g, cap, cur, e, h2, h3, h4⟩
  · exact .inl h1
  · refine .inr ⟨g, cap, cur, e, h2, (hb g 0 ?_).trans h3, h4⟩
    injection e
/-- A row of slices. -/
def OwnS (N : Nat) (w : World) (ao : Option Addr) (c : Nat) (vs : List Value) : Prop := w.ownsRow N 23 1 (.slice ao vs.length c) vs.length vs ∧ N ≤ w.heap.size
theorem OwnS.of_block {N : Nat} {w w' : World} {ao : Option Addr} {c : Nat} {vs : List Value} (h : OwnS N w ao c vs) (hs : N ≤ w'.heap.size) (hb : ∀ B, ao = some ⟨B, 0, none⟩ → w'.heap[B]? = w.heap[B]?) : OwnS N w' ao c vs := by
  refine ⟨⟨h.1.1, ?_⟩, hs⟩
  rcases h.1.2 with h1 | ⟨g, cap, cur, e, h2, h3, h4⟩
  · exact .inl h1
  · refine .inr ⟨g, cap, cur, e, h2, (hb g ?_).trans h3, h4⟩
    injection e
/-- A block of slices is none of bytes. -/
theorem OwnS.ne {N : Nat} {w : World} {ao bo : Option Addr} {c : Nat} {vs : List Value} (h : OwnS N w ao c vs) (hb : TB w bo) : ∀ B off, bo = some ⟨B, off, none⟩ → ao ≠ some ⟨B, 0, none⟩ := by
  intro B off e e2
  obtain ⟨cur, fz, h1⟩ := hb B off e
  rcases h.1.2 with ⟨e1, _⟩ | ⟨g, cap, cur', e1, _, h3, _⟩
  · injection e1 with e1; rw [e2] at e1; cases e1
  · injection e1 with e1; rw [e2] at e1; injection e1 with e1; injection e1 with e1; subst e1
    rw [h1] at h3
    injection h3 with h3
    injection h3 with h3 h4
    exact absurd h4 (by decide)
theorem OwnS.lies {N : Nat} {w : World} {ao : Option Addr} {c : Nat} {vs : List Value} (h : OwnS N w ao c vs) : ∀ B off, ao = some ⟨B, off, none⟩ → off = 0 ∧ N ≤ B ∧ B < w.heap.size := by
  intro B off e
  rcases h.1.2 with ⟨e1, _⟩ | ⟨g, cap, cur, e1, h2, h3, _⟩
  · injection e1 with e1; rw [e] at e1; cases e1
  · injection e1 with e1; rw [e] at e1; injection e1 with e1; injection e1 with e1 e2; subst e1 e2
    exact ⟨rfl, h2, (Array.getElem?_eq_some_iff.1 h3).1⟩
theorem OwnS.at {N : Nat} {w : World} {ao : Option Addr} {c : Nat} {vs : List Value} (h : OwnS N w ao c vs) (j : Nat) (hj : j < vs.length) : ∃ g, ao = some ⟨g, 0, none⟩ ∧ w.cell? ⟨g, j, none⟩ = some vs[j] := by
  rcases h.1.2 with ⟨e1, e2⟩ | ⟨g, cap, cur, e1, h2, h3, h4, _⟩
  · omega
  · injection e1 with e1 _ e3
    subst e1 e3
    exact ⟨g, rfl, by rw [h.1.cellAt j (by omega), List.getElem?_eq_getElem hj]⟩

theorem OwnS.zero {N : Nat} {w : World} {ao : Option Addr} {c : Nat} {vs : List Value} (h : OwnS N w ao c vs) : OwnS 0 w ao c vs := by
  refine ⟨⟨h.1.1, ?_⟩, Nat.zero_le _⟩
  rcases h.1.2 with h1 | ⟨g, cap, cur, e, h2, h3⟩
  · exact .inl h1
  · exact .inr ⟨g, cap, cur, e, Nat.zero_le _, h3⟩
theorem own_raise {N N' : Nat} {w : World} {ao : Option Addr} {n c : Nat} {m : List By} (h : Own N w (.slice ao n c) m) (hb : ∀ B off, ao = some ⟨B, off, none⟩ → N' ≤ B) (hs : N' ≤ w.heap.size) : Own N' w (.slice ao n c) m := by
  refine ⟨⟨h.1.1, ?_⟩, hs⟩
  rcases h.1.2 with h1 | ⟨g, cap, cur, e, h2, h3⟩
  · exact .inl h1
  · refine .inr ⟨g, cap, cur, e, hb g 0 ?_, h3⟩
    injection e
/-- What a round changes: the block of its row, and new ones. -/
structure Chg (N : Nat) (gq : Option Addr) (w w' : World) : Prop where
  bel : Below N w w'
  blk : ∀ k, k < w.heap.size → gq ≠ some ⟨k, 0, none⟩ → w'.heap[k]? = w.heap[k]?
theorem Chg.refl (N : Nat) (gq : Option Addr) (w : World) : Chg N gq w w := ⟨Below.refl _ _, fun _ _ _ => rfl⟩
theorem Chg.size {N : Nat} {gq : Option Addr} {w w' : World} (h : Chg N gq w w') : w.heap.size ≤ w'.heap.size := h.bel.size

/-- What stands but for the row q: the rows behind it as they are, those ahead of it marked, and grown. -/
structure GRest (N : Nat) (rs : List Gr) (aoL : Option Addr) (cL q : Nat) (w : World) (aoG : Option Addr) (cG : Nat) (lg : List Value) : Prop where
  arr : OwnS 0 w aoL cL (rs.map Gr.val)
  todo : ∀ j r, q < j → rs[j]? = some r → ∃ xs, Own N w r.val xs
  done : ∀ j r, j < q → rs[j]? = some r → IsB w r.ao (List.replicate r.n (mrk j)) ∧ TB w r.ao ∧ ∀ B off, r.ao = some ⟨B, off, none⟩ → off = 0 ∧ B < w.heap.size
  lown : ∀ j v, lg[j]? = some v → ∃ r g c, rs[j]? = some r ∧ v = .slice (some ⟨g, 0, none⟩) (r.n + 70) c ∧ IsB w (some ⟨g, 0, none⟩) (List.replicate (r.n + 70) (mrk j)) ∧ TB w (some ⟨g, 0, none⟩) ∧ g < w.heap.size ∧ ∀ i r', q ≤ i → rs[i]? = some r' → r'.ao ≠ some ⟨g, 0, none⟩
  larr : OwnS N w aoG cG lg
  sepA : ∀ g, aoG = some ⟨g, 0, none⟩ → aoL ≠ some ⟨g, 0, none⟩
/-- No two rows of a list share a block. -/
def SepR (rs : List Gr) : Prop := ∀ (i j : Nat) (r r' : Gr) (g : Nat), rs[i]? = some r → rs[j]? = some r' → r.ao = some ⟨g, 0, none⟩ → r'.ao = some ⟨g, 0, none⟩ → i = j

theorem GRest.chg {N : Nat} {rs : List Gr} {aoL : Option Addr} {cL q : Nat} {w w' : World} {aoG : Option Addr} {cG : Nat} {lg : List Value} (h : GRest N rs aoL cL q w aoG cG lg) (hsep : SepR rs) (r : Gr) (hr : rs[q]? = some r) (htb : TB w r.ao) (hc : Chg N r.ao w w') : GRest N rs aoL cL q w' aoG cG lg := by
  have hN : N ≤ w'.heap.size := Nat.le_trans h.larr.2 hc.size
  refine ⟨h.arr.of_block (Nat.zero_le _) fun B e => hc.blk B (h.arr.lies B 0 e).2.2 (fun e2 => h.arr.ne htb B 0 e2 e), ?_, ?_, ?_, h.larr.of_block hN fun B e => hc.blk B (h.larr.lies B 0 e).2.2 (fun e2 => h.larr.ne htb B 0 e2 e), h.sepA⟩
  · intro j r' hj hr'
    obtain ⟨xs, ho⟩ := h.todo j r' hj hr'
    refine ⟨xs, ho.of_block hN fun B off e => ?_⟩
    obtain ⟨rfl, _, hlt⟩ := ho.lies B off e
    refine hc.blk B hlt (fun e2 => ?_)
    have := hsep q j r r' B hr hr' e2 e
    omega
  · intro j r' hj hr'
    obtain ⟨h1, h2, h3⟩ := h.done j r' hj hr'
    have hb : ∀ B off, r'.ao = some ⟨B, off, none⟩ → w'.heap[B]? = w.heap[B]? := fun B off e => by
      obtain ⟨rfl, hlt⟩ := h3 B off e
      refine hc.blk B hlt (fun e2 => ?_)
      have := hsep q j r r' B hr hr' e2 e
      omega
    exact ⟨h1.of_block hb, h2.of_block hb, fun B off e => ⟨(h3 B off e).1, Nat.lt_of_lt_of_le (h3 B off e).2 hc.size⟩⟩
  · intro j v hv
    obtain ⟨r', g, c, e1, e2, e3, e4, e5, e6⟩ := h.lown j v hv
    have hb : ∀ B off, some (⟨g, 0, none⟩ : Addr) = some ⟨B, off, none⟩ → w'.heap[B]? = w.heap[B]? := fun B off e => by
      injection e with e; injection e with e _; subst e
      exact hc.blk g e5 (e6 q r (Nat.le_refl _) hr)
    exact ⟨r', g, c, e1, e2, e3.of_block hb, e4.of_block hb, Nat.lt_of_lt_of_le e5 hc.size, e6⟩
end Go.Proofs.YtnpbgfnahkmhoaaDoor


/-! grown: one row more; append, and just where. -/
namespace Go.Proofs.YtnpbgfnahkmhoaaDoor
open Go.RowKit
set_option maxRecDepth 100000

theorem GRest.push {N : Nat} {rs : List Gr} {aoL : Option Addr} {cL q : Nat} {w w' : World} {aoG aoG' : Option Addr} {cG cG' : Nat} {lg : List Value} (h : GRest N rs aoL cL q w aoG cG lg) (hq : lg.length = q) (r : Gr) (hr : rs[q]? = some r)
    (hi : IsB w r.ao (List.replicate r.n (mrk q))) (htb : TB w r.ao) (hlie : ∀ B off, r.ao = some ⟨B, off, none⟩ → off = 0 ∧ B < w.heap.size) (g c : Nat) (hg : IsB w (some ⟨g, 0, none⟩) (List.replicate (r.n + 70) (mrk q))) (hgt : TB w (some ⟨g, 0, none⟩)) (hgl : g < w.heap.size)
    (hgn : ∀ i r', q + 1 ≤ i → rs[i]? = some r' → r'.ao ≠ some ⟨g, 0, none⟩) (ho : OwnS N w' aoG' cG' (lg ++ [.slice (some ⟨g, 0, none⟩) (r.n + 70) c])) (hsz : w.heap.size ≤ w'.heap.size) (hblk : ∀ k, k < w.heap.size → aoG ≠ some ⟨k, 0, none⟩ → w'.heap[k]? = w.heap[k]?) (hao : aoG' = aoG ∨ aoG' = some ⟨w.heap.size, 0, none⟩) :
    GRest N rs aoL cL (q + 1) w' aoG' cG' (lg ++ [.slice (some ⟨g, 0, none⟩) (r.n + 70) c]) ∧ ∀ r', rs[q + 1]? = some r' → ∃ xs, Own N w' r'.val xs := by
  have hN : N ≤ w'.heap.size := ho.2
  have htodo : ∀ j r', q < j → rs[j]? = some r' → ∃ xs, Own N w' r'.val xs := by
    intro j r' hj hr'
    obtain ⟨xs, hx⟩ := h.todo j r' hj hr'
    exact ⟨xs, hx.of_block hN fun B off e => hblk B (hx.lies B off e).2.2 (h.larr.ne hx.tb B off e)⟩
  refine ⟨⟨?_, fun j r' hj hr' => htodo j r' (by omega) hr', ?_, ?_, ho, ?_⟩, fun r' hr' => htodo _ r' (by omega) hr'⟩
  · exact h.arr.of_block (Nat.zero_le _) fun B e => hblk B (h.arr.lies B 0 e).2.2 (fun e2 => h.sepA B e2 e)
  · intro j r' hj hr'
    have key : ∀ (ao : Option Addr) (m : List By), IsB w ao m → TB w ao → (∀ B off, ao = some ⟨B, off, none⟩ → off = 0 ∧ B < w.heap.size) → IsB w' ao m ∧ TB w' ao ∧ ∀ B off, ao = some ⟨B, off, none⟩ → off = 0 ∧ B < w'.heap.size := by
      intro ao m k1 k2 k3
      have hb : ∀ B off, ao = some ⟨B, off, none⟩ → w'.heap[B]? = w.heap[B]? := fun B off e => hblk B (k3 B off e).2 (h.larr.ne k2 B off e)
      exact ⟨k1.of_block hb, k2.of_block hb, fun B off e => ⟨(k3 B off e).1, Nat.lt_of_lt_of_le (k3 B off e).2 hsz⟩⟩
    by_cases hjq : j = q
    · subst hjq
      rw [hr] at hr'
      injection hr' with hr'
      subst hr'
      exact key r.ao _ hi htb hlie
    · obtain ⟨k1, k2, k3⟩ := h.done j r' (by omega) hr'
      exact key r'.ao _ k1 k2 k3
  · intro j v hv
    by_cases hjq : j < lg.length
    · rw [List.getElem?_append_left hjq] at hv
      obtain ⟨r', g', c', e1, e2, e3, e4, e5, e6⟩ := h.lown j v hv
      have hb : ∀ B off, some (⟨g', 0, none⟩ : Addr) = some ⟨B, off, none⟩ → w'.heap[B]? = w.heap[B]? := fun B off e => by
        have e' := e
        injection e with e; injection e with e _; subst e
        exact hblk g' e5 (h.larr.ne e4 g' off e')
      exact ⟨r', g', c', e1, e2, e3.of_block hb, e4.of_block hb, Nat.lt_of_lt_of_le e5 hsz, fun i r'' hi' hr'' => e6 i r'' (by omega) hr''⟩
    · have hl := (List.getElem?_eq_some_iff.1 hv).1
      simp at hl
      obtain rfl : j = lg.length := by omega
      rw [List.getElem?_append_right (Nat.le_refl _), Nat.sub_self] at hv
      simp at hv
      have hb : ∀ B off, some (⟨g, 0, none⟩ : Addr) = some ⟨B, off, none⟩ → w'.heap[B]? = w.heap[B]? := fun B off e => by
        have e' := e
        injection e with e; injection e with e _; subst e
        exact hblk g hgl (h.larr.ne hgt g off e')
      rw [hq]
      exact ⟨r, g, c, hr, hv.symm, hg.of_block hb, hgt.of_block hb, Nat.lt_of_lt_of_le hgl hsz, hgn⟩
  · intro g' e e2
    rcases hao with e3 | e3
    · exact h.sepA g' (by rw [← e3]; exact e) e2
    · rw [e3] at e
      injection e with e; injection e with e _
      have := (h.arr.lies g' 0 e2).2.2
      omega

theorem wpList_append_just {T e size bytes : Nat} {z : Value} (E : ElT T e size bytes z) {ops : Array Oper} {rest : List Oper} {o : Oper} {a : Act} {w : World} {Q : Exit → Act → World → Prop} (hgd : o.guard = none) (s x : Operand)
    (ho : o.op = .call { callee := .builtin .append, args := #[s, x], argTypes := #[T, T] })
    (N : Nat) (a0 : World) (aoD : Option Addr) (nD capD : Nat) (vs : List Value) (hs : a.eval s = .slice aoD nD capD) (hown : w.ownsRow N e size (.slice aoD nD capD) nD vs) (hN : N ≤ w.heap.size) (hbel : Below N a0 w)
    (B off n cap : Nat) (news : List Value) (hx : a.eval x = .slice (some ⟨B, off, none⟩) n cap) (hn : news.length = n * size) (hc : ∀ j u, news[j]? = some u → w.cell? ⟨B, off + j, none⟩ = some u) (hn0 : 0 < n) (h1 : ∀ u ∈ news, u.oneCell' = true) (hm : nD + n ≤ maxLen) (hl : (nD + n) * bytes ≤ 140737488355328)
    (h : ∀ ao' cap' w', w'.ownsRow N e size (.slice ao' (nD + n) cap') (nD + n) (vs ++ news) → Below N a0 w' → w.heap.size ≤ w'.heap.size → (∀ k, k < w.heap.size → (∀ g, aoD = some ⟨g, 0, none⟩ → k ≠ g) → w'.heap[k]? = w.heap[k]?) → (ao' = aoD ∨ (ao' = some ⟨w.heap.size, 0, none⟩ ∧ Below w.heap.size w w' ∧ w.heap.size < w'.heap.size)) → wpList Tryd.prog ops Q rest (a.put o.dst (.slice ao' (nD + n) cap')) w') : wpList Tryd.prog ops Q (o :: rest) a w := by
  refine wpList_plain hgd fun K hK => ?_
  obtain ⟨ao', cap', w', hrun, h2, h3, h4, h5⟩ := run_append_gen E N a0 w o.type aoD nD capD vs hown hN hbel (some ⟨B, off, none⟩) n cap news hn (.inr ⟨B, off, rfl, hc⟩) h1 (by simp) hm hl
  have hwh := append_where E N w o.type aoD nD capD vs hown ⟨B, off, none⟩ n cap news hn (fun j u hu => by rw [Addr.add_mid]; exact hc j u hu) h1 hn0 hm hl ao' _ cap' w' hrun
  unfold Oper.wp execOp
  simp only [ho, resolve, invoke, builtin, Sem.run_bind, Sem.run_pure, Result.andThen_ok, List.map_toArray, List.map_cons, List.map_nil, hs, hx, hrun]
  exact hK _ _ (h ao' cap' w' h2 h3 h4 h5 (hwh.imp (·.1) id))

theorem el_rows : ElT 32 23 1 24 (.slice none 0 0) := ⟨Tryd.underlying32, by kernel_rfl, rfl, by omega⟩

/-- What stands while a row is grown: t bytes are behind it. -/
structure Grow (N : Nat) (r : Gr) (q : Nat) (W0 : World) (t : Nat) (ao : Option Addr) (c : Nat) (w : World) : Prop where
  own : Own N w (.slice ao (r.n + t) c) (List.replicate (r.n + t) (mrk q))
  isb : IsB w r.ao (List.replicate r.n (mrk q))
  tb : TB w r.ao
  pl : ao = r.ao ∨ ∃ g, ao = some ⟨g, 0, none⟩ ∧ W0.heap.size ≤ g
  chg : Chg N r.ao W0 w
theorem isB_rep {w : World} {ao : Option Addr} {k n : Nat} {m : By} (h : IsB w ao (List.replicate k m)) (hn : n ≤ k) : IsB w ao (List.replicate n m) := by
  have := isB_take h n
  rw [List.take_replicate, Nat.min_eq_left hn] at this
  exact this
theorem Grow.step {N : Nat} {r : Gr} {q : Nat} {W0 : World} {t : Nat} {ao : Option Addr} {c : Nat} {w w' : World} {o : Obj} {ao' : Option Addr} {c' : Nat} (h : Grow N r q W0 t ao c w) (hlie : ∀ B off, r.ao = some ⟨B, off, none⟩ → off = 0 ∧ B < W0.heap.size)
    (h1 : Own N w' (.slice ao' (r.n + t + 1) c') (List.replicate (r.n + t + 1) (mrk q))) (h2 : Below N (w.alloc o) w') (h3 : ∀ k, k < (w.alloc o).heap.size → ao ≠ some ⟨k, 0, none⟩ → w'.heap[k]? = (w.alloc o).heap[k]?) (h4 : ao' = ao ∨ (ao' = some ⟨(w.alloc o).heap.size, 0, none⟩ ∧ Below (w.alloc o).heap.size (w.alloc o) w')) :
    Grow N r q W0 (t + 1) ao' c' w' := by
  have hz : (w.alloc o).heap.size = w.heap.size + 1 := by simp
  have hW := h.chg.size
  have hal : ∀ k, k < w.heap.size → (w.alloc o).heap[k]? = w.heap[k]? := fun k hk => Below.heap_alloc w o k hk
  have hblk : ∀ k, k < W0.heap.size → r.ao ≠ some ⟨k, 0, none⟩ → w'.heap[k]? = w.heap[k]? := by
    intro k hk hne
    refine (h3 k (by omega) ?_).trans (hal k (by omega))
    rcases h.pl with e | ⟨g, e, hg⟩
    · rw [e]; exact hne
    · rw [e]; intro e2; injection e2 with e2; injection e2 with e2 _; omega
  have hrow : IsB w' r.ao (List.replicate r.n (mrk q)) ∧ TB w' r.ao := by
    by_cases he : ao' = r.ao
    · rw [← he]
      exact ⟨isB_rep (own_IsB h1) (by omega), h1.tb⟩
    · have hb : ∀ B off, r.ao = some ⟨B, off, none⟩ → w'.heap[B]? = w.heap[B]? := by
        intro B off e
        obtain ⟨rfl, hlt⟩ := hlie B off e
        rcases h4 with e4 | ⟨_, hbl⟩
        · refine (h3 B (by omega) (fun e5 => he ?_)).trans (hal B (by omega))
          rw [e4, e5, e]
        · exact (hbl.block B (by omega)).trans (hal B (by omega))
      exact ⟨h.isb.of_block hb, h.tb.of_block hb⟩
  refine ⟨h1, hrow.1, hrow.2, ?_, ⟨h.chg.bel.trans ((((Below.refl N w).alloc h.own.2 o)).trans h2), fun k hk hne => (hblk k hk hne).trans (h.chg.blk k hk hne)⟩⟩
  rcases h4 with e | ⟨e, _⟩
  · rw [e]; exact h.pl
  · exact .inr ⟨_, e, by omega⟩
end Go.Proofs.YtnpbgfnahkmhoaaDoor


/-! grown: the walk. -/
namespace Go.Proofs.YtnpbgfnahkmhoaaDoor
open Go.RowKit

theorem chg_set {N : Nat} {w0 w : World} {g k : Nat} {v : Value} (h : Chg N (some ⟨g, 0, none⟩) w0 w) (hg : N ≤ g) : Chg N (some ⟨g, 0, none⟩) w0 (w.setCell ⟨g, k, none⟩ v) := by
  have sb := SameBut.setCell g k v w
  refine ⟨sb.below h.bel hg, fun j hj hne => (sb.block j (fun e => hne (by rw [e]))).trans (h.blk j hj hne)⟩
theorem set_rep (xs : List By) (k : Nat) (m : By) (hk : k < xs.length) (h : xs.take k = List.replicate k m) : (xs.set k m).take (k + 1) = List.replicate (k + 1) m := by
  rw [List.take_set, List.take_add_one, List.getElem?_eq_getElem hk, h, List.set_append_right _ _ (by simp), List.length_replicate, Nat.sub_self, List.replicate_succ']
  rfl

theorem mrk_nat (q : Nat) (h : q ≤ 200) : ((mrk q).toNat : Int) = (q : Int) + 1 := by
  unfold mrk; rw [BitVec.toNat_ofNat]; omega

set_option maxHeartbeats 4000000 in
set_option maxRecDepth 100000 in
theorem grown_any (rs : List Gr) (aoL : Option Addr) (cL N L : Nat) (hL : rs.length = L) (w : World) (harr : OwnS 0 w aoL cL (rs.map Gr.val)) (hN0 : N ≤ w.heap.size) (hown : ∀ (j : Nat) (r : Gr), rs[j]? = some r → ∃ xs, Own N w r.val xs) (hsep : SepR rs) (hn : ∀ r ∈ rs, r.n ≤ 140737488352000) (hL2 : L ≤ 100) :
    Calls Tryd.prog 23 #[.slice aoL L cL] w fun e w' => e = .returned (.bool true) ∧ Below N w w' := by
  have HL : Hid (rs.length = L) := hL
  have HSEP : Hid (SepR rs) := hsep
  have HNN : Hid (∀ r ∈ rs, r.n ≤ 140737488352000) := hn
  have G0 : GRest N rs aoL cL 0 (w.alloc (.cells #[] 23)) (some ⟨w.heap.size, 0, none⟩) 0 [] ∧ ∀ r, rs[0]? = some r → ∃ xs, Own N (w.alloc (.cells #[] 23)) r.val xs := by
    have al := (Below.refl w.heap.size w).alloc (Nat.le_refl _) (.cells #[] 23)
    have hz : (w.alloc (.cells #[] 23)).heap.size = w.heap.size + 1 := by simp
    have hN := hN0
    refine ⟨⟨harr.of_block (Nat.zero_le _) fun B e => al.block B (harr.lies B 0 e).2.2, fun j r _ hr => ?_, fun j r hj => by omega, fun j v hv => by simp at hv, ⟨⟨by simp, .inr ⟨w.heap.size, 0, #[], rfl, hN, heap_alloc_new w _, by simp, by unfold maxLen; omega, by simp, by simp⟩⟩, by omega⟩, fun g e e2 => ?_⟩, fun r hr => ?_⟩
    · obtain ⟨xs, hx⟩ := hown j r hr
      exact ⟨xs, hx.keep al⟩
    · injection e with e; injection e with e _
      have := (harr.lies g 0 e2).2.2
      omega
    · obtain ⟨xs, hx⟩ := hown 0 r hr
      exact ⟨xs, hx.keep al⟩
  have B0 : Below N w (w.alloc (.cells #[] 23)) := (Below.refl N w).alloc hN0 _
  clear harr hown hsep hn hL
  go_enter Tryd.func23, Tryd.ntmps23
  go_wp2
  go_loopw [3, 13] (fun lv i wr => ∃ (q cG : Nat) (aoG : Option Addr) (lg : List Value), q ≤ L ∧ i = .int .i64 q ∧ lv = .slice aoG q cG ∧ Hid (lg.length = q) ∧ Hid (GRest N rs aoL cL q wr aoG cG lg ∧ ∀ r, rs[q]? = some r → ∃ xs, Own N wr r.val xs) ∧ Below N w wr) (fun _ i _ => L - (intOf i).toNat)
  case atStart => exact ⟨0, 0, _, [], by omega, rfl, rfl, rfl, G0, B0⟩
  case round =>
    clear G0 B0
    obtain ⟨q, cG, aoG, lg, hq, rfl, rfl, HQ, HG, bbl⟩ := hrel
    obtain ⟨W0, hW0⟩ : ∃ W0 : World, W0 = wr := ⟨_, rfl⟩
    subst hW0
    by_cases hlt : q < L
    · have i1 : (q : Int) < (L : Int) := by omega
      have i0 : (0 : Int) ≤ (q : Int) := by omega
      have hlt' : q < rs.length := by rw [HL.out]; exact hlt
      obtain ⟨r, hr⟩ : ∃ r, rs[q]? = some r := ⟨_, List.getElem?_eq_getElem hlt'⟩
      obtain ⟨gL, eL, cellL⟩ := HG.out.1.arr.at q (by rw [List.length_map]; exact hlt')
      rw [List.getElem_map, (List.getElem?_eq_some_iff.1 hr).2] at cellL
      rw [Gr.val] at cellL
      subst eL
      obtain ⟨xs0, ho0⟩ := HG.out.2 r hr
      rw [Gr.val] at ho0
      have HR : Hid (rs[q]? = some r) := hr
      have hrn : r.n ≤ 140737488352000 := HNN.out r (List.mem_of_getElem? hr)
      have HLI : Hid (∀ B off, r.ao = some ⟨B, off, none⟩ → off = 0 ∧ B < W0.heap.size) := fun B off e => ⟨(ho0.lies B off e).1, (ho0.lies B off e).2.2⟩
      have HTB : Hid (TB W0 r.ao) := ho0.tb
      have hm := mrk_nat q (by omega)
      have z1 : IntKind.i64.wrap ((q : Int) + 1) = (q : Int) + 1 := i64_in _ (by omega) (by omega)
      have z2 : IntKind.u8.wrap ((q : Int) + 1) = ((mrk q).toNat : Int) := by rw [hm, IntKind.wrap_u8']; omega
      obtain ⟨rao, rn, rc⟩ := r
      simp only at cellL ho0 hrn
      clear hr
      go_wp2
      go_loopw [20] (fun i wr2 => ∃ (k : Nat) (xs : List By), k ≤ rn ∧ i = .int .i64 k ∧ Own N wr2 (.slice rao rn rc) xs ∧ Hid (xs.take k = List.replicate k (mrk q)) ∧ Chg N rao W0 wr2) (fun i _ => rn - (intOf i).toNat)
      case atStart => exact ⟨0, xs0, by omega, rfl, ho0, rfl, Chg.refl _ _ _⟩
      case round =>
        clear ho0 cellL
        obtain ⟨k, xs, hk, rfl, ho, HX, chg⟩ := hrel
        by_cases hkl : k < rn
        · have k1 : (k : Int) < (rn : Int) := by omega
          have k0 : (0 : Int) ≤ (k : Int) := by omega
          obtain ⟨g, rfl, hgN, hgs⟩ := ho.at (by omega)
          have hxl := ho.len
          have cc := ho.cell k hkl
          have ff := ho.frozen k
          have FIN : Hid (Own N (wr.setCell ⟨g, k, none⟩ (.int .u8 ((q : Int) + 1))) (.slice (some ⟨g, 0, none⟩) rn rc) (xs.set k (mrk q)) ∧ (xs.set k (mrk q)).take (k + 1) = List.replicate (k + 1) (mrk q) ∧ Chg N (some ⟨g, 0, none⟩) W0 (wr.setCell ⟨g, k, none⟩ (.int .u8 ((q : Int) + 1)))) := by
            rw [← hm]
            exact ⟨ho.set k (mrk q), set_rep xs k _ (by omega) HX.out, chg_set chg hgN⟩
          generalize (xs.getD k 0).toNat = OL at *
          clear ho HX chg hxl hm z2
          go_wp2
          obtain ⟨f1, f2, f3⟩ := FIN.out
          exact ⟨⟨k + 1, _, by omega, by go_num, f1, f2, f3⟩, by simp [intOf]; omega⟩
        · obtain rfl : k = rn := by omega
          have hxe : xs = List.replicate k (mrk q) := by
            have := HX.out
            rwa [List.take_of_length_le (by rw [ho.len]; exact Nat.le_refl _)] at this
          subst hxe
          have GW : Hid (Grow N ⟨rao, k, rc⟩ q W0 0 rao rc wr) := ⟨ho, own_IsB ho, ho.tb, .inl rfl, chg⟩
          clear hkl HX ho chg
          go_wp2
          go_loopw [5, 7] (fun b i wr3 => ∃ (t c : Nat) (ao : Option Addr), t ≤ 70 ∧ i = .int .i64 t ∧ b = .slice ao (k + t) c ∧ Hid (Grow N ⟨rao, k, rc⟩ q W0 t ao c wr3)) (fun _ i _ => 70 - (intOf i).toNat)
          case atStart => exact ⟨0, rc, rao, by omega, rfl, rfl, GW⟩
          case round =>
            clear GW
            obtain ⟨t, c, ao, ht, rfl, rfl, GW⟩ := hrel
            by_cases htl : t < 70
            · have t1 : (t : Int) < 70 := by omega
              have rowB : Row (wr.alloc (.cells #[.int .u8 ((q : Int) + 1)] 5)) wr.heap.size 5 [.int .u8 ((q : Int) + 1)] := Row.at _ _ _ _ _ rfl rfl
              have ho := GW.out.own.keep ((Below.refl wr.heap.size wr).alloc (Nat.le_refl _) (.cells #[.int .u8 ((q : Int) + 1)] 5))
              have hor : (wr.alloc (.cells #[.int .u8 ((q : Int) + 1)] 5)).ownsRow N 5 1 (.slice ao (k + t) c) (k + t) ((List.replicate (k + t) (mrk q)).map B8) := by have := ho.1; rwa [List.length_replicate] at this
              have ELB : ElT 23 5 1 1 (.int .u8 0) := ⟨Tryd.underlying23, by kernel_rfl, rfl, by omega⟩
              have hB8 : B8 (mrk q) = .int .u8 ((q : Int) + 1) := by unfold B8; rw [hm]
              go_wp2_with (at_builtin; refine wpList_append_just ELB rfl (.tmp 34) (.tmp 38) rfl N (wr.alloc (.cells #[.int .u8 ((q : Int) + 1)] 5)) ao (k + t) c _ rfl hor ho.2 (Below.refl _ _) wr.heap.size 0 1 1 [.int .u8 ((q : Int) + 1)] rfl rfl (fun j u hu => by rw [Nat.zero_add]; exact rowB.cell j u hu) (by omega) (by intro u hu; simp at hu; subst hu; rfl) (by unfold maxLen; omega) (by omega) ?_; intro ao' c' w' q1 q2 q3 q4 q5)
              have hown' : Own N w' (.slice ao' (k + t + 1) c') (List.replicate (k + t + 1) (mrk q)) := by
                refine ⟨?_, Nat.le_trans ho.2 q3⟩
                rw [List.length_replicate, List.replicate_succ', List.map_append, List.map_cons, List.map_nil, hB8]
                exact q1
              have GN := GW.out.step HLI.out hown' q2 (fun j hj hne => q4 j hj (fun g e e2 => hne (by rw [e, e2]))) (q5.imp id (fun h => ⟨h.1, h.2.1⟩))
              exact ⟨⟨t + 1, c', ao', by omega, by go_num, rfl, GN⟩, by simp [intOf]; omega⟩
            · obtain rfl : t = 70 := by omega
              obtain ⟨gq, hgq, _, hgqs⟩ := GW.out.own.at (by omega)
              subst hgq
              have GR := HG.out.1.chg HSEP.out _ HR.out HTB.out GW.out.chg
              have al := (Below.refl wr.heap.size wr).alloc (Nat.le_refl _) (.cells #[.slice (some ⟨gq, 0, none⟩) (k + 70) c] 23)
              have CA : Chg N rao wr (wr.alloc (.cells #[.slice (some ⟨gq, 0, none⟩) (k + 70) c] 23)) := ⟨al.mono GW.out.own.2, fun j hj _ => al.block j hj⟩
              have GR2 := GR.chg HSEP.out _ HR.out GW.out.tb CA
              have rowB : Row (wr.alloc (.cells #[.slice (some ⟨gq, 0, none⟩) (k + 70) c] 23)) wr.heap.size 23 [.slice (some ⟨gq, 0, none⟩) (k + 70) c] := Row.at _ _ _ _ _ rfl rfl
              have hlo := GR2.larr.1
              rw [HQ.out] at hlo
              have hLL : q ≤ 100 := by omega
              have GT := GW.out
              have HTD : Hid (∀ (i : Nat) (r' : Gr), q < i → rs[i]? = some r' → ∃ xs, Own N W0 r'.val xs) := HG.out.1.todo
              have bbW : Below N w wr := bbl.trans GT.chg.bel
              clear htl ht HG GW GR CA
              go_wp2_with (at_builtin; refine wpList_append_just el_rows rfl (.tmp 40) (.tmp 42) rfl N (wr.alloc (.cells #[.slice (some ⟨gq, 0, none⟩) (k + 70) c] 23)) aoG q cG lg rfl hlo GR2.larr.2 (Below.refl _ _) wr.heap.size 0 1 1 [.slice (some ⟨gq, 0, none⟩) (k + 70) c] rfl rfl (fun j u hu => by rw [Nat.zero_add]; exact rowB.cell j u hu) (by omega) (by intro u hu; simp at hu; subst hu; rfl) (by unfold maxLen; omega) (by omega) ?_; intro ao' c' w' q1 q2 q3 q4 q5)
              have key : Hid (GRest N rs (some ⟨gL, 0, none⟩) cL (q + 1) w' ao' c' (lg ++ [.slice (some ⟨gq, 0, none⟩) (k + 70) c]) ∧ ∀ r', rs[q + 1]? = some r' → ∃ xs, Own N w' r'.val xs) := by
                have hz : (wr.alloc (.cells #[.slice (some ⟨gq, 0, none⟩) (k + 70) c] 23)).heap.size = wr.heap.size + 1 := by simp
                have fb : ∀ (ao : Option Addr), (∀ B off, ao = some ⟨B, off, none⟩ → B < wr.heap.size) → ∀ B off, ao = some ⟨B, off, none⟩ → (wr.alloc (.cells #[.slice (some ⟨gq, 0, none⟩) (k + 70) c] 23)).heap[B]? = wr.heap[B]? := fun ao h B off e => al.block B (h B off e)
                have f1 : ∀ B off, rao = some ⟨B, off, none⟩ → B < wr.heap.size := fun B off e => Nat.lt_of_lt_of_le (HLI.out B off e).2 GT.chg.size
                have f2 : ∀ B off, some (⟨gq, 0, none⟩ : Addr) = some ⟨B, off, none⟩ → B < wr.heap.size := fun B off e => by injection e with e; injection e with e _; omega
                refine GR2.push HQ.out ⟨rao, k, rc⟩ HR.out (GT.isb.of_block (fb rao f1)) (GT.tb.of_block (fb rao f1)) (fun B off e => ⟨(HLI.out B off e).1, by have := f1 B off e; omega⟩) gq c ((own_IsB GT.own).of_block (fb _ f2)) (GT.own.tb.of_block (fb _ f2)) (by omega) ?_ ⟨?_, by have := GR2.larr.2; omega⟩ q3 (fun j hj hne => q4 j hj (fun g e e2 => hne (by rw [e, e2]))) (q5.imp id (·.1))
                · intro i r' hi hr' e
                  rcases GT.pl with e2 | ⟨g', e2, hg'⟩
                  · have := HSEP.out q i _ r' gq HR.out hr' e2.symm e
                    omega
                  · injection e2 with e2; injection e2 with e2 _
                    subst e2
                    obtain ⟨xs, hx⟩ := HTD.out i r' (by omega) hr'
                    have := (hx.lies gq 0 e).2.2
                    omega
                · have hl1 : (lg ++ [Value.slice (some ⟨gq, 0, none⟩) (k + 70) c]).length = q + 1 := by rw [List.length_append, HQ.out]; rfl
                  rw [hl1]; exact q1
              have hl1 : Hid ((lg ++ [Value.slice (some ⟨gq, 0, none⟩) (k + 70) c]).length = q + 1) := by show _ = _; rw [List.length_append, HQ.out]; rfl
              have bbF : Below N w w' := bbW.trans ((al.mono GT.own.2).trans q2)
              exact ⟨⟨q + 1, c', ao', _, by omega, by go_num, rfl, hl1, key, bbF⟩, by simp [intOf]; omega⟩
    · obtain rfl : q = L := by omega
      have i1 : ¬ (q : Int) < (q : Int) := by omega
      have GR := HG.out.1
      have HGR : Hid (GRest N rs aoL cL q W0 aoG cG lg) := HG.out.1
      clear hlt HG GR
      go_wp2
      go_loopw [47] (fun i wr4 => ∃ p : Nat, p ≤ q ∧ i = .int .i64 p ∧ wr4 = W0) (fun i _ => q - (intOf i).toNat)
      case atStart => exact ⟨0, by omega, rfl, rfl⟩
      case round =>
        obtain ⟨p, hp, rfl, rfl⟩ := hrel
        by_cases hpl : p < q
        · have p1 : (p : Int) < (q : Int) := by omega
          have p0 : (0 : Int) ≤ (p : Int) := by omega
          obtain ⟨gG, eG, cG'⟩ := HGR.out.larr.at p (by rw [HQ.out]; exact hpl)
          obtain ⟨r, g, c, e1, e2, e3, e4⟩ := HGR.out.lown p _ (List.getElem?_eq_getElem (by rw [HQ.out]; exact hpl))
          rw [e2] at cG'
          obtain ⟨gL, eL, cellL⟩ := HGR.out.arr.at p (by rw [List.length_map, HL.out]; exact hpl)
          rw [List.getElem_map, (List.getElem?_eq_some_iff.1 e1).2, Gr.val] at cellL
          obtain ⟨k1, k2, k3⟩ := HGR.out.done p r hpl e1
          have hrn : r.n ≤ 140737488352000 := HNN.out r (List.mem_of_getElem? e1)
          subst eG eL
          obtain ⟨rao, rn, rc⟩ := r
          simp only at cG' cellL e3 k1 k3 hrn
          have hm := mrk_nat p (by omega)
          have z1 : IntKind.i64.wrap ((p : Int) + 1) = (p : Int) + 1 := i64_in _ (by omega) (by omega)
          have CB : Hid (∀ t, t < rn + 70 → wr.cell? ⟨g, t, none⟩ = some (.int .u8 ((p : Int) + 1))) := fun t ht => by
            rcases e3 with h | ⟨B, off, h1, h2⟩
            · simp at h
            · injection h1 with h1; injection h1 with h1 h3; subst h1 h3
              have := h2 t (mrk p) (by rw [List.getElem?_replicate, if_pos ht])
              rw [Nat.zero_add] at this
              rw [this]; unfold B8; rw [hm]
          have CR : Hid (∀ t, t < rn → ∃ B, rao = some ⟨B, 0, none⟩ ∧ wr.cell? ⟨B, t, none⟩ = some (.int .u8 ((p : Int) + 1))) := fun t ht => by
            rcases k1 with h | ⟨B, off, h1, h2⟩
            · simp at h; omega
            · obtain ⟨rfl, _⟩ := k3 B off h1
              refine ⟨B, h1, ?_⟩
              have h3 := h2 t (mrk p) (by rw [List.getElem?_replicate, if_pos ht])
              rw [Nat.zero_add] at h3
              rw [h3]; unfold B8; rw [hm]
          clear e1 e2 e3 e4 k1 k2 k3 HGR hm
          go_wp2
          go_loopw [55] (fun i wr5 => ∃ t : Nat, t ≤ rn + 70 ∧ i = .int .i64 t ∧ wr5 = wr) (fun i _ => rn + 70 - (intOf i).toNat)
          case atStart => exact ⟨0, by omega, rfl, rfl⟩
          case round =>
            obtain ⟨t, ht, rfl, rfl⟩ := hrel
            by_cases htl : t < rn + 70
            · have t1 : (t : Int) < (rn : Int) + 70 := by omega
              have t0 : (0 : Int) ≤ (t : Int) := by omega
              have cb := CB.out t htl
              by_cases htr : t < rn
              · have t2 : (t : Int) < (rn : Int) := by omega
                obtain ⟨B, rfl, cr⟩ := CR.out t htr
                go_wp2
                exact ⟨⟨t + 1, by omega, by go_num, (by first | trivial | rfl)⟩, by simp [intOf]; omega⟩
              · have t2 : ¬ (t : Int) < (rn : Int) := by omega
                go_wp2
                exact ⟨⟨t + 1, by omega, by go_num, (by first | trivial | rfl)⟩, by simp [intOf]; omega⟩
            · obtain rfl : t = rn + 70 := by omega
              have t1 : ¬ (((rn + 70 : Nat) : Int) < (rn : Int) + 70) := by omega
              go_wp2
              exact ⟨⟨p + 1, by omega, by go_num, (by first | trivial | rfl)⟩, by simp [intOf]; omega⟩
        · obtain rfl : p = q := by omega
          have p1 : ¬ (p : Int) < (p : Int) := by omega
          go_wp2
          go_ret
          exact ⟨rfl, bbl⟩
end Go.Proofs.YtnpbgfnahkmhoaaDoor
