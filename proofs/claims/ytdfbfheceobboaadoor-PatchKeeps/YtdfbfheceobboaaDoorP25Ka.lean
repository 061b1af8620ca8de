
import Derived.Test.YtdfbfheceobboaaDoorP25Laid
import Derived.Test.YtdfbfheceobboaaDoorI11Mem
/-! PatchKeeps: rows of their owner's, written over and grown: what lies where. -/
namespace Go.Proofs.YtdfbfheceobboaaDoor
open Go.RowKit
set_option linter.unusedVariables false
set_option linter.unusedSimpArgs false
set_option maxRecDepth 100000

theorem isB_take {w : World} {ao : Option Addr} {b : List By} (h : IsB w ao b) (k : Nat) : IsB w ao (b.take k) := by
  rcases h with rfl | ⟨B, off, rfl, hc⟩
  · left; simp
  · right
    refine ⟨B, off, rfl, fun j v hj => hc j v ?_⟩
    rw [List.getElem?_take] at hj
    split at hj
    · exact hj
    · cases hj
/-- A row of the list: where it lies. -/
structure Gr where
  ao : Option Addr
  n : Nat
  c : Nat
def Gr.val (r : Gr) : Value := .slice r.ao r.n r.c
/-- The mark of a place. -/
def mrk (j : Nat) : By := BitVec.ofNat 8 (j + 1)
/-- The block that a slice lies in holds bytes. -/
def TB (w : World) (ao : Option Addr) : Prop := ∀ B off, ao = some ⟨B, off, none⟩ → ∃ cur fz, w.heap[B]? = some (.cells cur 5 fz)

theorem IsB.of_block {w w' : World} {ao : Option Addr} {m : List By} (h : IsB w ao m) (hb : ∀ B off, ao = some ⟨B, off, none⟩ → w'.heap[B]? = w.heap[B]?) : IsB w' ao m := by
  rcases h with h | ⟨B, off, h1, h2⟩
  · exact .inl h
  · exact .inr ⟨B, off, h1, fun j v hj => (World.cell?_of_block (w := w) (hb B off h1)).trans (h2 j v hj)⟩
theorem TB.of_block {w w' : World} {ao : Option Addr} (h : TB w ao) (hb : ∀ B off, ao = some ⟨B, off, none⟩ → w'.heap[B]? = w.heap[B]?) : TB w' ao := by
  intro B off e
  obtain ⟨cur, fz, h1⟩ := h B off e
  exact ⟨cur, fz, (hb B off e).trans h1⟩
theorem Own.tb {N : Nat} {w : World} {ao : Option Addr} {n c : Nat} {m : List By} (h : Own N w (.slice ao n c) m) : TB w ao := by
  intro B off e
  rcases h.1.2 with ⟨e1, _⟩ | ⟨g, cap, cur, e1, _, h3, _⟩
  · injection e1 with e1; rw [e] at e1; cases e1
  · injection e1 with e1; rw [e] at e1; injection e1 with e1; injection e1 with e1; subst e1
    exact ⟨cur, _, h3⟩
/-- Where an own slice lies. -/
theorem Own.lies {N : Nat} {w : World} {ao : Option Addr} {n c : Nat} {m : List By} (h : Own N w (.slice ao n c) m) : ∀ B off, ao = some ⟨B, off, none⟩ → off = 0 ∧ N ≤ B ∧ B < w.heap.size := by
  intro B off e
  rcases h.1.2 with ⟨e1, _⟩ | ⟨g, cap, cur, e1, h2, h3, _⟩
  · injection e1 with e1; rw [e] at e1; cases e1
  · injection e1 with e1; rw [e] at e1; injection e1 with e1; injection e1 with e1 e2; subst e1 e2
    exact ⟨rfl, h2, (Array.getElem?_eq_some_iff.1 h3).1⟩
theorem Own.of_block {N : Nat} {w w' : World} {ao : Option Addr} {n c : Nat} {m : List By} (h : Own N w (.slice ao n c) m) (hs : N ≤ w'.heap.size) (hb : ∀ B off, ao = some ⟨B, off, none⟩ → w'.heap[B]? = w.heap[B]?) : Own N w' (.slice ao n c) m := by
  refine ⟨⟨h.1.1, ?_⟩, hs⟩
  rcases h.1.2 with h1 | ⟨g, cap, cur, e, h2, h3, h4⟩
  · exact .inl h1
  · refine .inr ⟨g, cap, cur, e, h2, (hb g 0 ?_).trans h3, h4⟩
    injection e
/-- A row of slices. -/
def OwnS (N : Nat) (w : World) (ao : Option Addr) (c : Nat) (vs : List Value) : Prop := w.ownsRow N 22 1 (.slice ao vs.length c) vs.length vs ∧ N ≤ w.heap.size
theorem OwnS.of_block {N : Nat} {w w' : World} {ao : Option Addr} {c : Nat} {vs : List Value} (h : OwnS N w ao c vs) (hs : N ≤ w'.heap.size) (hb : ∀ B, ao = some ⟨B, 0, none⟩ → w'.heap[B]? = w.heap[B]?) : OwnS N w' ao c vs := by
  refine ⟨⟨h.1.1, ?_⟩, hs⟩
  rcases h.1.2 with h1 | ⟨g, cap, cur, e, h2, h3, h4⟩
  · exact .inl h1
  · refine .inr ⟨g, cap, cur, e, h2, (hb g ?_).trans h3, h4⟩
    injection e
/-- A block of slices is none of bytes. -/
theorem OwnS.ne {N : Nat} {w : World} {ao bo : Option Addr} {c : Nat} {vs : List Value} (h : OwnS N w ao c vs) (hb : TB w bo) : ∀ B off, bo = some ⟨B, off, none⟩ → ao ≠ some ⟨B, 0, none⟩ := by
  intro B off e e2
  obtain ⟨cur, fz, h1⟩ := hb B off e
  rcases h.1.2 with ⟨e1, _⟩ | ⟨g, cap, cur', e1, _, h3, _⟩
  · injection e1 with e1; rw [e2] at e1; cases e1
  · injection e1 with e1; rw [e2] at e1; injection e1 with e1; injection e1 with e1; subst e1
    rw [h1] at h3
    injection h3 with h3
    injection h3 with h3 h4
    exact absurd h4 (by decide)
theorem OwnS.lies {N : Nat} {w : World} {ao : Option Addr} {c : Nat} {vs : List Value} (h : OwnS N w ao c vs) : ∀ B off, ao = some ⟨B, off, none⟩ → off = 0 ∧ N ≤ B ∧ B < w.heap.size := by
  intro B off e
  rcases h.1.2 with ⟨e1, _⟩ | ⟨g, cap, cur, e1, h2, h3, _⟩
  · injection e1 with e1; rw [e] at e1; cases e1
  · injection e1 with e1; rw [e] at e1; injection e1 with e1; injection e1 with e1 e2; subst e1 e2
    exact ⟨rfl, h2, (Array.getElem?_eq_some_iff.1 h3).1⟩
theorem OwnS.at {N : Nat} {w : World} {ao : Option Addr} {c : Nat} {vs : List Value} (h : OwnS N w ao c vs) (j : Nat) (hj : j < vs.length) : ∃ g, ao = some ⟨g, 0, none⟩ ∧ w.cell? ⟨g, j, none⟩ = some vs[j] := by
  rcases h.1.2 with ⟨e1, e2⟩ | ⟨g, cap, cur, e1, h2, h3, h4, _⟩
  · omega
  · injection e1 with e1 _ e3
    subst e1 e3
    exact ⟨g, rfl, by rw [h.1.cellAt j (by omega), List.getElem?_eq_getElem hj]⟩

theorem OwnS.zero {N : Nat} {w : World} {ao : Option Addr} {c : Nat} {vs : List Value} (h : OwnS N w ao c vs) : OwnS 0 w ao c vs := by
  refine ⟨⟨h.1.1, ?_⟩, Nat.zero_le _⟩
  rcases h.1.2 with h1 | ⟨g, cap, cur, e, h2, h3⟩
  · exact .inl h1
  · exact .inr ⟨g, cap, cur, e, Nat.zero_le _, h3⟩
theorem own_raise {N N' : Nat} {w : World} {ao : Option Addr} {n c : Nat} {m : List By} (h : Own N w (.slice ao n c) m) (hb : ∀ B off, ao = some ⟨B, off, none⟩ → N' ≤ B) (hs : N' ≤ w.heap.size) : Own N' w (.slice ao n c) m := by
  refine ⟨⟨h.1.1, ?_⟩, hs⟩
  rcases h.1.2 with h1 | ⟨g, cap, cur, e, h2, h3⟩
  · exact .inl h1
  · refine .inr ⟨g, cap, cur, e, hb g 0 ?_, h3⟩
    injection e
/-- What a round changes: the block of its row, and new ones. -/
structure Chg (N : Nat) (gq : Option Addr) (w w' : World) : Prop where
  bel : Below N w w'
  blk : ∀ k, k < w.heap.size → gq ≠ some ⟨k, 0, none⟩ → w'.heap[k]? = w.heap[k]?
theorem Chg.refl (N : Nat) (gq : Option Addr) (w : World) : Chg N gq w w := ⟨Below.refl _ _, fun _ _ _ => rfl⟩
theorem Chg.size {N : Nat} {gq : Option Addr} {w w' : World} (h : Chg N gq w w') : w.heap.size ≤ w'.heap.size := h.bel.size

/-- What stands but for the row q: the rows behind it as they are, those ahead of it marked, and grown. -/
structure GRest (N : Nat) (rs : List Gr) (aoL : Option Addr) (cL q : Nat) (w : World) (aoG : Option Addr) (cG : Nat) (lg : List Value) : Prop where
  arr : OwnS 0 w aoL cL (rs.map Gr.val)
  todo : ∀ j r, q < j → rs[j]? = some r → ∃ xs, Own N w r.val xs
  done : ∀ j r, j < q → rs[j]? = some r → IsB w r.ao (List.replicate r.n (mrk j)) ∧ TB w r.ao ∧ ∀ B off, r.ao = some ⟨B, off, none⟩ → off = 0 ∧ B < w.heap.size
  lown : ∀ j v, lg[j]? = some v → ∃ r g c, rs[j]? = some r ∧ v = .slice (some ⟨g, 0, none⟩) (r.n + 40) c ∧ IsB w (some ⟨g, 0, none⟩) (List.replicate (r.n + 40) (mrk j)) ∧ TB w (some ⟨g, 0, none⟩) ∧ g < w.heap.size ∧ ∀ i r', q ≤ i → rs[i]? = some r' → r'.ao ≠ some ⟨g, 0, none⟩
  larr : OwnS N w aoG cG lg
  sepA : ∀ g, aoG = some ⟨g, 0, none⟩ → aoL ≠ some ⟨g, 0, none⟩
/-- No two rows of a list share a block. -/
def SepR (rs : List Gr) : Prop := ∀ (i j : Nat) (r r' : Gr) (g : Nat), rs[i]? = some r → rs[j]? = some r' → r.ao = some ⟨g, 0, none⟩ → r'.ao = some ⟨g, 0, none⟩ → i = j

theorem GRest.chg {N : Nat} {rs : List Gr} {aoL : Option Addr} {cL q : Nat} {w w' : World} {aoG : Option Addr} {cG : Nat} {lg : List Value} (h : GRest N rs aoL cL q w aoG cG lg) (hsep : SepR rs) (r : Gr) (hr : rs[q]? = some r) (htb : TB w r.ao) (hc : Chg N r.ao w w') : GRest N rs aoL cL q w' aoG cG lg := by
  have hN : N ≤ w'.heap.size := Nat.le_trans h.larr.2 hc.size
  refine ⟨h.arr.of_block (Nat.zero_le _) fun B e => hc.blk B (h.arr.lies B 0 e).2.2 (fun e2 => h.arr.ne htb B 0 e2 e), ?_, ?_, ?_, h.larr.of_block hN fun B e => hc.blk B (h.larr.lies B 0 e).2.2 (fun e2 => h.larr.ne htb B 0 e2 e), h.sepA⟩
  · intro j r' hj hr'
    obtain ⟨xs, ho⟩ := h.todo j r' hj hr'
    refine ⟨xs, ho.of_block hN fun B off e => ?_⟩
    obtain ⟨rfl, _, hlt⟩ := ho.lies B off e
    refine hc.blk B hlt (fun e2 => ?_)
    have := hsep q j r r' B hr hr' e2 e
    omega
  · intro j r' hj hr'
    obtain ⟨h1, h2, h3⟩ := h.done j r' hj hr'
    have hb : ∀ B off, r'.ao = some ⟨B, off, none⟩ → w'.heap[B]? = w.heap[B]? := fun B off e => by
      obtain ⟨rfl, hlt⟩ := h3 B off e
      refine hc.blk B hlt (fun e2 => ?_)
      have := hsep q j r r' B hr hr' e2 e
      omega
    exact ⟨h1.of_block hb, h2.of_block hb, fun B off e => ⟨(h3 B off e).1, Nat.lt_of_lt_of_le (h3 B off e).2 hc.size⟩⟩
  · intro j v hv
    obtain ⟨r', g, c, e1, e2, e3, e4, e5, e6⟩ := h.lown j v hv
    have hb : ∀ B off, some (⟨g, 0, none⟩ : Addr) = some ⟨B, off, none⟩ → w'.heap[B]? = w.heap[B]? := fun B off e => by
      injection e with e; injection e with e _; subst e
      exact hc.blk g e5 (e6 q r (Nat.le_refl _) hr)
    exact ⟨r', g, c, e1, e2, e3.of_block hb, e4.of_block hb, Nat.lt_of_lt_of_le e5 hc.size, e6⟩
theorem GRest.push {N : Nat} {rs : List Gr} {aoL : Option Addr} {cL q : Nat} {w w' : World} {aoG aoG' : Option Addr} {cG cG' : Nat} {lg : List Value} (h : GRest N rs aoL cL q w aoG cG lg) (hq : lg.length = q) (r : Gr) (hr : rs[q]? = some r)
    (hi : IsB w r.ao (List.replicate r.n (mrk q))) (htb : TB w r.ao) (hlie : ∀ B off, r.ao = some ⟨B, off, none⟩ → off = 0 ∧ B < w.heap.size) (g c : Nat) (hg : IsB w (some ⟨g, 0, none⟩) (List.replicate (r.n + 40) (mrk q))) (hgt : TB w (some ⟨g, 0, none⟩)) (hgl : g < w.heap.size)
    (hgn : ∀ i r', q + 1 ≤ i → rs[i]? = some r' → r'.ao ≠ some ⟨g, 0, none⟩) (ho : OwnS N w' aoG' cG' (lg ++ [.slice (some ⟨g, 0, none⟩) (r.n + 40) c])) (hsz : w.heap.size ≤ w'.heap.size) (hblk : ∀ k, k < w.heap.size → aoG ≠ some ⟨k, 0, none⟩ → w'.heap[k]? = w.heap[k]?) (hao : aoG' = aoG ∨ aoG' = some ⟨w.heap.size, 0, none⟩) :
    GRest N rs aoL cL (q + 1) w' aoG' cG' (lg ++ [.slice (some ⟨g, 0, none⟩) (r.n + 40) c]) ∧ ∀ r', rs[q + 1]? = some r' → ∃ xs, Own N w' r'.val xs := by
  have hN : N ≤ w'.heap.size := ho.2
  have htodo : ∀ j r', q < j → rs[j]? = some r' → ∃ xs, Own N w' r'.val xs := by
    intro j r' hj hr'
    obtain ⟨xs, hx⟩ := h.todo j r' hj hr'
    exact ⟨xs, hx.of_block hN fun B off e => hblk B (hx.lies B off e).2.2 (h.larr.ne hx.tb B off e)⟩
  refine ⟨⟨?_, fun j r' hj hr' => htodo j r' (by omega) hr', ?_, ?_, ho, ?_⟩, fun r' hr' => htodo _ r' (by omega) hr'⟩
  · exact h.arr.of_block (Nat.zero_le _) fun B e => hblk B (h.arr.lies B 0 e).2.2 (fun e2 => h.sepA B e2 e)
  · intro j r' hj hr'
    have key : ∀ (ao : Option Addr) (m : List By), IsB w ao m → TB w ao → (∀ B off, ao = some ⟨B, off, none⟩ → off = 0 ∧ B < w.heap.size) → IsB w' ao m ∧ TB w' ao ∧ ∀ B off, ao = some ⟨B, off, none⟩ → off = 0 ∧ B < w'.heap.size := by
      intro ao m k1 k2 k3
      have hb : ∀ B off, ao = some ⟨B, off, none⟩ → w'.heap[B]? = w.heap[B]? := fun B off e => hblk B (k3 B off e).2 (h.larr.ne k2 B off e)
      exact ⟨k1.of_block hb, k2.of_block hb, fun B off e => ⟨(k3 B off e).1, Nat.lt_of_lt_of_le (k3 B off e).2 hsz⟩⟩
    by_cases hjq : j = q
    · subst hjq
      rw [hr] at hr'
      injection hr' with hr'
      subst hr'
      exact key r.ao _ hi htb hlie
    · obtain ⟨k1, k2, k3⟩ := h.done j r' (by omega) hr'
      exact key r'.ao _ k1 k2 k3
  · intro j v hv
    by_cases hjq : j < lg.length
    · rw [List.getElem?_append_left hjq] at hv
      obtain ⟨r', g', c', e1, e2, e3, e4, e5, e6⟩ := h.lown j v hv
      have hb : ∀ B off, some (⟨g', 0, none⟩ : Addr) = some ⟨B, off, none⟩ → w'.heap[B]? = w.heap[B]? := fun B off e => by
        have e' := e
        injection e with e; injection e with e _; subst e
        exact hblk g' e5 (h.larr.ne e4 g' off e')
      exact ⟨r', g', c', e1, e2, e3.of_block hb, e4.of_block hb, Nat.lt_of_lt_of_le e5 hsz, fun i r'' hi' hr'' => e6 i r'' (by omega) hr''⟩
    · have hl := (List.getElem?_eq_some_iff.1 hv).1
      simp at hl
      obtain rfl : j = lg.length := by omega
      rw [List.getElem?_append_right (Nat.le_refl _), Nat.sub_self] at hv
      simp at hv
      have hb : ∀ B off, some (⟨g, 0, none⟩ : Addr) = some ⟨B, off, none⟩ → w'.heap[B]? = w.heap[B]? := fun B off e => by
        have e' := e
        injection e with e; injection e with e _; subst e
        exact hblk g hgl (h.larr.ne hgt g off e')
      rw [hq]
      exact ⟨r, g, c, hr, hv.symm, hg.of_block hb, hgt.of_block hb, Nat.lt_of_lt_of_le hgl hsz, hgn⟩
  · intro g' e e2
    rcases hao with e3 | e3
    · exact h.sepA g' (by rw [← e3]; exact e) e2
    · rw [e3] at e
      injection e with e; injection e with e _
      have := (h.arr.lies g' 0 e2).2.2
      omega

theorem wpList_append_just {T e size bytes : Nat} {z : Value} (E : ElT T e size bytes z) {ops : Array Oper} {rest : List Oper} {o : Oper} {a : Act} {w : World} {Q : Exit → Act → World → Prop} (hgd : o.guard = none) (s x : Operand)
    (ho : o.op = .call { callee := .builtin .append, args := #[s, x], argTypes := #[T, T] })
    (N : Nat) (a0 : World) (aoD : Option Addr) (nD capD : Nat) (vs : List Value) (hs : a.eval s = .slice aoD nD capD) (hown : w.ownsRow N e size (.slice aoD nD capD) nD vs) (hN : N ≤ w.heap.size) (hbel : Below N a0 w)
    (B off n cap : Nat) (news : List Value) (hx : a.eval x = .slice (some ⟨B, off, none⟩) n cap) (hn : news.length = n * size) (hc : ∀ j u, news[j]? = some u → w.cell? ⟨B, off + j, none⟩ = some u) (hn0 : 0 < n) (h1 : ∀ u ∈ news, u.oneCell' = true) (hm : nD + n ≤ maxLen) (hl : (nD + n) * bytes ≤ 140737488355328)
    (h : ∀ ao' cap' w', w'.ownsRow N e size (.slice ao' (nD + n) cap') (nD + n) (vs ++ news) → Below N a0 w' → w.heap.size ≤ w'.heap.size → (∀ k, k < w.heap.size → (∀ g, aoD = some ⟨g, 0, none⟩ → k ≠ g) → w'.heap[k]? = w.heap[k]?) → (ao' = aoD ∨ (ao' = some ⟨w.heap.size, 0, none⟩ ∧ Below w.heap.size w w' ∧ w.heap.size < w'.heap.size)) → wpList Tryd.prog ops Q rest (a.put o.dst (.slice ao' (nD + n) cap')) w') : wpList Tryd.prog ops Q (o :: rest) a w := by
  refine wpList_plain hgd fun K hK => ?_
  obtain ⟨ao', cap', w', hrun, h2, h3, h4, h5⟩ := run_append_gen E N a0 w o.type aoD nD capD vs hown hN hbel (some ⟨B, off, none⟩) n cap news hn (.inr ⟨B, off, rfl, hc⟩) h1 (by simp) hm hl
  have hwh := append_where E N w o.type aoD nD capD vs hown ⟨B, off, none⟩ n cap news hn (fun j u hu => by rw [Addr.add_mid]; exact hc j u hu) h1 hn0 hm hl ao' _ cap' w' hrun
  unfold Oper.wp execOp
  simp only [ho, resolve, invoke, builtin, Sem.run_bind, Sem.run_pure, Result.andThen_ok, List.map_toArray, List.map_cons, List.map_nil, hs, hx, hrun]
  exact hK _ _ (h ao' cap' w' h2 h3 h4 h5 (hwh.imp (·.1) id))

theorem el_rows : ElT 34 22 1 24 (.slice none 0 0) := ⟨Tryd.underlying34, by kernel_rfl, rfl, by omega⟩

/-- What stands while a row is grown: t bytes are behind it. -/
structure Grow (N : Nat) (r : Gr) (q : Nat) (W0 : World) (t : Nat) (ao : Option Addr) (c : Nat) (w : World) : Prop where
  own : Own N w (.slice ao (r.n + t) c) (List.replicate (r.n + t) (mrk q))
  isb : IsB w r.ao (List.replicate r.n (mrk q))
  tb : TB w r.ao
  pl : ao = r.ao ∨ ∃ g, ao = some ⟨g, 0, none⟩ ∧ W0.heap.size ≤ g
  chg : Chg N r.ao W0 w
theorem isB_rep {w : World} {ao : Option Addr} {k n : Nat} {m : By} (h : IsB w ao (List.replicate k m)) (hn : n ≤ k) : IsB w ao (List.replicate n m) := by
  have := isB_take h n
  rw [List.take_replicate, Nat.min_eq_left hn] at this
  exact this
theorem Grow.step {N : Nat} {r : Gr} {q : Nat} {W0 : World} {t : Nat} {ao : Option Addr} {c : Nat} {w w' : World} {o : Obj} {ao' : Option Addr} {c' : Nat} (h : Grow N r q W0 t ao c w) (hlie : ∀ B off, r.ao = some ⟨B, off, none⟩ → off = 0 ∧ B < W0.heap.size)
    (h1 : Own N w' (.slice ao' (r.n + t + 1) c') (List.replicate (r.n + t + 1) (mrk q))) (h2 : Below N (w.alloc o) w') (h3 : ∀ k, k < (w.alloc o).heap.size → ao ≠ some ⟨k, 0, none⟩ → w'.heap[k]? = (w.alloc o).heap[k]?) (h4 : ao' = ao ∨ (ao' = some ⟨(w.alloc o).heap.size, 0, none⟩ ∧ Below (w.alloc o).heap.size (w.alloc o) w')) :
    Grow N r q W0 (t + 1) ao' c' w' := by
  have hz : (w.alloc o).heap.size = w.heap.size + 1 := by simp
  have hW := h.chg.size
  have hal : ∀ k, k < w.heap.size → (w.alloc o).heap[k]? = w.heap[k]? := fun k hk => Below.heap_alloc w o k hk
  have hblk : ∀ k, k < W0.heap.size → r.ao ≠ some ⟨k, 0, none⟩ → w'.heap[k]? = w.heap[k]? := by
    intro k hk hne
    refine (h3 k (by omega) ?_).trans (hal k (by omega))
    rcases h.pl with e | ⟨g, e, hg⟩
    · rw [e]; exact hne
    · rw [e]; intro e2; injection e2 with e2; injection e2 with e2 _; omega
  have hrow : IsB w' r.ao (List.replicate r.n (mrk q)) ∧ TB w' r.ao := by
    by_cases he : ao' = r.ao
    · rw [← he]
      exact ⟨isB_rep (own_IsB h1) (by omega), h1.tb⟩
    · have hb : ∀ B off, r.ao = some ⟨B, off, none⟩ → w'.heap[B]? = w.heap[B]? := by
        intro B off e
        obtain ⟨rfl, hlt⟩ := hlie B off e
        rcases h4 with e4 | ⟨_, hbl⟩
        · refine (h3 B (by omega) (fun e5 => he ?_)).trans (hal B (by omega))
          rw [e4, e5, e]
        · exact (hbl.block B (by omega)).trans (hal B (by omega))
      exact ⟨h.isb.of_block hb, h.tb.of_block hb⟩
  refine ⟨h1, hrow.1, hrow.2, ?_, ⟨h.chg.bel.trans ((((Below.refl N w).alloc h.own.2 o)).trans h2), fun k hk hne => (hblk k hk hne).trans (h.chg.blk k hk hne)⟩⟩
  rcases h4 with e | ⟨e, _⟩
  · rw [e]; exact h.pl
  · exact .inr ⟨_, e, by omega⟩
theorem chg_set {N : Nat} {w0 w : World} {g k : Nat} {v : Value} (h : Chg N (some ⟨g, 0, none⟩) w0 w) (hg : N ≤ g) : Chg N (some ⟨g, 0, none⟩) w0 (w.setCell ⟨g, k, none⟩ v) := by
  have sb := SameBut.setCell g k v w
  refine ⟨sb.below h.bel hg, fun j hj hne => (sb.block j (fun e => hne (by rw [e]))).trans (h.blk j hj hne)⟩
theorem set_rep (xs : List By) (k : Nat) (m : By) (hk : k < xs.length) (h : xs.take k = List.replicate k m) : (xs.set k m).take (k + 1) = List.replicate (k + 1) m := by
  rw [List.take_set, List.take_add_one, List.getElem?_eq_getElem hk, h, List.set_append_right _ _ (by simp), List.length_replicate, Nat.sub_self, List.replicate_succ']
  rfl

theorem mrk_nat (q : Nat) (h : q ≤ 200) : ((mrk q).toNat : Int) = (q : Int) + 1 := by
  unfold mrk; rw [BitVec.toNat_ofNat]; omega

end Go.Proofs.YtdfbfheceobboaaDoor
