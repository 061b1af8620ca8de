
import Derived.Test.YtdfbfheceobboaaDoorP25Kf
import Derived.Test.YtdfbfheceobboaaDoorP25Laid
/-! PatchKeeps: all is asked twice: what stands between two rounds. (Printed by tools/genk25.py.) -/
namespace Go.Proofs.YtdfbfheceobboaaDoor
open Go.RowKit
set_option linter.unusedVariables false
set_option linter.unusedSimpArgs false
set_option maxRecDepth 100000

/-- Rows in blocks of their own, all ahead of S. -/
structure SepB (rs : List Gr) (S : Nat) : Prop where
  sep : SepR rs
  lt : ∀ (j : Nat) (r : Gr) (g : Nat), rs[j]? = some r → r.ao = some ⟨g, 0, none⟩ → g < S
theorem SepB.nil (S : Nat) : SepB [] S := ⟨fun i j r r' g h => by simp at h, fun j r g h => by simp at h⟩
theorem SepB.snoc {rs : List Gr} {S S2 : Nat} (h : SepB rs S) (r : Gr) (hr : ∀ g, r.ao = some ⟨g, 0, none⟩ → S ≤ g ∧ g < S2) (hs : S ≤ S2) : SepB (rs ++ [r]) S2 := by
  have at' : ∀ (j : Nat) (x : Gr), (rs ++ [r])[j]? = some x → (j < rs.length ∧ rs[j]? = some x) ∨ (j = rs.length ∧ x = r) := fun j x hx => by
    by_cases hj : j < rs.length
    · rw [List.getElem?_append_left hj] at hx; exact .inl ⟨hj, hx⟩
    · have hl := (List.getElem?_eq_some_iff.1 hx).1
      simp at hl
      have hje : j = rs.length := by omega
      subst hje
      rw [List.getElem?_append_right (Nat.le_refl _), Nat.sub_self] at hx
      simp at hx
      exact .inr ⟨rfl, hx.symm⟩
  refine ⟨fun i j x y g hx hy ex ey => ?_, fun j x g hx ex => ?_⟩
  · rcases at' i x hx with ⟨hi, hx2⟩ | ⟨hi, ei⟩
    · rcases at' j y hy with ⟨hj, hy2⟩ | ⟨hj, ej⟩
      · exact h.sep i j x y g hx2 hy2 ex ey
      · rw [ej] at ey
        have := h.lt i x g hx2 ex
        have := (hr g ey).1
        omega
    · rcases at' j y hy with ⟨hj, hy2⟩ | ⟨hj, ej⟩
      · rw [ei] at ex
        have := h.lt j y g hy2 ey
        have := (hr g ex).1
        omega
      · omega
  · rcases at' j x hx with ⟨_, hx2⟩ | ⟨_, ej⟩
    · have := h.lt j x g hx2 ex
      omega
    · rw [ej] at ex
      exact (hr g ex).2
/-- Between two rounds: q times three rows came out. -/
structure KL (N : Nat) (Wa W : World) (q : Nat) (aoD : Option Addr) (dc : Nat) (rs : List Gr) (x y z : List By) : Prop where
  bel : Below N Wa W
  arr : OwnS N W aoD dc (rs.map Gr.val)
  len : rs.length = 3 * q
  own : ∀ (j : Nat) (r : Gr), rs[j]? = some r → Own N W r.val (w3 x y z (j % 3))
  sep : SepB rs W.heap.size
theorem Own.over {N S n c : Nat} {w w4 : World} {ao aoD : Option Addr} {m : List By} (h : Own S w (.slice ao n c) m) (hNS : N ≤ S) (hb : ∀ k, k < w.heap.size → aoD ≠ some ⟨k, 0, none⟩ → w4.heap[k]? = w.heap[k]?) (hne : ∀ B off, ao = some ⟨B, off, none⟩ → aoD ≠ some ⟨B, 0, none⟩) (hs : N ≤ w4.heap.size) (hss : S ≤ w4.heap.size) : Own N w4 (.slice ao n c) m :=
  own_raise (h.of_block hss fun B off e => hb B (h.lies B off e).2.2 (hne B off e)) (fun B off e => Nat.le_trans hNS (h.lies B off e).2.1) hs
theorem KL.next {N q dc xc yc zc c' : Nat} {Wa W w1 w2 w5 w4 : World} {aoD ao' xo yo zo : Option Addr} {rs : List Gr} {x y z : List By} {o : Obj} (h : KL N Wa W q aoD dc rs x y z) (hN : N ≤ W.heap.size)
    (b1 : Below W.heap.size W w1) (o1 : Own W.heap.size w1 (.slice xo x.length xc) x) (b2 : Below w1.heap.size w1 w2) (o2 : Own w1.heap.size w2 (.slice yo y.length yc) y) (b3 : Below w2.heap.size w2 w5) (o3 : Own w2.heap.size w5 (.slice zo z.length zc) z)
    (q1 : w4.ownsRow N 22 1 (.slice ao' (3 * q + 3) c') (3 * q + 3) (rs.map Gr.val ++ [.slice xo x.length xc, .slice yo y.length yc, .slice zo z.length zc])) (q2 : Below N (w5.alloc o) w4) (q4 : ∀ k, k < (w5.alloc o).heap.size → (∀ g, aoD = some ⟨g, 0, none⟩ → k ≠ g) → w4.heap[k]? = (w5.alloc o).heap[k]?) :
    KL N Wa w4 (q + 1) ao' c' (((rs ++ [⟨xo, x.length, xc⟩]) ++ [⟨yo, y.length, yc⟩]) ++ [⟨zo, z.length, zc⟩]) x y z := by
  have s1 := b1.size
  have s2 := b2.size
  have s3 := b3.size
  have hz : (w5.alloc o).heap.size = w5.heap.size + 1 := by simp
  have s4 : w5.heap.size ≤ w4.heap.size := by have := q2.size; omega
  have b13 : Below w1.heap.size w1 w5 := b2.trans (b3.mono s2)
  have b03 : Below W.heap.size W w5 := b1.trans (b13.mono s1)
  have arr5 : OwnS N w5 aoD dc (rs.map Gr.val) := h.arr.of_block (by omega) fun B e => b03.block B (h.arr.lies B 0 e).2.2
  have hb : ∀ k, k < w5.heap.size → aoD ≠ some ⟨k, 0, none⟩ → w4.heap[k]? = w5.heap[k]? := fun k hk hne => (q4 k (by omega) (fun g e e2 => hne (by rw [e, e2]))).trans (Below.heap_alloc w5 o k hk)
  have ox := o1.keep b13
  have oy := o2.keep b3
  have hx : Own N w4 (.slice xo x.length xc) x := ox.over hN hb (arr5.ne ox.tb) (by omega) (by omega)
  have hy : Own N w4 (.slice yo y.length yc) y := oy.over (by omega) hb (arr5.ne oy.tb) (by omega) (by omega)
  have hzz : Own N w4 (.slice zo z.length zc) z := o3.over (by omega) hb (arr5.ne o3.tb) (by omega) (by omega)
  refine ⟨(h.bel.trans ((b03.mono hN))).trans (((Below.refl N w5).alloc (by omega) o).trans q2), ⟨?_, by omega⟩, by simp [h.len]; omega, fun j r hr => ?_, ?_⟩
  · have e1 : (((((rs ++ [⟨xo, x.length, xc⟩]) ++ [⟨yo, y.length, yc⟩]) ++ [⟨zo, z.length, zc⟩]) : List Gr).map Gr.val) = rs.map Gr.val ++ [.slice xo x.length xc, .slice yo y.length yc, .slice zo z.length zc] := by simp [Gr.val]
    have e2 : (rs.map Gr.val ++ [Value.slice xo x.length xc, .slice yo y.length yc, .slice zo z.length zc]).length = 3 * q + 3 := by simp [h.len]
    rw [e1, e2]
    exact q1
  · by_cases hj : j < rs.length
    · have hr' : rs[j]? = some r := by
        rw [List.append_assoc, List.append_assoc, List.getElem?_append_left hj] at hr
        exact hr
      have ho := (h.own j r hr').keep b03
      exact ho.over (Nat.le_refl _) hb (arr5.ne ho.tb) (by omega) (by omega)
    · have hl := (List.getElem?_eq_some_iff.1 hr).1
      simp [h.len] at hl
      rw [List.append_assoc, List.append_assoc, List.getElem?_append_right (by omega)] at hr
      have hlen := h.len
      have hc : j - rs.length = 0 ∨ j - rs.length = 1 ∨ j - rs.length = 2 := by omega
      rcases hc with e | e | e
      · rw [e] at hr
        simp at hr
        subst hr
        rw [show j % 3 = 0 by omega]
        exact hx
      · rw [e] at hr
        simp at hr
        subst hr
        rw [show j % 3 = 1 by omega]
        exact hy
      · rw [e] at hr
        simp at hr
        subst hr
        rw [show j % 3 = 2 by omega]
        exact hzz
  · refine SepB.snoc (S := w2.heap.size) (SepB.snoc (S := w1.heap.size) (SepB.snoc (S := W.heap.size) h.sep _ (fun g e => ?_) s1) _ (fun g e => ?_) s2) _ (fun g e => ?_) (by omega)
    · obtain ⟨_, l1, l2⟩ := o1.lies g 0 e
      exact ⟨l1, l2⟩
    · obtain ⟨_, l1, l2⟩ := o2.lies g 0 e
      exact ⟨l1, l2⟩
    · obtain ⟨_, l1, l2⟩ := o3.lies g 0 e
      exact ⟨l1, by omega⟩
theorem KL.fin {Wa W : World} {aoD : Option Addr} {dc gw N1 : Nat} {rs : List Gr} {x y z : List By} (h : KL Wa.heap.size Wa W 2 aoD dc rs x y z) (hw : ∀ k, k < 3 → Wa.cell? ⟨gw, k, none⟩ = some (.string (strOf (w3 x y z k)))) (hn : N1 ≤ Wa.heap.size) : ∃ D, aoD = some ⟨D, 0, none⟩ ∧ N1 ≤ D ∧ KF W D dc Wa.heap.size gw rs x y z := by
  obtain ⟨D, e, _⟩ := h.arr.at 0 (by rw [List.length_map, h.len]; omega)
  subst e
  refine ⟨D, rfl, by have := (h.arr.lies D 0 rfl).2.1; omega, h.arr.zero, h.len, h.own, h.sep.sep, fun k hk => ?_⟩
  exact (h.bel.cell (p := ⟨gw, k, none⟩) (block_lt_of_cell (hw k hk))).trans (hw k hk)
theorem sep4 {ga na ca gb nb cb gc nc cc gd nd cd : Nat} (h1 : ga < gb) (h2 : gb < gc) (h3 : gc < gd) : SepR [⟨some ⟨ga, 0, none⟩, na, ca⟩, ⟨some ⟨gb, 0, none⟩, nb, cb⟩, ⟨some ⟨gc, 0, none⟩, nc, cc⟩, ⟨some ⟨gd, 0, none⟩, nd, cd⟩] := by
  have k1 : SepB [⟨some ⟨ga, 0, none⟩, na, ca⟩] (ga + 1) := (SepB.nil 0).snoc _ (fun g e => by injection e with e; injection e with e _; omega) (by omega)
  have k2 : SepB [⟨some ⟨ga, 0, none⟩, na, ca⟩, ⟨some ⟨gb, 0, none⟩, nb, cb⟩] (gb + 1) := k1.snoc _ (fun g e => by injection e with e; injection e with e _; omega) (by omega)
  have k3 : SepB [⟨some ⟨ga, 0, none⟩, na, ca⟩, ⟨some ⟨gb, 0, none⟩, nb, cb⟩, ⟨some ⟨gc, 0, none⟩, nc, cc⟩] (gc + 1) := k2.snoc _ (fun g e => by injection e with e; injection e with e _; omega) (by omega)
  exact (k3.snoc ⟨some ⟨gd, 0, none⟩, nd, cd⟩ (S2 := gd + 1) (fun g e => by injection e with e; injection e with e _; omega) (by omega)).sep
theorem how4 {w W : World} {N1 ga gb gc gd ca cb cc cd : Nat} {a b c d : List By} (wa : Wid w.heap.size W ga a.length ca a) (wb : Wid w.heap.size W gb b.length cb b) (wc : Wid w.heap.size W gc c.length cc c) (wd : Wid w.heap.size W gd d.length cd d) (h1 : ga < gb) (h2 : gb < gc) (h3 : gc < gd) (h4 : gd < N1) :
    ∀ (j : Nat) (r : Gr), ([⟨some ⟨ga, 0, none⟩, a.length, ca⟩, ⟨some ⟨gb, 0, none⟩, b.length, cb⟩, ⟨some ⟨gc, 0, none⟩, c.length, cc⟩, ⟨some ⟨gd, 0, none⟩, d.length, cd⟩] : List Gr)[j]? = some r → (∃ xs, Own w.heap.size W (.slice r.ao (r.n + 3) r.c) xs) ∧ r.n ≤ 140737488351232 ∧ ∃ g, r.ao = some ⟨g, 0, none⟩ ∧ w.heap.size ≤ g ∧ g < N1 := by
  intro j r hr
  have key : ∀ (g k : Nat) (bs : List By), Wid w.heap.size W g bs.length k bs → g < N1 → (∃ xs, Own w.heap.size W (.slice (some ⟨g, 0, none⟩) (bs.length + 3) k) xs) ∧ bs.length ≤ 140737488351232 ∧ ∃ g', (some ⟨g, 0, none⟩ : Option Addr) = some ⟨g', 0, none⟩ ∧ w.heap.size ≤ g' ∧ g' < N1 := fun g k bs h hl => ⟨⟨_, h.own⟩, h.big, g, rfl, h.lies.1, hl⟩
  rcases j with _ | _ | _ | _ | j
  · simp at hr; subst hr; exact key ga ca a wa (by omega)
  · simp at hr; subst hr; exact key gb cb b wb (by omega)
  · simp at hr; subst hr; exact key gc cc c wc (by omega)
  · simp at hr; subst hr; exact key gd cd d wd (by omega)
  · simp at hr
end Go.Proofs.YtdfbfheceobboaaDoor
