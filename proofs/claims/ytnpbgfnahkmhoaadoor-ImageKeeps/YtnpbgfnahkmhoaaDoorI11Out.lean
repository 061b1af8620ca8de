
import Derived.Test.YtnpbgfnahkmhoaaDoorI11Grow
/-! ImageKeeps' list of what came out. -/
namespace Go.Proofs.YtnpbgfnahkmhoaaDoor
open Go.RowKit

def cyc (X0 X1 X2 : List By) (j : Nat) : List By := if j % 3 = 0 then X0 else if j % 3 = 1 then X1 else X2

theorem Chg.below {N : Nat} {gq : Option Addr} {w w' w2 : World} (h : Chg N gq w w') (hb : Below w'.heap.size w' w2) (hN : N ≤ w'.heap.size) : Chg N gq w w2 :=
  ⟨h.bel.trans (hb.mono hN), fun k hk hne => (hb.block k (Nat.lt_of_lt_of_le hk h.size)).trans (h.blk k hk hne)⟩
theorem Chg.row {N g T : Nat} {gq : Option Addr} {w w' : World} {cs : List Value} (h : Chg N gq w w') (hr : Row w g T cs) (hne : gq ≠ some ⟨g, 0, none⟩) : Row w' g T cs := (h.blk g hr.lt hne).trans hr
theorem Chg.isb {N : Nat} {gq : Option Addr} {w w' : World} {ao : Option Addr} {m : List By} (h : Chg N gq w w') (hi : IsB w ao m) (hl : ∀ B off, ao = some ⟨B, off, none⟩ → B < w.heap.size ∧ gq ≠ some ⟨B, 0, none⟩) : IsB w' ao m :=
  hi.of_block fun B off e => h.blk B (hl B off e).1 (hl B off e).2

structure OutOk (M : Nat) (X0 X1 X2 : List By) (w7 : World) (q : Nat) (aoO : Option Addr) (cO : Nat) (rs : List Gr) (w : World) : Prop where
  chg : Chg M (some ⟨M + 1, 0, none⟩) w7 w
  len : rs.length = 3 * q
  arr : OwnS M w aoO cO (rs.map Gr.val)
  rows : ∀ (j : Nat) (r : Gr), rs[j]? = some r → Own M w r.val (cyc X0 X1 X2 j)
  sep : SepR rs
  hi : ∀ r ∈ rs, ∀ B off, r.ao = some ⟨B, off, none⟩ → w7.heap.size ≤ B
  aoM : aoO = some ⟨M + 1, 0, none⟩ ∨ ∃ g, aoO = some ⟨g, 0, none⟩ ∧ w7.heap.size ≤ g

theorem sep_append {rs cs : List Gr} (h1 : SepR rs) (h2 : SepR cs) (h3 : ∀ r ∈ rs, ∀ r' ∈ cs, ∀ g, r.ao = some ⟨g, 0, none⟩ → r'.ao ≠ some ⟨g, 0, none⟩) : SepR (rs ++ cs) := by
  intro i j r r' g hi hj e e'
  by_cases a : i < rs.length
  · rw [List.getElem?_append_left a] at hi
    by_cases b : j < rs.length
    · rw [List.getElem?_append_left b] at hj
      exact h1 i j r r' g hi hj e e'
    · rw [List.getElem?_append_right (by omega)] at hj
      exact absurd e' (h3 r (List.mem_of_getElem? hi) r' (List.mem_of_getElem? hj) g e)
  · rw [List.getElem?_append_right (by omega)] at hi
    by_cases b : j < rs.length
    · rw [List.getElem?_append_left b] at hj
      exact absurd e (h3 r' (List.mem_of_getElem? hj) r (List.mem_of_getElem? hi) g e')
    · rw [List.getElem?_append_right (by omega)] at hj
      have := h2 _ _ r r' g hi hj e e'
      omega
theorem sep_three {a b c : Gr} (h1 : ∀ g, a.ao = some ⟨g, 0, none⟩ → b.ao ≠ some ⟨g, 0, none⟩) (h2 : ∀ g, a.ao = some ⟨g, 0, none⟩ → c.ao ≠ some ⟨g, 0, none⟩) (h3 : ∀ g, b.ao = some ⟨g, 0, none⟩ → c.ao ≠ some ⟨g, 0, none⟩) : SepR [a, b, c] := by
  intro i j r r' g hi hj e e'
  match i, j, hi, hj with
  | 0, 0, _, _ => rfl
  | 1, 1, _, _ => rfl
  | 2, 2, _, _ => rfl
  | 0, 1, hi, hj => simp at hi hj; subst hi hj; exact absurd e' (h1 g e)
  | 0, 2, hi, hj => simp at hi hj; subst hi hj; exact absurd e' (h2 g e)
  | 1, 2, hi, hj => simp at hi hj; subst hi hj; exact absurd e' (h3 g e)
  | 1, 0, hi, hj => simp at hi hj; subst hi hj; exact absurd e (h1 g e')
  | 2, 0, hi, hj => simp at hi hj; subst hi hj; exact absurd e (h2 g e')
  | 2, 1, hi, hj => simp at hi hj; subst hi hj; exact absurd e (h3 g e')
  | i + 3, _, hi, _ => simp at hi
  | _, j + 3, _, hj => simp at hj

theorem OutOk.push {M : Nat} {X0 X1 X2 : List By} {w7 : World} {q : Nat} {aoO : Option Addr} {cO : Nat} {rs : List Gr} {w w1 w2 : World} (h : OutOk M X0 X1 X2 w7 q aoO cO rs w) (hb : Below w.heap.size w w1) (c0 c1 c2 : Gr)
    (o0 : Own w.heap.size w1 c0.val X0) (o1 : Own w.heap.size w1 c1.val X1) (o2 : Own w.heap.size w1 c2.val X2) (hs : SepR [c0, c1, c2]) (ao' : Option Addr) (c' : Nat) (ha : OwnS M w2 ao' c' ((rs ++ [c0, c1, c2]).map Gr.val)) (hbl : Below M w1 w2)
    (hk : ∀ k, k < w1.heap.size → aoO ≠ some ⟨k, 0, none⟩ → w2.heap[k]? = w1.heap[k]?) (hao : ao' = aoO ∨ ao' = some ⟨w1.heap.size, 0, none⟩) : OutOk M X0 X1 X2 w7 (q + 1) ao' c' (rs ++ [c0, c1, c2]) w2 := by
  have hN : M ≤ w2.heap.size := ha.2
  have hMw := h.arr.2
  have hw := hb.size
  have h7 := h.chg.size
  have arr1 : OwnS M w1 aoO cO (rs.map Gr.val) := h.arr.of_block (by omega) fun B e => hb.block B (h.arr.lies B 0 e).2.2
  have up : ∀ {N : Nat} {r : Gr} {X : List By}, M ≤ N → Own N w1 r.val X → Own M w2 r.val X := by
    intro N r X hN' ho
    exact (own_le ho hN').of_block hN fun B off e => hk B (ho.lies B off e).2.2 (arr1.ne ho.tb B off e)
  have hl0 := h.len
  refine ⟨⟨h.chg.bel.trans ((hb.mono hMw).trans hbl), fun k hk7 hne => ?_⟩, by rw [List.length_append, hl0]; simp; omega, ha, ?_, ?_, ?_, ?_⟩
  · refine ((hk k (by omega) ?_).trans (hb.block k (by omega))).trans (h.chg.blk k hk7 hne)
    rcases h.aoM with e | ⟨g, e, hg⟩
    · rw [e]; exact hne
    · rw [e]; intro e2; injection e2 with e2; injection e2 with e2 _; omega
  · intro j r hj
    by_cases hlt : j < rs.length
    · rw [List.getElem?_append_left hlt] at hj
      exact up (Nat.le_refl _) ((h.rows j r hj).keep hb)
    · rw [List.getElem?_append_right (by omega)] at hj
      obtain ⟨d, hd⟩ : ∃ d, j = rs.length + d := ⟨j - rs.length, by omega⟩
      subst hd
      rw [Nat.add_sub_cancel_left] at hj
      have hm : (rs.length + d) % 3 = d % 3 := by rw [hl0]; omega
      match d, hj with
      | 0, hj => simp at hj; subst hj; have : cyc X0 X1 X2 (rs.length + 0) = X0 := by unfold cyc; rw [hm]; rfl
                 rw [this]; exact up hMw o0
      | 1, hj => simp at hj; subst hj; have : cyc X0 X1 X2 (rs.length + 1) = X1 := by unfold cyc; rw [hm]; rfl
                 rw [this]; exact up hMw o1
      | 2, hj => simp at hj; subst hj; have : cyc X0 X1 X2 (rs.length + 2) = X2 := by unfold cyc; rw [hm]; rfl
                 rw [this]; exact up hMw o2
      | d + 3, hj => simp at hj
  · refine sep_append h.sep hs ?_
    intro r hr r' hr' g e e'
    obtain ⟨i, hi⟩ := List.mem_iff_getElem?.1 hr
    have a1 := ((h.rows i r hi).lies g 0 e).2.2
    have a2 : w.heap.size ≤ g := by
      simp at hr'
      rcases hr' with rfl | rfl | rfl
      · exact (o0.lies g 0 e').2.1
      · exact (o1.lies g 0 e').2.1
      · exact (o2.lies g 0 e').2.1
    omega
  · intro r hr B off e
    rcases List.mem_append.1 hr with hr | hr
    · exact h.hi r hr B off e
    · simp at hr
      rcases hr with rfl | rfl | rfl
      · have := (o0.lies B off e).2.1; omega
      · have := (o1.lies B off e).2.1; omega
      · have := (o2.lies B off e).2.1; omega
  · rcases hao with e | e
    · rw [e]; exact h.aoM
    · exact .inr ⟨_, e, by omega⟩

/-- The one of three rows that stands at a place. -/
theorem pick_row (X0 X1 X2 : List By) (a am : Nat) (hap : a % 3 = am) {M g : Nat} {w : World} {a0 a1 a2 : Option Addr} {c0 c1 c2 l2 : Nat} (hr : Row w g 23 [.slice a0 X0.length c0, .slice a1 X1.length c1, .slice a2 l2 c2]) (o0 : Own M w (.slice a0 X0.length c0) X0) (o1 : Own M w (.slice a1 X1.length c1) X1) (o2 : Own M w (.slice a2 l2 c2) X2) (hl : X2.length = l2) :
    ∃ ao c, w.cell? ⟨g, am, none⟩ = some (.slice ao (cyc X0 X1 X2 a).length c) ∧ Own M w (.slice ao (cyc X0 X1 X2 a).length c) (cyc X0 X1 X2 a) := by
  subst hl
  have h3 : am = 0 ∨ am = 1 ∨ am = 2 := by omega
  rcases h3 with h | h | h
  · have e : cyc X0 X1 X2 a = X0 := by unfold cyc; rw [hap, h]; rfl
    rw [e, h]; exact ⟨a0, c0, hr.cell 0 _ rfl, o0⟩
  · have e : cyc X0 X1 X2 a = X1 := by unfold cyc; rw [hap, h]; rfl
    rw [e, h]; exact ⟨a1, c1, hr.cell 1 _ rfl, o1⟩
  · have e : cyc X0 X1 X2 a = X2 := by unfold cyc; rw [hap, h]; rfl
    rw [e, h]; exact ⟨a2, c2, hr.cell 2 _ rfl, o2⟩

/-- A row of bytes that is written into. -/
def OwnE (N : Nat) (w : World) (g n c : Nat) : Prop := ∃ xs, Own N w (.slice (some ⟨g, 0, none⟩) n c) xs
theorem OwnE.set {N : Nat} {w : World} {g n c : Nat} (h : OwnE N w g n c) (g' j : Nat) (y : By) : OwnE N (w.setCell ⟨g', j, none⟩ (.int .u8 (y.toNat : Int))) g n c := by
  obtain ⟨xs, hx⟩ := h
  by_cases e : g = g'
  · subst e; exact ⟨_, hx.set j y⟩
  · exact ⟨xs, hx.but (SameBut.setCell g' j _ w) (fun e2 => by injection e2 with e2; injection e2 with e2; exact e e2)⟩
/-- What came in is written over; what lies from M on stays. -/
structure XS (N M : Nat) (w0 w1 : World) (gs ls cs gi li ci gp lp cp : Nat) (w : World) : Prop where
  es : OwnE N w gs ls cs
  ei : OwnE N w gi li ci
  ep : OwnE N w gp lp cp
  low : ∀ k, M ≤ k → w.heap[k]? = w1.heap[k]?
  sz : w.heap.size = w1.heap.size
  bel : Below w0.heap.size w0 w
theorem XS.set {N M : Nat} {w0 w1 w : World} {gs ls cs gi li ci gp lp cp : Nat} (h : XS N M w0 w1 gs ls cs gi li ci gp lp cp w) (g j : Nat) (y : By) (hg : g < M) (hg0 : w0.heap.size ≤ g) : XS N M w0 w1 gs ls cs gi li ci gp lp cp (w.setCell ⟨g, j, none⟩ (.int .u8 (y.toNat : Int))) := by
  have sb := SameBut.setCell g j (.int .u8 (y.toNat : Int)) w
  exact ⟨h.es.set g j y, h.ei.set g j y, h.ep.set g j y, fun k hk => (sb.block k (by omega)).trans (h.low k hk), sb.size.trans h.sz, sb.below h.bel hg0⟩
end Go.Proofs.YtnpbgfnahkmhoaaDoor
