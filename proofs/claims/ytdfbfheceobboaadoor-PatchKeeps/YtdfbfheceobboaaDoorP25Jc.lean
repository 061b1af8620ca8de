
import Derived.Test.YtdfbfheceobboaaDoorP25Jb
/-! The code's patch: pieces of parts. (Printed by tools/genc25.py.) -/
namespace Go.Proofs.YtdfbfheceobboaaDoor
open Go.RowKit
set_option linter.unusedVariables false
set_option linter.unusedSimpArgs false
set_option maxRecDepth 100000

/-- A row of parts in memory from M on, the bytes of lays below N. -/
structure PaQ (M N : Nat) (W : World) (l : List Pt) (lo : Option Addr) (lc : Nat) : Prop where
  le : N ≤ M
  sz : M ≤ W.heap.size
  vs : ∃ vs : List Value, vs.length = l.length ∧ W.ownsRow M 54 1 (.slice lo l.length lc) l.length vs ∧ ∀ (i : Nat) (y : Pt) (v : Value), l[i]? = some y → vs[i]? = some v → PaV N W y v
theorem PaQ.keep {M N : Nat} {W W' : World} {l : List Pt} {lo : Option Addr} {lc : Nat} (h : PaQ M N W l lo lc) (hb : Below W.heap.size W W') : PaQ M N W' l lo lc := by
  obtain ⟨vs, h1, h2, h3⟩ := h.vs
  exact ⟨h.le, Nat.le_trans h.sz hb.size, vs, h1, own_keepL h2 fun B e => hb.block B (by subst e; exact (h2.lt B rfl).2), fun i y v hi hv => (h3 i y v hi hv).keep (hb.mono (Nat.le_trans h.le h.sz))⟩
theorem PaQ.nil {M N : Nat} {W : World} (h : N ≤ M) (hM : M ≤ W.heap.size) : PaQ M N W [] none 0 := ⟨h, hM, [], rfl, World.ownsRow_nil _ _ _ _, fun i y v h => by simp at h⟩
theorem PaQ.at {M N : Nat} {W : World} {l : List Pt} {lo : Option Addr} {lc : Nat} (h : PaQ M N W l lo lc) {i : Nat} {y : Pt} (hi : l[i]? = some y) : ∃ B v, lo = some ⟨B, 0, none⟩ ∧ W.cell? ⟨B, i, none⟩ = some v ∧ PaV N W y v := by
  obtain ⟨vs, h1, h2, h3⟩ := h.vs
  have hil := (List.getElem?_eq_some_iff.1 hi).1
  have hv : vs[i]? = some vs[i] := List.getElem?_eq_getElem (by omega)
  rcases h2.2 with ⟨e1, e2⟩ | ⟨g, c', cur, e1, _⟩
  · omega
  · injection e1 with e1
    subst e1
    have := h2.cells (g := g) rfl i _ hv
    rw [Addr.add_mid, Nat.zero_add] at this
    exact ⟨g, _, rfl, this, h3 i y _ hi hv⟩
theorem PaQ.snoc {M N : Nat} {W' : World} {l : List Pt} {y : Pt} {v : Value} {vs : List Value} (hl : N ≤ M) (hN : M ≤ W'.heap.size) (h1 : vs.length = l.length) (h3 : ∀ (i : Nat) (y : Pt) (v : Value), l[i]? = some y → vs[i]? = some v → PaV N W' y v) {lo' : Option Addr} {lc' : Nat} (ho : W'.ownsRow M 54 1 (.slice lo' (l.length + 1) lc') (l.length + 1) (vs ++ [v])) (hv : PaV N W' y v) : PaQ M N W' (l ++ [y]) lo' lc' := by
  refine ⟨hl, hN, vs ++ [v], by simp [h1], by rw [List.length_append]; exact ho, fun i z u hz hu => ?_⟩
  by_cases hi : i < l.length
  · rw [List.getElem?_append_left hi] at hz
    rw [List.getElem?_append_left (by omega)] at hu
    exact h3 i z u hz hu
  · have hi2 := (List.getElem?_eq_some_iff.1 hz).1
    simp at hi2
    have e : i = l.length := by omega
    rw [e, List.getElem?_append_right (Nat.le_refl _)] at hz
    rw [e, List.getElem?_append_right (by omega)] at hu
    simp at hz
    simp [h1] at hu
    subst hz; subst hu; exact hv
def WitQ (M N : Nat) (w : World) (l : List Pt) (e : Ending) (w' : World) : Prop := ∃ lo lc, e = .returned (.slice lo l.length lc) ∧ PaQ M N w' l lo lc ∧ Below M w w'
structure WI4S (W1 : World) (E B qi nl lc en k bg mn tt : Nat) (yfrm : Nat) (L : Nat → Bool) (x24 x25 x26 x27 x28 x29 x30 x31 x32 x33 x34 x35 x36 x37 x38 x39 x12 x13 : Value) (W : World) : Prop where
  x : Below W1.heap.size W1 W
  p0 : L 0 = true → x24 = .slice (some ⟨E, 0, none⟩) nl nl
  p1 : L 1 = true → x25 = .int .i64 (qi : Int)
  p2 : L 2 = true → x26 = .pointer (some ⟨E, qi, none⟩)
  p3 : L 3 = true → x27 = .int .i64 (en : Int)
  p4 : L 4 = true → x28 = .slice (some ⟨B, 0, none⟩) nl lc
  p5 : L 5 = true → x29 = .int .i64 (qi : Int)
  p6 : L 6 = true → x30 = .pointer (some ⟨B, qi, none⟩)
  p7 : L 7 = true → x31 = .iface 66 (.agg #[.int .i64 (yfrm : Int), .int .i64 (k : Int)])
  p8 : L 8 = true → x32 = .int .i64 (k : Int)
  p9 : L 9 = true → x33 = .int .i64 (bg : Int)
  p10 : L 10 = true → x34 = .slice (some ⟨E, 0, none⟩) nl nl
  p11 : L 11 = true → x35 = .int .i64 (qi : Int)
  p12 : L 12 = true → x36 = .pointer (some ⟨E, qi, none⟩)
  p13 : L 13 = true → x37 = .int .i64 (en : Int)
  p14 : L 14 = true → x38 = .int .i64 (tt : Int)
  p15 : L 15 = true → x39 = .int .i64 (mn : Int)
  p16 : L 16 = true → x12 = .int .i64 (bg : Int)
  p17 : L 17 = true → x13 = .int .i64 (mn : Int)
section
variable {W1 : World} {E B qi nl lc en k bg mn tt : Nat} {yfrm : Nat} {L : Nat → Bool} {x24 x25 x26 x27 x28 x29 x30 x31 x32 x33 x34 x35 x36 x37 x38 x39 x12 x13 : Value} {W W2 : World}
theorem WI4S.s0 (h : WI4S W1 E B qi nl lc en k bg mn tt yfrm L x24 x25 x26 x27 x28 x29 x30 x31 x32 x33 x34 x35 x36 x37 x38 x39 x12 x13 W) : WI4S W1 E B qi nl lc en k bg mn tt yfrm (upd L 0) (.slice (some ⟨E, 0, none⟩) nl nl) x25 x26 x27 x28 x29 x30 x31 x32 x33 x34 x35 x36 x37 x38 x39 x12 x13 W :=
  ⟨h.x, fun _ => rfl, h.p1, h.p2, h.p3, h.p4, h.p5, h.p6, h.p7, h.p8, h.p9, h.p10, h.p11, h.p12, h.p13, h.p14, h.p15, h.p16, h.p17⟩
theorem WI4S.s1 (h : WI4S W1 E B qi nl lc en k bg mn tt yfrm L x24 x25 x26 x27 x28 x29 x30 x31 x32 x33 x34 x35 x36 x37 x38 x39 x12 x13 W) : WI4S W1 E B qi nl lc en k bg mn tt yfrm (upd L 1) x24 (.int .i64 (qi : Int)) x26 x27 x28 x29 x30 x31 x32 x33 x34 x35 x36 x37 x38 x39 x12 x13 W :=
  ⟨h.x, h.p0, fun _ => rfl, h.p2, h.p3, h.p4, h.p5, h.p6, h.p7, h.p8, h.p9, h.p10, h.p11, h.p12, h.p13, h.p14, h.p15, h.p16, h.p17⟩
theorem WI4S.s2 (h : WI4S W1 E B qi nl lc en k bg mn tt yfrm L x24 x25 x26 x27 x28 x29 x30 x31 x32 x33 x34 x35 x36 x37 x38 x39 x12 x13 W) : WI4S W1 E B qi nl lc en k bg mn tt yfrm (upd L 2) x24 x25 (.pointer (some ⟨E, qi, none⟩)) x27 x28 x29 x30 x31 x32 x33 x34 x35 x36 x37 x38 x39 x12 x13 W :=
  ⟨h.x, h.p0, h.p1, fun _ => rfl, h.p3, h.p4, h.p5, h.p6, h.p7, h.p8, h.p9, h.p10, h.p11, h.p12, h.p13, h.p14, h.p15, h.p16, h.p17⟩
theorem WI4S.s3 (h : WI4S W1 E B qi nl lc en k bg mn tt yfrm L x24 x25 x26 x27 x28 x29 x30 x31 x32 x33 x34 x35 x36 x37 x38 x39 x12 x13 W) : WI4S W1 E B qi nl lc en k bg mn tt yfrm (upd L 3) x24 x25 x26 (.int .i64 (en : Int)) x28 x29 x30 x31 x32 x33 x34 x35 x36 x37 x38 x39 x12 x13 W :=
  ⟨h.x, h.p0, h.p1, h.p2, fun _ => rfl, h.p4, h.p5, h.p6, h.p7, h.p8, h.p9, h.p10, h.p11, h.p12, h.p13, h.p14, h.p15, h.p16, h.p17⟩
theorem WI4S.s4 (h : WI4S W1 E B qi nl lc en k bg mn tt yfrm L x24 x25 x26 x27 x28 x29 x30 x31 x32 x33 x34 x35 x36 x37 x38 x39 x12 x13 W) : WI4S W1 E B qi nl lc en k bg mn tt yfrm (upd L 4) x24 x25 x26 x27 (.slice (some ⟨B, 0, none⟩) nl lc) x29 x30 x31 x32 x33 x34 x35 x36 x37 x38 x39 x12 x13 W :=
  ⟨h.x, h.p0, h.p1, h.p2, h.p3, fun _ => rfl, h.p5, h.p6, h.p7, h.p8, h.p9, h.p10, h.p11, h.p12, h.p13, h.p14, h.p15, h.p16, h.p17⟩
theorem WI4S.s5 (h : WI4S W1 E B qi nl lc en k bg mn tt yfrm L x24 x25 x26 x27 x28 x29 x30 x31 x32 x33 x34 x35 x36 x37 x38 x39 x12 x13 W) : WI4S W1 E B qi nl lc en k bg mn tt yfrm (upd L 5) x24 x25 x26 x27 x28 (.int .i64 (qi : Int)) x30 x31 x32 x33 x34 x35 x36 x37 x38 x39 x12 x13 W :=
  ⟨h.x, h.p0, h.p1, h.p2, h.p3, h.p4, fun _ => rfl, h.p6, h.p7, h.p8, h.p9, h.p10, h.p11, h.p12, h.p13, h.p14, h.p15, h.p16, h.p17⟩
theorem WI4S.s6 (h : WI4S W1 E B qi nl lc en k bg mn tt yfrm L x24 x25 x26 x27 x28 x29 x30 x31 x32 x33 x34 x35 x36 x37 x38 x39 x12 x13 W) : WI4S W1 E B qi nl lc en k bg mn tt yfrm (upd L 6) x24 x25 x26 x27 x28 x29 (.pointer (some ⟨B, qi, none⟩)) x31 x32 x33 x34 x35 x36 x37 x38 x39 x12 x13 W :=
  ⟨h.x, h.p0, h.p1, h.p2, h.p3, h.p4, h.p5, fun _ => rfl, h.p7, h.p8, h.p9, h.p10, h.p11, h.p12, h.p13, h.p14, h.p15, h.p16, h.p17⟩
theorem WI4S.s7 (h : WI4S W1 E B qi nl lc en k bg mn tt yfrm L x24 x25 x26 x27 x28 x29 x30 x31 x32 x33 x34 x35 x36 x37 x38 x39 x12 x13 W) : WI4S W1 E B qi nl lc en k bg mn tt yfrm (upd L 7) x24 x25 x26 x27 x28 x29 x30 (.iface 66 (.agg #[.int .i64 (yfrm : Int), .int .i64 (k : Int)])) x32 x33 x34 x35 x36 x37 x38 x39 x12 x13 W :=
  ⟨h.x, h.p0, h.p1, h.p2, h.p3, h.p4, h.p5, h.p6, fun _ => rfl, h.p8, h.p9, h.p10, h.p11, h.p12, h.p13, h.p14, h.p15, h.p16, h.p17⟩
theorem WI4S.s8 (h : WI4S W1 E B qi nl lc en k bg mn tt yfrm L x24 x25 x26 x27 x28 x29 x30 x31 x32 x33 x34 x35 x36 x37 x38 x39 x12 x13 W) (hX : Below W1.heap.size W1 W2) : WI4S W1 E B qi nl lc en k bg mn tt yfrm (upd L 8) x24 x25 x26 x27 x28 x29 x30 x31 (.int .i64 (k : Int)) x33 x34 x35 x36 x37 x38 x39 x12 x13 W2 :=
  ⟨hX, h.p0, h.p1, h.p2, h.p3, h.p4, h.p5, h.p6, h.p7, fun _ => rfl, h.p9, h.p10, h.p11, h.p12, h.p13, h.p14, h.p15, h.p16, h.p17⟩
theorem WI4S.s9 (h : WI4S W1 E B qi nl lc en k bg mn tt yfrm L x24 x25 x26 x27 x28 x29 x30 x31 x32 x33 x34 x35 x36 x37 x38 x39 x12 x13 W) : WI4S W1 E B qi nl lc en k bg mn tt yfrm (upd L 9) x24 x25 x26 x27 x28 x29 x30 x31 x32 (.int .i64 (bg : Int)) x34 x35 x36 x37 x38 x39 x12 x13 W :=
  ⟨h.x, h.p0, h.p1, h.p2, h.p3, h.p4, h.p5, h.p6, h.p7, h.p8, fun _ => rfl, h.p10, h.p11, h.p12, h.p13, h.p14, h.p15, h.p16, h.p17⟩
theorem WI4S.s10 (h : WI4S W1 E B qi nl lc en k bg mn tt yfrm L x24 x25 x26 x27 x28 x29 x30 x31 x32 x33 x34 x35 x36 x37 x38 x39 x12 x13 W) : WI4S W1 E B qi nl lc en k bg mn tt yfrm (upd L 10) x24 x25 x26 x27 x28 x29 x30 x31 x32 x33 (.slice (some ⟨E, 0, none⟩) nl nl) x35 x36 x37 x38 x39 x12 x13 W :=
  ⟨h.x, h.p0, h.p1, h.p2, h.p3, h.p4, h.p5, h.p6, h.p7, h.p8, h.p9, fun _ => rfl, h.p11, h.p12, h.p13, h.p14, h.p15, h.p16, h.p17⟩
theorem WI4S.s11 (h : WI4S W1 E B qi nl lc en k bg mn tt yfrm L x24 x25 x26 x27 x28 x29 x30 x31 x32 x33 x34 x35 x36 x37 x38 x39 x12 x13 W) : WI4S W1 E B qi nl lc en k bg mn tt yfrm (upd L 11) x24 x25 x26 x27 x28 x29 x30 x31 x32 x33 x34 (.int .i64 (qi : Int)) x36 x37 x38 x39 x12 x13 W :=
  ⟨h.x, h.p0, h.p1, h.p2, h.p3, h.p4, h.p5, h.p6, h.p7, h.p8, h.p9, h.p10, fun _ => rfl, h.p12, h.p13, h.p14, h.p15, h.p16, h.p17⟩
theorem WI4S.s12 (h : WI4S W1 E B qi nl lc en k bg mn tt yfrm L x24 x25 x26 x27 x28 x29 x30 x31 x32 x33 x34 x35 x36 x37 x38 x39 x12 x13 W) : WI4S W1 E B qi nl lc en k bg mn tt yfrm (upd L 12) x24 x25 x26 x27 x28 x29 x30 x31 x32 x33 x34 x35 (.pointer (some ⟨E, qi, none⟩)) x37 x38 x39 x12 x13 W :=
  ⟨h.x, h.p0, h.p1, h.p2, h.p3, h.p4, h.p5, h.p6, h.p7, h.p8, h.p9, h.p10, h.p11, fun _ => rfl, h.p13, h.p14, h.p15, h.p16, h.p17⟩
theorem WI4S.s13 (h : WI4S W1 E B qi nl lc en k bg mn tt yfrm L x24 x25 x26 x27 x28 x29 x30 x31 x32 x33 x34 x35 x36 x37 x38 x39 x12 x13 W) : WI4S W1 E B qi nl lc en k bg mn tt yfrm (upd L 13) x24 x25 x26 x27 x28 x29 x30 x31 x32 x33 x34 x35 x36 (.int .i64 (en : Int)) x38 x39 x12 x13 W :=
  ⟨h.x, h.p0, h.p1, h.p2, h.p3, h.p4, h.p5, h.p6, h.p7, h.p8, h.p9, h.p10, h.p11, h.p12, fun _ => rfl, h.p14, h.p15, h.p16, h.p17⟩
theorem WI4S.s14 (h : WI4S W1 E B qi nl lc en k bg mn tt yfrm L x24 x25 x26 x27 x28 x29 x30 x31 x32 x33 x34 x35 x36 x37 x38 x39 x12 x13 W) : WI4S W1 E B qi nl lc en k bg mn tt yfrm (upd L 14) x24 x25 x26 x27 x28 x29 x30 x31 x32 x33 x34 x35 x36 x37 (.int .i64 (tt : Int)) x39 x12 x13 W :=
  ⟨h.x, h.p0, h.p1, h.p2, h.p3, h.p4, h.p5, h.p6, h.p7, h.p8, h.p9, h.p10, h.p11, h.p12, h.p13, fun _ => rfl, h.p15, h.p16, h.p17⟩
theorem WI4S.s15 (h : WI4S W1 E B qi nl lc en k bg mn tt yfrm L x24 x25 x26 x27 x28 x29 x30 x31 x32 x33 x34 x35 x36 x37 x38 x39 x12 x13 W) : WI4S W1 E B qi nl lc en k bg mn tt yfrm (upd L 15) x24 x25 x26 x27 x28 x29 x30 x31 x32 x33 x34 x35 x36 x37 x38 (.int .i64 (mn : Int)) x12 x13 W :=
  ⟨h.x, h.p0, h.p1, h.p2, h.p3, h.p4, h.p5, h.p6, h.p7, h.p8, h.p9, h.p10, h.p11, h.p12, h.p13, h.p14, fun _ => rfl, h.p16, h.p17⟩
theorem WI4S.s16 (h : WI4S W1 E B qi nl lc en k bg mn tt yfrm L x24 x25 x26 x27 x28 x29 x30 x31 x32 x33 x34 x35 x36 x37 x38 x39 x12 x13 W) : WI4S W1 E B qi nl lc en k bg mn tt yfrm (upd L 16) x24 x25 x26 x27 x28 x29 x30 x31 x32 x33 x34 x35 x36 x37 x38 x39 (.int .i64 (bg : Int)) x13 W :=
  ⟨h.x, h.p0, h.p1, h.p2, h.p3, h.p4, h.p5, h.p6, h.p7, h.p8, h.p9, h.p10, h.p11, h.p12, h.p13, h.p14, h.p15, fun _ => rfl, h.p17⟩
theorem WI4S.s17 (h : WI4S W1 E B qi nl lc en k bg mn tt yfrm L x24 x25 x26 x27 x28 x29 x30 x31 x32 x33 x34 x35 x36 x37 x38 x39 x12 x13 W) : WI4S W1 E B qi nl lc en k bg mn tt yfrm (upd L 17) x24 x25 x26 x27 x28 x29 x30 x31 x32 x33 x34 x35 x36 x37 x38 x39 x12 (.int .i64 (mn : Int)) W :=
  ⟨h.x, h.p0, h.p1, h.p2, h.p3, h.p4, h.p5, h.p6, h.p7, h.p8, h.p9, h.p10, h.p11, h.p12, h.p13, h.p14, h.p15, h.p16, fun _ => rfl⟩
end
@[reducible] def IWI4S (W1 : World) (E B qi nl lc en k bg mn tt : Nat) (yfrm : Nat) (y0 y1 y2 y3 y4 y5 y6 y7 y8 y9 y10 y11 y14 y15 y16 y17 y18 y19 y20 y21 y22 y23 y40 y41 y42 y43 y44 y45 y46 y47 y48 y49 y50 y51 y52 y53 y54 y55 y56 y57 : Value) : (Nat → Bool) → Act → World → Prop := fun L a W => ∃ x24 x25 x26 x27 x28 x29 x30 x31 x32 x33 x34 x35 x36 x37 x38 x39 x12 x13, a = ⟨#[y0, y1, y2, y3, y4, y5, y6, y7, y8, y9, y10, y11, x12, x13, y14, y15, y16, y17, y18, y19, y20, y21, y22, y23, x24, x25, x26, x27, x28, x29, x30, x31, x32, x33, x34, x35, x36, x37, x38, x39, y40, y41, y42, y43, y44, y45, y46, y47, y48, y49, y50, y51, y52, y53, y54, y55, y56, y57], []⟩ ∧ WI4S W1 E B qi nl lc en k bg mn tt yfrm L x24 x25 x26 x27 x28 x29 x30 x31 x32 x33 x34 x35 x36 x37 x38 x39 x12 x13 W
theorem WI4S.step {W1 : World} {E B qi nl lc en k bg mn tt : Nat} {yfrm : Nat} {y0 y1 y2 y3 y4 y5 y6 y7 y8 y9 y10 y11 y14 y15 y16 y17 y18 y19 y20 y21 y22 y23 y40 y41 y42 y43 y44 y45 y46 y47 y48 y49 y50 y51 y52 y53 y54 y55 y56 y57 : Value} {P : Program} {ops : Array Oper} {Q : Exit → Act → World → Prop} {i : Nat} {o : Oper} (hq : ∀ x24 x25 x26 x27 x28 x29 x30 x31 x32 x33 x34 x35 x36 x37 x38 x39 x12 x13 (L : Nat → Bool) (W : World), WI4S W1 E B qi nl lc en k bg mn tt yfrm L x24 x25 x26 x27 x28 x29 x30 x31 x32 x33 x34 x35 x36 x37 x38 x39 x12 x13 W → L i = false → (∀ j ∈ onesOf o, L j = true) → ∀ K : Act → World → Prop, Shut (∀ a' w', IWI4S W1 E B qi nl lc en k bg mn tt yfrm y0 y1 y2 y3 y4 y5 y6 y7 y8 y9 y10 y11 y14 y15 y16 y17 y18 y19 y20 y21 y22 y23 y40 y41 y42 y43 y44 y45 y46 y47 y48 y49 y50 y51 y52 y53 y54 y55 y56 y57 (upd L i) a' w' → K a' w') → if Region.wanted o (yielded ops (⟨#[y0, y1, y2, y3, y4, y5, y6, y7, y8, y9, y10, y11, x12, x13, y14, y15, y16, y17, y18, y19, y20, y21, y22, y23, x24, x25, x26, x27, x28, x29, x30, x31, x32, x33, x34, x35, x36, x37, x38, x39, y40, y41, y42, y43, y44, y45, y46, y47, y48, y49, y50, y51, y52, y53, y54, y55, y56, y57], []⟩ : Act).tmps) = true then Oper.wp P o ⟨#[y0, y1, y2, y3, y4, y5, y6, y7, y8, y9, y10, y11, x12, x13, y14, y15, y16, y17, y18, y19, y20, y21, y22, y23, x24, x25, x26, x27, x28, x29, x30, x31, x32, x33, x34, x35, x36, x37, x38, x39, y40, y41, y42, y43, y44, y45, y46, y47, y48, y49, y50, y51, y52, y53, y54, y55, y56, y57], []⟩ W K Q else K ((⟨#[y0, y1, y2, y3, y4, y5, y6, y7, y8, y9, y10, y11, x12, x13, y14, y15, y16, y17, y18, y19, y20, y21, y22, y23, x24, x25, x26, x27, x28, x29, x30, x31, x32, x33, x34, x35, x36, x37, x38, x39, y40, y41, y42, y43, y44, y45, y46, y47, y48, y49, y50, y51, y52, y53, y54, y55, y56, y57], []⟩ : Act).put o.dst undef) W) : StepI P ops (IWI4S W1 E B qi nl lc en k bg mn tt yfrm y0 y1 y2 y3 y4 y5 y6 y7 y8 y9 y10 y11 y14 y15 y16 y17 y18 y19 y20 y21 y22 y23 y40 y41 y42 y43 y44 y45 y46 y47 y48 y49 y50 y51 y52 y53 y54 y55 y56 y57) Q i o := by
  rintro L a W ⟨x24, x25, x26, x27, x28, x29, x30, x31, x32, x33, x34, x35, x36, x37, x38, x39, x12, x13, rfl, h⟩
  exact hq _ _ _ _ _ _ _ _ _ _ _ _ _ _ _ _ _ _ _ _ h
theorem WI4S.ends {W1 : World} {E B qi nl lc en k bg mn tt : Nat} {yfrm : Nat} {y0 y1 y2 y3 y4 y5 y6 y7 y8 y9 y10 y11 y14 y15 y16 y17 y18 y19 y20 y21 y22 y23 y40 y41 y42 y43 y44 y45 y46 y47 y48 y49 y50 y51 y52 y53 y54 y55 y56 y57 : Value} {mm_ : Nat} {Q : Exit → Act → World → Prop} (hq : ∀ x24 x25 x26 x27 x28 x29 x30 x31 x32 x33 x34 x35 x36 x37 x38 x39 x12 x13 (L : Nat → Bool) (W : World), (∀ j, j < mm_ → L j = true) → WI4S W1 E B qi nl lc en k bg mn tt yfrm L x24 x25 x26 x27 x28 x29 x30 x31 x32 x33 x34 x35 x36 x37 x38 x39 x12 x13 W → Q .normal ⟨#[y0, y1, y2, y3, y4, y5, y6, y7, y8, y9, y10, y11, x12, x13, y14, y15, y16, y17, y18, y19, y20, y21, y22, y23, x24, x25, x26, x27, x28, x29, x30, x31, x32, x33, x34, x35, x36, x37, x38, x39, y40, y41, y42, y43, y44, y45, y46, y47, y48, y49, y50, y51, y52, y53, y54, y55, y56, y57], []⟩ W) : ∀ L a' w', (∀ j, j < mm_ → L j = true) → IWI4S W1 E B qi nl lc en k bg mn tt yfrm y0 y1 y2 y3 y4 y5 y6 y7 y8 y9 y10 y11 y14 y15 y16 y17 y18 y19 y20 y21 y22 y23 y40 y41 y42 y43 y44 y45 y46 y47 y48 y49 y50 y51 y52 y53 y54 y55 y56 y57 L a' w' → Q .normal a' w' := by
  rintro L a W hall ⟨x24, x25, x26, x27, x28, x29, x30, x31, x32, x33, x34, x35, x36, x37, x38, x39, x12, x13, rfl, h⟩
  exact hq _ _ _ _ _ _ _ _ _ _ _ _ _ _ _ _ _ _ _ _ hall h
structure WI4L (W1 : World) (E B qi nl lc en k bg mn tt : Nat) (B2 off2 c2 : Nat) (L : Nat → Bool) (x24 x25 x26 x27 x28 x29 x30 x31 x32 x33 x34 x35 x36 x37 x38 x39 x12 x13 : Value) (W : World) : Prop where
  x : Below W1.heap.size W1 W
  p0 : L 0 = true → x24 = .slice (some ⟨E, 0, none⟩) nl nl
  p1 : L 1 = true → x25 = .int .i64 (qi : Int)
  p2 : L 2 = true → x26 = .pointer (some ⟨E, qi, none⟩)
  p3 : L 3 = true → x27 = .int .i64 (en : Int)
  p4 : L 4 = true → x28 = .slice (some ⟨B, 0, none⟩) nl lc
  p5 : L 5 = true → x29 = .int .i64 (qi : Int)
  p6 : L 6 = true → x30 = .pointer (some ⟨B, qi, none⟩)
  p7 : L 7 = true → x31 = .iface 63 (.agg #[.slice (some ⟨B2, off2, none⟩) k c2])
  p8 : L 8 = true → x32 = .int .i64 (k : Int)
  p9 : L 9 = true → x33 = .int .i64 (bg : Int)
  p10 : L 10 = true → x34 = .slice (some ⟨E, 0, none⟩) nl nl
  p11 : L 11 = true → x35 = .int .i64 (qi : Int)
  p12 : L 12 = true → x36 = .pointer (some ⟨E, qi, none⟩)
  p13 : L 13 = true → x37 = .int .i64 (en : Int)
  p14 : L 14 = true → x38 = .int .i64 (tt : Int)
  p15 : L 15 = true → x39 = .int .i64 (mn : Int)
  p16 : L 16 = true → x12 = .int .i64 (bg : Int)
  p17 : L 17 = true → x13 = .int .i64 (mn : Int)
section
variable {W1 : World} {E B qi nl lc en k bg mn tt : Nat} {B2 off2 c2 : Nat} {L : Nat → Bool} {x24 x25 x26 x27 x28 x29 x30 x31 x32 x33 x34 x35 x36 x37 x38 x39 x12 x13 : Value} {W W2 : World}
theorem WI4L.s0 (h : WI4L W1 E B qi nl lc en k bg mn tt B2 off2 c2 L x24 x25 x26 x27 x28 x29 x30 x31 x32 x33 x34 x35 x36 x37 x38 x39 x12 x13 W) : WI4L W1 E B qi nl lc en k bg mn tt B2 off2 c2 (upd L 0) (.slice (some ⟨E, 0, none⟩) nl nl) x25 x26 x27 x28 x29 x30 x31 x32 x33 x34 x35 x36 x37 x38 x39 x12 x13 W :=
  ⟨h.x, fun _ => rfl, h.p1, h.p2, h.p3, h.p4, h.p5, h.p6, h.p7, h.p8, h.p9, h.p10, h.p11, h.p12, h.p13, h.p14, h.p15, h.p16, h.p17⟩
theorem WI4L.s1 (h : WI4L W1 E B qi nl lc en k bg mn tt B2 off2 c2 L x24 x25 x26 x27 x28 x29 x30 x31 x32 x33 x34 x35 x36 x37 x38 x39 x12 x13 W) : WI4L W1 E B qi nl lc en k bg mn tt B2 off2 c2 (upd L 1) x24 (.int .i64 (qi : Int)) x26 x27 x28 x29 x30 x31 x32 x33 x34 x35 x36 x37 x38 x39 x12 x13 W :=
  ⟨h.x, h.p0, fun _ => rfl, h.p2, h.p3, h.p4, h.p5, h.p6, h.p7, h.p8, h.p9, h.p10, h.p11, h.p12, h.p13, h.p14, h.p15, h.p16, h.p17⟩
theorem WI4L.s2 (h : WI4L W1 E B qi nl lc en k bg mn tt B2 off2 c2 L x24 x25 x26 x27 x28 x29 x30 x31 x32 x33 x34 x35 x36 x37 x38 x39 x12 x13 W) : WI4L W1 E B qi nl lc en k bg mn tt B2 off2 c2 (upd L 2) x24 x25 (.pointer (some ⟨E, qi, none⟩)) x27 x28 x29 x30 x31 x32 x33 x34 x35 x36 x37 x38 x39 x12 x13 W :=
  ⟨h.x, h.p0, h.p1, fun _ => rfl, h.p3, h.p4, h.p5, h.p6, h.p7, h.p8, h.p9, h.p10, h.p11, h.p12, h.p13, h.p14, h.p15, h.p16, h.p17⟩
theorem WI4L.s3 (h : WI4L W1 E B qi nl lc en k bg mn tt B2 off2 c2 L x24 x25 x26 x27 x28 x29 x30 x31 x32 x33 x34 x35 x36 x37 x38 x39 x12 x13 W) : WI4L W1 E B qi nl lc en k bg mn tt B2 off2 c2 (upd L 3) x24 x25 x26 (.int .i64 (en : Int)) x28 x29 x30 x31 x32 x33 x34 x35 x36 x37 x38 x39 x12 x13 W :=
  ⟨h.x, h.p0, h.p1, h.p2, fun _ => rfl, h.p4, h.p5, h.p6, h.p7, h.p8, h.p9, h.p10, h.p11, h.p12, h.p13, h.p14, h.p15, h.p16, h.p17⟩
theorem WI4L.s4 (h : WI4L W1 E B qi nl lc en k bg mn tt B2 off2 c2 L x24 x25 x26 x27 x28 x29 x30 x31 x32 x33 x34 x35 x36 x37 x38 x39 x12 x13 W) : WI4L W1 E B qi nl lc en k bg mn tt B2 off2 c2 (upd L 4) x24 x25 x26 x27 (.slice (some ⟨B, 0, none⟩) nl lc) x29 x30 x31 x32 x33 x34 x35 x36 x37 x38 x39 x12 x13 W :=
  ⟨h.x, h.p0, h.p1, h.p2, h.p3, fun _ => rfl, h.p5, h.p6, h.p7, h.p8, h.p9, h.p10, h.p11, h.p12, h.p13, h.p14, h.p15, h.p16, h.p17⟩
theorem WI4L.s5 (h : WI4L W1 E B qi nl lc en k bg mn tt B2 off2 c2 L x24 x25 x26 x27 x28 x29 x30 x31 x32 x33 x34 x35 x36 x37 x38 x39 x12 x13 W) : WI4L W1 E B qi nl lc en k bg mn tt B2 off2 c2 (upd L 5) x24 x25 x26 x27 x28 (.int .i64 (qi : Int)) x30 x31 x32 x33 x34 x35 x36 x37 x38 x39 x12 x13 W :=
  ⟨h.x, h.p0, h.p1, h.p2, h.p3, h.p4, fun _ => rfl, h.p6, h.p7, h.p8, h.p9, h.p10, h.p11, h.p12, h.p13, h.p14, h.p15, h.p16, h.p17⟩
theorem WI4L.s6 (h : WI4L W1 E B qi nl lc en k bg mn tt B2 off2 c2 L x24 x25 x26 x27 x28 x29 x30 x31 x32 x33 x34 x35 x36 x37 x38 x39 x12 x13 W) : WI4L W1 E B qi nl lc en k bg mn tt B2 off2 c2 (upd L 6) x24 x25 x26 x27 x28 x29 (.pointer (some ⟨B, qi, none⟩)) x31 x32 x33 x34 x35 x36 x37 x38 x39 x12 x13 W :=
  ⟨h.x, h.p0, h.p1, h.p2, h.p3, h.p4, h.p5, fun _ => rfl, h.p7, h.p8, h.p9, h.p10, h.p11, h.p12, h.p13, h.p14, h.p15, h.p16, h.p17⟩
theorem WI4L.s7 (h : WI4L W1 E B qi nl lc en k bg mn tt B2 off2 c2 L x24 x25 x26 x27 x28 x29 x30 x31 x32 x33 x34 x35 x36 x37 x38 x39 x12 x13 W) : WI4L W1 E B qi nl lc en k bg mn tt B2 off2 c2 (upd L 7) x24 x25 x26 x27 x28 x29 x30 (.iface 63 (.agg #[.slice (some ⟨B2, off2, none⟩) k c2])) x32 x33 x34 x35 x36 x37 x38 x39 x12 x13 W :=
  ⟨h.x, h.p0, h.p1, h.p2, h.p3, h.p4, h.p5, h.p6, fun _ => rfl, h.p8, h.p9, h.p10, h.p11, h.p12, h.p13, h.p14, h.p15, h.p16, h.p17⟩
theorem WI4L.s8 (h : WI4L W1 E B qi nl lc en k bg mn tt B2 off2 c2 L x24 x25 x26 x27 x28 x29 x30 x31 x32 x33 x34 x35 x36 x37 x38 x39 x12 x13 W) (hX : Below W1.heap.size W1 W2) : WI4L W1 E B qi nl lc en k bg mn tt B2 off2 c2 (upd L 8) x24 x25 x26 x27 x28 x29 x30 x31 (.int .i64 (k : Int)) x33 x34 x35 x36 x37 x38 x39 x12 x13 W2 :=
  ⟨hX, h.p0, h.p1, h.p2, h.p3, h.p4, h.p5, h.p6, h.p7, fun _ => rfl, h.p9, h.p10, h.p11, h.p12, h.p13, h.p14, h.p15, h.p16, h.p17⟩
theorem WI4L.s9 (h : WI4L W1 E B qi nl lc en k bg mn tt B2 off2 c2 L x24 x25 x26 x27 x28 x29 x30 x31 x32 x33 x34 x35 x36 x37 x38 x39 x12 x13 W) : WI4L W1 E B qi nl lc en k bg mn tt B2 off2 c2 (upd L 9) x24 x25 x26 x27 x28 x29 x30 x31 x32 (.int .i64 (bg : Int)) x34 x35 x36 x37 x38 x39 x12 x13 W :=
  ⟨h.x, h.p0, h.p1, h.p2, h.p3, h.p4, h.p5, h.p6, h.p7, h.p8, fun _ => rfl, h.p10, h.p11, h.p12, h.p13, h.p14, h.p15, h.p16, h.p17⟩
theorem WI4L.s10 (h : WI4L W1 E B qi nl lc en k bg mn tt B2 off2 c2 L x24 x25 x26 x27 x28 x29 x30 x31 x32 x33 x34 x35 x36 x37 x38 x39 x12 x13 W) : WI4L W1 E B qi nl lc en k bg mn tt B2 off2 c2 (upd L 10) x24 x25 x26 x27 x28 x29 x30 x31 x32 x33 (.slice (some ⟨E, 0, none⟩) nl nl) x35 x36 x37 x38 x39 x12 x13 W :=
  ⟨h.x, h.p0, h.p1, h.p2, h.p3, h.p4, h.p5, h.p6, h.p7, h.p8, h.p9, fun _ => rfl, h.p11, h.p12, h.p13, h.p14, h.p15, h.p16, h.p17⟩
theorem WI4L.s11 (h : WI4L W1 E B qi nl lc en k bg mn tt B2 off2 c2 L x24 x25 x26 x27 x28 x29 x30 x31 x32 x33 x34 x35 x36 x37 x38 x39 x12 x13 W) : WI4L W1 E B qi nl lc en k bg mn tt B2 off2 c2 (upd L 11) x24 x25 x26 x27 x28 x29 x30 x31 x32 x33 x34 (.int .i64 (qi : Int)) x36 x37 x38 x39 x12 x13 W :=
  ⟨h.x, h.p0, h.p1, h.p2, h.p3, h.p4, h.p5, h.p6, h.p7, h.p8, h.p9, h.p10, fun _ => rfl, h.p12, h.p13, h.p14, h.p15, h.p16, h.p17⟩
theorem WI4L.s12 (h : WI4L W1 E B qi nl lc en k bg mn tt B2 off2 c2 L x24 x25 x26 x27 x28 x29 x30 x31 x32 x33 x34 x35 x36 x37 x38 x39 x12 x13 W) : WI4L W1 E B qi nl lc en k bg mn tt B2 off2 c2 (upd L 12) x24 x25 x26 x27 x28 x29 x30 x31 x32 x33 x34 x35 (.pointer (some ⟨E, qi, none⟩)) x37 x38 x39 x12 x13 W :=
  ⟨h.x, h.p0, h.p1, h.p2, h.p3, h.p4, h.p5, h.p6, h.p7, h.p8, h.p9, h.p10, h.p11, fun _ => rfl, h.p13, h.p14, h.p15, h.p16, h.p17⟩
theorem WI4L.s13 (h : WI4L W1 E B qi nl lc en k bg mn tt B2 off2 c2 L x24 x25 x26 x27 x28 x29 x30 x31 x32 x33 x34 x35 x36 x37 x38 x39 x12 x13 W) : WI4L W1 E B qi nl lc en k bg mn tt B2 off2 c2 (upd L 13) x24 x25 x26 x27 x28 x29 x30 x31 x32 x33 x34 x35 x36 (.int .i64 (en : Int)) x38 x39 x12 x13 W :=
  ⟨h.x, h.p0, h.p1, h.p2, h.p3, h.p4, h.p5, h.p6, h.p7, h.p8, h.p9, h.p10, h.p11, h.p12, fun _ => rfl, h.p14, h.p15, h.p16, h.p17⟩
theorem WI4L.s14 (h : WI4L W1 E B qi nl lc en k bg mn tt B2 off2 c2 L x24 x25 x26 x27 x28 x29 x30 x31 x32 x33 x34 x35 x36 x37 x38 x39 x12 x13 W) : WI4L W1 E B qi nl lc en k bg mn tt B2 off2 c2 (upd L 14) x24 x25 x26 x27 x28 x29 x30 x31 x32 x33 x34 x35 x36 x37 (.int .i64 (tt : Int)) x39 x12 x13 W :=
  ⟨h.x, h.p0, h.p1, h.p2, h.p3, h.p4, h.p5, h.p6, h.p7, h.p8, h.p9, h.p10, h.p11, h.p12, h.p13, fun _ => rfl, h.p15, h.p16, h.p17⟩
theorem WI4L.s15 (h : WI4L W1 E B qi nl lc en k bg mn tt B2 off2 c2 L x24 x25 x26 x27 x28 x29 x30 x31 x32 x33 x34 x35 x36 x37 x38 x39 x12 x13 W) : WI4L W1 E B qi nl lc en k bg mn tt B2 off2 c2 (upd L 15) x24 x25 x26 x27 x28 x29 x30 x31 x32 x33 x34 x35 x36 x37 x38 (.int .i64 (mn : Int)) x12 x13 W :=
  ⟨h.x, h.p0, h.p1, h.p2, h.p3, h.p4, h.p5, h.p6, h.p7, h.p8, h.p9, h.p10, h.p11, h.p12, h.p13, h.p14, fun _ => rfl, h.p16, h.p17⟩
theorem WI4L.s16 (h : WI4L W1 E B qi nl lc en k bg mn tt B2 off2 c2 L x24 x25 x26 x27 x28 x29 x30 x31 x32 x33 x34 x35 x36 x37 x38 x39 x12 x13 W) : WI4L W1 E B qi nl lc en k bg mn tt B2 off2 c2 (upd L 16) x24 x25 x26 x27 x28 x29 x30 x31 x32 x33 x34 x35 x36 x37 x38 x39 (.int .i64 (bg : Int)) x13 W :=
  ⟨h.x, h.p0, h.p1, h.p2, h.p3, h.p4, h.p5, h.p6, h.p7, h.p8, h.p9, h.p10, h.p11, h.p12, h.p13, h.p14, h.p15, fun _ => rfl, h.p17⟩
theorem WI4L.s17 (h : WI4L W1 E B qi nl lc en k bg mn tt B2 off2 c2 L x24 x25 x26 x27 x28 x29 x30 x31 x32 x33 x34 x35 x36 x37 x38 x39 x12 x13 W) : WI4L W1 E B qi nl lc en k bg mn tt B2 off2 c2 (upd L 17) x24 x25 x26 x27 x28 x29 x30 x31 x32 x33 x34 x35 x36 x37 x38 x39 x12 (.int .i64 (mn : Int)) W :=
  ⟨h.x, h.p0, h.p1, h.p2, h.p3, h.p4, h.p5, h.p6, h.p7, h.p8, h.p9, h.p10, h.p11, h.p12, h.p13, h.p14, h.p15, h.p16, fun _ => rfl⟩
end
@[reducible] def IWI4L (W1 : World) (E B qi nl lc en k bg mn tt : Nat) (B2 off2 c2 : Nat) (y0 y1 y2 y3 y4 y5 y6 y7 y8 y9 y10 y11 y14 y15 y16 y17 y18 y19 y20 y21 y22 y23 y40 y41 y42 y43 y44 y45 y46 y47 y48 y49 y50 y51 y52 y53 y54 y55 y56 y57 : Value) : (Nat → Bool) → Act → World → Prop := fun L a W => ∃ x24 x25 x26 x27 x28 x29 x30 x31 x32 x33 x34 x35 x36 x37 x38 x39 x12 x13, a = ⟨#[y0, y1, y2, y3, y4, y5, y6, y7, y8, y9, y10, y11, x12, x13, y14, y15, y16, y17, y18, y19, y20, y21, y22, y23, x24, x25, x26, x27, x28, x29, x30, x31, x32, x33, x34, x35, x36, x37, x38, x39, y40, y41, y42, y43, y44, y45, y46, y47, y48, y49, y50, y51, y52, y53, y54, y55, y56, y57], []⟩ ∧ WI4L W1 E B qi nl lc en k bg mn tt B2 off2 c2 L x24 x25 x26 x27 x28 x29 x30 x31 x32 x33 x34 x35 x36 x37 x38 x39 x12 x13 W
theorem WI4L.step {W1 : World} {E B qi nl lc en k bg mn tt : Nat} {B2 off2 c2 : Nat} {y0 y1 y2 y3 y4 y5 y6 y7 y8 y9 y10 y11 y14 y15 y16 y17 y18 y19 y20 y21 y22 y23 y40 y41 y42 y43 y44 y45 y46 y47 y48 y49 y50 y51 y52 y53 y54 y55 y56 y57 : Value} {P : Program} {ops : Array Oper} {Q : Exit → Act → World → Prop} {i : Nat} {o : Oper} (hq : ∀ x24 x25 x26 x27 x28 x29 x30 x31 x32 x33 x34 x35 x36 x37 x38 x39 x12 x13 (L : Nat → Bool) (W : World), WI4L W1 E B qi nl lc en k bg mn tt B2 off2 c2 L x24 x25 x26 x27 x28 x29 x30 x31 x32 x33 x34 x35 x36 x37 x38 x39 x12 x13 W → L i = false → (∀ j ∈ onesOf o, L j = true) → ∀ K : Act → World → Prop, Shut (∀ a' w', IWI4L W1 E B qi nl lc en k bg mn tt B2 off2 c2 y0 y1 y2 y3 y4 y5 y6 y7 y8 y9 y10 y11 y14 y15 y16 y17 y18 y19 y20 y21 y22 y23 y40 y41 y42 y43 y44 y45 y46 y47 y48 y49 y50 y51 y52 y53 y54 y55 y56 y57 (upd L i) a' w' → K a' w') → if Region.wanted o (yielded ops (⟨#[y0, y1, y2, y3, y4, y5, y6, y7, y8, y9, y10, y11, x12, x13, y14, y15, y16, y17, y18, y19, y20, y21, y22, y23, x24, x25, x26, x27, x28, x29, x30, x31, x32, x33, x34, x35, x36, x37, x38, x39, y40, y41, y42, y43, y44, y45, y46, y47, y48, y49, y50, y51, y52, y53, y54, y55, y56, y57], []⟩ : Act).tmps) = true then Oper.wp P o ⟨#[y0, y1, y2, y3, y4, y5, y6, y7, y8, y9, y10, y11, x12, x13, y14, y15, y16, y17, y18, y19, y20, y21, y22, y23, x24, x25, x26, x27, x28, x29, x30, x31, x32, x33, x34, x35, x36, x37, x38, x39, y40, y41, y42, y43, y44, y45, y46, y47, y48, y49, y50, y51, y52, y53, y54, y55, y56, y57], []⟩ W K Q else K ((⟨#[y0, y1, y2, y3, y4, y5, y6, y7, y8, y9, y10, y11, x12, x13, y14, y15, y16, y17, y18, y19, y20, y21, y22, y23, x24, x25, x26, x27, x28, x29, x30, x31, x32, x33, x34, x35, x36, x37, x38, x39, y40, y41, y42, y43, y44, y45, y46, y47, y48, y49, y50, y51, y52, y53, y54, y55, y56, y57], []⟩ : Act).put o.dst undef) W) : StepI P ops (IWI4L W1 E B qi nl lc en k bg mn tt B2 off2 c2 y0 y1 y2 y3 y4 y5 y6 y7 y8 y9 y10 y11 y14 y15 y16 y17 y18 y19 y20 y21 y22 y23 y40 y41 y42 y43 y44 y45 y46 y47 y48 y49 y50 y51 y52 y53 y54 y55 y56 y57) Q i o := by
  rintro L a W ⟨x24, x25, x26, x27, x28, x29, x30, x31, x32, x33, x34, x35, x36, x37, x38, x39, x12, x13, rfl, h⟩
  exact hq _ _ _ _ _ _ _ _ _ _ _ _ _ _ _ _ _ _ _ _ h
theorem WI4L.ends {W1 : World} {E B qi nl lc en k bg mn tt : Nat} {B2 off2 c2 : Nat} {y0 y1 y2 y3 y4 y5 y6 y7 y8 y9 y10 y11 y14 y15 y16 y17 y18 y19 y20 y21 y22 y23 y40 y41 y42 y43 y44 y45 y46 y47 y48 y49 y50 y51 y52 y53 y54 y55 y56 y57 : Value} {mm_ : Nat} {Q : Exit → Act → World → Prop} (hq : ∀ x24 x25 x26 x27 x28 x29 x30 x31 x32 x33 x34 x35 x36 x37 x38 x39 x12 x13 (L : Nat → Bool) (W : World), (∀ j, j < mm_ → L j = true) → WI4L W1 E B qi nl lc en k bg mn tt B2 off2 c2 L x24 x25 x26 x27 x28 x29 x30 x31 x32 x33 x34 x35 x36 x37 x38 x39 x12 x13 W → Q .normal ⟨#[y0, y1, y2, y3, y4, y5, y6, y7, y8, y9, y10, y11, x12, x13, y14, y15, y16, y17, y18, y19, y20, y21, y22, y23, x24, x25, x26, x27, x28, x29, x30, x31, x32, x33, x34, x35, x36, x37, x38, x39, y40, y41, y42, y43, y44, y45, y46, y47, y48, y49, y50, y51, y52, y53, y54, y55, y56, y57], []⟩ W) : ∀ L a' w', (∀ j, j < mm_ → L j = true) → IWI4L W1 E B qi nl lc en k bg mn tt B2 off2 c2 y0 y1 y2 y3 y4 y5 y6 y7 y8 y9 y10 y11 y14 y15 y16 y17 y18 y19 y20 y21 y22 y23 y40 y41 y42 y43 y44 y45 y46 y47 y48 y49 y50 y51 y52 y53 y54 y55 y56 y57 L a' w' → Q .normal a' w' := by
  rintro L a W hall ⟨x24, x25, x26, x27, x28, x29, x30, x31, x32, x33, x34, x35, x36, x37, x38, x39, x12, x13, rfl, h⟩
  exact hq _ _ _ _ _ _ _ _ _ _ _ _ _ _ _ _ _ _ _ _ hall h
set_option maxHeartbeats 2000000 in
theorem cwithin_any (N bef : Nat) (w : World) (l : List Pt) (lo : Option Addr) (lc E f0 k0 : Nat) (hN : N ≤ w.heap.size) (h : PaR N w l lo lc) (hE : Row w E 3 (endsTo l l.length l.length)) (hy : ∀ y ∈ l, PtR bef y) (hbef : bef ≤ 524288) (hs : sumN l ≤ 524288) (hl : l.length ≤ 524288) (hk : f0 + k0 ≤ sumN l) :
    Calls Tryd.prog 31 #[.slice lo l.length lc, .slice (some ⟨E, 0, none⟩) l.length l.length, .int .i64 (f0 : Int), .int .i64 ((f0 + k0 : Nat) : Int)] w (WitQ w.heap.size N w (wthn l (f0 + k0) l.length (fstI l f0) f0)) := by
  have FB := cbin_any w E l f0 hE hl (by omega)
  obtain ⟨s1, s2, s3⟩ := fstI_spec l f0
  have HH : Hid (∀ W, Below w.heap.size w W → PaR N W l lo lc ∧ Row W E 3 (endsTo l l.length l.length)) := fun W hW => ⟨h.keep hW, hE.below hW hE.lt⟩
  have HY : Hid (∀ y ∈ l, PtR bef y) := hy
  have HN : Hid (N ≤ w.heap.size) := hN
  obtain ⟨t, ht⟩ : ∃ t, t = f0 + k0 := ⟨_, rfl⟩
  rw [← ht] at hk ⊢
  have H0 : Hid (fstI l f0 ≤ l.length ∧ (f0 < t → sumN (l.take (fstI l f0)) ≤ f0 ∧ fstI l f0 < l.length ∧ f0 < sumN (l.take (fstI l f0 + 1))) ∧ f0 ≤ t) := ⟨s1, fun hh => ⟨s2, s3 (by omega)⟩, by omega⟩
  have hf0 : f0 ≤ 524288 := by omega
  clear h hE hy hN s1 s2 s3 ht
  have z0 : IntKind.i64.wrap ((f0 : Int) + 1) = ((f0 + 1 : Nat) : Int) := by rw [i64_in _ (by omega) (by omega)]; push_cast; rfl
  obtain ⟨R, hR⟩ : ∃ R, R = wthn l t l.length (fstI l f0) f0 := ⟨_, rfl⟩
  have HR : Hid (R = wthn l t l.length (fstI l f0) f0) := hR
  rw [← hR]
  clear hR
  generalize hi0 : fstI l f0 = i0 at *
  generalize hf01 : f0 + 1 = f01 at *
  have FB2 : Calls Tryd.prog 44 #[.slice (some ⟨E, 0, none⟩) l.length l.length, .int .i64 (f01 : Int)] w fun e w' => w' = w ∧ ∃ b, e = .returned (.tuple #[.int .i64 (i0 : Int), .bool b]) := FB.mono fun e w' hh => by unfold BinP at hh; rw [hi0] at hh; exact hh
  clear hi0 hf01 FB
  go_enter Tryd.func31, Tryd.ntmps31
  go_wp2_with fail
  refine FB2.mono ?_
  rintro e w2 ⟨hw2, b, rfl⟩
  subst hw2
  clear FB2
  dsimp only
  go_wp2
  go_loopw [2, 9, 10] (fun fv sv iv wr => ∃ (i f : Nat) (out : List Pt) (lo' : Option Addr) (lc' : Nat), f ≤ t ∧ fv = .int .i64 (f : Int) ∧ sv = .slice lo' out.length lc' ∧ iv = .int .i64 (i : Int) ∧ Hid (PaQ w2.heap.size N wr out lo' lc' ∧ Below w2.heap.size w2 wr ∧ ∃ kk, l.length - i ≤ kk ∧ i ≤ l.length ∧ out.length ≤ i ∧ R = out ++ wthn l t kk i f ∧ (f < t → sumN (l.take i) ≤ f ∧ i < l.length ∧ f < sumN (l.take (i + 1))))) (fun fv _ _ _ => t - (intOf fv).toNat)
  case atStart => exact ⟨i0, f0, [], none, 0, H0.out.2.2, rfl, rfl, rfl, PaQ.nil HN.out (Nat.le_refl _), Below.refl _ _, l.length, by omega, H0.out.1, Nat.zero_le _, HR.out, H0.out.2.1⟩
  case round =>
    obtain ⟨i, f, out, lo', lc', hft, rfl, rfl, rfl, HI⟩ := hrel
    obtain ⟨kk, hk1, hk2, hk3, hk4, hk5⟩ := HI.out.2.2
    clear H0 HR
    by_cases hlt : f < t
    · have x1 : (f : Int) < (t : Int) := by omega
      obtain ⟨g1, g2, g3⟩ := hk5 hlt
      obtain ⟨y, hy⟩ : ∃ y, l[i]? = some y := ⟨_, List.getElem?_eq_getElem g2⟩
      have hyr := HY.out y (List.mem_of_getElem? hy)
      have hsu := sumN_take_succ hy
      have hsl := sumN_take_le l (i + 1)
      obtain ⟨hP, hE⟩ := HH.out _ HI.out.2.1
      obtain ⟨B, v, e, hc, hv⟩ := hP.at hy
      obtain ⟨ylay, yfrm, k, yb⟩ := y
      simp only at hsu
      have hpos : 1 ≤ k := hyr.pos
      obtain ⟨bg, hbg⟩ : ∃ bg, bg = sumN (l.take i) := ⟨_, rfl⟩
      obtain ⟨en, hen⟩ : ∃ en, en = bg + k := ⟨_, rfl⟩
      obtain ⟨mn, hmn⟩ : ∃ mn, mn = min en t := ⟨_, rfl⟩
      have henE : endN l i = en := by unfold endN; rw [hsu]; omega
      have CE : Hid (∀ W, Below wr.heap.size wr W → W.cell? ⟨E, i, none⟩ = some (.int .i64 (en : Int))) := fun W hW => by
        have := (hE.below hW hE.lt).cell i _ (endsTo_at l l.length l.length i g2)
        rw [if_pos g2, henE] at this
        exact this
      have CV : Hid (∀ W, Below wr.heap.size wr W → W.cell? ⟨B, i, none⟩ = some v) := fun W hW => (hW.cell (cell_lt25 hc)).trans hc
      have HVV : Hid (∀ W, Below wr.heap.size wr W → PaV N W ⟨ylay, yfrm, k, yb⟩ v) := fun W hW => hv.keep (hW.mono (Nat.le_trans HN.out HI.out.2.1.size))
      have E1 : (if t < en then (t : Int) else (en : Int)) = (mn : Int) := by rw [hmn]; split <;> omega
      have z1 : IntKind.i64.wrap ((en : Int) - (k : Int)) = (bg : Int) := by rw [i64_in _ (by omega) (by omega)]; omega
      have z2 : IntKind.i64.wrap ((f : Int) - (bg : Int)) = ((f - bg : Nat) : Int) := by rw [i64_in _ (by omega) (by omega)]; omega
      have z3 : IntKind.i64.wrap ((mn : Int) - (bg : Int)) = ((mn - bg : Nat) : Int) := by rw [i64_in _ (by omega) (by omega)]; omega
      have z4 : IntKind.i64.wrap ((i : Int) + 1) = (i : Int) + 1 := i64_in _ (by omega) (by omega)
      have y0 : (0 : Int) ≤ (i : Int) := by omega
      have y1 : (i : Int) < (l.length : Int) := by omega
      have hab : f - bg < mn - bg := by omega
      have hbk : mn - bg ≤ k := by omega
      have HOL : Hid (out.length ≤ 524288) := by show _ ≤ _; omega
      have HMT : Hid (mn ≤ t) := by show _ ≤ _; omega
      have HMF : Hid (f < mn ∧ mn ≤ t) := ⟨by omega, by omega⟩
      have HNX : Hid (∃ kk, l.length - (i + 1) ≤ kk ∧ i + 1 ≤ l.length ∧ (out ++ [cutP ⟨ylay, yfrm, k, yb⟩ (f - bg) (mn - bg)]).length ≤ i + 1 ∧ R = out ++ [cutP ⟨ylay, yfrm, k, yb⟩ (f - bg) (mn - bg)] ++ wthn l t kk (i + 1) mn ∧ (mn < t → sumN (l.take (i + 1)) ≤ mn ∧ i + 1 < l.length ∧ mn < sumN (l.take (i + 1 + 1)))) := by
        obtain ⟨k1, rfl⟩ : ∃ k1, kk = k1 + 1 := ⟨kk - 1, by omega⟩
        refine ⟨k1, by omega, by omega, by rw [List.length_append]; simp; omega, ?_, fun hm => ?_⟩
        · rw [hk4, wthn, if_pos hlt, hy, List.append_assoc]
          simp only [← hbg, ← hen, ← hmn]
          rfl
        · have e1 : mn = sumN (l.take (i + 1)) := by rw [hsu]; omega
          have hi2 : i + 1 < l.length := by
            refine Nat.lt_of_not_le fun hh => ?_
            rw [List.take_of_length_le hh] at e1; omega
          refine ⟨by omega, hi2, ?_⟩
          obtain ⟨y2, hy2⟩ : ∃ y, l[i + 1]? = some y := ⟨_, List.getElem?_eq_getElem hi2⟩
          rw [sumN_take_succ hy2]
          have := (HY.out y2 (List.mem_of_getElem? hy2)).pos
          omega
      have hcp : ylay = false → yfrm + k ≤ bef := fun e => (hyr.cpy e).2
      have hmb : mn ≤ 524288 := by omega
      have hkk : k ≤ 524288 := by omega
      clear hk1 hk2 hk3 hk4 hk5 g1 g2 g3 hy hyr hsu hsl hP hE hc hv hbg hen hmn henE
      subst e
      rcases (HVV.out wr (Below.refl _ _)).eq with ⟨hlay, rfl⟩ | ⟨hlay, B2, off2, c2, rfl, hb1, hb2, hb3, hb4⟩
      · try dsimp only
        try dsimp only at CV
        have M1 := mSize_s
        have M2 := mCut_s
        have FZ : Hid (∀ W, Calls Tryd.prog 92 #[.agg #[.int .i64 (yfrm : Int), .int .i64 (k : Int)]] W fun e w' => e = .returned (.int .i64 (k : Int)) ∧ Below W.heap.size W w') := fun W => ssize_any yfrm k W
        have FC : Hid (∀ W, Calls Tryd.prog 90 #[.agg #[.int .i64 (yfrm : Int), .int .i64 (k : Int)], .int .i64 ((f - bg : Nat) : Int), .int .i64 ((mn - bg : Nat) : Int)] W fun e w' => e = .returned (spV (yfrm + (f - bg)) (mn - bg - (f - bg))) ∧ Below W.heap.size W w') := fun W => scut_any yfrm k (f - bg) (mn - bg) W (by omega) (by have := hcp hlay; omega)
        have HV3 : Hid (∀ W, Below wr.heap.size wr W → PaV N W (cutP ⟨ylay, yfrm, k, yb⟩ (f - bg) (mn - bg)) (spV (yfrm + (f - bg)) (mn - bg - (f - bg)))) := fun W hW => by
          subst hlay
          unfold cutP
          exact ⟨.inl ⟨rfl, rfl⟩⟩
        clear HVV hlay
        go_upto_region 4 with fail
        try dsimp only [Act.put]
        refine wp_region_inv (IWI4S wr E B i l.length lc en k bg mn t yfrm _ _ _ _ _ _ _ _ _ _ _ _ _ _ _ _ _ _ _ _ _ _ _ _ _ _ _ _ _ _ _ _ _ _ _ _ _ _ _ _) (by kernel_rfl) (by kernel_rfl) ⟨_, _, _, _, _, _, _, _, _, _, _, _, _, _, _, _, _, _, rfl, ⟨(Below.refl _ _).drew, fun k => (by cases k), fun k => (by cases k), fun k => (by cases k), fun k => (by cases k), fun k => (by cases k), fun k => (by cases k), fun k => (by cases k), fun k => (by cases k), fun k => (by cases k), fun k => (by cases k), fun k => (by cases k), fun k => (by cases k), fun k => (by cases k), fun k => (by cases k), fun k => (by cases k), fun k => (by cases k), fun k => (by cases k), fun k => (by cases k)⟩⟩ ?_ ?_
        · refine .cons ?_ (.cons ?_ (.cons ?_ (.cons ?_ (.cons ?_ (.cons ?_ (.cons ?_ (.cons ?_ (.cons ?_ (.cons ?_ (.cons ?_ (.cons ?_ (.cons ?_ (.cons ?_ (.cons ?_ (.cons ?_ (.cons ?_ (.cons ?_ .nil)))))))))))))))))
          all_goals (refine WI4S.step ?_; intro x24 x25 x26 x27 x28 x29 x30 x31 x32 x33 x34 x35 x36 x37 x38 x39 x12 x13 L W hI hL hd K hK)
          · rw [if_pos (by rfl)]
            go_simp
            exact hK.out _ _ ⟨_, _, _, _, _, _, _, _, _, _, _, _, _, _, _, _, _, _, rfl, hI.s0⟩
          · rw [if_pos (by rfl)]
            go_simp
            exact hK.out _ _ ⟨_, _, _, _, _, _, _, _, _, _, _, _, _, _, _, _, _, _, rfl, hI.s1⟩
          · have hx0 := hI.p0 (hd 0 (by decide))
            subst hx0
            have hx1 := hI.p1 (hd 1 (by decide))
            subst hx1
            rw [if_pos (by rfl)]
            go_simp
            exact hK.out _ _ ⟨_, _, _, _, _, _, _, _, _, _, _, _, _, _, _, _, _, _, rfl, hI.s2⟩
          · have hx2 := hI.p2 (hd 2 (by decide))
            subst hx2
            rw [if_pos (by rfl)]
            have hc := CE.out _ hI.x
            go_simp
            exact hK.out _ _ ⟨_, _, _, _, _, _, _, _, _, _, _, _, _, _, _, _, _, _, rfl, hI.s3⟩
          · rw [if_pos (by rfl)]
            go_simp
            exact hK.out _ _ ⟨_, _, _, _, _, _, _, _, _, _, _, _, _, _, _, _, _, _, rfl, hI.s4⟩
          · rw [if_pos (by rfl)]
            go_simp
            exact hK.out _ _ ⟨_, _, _, _, _, _, _, _, _, _, _, _, _, _, _, _, _, _, rfl, hI.s5⟩
          · have hx4 := hI.p4 (hd 4 (by decide))
            subst hx4
            have hx5 := hI.p5 (hd 5 (by decide))
            subst hx5
            rw [if_pos (by rfl)]
            go_simp
            exact hK.out _ _ ⟨_, _, _, _, _, _, _, _, _, _, _, _, _, _, _, _, _, _, rfl, hI.s6⟩
          · have hx6 := hI.p6 (hd 6 (by decide))
            subst hx6
            rw [if_pos (by rfl)]
            have hc := CV.out _ hI.x
            go_simp
            exact hK.out _ _ ⟨_, _, _, _, _, _, _, _, _, _, _, _, _, _, _, _, _, _, rfl, hI.s7⟩
          · have hx7 := hI.p7 (hd 7 (by decide))
            subst hx7
            rw [if_pos (by rfl)]
            go_simp
            refine (FZ.out W).mono ?_
            rintro e W2 ⟨rfl, b2⟩
            go_simp
            have hX := hI.x.trans (b2.mono hI.x.size)
            exact hK.out _ _ ⟨_, _, _, _, _, _, _, _, _, _, _, _, _, _, _, _, _, _, rfl, hI.s8 hX⟩
          · have hx3 := hI.p3 (hd 3 (by decide))
            subst hx3
            have hx8 := hI.p8 (hd 8 (by decide))
            subst hx8
            rw [if_pos (by rfl)]
            have hz1 := z1
            go_simp
            exact hK.out _ _ ⟨_, _, _, _, _, _, _, _, _, _, _, _, _, _, _, _, _, _, rfl, hI.s9⟩
          · rw [if_pos (by rfl)]
            go_simp
            exact hK.out _ _ ⟨_, _, _, _, _, _, _, _, _, _, _, _, _, _, _, _, _, _, rfl, hI.s10⟩
          · rw [if_pos (by rfl)]
            go_simp
            exact hK.out _ _ ⟨_, _, _, _, _, _, _, _, _, _, _, _, _, _, _, _, _, _, rfl, hI.s11⟩
          · have hx10 := hI.p10 (hd 10 (by decide))
            subst hx10
            have hx11 := hI.p11 (hd 11 (by decide))
            subst hx11
            rw [if_pos (by rfl)]
            go_simp
            exact hK.out _ _ ⟨_, _, _, _, _, _, _, _, _, _, _, _, _, _, _, _, _, _, rfl, hI.s12⟩
          · have hx12 := hI.p12 (hd 12 (by decide))
            subst hx12
            rw [if_pos (by rfl)]
            have hc := CE.out _ hI.x
            go_simp
            exact hK.out _ _ ⟨_, _, _, _, _, _, _, _, _, _, _, _, _, _, _, _, _, _, rfl, hI.s13⟩
          · rw [if_pos (by rfl)]
            go_simp
            exact hK.out _ _ ⟨_, _, _, _, _, _, _, _, _, _, _, _, _, _, _, _, _, _, rfl, hI.s14⟩
          · have hx13 := hI.p13 (hd 13 (by decide))
            subst hx13
            have hx14 := hI.p14 (hd 14 (by decide))
            subst hx14
            rw [if_pos (by rfl)]
            have hE1 := E1
            go_simp
            exact hK.out _ _ ⟨_, _, _, _, _, _, _, _, _, _, _, _, _, _, _, _, _, _, rfl, hI.s15⟩
          · have hx9 := hI.p9 (hd 9 (by decide))
            subst hx9
            rw [if_pos (by rfl)]
            go_simp
            exact hK.out _ _ ⟨_, _, _, _, _, _, _, _, _, _, _, _, _, _, _, _, _, _, rfl, hI.s16⟩
          · have hx15 := hI.p15 (hd 15 (by decide))
            subst hx15
            rw [if_pos (by rfl)]
            go_simp
            exact hK.out _ _ ⟨_, _, _, _, _, _, _, _, _, _, _, _, _, _, _, _, _, _, rfl, hI.s17⟩
        · refine WI4S.ends ?_; intro x24 x25 x26 x27 x28 x29 x30 x31 x32 x33 x34 x35 x36 x37 x38 x39 x12 x13 L W hall hI
          have hx0 := hI.p0 (hall 0 (by decide))
          subst hx0
          have hx1 := hI.p1 (hall 1 (by decide))
          subst hx1
          have hx2 := hI.p2 (hall 2 (by decide))
          subst hx2
          have hx3 := hI.p3 (hall 3 (by decide))
          subst hx3
          have hx4 := hI.p4 (hall 4 (by decide))
          subst hx4
          have hx5 := hI.p5 (hall 5 (by decide))
          subst hx5
          have hx6 := hI.p6 (hall 6 (by decide))
          subst hx6
          have hx7 := hI.p7 (hall 7 (by decide))
          subst hx7
          have hx8 := hI.p8 (hall 8 (by decide))
          subst hx8
          have hx9 := hI.p9 (hall 9 (by decide))
          subst hx9
          have hx10 := hI.p10 (hall 10 (by decide))
          subst hx10
          have hx11 := hI.p11 (hall 11 (by decide))
          subst hx11
          have hx12 := hI.p12 (hall 12 (by decide))
          subst hx12
          have hx13 := hI.p13 (hall 13 (by decide))
          subst hx13
          have hx14 := hI.p14 (hall 14 (by decide))
          subst hx14
          have hx15 := hI.p15 (hall 15 (by decide))
          subst hx15
          have hx16 := hI.p16 (hall 16 (by decide))
          subst hx16
          have hx17 := hI.p17 (hall 17 (by decide))
          subst hx17
          have hXe := hI.x
          clear hI hall
          try dsimp only
          have HW : Hid (Below wr.heap.size wr W) := hXe
          clear hXe
          generalize W = w5 at *
          have c5 := CV.out _ HW.out
          have HP5 : Hid (PaQ w2.heap.size N w5 out lo' lc' ∧ Below w2.heap.size w2 w5) := ⟨HI.out.1.keep HW.out, HI.out.2.1.trans (HW.out.mono HI.out.2.1.size)⟩
          go_wp2_with (first
            | (have hz := FC; clear hz; go_at_call 90; refine (FC.out _).mono ?_; rintro e w6 ⟨rfl, hb6⟩; have HP6 : Hid (PaQ w2.heap.size N w6 out lo' lc' ∧ Below w2.heap.size w2 w6 ∧ PaV N w6 (cutP ⟨ylay, yfrm, k, yb⟩ (f - bg) (mn - bg)) (spV (yfrm + (f - bg)) (mn - bg - (f - bg)))) := ⟨HP5.out.1.keep hb6, HP5.out.2.trans (hb6.mono HP5.out.2.size), HV3.out _ (HW.out.trans (hb6.mono HW.out.size))⟩; clear hb6 FC; obtain ⟨vs, v1, v2, v3⟩ := HP6.out.1.vs; have V1 : Hid (vs.length = out.length) := v1; have V2 : Hid (w6.ownsRow w2.heap.size 54 1 (.slice lo' out.length lc') out.length vs) := v2; have V3 : Hid (∀ (i : Nat) (y : Pt) (v : Value), out[i]? = some y → vs[i]? = some v → PaV N w6 y v) := v3; clear v1 v2 v3)
            | (have hz := V2; clear hz; at_builtin; refine wpList_append_part rfl (.tmp 40) (.tmp 52) rfl w2.heap.size HP6.out.1.sz lo' out.length lc' vs rfl V2.out w6.heap.size rfl rfl (spV (yfrm + (f - bg)) (mn - bg - (f - bg))) rfl (by have := HOL.out; omega) ?_; intro lo3 lc3 w7 ho3 hg3; have H7 : Hid (PaQ w2.heap.size N w7 (out ++ [cutP ⟨ylay, yfrm, k, yb⟩ (f - bg) (mn - bg)]) lo3 lc3 ∧ Below w2.heap.size w2 w7) := ⟨PaQ.snoc HN.out (Nat.le_trans HP6.out.1.sz hg3.size) V1.out (fun i z u hz hu => (V3.out i z u hz hu).keep (hg3.bel.mono HN.out)) ho3 (HP6.out.2.2.keep (hg3.bel.mono HN.out)), HP6.out.2.1.trans hg3.bel⟩; clear ho3 hg3 V2))
          refine ⟨⟨i + 1, mn, out ++ [cutP ⟨ylay, yfrm, k, yb⟩ (f - bg) (mn - bg)], lo3, lc3, HMT.out, rfl, by rw [List.length_append]; rfl, by go_num, H7.out.1, H7.out.2, HNX.out⟩, ?_⟩
          have := HMF.out
          simp [intOf]; omega
      · try dsimp only
        try dsimp only at CV
        try dsimp only at hb1
        try dsimp only at hb2
        try dsimp only at hb3
        have M1 := mSize_l
        have M2 := mCut_l
        have FZ : Hid (∀ W, Calls Tryd.prog 88 #[.agg #[.slice (some ⟨B2, off2, none⟩) k c2]] W fun e w' => e = .returned (.int .i64 (k : Int)) ∧ Below W.heap.size W w') := fun W => lsize_any (some ⟨B2, off2, none⟩) k c2 W
        have FC : Hid (∀ W, Calls Tryd.prog 86 #[.agg #[.slice (some ⟨B2, off2, none⟩) k c2], .int .i64 ((f - bg : Nat) : Int), .int .i64 ((mn - bg : Nat) : Int)] W fun e w' => e = .returned (layV (some ⟨B2, off2 + (f - bg), none⟩) (mn - bg - (f - bg)) (c2 - (f - bg))) ∧ Below W.heap.size W w') := fun W => lcut_any B2 off2 k c2 (f - bg) (mn - bg) W hab hbk hb3 (by have := HMF.out; omega)
        have HV3 : Hid (∀ W, Below wr.heap.size wr W → PaV N W (cutP ⟨ylay, yfrm, k, yb⟩ (f - bg) (mn - bg)) (layV (some ⟨B2, off2 + (f - bg), none⟩) (mn - bg - (f - bg)) (c2 - (f - bg)))) := fun W hW => by
          rcases (HVV.out W hW).eq with ⟨e1, _⟩ | ⟨_, B', off', c', e1, i1, _, _, i4⟩
          · rw [hlay] at e1; cases e1
          · have hB := layV_blk e1
            injection e1 with _ e1
            injection e1 with e1
            injection e1 with e1
            injection e1 with e1 _
            injection e1 with e1 _ e3
            injection e1 with e1
            injection e1 with _ e2
            subst hB; subst e2; subst e3; subst hlay
            unfold cutP
            refine ⟨.inr ⟨rfl, B2, off2 + (f - bg), c2 - (f - bg), rfl, isb_takek (isb_dropk i1 _) _, ?_, ?_, i4⟩⟩
            · show (List.take _ (List.drop _ yb)).length = mn - bg - (f - bg)
              rw [List.length_take, List.length_drop, hb2]; omega
            · show mn - bg - (f - bg) ≤ c2 - (f - bg)
              omega
        clear HVV hlay
        go_upto_region 4 with fail
        try dsimp only [Act.put]
        refine wp_region_inv (IWI4L wr E B i l.length lc en k bg mn t B2 off2 c2 _ _ _ _ _ _ _ _ _ _ _ _ _ _ _ _ _ _ _ _ _ _ _ _ _ _ _ _ _ _ _ _ _ _ _ _ _ _ _ _) (by kernel_rfl) (by kernel_rfl) ⟨_, _, _, _, _, _, _, _, _, _, _, _, _, _, _, _, _, _, rfl, ⟨(Below.refl _ _).drew, fun k => (by cases k), fun k => (by cases k), fun k => (by cases k), fun k => (by cases k), fun k => (by cases k), fun k => (by cases k), fun k => (by cases k), fun k => (by cases k), fun k => (by cases k), fun k => (by cases k), fun k => (by cases k), fun k => (by cases k), fun k => (by cases k), fun k => (by cases k), fun k => (by cases k), fun k => (by cases k), fun k => (by cases k), fun k => (by cases k)⟩⟩ ?_ ?_
        · refine .cons ?_ (.cons ?_ (.cons ?_ (.cons ?_ (.cons ?_ (.cons ?_ (.cons ?_ (.cons ?_ (.cons ?_ (.cons ?_ (.cons ?_ (.cons ?_ (.cons ?_ (.cons ?_ (.cons ?_ (.cons ?_ (.cons ?_ (.cons ?_ .nil)))))))))))))))))
          all_goals (refine WI4L.step ?_; intro x24 x25 x26 x27 x28 x29 x30 x31 x32 x33 x34 x35 x36 x37 x38 x39 x12 x13 L W hI hL hd K hK)
          · rw [if_pos (by rfl)]
            go_simp
            exact hK.out _ _ ⟨_, _, _, _, _, _, _, _, _, _, _, _, _, _, _, _, _, _, rfl, hI.s0⟩
          · rw [if_pos (by rfl)]
            go_simp
            exact hK.out _ _ ⟨_, _, _, _, _, _, _, _, _, _, _, _, _, _, _, _, _, _, rfl, hI.s1⟩
          · have hx0 := hI.p0 (hd 0 (by decide))
            subst hx0
            have hx1 := hI.p1 (hd 1 (by decide))
            subst hx1
            rw [if_pos (by rfl)]
            go_simp
            exact hK.out _ _ ⟨_, _, _, _, _, _, _, _, _, _, _, _, _, _, _, _, _, _, rfl, hI.s2⟩
          · have hx2 := hI.p2 (hd 2 (by decide))
            subst hx2
            rw [if_pos (by rfl)]
            have hc := CE.out _ hI.x
            go_simp
            exact hK.out _ _ ⟨_, _, _, _, _, _, _, _, _, _, _, _, _, _, _, _, _, _, rfl, hI.s3⟩
          · rw [if_pos (by rfl)]
            go_simp
            exact hK.out _ _ ⟨_, _, _, _, _, _, _, _, _, _, _, _, _, _, _, _, _, _, rfl, hI.s4⟩
          · rw [if_pos (by rfl)]
            go_simp
            exact hK.out _ _ ⟨_, _, _, _, _, _, _, _, _, _, _, _, _, _, _, _, _, _, rfl, hI.s5⟩
          · have hx4 := hI.p4 (hd 4 (by decide))
            subst hx4
            have hx5 := hI.p5 (hd 5 (by decide))
            subst hx5
            rw [if_pos (by rfl)]
            go_simp
            exact hK.out _ _ ⟨_, _, _, _, _, _, _, _, _, _, _, _, _, _, _, _, _, _, rfl, hI.s6⟩
          · have hx6 := hI.p6 (hd 6 (by decide))
            subst hx6
            rw [if_pos (by rfl)]
            have hc := CV.out _ hI.x
            go_simp
            exact hK.out _ _ ⟨_, _, _, _, _, _, _, _, _, _, _, _, _, _, _, _, _, _, rfl, hI.s7⟩
          · have hx7 := hI.p7 (hd 7 (by decide))
            subst hx7
            rw [if_pos (by rfl)]
            go_simp
            refine (FZ.out W).mono ?_
            rintro e W2 ⟨rfl, b2⟩
            go_simp
            have hX := hI.x.trans (b2.mono hI.x.size)
            exact hK.out _ _ ⟨_, _, _, _, _, _, _, _, _, _, _, _, _, _, _, _, _, _, rfl, hI.s8 hX⟩
          · have hx3 := hI.p3 (hd 3 (by decide))
            subst hx3
            have hx8 := hI.p8 (hd 8 (by decide))
            subst hx8
            rw [if_pos (by rfl)]
            have hz1 := z1
            go_simp
            exact hK.out _ _ ⟨_, _, _, _, _, _, _, _, _, _, _, _, _, _, _, _, _, _, rfl, hI.s9⟩
          · rw [if_pos (by rfl)]
            go_simp
            exact hK.out _ _ ⟨_, _, _, _, _, _, _, _, _, _, _, _, _, _, _, _, _, _, rfl, hI.s10⟩
          · rw [if_pos (by rfl)]
            go_simp
            exact hK.out _ _ ⟨_, _, _, _, _, _, _, _, _, _, _, _, _, _, _, _, _, _, rfl, hI.s11⟩
          · have hx10 := hI.p10 (hd 10 (by decide))
            subst hx10
            have hx11 := hI.p11 (hd 11 (by decide))
            subst hx11
            rw [if_pos (by rfl)]
            go_simp
            exact hK.out _ _ ⟨_, _, _, _, _, _, _, _, _, _, _, _, _, _, _, _, _, _, rfl, hI.s12⟩
          · have hx12 := hI.p12 (hd 12 (by decide))
            subst hx12
            rw [if_pos (by rfl)]
            have hc := CE.out _ hI.x
            go_simp
            exact hK.out _ _ ⟨_, _, _, _, _, _, _, _, _, _, _, _, _, _, _, _, _, _, rfl, hI.s13⟩
          · rw [if_pos (by rfl)]
            go_simp
            exact hK.out _ _ ⟨_, _, _, _, _, _, _, _, _, _, _, _, _, _, _, _, _, _, rfl, hI.s14⟩
          · have hx13 := hI.p13 (hd 13 (by decide))
            subst hx13
            have hx14 := hI.p14 (hd 14 (by decide))
            subst hx14
            rw [if_pos (by rfl)]
            have hE1 := E1
            go_simp
            exact hK.out _ _ ⟨_, _, _, _, _, _, _, _, _, _, _, _, _, _, _, _, _, _, rfl, hI.s15⟩
          · have hx9 := hI.p9 (hd 9 (by decide))
            subst hx9
            rw [if_pos (by rfl)]
            go_simp
            exact hK.out _ _ ⟨_, _, _, _, _, _, _, _, _, _, _, _, _, _, _, _, _, _, rfl, hI.s16⟩
          · have hx15 := hI.p15 (hd 15 (by decide))
            subst hx15
            rw [if_pos (by rfl)]
            go_simp
            exact hK.out _ _ ⟨_, _, _, _, _, _, _, _, _, _, _, _, _, _, _, _, _, _, rfl, hI.s17⟩
        · refine WI4L.ends ?_; intro x24 x25 x26 x27 x28 x29 x30 x31 x32 x33 x34 x35 x36 x37 x38 x39 x12 x13 L W hall hI
          have hx0 := hI.p0 (hall 0 (by decide))
          subst hx0
          have hx1 := hI.p1 (hall 1 (by decide))
          subst hx1
          have hx2 := hI.p2 (hall 2 (by decide))
          subst hx2
          have hx3 := hI.p3 (hall 3 (by decide))
          subst hx3
          have hx4 := hI.p4 (hall 4 (by decide))
          subst hx4
          have hx5 := hI.p5 (hall 5 (by decide))
          subst hx5
          have hx6 := hI.p6 (hall 6 (by decide))
          subst hx6
          have hx7 := hI.p7 (hall 7 (by decide))
          subst hx7
          have hx8 := hI.p8 (hall 8 (by decide))
          subst hx8
          have hx9 := hI.p9 (hall 9 (by decide))
          subst hx9
          have hx10 := hI.p10 (hall 10 (by decide))
          subst hx10
          have hx11 := hI.p11 (hall 11 (by decide))
          subst hx11
          have hx12 := hI.p12 (hall 12 (by decide))
          subst hx12
          have hx13 := hI.p13 (hall 13 (by decide))
          subst hx13
          have hx14 := hI.p14 (hall 14 (by decide))
          subst hx14
          have hx15 := hI.p15 (hall 15 (by decide))
          subst hx15
          have hx16 := hI.p16 (hall 16 (by decide))
          subst hx16
          have hx17 := hI.p17 (hall 17 (by decide))
          subst hx17
          have hXe := hI.x
          clear hI hall
          try dsimp only
          have HW : Hid (Below wr.heap.size wr W) := hXe
          clear hXe
          generalize W = w5 at *
          have c5 := CV.out _ HW.out
          have HP5 : Hid (PaQ w2.heap.size N w5 out lo' lc' ∧ Below w2.heap.size w2 w5) := ⟨HI.out.1.keep HW.out, HI.out.2.1.trans (HW.out.mono HI.out.2.1.size)⟩
          go_wp2_with (first
            | (have hz := FC; clear hz; go_at_call 86; refine (FC.out _).mono ?_; rintro e w6 ⟨rfl, hb6⟩; have HP6 : Hid (PaQ w2.heap.size N w6 out lo' lc' ∧ Below w2.heap.size w2 w6 ∧ PaV N w6 (cutP ⟨ylay, yfrm, k, yb⟩ (f - bg) (mn - bg)) (layV (some ⟨B2, off2 + (f - bg), none⟩) (mn - bg - (f - bg)) (c2 - (f - bg)))) := ⟨HP5.out.1.keep hb6, HP5.out.2.trans (hb6.mono HP5.out.2.size), HV3.out _ (HW.out.trans (hb6.mono HW.out.size))⟩; clear hb6 FC; obtain ⟨vs, v1, v2, v3⟩ := HP6.out.1.vs; have V1 : Hid (vs.length = out.length) := v1; have V2 : Hid (w6.ownsRow w2.heap.size 54 1 (.slice lo' out.length lc') out.length vs) := v2; have V3 : Hid (∀ (i : Nat) (y : Pt) (v : Value), out[i]? = some y → vs[i]? = some v → PaV N w6 y v) := v3; clear v1 v2 v3)
            | (have hz := V2; clear hz; at_builtin; refine wpList_append_part rfl (.tmp 40) (.tmp 52) rfl w2.heap.size HP6.out.1.sz lo' out.length lc' vs rfl V2.out w6.heap.size rfl rfl (layV (some ⟨B2, off2 + (f - bg), none⟩) (mn - bg - (f - bg)) (c2 - (f - bg))) rfl (by have := HOL.out; omega) ?_; intro lo3 lc3 w7 ho3 hg3; have H7 : Hid (PaQ w2.heap.size N w7 (out ++ [cutP ⟨ylay, yfrm, k, yb⟩ (f - bg) (mn - bg)]) lo3 lc3 ∧ Below w2.heap.size w2 w7) := ⟨PaQ.snoc HN.out (Nat.le_trans HP6.out.1.sz hg3.size) V1.out (fun i z u hz hu => (V3.out i z u hz hu).keep (hg3.bel.mono HN.out)) ho3 (HP6.out.2.2.keep (hg3.bel.mono HN.out)), HP6.out.2.1.trans hg3.bel⟩; clear ho3 hg3 V2))
          refine ⟨⟨i + 1, mn, out ++ [cutP ⟨ylay, yfrm, k, yb⟩ (f - bg) (mn - bg)], lo3, lc3, HMT.out, rfl, by rw [List.length_append]; rfl, by go_num, H7.out.1, H7.out.2, HNX.out⟩, ?_⟩
          have := HMF.out
          simp [intOf]; omega
    · have x1 : decide ((f : Int) < (t : Int)) = false := by rw [decide_eq_false_iff_not]; omega
      have x2 : ¬ (f : Int) < (t : Int) := by omega
      have HE : Hid (WitQ w2.heap.size N w2 R (.returned (.slice lo' out.length lc')) wr) := by
        have e : wthn l t kk i f = [] := by
          cases kk with
          | zero => rfl
          | succ kk => rw [wthn, if_neg hlt]
        have e2 : R = out := by rw [hk4, e, List.append_nil]
        rw [e2]
        exact ⟨lo', lc', rfl, HI.out.1, HI.out.2.1⟩
      clear hk1 hk2 hk3 hk4 hk5
      go_wp2
      go_ret
      exact HE.out
end Go.Proofs.YtdfbfheceobboaaDoor
