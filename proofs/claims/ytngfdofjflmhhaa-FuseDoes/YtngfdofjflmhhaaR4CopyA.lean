
import Derived.Test.YtngfdofjflmhhaaR4Fresh
/-! The reference's CopyState: what has come up of its first region. -/
namespace Go.Proofs.Ytngfdofjflmhhaa
open Go.RowKit

abbrev nilS : Value := .slice none 0 0

/-- What has come up of 'c := State{Erases: append([]int{}, s.Erases...), Blown: append([]bool{}, s.Blown...)}'. -/
structure CI (sz : Nat) (W1 : World) (v : SV) (t : St) (L : Nat → Bool) (x3 x5 x6 x7 x8 x9 x10 x11 x12 x13 : Value) (g1 g2 g3 : Nat) (W : World) : Prop where
  bel : Below W1.heap.size W1 W
  b1 : L 0 = true → W1.heap.size ≤ g1 ∧ g1 < W.heap.size
  b2 : L 4 = true → W1.heap.size ≤ g2 ∧ g2 < W.heap.size
  b3 : L 9 = true → W1.heap.size ≤ g3 ∧ g3 < W.heap.size
  d12 : L 0 = true → L 4 = true → g1 ≠ g2
  d13 : L 0 = true → L 9 = true → g1 ≠ g3
  d23 : L 4 = true → L 9 = true → g2 ≠ g3
  e5 : L 0 = true → L 3 = false → x5 = .slice (some ⟨g1, 0, none⟩) 0 0 ∧ W.heap[g1]? = some (.cells #[] 3)
  e6 : L 1 = true → x6 = .pointer (some ⟨sz, 1, none⟩)
  e7 : L 2 = true → x7 = .slice v.eo t.erases.length v.ec
  e8 : L 3 = true → ∃ c, x8 = .slice (some ⟨g1, 0, none⟩) t.erases.length c ∧ W.ownsRow W1.heap.size 3 1 (.slice (some ⟨g1, 0, none⟩) t.erases.length c) t.erases.length (t.erases.map (Value.int .i64))
  e9 : L 4 = true → L 7 = false → x9 = .slice (some ⟨g2, 0, none⟩) 0 0 ∧ W.heap[g2]? = some (.cells #[] 4)
  e10 : L 5 = true → x10 = .pointer (some ⟨sz, 2, none⟩)
  e11 : L 6 = true → x11 = .slice v.bo t.blown.length v.bc
  e12 : L 7 = true → ∃ c, x12 = .slice (some ⟨g2, 0, none⟩) t.blown.length c ∧ W.ownsRow W1.heap.size 4 1 (.slice (some ⟨g2, 0, none⟩) t.blown.length c) t.blown.length (t.blown.map Value.bool)
  e13 : L 8 = true → x13 = .agg #[nilS, x8, x12]
  e3 : L 9 = true → x3 = .pointer (some ⟨g3, 0, none⟩)
  e3a : L 9 = true → L 10 = false → W.heap[g3]? = some (.cells #[nilS, nilS, nilS] 28)
  e3b : L 10 = true → W.heap[g3]? = some (.cells #[nilS, x8, x12] 28)
  l10 : L 10 = true → L 9 = true
  l03 : L 3 = true → L 0 = true
  l47 : L 7 = true → L 4 = true
  l83 : L 8 = true → L 3 = true
  l87 : L 8 = true → L 7 = true
  l108 : L 10 = true → L 8 = true

section
variable {sz : Nat} {W1 : World} {v : SV} {t : St} {L : Nat → Bool} {x3 x5 x6 x7 x8 x9 x10 x11 x12 x13 : Value} {g1 g2 g3 : Nat} {W W' : World}

theorem CI.zero (W1 : World) : CI sz W1 v t (fun _ => false) undef undef undef undef undef undef undef undef undef undef 0 0 0 W1.drew := by
  constructor <;> first | exact (Below.refl _ _).drew | (intros; contradiction)

/-- A world that leaves every block as it was. -/
theorem CI.mono (h : CI sz W1 v t L x3 x5 x6 x7 x8 x9 x10 x11 x12 x13 g1 g2 g3 W) (hb : Below W.heap.size W W') : CI sz W1 v t L x3 x5 x6 x7 x8 x9 x10 x11 x12 x13 g1 g2 g3 W' where
  bel := h.bel.trans (hb.mono h.bel.size)
  b1 := fun k => ⟨(h.b1 k).1, Nat.lt_of_lt_of_le (h.b1 k).2 hb.size⟩
  b2 := fun k => ⟨(h.b2 k).1, Nat.lt_of_lt_of_le (h.b2 k).2 hb.size⟩
  b3 := fun k => ⟨(h.b3 k).1, Nat.lt_of_lt_of_le (h.b3 k).2 hb.size⟩
  d12 := h.d12
  d13 := h.d13
  d23 := h.d23
  e5 := fun k k' => ⟨(h.e5 k k').1, (hb.block _ (h.b1 k).2).trans (h.e5 k k').2⟩
  e6 := h.e6
  e7 := h.e7
  e8 := fun k => by
    obtain ⟨c, h1, h2⟩ := h.e8 k
    exact ⟨c, h1, owns_kept h2 fun g hg => by injection hg with hg; injection hg with hg; subst hg; exact hb.block _ (h.b1 (h.l03 k)).2⟩
  e9 := fun k k' => ⟨(h.e9 k k').1, (hb.block _ (h.b2 k).2).trans (h.e9 k k').2⟩
  e10 := h.e10
  e11 := h.e11
  e12 := fun k => by
    obtain ⟨c, h1, h2⟩ := h.e12 k
    exact ⟨c, h1, owns_kept h2 fun g hg => by injection hg with hg; injection hg with hg; subst hg; exact hb.block _ (h.b2 (h.l47 k)).2⟩
  e13 := h.e13
  e3 := h.e3
  e3a := fun k k' => (hb.block _ (h.b3 k).2).trans (h.e3a k k')
  e3b := fun k => (hb.block _ (h.b3 (h.l10 k)).2).trans (h.e3b k)
  l10 := h.l10
  l03 := h.l03
  l47 := h.l47
  l83 := h.l83
  l87 := h.l87
  l108 := h.l108

theorem no_of {L : Nat → Bool} {i j : Nat} {p : Prop} (h : L i = true → L j = true) (hj : L j = false) (k : L i = true) : p := by
  have := h k; rw [hj] at this; cases this

theorem below_alloc (W : World) (o : Obj) : Below W.heap.size W (W.alloc o) := (Below.refl _ _).alloc (Nat.le_refl _) o

theorem CI.s0 (h : CI sz W1 v t L x3 x5 x6 x7 x8 x9 x10 x11 x12 x13 g1 g2 g3 W) (hL : L 0 = false) : CI sz W1 v t (upd L 0) x3 (.slice (some ⟨W.heap.size, 0, none⟩) 0 0) x6 x7 x8 x9 x10 x11 x12 x13 W.heap.size g2 g3 (W.alloc (.cells #[] 3)) :=
  have m := h.mono (below_alloc W (.cells #[] 3))
  ⟨m.bel, fun _ => ⟨h.bel.size, by simp⟩, m.b2, m.b3, fun _ k => (Nat.ne_of_lt (h.b2 k).2).symm, fun _ k => (Nat.ne_of_lt (h.b3 k).2).symm, m.d23, fun _ _ => ⟨rfl, heap_alloc_new W _⟩, m.e6, m.e7, fun k => no_of h.l03 hL k, m.e9, m.e10, m.e11, m.e12, m.e13, m.e3, m.e3a, m.e3b, m.l10, fun _ => rfl, m.l47, m.l83, m.l87, m.l108⟩
theorem CI.s1 (h : CI sz W1 v t L x3 x5 x6 x7 x8 x9 x10 x11 x12 x13 g1 g2 g3 W) : CI sz W1 v t (upd L 1) x3 x5 (.pointer (some ⟨sz, 1, none⟩)) x7 x8 x9 x10 x11 x12 x13 g1 g2 g3 W :=
  ⟨h.bel, h.b1, h.b2, h.b3, h.d12, h.d13, h.d23, h.e5, fun _ => rfl, h.e7, h.e8, h.e9, h.e10, h.e11, h.e12, h.e13, h.e3, h.e3a, h.e3b, h.l10, h.l03, h.l47, h.l83, h.l87, h.l108⟩
theorem CI.s2 (h : CI sz W1 v t L x3 x5 x6 x7 x8 x9 x10 x11 x12 x13 g1 g2 g3 W) : CI sz W1 v t (upd L 2) x3 x5 x6 (.slice v.eo t.erases.length v.ec) x8 x9 x10 x11 x12 x13 g1 g2 g3 W :=
  ⟨h.bel, h.b1, h.b2, h.b3, h.d12, h.d13, h.d23, h.e5, h.e6, fun _ => rfl, h.e8, h.e9, h.e10, h.e11, h.e12, h.e13, h.e3, h.e3a, h.e3b, h.l10, h.l03, h.l47, h.l83, h.l87, h.l108⟩
theorem CI.s3 (h : CI sz W1 v t L x3 x5 x6 x7 x8 x9 x10 x11 x12 x13 g1 g2 g3 W) (hL : L 3 = false) (h0 : L 0 = true) {g c : Nat} (ho : W'.ownsRow W1.heap.size 3 1 (.slice (some ⟨g, 0, none⟩) t.erases.length c) t.erases.length (t.erases.map (Value.int .i64))) (hb : Below W.heap.size W W') (hg : g = g1 ∨ g = W.heap.size) (hN : W1.heap.size ≤ g) (hlt : g < W'.heap.size) :
    CI sz W1 v t (upd L 3) x3 x5 x6 x7 (.slice (some ⟨g, 0, none⟩) t.erases.length c) x9 x10 x11 x12 x13 g g2 g3 W' :=
  have m := h.mono hb
  ⟨m.bel, fun _ => ⟨hN, hlt⟩, m.b2, m.b3, fun _ k => by rcases hg with rfl | rfl; exact h.d12 h0 k; exact (Nat.ne_of_lt (h.b2 k).2).symm, fun _ k => by rcases hg with rfl | rfl; exact h.d13 h0 k; exact (Nat.ne_of_lt (h.b3 k).2).symm, m.d23, fun _ k => (by cases k), m.e6, m.e7, fun _ => ⟨c, rfl, ho⟩, m.e9, m.e10, m.e11, m.e12, fun k => no_of h.l83 hL k, m.e3, m.e3a, fun k => no_of h.l83 hL (h.l108 k), m.l10, fun _ => h0, m.l47, fun _ => rfl, m.l87, m.l108⟩
theorem CI.s4 (h : CI sz W1 v t L x3 x5 x6 x7 x8 x9 x10 x11 x12 x13 g1 g2 g3 W) (hL : L 4 = false) : CI sz W1 v t (upd L 4) x3 x5 x6 x7 x8 (.slice (some ⟨W.heap.size, 0, none⟩) 0 0) x10 x11 x12 x13 g1 W.heap.size g3 (W.alloc (.cells #[] 4)) :=
  have m := h.mono (below_alloc W (.cells #[] 4))
  ⟨m.bel, m.b1, fun _ => ⟨h.bel.size, by simp⟩, m.b3, fun k _ => Nat.ne_of_lt (h.b1 k).2, m.d13, fun _ k => (Nat.ne_of_lt (h.b3 k).2).symm, m.e5, m.e6, m.e7, m.e8, fun _ _ => ⟨rfl, heap_alloc_new W _⟩, m.e10, m.e11, fun k => no_of h.l47 hL k, m.e13, m.e3, m.e3a, m.e3b, m.l10, m.l03, fun _ => rfl, m.l83, m.l87, m.l108⟩
theorem CI.s5 (h : CI sz W1 v t L x3 x5 x6 x7 x8 x9 x10 x11 x12 x13 g1 g2 g3 W) : CI sz W1 v t (upd L 5) x3 x5 x6 x7 x8 x9 (.pointer (some ⟨sz, 2, none⟩)) x11 x12 x13 g1 g2 g3 W :=
  ⟨h.bel, h.b1, h.b2, h.b3, h.d12, h.d13, h.d23, h.e5, h.e6, h.e7, h.e8, h.e9, fun _ => rfl, h.e11, h.e12, h.e13, h.e3, h.e3a, h.e3b, h.l10, h.l03, h.l47, h.l83, h.l87, h.l108⟩
theorem CI.s6 (h : CI sz W1 v t L x3 x5 x6 x7 x8 x9 x10 x11 x12 x13 g1 g2 g3 W) : CI sz W1 v t (upd L 6) x3 x5 x6 x7 x8 x9 x10 (.slice v.bo t.blown.length v.bc) x12 x13 g1 g2 g3 W :=
  ⟨h.bel, h.b1, h.b2, h.b3, h.d12, h.d13, h.d23, h.e5, h.e6, h.e7, h.e8, h.e9, h.e10, fun _ => rfl, h.e12, h.e13, h.e3, h.e3a, h.e3b, h.l10, h.l03, h.l47, h.l83, h.l87, h.l108⟩
theorem CI.s7 (h : CI sz W1 v t L x3 x5 x6 x7 x8 x9 x10 x11 x12 x13 g1 g2 g3 W) (hL : L 7 = false) (h0 : L 4 = true) {g c : Nat} (ho : W'.ownsRow W1.heap.size 4 1 (.slice (some ⟨g, 0, none⟩) t.blown.length c) t.blown.length (t.blown.map Value.bool)) (hb : Below W.heap.size W W') (hg : g = g2 ∨ g = W.heap.size) (hN : W1.heap.size ≤ g) (hlt : g < W'.heap.size) :
    CI sz W1 v t (upd L 7) x3 x5 x6 x7 x8 x9 x10 x11 (.slice (some ⟨g, 0, none⟩) t.blown.length c) x13 g1 g g3 W' :=
  have m := h.mono hb
  ⟨m.bel, m.b1, fun _ => ⟨hN, hlt⟩, m.b3, fun k _ => by rcases hg with rfl | rfl; exact h.d12 k h0; exact Nat.ne_of_lt (h.b1 k).2, m.d13, fun _ k => by rcases hg with rfl | rfl; exact h.d23 h0 k; exact (Nat.ne_of_lt (h.b3 k).2).symm, m.e5, m.e6, m.e7, m.e8, fun _ k => (by cases k), m.e10, m.e11, fun _ => ⟨c, rfl, ho⟩, fun k => no_of h.l87 hL k, m.e3, m.e3a, fun k => no_of h.l87 hL (h.l108 k), m.l10, m.l03, fun _ => h0, m.l83, fun _ => rfl, m.l108⟩
theorem CI.s8 (h : CI sz W1 v t L x3 x5 x6 x7 x8 x9 x10 x11 x12 x13 g1 g2 g3 W) (h3 : L 3 = true) (h7 : L 7 = true) : CI sz W1 v t (upd L 8) x3 x5 x6 x7 x8 x9 x10 x11 x12 (.agg #[nilS, x8, x12]) g1 g2 g3 W :=
  ⟨h.bel, h.b1, h.b2, h.b3, h.d12, h.d13, h.d23, h.e5, h.e6, h.e7, h.e8, h.e9, h.e10, h.e11, h.e12, fun _ => rfl, h.e3, h.e3a, h.e3b, h.l10, h.l03, h.l47, fun _ => h3, fun _ => h7, fun _ => rfl⟩
theorem CI.s9 (h : CI sz W1 v t L x3 x5 x6 x7 x8 x9 x10 x11 x12 x13 g1 g2 g3 W) (hL : L 9 = false) : CI sz W1 v t (upd L 9) (.pointer (some ⟨W.heap.size, 0, none⟩)) x5 x6 x7 x8 x9 x10 x11 x12 x13 g1 g2 W.heap.size (W.alloc (.cells #[nilS, nilS, nilS] 28)) :=
  have m := h.mono (below_alloc W (.cells #[nilS, nilS, nilS] 28))
  ⟨m.bel, m.b1, m.b2, fun _ => ⟨h.bel.size, by simp⟩, m.d12, fun k _ => Nat.ne_of_lt (h.b1 k).2, fun k _ => Nat.ne_of_lt (h.b2 k).2, m.e5, m.e6, m.e7, m.e8, m.e9, m.e10, m.e11, m.e12, m.e13, fun _ => rfl, fun _ _ => heap_alloc_new W _, fun k => no_of h.l10 hL k, fun _ => rfl, m.l03, m.l47, m.l83, m.l87, m.l108⟩
end

/-- A whole struct stored into a block known whole, at a step of a drawn region. -/
theorem step_store_Row {ops : Array Oper} {o : Oper} {a : Act} {w : World} {K : Act → World → Prop} {Q : Exit → Act → World → Prop} {X : Prop} (hgd : o.guard = none) (ty : TypeId) (x y : Operand) (ho : o.op = .store ty x y)
    (g t : Nat) (old new : List Value) (hr : Row w g t old) (hl : new.length = old.length) (hx : a.eval x = .pointer (some ⟨g, 0, none⟩)) (hy : a.eval y = .agg new.toArray)
    (hi : (Try.prog.info? ty).map (·.size) = some new.length) (h1 : ∀ v ∈ new, v.oneCell' = true)
    (h : ∀ w', Row w' g t new → SameBut g w w' → K (a.put o.dst undef) w') : if Region.wanted o (yielded ops a.tmps) = true then Oper.wp Try.prog o a w K Q else X := by
  have hw : Region.wanted o (yielded ops a.tmps) = true := by simp [Region.wanted, hgd]
  rw [if_pos hw]
  refine wp_store_mid ty x y ho g 0 new.toArray hx hy ?_ (by simpa using hi) (all_oneCell_toArray h1) (h _ ?_ ?_)
  · intro j hj
    refine ⟨?_, hr.frozen _⟩
    have hj' : 0 + j < old.length := by simp at hj; omega
    rw [hr.cell (0 + j) old[0 + j] (List.getElem?_eq_getElem hj')]; rfl
  · have := Row.setCells new 0 w old hr (by omega)
    simpa [hl] using this
  · exact SameBut.setCells g new 0 w

theorem CI.s10 {sz : Nat} {W1 : World} {v : SV} {t : St} {L : Nat → Bool} {x3 x5 x6 x7 x8 x9 x10 x11 x12 x13 : Value} {g1 g2 g3 : Nat} {W W' : World} (h : CI sz W1 v t L x3 x5 x6 x7 x8 x9 x10 x11 x12 x13 g1 g2 g3 W) (h3 : L 3 = true) (h7 : L 7 = true) (h8 : L 8 = true) (h9 : L 9 = true) (hs : SameBut g3 W W') (hr : Row W' g3 28 [nilS, x8, x12]) : CI sz W1 v t (upd L 10) x3 x5 x6 x7 x8 x9 x10 x11 x12 x13 g1 g2 g3 W' where
  bel := hs.below h.bel (h.b3 h9).1
  b1 := fun k => ⟨(h.b1 k).1, by rw [hs.size]; exact (h.b1 k).2⟩
  b2 := fun k => ⟨(h.b2 k).1, by rw [hs.size]; exact (h.b2 k).2⟩
  b3 := fun k => ⟨(h.b3 k).1, by rw [hs.size]; exact (h.b3 k).2⟩
  d12 := h.d12
  d13 := h.d13
  d23 := h.d23
  e5 := fun k k' => by rw [show upd L 10 3 = L 3 from rfl, h3] at k'; cases k'
  e6 := h.e6
  e7 := h.e7
  e8 := fun k => by
    obtain ⟨c, q1, q2⟩ := h.e8 k
    exact ⟨c, q1, owns_kept q2 fun g hg => by injection hg with hg; injection hg with hg; subst hg; exact hs.block _ (h.d13 (h.l03 h3) h9)⟩
  e9 := fun k k' => by rw [show upd L 10 7 = L 7 from rfl, h7] at k'; cases k'
  e10 := h.e10
  e11 := h.e11
  e12 := fun k => by
    obtain ⟨c, q1, q2⟩ := h.e12 k
    exact ⟨c, q1, owns_kept q2 fun g hg => by injection hg with hg; injection hg with hg; subst hg; exact hs.block _ (h.d23 (h.l47 h7) h9)⟩
  e13 := h.e13
  e3 := h.e3
  e3a := fun _ k => by cases k
  e3b := fun _ => hr
  l10 := fun _ => h9
  l03 := h.l03
  l47 := h.l47
  l83 := h.l83
  l87 := h.l87
  l108 := fun _ => h8

end Go.Proofs.Ytngfdofjflmhhaa
