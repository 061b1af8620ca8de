import Derived.Test.YtcpdanjbnijoiaaGreatDoorR4Fresh

/-! The reference's CopyState: what has come up of its first region. -/
namespace Go.Proofs.YtcpdanjbnijoiaaGreatDoor
open Go.RowKit

abbrev nilS : Value := .slice none 0 0

/-- What has come up of 'c := State{Erases: append([]int{}, s.Erases...), Blown: append([]bool{}, s.Blown...)}'. -/
structure CI (sz : Nat) (W1 : World) (v : SV) (t : St) (L : Nat → Bool) (x3 x5 x6 x7 x8 x9 x10 x11 x12 x13 : Value) (g1 g2 g3 : Nat) (W : World) : Prop where
  bel : Below W1.heap.size W1 W
  b1 : L 0 = true → W1.heap.size ≤ g1 ∧ g1 < W.heap.size
  b2 : L 4 = true → W1.heap.size ≤ g2 ∧ g2 < W.heap.size
  b3 : L 9 = true → W1.heap.size ≤ g3 ∧ g3 < W.heap.size
  d12 : L 0 = true → L 4 = true → g1 ≠ g2
  d13 : L 0 = true → L 9 = true → g1 ≠ g3
  d23 : L 4 = true → L 9 = true → g2 ≠ g3
  e5 : L 0 = true → L 3 = false → x5 = .slice (some ⟨g1, 0, none⟩) 0 0 ∧ W.heap[g1]? = some (.cells #[] 3)
  e6 : L 1 = true → x6 = .pointer (some ⟨sz, 1, none⟩)
  e7 : L 2 = true → x7 = .slice v.eo t.erases.length v.ec
  e8 : L 3 = true → ∃ c, x8 = .slice (some ⟨g1, 0, none⟩) t.erases.length c ∧ W.ownsRow W1.heap.size 3 1 (.slice (some ⟨g1, 0, none⟩) t.erases.length c) t.erases.length (t.erases.map (Value.int .i64))
  e9 : L 4 = true → L 7 = false → x9 = .slice (some ⟨g2, 0, none⟩) 0 0 ∧ W.heap[g2]? = some (.cells #[] 4)
  e10 : L 5 = true → x10 = .pointer (some ⟨sz, 2, none⟩)
  e11 : L 6 = true → x11 = .slice v.bo t.blown.length v.bc
  e12 : L 7 = true → ∃ c, x12 = .slice (some ⟨g2, 0, none⟩) t.blown.length c ∧ W.ownsRow W1.heap.size 4 1 (.slice (some ⟨g2, 0, none⟩) t.blown.length c) t.blown.length (t.blown.map Value.bool)
  e13 : L 8 = true → x13 = .agg #[nilS, x8, x12]
  e3 : L 9 = true → x3 = .pointer (some ⟨g3, 0, none⟩)
  e3a : L 9 = true → L 10 = false → W.heap[g3]? = some (.cells #[nilS, nilS, nilS] 28)
  e3b : L 10 = true → W.heap[g3]? = some (.cells #[nilS, x8, x12] 28)
  l10 : L 10 = true → L 9 = true
  l03 : L 3 = true → L 0 = true
  l47 : L 7 = true → L 4 = true
  l83 : L 8 = true → L 3 = true
  l87 : L 8 = true → L 7 = true
  l108 : L 10 = true → L 8 = true

section
variable {sz : Nat} {W1 : World} {v : SV} {t : St} {L : Nat → Bool} {x3 x5 x6 x7 x8 x9 x10 x11 x12 x13 : Value} {g1 g2 g3 : Nat} {W W' : World}

theorem CI.zero (W1 : World) : CI sz W1 v t (fun _ => false) undef undef undef undef undef undef undef undef undef undef 0 0 0 W1.drew := by
  constructor <;> first | exact (Below.refl _ _).drew | (intros; contradiction)

/-- A world that leaves every block as it was. -/
theorem CI.mono (h : CI sz W1 v t L x3 x5 x6 x7 x8 x9 x10 x11 x12 x13 g1 g2 g3 W) (hb : Below W.heap.size W W') : CI sz W1 v t L x3 x5 x6 x7 x8 x9 x10 x11 x12 x13 g1 g2 g3 W' where
  bel := h.bel.trans (hb.mono h.bel.size)
  b1 := fun k => ⟨(h.b1 k).1, Nat.lt_of_lt_of_le (h.b1 k).2 hb.size⟩
  b2 := fun k => ⟨(h.b2 k).1, Nat.lt_of_lt_of_le (h.b2 k).2 hb.size⟩
  b3 := fun k => ⟨(h.b3 k).1, Nat.lt_of_lt_of_le (h.b3 k).2 hb.size⟩
  d12 := h.d12
  d13 := h.d13
  d23 := h.d23
  e5 := fun k k' => ⟨(h.e5 k k').1, (hb.block _ (h.b1 k).2).trans (h.e5 k k').2⟩
  e6 := h.e6
  e7 := h.e7
  e8 := fun k => by
    obtain ⟨c, h1, h2⟩ := h.e8 k
    exact ⟨c, h1, owns_kept h2 fun g hg => by injection hg with hg; injection hg with hg; subst hg; exact hb.block _ (h.b1 (h.l03 k)).2⟩
  e9 := fun k k' => ⟨(h.e9 k k').1, (hb.block _ (h.b2 k).2).trans (h.e9 k k').2⟩
  e10 := h.e10
  e11 := h.e11
  e12 := fun k => by
    obtain ⟨c, h1, h2⟩ := h.e12 k
    exact ⟨c, h1, owns_kept h2 fun g hg => by injection hg with hg; injection hg with hg; subst hg; exact hb.block _ (h.b2 (h.l47 k)).2⟩
  e13 := h.e13
  e3 := h.e3
  e3a := fun k k' => (hb.block _ (h.b3 k).2).trans (h.e3a k k')
  e3b := fun k => (hb.block _ (h.b3 (h.l10 k)).2).trans (h.e3b k)
  l10 := h.l10
  l03 := h.l03
  l47 := h.l47
  l83 := h.l83
  l87 := h.l87
  l108 := h.l108

theorem no_of {L : Nat → Bool} {i j : Nat} {p : Prop} (h : L i = true → L j = true) (hj : L j = false) (k : L i = true) : p := by
  have := h k; rw [hj] at this; cases this

theorem below_alloc (W : World) (o : Obj) : Below W.heap.size W (W.alloc o) := (Below.refl _ _).alloc (Nat.le_refl _) o

theorem CI.s0 (h : CI sz W1 v t L x3 x5 x6 x7 x8 x9 x10 x11 x12 x13 g1 g2 g3 W) (hL : L 0 = false) : CI sz W1 v t (upd L 0) x3 (.slice (some ⟨W.heap.size, 0, none⟩) 0 0) x6 x7 x8 x9 x10 x11 x12 x13 W.heap.size g2 g3 (W.alloc (.cells #[] 3)) :=
  have m := h.mono (below_alloc W (.cells #[] 3))
  ⟨m.bel, fun _ => ⟨h.bel.size, by simp⟩, m.b2, m.b3, fun _ k => (Nat.ne_of_lt (h.b2 k).2).symm, fun _ k => (Nat.ne_of_lt (h.b3 k).2).symm, m.d23, fun _ _ => ⟨rfl, heap_alloc_new W _⟩, m.e6, m.e7, fun k => no_of h.l03 hL k, m.e9, m.e10, m.e11, m.e12, m.e13, m.e3, m.e3a, m.e3b, m.l10, fun _ => rfl, m.l47, m.l83, m.l87, m.l108⟩
theorem CI.s1 (h : CI sz W1 v t L x3 x5 x6 x7 x8 x9 x10 x11 x12 x13 g1 g2 g3 W) : CI sz W1 v t (upd L 1) x3 x5 (.pointer (some ⟨sz, 1, none⟩)) x7 x8 x9 x10 x11 x12 x13 g1 g2 g3 W :=
  ⟨h.bel, h.b1, h.b2, h.b3, h.d12, h.d13, h.d23, h.e5, fun _ => rfl, h.e7, h.e8, h.e9, h.e10, h.e11, h.e12, h.e13, h.e3, h.e3a, h.e3b, h.l10, h.l03, h.l47, h.l83, h.l87, h.l108⟩
theorem CI.s2 (h : CI sz W1 v t L x3 x5 x6 x7 x8 x9 x10 x11 x12 x13 g1 g2 g3 W) : CI sz W1 v t (upd L 2) x3 x5 x6 (.slice v.eo t.erases.length v.ec) x8 x9 x10 x11 x12 x13 g1 g2 g3 W :=
  ⟨h.bel, h.b1, h.b2, h.b3, h.d12, h.d13, h.d23, h.e5, h.e6, fun _ => rfl, h.e8, h.e9, h.e10, h.e11, h.e12, h.e13, h.e3, h.e3a, h.e3b, h.l10, h.l03, h.l47, h.l83, h.l87, h.l108⟩
theorem CI.s3 (h : CI sz W1 v t L x3 x5 x6 x7 x8 x9 x10 x11 x12 x13 g1 g2 g3 W) (hL : L 3 = false) (h0 : L 0 = true) {g c : Nat} (ho : W'.ownsRow W1.heap.size 3 1 (.slice (some ⟨g, 0, none⟩) t.erases.length c) t.erases.length (t.erases.map (Value.int .i64))) (hb : Below W.heap.size W W') (hg : g = g1 ∨ g = W.heap.size) (hN : W1.heap.size ≤ g) (hlt : g < W'.heap.size) :
    CI sz W1 v t (upd L 3) x3 x5 x6 x7 (.slice (some ⟨g, 0, none⟩) t.erases.length c) x9 x10 x11 x12 x13 g g2 g3 W' :=
  have m := h.mono hb
  ⟨m.bel, fun _ => ⟨hN, hlt⟩, m.b2, m.b3, fun _ k => by rcases hg with rfl | rfl; exact h.d12 h0 k; exact (Nat.ne_of_lt (h.b2 k).2).symm, fun _ k => by rcases hg with rfl | rfl; exact h.d13 h0 k; exact (Nat.ne_of_lt (h.b3 k).2).symm, m.d23, fun _ k => (by cases k), m.e6, m.e7, fun _ => ⟨c, rfl, ho⟩, m.e9, m.e10, m.e11, m.e12, fun k => no_of h.l83 hL k, m.e3, m.e3a, fun k => no_of h.l83 hL (h.l108 k), m.l10, fun _ => h0, m.l47, fun _ => rfl, m.l87, m.l108⟩
theorem CI.s4 (h : CI sz W1 v t L x3 x5 x6 x7 x8 x9 x10 x11 x12 x13 g1 g2 g3 W) (hL : L 4 = false) : CI sz W1 v t (upd L 4) x3 x5 x6 x7 x8 (.slice (some ⟨W.heap.size, 0, none⟩) 0 0) x10 x11 x12 x13 g1 W.heap.size g3 (W.alloc (.cells #[] 4)) :=
  have m := h.mono (below_alloc W (.cells #[] 4))
  ⟨m.bel, m.b1, fun _ => ⟨h.bel.size, by simp⟩, m.b3, fun k _ => Nat.ne_of_lt (h.b1 k).2, m.d13, fun _ k => (Nat.ne_of_lt (h.b3 k).2).symm, m.e5, m.e6, m.e7, m.e8, fun _ _ => ⟨rfl, heap_alloc_new W _⟩, m.e10, m.e11, fun k => no_of h.l47 hL k, m.e13, m.e3, m.e3a, m.e3b, m.l10, m.l03, fun _ => rfl, m.l83, m.l87, m.l108⟩
theorem CI.s5 (h : CI sz W1 v t L x3 x5 x6 x7 x8 x9 x10 x11 x12 x13 g1 g2 g3 W) : CI sz W1 v t (upd L 5) x3 x5 x6 x7 x8 x9 (.pointer (some ⟨sz, 2, none⟩)) x11 x12 x13 g1 g2 g3 W :=
  ⟨h.bel, h.b1, h.b2, h.b3, h.d12, h.d13, h.d23, h.e5, h.e6, h.e7, h.e8, h.e9, fun _ => rfl, h.e11, h.e12, h.e13, h.e3, h.e3a, h.e3b, h.l10, h.l03, h.l47, h.l83, h.l87, h.l108⟩
theorem CI.s6 (h : CI sz W1 v t L x3 x5 x6 x7 x8 x9 x10 x11 x12 x13 g1 g2 g3 W) : CI sz W1 v t (upd L 6) x3 x5 x6 x7 x8 x9 x10 (.slice v.bo t.blown.length v.bc) x12 x13 g1 g2 g3 W :=
  ⟨h.bel, h.b1, h.b2, h.b3, h.d12, h.d13, h.d23, h.e5, h.e6, h.e7, h.e8, h.e9, h.e10, fun _ => rfl, h.e12, h.e13, h.e3, h.e3a, h.e3b, h.l10, h.l03, h.l47, h.l83, h.l87, h.l108⟩
theorem CI.s7 (h : CI sz W1 v t L x3 x5 x6 x7 x8 x9 x10 x11 x12 x13 g1 g2 g3 W) (hL : L 7 = false) (h0 : L 4 = true) {g c : Nat} (ho : W'.ownsRow W1.heap.size 4 1 (.slice (some ⟨g, 0, none⟩) t.blown.length c) t.blown.length (t.blown.map Value.bool)) (hb : Below W.heap.size W W') (hg : g = g2 ∨ g = W.heap.size) (hN : W1.heap.size ≤ g) (hlt : g < W'.heap.size) :
    CI sz W1 v t (upd L 7) x3 x5 x6 x7 x8 x9 x10 x11 (.slice (some ⟨g, 0, none⟩) t.blown.length c) x13 g1 g g3 W' :=
  have m := h.mono hb
  ⟨m.bel, m.b1, fun _ => ⟨hN, hlt⟩, m.b3, fun k _ => by rcases hg with rfl | rfl; exact h.d12 k h0; exact Nat.ne_of_lt (h.b1 k).2, m.d13, fun _ k => by rcases hg with rfl | rfl; exact h.d23 h0 k; exact (Nat.ne_of_lt (h.b3 k).2).symm, m.e5, m.e6, m.e7, m.e8, fun _ k => (by cases k), m.e10, m.e11, fun _ => ⟨c, rfl, ho⟩, fun k => no_of h.l87 hL k, m.e3, m.e3a, fun k => no_of h.l87 hL (h.l108 k), m.l10, m.l03, fun _ => h0, m.l83, fun _ => rfl, m.l108⟩
theorem CI.s8 (h : CI sz W1 v t L x3 x5 x6 x7 x8 x9 x10 x11 x12 x13 g1 g2 g3 W) (h3 : L 3 = true) (h7 : L 7 = true) : CI sz W1 v t (upd L 8) x3 x5 x6 x7 x8 x9 x10 x11 x12 (.agg #[nilS, x8, x12]) g1 g2 g3 W :=
  ⟨h.bel, h.b1, h.b2, h.b3, h.d12, h.d13, h.d23, h.e5, h.e6, h.e7, h.e8, h.e9, h.e10, h.e11, h.e12, fun _ => rfl, h.e3, h.e3a, h.e3b, h.l10, h.l03, h.l47, fun _ => h3, fun _ => h7, fun _ => rfl⟩
theorem CI.s9 (h : CI sz W1 v t L x3 x5 x6 x7 x8 x9 x10 x11 x12 x13 g1 g2 g3 W) (hL : L 9 = false) : CI sz W1 v t (upd L 9) (.pointer (some ⟨W.heap.size, 0, none⟩)) x5 x6 x7 x8 x9 x10 x11 x12 x13 g1 g2 W.heap.size (W.alloc (.cells #[nilS, nilS, nilS] 28)) :=
  have m := h.mono (below_alloc W (.cells #[nilS, nilS, nilS] 28))
  ⟨m.bel, m.b1, m.b2, fun _ => ⟨h.bel.size, by simp⟩, m.d12, fun k _ => Nat.ne_of_lt (h.b1 k).2, fun k _ => Nat.ne_of_lt (h.b2 k).2, m.e5, m.e6, m.e7, m.e8, m.e9, m.e10, m.e11, m.e12, m.e13, fun _ => rfl, fun _ _ => heap_alloc_new W _, fun k => no_of h.l10 hL k, fun _ => rfl, m.l03, m.l47, m.l83, m.l87, m.l108⟩
end

/-- A whole struct stored into a block known whole, at a step of a drawn region. -/
theorem step_store_Row {ops : Array Oper} {o : Oper} {a : Act} {w : World} {K : Act → World → Prop} {Q : Exit → Act → World → Prop} {X : Prop} (hgd : o.guard = none) (ty : TypeId) (x y : Operand) (ho : o.op = .store ty x y)
    (g t : Nat) (old new : List Value) (hr : Row w g t old) (hl : new.length = old.length) (hx : a.eval x = .pointer (some ⟨g, 0, none⟩)) (hy : a.eval y = .agg new.toArray)
    (hi : (Tryz.prog.info? ty).map (·.size) = some new.length) (h1 : ∀ v ∈ new, v.oneCell' = true)
    (h : ∀ w', Row w' g t new → SameBut g w w' → K (a.put o.dst undef) w') : if Region.wanted o (yielded ops a.tmps) = true then Oper.wp Tryz.prog o a w K Q else X := by
  have hw : Region.wanted o (yielded ops a.tmps) = true := by simp [Region.wanted, hgd]
  rw [if_pos hw]
  refine wp_store_mid ty x y ho g 0 new.toArray hx hy ?_ (by simpa using hi) (all_oneCell_toArray h1) (h _ ?_ ?_)
  · intro j hj
    refine ⟨?_, hr.frozen _⟩
    have hj' : 0 + j < old.length := by simp at hj; omega
    rw [hr.cell (0 + j) old[0 + j] (List.getElem?_eq_getElem hj')]; rfl
  · have := Row.setCells new 0 w old hr (by omega)
    simpa [hl] using this
  · exact SameBut.setCells g new 0 w

theorem CI.s10 {sz : Nat} {W1 : World} {v : SV} {t : St} {L : Nat → Bool} {x3 x5 x6 x7 x8 x9 x10 x11 x12 x13 : Value} {g1 g2 g3 : Nat} {W W' : World} (h : CI sz W1 v t L x3 x5 x6 x7 x8 x9 x10 x11 x12 x13 g1 g2 g3 W) (h3 : L 3 = true) (h7 : L 7 = true) (h8 : L 8 = true) (h9 : L 9 = true) (hs : SameBut g3 W W') (hr : Row W' g3 28 [nilS, x8, x12]) : CI sz W1 v t (upd L 10) x3 x5 x6 x7 x8 x9 x10 x11 x12 x13 g1 g2 g3 W' where
  bel := hs.below h.bel (h.b3 h9).1
  b1 := fun k => ⟨(h.b1 k).1, by rw [hs.size]; exact (h.b1 k).2⟩
  b2 := fun k => ⟨(h.b2 k).1, by rw [hs.size]; exact (h.b2 k).2⟩
  b3 := fun k => ⟨(h.b3 k).1, by rw [hs.size]; exact (h.b3 k).2⟩
  d12 := h.d12
  d13 := h.d13
  d23 := h.d23
  e5 := fun k k' => by rw [show upd L 10 3 = L 3 from rfl, h3] at k'; cases k'
  e6 := h.e6
  e7 := h.e7
  e8 := fun k => by
    obtain ⟨c, q1, q2⟩ := h.e8 k
    exact ⟨c, q1, owns_kept q2 fun g hg => by injection hg with hg; injection hg with hg; subst hg; exact hs.block _ (h.d13 (h.l03 h3) h9)⟩
  e9 := fun k k' => by rw [show upd L 10 7 = L 7 from rfl, h7] at k'; cases k'
  e10 := h.e10
  e11 := h.e11
  e12 := fun k => by
    obtain ⟨c, q1, q2⟩ := h.e12 k
    exact ⟨c, q1, owns_kept q2 fun g hg => by injection hg with hg; injection hg with hg; subst hg; exact hs.block _ (h.d23 (h.l47 h7) h9)⟩
  e13 := h.e13
  e3 := h.e3
  e3a := fun _ k => by cases k
  e3b := fun _ => hr
  l10 := fun _ => h9
  l03 := h.l03
  l47 := h.l47
  l83 := h.l83
  l87 := h.l87
  l108 := fun _ => h8

end Go.Proofs.YtcpdanjbnijoiaaGreatDoor


/-! The reference's CopyState: what has come up of 'out.Pages = append(out.Pages, append([]Cell{}, s.Pages[p]...))'. -/
namespace Go.Proofs.YtcpdanjbnijoiaaGreatDoor
open Go.RowKit

/-- What stands still over the region. -/
structure PC where
  sz : Nat
  N : Nat
  W1 : World
  wr : World
  po : Option Addr
  k : Nat
  pc : Nat
  g3 : Nat
  B : Nat
  off : Nat
  P : Nat
  vpc : Nat
  qo : Option Addr
  n : Nat
  qc : Nat
  flat : List Value
  vs : List Value
  X1 : Value
  X2 : Value
/-- What holds of it. -/
structure PC.Ok (c : PC) : Prop where
  bel : Below c.N c.W1 c.wr
  nN : c.W1.heap.size = c.N
  own : c.wr.ownsRow c.N 74 1 (.slice c.po c.k c.pc) c.k c.vs
  row : Row c.wr c.g3 28 [.slice c.po c.k c.pc, c.X1, c.X2]
  g3N : c.N ≤ c.g3
  pg3 : ∀ g, c.po = some ⟨g, 0, none⟩ → c.g3 ≠ g
  cA : c.W1.cell? ⟨c.sz, 0, none⟩ = some (.slice (some ⟨c.B, c.off, none⟩) c.P c.vpc)
  cP : c.W1.cell? ⟨c.B, c.off + c.k, none⟩ = some (.slice c.qo c.n c.qc)
  src : IsL c.W1 c.qo c.flat
  fl : c.flat.length = c.n * 32
  f1 : ∀ u ∈ c.flat, u.oneCell' = true
  qn : c.qo = none → c.qc = 0
  nm : c.n ≤ 4398046511104
  km : c.k < 5864062014634

structure PI (c : PC) (L : Nat → Bool) (x21 x22 x23 x24 x25 x26 x27 x28 x29 x30 x31 x32 : Value) (gq : Nat) (W : World) : Prop where
  bel : Below c.N c.W1 W
  sz : c.wr.heap.size ≤ W.heap.size
  k1 : ∀ j, j < c.wr.heap.size → (L 10 = true → ∀ g, c.po = some ⟨g, 0, none⟩ → j ≠ g) → (L 12 = true → j ≠ c.g3) → W.heap[j]? = c.wr.heap[j]?
  bq : L 2 = true → c.wr.heap.size ≤ gq ∧ gq < W.heap.size
  e21 : L 0 = true → x21 = .pointer (some ⟨c.g3, 0, none⟩)
  e22 : L 1 = true → x22 = .slice c.po c.k c.pc
  e23 : L 2 = true → L 8 = false → x23 = .slice (some ⟨gq, 0, none⟩) 0 0 ∧ W.heap[gq]? = some (.cells #[] 55)
  e24 : L 3 = true → x24 = .pointer (some ⟨c.sz, 0, none⟩)
  e25 : L 4 = true → x25 = .slice (some ⟨c.B, c.off, none⟩) c.P c.vpc
  e26 : L 5 = true → x26 = .int .i64 c.k
  e27 : L 6 = true → x27 = .pointer (some ⟨c.B, c.off + c.k, none⟩)
  e28 : L 7 = true → x28 = .slice c.qo c.n c.qc
  e29 : L 8 = true → ∃ cq, x29 = .slice (some ⟨gq, 0, none⟩) c.n cq ∧ W.ownsRow c.N 55 32 (.slice (some ⟨gq, 0, none⟩) c.n cq) c.n c.flat
  e30 : L 9 = true → ∃ gl, x30 = .slice (some ⟨gl, 0, none⟩) 1 1 ∧ (L 10 = false → W.heap[gl]? = some (.cells #[x29] 74))
  e31 : L 10 = true → ∃ ao c', x31 = .slice ao (c.k + 1) c' ∧ W.ownsRow c.N 74 1 (.slice ao (c.k + 1) c') (c.k + 1) (c.vs ++ [x29]) ∧ (ao = c.po ∨ ∃ g', ao = some ⟨g', 0, none⟩ ∧ c.wr.heap.size ≤ g' ∧ g' ≠ gq)
  e32 : L 11 = true → x32 = .pointer (some ⟨c.g3, 0, none⟩)
  est : L 12 = true → Row W c.g3 28 [x31, c.X1, c.X2]
  l82 : L 8 = true → L 2 = true
  l98 : L 9 = true → L 8 = true
  l109 : L 10 = true → L 9 = true
  l12 : L 12 = true → L 10 = true
  l101 : L 10 = true → L 1 = true

section
variable {c : PC} {L : Nat → Bool} {x21 x22 x23 x24 x25 x26 x27 x28 x29 x30 x31 x32 : Value} {gq : Nat} {W W' : World}

theorem PI.zero (ho : c.Ok) (x21 x22 x23 x24 x25 x26 x27 x28 x29 x30 x31 x32 : Value) : PI c (fun _ => false) x21 x22 x23 x24 x25 x26 x27 x28 x29 x30 x31 x32 0 c.wr.drew := by
  constructor <;> first | exact ho.bel.drew | exact Nat.le_refl _ | (intros; rfl) | (intros; contradiction)

/-- A world that leaves every block as it was, ahead of the second append. -/
theorem PI.mono (h : PI c L x21 x22 x23 x24 x25 x26 x27 x28 x29 x30 x31 x32 gq W) (h10 : L 10 = false) (hN : c.N ≤ c.wr.heap.size) (hb : Below W.heap.size W W') : PI c L x21 x22 x23 x24 x25 x26 x27 x28 x29 x30 x31 x32 gq W' where
  bel := h.bel.trans (hb.mono (Nat.le_trans hN h.sz))
  sz := Nat.le_trans h.sz hb.size
  k1 := fun j hj q1 q2 => (hb.block j (Nat.lt_of_lt_of_le hj h.sz)).trans (h.k1 j hj q1 q2)
  bq := fun k => ⟨(h.bq k).1, Nat.lt_of_lt_of_le (h.bq k).2 hb.size⟩
  e21 := h.e21
  e22 := h.e22
  e23 := fun k k' => ⟨(h.e23 k k').1, (hb.block _ (h.bq k).2).trans (h.e23 k k').2⟩
  e24 := h.e24
  e25 := h.e25
  e26 := h.e26
  e27 := h.e27
  e28 := h.e28
  e29 := fun k => by
    obtain ⟨cq, q1, q2⟩ := h.e29 k
    exact ⟨cq, q1, owns_kept q2 fun g hg => by injection hg with hg; injection hg with hg; subst hg; exact hb.block _ (h.bq (h.l82 k)).2⟩
  e30 := fun k => by
    obtain ⟨gl, q1, q2⟩ := h.e30 k
    exact ⟨gl, q1, fun k' => (hb.block _ (Array.getElem?_eq_some_iff.1 (q2 k')).1).trans (q2 k')⟩
  e31 := fun k => by rw [h10] at k; cases k
  e32 := h.e32
  est := fun k => no_of h.l12 h10 k
  l82 := h.l82
  l98 := h.l98
  l109 := h.l109
  l12 := h.l12
  l101 := h.l101

theorem PI.s0 (h : PI c L x21 x22 x23 x24 x25 x26 x27 x28 x29 x30 x31 x32 gq W) : PI c (upd L 0) (.pointer (some ⟨c.g3, 0, none⟩)) x22 x23 x24 x25 x26 x27 x28 x29 x30 x31 x32 gq W :=
  ⟨h.bel, h.sz, h.k1, h.bq, fun _ => rfl, h.e22, h.e23, h.e24, h.e25, h.e26, h.e27, h.e28, h.e29, h.e30, h.e31, h.e32, h.est, h.l82, h.l98, h.l109, h.l12, h.l101⟩
theorem PI.s1 (h : PI c L x21 x22 x23 x24 x25 x26 x27 x28 x29 x30 x31 x32 gq W) : PI c (upd L 1) x21 (.slice c.po c.k c.pc) x23 x24 x25 x26 x27 x28 x29 x30 x31 x32 gq W :=
  ⟨h.bel, h.sz, h.k1, h.bq, h.e21, fun _ => rfl, h.e23, h.e24, h.e25, h.e26, h.e27, h.e28, h.e29, h.e30, h.e31, h.e32, h.est, h.l82, h.l98, h.l109, h.l12, fun _ => rfl⟩
theorem PI.s2 (h : PI c L x21 x22 x23 x24 x25 x26 x27 x28 x29 x30 x31 x32 gq W) (hL : L 2 = false) (hN : c.N ≤ c.wr.heap.size) : PI c (upd L 2) x21 x22 (.slice (some ⟨W.heap.size, 0, none⟩) 0 0) x24 x25 x26 x27 x28 x29 x30 x31 x32 W.heap.size (W.alloc (.cells #[] 55)) :=
  have h8 : L 8 = false := by cases h8 : L 8 with | false => rfl | true => exact no_of h.l82 hL h8
  have h9 : L 9 = false := by cases h9 : L 9 with | false => rfl | true => exact no_of h.l98 h8 h9
  have h10 : L 10 = false := by cases h10 : L 10 with | false => rfl | true => exact no_of h.l109 h9 h10
  have m := h.mono h10 hN (below_alloc W (.cells #[] 55))
  ⟨m.bel, m.sz, m.k1, fun _ => ⟨h.sz, by simp⟩, m.e21, m.e22, fun _ _ => ⟨rfl, heap_alloc_new W _⟩, m.e24, m.e25, m.e26, m.e27, m.e28, fun k => no_of h.l82 hL k, m.e30, fun k => no_of h.l109 h9 k, m.e32, m.est, fun _ => rfl, m.l98, m.l109, m.l12, m.l101⟩
theorem PI.s3 (h : PI c L x21 x22 x23 x24 x25 x26 x27 x28 x29 x30 x31 x32 gq W) : PI c (upd L 3) x21 x22 x23 (.pointer (some ⟨c.sz, 0, none⟩)) x25 x26 x27 x28 x29 x30 x31 x32 gq W :=
  ⟨h.bel, h.sz, h.k1, h.bq, h.e21, h.e22, h.e23, fun _ => rfl, h.e25, h.e26, h.e27, h.e28, h.e29, h.e30, h.e31, h.e32, h.est, h.l82, h.l98, h.l109, h.l12, h.l101⟩
theorem PI.s4 (h : PI c L x21 x22 x23 x24 x25 x26 x27 x28 x29 x30 x31 x32 gq W) : PI c (upd L 4) x21 x22 x23 x24 (.slice (some ⟨c.B, c.off, none⟩) c.P c.vpc) x26 x27 x28 x29 x30 x31 x32 gq W :=
  ⟨h.bel, h.sz, h.k1, h.bq, h.e21, h.e22, h.e23, h.e24, fun _ => rfl, h.e26, h.e27, h.e28, h.e29, h.e30, h.e31, h.e32, h.est, h.l82, h.l98, h.l109, h.l12, h.l101⟩
theorem PI.s5 (h : PI c L x21 x22 x23 x24 x25 x26 x27 x28 x29 x30 x31 x32 gq W) : PI c (upd L 5) x21 x22 x23 x24 x25 (.int .i64 c.k) x27 x28 x29 x30 x31 x32 gq W :=
  ⟨h.bel, h.sz, h.k1, h.bq, h.e21, h.e22, h.e23, h.e24, h.e25, fun _ => rfl, h.e27, h.e28, h.e29, h.e30, h.e31, h.e32, h.est, h.l82, h.l98, h.l109, h.l12, h.l101⟩
theorem PI.s6 (h : PI c L x21 x22 x23 x24 x25 x26 x27 x28 x29 x30 x31 x32 gq W) : PI c (upd L 6) x21 x22 x23 x24 x25 x26 (.pointer (some ⟨c.B, c.off + c.k, none⟩)) x28 x29 x30 x31 x32 gq W :=
  ⟨h.bel, h.sz, h.k1, h.bq, h.e21, h.e22, h.e23, h.e24, h.e25, h.e26, fun _ => rfl, h.e28, h.e29, h.e30, h.e31, h.e32, h.est, h.l82, h.l98, h.l109, h.l12, h.l101⟩
theorem PI.s7 (h : PI c L x21 x22 x23 x24 x25 x26 x27 x28 x29 x30 x31 x32 gq W) : PI c (upd L 7) x21 x22 x23 x24 x25 x26 x27 (.slice c.qo c.n c.qc) x29 x30 x31 x32 gq W :=
  ⟨h.bel, h.sz, h.k1, h.bq, h.e21, h.e22, h.e23, h.e24, h.e25, h.e26, h.e27, fun _ => rfl, h.e29, h.e30, h.e31, h.e32, h.est, h.l82, h.l98, h.l109, h.l12, h.l101⟩
theorem PI.s8 (h : PI c L x21 x22 x23 x24 x25 x26 x27 x28 x29 x30 x31 x32 gq W) (hL : L 8 = false) (h2 : L 2 = true) (hN : c.N ≤ c.wr.heap.size) {g cq : Nat} (ho : W'.ownsRow c.N 55 32 (.slice (some ⟨g, 0, none⟩) c.n cq) c.n c.flat) (hb : Below W.heap.size W W') (hg : g = gq ∨ g = W.heap.size) (hlt : g < W'.heap.size) :
    PI c (upd L 8) x21 x22 x23 x24 x25 x26 x27 x28 (.slice (some ⟨g, 0, none⟩) c.n cq) x30 x31 x32 g W' :=
  have h9 : L 9 = false := by cases h9 : L 9 with | false => rfl | true => exact no_of h.l98 hL h9
  have h10 : L 10 = false := by cases h10 : L 10 with | false => rfl | true => exact no_of h.l109 h9 h10
  have m := h.mono h10 hN hb
  ⟨m.bel, m.sz, m.k1, fun _ => ⟨by rcases hg with rfl | rfl; exact (h.bq h2).1; exact h.sz, hlt⟩, m.e21, m.e22, fun _ k => (by cases k), m.e24, m.e25, m.e26, m.e27, m.e28, fun _ => ⟨cq, rfl, ho⟩, fun k => no_of h.l98 hL k, fun k => no_of h.l109 h9 k, m.e32, m.est, fun _ => h2, fun _ => rfl, m.l109, m.l12, m.l101⟩
theorem PI.s9 (h : PI c L x21 x22 x23 x24 x25 x26 x27 x28 x29 x30 x31 x32 gq W) (hL : L 9 = false) (h8 : L 8 = true) (hN : c.N ≤ c.wr.heap.size) : PI c (upd L 9) x21 x22 x23 x24 x25 x26 x27 x28 x29 (.slice (some ⟨W.heap.size, 0, none⟩) 1 1) x31 x32 gq (W.alloc (.cells #[x29] 74)) :=
  have h10 : L 10 = false := by cases h10 : L 10 with | false => rfl | true => exact no_of h.l109 hL h10
  have m := h.mono h10 hN (below_alloc W (.cells #[x29] 74))
  ⟨m.bel, m.sz, m.k1, m.bq, m.e21, m.e22, m.e23, m.e24, m.e25, m.e26, m.e27, m.e28, m.e29, fun _ => ⟨_, rfl, fun _ => heap_alloc_new W _⟩, fun k => no_of h.l109 hL k, m.e32, m.est, m.l82, fun _ => h8, fun _ => rfl, m.l12, m.l101⟩
theorem PI.s10 (h : PI c L x21 x22 x23 x24 x25 x26 x27 x28 x29 x30 x31 x32 gq W) (hL : L 10 = false) (h1 : L 1 = true) (h9 : L 9 = true) (hpo : ∀ g, c.po = some ⟨g, 0, none⟩ → g < c.wr.heap.size) {ao : Option Addr} {c' : Nat} (ho : W'.ownsRow c.N 74 1 (.slice ao (c.k + 1) c') (c.k + 1) (c.vs ++ [x29])) (hb : Below c.N c.W1 W') (hs : W.heap.size ≤ W'.heap.size) (hk : ∀ k, k < W.heap.size → (∀ g, c.po = some ⟨g, 0, none⟩ → k ≠ g) → W'.heap[k]? = W.heap[k]?) (hao : ao = c.po ∨ ao = some ⟨W.heap.size, 0, none⟩) :
    PI c (upd L 10) x21 x22 x23 x24 x25 x26 x27 x28 x29 x30 (.slice ao (c.k + 1) c') x32 gq W' where
  bel := hb
  sz := Nat.le_trans h.sz hs
  k1 := fun j hj q1 q2 => (hk j (Nat.lt_of_lt_of_le hj h.sz) (q1 rfl)).trans (h.k1 j hj (fun k => by rw [hL] at k; cases k) q2)
  bq := fun k => ⟨(h.bq k).1, Nat.lt_of_lt_of_le (h.bq k).2 hs⟩
  e21 := h.e21
  e22 := h.e22
  e23 := fun k k' => by rw [show upd L 10 8 = L 8 from rfl, h.l98 h9] at k'; cases k'
  e24 := h.e24
  e25 := h.e25
  e26 := h.e26
  e27 := h.e27
  e28 := h.e28
  e29 := fun k => by
    obtain ⟨cq, q1, q2⟩ := h.e29 k
    have hq := h.bq (h.l82 k)
    exact ⟨cq, q1, owns_kept q2 fun g hg => by injection hg with hg; injection hg with hg; subst hg; exact hk _ hq.2 (fun g' hg' => by have := hpo g' hg'; omega)⟩
  e30 := fun k => by
    obtain ⟨gl, q1, _⟩ := h.e30 k
    exact ⟨gl, q1, fun k' => by cases k'⟩
  e31 := fun _ => ⟨ao, c', rfl, ho, hao.imp id fun e => ⟨_, e, h.sz, (Nat.ne_of_lt (h.bq (h.l82 (h.l98 h9))).2).symm⟩⟩
  e32 := h.e32
  est := fun k => no_of h.l12 hL k
  l82 := h.l82
  l98 := h.l98
  l109 := fun _ => h9
  l12 := fun _ => rfl
  l101 := fun _ => h1
theorem PI.s11 (h : PI c L x21 x22 x23 x24 x25 x26 x27 x28 x29 x30 x31 x32 gq W) : PI c (upd L 11) x21 x22 x23 x24 x25 x26 x27 x28 x29 x30 x31 (.pointer (some ⟨c.g3, 0, none⟩)) gq W :=
  ⟨h.bel, h.sz, h.k1, h.bq, h.e21, h.e22, h.e23, h.e24, h.e25, h.e26, h.e27, h.e28, h.e29, h.e30, h.e31, fun _ => rfl, h.est, h.l82, h.l98, h.l109, h.l12, h.l101⟩
theorem PI.s12 (h : PI c L x21 x22 x23 x24 x25 x26 x27 x28 x29 x30 x31 x32 gq W) (ho : c.Ok) (hg3 : c.g3 < c.wr.heap.size) (h10 : L 10 = true) (hs : SameBut c.g3 W W') (hr : Row W' c.g3 28 [x31, c.X1, c.X2]) : PI c (upd L 12) x21 x22 x23 x24 x25 x26 x27 x28 x29 x30 x31 x32 gq W' where
  bel := hs.below h.bel ho.g3N
  sz := by rw [hs.size]; exact h.sz
  k1 := fun j hj q1 q2 => (hs.block j (q2 rfl)).trans (h.k1 j hj q1 (fun _ => q2 rfl))
  bq := fun k => by rw [hs.size]; exact h.bq k
  e21 := h.e21
  e22 := h.e22
  e23 := fun k k' => by rw [show upd L 12 8 = L 8 from rfl, h.l98 (h.l109 h10)] at k'; cases k'
  e24 := h.e24
  e25 := h.e25
  e26 := h.e26
  e27 := h.e27
  e28 := h.e28
  e29 := fun k => by
    obtain ⟨cq, q1, q2⟩ := h.e29 k
    have hq := h.bq (h.l82 k)
    exact ⟨cq, q1, owns_kept q2 fun g hg => by injection hg with hg; injection hg with hg; subst hg; exact hs.block _ (by omega)⟩
  e30 := fun k => by
    obtain ⟨gl, q1, _⟩ := h.e30 k
    exact ⟨gl, q1, fun k' => by rw [show upd L 12 10 = L 10 from rfl, h10] at k'; cases k'⟩
  e31 := fun k => by
    obtain ⟨ao, c', q1, q2, q3⟩ := h.e31 k
    refine ⟨ao, c', q1, owns_kept q2 fun g hg => hs.block _ ?_, q3⟩
    rcases q3 with e | ⟨g', e, e2, _⟩
    · exact fun e3 => ho.pg3 g (e ▸ hg) e3.symm
    · rw [e] at hg; injection hg with hg; injection hg with hg; subst hg; omega
  e32 := h.e32
  est := fun _ => hr
  l82 := h.l82
  l98 := h.l98
  l109 := h.l109
  l12 := fun _ => h10
  l101 := h.l101
end
end Go.Proofs.YtcpdanjbnijoiaaGreatDoor
