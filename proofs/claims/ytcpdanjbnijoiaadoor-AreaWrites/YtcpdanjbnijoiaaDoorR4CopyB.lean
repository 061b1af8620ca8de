
import Derived.Test.YtcpdanjbnijoiaaDoorR4CopyA
/-! The reference's CopyState: what has come up of 'out.Pages = append(out.Pages, append([]Cell{}, s.Pages[p]...))'. -/
namespace Go.Proofs.YtcpdanjbnijoiaaDoor
open Go.RowKit

/-- What stands still over the region. -/
structure PC where
  sz : Nat
  N : Nat
  W1 : World
  wr : World
  po : Option Addr
  k : Nat
  pc : Nat
  g3 : Nat
  B : Nat
  off : Nat
  P : Nat
  vpc : Nat
  qo : Option Addr
  n : Nat
  qc : Nat
  flat : List Value
  vs : List Value
  X1 : Value
  X2 : Value
/-- What holds of it. -/
structure PC.Ok (c : PC) : Prop where
  bel : Below c.N c.W1 c.wr
  nN : c.W1.heap.size = c.N
  own : c.wr.ownsRow c.N 38 1 (.slice c.po c.k c.pc) c.k c.vs
  row : Row c.wr c.g3 28 [.slice c.po c.k c.pc, c.X1, c.X2]
  g3N : c.N ≤ c.g3
  pg3 : ∀ g, c.po = some ⟨g, 0, none⟩ → c.g3 ≠ g
  cA : c.W1.cell? ⟨c.sz, 0, none⟩ = some (.slice (some ⟨c.B, c.off, none⟩) c.P c.vpc)
  cP : c.W1.cell? ⟨c.B, c.off + c.k, none⟩ = some (.slice c.qo c.n c.qc)
  src : IsL c.W1 c.qo c.flat
  fl : c.flat.length = c.n * 32
  f1 : ∀ u ∈ c.flat, u.oneCell' = true
  qn : c.qo = none → c.qc = 0
  nm : c.n ≤ 4398046511104
  km : c.k < 5864062014634

structure PI (c : PC) (L : Nat → Bool) (x21 x22 x23 x24 x25 x26 x27 x28 x29 x30 x31 x32 : Value) (gq : Nat) (W : World) : Prop where
  bel : Below c.N c.W1 W
  sz : c.wr.heap.size ≤ W.heap.size
  k1 : ∀ j, j < c.wr.heap.size → (L 10 = true → ∀ g, c.po = some ⟨g, 0, none⟩ → j ≠ g) → (L 12 = true → j ≠ c.g3) → W.heap[j]? = c.wr.heap[j]?
  bq : L 2 = true → c.wr.heap.size ≤ gq ∧ gq < W.heap.size
  e21 : L 0 = true → x21 = .pointer (some ⟨c.g3, 0, none⟩)
  e22 : L 1 = true → x22 = .slice c.po c.k c.pc
  e23 : L 2 = true → L 8 = false → x23 = .slice (some ⟨gq, 0, none⟩) 0 0 ∧ W.heap[gq]? = some (.cells #[] 40)
  e24 : L 3 = true → x24 = .pointer (some ⟨c.sz, 0, none⟩)
  e25 : L 4 = true → x25 = .slice (some ⟨c.B, c.off, none⟩) c.P c.vpc
  e26 : L 5 = true → x26 = .int .i64 c.k
  e27 : L 6 = true → x27 = .pointer (some ⟨c.B, c.off + c.k, none⟩)
  e28 : L 7 = true → x28 = .slice c.qo c.n c.qc
  e29 : L 8 = true → ∃ cq, x29 = .slice (some ⟨gq, 0, none⟩) c.n cq ∧ W.ownsRow c.N 40 32 (.slice (some ⟨gq, 0, none⟩) c.n cq) c.n c.flat
  e30 : L 9 = true → ∃ gl, x30 = .slice (some ⟨gl, 0, none⟩) 1 1 ∧ (L 10 = false → W.heap[gl]? = some (.cells #[x29] 38))
  e31 : L 10 = true → ∃ ao c', x31 = .slice ao (c.k + 1) c' ∧ W.ownsRow c.N 38 1 (.slice ao (c.k + 1) c') (c.k + 1) (c.vs ++ [x29]) ∧ (ao = c.po ∨ ∃ g', ao = some ⟨g', 0, none⟩ ∧ c.wr.heap.size ≤ g' ∧ g' ≠ gq)
  e32 : L 11 = true → x32 = .pointer (some ⟨c.g3, 0, none⟩)
  est : L 12 = true → Row W c.g3 28 [x31, c.X1, c.X2]
  l82 : L 8 = true → L 2 = true
  l98 : L 9 = true → L 8 = true
  l109 : L 10 = true → L 9 = true
  l12 : L 12 = true → L 10 = true
  l101 : L 10 = true → L 1 = true

section
variable {c : PC} {L : Nat → Bool} {x21 x22 x23 x24 x25 x26 x27 x28 x29 x30 x31 x32 : Value} {gq : Nat} {W W' : World}

theorem PI.zero (ho : c.Ok) (x21 x22 x23 x24 x25 x26 x27 x28 x29 x30 x31 x32 : Value) : PI c (fun _ => false) x21 x22 x23 x24 x25 x26 x27 x28 x29 x30 x31 x32 0 c.wr.drew := by
  constructor <;> first | exact ho.bel.drew | exact Nat.le_refl _ | (intros; rfl) | (intros; contradiction)

/-- A world that leaves every block as it was, ahead of the second append. -/
theorem PI.mono (h : PI c L x21 x22 x23 x24 x25 x26 x27 x28 x29 x30 x31 x32 gq W) (h10 : L 10 = false) (hN : c.N ≤ c.wr.heap.size) (hb : Below W.heap.size W W') : PI c L x21 x22 x23 x24 x25 x26 x27 x28 x29 x30 x31 x32 gq W' where
  bel := h.bel.trans (hb.mono (Nat.le_trans hN h.sz))
  sz := Nat.le_trans h.sz hb.size
  k1 := fun j hj q1 q2 => (hb.block j (Nat.lt_of_lt_of_le hj h.sz)).trans (h.k1 j hj q1 q2)
  bq := fun k => ⟨(h.bq k).1, Nat.lt_of_lt_of_le (h.bq k).2 hb.size⟩
  e21 := h.e21
  e22 := h.e22
  e23 := fun k k' => ⟨(h.e23 k k').1, (hb.block _ (h.bq k).2).trans (h.e23 k k').2⟩
  e24 := h.e24
  e25 := h.e25
  e26 := h.e26
  e27 := h.e27
  e28 := h.e28
  e29 := fun k => by
    obtain ⟨cq, q1, q2⟩ := h.e29 k
    exact ⟨cq, q1, owns_kept q2 fun g hg => by injection hg with hg; injection hg with hg; subst hg; exact hb.block _ (h.bq (h.l82 k)).2⟩
  e30 := fun k => by
    obtain ⟨gl, q1, q2⟩ := h.e30 k
    exact ⟨gl, q1, fun k' => (hb.block _ (Array.getElem?_eq_some_iff.1 (q2 k')).1).trans (q2 k')⟩
  e31 := fun k => by rw [h10] at k; cases k
  e32 := h.e32
  est := fun k => no_of h.l12 h10 k
  l82 := h.l82
  l98 := h.l98
  l109 := h.l109
  l12 := h.l12
  l101 := h.l101

theorem PI.s0 (h : PI c L x21 x22 x23 x24 x25 x26 x27 x28 x29 x30 x31 x32 gq W) : PI c (upd L 0) (.pointer (some ⟨c.g3, 0, none⟩)) x22 x23 x24 x25 x26 x27 x28 x29 x30 x31 x32 gq W :=
  ⟨h.bel, h.sz, h.k1, h.bq, fun _ => rfl, h.e22, h.e23, h.e24, h.e25, h.e26, h.e27, h.e28, h.e29, h.e30, h.e31, h.e32, h.est, h.l82, h.l98, h.l109, h.l12, h.l101⟩
theorem PI.s1 (h : PI c L x21 x22 x23 x24 x25 x26 x27 x28 x29 x30 x31 x32 gq W) : PI c (upd L 1) x21 (.slice c.po c.k c.pc) x23 x24 x25 x26 x27 x28 x29 x30 x31 x32 gq W :=
  ⟨h.bel, h.sz, h.k1, h.bq, h.e21, fun _ => rfl, h.e23, h.e24, h.e25, h.e26, h.e27, h.e28, h.e29, h.e30, h.e31, h.e32, h.est, h.l82, h.l98, h.l109, h.l12, fun _ => rfl⟩
theorem PI.s2 (h : PI c L x21 x22 x23 x24 x25 x26 x27 x28 x29 x30 x31 x32 gq W) (hL : L 2 = false) (hN : c.N ≤ c.wr.heap.size) : PI c (upd L 2) x21 x22 (.slice (some ⟨W.heap.size, 0, none⟩) 0 0) x24 x25 x26 x27 x28 x29 x30 x31 x32 W.heap.size (W.alloc (.cells #[] 40)) :=
  have h8 : L 8 = false := by cases h8 : L 8 with | false => rfl | true => exact no_of h.l82 hL h8
  have h9 : L 9 = false := by cases h9 : L 9 with | false => rfl | true => exact no_of h.l98 h8 h9
  have h10 : L 10 = false := by cases h10 : L 10 with | false => rfl | true => exact no_of h.l109 h9 h10
  have m := h.mono h10 hN (below_alloc W (.cells #[] 40))
  ⟨m.bel, m.sz, m.k1, fun _ => ⟨h.sz, by simp⟩, m.e21, m.e22, fun _ _ => ⟨rfl, heap_alloc_new W _⟩, m.e24, m.e25, m.e26, m.e27, m.e28, fun k => no_of h.l82 hL k, m.e30, fun k => no_of h.l109 h9 k, m.e32, m.est, fun _ => rfl, m.l98, m.l109, m.l12, m.l101⟩
theorem PI.s3 (h : PI c L x21 x22 x23 x24 x25 x26 x27 x28 x29 x30 x31 x32 gq W) : PI c (upd L 3) x21 x22 x23 (.pointer (some ⟨c.sz, 0, none⟩)) x25 x26 x27 x28 x29 x30 x31 x32 gq W :=
  ⟨h.bel, h.sz, h.k1, h.bq, h.e21, h.e22, h.e23, fun _ => rfl, h.e25, h.e26, h.e27, h.e28, h.e29, h.e30, h.e31, h.e32, h.est, h.l82, h.l98, h.l109, h.l12, h.l101⟩
theorem PI.s4 (h : PI c L x21 x22 x23 x24 x25 x26 x27 x28 x29 x30 x31 x32 gq W) : PI c (upd L 4) x21 x22 x23 x24 (.slice (some ⟨c.B, c.off, none⟩) c.P c.vpc) x26 x27 x28 x29 x30 x31 x32 gq W :=
  ⟨h.bel, h.sz, h.k1, h.bq, h.e21, h.e22, h.e23, h.e24, fun _ => rfl, h.e26, h.e27, h.e28, h.e29, h.e30, h.e31, h.e32, h.est, h.l82, h.l98, h.l109, h.l12, h.l101⟩
theorem PI.s5 (h : PI c L x21 x22 x23 x24 x25 x26 x27 x28 x29 x30 x31 x32 gq W) : PI c (upd L 5) x21 x22 x23 x24 x25 (.int .i64 c.k) x27 x28 x29 x30 x31 x32 gq W :=
  ⟨h.bel, h.sz, h.k1, h.bq, h.e21, h.e22, h.e23, h.e24, h.e25, fun _ => rfl, h.e27, h.e28, h.e29, h.e30, h.e31, h.e32, h.est, h.l82, h.l98, h.l109, h.l12, h.l101⟩
theorem PI.s6 (h : PI c L x21 x22 x23 x24 x25 x26 x27 x28 x29 x30 x31 x32 gq W) : PI c (upd L 6) x21 x22 x23 x24 x25 x26 (.pointer (some ⟨c.B, c.off + c.k, none⟩)) x28 x29 x30 x31 x32 gq W :=
  ⟨h.bel, h.sz, h.k1, h.bq, h.e21, h.e22, h.e23, h.e24, h.e25, h.e26, fun _ => rfl, h.e28, h.e29, h.e30, h.e31, h.e32, h.est, h.l82, h.l98, h.l109, h.l12, h.l101⟩
theorem PI.s7 (h : PI c L x21 x22 x23 x24 x25 x26 x27 x28 x29 x30 x31 x32 gq W) : PI c (upd L 7) x21 x22 x23 x24 x25 x26 x27 (.slice c.qo c.n c.qc) x29 x30 x31 x32 gq W :=
  ⟨h.bel, h.sz, h.k1, h.bq, h.e21, h.e22, h.e23, h.e24, h.e25, h.e26, h.e27, fun _ => rfl, h.e29, h.e30, h.e31, h.e32, h.est, h.l82, h.l98, h.l109, h.l12, h.l101⟩
theorem PI.s8 (h : PI c L x21 x22 x23 x24 x25 x26 x27 x28 x29 x30 x31 x32 gq W) (hL : L 8 = false) (h2 : L 2 = true) (hN : c.N ≤ c.wr.heap.size) {g cq : Nat} (ho : W'.ownsRow c.N 40 32 (.slice (some ⟨g, 0, none⟩) c.n cq) c.n c.flat) (hb : Below W.heap.size W W') (hg : g = gq ∨ g = W.heap.size) (hlt : g < W'.heap.size) :
    PI c (upd L 8) x21 x22 x23 x24 x25 x26 x27 x28 (.slice (some ⟨g, 0, none⟩) c.n cq) x30 x31 x32 g W' :=
  have h9 : L 9 = false := by cases h9 : L 9 with | false => rfl | true => exact no_of h.l98 hL h9
  have h10 : L 10 = false := by cases h10 : L 10 with | false => rfl | true => exact no_of h.l109 h9 h10
  have m := h.mono h10 hN hb
  ⟨m.bel, m.sz, m.k1, fun _ => ⟨by rcases hg with rfl | rfl; exact (h.bq h2).1; exact h.sz, hlt⟩, m.e21, m.e22, fun _ k => (by cases k), m.e24, m.e25, m.e26, m.e27, m.e28, fun _ => ⟨cq, rfl, ho⟩, fun k => no_of h.l98 hL k, fun k => no_of h.l109 h9 k, m.e32, m.est, fun _ => h2, fun _ => rfl, m.l109, m.l12, m.l101⟩
theorem PI.s9 (h : PI c L x21 x22 x23 x24 x25 x26 x27 x28 x29 x30 x31 x32 gq W) (hL : L 9 = false) (h8 : L 8 = true) (hN : c.N ≤ c.wr.heap.size) : PI c (upd L 9) x21 x22 x23 x24 x25 x26 x27 x28 x29 (.slice (some ⟨W.heap.size, 0, none⟩) 1 1) x31 x32 gq (W.alloc (.cells #[x29] 38)) :=
  have h10 : L 10 = false := by cases h10 : L 10 with | false => rfl | true => exact no_of h.l109 hL h10
  have m := h.mono h10 hN (below_alloc W (.cells #[x29] 38))
  ⟨m.bel, m.sz, m.k1, m.bq, m.e21, m.e22, m.e23, m.e24, m.e25, m.e26, m.e27, m.e28, m.e29, fun _ => ⟨_, rfl, fun _ => heap_alloc_new W _⟩, fun k => no_of h.l109 hL k, m.e32, m.est, m.l82, fun _ => h8, fun _ => rfl, m.l12, m.l101⟩
theorem PI.s10 (h : PI c L x21 x22 x23 x24 x25 x26 x27 x28 x29 x30 x31 x32 gq W) (hL : L 10 = false) (h1 : L 1 = true) (h9 : L 9 = true) (hpo : ∀ g, c.po = some ⟨g, 0, none⟩ → g < c.wr.heap.size) {ao : Option Addr} {c' : Nat} (ho : W'.ownsRow c.N 38 1 (.slice ao (c.k + 1) c') (c.k + 1) (c.vs ++ [x29])) (hb : Below c.N c.W1 W') (hs : W.heap.size ≤ W'.heap.size) (hk : ∀ k, k < W.heap.size → (∀ g, c.po = some ⟨g, 0, none⟩ → k ≠ g) → W'.heap[k]? = W.heap[k]?) (hao : ao = c.po ∨ ao = some ⟨W.heap.size, 0, none⟩) :
    PI c (upd L 10) x21 x22 x23 x24 x25 x26 x27 x28 x29 x30 (.slice ao (c.k + 1) c') x32 gq W' where
  bel := hb
  sz := Nat.le_trans h.sz hs
  k1 := fun j hj q1 q2 => (hk j (Nat.lt_of_lt_of_le hj h.sz) (q1 rfl)).trans (h.k1 j hj (fun k => by rw [hL] at k; cases k) q2)
  bq := fun k => ⟨(h.bq k).1, Nat.lt_of_lt_of_le (h.bq k).2 hs⟩
  e21 := h.e21
  e22 := h.e22
  e23 := fun k k' => by rw [show upd L 10 8 = L 8 from rfl, h.l98 h9] at k'; cases k'
  e24 := h.e24
  e25 := h.e25
  e26 := h.e26
  e27 := h.e27
  e28 := h.e28
  e29 := fun k => by
    obtain ⟨cq, q1, q2⟩ := h.e29 k
    have hq := h.bq (h.l82 k)
    exact ⟨cq, q1, owns_kept q2 fun g hg => by injection hg with hg; injection hg with hg; subst hg; exact hk _ hq.2 (fun g' hg' => by have := hpo g' hg'; omega)⟩
  e30 := fun k => by
    obtain ⟨gl, q1, _⟩ := h.e30 k
    exact ⟨gl, q1, fun k' => by cases k'⟩
  e31 := fun _ => ⟨ao, c', rfl, ho, hao.imp id fun e => ⟨_, e, h.sz, (Nat.ne_of_lt (h.bq (h.l82 (h.l98 h9))).2).symm⟩⟩
  e32 := h.e32
  est := fun k => no_of h.l12 hL k
  l82 := h.l82
  l98 := h.l98
  l109 := fun _ => h9
  l12 := fun _ => rfl
  l101 := fun _ => h1
theorem PI.s11 (h : PI c L x21 x22 x23 x24 x25 x26 x27 x28 x29 x30 x31 x32 gq W) : PI c (upd L 11) x21 x22 x23 x24 x25 x26 x27 x28 x29 x30 x31 (.pointer (some ⟨c.g3, 0, none⟩)) gq W :=
  ⟨h.bel, h.sz, h.k1, h.bq, h.e21, h.e22, h.e23, h.e24, h.e25, h.e26, h.e27, h.e28, h.e29, h.e30, h.e31, fun _ => rfl, h.est, h.l82, h.l98, h.l109, h.l12, h.l101⟩
theorem PI.s12 (h : PI c L x21 x22 x23 x24 x25 x26 x27 x28 x29 x30 x31 x32 gq W) (ho : c.Ok) (hg3 : c.g3 < c.wr.heap.size) (h10 : L 10 = true) (hs : SameBut c.g3 W W') (hr : Row W' c.g3 28 [x31, c.X1, c.X2]) : PI c (upd L 12) x21 x22 x23 x24 x25 x26 x27 x28 x29 x30 x31 x32 gq W' where
  bel := hs.below h.bel ho.g3N
  sz := by rw [hs.size]; exact h.sz
  k1 := fun j hj q1 q2 => (hs.block j (q2 rfl)).trans (h.k1 j hj q1 (fun _ => q2 rfl))
  bq := fun k => by rw [hs.size]; exact h.bq k
  e21 := h.e21
  e22 := h.e22
  e23 := fun k k' => by rw [show upd L 12 8 = L 8 from rfl, h.l98 (h.l109 h10)] at k'; cases k'
  e24 := h.e24
  e25 := h.e25
  e26 := h.e26
  e27 := h.e27
  e28 := h.e28
  e29 := fun k => by
    obtain ⟨cq, q1, q2⟩ := h.e29 k
    have hq := h.bq (h.l82 k)
    exact ⟨cq, q1, owns_kept q2 fun g hg => by injection hg with hg; injection hg with hg; subst hg; exact hs.block _ (by omega)⟩
  e30 := fun k => by
    obtain ⟨gl, q1, _⟩ := h.e30 k
    exact ⟨gl, q1, fun k' => by rw [show upd L 12 10 = L 10 from rfl, h10] at k'; cases k'⟩
  e31 := fun k => by
    obtain ⟨ao, c', q1, q2, q3⟩ := h.e31 k
    refine ⟨ao, c', q1, owns_kept q2 fun g hg => hs.block _ ?_, q3⟩
    rcases q3 with e | ⟨g', e, e2, _⟩
    · exact fun e3 => ho.pg3 g (e ▸ hg) e3.symm
    · rw [e] at hg; injection hg with hg; injection hg with hg; subst hg; omega
  e32 := h.e32
  est := fun _ => hr
  l82 := h.l82
  l98 := h.l98
  l109 := h.l109
  l12 := fun _ => h10
  l101 := h.l101
end
end Go.Proofs.YtcpdanjbnijoiaaDoor
