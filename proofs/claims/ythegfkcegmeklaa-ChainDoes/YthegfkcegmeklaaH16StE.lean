
import Derived.Test.YthegfkcegmeklaaH16StA
/-! The law's step: Events. (Printed by tools/genstep16.py.) -/
namespace Go.Proofs.Ythegfkcegmeklaa
open Go.RowKit
set_option linter.unusedVariables false

/-- A row of events that came out, and the block in which it lies. -/
def OutE (N : Nat) (xs : List EvV) (ao : Option Addr) (c : Nat) (R1 : List (Nat × Obj)) : Prop :=
  (ao = none ∧ c = 0 ∧ xs = [] ∧ R1 = []) ∨ ∃ G cur, ao = some ⟨G, 0, none⟩ ∧ N ≤ G ∧ R1 = [(G, .cells cur 35 (0, 0))] ∧ xs.length ≤ c ∧ c ≤ maxLen ∧ cur.size = c * 33 ∧ cur.toList.take (xs.length * 33) = xs.flatMap evC
/-- .. where what it holds matters not. -/
def OutA (N : Nat) (m : Nat) (ao : Option Addr) (c : Nat) (R1 : List (Nat × Obj)) : Prop :=
  (ao = none ∧ c = 0 ∧ m = 0 ∧ R1 = []) ∨ ∃ G cur, ao = some ⟨G, 0, none⟩ ∧ N ≤ G ∧ R1 = [(G, .cells cur 35 (0, 0))] ∧ m ≤ c ∧ c ≤ maxLen ∧ cur.size = c * 33
section
variable {Lg : (Nat → Prop) → World → Addr → List EvV → Prop} {F : Nat → Prop} {w : World} {lp : Addr} {xs : List EvV} {R R1 R3 : List (Nat × Obj)} {W W' : World} {N m c : Nat} {ao : Option Addr}
theorem OutE.any (h : OutE N xs ao c R1) : OutA N xs.length ao c R1 := by
  rcases h with ⟨h1, h2, h3, h4⟩ | ⟨G, cur, h1, h2, h3, h4, h5, h6, _⟩
  · exact .inl ⟨h1, h2, by rw [h3]; rfl, h4⟩
  · exact .inr ⟨G, cur, h1, h2, h3, h4, h5, h6⟩
theorem OutA.owns (h : OutA N m ao c R1) (hW : ∀ t ∈ R1, W.heap[t.1]? = some t.2) : ∃ vs, W.ownsRow N 35 33 (.slice ao m c) m vs := by
  rcases h with ⟨h1, h2, h3, h4⟩ | ⟨G, cur, h1, h2, h3, h4, h5, h6⟩
  · subst h1 h2 h3
    exact ⟨[], World.ownsRow_nil W N _ _⟩
  · refine ⟨cur.toList.take (m * 33), ?_, .inr ⟨G, c, cur, by rw [h1], h2, hW _ (by rw [h3]; exact List.mem_cons_self ..), h4, h5, h6, rfl⟩⟩
    rw [List.length_take, Array.length_toList, h6]
    have := Nat.mul_le_mul_right 33 h4
    omega
theorem OutE.ev (h : OutE N xs ao c R1) (ho : ∀ x ∈ xs, EvOk x) : ∃ B, (0 < xs.length → ao = some ⟨B, 0, none⟩) ∧ ∀ W, (∀ t ∈ R1, W.heap[t.1]? = some t.2) → EvIn W B 0 xs := by
  rcases h with ⟨h1, h2, h3, h4⟩ | ⟨G, cur, h1, h2, h3, h4, h5, h6, h7⟩
  · subst h3
    exact ⟨0, fun h => absurd h (by simp), fun W _ => ⟨fun i x hi => by simp at hi, fun i x hi => by simp at hi⟩⟩
  · refine ⟨G, fun _ => h1, fun W hW => ?_⟩
    have hr := hW _ (by rw [h3]; exact List.mem_cons_self ..)
    exact evIn_owns (N := N) (n := xs.length) (c := c) ⟨flat_len ho, .inr ⟨G, c, cur, rfl, h2, hr, h4, h5, h6, h7⟩⟩ ho
theorem FB.events (C : Chn Lg) (h : FB Lg F w lp xs R W) : Calls Try.prog 14 #[.pointer (some lp)] W fun e w' => ∃ ao c R1, e = .returned (.slice ao xs.length c) ∧ OutE w.heap.size xs ao c R1 ∧ FB Lg F w lp xs (R1 ++ R) w' ∧ (∀ t ∈ R1, W.heap.size ≤ t.1) := by
  obtain ⟨S, h1, h2, h3, h4⟩ := h
  have hz := h3.size
  refine (C.events h1).mono fun e w' ⟨S', ao, c, e1, ho, k1, k2, k3, k4⟩ => ?_
  have hS : ∀ j, S' j → F j ∨ w.heap.size ≤ j := fun j hj => (k2 j hj).elim (h2 j) fun h => .inr (Nat.le_trans hz h)
  have hR : ∀ t ∈ R, w'.heap[t.1]? = some t.2 ∧ ¬ S' t.1 := fun t ht => ⟨(k4.block _ (blk_lt (h4 t ht).1) (h4 t ht).2).trans (h4 t ht).1, fun h => (k2 _ h).elim (h4 t ht).2 fun h9 => absurd (blk_lt (h4 t ht).1) (by omega)⟩
  rcases ho.2 with ⟨e2, e3⟩ | ⟨G, c3, cur, e4, hG, hblk, hc1, hc2, hc3, hc4⟩
  · injection e2 with e4 e5 e6
    exact ⟨ao, c, [], e1, .inl ⟨e4, e6, List.length_eq_zero_iff.1 e3, rfl⟩, ⟨S', k1, hS, h3.trans k4 h2, hR⟩, fun t ht => (by cases ht)⟩
  · injection e4 with e4 e5 e6
    subst e4 e6
    refine ⟨_, c, [(G, .cells cur 35 (0, 0))], e1, .inr ⟨G, cur, rfl, Nat.le_trans hz hG, rfl, hc1, hc2, hc3, hc4⟩, ⟨S', k1, hS, h3.trans k4 h2, fun t ht => ?_⟩, fun t ht => by rw [List.mem_singleton] at ht; subst ht; exact hG⟩
    rcases List.mem_append.1 ht with ht | ht
    · rw [List.mem_singleton] at ht
      subst ht
      exact ⟨hblk, k3 G 0 rfl⟩
    · exact hR t ht
/-- The row is written over by its owner. -/
theorem FB.over (C : Chn Lg) {G : Nat} {o o' : Obj} (h : FB Lg F w lp xs ([(G, o)] ++ R3) W) (hG : w.heap.size ≤ G) (hs : SameBut G W W') (hr : W'.heap[G]? = some o') (sep : ∀ t1 ∈ [(G, o)], ∀ t ∈ R3, t1.1 ≠ t.1) : FB Lg F w lp xs ([(G, o')] ++ R3) W' :=
  FB.swap C h (.inr hG) hr (fun k _ hk => hs.block k hk) (by rw [hs.size]; exact Nat.le_refl _) hs.os hs.tape hs.output fun t ht => (sep _ (List.mem_cons_self ..) t ht).symm
/-- .. or grows. -/
theorem FB.grow (C : Chn Lg) (h : FB Lg F w lp xs (R1 ++ R3) W) (hA : OutA w.heap.size m ao c R1) (sep : ∀ t1 ∈ R1, ∀ t ∈ R3, t1.1 ≠ t.1) {ao' : Option Addr} {m' c' : Nat} {vs : List Value} (hm : 0 < m') (ho : W'.ownsRow w.heap.size 35 33 (.slice ao' m' c') m' vs) (hb : Below w.heap.size W W') (hz : W.heap.size ≤ W'.heap.size) (hk : ∀ k, k < W.heap.size → (∀ g, ao = some ⟨g, 0, none⟩ → k ≠ g) → W'.heap[k]? = W.heap[k]?) (hw : ao' = ao ∨ ao' = some ⟨W.heap.size, 0, none⟩) :
    ∃ R1', OutA w.heap.size m' ao' c' R1' ∧ FB Lg F w lp xs (R1' ++ R3) W' ∧ ∀ t1 ∈ R1', ∀ t ∈ R3, t1.1 ≠ t.1 := by
  obtain ⟨S, h1, h2, h3, h4⟩ := h
  rcases ho.2 with ⟨e2, e3⟩ | ⟨G', c3, cur, e4, hG', hblk, hc1, hc2, hc3, hc4⟩
  · omega
  injection e4 with e4 e5 e6
  subst e4 e6
  have hold : ∀ g, ao = some ⟨g, 0, none⟩ → ¬ S g ∧ ∀ t ∈ R3, t.1 ≠ g := fun g hg => by
    rcases hA with ⟨e, _⟩ | ⟨G, cu, e, _, e2, _⟩
    · rw [e] at hg; cases hg
    · rw [e] at hg
      injection hg with hg
      injection hg with hg
      subst hg
      have hm : (G, Obj.cells cu 35 (0, 0)) ∈ R1 := by rw [e2]; exact List.mem_cons_self ..
      exact ⟨(h4 _ (List.mem_append.2 (.inl hm))).2, fun t ht => (sep _ hm t ht).symm⟩
  have hnew : ¬ S G' ∧ ∀ t ∈ R3, G' ≠ t.1 := by
    rcases hw with e | e
    · have := hold G' e.symm
      exact ⟨this.1, fun t ht => (this.2 t ht).symm⟩
    · injection e with e
      injection e with e
      subst e
      exact ⟨fun hs => absurd (C.lt h1 _ hs) (by omega), fun t ht e => by have := blk_lt (h4 t (List.mem_append.2 (.inr ht))).1; omega⟩
  refine ⟨[(G', .cells cur 35 (0, 0))], .inr ⟨G', cur, rfl, hG', rfl, hc1, hc2, hc3⟩, ⟨S, C.keep h1 (fun j hj => hk j (C.lt h1 j hj) fun g hg e => (hold g hg).1 (by rw [← e]; exact hj)) hz, h2, h3.trans (T := fun j => w.heap.size ≤ j) ⟨hb.os, hb.tape, hb.output, hz, fun k _ hn => hb.block k (by omega)⟩ (fun j hj => .inr hj), fun t ht => ?_⟩, fun t1 ht1 t ht => by rw [List.mem_singleton] at ht1; subst ht1; exact hnew.2 t ht⟩
  rcases List.mem_append.1 ht with ht | ht
  · rw [List.mem_singleton] at ht
    subst ht
    exact ⟨hblk, hnew.1⟩
  · have := h4 t (List.mem_append.2 (.inr ht))
    exact ⟨(hk _ (blk_lt this.1) fun g hg => (hold g hg).2 t ht).trans this.1, this.2⟩
end

/-- While the events are asked for twice. -/
structure E2 (Lg : (Nat → Prop) → World → Addr → List EvV → Prop) (F : Nat → Prop) (w : World) (lp : Addr) (xs : List EvV) (R : List (Nat × Obj)) (l4 l9 l10 l11 : Bool) (x65 x70 x6 x7 : Value) (W : World) : Prop where
  rows : ∃ R1 R2, (l4 = false → R1 = []) ∧ (l4 = true → ∃ ao c, x65 = .slice ao xs.length c ∧ OutE w.heap.size xs ao c R1) ∧ (l9 = false → R2 = []) ∧ (l9 = true → ∃ ao c, x70 = .slice ao xs.length c ∧ OutE w.heap.size xs ao c R2) ∧ FB Lg F w lp xs (R1 ++ (R2 ++ R)) W ∧ (∀ t1 ∈ R1, ∀ t ∈ R2 ++ R, t1.1 ≠ t.1)
  fb : FB Lg F w lp xs R W
  c10 : l10 = true → l4 = true
  p10 : l10 = true → x6 = x65
  c11 : l11 = true → l9 = true
  p11 : l11 = true → x7 = x70
section
variable {Lg : (Nat → Prop) → World → Addr → List EvV → Prop} {F : Nat → Prop} {w : World} {lp : Addr} {xs : List EvV} {R R1 R3 : List (Nat × Obj)} {l4 l9 l10 l11 : Bool} {x65 x70 x6 x7 : Value} {W W2 : World} {c : Nat} {ao : Option Addr}
theorem E2.zero (h : FB Lg F w lp xs R W) (x65 x70 x6 x7 : Value) : E2 Lg F w lp xs R false false false false x65 x70 x6 x7 W :=
  ⟨⟨[], [], fun _ => rfl, fun h => (by cases h), fun _ => rfl, fun h => (by cases h), h, fun t ht => (by cases ht)⟩, h, fun h => (by cases h), fun h => (by cases h), fun h => (by cases h), fun h => (by cases h)⟩
theorem E2.call4 (C : Chn Lg) (h : E2 Lg F w lp xs R l4 l9 l10 l11 x65 x70 x6 x7 W) (h4 : l4 = false) : Calls Try.prog 14 #[.pointer (some lp)] W fun e w' => ∃ ao c, e = .returned (.slice ao xs.length c) ∧ E2 Lg F w lp xs R true l9 l10 l11 (.slice ao xs.length c) x70 x6 x7 w' := by
  obtain ⟨R1, R2, a1, a2, a3, a4, a5, a6⟩ := h.rows
  have e1 := a1 h4
  subst e1
  have h10 := ff h.c10 h4
  subst h10
  refine (FB.events C a5).mono fun e w' ⟨ao, c, R1, e1, ho, hf, hn⟩ => ⟨ao, c, e1, ⟨R1, R2, fun h => (by cases h), fun _ => ⟨ao, c, rfl, ho⟩, a3, a4, hf, fun t1 ht1 t ht e => ?_⟩, hf.weaken fun t ht => List.mem_append.2 (.inr (List.mem_append.2 (.inr (List.mem_append.2 (.inr ht))))), fun h => (by cases h), fun h => (by cases h), h.c11, h.p11⟩
  have := hn t1 ht1
  have := blk_lt (a5.blk (G := t.1) (o := t.2) (List.mem_append.2 (.inr ht)))
  omega
theorem E2.call9 (C : Chn Lg) (h : E2 Lg F w lp xs R l4 l9 l10 l11 x65 x70 x6 x7 W) (h9 : l9 = false) : Calls Try.prog 14 #[.pointer (some lp)] W fun e w' => ∃ ao c, e = .returned (.slice ao xs.length c) ∧ E2 Lg F w lp xs R l4 true l10 l11 x65 (.slice ao xs.length c) x6 x7 w' := by
  obtain ⟨R1, R2, a1, a2, a3, a4, a5, a6⟩ := h.rows
  have e1 := a3 h9
  subst e1
  have h11 := ff h.c11 h9
  subst h11
  refine (FB.events C a5).mono fun e w' ⟨ao, c, R2, e1, ho, hf, hn⟩ => ⟨ao, c, e1, ⟨R1, R2, a1, a2, fun h => (by cases h), fun _ => ⟨ao, c, rfl, ho⟩, hf.weaken fun t ht => ?_, fun t1 ht1 t ht => ?_⟩, hf.weaken fun t ht => List.mem_append.2 (.inr (List.mem_append.2 (.inr (List.mem_append.2 (.inr ht))))), h.c10, h.p10, fun h => (by cases h), fun h => (by cases h)⟩
  · rcases List.mem_append.1 ht with ht | ht
    · exact List.mem_append.2 (.inr (List.mem_append.2 (.inl ht)))
    · rcases List.mem_append.1 ht with ht | ht
      · exact List.mem_append.2 (.inl ht)
      · exact List.mem_append.2 (.inr (List.mem_append.2 (.inr (List.mem_append.2 (.inr ht)))))
  · rcases List.mem_append.1 ht with ht | ht
    · intro e
      have := hn t ht
      have := blk_lt (a5.blk (G := t1.1) (o := t1.2) (List.mem_append.2 (.inl ht1)))
      omega
    · exact a6 t1 ht1 t (List.mem_append.2 (.inr ht))
theorem E2.s10 (h : E2 Lg F w lp xs R l4 l9 l10 l11 x65 x70 x6 x7 W) (h4 : l4 = true) : E2 Lg F w lp xs R l4 l9 true l11 x65 x70 x65 x7 W :=
  ⟨h.rows, h.fb, fun _ => h4, fun _ => rfl, h.c11, h.p11⟩
theorem E2.s11 (h : E2 Lg F w lp xs R l4 l9 l10 l11 x65 x70 x6 x7 W) (h9 : l9 = true) : E2 Lg F w lp xs R l4 l9 l10 true x65 x70 x6 x70 W :=
  ⟨h.rows, h.fb, h.c10, h.p10, fun _ => h9, fun _ => rfl⟩
theorem E2.v65 (h : E2 Lg F w lp xs R l4 l9 l10 l11 x65 x70 x6 x7 W) (h4 : l4 = true) : ∃ ao c, x65 = .slice ao xs.length c := by
  obtain ⟨R1, R2, a1, a2, _⟩ := h.rows
  obtain ⟨ao, c, e, _⟩ := a2 h4
  exact ⟨ao, c, e⟩
theorem E2.v70 (h : E2 Lg F w lp xs R l4 l9 l10 l11 x65 x70 x6 x7 W) (h9 : l9 = true) : ∃ ao c, x70 = .slice ao xs.length c := by
  obtain ⟨R1, R2, a1, a2, a3, a4, _⟩ := h.rows
  obtain ⟨ao, c, e, _⟩ := a4 h9
  exact ⟨ao, c, e⟩
theorem E2.ends (h : E2 Lg F w lp xs R true true true true x65 x70 x6 x7 W) : ∃ ao c R1 bo d R2, x6 = .slice ao xs.length c ∧ x7 = .slice bo xs.length d ∧ OutE w.heap.size xs ao c R1 ∧ OutE w.heap.size xs bo d R2 ∧ FB Lg F w lp xs (R1 ++ (R2 ++ R)) W ∧ ∀ t1 ∈ R1, ∀ t ∈ R2 ++ R, t1.1 ≠ t.1 := by
  obtain ⟨R1, R2, a1, a2, a3, a4, a5, a6⟩ := h.rows
  obtain ⟨ao, c, e, ho⟩ := a2 rfl
  obtain ⟨bo, d, e2, ho2⟩ := a4 rfl
  exact ⟨ao, c, R1, bo, d, R2, (h.p10 rfl).trans e, (h.p11 rfl).trans e2, ho, ho2, a5, a6⟩
end

structure S11 (W1 : World) (Lg : (Nat → Prop) → World → Addr → List EvV → Prop) (F : Nat → Prop) (w : World) (lp : Addr) (xs : List EvV) (R : List (Nat × Obj)) (g : Nat) (L : Nat → Bool) (x61 x62 x63 x64 x65 x66 x67 x68 x69 x70 x6 x7 : Value) (W : World) : Prop where
  x : E2 Lg F w lp xs R (L 4) (L 9) (L 10) (L 11) x65 x70 x6 x7 W
  p0 : L 0 = true → x61 = .pointer (some ⟨g, 0, none⟩)
  p1 : L 1 = true → x62 = .pointer (some ⟨g, 0, none⟩)
  p2 : L 2 = true → x63 = .pointer (some ⟨g, 0, none⟩)
  p3 : L 3 = true → x64 = .pointer (some lp)
  p5 : L 5 = true → x66 = .pointer (some ⟨g, 0, none⟩)
  p6 : L 6 = true → x67 = .pointer (some ⟨g, 0, none⟩)
  p7 : L 7 = true → x68 = .pointer (some ⟨g, 0, none⟩)
  p8 : L 8 = true → x69 = .pointer (some lp)
section
variable {W1 : World} {Lg : (Nat → Prop) → World → Addr → List EvV → Prop} {F : Nat → Prop} {w : World} {lp : Addr} {xs : List EvV} {R : List (Nat × Obj)} {g : Nat} {L : Nat → Bool} {x61 x62 x63 x64 x65 x66 x67 x68 x69 x70 x6 x7 : Value} {W W2 : World}
theorem S11.s0 (h : S11 W1 Lg F w lp xs R g L x61 x62 x63 x64 x65 x66 x67 x68 x69 x70 x6 x7 W) : S11 W1 Lg F w lp xs R g (upd L 0) (.pointer (some ⟨g, 0, none⟩)) x62 x63 x64 x65 x66 x67 x68 x69 x70 x6 x7 W :=
  ⟨h.x, fun _ => rfl, h.p1, h.p2, h.p3, h.p5, h.p6, h.p7, h.p8⟩
theorem S11.s1 (h : S11 W1 Lg F w lp xs R g L x61 x62 x63 x64 x65 x66 x67 x68 x69 x70 x6 x7 W) : S11 W1 Lg F w lp xs R g (upd L 1) x61 (.pointer (some ⟨g, 0, none⟩)) x63 x64 x65 x66 x67 x68 x69 x70 x6 x7 W :=
  ⟨h.x, h.p0, fun _ => rfl, h.p2, h.p3, h.p5, h.p6, h.p7, h.p8⟩
theorem S11.s2 (h : S11 W1 Lg F w lp xs R g L x61 x62 x63 x64 x65 x66 x67 x68 x69 x70 x6 x7 W) : S11 W1 Lg F w lp xs R g (upd L 2) x61 x62 (.pointer (some ⟨g, 0, none⟩)) x64 x65 x66 x67 x68 x69 x70 x6 x7 W :=
  ⟨h.x, h.p0, h.p1, fun _ => rfl, h.p3, h.p5, h.p6, h.p7, h.p8⟩
theorem S11.s3 (h : S11 W1 Lg F w lp xs R g L x61 x62 x63 x64 x65 x66 x67 x68 x69 x70 x6 x7 W) : S11 W1 Lg F w lp xs R g (upd L 3) x61 x62 x63 (.pointer (some lp)) x65 x66 x67 x68 x69 x70 x6 x7 W :=
  ⟨h.x, h.p0, h.p1, h.p2, fun _ => rfl, h.p5, h.p6, h.p7, h.p8⟩
theorem S11.s4 (h : S11 W1 Lg F w lp xs R g L x61 x62 x63 x64 x65 x66 x67 x68 x69 x70 x6 x7 W) {v : Value} (hX : E2 Lg F w lp xs R ((upd L 4) 4) ((upd L 4) 9) ((upd L 4) 10) ((upd L 4) 11) v x70 x6 x7 W2) : S11 W1 Lg F w lp xs R g (upd L 4) x61 x62 x63 x64 v x66 x67 x68 x69 x70 x6 x7 W2 :=
  ⟨hX, h.p0, h.p1, h.p2, h.p3, h.p5, h.p6, h.p7, h.p8⟩
theorem S11.s5 (h : S11 W1 Lg F w lp xs R g L x61 x62 x63 x64 x65 x66 x67 x68 x69 x70 x6 x7 W) : S11 W1 Lg F w lp xs R g (upd L 5) x61 x62 x63 x64 x65 (.pointer (some ⟨g, 0, none⟩)) x67 x68 x69 x70 x6 x7 W :=
  ⟨h.x, h.p0, h.p1, h.p2, h.p3, fun _ => rfl, h.p6, h.p7, h.p8⟩
theorem S11.s6 (h : S11 W1 Lg F w lp xs R g L x61 x62 x63 x64 x65 x66 x67 x68 x69 x70 x6 x7 W) : S11 W1 Lg F w lp xs R g (upd L 6) x61 x62 x63 x64 x65 x66 (.pointer (some ⟨g, 0, none⟩)) x68 x69 x70 x6 x7 W :=
  ⟨h.x, h.p0, h.p1, h.p2, h.p3, h.p5, fun _ => rfl, h.p7, h.p8⟩
theorem S11.s7 (h : S11 W1 Lg F w lp xs R g L x61 x62 x63 x64 x65 x66 x67 x68 x69 x70 x6 x7 W) : S11 W1 Lg F w lp xs R g (upd L 7) x61 x62 x63 x64 x65 x66 x67 (.pointer (some ⟨g, 0, none⟩)) x69 x70 x6 x7 W :=
  ⟨h.x, h.p0, h.p1, h.p2, h.p3, h.p5, h.p6, fun _ => rfl, h.p8⟩
theorem S11.s8 (h : S11 W1 Lg F w lp xs R g L x61 x62 x63 x64 x65 x66 x67 x68 x69 x70 x6 x7 W) : S11 W1 Lg F w lp xs R g (upd L 8) x61 x62 x63 x64 x65 x66 x67 x68 (.pointer (some lp)) x70 x6 x7 W :=
  ⟨h.x, h.p0, h.p1, h.p2, h.p3, h.p5, h.p6, h.p7, fun _ => rfl⟩
theorem S11.s9 (h : S11 W1 Lg F w lp xs R g L x61 x62 x63 x64 x65 x66 x67 x68 x69 x70 x6 x7 W) {v : Value} (hX : E2 Lg F w lp xs R ((upd L 9) 4) ((upd L 9) 9) ((upd L 9) 10) ((upd L 9) 11) x65 v x6 x7 W2) : S11 W1 Lg F w lp xs R g (upd L 9) x61 x62 x63 x64 x65 x66 x67 x68 x69 v x6 x7 W2 :=
  ⟨hX, h.p0, h.p1, h.p2, h.p3, h.p5, h.p6, h.p7, h.p8⟩
theorem S11.s10 (h : S11 W1 Lg F w lp xs R g L x61 x62 x63 x64 x65 x66 x67 x68 x69 x70 x6 x7 W) {v : Value} (hX : E2 Lg F w lp xs R ((upd L 10) 4) ((upd L 10) 9) ((upd L 10) 10) ((upd L 10) 11) x65 x70 v x7 W2) : S11 W1 Lg F w lp xs R g (upd L 10) x61 x62 x63 x64 x65 x66 x67 x68 x69 x70 v x7 W2 :=
  ⟨hX, h.p0, h.p1, h.p2, h.p3, h.p5, h.p6, h.p7, h.p8⟩
theorem S11.s11 (h : S11 W1 Lg F w lp xs R g L x61 x62 x63 x64 x65 x66 x67 x68 x69 x70 x6 x7 W) {v : Value} (hX : E2 Lg F w lp xs R ((upd L 11) 4) ((upd L 11) 9) ((upd L 11) 10) ((upd L 11) 11) x65 x70 x6 v W2) : S11 W1 Lg F w lp xs R g (upd L 11) x61 x62 x63 x64 x65 x66 x67 x68 x69 x70 x6 v W2 :=
  ⟨hX, h.p0, h.p1, h.p2, h.p3, h.p5, h.p6, h.p7, h.p8⟩
end
@[reducible] def IS11 (W1 : World) (Lg : (Nat → Prop) → World → Addr → List EvV → Prop) (F : Nat → Prop) (w : World) (lp : Addr) (xs : List EvV) (R : List (Nat × Obj)) (g : Nat) (y0 y1 y2 y3 y4 y5 y8 y9 y10 y11 y12 y13 y14 y15 y16 y17 y18 y19 y20 y21 y22 y23 y24 y25 y26 y27 y28 y29 y30 y31 y32 y33 y34 y35 y36 y37 y38 y39 y40 y41 y42 y43 y44 y45 y46 y47 y48 y49 y50 y51 y52 y53 y54 y55 y56 y57 y58 y59 y60 y71 y72 y73 y74 y75 y76 y77 y78 y79 y80 y81 y82 y83 y84 y85 y86 y87 y88 y89 y90 y91 y92 y93 y94 y95 y96 y97 y98 y99 y100 y101 y102 y103 y104 y105 y106 y107 y108 y109 y110 y111 y112 y113 y114 y115 y116 y117 y118 y119 y120 y121 y122 y123 y124 y125 y126 y127 y128 y129 y130 y131 y132 y133 y134 y135 y136 y137 y138 y139 y140 y141 y142 y143 y144 y145 y146 y147 y148 y149 y150 y151 y152 y153 y154 y155 y156 y157 y158 y159 y160 y161 y162 y163 y164 y165 y166 y167 y168 y169 y170 y171 y172 y173 y174 y175 y176 y177 y178 y179 : Value) : (Nat → Bool) → Act → World → Prop := fun L a W => ∃ x61 x62 x63 x64 x65 x66 x67 x68 x69 x70 x6 x7, a = ⟨#[y0, y1, y2, y3, y4, y5, x6, x7, y8, y9, y10, y11, y12, y13, y14, y15, y16, y17, y18, y19, y20, y21, y22, y23, y24, y25, y26, y27, y28, y29, y30, y31, y32, y33, y34, y35, y36, y37, y38, y39, y40, y41, y42, y43, y44, y45, y46, y47, y48, y49, y50, y51, y52, y53, y54, y55, y56, y57, y58, y59, y60, x61, x62, x63, x64, x65, x66, x67, x68, x69, x70, y71, y72, y73, y74, y75, y76, y77, y78, y79, y80, y81, y82, y83, y84, y85, y86, y87, y88, y89, y90, y91, y92, y93, y94, y95, y96, y97, y98, y99, y100, y101, y102, y103, y104, y105, y106, y107, y108, y109, y110, y111, y112, y113, y114, y115, y116, y117, y118, y119, y120, y121, y122, y123, y124, y125, y126, y127, y128, y129, y130, y131, y132, y133, y134, y135, y136, y137, y138, y139, y140, y141, y142, y143, y144, y145, y146, y147, y148, y149, y150, y151, y152, y153, y154, y155, y156, y157, y158, y159, y160, y161, y162, y163, y164, y165, y166, y167, y168, y169, y170, y171, y172, y173, y174, y175, y176, y177, y178, y179], []⟩ ∧ S11 W1 Lg F w lp xs R g L x61 x62 x63 x64 x65 x66 x67 x68 x69 x70 x6 x7 W
theorem S11.step {W1 : World} {Lg : (Nat → Prop) → World → Addr → List EvV → Prop} {F : Nat → Prop} {w : World} {lp : Addr} {xs : List EvV} {R : List (Nat × Obj)} {g : Nat} {y0 y1 y2 y3 y4 y5 y8 y9 y10 y11 y12 y13 y14 y15 y16 y17 y18 y19 y20 y21 y22 y23 y24 y25 y26 y27 y28 y29 y30 y31 y32 y33 y34 y35 y36 y37 y38 y39 y40 y41 y42 y43 y44 y45 y46 y47 y48 y49 y50 y51 y52 y53 y54 y55 y56 y57 y58 y59 y60 y71 y72 y73 y74 y75 y76 y77 y78 y79 y80 y81 y82 y83 y84 y85 y86 y87 y88 y89 y90 y91 y92 y93 y94 y95 y96 y97 y98 y99 y100 y101 y102 y103 y104 y105 y106 y107 y108 y109 y110 y111 y112 y113 y114 y115 y116 y117 y118 y119 y120 y121 y122 y123 y124 y125 y126 y127 y128 y129 y130 y131 y132 y133 y134 y135 y136 y137 y138 y139 y140 y141 y142 y143 y144 y145 y146 y147 y148 y149 y150 y151 y152 y153 y154 y155 y156 y157 y158 y159 y160 y161 y162 y163 y164 y165 y166 y167 y168 y169 y170 y171 y172 y173 y174 y175 y176 y177 y178 y179 : Value} {P : Program} {ops : Array Oper} {Q : Exit → Act → World → Prop} {i : Nat} {o : Oper} (hq : ∀ x61 x62 x63 x64 x65 x66 x67 x68 x69 x70 x6 x7 (L : Nat → Bool) (W : World), S11 W1 Lg F w lp xs R g L x61 x62 x63 x64 x65 x66 x67 x68 x69 x70 x6 x7 W → L i = false → (∀ j ∈ onesOf o, L j = true) → ∀ K : Act → World → Prop, Shut (∀ a' w', IS11 W1 Lg F w lp xs R g y0 y1 y2 y3 y4 y5 y8 y9 y10 y11 y12 y13 y14 y15 y16 y17 y18 y19 y20 y21 y22 y23 y24 y25 y26 y27 y28 y29 y30 y31 y32 y33 y34 y35 y36 y37 y38 y39 y40 y41 y42 y43 y44 y45 y46 y47 y48 y49 y50 y51 y52 y53 y54 y55 y56 y57 y58 y59 y60 y71 y72 y73 y74 y75 y76 y77 y78 y79 y80 y81 y82 y83 y84 y85 y86 y87 y88 y89 y90 y91 y92 y93 y94 y95 y96 y97 y98 y99 y100 y101 y102 y103 y104 y105 y106 y107 y108 y109 y110 y111 y112 y113 y114 y115 y116 y117 y118 y119 y120 y121 y122 y123 y124 y125 y126 y127 y128 y129 y130 y131 y132 y133 y134 y135 y136 y137 y138 y139 y140 y141 y142 y143 y144 y145 y146 y147 y148 y149 y150 y151 y152 y153 y154 y155 y156 y157 y158 y159 y160 y161 y162 y163 y164 y165 y166 y167 y168 y169 y170 y171 y172 y173 y174 y175 y176 y177 y178 y179 (upd L i) a' w' → K a' w') → if Region.wanted o (yielded ops (⟨#[y0, y1, y2, y3, y4, y5, x6, x7, y8, y9, y10, y11, y12, y13, y14, y15, y16, y17, y18, y19, y20, y21, y22, y23, y24, y25, y26, y27, y28, y29, y30, y31, y32, y33, y34, y35, y36, y37, y38, y39, y40, y41, y42, y43, y44, y45, y46, y47, y48, y49, y50, y51, y52, y53, y54, y55, y56, y57, y58, y59, y60, x61, x62, x63, x64, x65, x66, x67, x68, x69, x70, y71, y72, y73, y74, y75, y76, y77, y78, y79, y80, y81, y82, y83, y84, y85, y86, y87, y88, y89, y90, y91, y92, y93, y94, y95, y96, y97, y98, y99, y100, y101, y102, y103, y104, y105, y106, y107, y108, y109, y110, y111, y112, y113, y114, y115, y116, y117, y118, y119, y120, y121, y122, y123, y124, y125, y126, y127, y128, y129, y130, y131, y132, y133, y134, y135, y136, y137, y138, y139, y140, y141, y142, y143, y144, y145, y146, y147, y148, y149, y150, y151, y152, y153, y154, y155, y156, y157, y158, y159, y160, y161, y162, y163, y164, y165, y166, y167, y168, y169, y170, y171, y172, y173, y174, y175, y176, y177, y178, y179], []⟩ : Act).tmps) = true then Oper.wp P o ⟨#[y0, y1, y2, y3, y4, y5, x6, x7, y8, y9, y10, y11, y12, y13, y14, y15, y16, y17, y18, y19, y20, y21, y22, y23, y24, y25, y26, y27, y28, y29, y30, y31, y32, y33, y34, y35, y36, y37, y38, y39, y40, y41, y42, y43, y44, y45, y46, y47, y48, y49, y50, y51, y52, y53, y54, y55, y56, y57, y58, y59, y60, x61, x62, x63, x64, x65, x66, x67, x68, x69, x70, y71, y72, y73, y74, y75, y76, y77, y78, y79, y80, y81, y82, y83, y84, y85, y86, y87, y88, y89, y90, y91, y92, y93, y94, y95, y96, y97, y98, y99, y100, y101, y102, y103, y104, y105, y106, y107, y108, y109, y110, y111, y112, y113, y114, y115, y116, y117, y118, y119, y120, y121, y122, y123, y124, y125, y126, y127, y128, y129, y130, y131, y132, y133, y134, y135, y136, y137, y138, y139, y140, y141, y142, y143, y144, y145, y146, y147, y148, y149, y150, y151, y152, y153, y154, y155, y156, y157, y158, y159, y160, y161, y162, y163, y164, y165, y166, y167, y168, y169, y170, y171, y172, y173, y174, y175, y176, y177, y178, y179], []⟩ W K Q else K ((⟨#[y0, y1, y2, y3, y4, y5, x6, x7, y8, y9, y10, y11, y12, y13, y14, y15, y16, y17, y18, y19, y20, y21, y22, y23, y24, y25, y26, y27, y28, y29, y30, y31, y32, y33, y34, y35, y36, y37, y38, y39, y40, y41, y42, y43, y44, y45, y46, y47, y48, y49, y50, y51, y52, y53, y54, y55, y56, y57, y58, y59, y60, x61, x62, x63, x64, x65, x66, x67, x68, x69, x70, y71, y72, y73, y74, y75, y76, y77, y78, y79, y80, y81, y82, y83, y84, y85, y86, y87, y88, y89, y90, y91, y92, y93, y94, y95, y96, y97, y98, y99, y100, y101, y102, y103, y104, y105, y106, y107, y108, y109, y110, y111, y112, y113, y114, y115, y116, y117, y118, y119, y120, y121, y122, y123, y124, y125, y126, y127, y128, y129, y130, y131, y132, y133, y134, y135, y136, y137, y138, y139, y140, y141, y142, y143, y144, y145, y146, y147, y148, y149, y150, y151, y152, y153, y154, y155, y156, y157, y158, y159, y160, y161, y162, y163, y164, y165, y166, y167, y168, y169, y170, y171, y172, y173, y174, y175, y176, y177, y178, y179], []⟩ : Act).put o.dst undef) W) : StepI P ops (IS11 W1 Lg F w lp xs R g y0 y1 y2 y3 y4 y5 y8 y9 y10 y11 y12 y13 y14 y15 y16 y17 y18 y19 y20 y21 y22 y23 y24 y25 y26 y27 y28 y29 y30 y31 y32 y33 y34 y35 y36 y37 y38 y39 y40 y41 y42 y43 y44 y45 y46 y47 y48 y49 y50 y51 y52 y53 y54 y55 y56 y57 y58 y59 y60 y71 y72 y73 y74 y75 y76 y77 y78 y79 y80 y81 y82 y83 y84 y85 y86 y87 y88 y89 y90 y91 y92 y93 y94 y95 y96 y97 y98 y99 y100 y101 y102 y103 y104 y105 y106 y107 y108 y109 y110 y111 y112 y113 y114 y115 y116 y117 y118 y119 y120 y121 y122 y123 y124 y125 y126 y127 y128 y129 y130 y131 y132 y133 y134 y135 y136 y137 y138 y139 y140 y141 y142 y143 y144 y145 y146 y147 y148 y149 y150 y151 y152 y153 y154 y155 y156 y157 y158 y159 y160 y161 y162 y163 y164 y165 y166 y167 y168 y169 y170 y171 y172 y173 y174 y175 y176 y177 y178 y179) Q i o := by
  rintro L a W ⟨x61, x62, x63, x64, x65, x66, x67, x68, x69, x70, x6, x7, rfl, h⟩
  exact hq _ _ _ _ _ _ _ _ _ _ _ _ _ _ h
theorem S11.ends {W1 : World} {Lg : (Nat → Prop) → World → Addr → List EvV → Prop} {F : Nat → Prop} {w : World} {lp : Addr} {xs : List EvV} {R : List (Nat × Obj)} {g : Nat} {y0 y1 y2 y3 y4 y5 y8 y9 y10 y11 y12 y13 y14 y15 y16 y17 y18 y19 y20 y21 y22 y23 y24 y25 y26 y27 y28 y29 y30 y31 y32 y33 y34 y35 y36 y37 y38 y39 y40 y41 y42 y43 y44 y45 y46 y47 y48 y49 y50 y51 y52 y53 y54 y55 y56 y57 y58 y59 y60 y71 y72 y73 y74 y75 y76 y77 y78 y79 y80 y81 y82 y83 y84 y85 y86 y87 y88 y89 y90 y91 y92 y93 y94 y95 y96 y97 y98 y99 y100 y101 y102 y103 y104 y105 y106 y107 y108 y109 y110 y111 y112 y113 y114 y115 y116 y117 y118 y119 y120 y121 y122 y123 y124 y125 y126 y127 y128 y129 y130 y131 y132 y133 y134 y135 y136 y137 y138 y139 y140 y141 y142 y143 y144 y145 y146 y147 y148 y149 y150 y151 y152 y153 y154 y155 y156 y157 y158 y159 y160 y161 y162 y163 y164 y165 y166 y167 y168 y169 y170 y171 y172 y173 y174 y175 y176 y177 y178 y179 : Value} {mm_ : Nat} {Q : Exit → Act → World → Prop} (hq : ∀ x61 x62 x63 x64 x65 x66 x67 x68 x69 x70 x6 x7 (L : Nat → Bool) (W : World), (∀ j, j < mm_ → L j = true) → S11 W1 Lg F w lp xs R g L x61 x62 x63 x64 x65 x66 x67 x68 x69 x70 x6 x7 W → Q .normal ⟨#[y0, y1, y2, y3, y4, y5, x6, x7, y8, y9, y10, y11, y12, y13, y14, y15, y16, y17, y18, y19, y20, y21, y22, y23, y24, y25, y26, y27, y28, y29, y30, y31, y32, y33, y34, y35, y36, y37, y38, y39, y40, y41, y42, y43, y44, y45, y46, y47, y48, y49, y50, y51, y52, y53, y54, y55, y56, y57, y58, y59, y60, x61, x62, x63, x64, x65, x66, x67, x68, x69, x70, y71, y72, y73, y74, y75, y76, y77, y78, y79, y80, y81, y82, y83, y84, y85, y86, y87, y88, y89, y90, y91, y92, y93, y94, y95, y96, y97, y98, y99, y100, y101, y102, y103, y104, y105, y106, y107, y108, y109, y110, y111, y112, y113, y114, y115, y116, y117, y118, y119, y120, y121, y122, y123, y124, y125, y126, y127, y128, y129, y130, y131, y132, y133, y134, y135, y136, y137, y138, y139, y140, y141, y142, y143, y144, y145, y146, y147, y148, y149, y150, y151, y152, y153, y154, y155, y156, y157, y158, y159, y160, y161, y162, y163, y164, y165, y166, y167, y168, y169, y170, y171, y172, y173, y174, y175, y176, y177, y178, y179], []⟩ W) : ∀ L a' w', (∀ j, j < mm_ → L j = true) → IS11 W1 Lg F w lp xs R g y0 y1 y2 y3 y4 y5 y8 y9 y10 y11 y12 y13 y14 y15 y16 y17 y18 y19 y20 y21 y22 y23 y24 y25 y26 y27 y28 y29 y30 y31 y32 y33 y34 y35 y36 y37 y38 y39 y40 y41 y42 y43 y44 y45 y46 y47 y48 y49 y50 y51 y52 y53 y54 y55 y56 y57 y58 y59 y60 y71 y72 y73 y74 y75 y76 y77 y78 y79 y80 y81 y82 y83 y84 y85 y86 y87 y88 y89 y90 y91 y92 y93 y94 y95 y96 y97 y98 y99 y100 y101 y102 y103 y104 y105 y106 y107 y108 y109 y110 y111 y112 y113 y114 y115 y116 y117 y118 y119 y120 y121 y122 y123 y124 y125 y126 y127 y128 y129 y130 y131 y132 y133 y134 y135 y136 y137 y138 y139 y140 y141 y142 y143 y144 y145 y146 y147 y148 y149 y150 y151 y152 y153 y154 y155 y156 y157 y158 y159 y160 y161 y162 y163 y164 y165 y166 y167 y168 y169 y170 y171 y172 y173 y174 y175 y176 y177 y178 y179 L a' w' → Q .normal a' w' := by
  rintro L a W hall ⟨x61, x62, x63, x64, x65, x66, x67, x68, x69, x70, x6, x7, rfl, h⟩
  exact hq _ _ _ _ _ _ _ _ _ _ _ _ _ _ hall h
set_option maxHeartbeats 4000000 in
set_option maxRecDepth 1000000 in
theorem step_evs {Lg : (Nat → Prop) → World → Addr → List EvV → Prop} (C : Chn Lg) (F : Nat → Prop) (w : World) (g : Nat) (xs : List EvV) (hk : Bk Lg F w g xs) (on : Int) (x : EvV) (ko : Option Addr) (kn kc : Nat) (no : Option Addr) (nb nc : Nat) :
    Calls Try.prog 10 #[.pointer (some ⟨g, 0, none⟩), .agg (opC 4 on x ko kn kc no nb nc).toArray] w (StP Lg F w g) := by
  obtain ⟨OC, hOC⟩ : ∃ OC, OC = opC 4 on x ko kn kc no nb nc := ⟨_, rfl⟩
  have hO0 : OC[0]? = some (.int .i64 4) := by rw [hOC]; rfl
  rw [← hOC]
  clear hOC
  obtain ⟨lp, ao, c, B, ob, hF, hFg, hFB, hgl, hBl, hao, hnil, hev⟩ := hk.start C OC
  obtain ⟨W1, hW1⟩ : ∃ W1, W1 = w.alloc (.cells OC.toArray 38) := ⟨_, rfl⟩
  rw [← hW1] at hF
  have hn : xs.length ≤ 1024 := hF.len C
  have hxo : ∀ y ∈ xs, EvOk y := (hev _ hF.ev).all
  have HC : Hid (Chn Lg) := C
  obtain ⟨R, hR⟩ : ∃ R, R = bkR w.heap.size g OC lp ao xs.length c B ob := ⟨_, rfl⟩
  rw [← hR] at hF
  have P0 : Hid (FB Lg F w lp xs R W1) := hF
  have CB : Hid (∀ W, FB Lg F w lp xs R W → W.cell? ⟨g, 0, none⟩ = some (.pointer (some lp)) ∧ W.cell? ⟨g, 1, none⟩ = some (.slice ao xs.length c)) := by rw [hR]; exact fun W h => ⟨h.bk.cell 0 _ rfl, h.bk.cell 1 _ rfl⟩
  have CK : Hid (∀ W, FB Lg F w lp xs R W → W.cell? ⟨w.heap.size, 0, none⟩ = some (.int .i64 4)) := by rw [hR]; exact fun W h => h.op.cell 0 _ hO0
  have EV : Hid (∀ W, FB Lg F w lp xs R W → EvIn W B 0 xs) := by rw [hR]; exact fun W h => hev W h.ev
  have FIN : Hid (∀ W, FB Lg F w lp xs R W → StP Lg F w g (.returned (.bool true)) W) := by rw [hR]; exact fun W h => h.endP C hFg hFB hao hnil hev
  have HAO : Hid (0 < xs.length → ao = some ⟨B, 0, none⟩) := fun h => (hao h).1
  have HXO : Hid (∀ y ∈ xs, EvOk y) := hxo
  clear hF C hao hnil hev hFg hFB hO0 hk hxo hR
  go_enter Try.func10, Try.ntmps10
  refine wp_seq_k fun K hK => ?_
  have HKK : Hid _ := hK
  clear hK
  go_wp2_with fail
  refine HKK.out _ _ ?_
  clear HKK
  rw [← hW1]
  clear hW1
  have c0 := CK.out _ P0.out
  go_wp2_with fail
  clear c0
  refine wp_region_inv (IS11 W1 Lg F w lp xs R g _ _ _ _ _ _ _ _ _ _ _ _ _ _ _ _ _ _ _ _ _ _ _ _ _ _ _ _ _ _ _ _ _ _ _ _ _ _ _ _ _ _ _ _ _ _ _ _ _ _ _ _ _ _ _ _ _ _ _ _ _ _ _ _ _ _ _ _ _ _ _ _ _ _ _ _ _ _ _ _ _ _ _ _ _ _ _ _ _ _ _ _ _ _ _ _ _ _ _ _ _ _ _ _ _ _ _ _ _ _ _ _ _ _ _ _ _ _ _ _ _ _ _ _ _ _ _ _ _ _ _ _ _ _ _ _ _ _ _ _ _ _ _ _ _ _ _ _ _ _ _ _ _ _ _ _ _ _ _ _ _ _ _ _ _ _ _ _) (by kernel_rfl) (by kernel_rfl) ⟨_, _, _, _, _, _, _, _, _, _, _, _, rfl, ⟨E2.zero (P0.out.drew HC.out) _ _ _ _, fun k => (by cases k), fun k => (by cases k), fun k => (by cases k), fun k => (by cases k), fun k => (by cases k), fun k => (by cases k), fun k => (by cases k), fun k => (by cases k)⟩⟩ ?_ ?_
  · refine .cons ?_ (.cons ?_ (.cons ?_ (.cons ?_ (.cons ?_ (.cons ?_ (.cons ?_ (.cons ?_ (.cons ?_ (.cons ?_ (.cons ?_ (.cons ?_ .nil)))))))))))
    all_goals (refine S11.step ?_; intro x61 x62 x63 x64 x65 x66 x67 x68 x69 x70 x6 x7 L W hI hL hd K hK)
    · rw [if_pos (by rfl)]
      go_simp
      exact hK.out _ _ ⟨_, _, _, _, _, _, _, _, _, _, _, _, rfl, hI.s0⟩
    · have hx0 := hI.p0 (hd 0 (by decide))
      subst hx0
      rw [if_pos (by rfl)]
      go_simp
      exact hK.out _ _ ⟨_, _, _, _, _, _, _, _, _, _, _, _, rfl, hI.s1⟩
    · have hx1 := hI.p1 (hd 1 (by decide))
      subst hx1
      rw [if_pos (by rfl)]
      go_simp
      exact hK.out _ _ ⟨_, _, _, _, _, _, _, _, _, _, _, _, rfl, hI.s2⟩
    · have hx2 := hI.p2 (hd 2 (by decide))
      subst hx2
      rw [if_pos (by rfl)]
      have hc := (CB.out _ hI.x.fb).1
      go_simp
      exact hK.out _ _ ⟨_, _, _, _, _, _, _, _, _, _, _, _, rfl, hI.s3⟩
    · have hx3 := hI.p3 (hd 3 (by decide))
      subst hx3
      rw [if_pos (by rfl)]
      go_simp
      refine (hI.x.call4 HC.out hL).mono ?_
      rintro e W2 ⟨ao4, c4, rfl, hX⟩
      go_simp
      exact hK.out _ _ ⟨_, _, _, _, _, _, _, _, _, _, _, _, rfl, hI.s4 hX⟩
    · rw [if_pos (by rfl)]
      go_simp
      exact hK.out _ _ ⟨_, _, _, _, _, _, _, _, _, _, _, _, rfl, hI.s5⟩
    · have hx5 := hI.p5 (hd 5 (by decide))
      subst hx5
      rw [if_pos (by rfl)]
      go_simp
      exact hK.out _ _ ⟨_, _, _, _, _, _, _, _, _, _, _, _, rfl, hI.s6⟩
    · have hx6 := hI.p6 (hd 6 (by decide))
      subst hx6
      rw [if_pos (by rfl)]
      go_simp
      exact hK.out _ _ ⟨_, _, _, _, _, _, _, _, _, _, _, _, rfl, hI.s7⟩
    · have hx7 := hI.p7 (hd 7 (by decide))
      subst hx7
      rw [if_pos (by rfl)]
      have hc := (CB.out _ hI.x.fb).1
      go_simp
      exact hK.out _ _ ⟨_, _, _, _, _, _, _, _, _, _, _, _, rfl, hI.s8⟩
    · have hx8 := hI.p8 (hd 8 (by decide))
      subst hx8
      rw [if_pos (by rfl)]
      go_simp
      refine (hI.x.call9 HC.out hL).mono ?_
      rintro e W2 ⟨ao9, c9, rfl, hX⟩
      go_simp
      exact hK.out _ _ ⟨_, _, _, _, _, _, _, _, _, _, _, _, rfl, hI.s9 hX⟩
    · rw [if_pos (by rfl)]
      obtain ⟨ao4, c4, e4⟩ := hI.x.v65 (hd 4 (by decide))
      have hX := hI.x.s10 (hd 4 (by decide))
      subst e4
      go_simp
      exact hK.out _ _ ⟨_, _, _, _, _, _, _, _, _, _, _, _, rfl, hI.s10 hX⟩
    · rw [if_pos (by rfl)]
      obtain ⟨ao4, c4, e4⟩ := hI.x.v70 (hd 9 (by decide))
      have hX := hI.x.s11 (hd 9 (by decide))
      subst e4
      go_simp
      exact hK.out _ _ ⟨_, _, _, _, _, _, _, _, _, _, _, _, rfl, hI.s11 hX⟩
  · refine S11.ends ?_; intro x61 x62 x63 x64 x65 x66 x67 x68 x69 x70 x6 x7 L W hall hI
    have hx0 := hI.p0 (hall 0 (by decide))
    subst hx0
    have hx1 := hI.p1 (hall 1 (by decide))
    subst hx1
    have hx2 := hI.p2 (hall 2 (by decide))
    subst hx2
    have hx3 := hI.p3 (hall 3 (by decide))
    subst hx3
    have hx5 := hI.p5 (hall 5 (by decide))
    subst hx5
    have hx6 := hI.p6 (hall 6 (by decide))
    subst hx6
    have hx7 := hI.p7 (hall 7 (by decide))
    subst hx7
    have hx8 := hI.p8 (hall 8 (by decide))
    subst hx8
    have hXe := hI.x
    rw [hall 4 (by decide)] at hXe
    rw [hall 9 (by decide)] at hXe
    rw [hall 10 (by decide)] at hXe
    rw [hall 11 (by decide)] at hXe
    clear hI hall
    try dsimp only
    obtain ⟨a6, c6, R1, b7, d7, R2, rfl, rfl, o6, o7, hf, sep⟩ := hXe.ends
    clear hXe
    obtain ⟨B6, g6, v6⟩ := o6.ev HXO.out
    obtain ⟨B7, g7, v7⟩ := o7.ev HXO.out
    have WK : Hid (∀ R1 W, FB Lg F w lp xs (R1 ++ (R2 ++ R)) W → FB Lg F w lp xs R W) := fun R1 W h => h.weaken fun t ht => List.mem_append.2 (.inr (List.mem_append.2 (.inr ht)))
    have SM6 : Hid (∀ W, FB Lg F w lp xs (R1 ++ (R2 ++ R)) W → Calls Try.prog 13 #[.slice a6 xs.length c6, .slice ao xs.length c] W fun e w' => e = .returned (.bool true) ∧ FB Lg F w lp xs (R1 ++ (R2 ++ R)) w') := fun W h =>
      (rsame_any W a6 xs.length c6 B6 0 xs rfl (by omega) g6 (v6 W fun t ht => h.blk (List.mem_append.2 (.inl ht))) ao xs.length c B 0 xs rfl HAO.out (EV.out W (WK.out _ _ h)) true (decide_eq_true rfl).symm).mono fun e w' ⟨h1, h2⟩ => ⟨h1, h.dr HC.out h2⟩
    have SM7 : Hid (∀ R1 W, FB Lg F w lp xs (R1 ++ (R2 ++ R)) W → Calls Try.prog 13 #[.slice b7 xs.length d7, .slice ao xs.length c] W fun e w' => e = .returned (.bool true) ∧ FB Lg F w lp xs (R1 ++ (R2 ++ R)) w') := fun R1 W h =>
      (rsame_any W b7 xs.length d7 B7 0 xs rfl (by omega) g7 (v7 W fun t ht => h.blk (List.mem_append.2 (.inr (List.mem_append.2 (.inl ht))))) ao xs.length c B 0 xs rfl HAO.out (EV.out W (WK.out _ _ h)) true (decide_eq_true rfl).symm).mono fun e w' ⟨h1, h2⟩ => ⟨h1, h.dr HC.out h2⟩
    have O6 : Hid (OutA w.heap.size xs.length a6 c6 R1) := o6.any
    have HF : Hid (FB Lg F w lp xs (R1 ++ (R2 ++ R)) W) := hf
    have SEP : Hid (∀ t1 ∈ R1, ∀ t ∈ R2 ++ R, t1.1 ≠ t.1) := sep
    clear o6 o7 hf sep g6 g7 v6 v7 EV HXO HAO CK P0
    obtain ⟨w3, hw3⟩ : ∃ w3, w3 = W := ⟨_, rfl⟩
    subst hw3
    generalize hnn : xs.length = n at *
    have c1 := (CB.out _ (WK.out _ _ HF.out)).2
    go_wp2_with fail
    refine (SM6.out _ HF.out).mono ?_
    rintro e w4 ⟨rfl, hf⟩
    dsimp only
    clear c1 HF SM6
    have HF : Hid (FB Lg F w lp xs (R1 ++ (R2 ++ R)) w4) := hf
    clear hf
    have c1 := (CB.out _ (WK.out _ _ HF.out)).2
    go_wp2_with fail
    refine (SM7.out _ _ HF.out).mono ?_
    rintro e w5 ⟨rfl, hf⟩
    dsimp only
    clear c1 HF
    have HF : Hid (FB Lg F w lp xs (R1 ++ (R2 ++ R)) w5) := hf
    clear hf
    go_wp2_with fail
    go_loopw [8] (fun iv wr => ∃ (i : Nat) (R1 : List (Nat × Obj)), i ≤ n ∧ iv = .int .i64 i ∧ Hid (OutA w.heap.size n a6 c6 R1 ∧ FB Lg F w lp xs (R1 ++ (R2 ++ R)) wr ∧ ∀ t1 ∈ R1, ∀ t ∈ R2 ++ R, t1.1 ≠ t.1)) (fun iv _ => n - (intOf iv).toNat)
    case atStart => exact ⟨0, R1, by omega, rfl, O6.out, HF.out, SEP.out⟩
    case round =>
      clear HF SEP O6
      obtain ⟨i, R1, hi, rfl, HI⟩ := hrel
      by_cases hlt : i < n
      · have y0 : (0 : Int) ≤ (i : Int) := by omega
        have y1 : (i : Int) < (n : Int) := by omega
        obtain ⟨oA, hf, sep⟩ := HI.out
        rcases oA with ⟨_, _, h0, _⟩ | ⟨G, cur, e1, hG, e2, hc1, hc2, hc3⟩
        · omega
        subst e1 e2
        have hrw : Row wr G 35 cur.toList := by
          have := hf.blk (G := G) (o := .cells cur 35 (0, 0)) (List.mem_append.2 (.inl (List.mem_cons_self ..)))
          show _ = _
          rw [this, Array.toArray_toList]
        have hin : (i + 1) * 33 ≤ c6 * 33 := Nat.mul_le_mul_right 33 (by omega)
        have lcur : cur.toList.length = c6 * 33 := by rw [Array.length_toList, hc3]
        have HW : Hid (∀ w', Row w' G 35 (cur.toList.take (i * 33) ++ (z32 ++ [Value.int .i64 77]) ++ cur.toList.drop (i * 33 + (z32 ++ [Value.int .i64 77]).length)) → SameBut G wr w' → ∃ R1, OutA w.heap.size n (some ⟨G, 0, none⟩) c6 R1 ∧ FB Lg F w lp xs (R1 ++ (R2 ++ R)) w' ∧ ∀ t1 ∈ R1, ∀ t ∈ R2 ++ R, t1.1 ≠ t.1) := fun w' hr' hs' => by
          refine ⟨_, .inr ⟨G, _, rfl, hG, rfl, hc1, hc2, ?_⟩, FB.over HC.out hf hG hs' hr' sep, fun t1 ht1 t ht => by rw [List.mem_singleton] at ht1; subst ht1; exact sep (G, .cells cur 35 (0, 0)) (List.mem_cons_self ..) t ht⟩
          rw [List.size_toArray, List.length_append, List.length_append, List.length_take, List.length_drop, lcur]
          have : (z32 ++ [Value.int .i64 77]).length = 33 := rfl
          omega
        clear hf sep HI
        go_wp2_with (refine wpList_store_Row rfl 35 _ _ rfl G 35 (i * 33) cur.toList (z32 ++ [Value.int .i64 77]) hrw (by rw [lcur]; show i * 33 + 33 ≤ _; omega) rfl rfl (by kernel_rfl) (by decide) ?_; intro w' hr' hs')
        obtain ⟨R1', q1, q2, q3⟩ := HW.out w' hr' hs'
        exact ⟨⟨i + 1, R1', by omega, by go_num, q1, q2, q3⟩, by simp [intOf]; omega⟩
      · obtain rfl : i = n := by omega
        have y1 : ¬ ((i : Nat) : Int) < (i : Int) := by omega
        have HI0 : Hid (OutA w.heap.size (i + 0) a6 c6 R1 ∧ FB Lg F w lp xs (R1 ++ (R2 ++ R)) wr ∧ ∀ t1 ∈ R1, ∀ t ∈ R2 ++ R, t1.1 ≠ t.1) := HI.out
        clear HI
        go_wp2_with fail
        obtain ⟨wo, hwo⟩ : ∃ wo, wo = wr := ⟨wr, rfl⟩
        subst hwo
        go_loopw [6, 9] (fun sv iv wr => ∃ (k : Nat) (ao' : Option Addr) (c' : Nat) (R1 : List (Nat × Obj)), k ≤ 20 ∧ sv = .slice ao' (i + k) c' ∧ iv = .int .i64 k ∧ Hid (OutA w.heap.size (i + k) ao' c' R1 ∧ FB Lg F w lp xs (R1 ++ (R2 ++ R)) wr ∧ ∀ t1 ∈ R1, ∀ t ∈ R2 ++ R, t1.1 ≠ t.1)) (fun _ iv _ => 20 - (intOf iv).toNat)
        case atStart => exact ⟨0, a6, c6, R1, by omega, rfl, rfl, HI0.out⟩
        case round =>
          clear HI0
          obtain ⟨k, ao', c', R1, hk, rfl, rfl, HI⟩ := hrel
          by_cases hlt : k < 20
          · have y0 : (0 : Int) ≤ (k : Int) := by omega
            have y1 : (k : Int) < 20 := by omega
            obtain ⟨oA, hf, sep⟩ := HI.out
            have Hgo : Hid (∀ EC : List Value, ∃ vs, (wr.alloc (.cells EC.toArray 35)).ownsRow w.heap.size 35 33 (.slice ao' (i + k) c') (i + k) vs) := fun EC => by
              have hfa := hf.below HC.out ((Below.refl _ _).alloc (Nat.le_refl _) (.cells EC.toArray 35))
              exact oA.owns fun t ht => hfa.blk (List.mem_append.2 (.inl ht))
            have Hnx : Hid (∀ (EC vs : List Value) (ao2 : Option Addr) (c2 : Nat) (w' : World), w'.ownsRow w.heap.size 35 33 (.slice ao2 (i + k + 1) c2) (i + k + 1) vs → Below w.heap.size (wr.alloc (.cells EC.toArray 35)) w' → (wr.alloc (.cells EC.toArray 35)).heap.size ≤ w'.heap.size → (∀ q, q < (wr.alloc (.cells EC.toArray 35)).heap.size → (∀ g, ao' = some ⟨g, 0, none⟩ → q ≠ g) → w'.heap[q]? = (wr.alloc (.cells EC.toArray 35)).heap[q]?) → (ao2 = ao' ∨ ao2 = some ⟨(wr.alloc (.cells EC.toArray 35)).heap.size, 0, none⟩) → ∃ R1, OutA w.heap.size (i + k + 1) ao2 c2 R1 ∧ FB Lg F w lp xs (R1 ++ (R2 ++ R)) w' ∧ ∀ t1 ∈ R1, ∀ t ∈ R2 ++ R, t1.1 ≠ t.1) := fun EC vs ao2 c2 w' ho hb hz hq hw =>
              FB.grow HC.out (hf.below HC.out ((Below.refl _ _).alloc (Nat.le_refl _) (.cells EC.toArray 35))) oA sep (by omega) ho hb hz hq hw
            have HSZ : Hid (w.heap.size ≤ wr.heap.size) := hf.but.size
            clear oA hf sep HI
            obtain ⟨vs, hown⟩ := Hgo.out (z32 ++ [Value.int .i64 78])
            have HOWN : Hid _ := hown
            clear hown Hgo
            go_wp2_with (first | fail | (at_builtin; refine wpList_append_where el_evs rfl (.tmp 101) (.tmp 103) rfl w.heap.size (wr.alloc (.cells (z32 ++ [Value.int .i64 78]).toArray 35)) ao' (i + k) c' vs rfl HOWN.out (by simp; have := HSZ.out; omega) (Below.refl _ _) wr.heap.size 0 1 1 (z32 ++ [Value.int .i64 78]) rfl rfl (fun j u hu => by rw [Nat.zero_add]; exact (Row.at wr _ _ _ _ rfl rfl).cell j u hu) (by omega) (by decide) (by unfold maxLen; omega) (by omega) ?_; intro ao2 c2 w' q1 q2 q3 q4 q5))
            obtain ⟨R1', r1, r2, r3⟩ := Hnx.out (z32 ++ [Value.int .i64 78]) _ ao2 c2 w' q1 q2 q3 q4 q5
            exact ⟨⟨k + 1, ao2, c2, R1', by omega, rfl, by go_num, r1, r2, r3⟩, by simp [intOf]; omega⟩
          · obtain rfl : k = 20 := by omega
            have HF : Hid (FB Lg F w lp xs (R1 ++ (R2 ++ R)) wr) := HI.out.2.1
            clear HI
            have c1 := (CB.out _ (WK.out _ _ HF.out)).2
            go_wp2_with fail
            refine (SM7.out _ _ HF.out).mono ?_
            rintro e w9 ⟨rfl, hf⟩
            dsimp only
            clear c1 HF
            have HF : Hid (FB Lg F w lp xs (R1 ++ (R2 ++ R)) w9) := hf
            clear hf
            go_wp2
            go_ret
            exact FIN.out _ (WK.out _ _ HF.out)
end Go.Proofs.Ythegfkcegmeklaa
