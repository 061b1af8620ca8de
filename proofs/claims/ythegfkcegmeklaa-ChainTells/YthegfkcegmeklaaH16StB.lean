
import Derived.Test.YthegfkcegmeklaaH16StE
/-! What the law's step of Quote wants. -/
namespace Go.Proofs.Ythegfkcegmeklaa
open Go.RowKit
set_option linter.unusedVariables false

theorem IsB.blk {w w' : World} {g o : Nat} {m : List By} (h : IsB w (some ⟨g, o, none⟩) m) (hb : w'.heap[g]? = w.heap[g]?) : IsB w' (some ⟨g, o, none⟩) m := by
  rcases h with h | ⟨B, off, e, h⟩
  · exact .inl h
  · injection e with e
    injection e with e1 e2
    subst e1 e2
    exact .inr ⟨g, o, rfl, fun j v hj => (cell_blk (p := ⟨g, o + j, none⟩) hb).trans (h j v hj)⟩
theorem isB_head {w : World} {ao : Option Addr} {m m2 : List By} (h : IsB w ao (m ++ m2)) : IsB w ao m := by
  rcases h with h | ⟨B, off, e, h⟩
  · exact .inl (List.append_eq_nil_iff.1 h).1
  · exact .inr ⟨B, off, e, fun j v hj => h j v (by rw [List.getElem?_append_left (List.getElem?_eq_some_iff.1 hj).1]; exact hj)⟩
theorem isL_of {w : World} {ao : Option Addr} {m : List By} (h : IsB w ao m) : IsL w ao (m.map B8) := by
  rcases h with h | ⟨B, off, e, h⟩
  · exact .inl (by rw [h]; rfl)
  · refine .inr ⟨B, off, e, fun j v hj => ?_⟩
    rw [List.getElem?_map] at hj
    cases hm : m[j]? with
    | none => rw [hm] at hj; cases hj
    | some y => rw [hm] at hj; injection hj with hj; subst hj; exact h j y hm
/-- The block in which bytes of its own lie. -/
theorem own_blk {N : Nat} {W : World} {g n c : Nat} {m : List By} (h : Own N W (.slice (some ⟨g, 0, none⟩) n c) m) : N ≤ g ∧ ∃ o, W.heap[g]? = some o := by
  refine ⟨(h.1.lt g rfl).1, ?_⟩
  have := (h.1.lt g rfl).2
  exact ⟨_, Array.getElem?_eq_getElem this⟩
section
variable {Lg : (Nat → Prop) → World → Addr → List EvV → Prop} {F : Nat → Prop} {w : World} {lp : Addr} {xs : List EvV} {R : List (Nat × Obj)} {W W2 : World}
theorem FB.quote (C : Chn Lg) (h : FB Lg F w lp xs R W) (ko : Option Addr) (kn kc : Nat) (key : List By) (hkn : key.length = kn) (hki : IsB W ko key) (hkk : (ko = none → kc = 0) ∧ kn ≤ kc) (hkb : kn ≤ 140737488351232) (no : Option Addr) (nb nc : Nat) (nonce : List By) (hnb : nonce.length = nb) (hni : IsB W no nonce) (hnn : (no = none → nc = 0) ∧ nb ≤ nc) (hbig : nb ≤ 140737488351232) :
    Calls Try.prog 22 #[.pointer (some lp), .slice ko kn kc, .slice no nb nc] W fun e w' => e = .returned (.agg ((quot key nonce xs).map B8).toArray) ∧ FB Lg F w lp xs R w' := by
  obtain ⟨S, hl, _, hN⟩ := h.out
  exact (C.quote hl ko kn kc key hkn hki hkk hkb no nb nc nonce hnb hni hnn hbig).mono fun e w' ⟨S', e1, k1, k2, k3⟩ => ⟨e1, hN S' w' xs k1 k2 k3⟩
end

/-- While the quote is asked for, and put into a block of its own. -/
structure Q5 (Lg : (Nat → Prop) → World → Addr → List EvV → Prop) (F : Nat → Prop) (w : World) (lp : Addr) (xs : List EvV) (R : List (Nat × Obj)) (QC : List Value) (l15 l16 : Bool) (x12 : Value) (W : World) : Prop where
  fb : FB Lg F w lp xs R W
  c16 : l16 = true → l15 = true
  h15 : l15 = true → ∃ H, x12 = .pointer (some ⟨H, 0, none⟩) ∧ w.heap.size ≤ H ∧ FB Lg F w lp xs ((H, .cells (if l16 = true then QC else z32).toArray 32 (0, 0)) :: R) W ∧ ∀ t ∈ R, t.1 ≠ H
section
variable {Lg : (Nat → Prop) → World → Addr → List EvV → Prop} {F : Nat → Prop} {w : World} {lp : Addr} {xs : List EvV} {R : List (Nat × Obj)} {QC : List Value} {l15 l16 : Bool} {x12 : Value} {W W2 : World}
theorem Q5.zero (h : FB Lg F w lp xs R W) (x12 : Value) : Q5 Lg F w lp xs R QC false false x12 W := ⟨h, fun h => (by cases h), fun h => (by cases h)⟩
theorem Q5.call (C : Chn Lg) (h : Q5 Lg F w lp xs R QC l15 l16 x12 W) (ko : Option Addr) (kn kc : Nat) (key : List By) (hkn : key.length = kn) (hki : IsB W ko key) (hkk : (ko = none → kc = 0) ∧ kn ≤ kc) (hkb : kn ≤ 140737488351232) (no : Option Addr) (nb nc : Nat) (nonce : List By) (hnb : nonce.length = nb) (hni : IsB W no nonce) (hnn : (no = none → nc = 0) ∧ nb ≤ nc) (hbig : nb ≤ 140737488351232) :
    Calls Try.prog 22 #[.pointer (some lp), .slice ko kn kc, .slice no nb nc] W fun e w' => e = .returned (.agg ((quot key nonce xs).map B8).toArray) ∧ Q5 Lg F w lp xs R QC l15 l16 x12 w' := by
  cases hl : l15 with
  | false =>
    subst hl
    exact (h.fb.quote C ko kn kc key hkn hki hkk hkb no nb nc nonce hnb hni hnn hbig).mono fun e w' ⟨e1, hf⟩ => ⟨e1, hf, h.c16, fun h => (by cases h)⟩
  | true =>
    obtain ⟨H, e1, h2, h3, h4⟩ := h.h15 hl
    exact (h3.quote C ko kn kc key hkn hki hkk hkb no nb nc nonce hnb hni hnn hbig).mono fun e w' ⟨e2, hf⟩ => ⟨e2, hf.weaken fun t ht => List.mem_cons_of_mem _ ht, fun _ => rfl, fun _ => ⟨H, e1, h2, hf, h4⟩⟩
theorem Q5.s15 (C : Chn Lg) (h : Q5 Lg F w lp xs R QC l15 l16 x12 W) (h15 : l15 = false) : Q5 Lg F w lp xs R QC true l16 (.pointer (some ⟨W.heap.size, 0, none⟩)) (W.alloc (.cells z32.toArray 32)) := by
  have h16 := ff h.c16 h15
  subst h16
  have hb : Below W.heap.size W (W.alloc (.cells z32.toArray 32)) := (Below.refl _ _).alloc (Nat.le_refl _) _
  refine ⟨h.fb.below C hb, fun _ => rfl, fun _ => ⟨_, rfl, h.fb.but.size, h.fb.push C hb (Row.at W _ _ _ _ rfl rfl) (Nat.le_refl _), fun t ht e => ?_⟩⟩
  have := blk_lt (h.fb.blk (G := t.1) (o := t.2) ht)
  omega
theorem Q5.s16 (C : Chn Lg) {H : Nat} (h : Q5 Lg F w lp xs R QC l15 l16 (.pointer (some ⟨H, 0, none⟩)) W) (h15 : l15 = true) (h16 : l16 = false) (hr : Row W2 H 32 QC) (hs : SameBut H W W2) : Q5 Lg F w lp xs R QC l15 true (.pointer (some ⟨H, 0, none⟩)) W2 := by
  obtain ⟨H', e1, h2, h3, h4⟩ := h.h15 h15
  injection e1 with e1
  injection e1 with e1
  injection e1 with e1
  subst e1
  subst h16
  have hf := FB.swap C h3 (.inr h2) (o' := .cells QC.toArray 32 (0, 0)) hr (fun k _ hk => hs.block k hk) (by rw [hs.size]; exact Nat.le_refl _) hs.os hs.tape hs.output h4
  exact ⟨hf.weaken fun t ht => List.mem_cons_of_mem _ ht, fun _ => h15, fun _ => ⟨_, rfl, h2, hf, h4⟩⟩
theorem Q5.row (h : Q5 Lg F w lp xs R QC l15 l16 x12 W) (h15 : l15 = true) (h16 : l16 = false) : ∃ H, x12 = .pointer (some ⟨H, 0, none⟩) ∧ Row W H 32 z32 := by
  obtain ⟨H, e1, h2, h3, h4⟩ := h.h15 h15
  subst h16
  exact ⟨H, e1, h3.blk (List.mem_cons_self ..)⟩
end

/-- While two copies are held against what was handed in. -/
structure B26 (N : Nat) (W1 : World) (key nonce : List By) (yk yn : By) (l4 l5 l6 l7 l14 l15 l16 : Bool) (x140 x141 x142 x150 x151 x152 : Value) (W : World) : Prop where
  bel : Below N W1 W
  sz : N ≤ W.heap.size
  c6a : l6 = true → l4 = true
  c6b : l6 = true → l5 = true
  c7 : l7 = true → l6 = true
  c14 : l14 = true → l7 = true
  c15 : l15 = true → l7 = true
  c16a : l16 = true → l14 = true
  c16b : l16 = true → l15 = true
  p4 : l4 = true → l6 = false → ∃ ao c, x140 = .slice ao key.length c ∧ W.ownsRow N 5 1 (.slice ao key.length c) key.length (key.map B8)
  p5 : l5 = true → l6 = false → ∃ M, x141 = .slice (some ⟨M, 0, none⟩) 1 1 ∧ Row W M 5 [B8 yk]
  p6 : l6 = true → l7 = false → ∃ ao c, x142 = .slice ao (key.length + 1) c ∧ W.ownsRow N 5 1 (.slice ao (key.length + 1) c) (key.length + 1) (key.map B8 ++ [B8 yk])
  p14 : l14 = true → l16 = false → ∃ ao c, x150 = .slice ao nonce.length c ∧ W.ownsRow N 5 1 (.slice ao nonce.length c) nonce.length (nonce.map B8)
  p15 : l15 = true → l16 = false → ∃ M, x151 = .slice (some ⟨M, 0, none⟩) 1 1 ∧ Row W M 5 [B8 yn]
  p16 : l16 = true → ∃ ao c, x152 = .slice ao (nonce.length + 1) c ∧ W.ownsRow N 5 1 (.slice ao (nonce.length + 1) c) (nonce.length + 1) (nonce.map B8 ++ [B8 yn])
section
variable {N : Nat} {W1 : World} {key nonce : List By} {yk yn : By} {l4 l5 l6 l7 l14 l15 l16 : Bool} {x140 x141 x142 x150 x151 x152 : Value} {W W2 : World} {ao : Option Addr} {c : Nat}
theorem B26.zero (W1 : World) (key nonce : List By) (yk yn : By) (x140 x141 x142 x150 x151 x152 : Value) : B26 W1.heap.size W1 key nonce yk yn false false false false false false false x140 x141 x142 x150 x151 x152 W1.drew :=
  ⟨(Below.refl _ _).drew, Nat.le_refl _, fun h => (by cases h), fun h => (by cases h), fun h => (by cases h), fun h => (by cases h), fun h => (by cases h), fun h => (by cases h), fun h => (by cases h), fun h => (by cases h), fun h => (by cases h), fun h => (by cases h), fun h => (by cases h), fun h => (by cases h), fun h => (by cases h)⟩
theorem B26.s4 (h : B26 N W1 key nonce yk yn l4 l5 l6 l7 l14 l15 l16 x140 x141 x142 x150 x151 x152 W) (h4 : l4 = false) (ho : W2.ownsRow N 5 1 (.slice ao key.length c) key.length (key.map B8)) (hb : Below N W1 W2) (hz : W.heap.size ≤ W2.heap.size) (hk : ∀ k, k < W.heap.size → W2.heap[k]? = W.heap[k]?) : B26 N W1 key nonce yk yn true l5 l6 l7 l14 l15 l16 (.slice ao key.length c) x141 x142 x150 x151 x152 W2 := by
  have h6 := ff h.c6a h4
  have h7 := ff h.c7 h6
  have h14 := ff h.c14 h7
  have h15 := ff h.c15 h7
  have h16 := ff h.c16a h14
  subst h6 h7 h14 h15 h16
  refine ⟨hb, Nat.le_trans h.sz hz, fun h => (by cases h), fun h => (by cases h), fun h => (by cases h), fun h => (by cases h), fun h => (by cases h), fun h => (by cases h), fun h => (by cases h), fun _ _ => ⟨ao, c, rfl, ho⟩, fun h5 h0 => ?_, fun h => (by cases h), fun h => (by cases h), fun h => (by cases h), fun h => (by cases h)⟩
  obtain ⟨M, e, r⟩ := h.p5 h5 h0
  exact ⟨M, e, (hk M r.lt).trans r⟩
theorem B26.s5 (h : B26 N W1 key nonce yk yn l4 l5 l6 l7 l14 l15 l16 x140 x141 x142 x150 x151 x152 W) (h5 : l5 = false) {y : Int} (hy : y = (yk.toNat : Int)) : B26 N W1 key nonce yk yn l4 true l6 l7 l14 l15 l16 x140 (.slice (some ⟨W.heap.size, 0, none⟩) 1 1) x142 x150 x151 x152 (W.alloc (.cells #[.int .u8 y] 5)) := by
  have h6 := ff h.c6b h5
  have h7 := ff h.c7 h6
  have h14 := ff h.c14 h7
  have h15 := ff h.c15 h7
  have h16 := ff h.c16a h14
  subst h6 h7 h14 h15 h16
  refine ⟨h.bel.alloc h.sz _, by simp; have := h.sz; omega, fun h => (by cases h), fun h => (by cases h), fun h => (by cases h), fun h => (by cases h), fun h => (by cases h), fun h => (by cases h), fun h => (by cases h), fun h4 h0 => ?_, fun _ _ => ⟨_, rfl, Row.at W _ _ _ _ rfl (by rw [hy]; rfl)⟩, fun h => (by cases h), fun h => (by cases h), fun h => (by cases h), fun h => (by cases h)⟩
  obtain ⟨a, c, e, r⟩ := h.p4 h4 h0
  exact ⟨a, c, e, r.alloc _⟩
theorem B26.s6 (h : B26 N W1 key nonce yk yn l4 l5 l6 l7 l14 l15 l16 x140 x141 x142 x150 x151 x152 W) (h4 : l4 = true) (h5 : l5 = true) (h6 : l6 = false) (ho : W2.ownsRow N 5 1 (.slice ao (key.length + 1) c) (key.length + 1) (key.map B8 ++ [B8 yk])) (hb : Below N W1 W2) (hz : W.heap.size ≤ W2.heap.size) : B26 N W1 key nonce yk yn l4 l5 true l7 l14 l15 l16 x140 x141 (.slice ao (key.length + 1) c) x150 x151 x152 W2 := by
  have h7 := ff h.c7 h6
  have h14 := ff h.c14 h7
  have h15 := ff h.c15 h7
  have h16 := ff h.c16a h14
  subst h7 h14 h15 h16
  exact ⟨hb, Nat.le_trans h.sz hz, fun _ => h4, fun _ => h5, fun h => (by cases h), fun h => (by cases h), fun h => (by cases h), fun h => (by cases h), fun h => (by cases h), fun _ h => (by cases h), fun _ h => (by cases h), fun _ _ => ⟨ao, c, rfl, ho⟩, fun h => (by cases h), fun h => (by cases h), fun h => (by cases h)⟩
theorem B26.s7 (h : B26 N W1 key nonce yk yn l4 l5 l6 l7 l14 l15 l16 x140 x141 x142 x150 x151 x152 W) (h6 : l6 = true) (h7 : l7 = false) : B26 N W1 key nonce yk yn l4 l5 l6 true l14 l15 l16 x140 x141 x142 x150 x151 x152 W :=
  ⟨h.bel, h.sz, h.c6a, h.c6b, fun _ => h6, fun _ => rfl, fun _ => rfl, h.c16a, h.c16b, h.p4, h.p5, fun _ h => (by cases h), h.p14, h.p15, h.p16⟩
theorem B26.s14 (h : B26 N W1 key nonce yk yn l4 l5 l6 l7 l14 l15 l16 x140 x141 x142 x150 x151 x152 W) (h7 : l7 = true) (h14 : l14 = false) (ho : W2.ownsRow N 5 1 (.slice ao nonce.length c) nonce.length (nonce.map B8)) (hb : Below N W1 W2) (hz : W.heap.size ≤ W2.heap.size) (hk : ∀ k, k < W.heap.size → W2.heap[k]? = W.heap[k]?) : B26 N W1 key nonce yk yn l4 l5 l6 l7 true l15 l16 x140 x141 x142 (.slice ao nonce.length c) x151 x152 W2 := by
  have h6 := h.c7 h7
  have h16 := ff h.c16a h14
  subst h6 h7 h16
  refine ⟨hb, Nat.le_trans h.sz hz, h.c6a, h.c6b, fun _ => rfl, fun _ => rfl, fun _ => rfl, fun h => (by cases h), fun h => (by cases h), fun _ h => (by cases h), fun _ h => (by cases h), fun _ h => (by cases h), fun _ _ => ⟨ao, c, rfl, ho⟩, fun h5 h0 => ?_, fun h => (by cases h)⟩
  obtain ⟨M, e, r⟩ := h.p15 h5 h0
  exact ⟨M, e, (hk M r.lt).trans r⟩
theorem B26.s15 (h : B26 N W1 key nonce yk yn l4 l5 l6 l7 l14 l15 l16 x140 x141 x142 x150 x151 x152 W) (h7 : l7 = true) (h15 : l15 = false) {y : Int} (hy : y = (yn.toNat : Int)) : B26 N W1 key nonce yk yn l4 l5 l6 l7 l14 true l16 x140 x141 x142 x150 (.slice (some ⟨W.heap.size, 0, none⟩) 1 1) x152 (W.alloc (.cells #[.int .u8 y] 5)) := by
  have h6 := h.c7 h7
  have h16 := ff h.c16b h15
  subst h6 h7 h16
  refine ⟨h.bel.alloc h.sz _, by simp; have := h.sz; omega, h.c6a, h.c6b, fun _ => rfl, fun _ => rfl, fun _ => rfl, fun h => (by cases h), fun h => (by cases h), fun _ h => (by cases h), fun _ h => (by cases h), fun _ h => (by cases h), fun h4 h0 => ?_, fun _ _ => ⟨_, rfl, Row.at W _ _ _ _ rfl (by rw [hy]; rfl)⟩, fun h => (by cases h)⟩
  obtain ⟨a, c, e, r⟩ := h.p14 h4 h0
  exact ⟨a, c, e, r.alloc _⟩
theorem B26.s16 (h : B26 N W1 key nonce yk yn l4 l5 l6 l7 l14 l15 l16 x140 x141 x142 x150 x151 x152 W) (h14 : l14 = true) (h15 : l15 = true) (h16 : l16 = false) (ho : W2.ownsRow N 5 1 (.slice ao (nonce.length + 1) c) (nonce.length + 1) (nonce.map B8 ++ [B8 yn])) (hb : Below N W1 W2) (hz : W.heap.size ≤ W2.heap.size) : B26 N W1 key nonce yk yn l4 l5 l6 l7 l14 l15 true x140 x141 x142 x150 x151 (.slice ao (nonce.length + 1) c) W2 := by
  have h7 := h.c14 h14
  have h6 := h.c7 h7
  subst h6 h7
  exact ⟨hb, Nat.le_trans h.sz hz, h.c6a, h.c6b, fun _ => rfl, fun _ => rfl, fun _ => rfl, fun _ => h14, fun _ => h15, fun _ h => (by cases h), fun _ h => (by cases h), fun _ h => (by cases h), fun _ h => (by cases h), fun _ h => (by cases h), fun _ => ⟨ao, c, rfl, ho⟩⟩
end
theorem ownsB {N : Nat} {W : World} {ao : Option Addr} {n c : Nat} {m : List By} (h : W.ownsRow N 5 1 (.slice ao n c) n (m.map B8)) (hn : m.length = n) : IsB W ao m ∧ (ao = none → c = 0) := by
  rcases h.2 with ⟨e, e0⟩ | ⟨g, c1, cur, e, _⟩
  · injection e with e1 _ e3
    exact ⟨.inl (List.length_eq_zero_iff.1 (by omega)), fun _ => e3⟩
  · injection e with e1 _ _
    subst e1
    refine ⟨.inr ⟨g, 0, rfl, fun j v hj => ?_⟩, fun e => by cases e⟩
    have := h.cells (g := g) rfl j (B8 v) (by rw [List.getElem?_map, hj]; rfl)
    rw [Addr.add_mid] at this
    exact this
end Go.Proofs.Ythegfkcegmeklaa
