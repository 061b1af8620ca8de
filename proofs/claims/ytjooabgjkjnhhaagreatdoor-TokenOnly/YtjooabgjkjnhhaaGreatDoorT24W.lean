
import Derived.Test.YtjooabgjkjnhhaaGreatDoorT24V
import Derived.Test.YtjooabgjkjnhhaaGreatDoorT24Only
/-! The reference's token: Pairs, Right. (Printed by tools/gent24b.py.) -/
namespace Go.Proofs.YtjooabgjkjnhhaaGreatDoor
open Go.RowKit
set_option linter.unusedVariables false
set_option linter.unusedSimpArgs false
set_option maxRecDepth 100000
structure PR3 (W1 : World) (N : Nat) (Wz : World) (R : World → Prop) (L0 : List (List By × List By × List By)) (po : Option Addr) (pc : Nat) (kb mb : List By) (ko : Option Addr) (kn kc : Nat) (mo : Option Addr) (mn mc : Nat) (L : Nat → Bool) (x17 x18 x19 x20 x21 x22 x23 x24 x25 x26 x27 x8 : Value) (W : World) : Prop where
  x : P3 N Wz R L0 po pc (kb, mb, tag kb mb) (L 9) (L 10) (L 11) x26 x27 x8 W
  p0 : L 0 = true → x17 = .slice po L0.length pc
  p1 : L 1 = true → x18 = .slice ko kn kc
  p2 : L 2 = true → x19 = .string (strOf kb)
  p3 : L 3 = true → x20 = .slice mo mn mc
  p4 : L 4 = true → x21 = .string (strOf mb)
  p5 : L 5 = true → x22 = .slice ko kn kc
  p6 : L 6 = true → x23 = .slice mo mn mc
  p7 : L 7 = true → x24 = .agg ((tag kb mb).map B8).toArray
  p8 : L 8 = true → x25 = .agg (prC (kb, mb, tag kb mb)).toArray
  c10_0 : L 10 = true → L 0 = true
section
variable {W1 : World} {N : Nat} {Wz : World} {R : World → Prop} {L0 : List (List By × List By × List By)} {po : Option Addr} {pc : Nat} {kb mb : List By} {ko : Option Addr} {kn kc : Nat} {mo : Option Addr} {mn mc : Nat} {L : Nat → Bool} {x17 x18 x19 x20 x21 x22 x23 x24 x25 x26 x27 x8 : Value} {W W2 : World}
theorem PR3.s0 (h : PR3 W1 N Wz R L0 po pc kb mb ko kn kc mo mn mc L x17 x18 x19 x20 x21 x22 x23 x24 x25 x26 x27 x8 W) : PR3 W1 N Wz R L0 po pc kb mb ko kn kc mo mn mc (upd L 0) (.slice po L0.length pc) x18 x19 x20 x21 x22 x23 x24 x25 x26 x27 x8 W :=
  ⟨h.x, fun _ => rfl, h.p1, h.p2, h.p3, h.p4, h.p5, h.p6, h.p7, h.p8, fun _ => rfl⟩
theorem PR3.s1 (h : PR3 W1 N Wz R L0 po pc kb mb ko kn kc mo mn mc L x17 x18 x19 x20 x21 x22 x23 x24 x25 x26 x27 x8 W) : PR3 W1 N Wz R L0 po pc kb mb ko kn kc mo mn mc (upd L 1) x17 (.slice ko kn kc) x19 x20 x21 x22 x23 x24 x25 x26 x27 x8 W :=
  ⟨h.x, h.p0, fun _ => rfl, h.p2, h.p3, h.p4, h.p5, h.p6, h.p7, h.p8, h.c10_0⟩
theorem PR3.s9 (h : PR3 W1 N Wz R L0 po pc kb mb ko kn kc mo mn mc L x17 x18 x19 x20 x21 x22 x23 x24 x25 x26 x27 x8 W) {v : Value} (hX : P3 N Wz R L0 po pc (kb, mb, tag kb mb) ((upd L 9) 9) ((upd L 9) 10) ((upd L 9) 11) v x27 x8 W2) : PR3 W1 N Wz R L0 po pc kb mb ko kn kc mo mn mc (upd L 9) x17 x18 x19 x20 x21 x22 x23 x24 x25 v x27 x8 W2 :=
  ⟨hX, h.p0, h.p1, h.p2, h.p3, h.p4, h.p5, h.p6, h.p7, h.p8, h.c10_0⟩
theorem PR3.s10 (h : PR3 W1 N Wz R L0 po pc kb mb ko kn kc mo mn mc L x17 x18 x19 x20 x21 x22 x23 x24 x25 x26 x27 x8 W) {v : Value} (hX : P3 N Wz R L0 po pc (kb, mb, tag kb mb) ((upd L 10) 9) ((upd L 10) 10) ((upd L 10) 11) x26 v x8 W2) (hc0 : L 0 = true) : PR3 W1 N Wz R L0 po pc kb mb ko kn kc mo mn mc (upd L 10) x17 x18 x19 x20 x21 x22 x23 x24 x25 x26 v x8 W2 :=
  ⟨hX, h.p0, h.p1, h.p2, h.p3, h.p4, h.p5, h.p6, h.p7, h.p8, fun _ => hc0⟩
theorem PR3.s11 (h : PR3 W1 N Wz R L0 po pc kb mb ko kn kc mo mn mc L x17 x18 x19 x20 x21 x22 x23 x24 x25 x26 x27 x8 W) {v : Value} (hX : P3 N Wz R L0 po pc (kb, mb, tag kb mb) ((upd L 11) 9) ((upd L 11) 10) ((upd L 11) 11) x26 x27 v W2) : PR3 W1 N Wz R L0 po pc kb mb ko kn kc mo mn mc (upd L 11) x17 x18 x19 x20 x21 x22 x23 x24 x25 x26 x27 v W2 :=
  ⟨hX, h.p0, h.p1, h.p2, h.p3, h.p4, h.p5, h.p6, h.p7, h.p8, h.c10_0⟩
end
@[reducible] def IPR3 (W1 : World) (N : Nat) (Wz : World) (R : World → Prop) (L0 : List (List By × List By × List By)) (po : Option Addr) (pc : Nat) (kb mb : List By) (ko : Option Addr) (kn kc : Nat) (mo : Option Addr) (mn mc : Nat) (y0 y1 y2 y3 y4 y5 y6 y7 y9 y10 y11 y12 y13 y14 y15 y16 y28 y29 y30 y31 y32 y33 y34 y35 y36 y37 y38 y39 y40 y41 y42 y43 y44 y45 y46 y47 y48 y49 y50 y51 y52 y53 y54 y55 y56 y57 y58 y59 y60 y61 y62 y63 y64 y65 y66 y67 y68 : Value) : (Nat → Bool) → Act → World → Prop := fun L a W => ∃ x17 x18 x19 x20 x21 x22 x23 x24 x25 x26 x27 x8, a = ⟨#[y0, y1, y2, y3, y4, y5, y6, y7, x8, y9, y10, y11, y12, y13, y14, y15, y16, x17, x18, x19, x20, x21, x22, x23, x24, x25, x26, x27, y28, y29, y30, y31, y32, y33, y34, y35, y36, y37, y38, y39, y40, y41, y42, y43, y44, y45, y46, y47, y48, y49, y50, y51, y52, y53, y54, y55, y56, y57, y58, y59, y60, y61, y62, y63, y64, y65, y66, y67, y68], []⟩ ∧ PR3 W1 N Wz R L0 po pc kb mb ko kn kc mo mn mc L x17 x18 x19 x20 x21 x22 x23 x24 x25 x26 x27 x8 W
structure PR14 (W1 : World) (N : Nat) (Wz : World) (R : World → Prop) (L0 : List (List By × List By × List By)) (po : Option Addr) (pc : Nat) (kb mb : List By) (ko : Option Addr) (kn kc : Nat) (mo : Option Addr) (mn mc : Nat) (L : Nat → Bool) (x57 x58 x59 x60 x61 x62 x63 x64 x65 x66 x67 x8 : Value) (W : World) : Prop where
  x : P3 N Wz R L0 po pc (kb, mb, tag kb mb) (L 9) (L 10) (L 11) x66 x67 x8 W
  p0 : L 0 = true → x57 = .slice po L0.length pc
  p1 : L 1 = true → x58 = .slice ko kn kc
  p2 : L 2 = true → x59 = .string (strOf kb)
  p3 : L 3 = true → x60 = .slice mo mn mc
  p4 : L 4 = true → x61 = .string (strOf mb)
  p5 : L 5 = true → x62 = .slice ko kn kc
  p6 : L 6 = true → x63 = .slice mo mn mc
  p7 : L 7 = true → x64 = .agg ((tag kb mb).map B8).toArray
  p8 : L 8 = true → x65 = .agg (prC (kb, mb, tag kb mb)).toArray
  c10_0 : L 10 = true → L 0 = true
section
variable {W1 : World} {N : Nat} {Wz : World} {R : World → Prop} {L0 : List (List By × List By × List By)} {po : Option Addr} {pc : Nat} {kb mb : List By} {ko : Option Addr} {kn kc : Nat} {mo : Option Addr} {mn mc : Nat} {L : Nat → Bool} {x57 x58 x59 x60 x61 x62 x63 x64 x65 x66 x67 x8 : Value} {W W2 : World}
theorem PR14.s0 (h : PR14 W1 N Wz R L0 po pc kb mb ko kn kc mo mn mc L x57 x58 x59 x60 x61 x62 x63 x64 x65 x66 x67 x8 W) : PR14 W1 N Wz R L0 po pc kb mb ko kn kc mo mn mc (upd L 0) (.slice po L0.length pc) x58 x59 x60 x61 x62 x63 x64 x65 x66 x67 x8 W :=
  ⟨h.x, fun _ => rfl, h.p1, h.p2, h.p3, h.p4, h.p5, h.p6, h.p7, h.p8, fun _ => rfl⟩
theorem PR14.s1 (h : PR14 W1 N Wz R L0 po pc kb mb ko kn kc mo mn mc L x57 x58 x59 x60 x61 x62 x63 x64 x65 x66 x67 x8 W) : PR14 W1 N Wz R L0 po pc kb mb ko kn kc mo mn mc (upd L 1) x57 (.slice ko kn kc) x59 x60 x61 x62 x63 x64 x65 x66 x67 x8 W :=
  ⟨h.x, h.p0, fun _ => rfl, h.p2, h.p3, h.p4, h.p5, h.p6, h.p7, h.p8, h.c10_0⟩
theorem PR14.s9 (h : PR14 W1 N Wz R L0 po pc kb mb ko kn kc mo mn mc L x57 x58 x59 x60 x61 x62 x63 x64 x65 x66 x67 x8 W) {v : Value} (hX : P3 N Wz R L0 po pc (kb, mb, tag kb mb) ((upd L 9) 9) ((upd L 9) 10) ((upd L 9) 11) v x67 x8 W2) : PR14 W1 N Wz R L0 po pc kb mb ko kn kc mo mn mc (upd L 9) x57 x58 x59 x60 x61 x62 x63 x64 x65 v x67 x8 W2 :=
  ⟨hX, h.p0, h.p1, h.p2, h.p3, h.p4, h.p5, h.p6, h.p7, h.p8, h.c10_0⟩
theorem PR14.s10 (h : PR14 W1 N Wz R L0 po pc kb mb ko kn kc mo mn mc L x57 x58 x59 x60 x61 x62 x63 x64 x65 x66 x67 x8 W) {v : Value} (hX : P3 N Wz R L0 po pc (kb, mb, tag kb mb) ((upd L 10) 9) ((upd L 10) 10) ((upd L 10) 11) x66 v x8 W2) (hc0 : L 0 = true) : PR14 W1 N Wz R L0 po pc kb mb ko kn kc mo mn mc (upd L 10) x57 x58 x59 x60 x61 x62 x63 x64 x65 x66 v x8 W2 :=
  ⟨hX, h.p0, h.p1, h.p2, h.p3, h.p4, h.p5, h.p6, h.p7, h.p8, fun _ => hc0⟩
theorem PR14.s11 (h : PR14 W1 N Wz R L0 po pc kb mb ko kn kc mo mn mc L x57 x58 x59 x60 x61 x62 x63 x64 x65 x66 x67 x8 W) {v : Value} (hX : P3 N Wz R L0 po pc (kb, mb, tag kb mb) ((upd L 11) 9) ((upd L 11) 10) ((upd L 11) 11) x66 x67 v W2) : PR14 W1 N Wz R L0 po pc kb mb ko kn kc mo mn mc (upd L 11) x57 x58 x59 x60 x61 x62 x63 x64 x65 x66 x67 v W2 :=
  ⟨hX, h.p0, h.p1, h.p2, h.p3, h.p4, h.p5, h.p6, h.p7, h.p8, h.c10_0⟩
end
@[reducible] def IPR14 (W1 : World) (N : Nat) (Wz : World) (R : World → Prop) (L0 : List (List By × List By × List By)) (po : Option Addr) (pc : Nat) (kb mb : List By) (ko : Option Addr) (kn kc : Nat) (mo : Option Addr) (mn mc : Nat) (y0 y1 y2 y3 y4 y5 y6 y7 y9 y10 y11 y12 y13 y14 y15 y16 y17 y18 y19 y20 y21 y22 y23 y24 y25 y26 y27 y28 y29 y30 y31 y32 y33 y34 y35 y36 y37 y38 y39 y40 y41 y42 y43 y44 y45 y46 y47 y48 y49 y50 y51 y52 y53 y54 y55 y56 y68 : Value) : (Nat → Bool) → Act → World → Prop := fun L a W => ∃ x57 x58 x59 x60 x61 x62 x63 x64 x65 x66 x67 x8, a = ⟨#[y0, y1, y2, y3, y4, y5, y6, y7, x8, y9, y10, y11, y12, y13, y14, y15, y16, y17, y18, y19, y20, y21, y22, y23, y24, y25, y26, y27, y28, y29, y30, y31, y32, y33, y34, y35, y36, y37, y38, y39, y40, y41, y42, y43, y44, y45, y46, y47, y48, y49, y50, y51, y52, y53, y54, y55, y56, x57, x58, x59, x60, x61, x62, x63, x64, x65, x66, x67, y68], []⟩ ∧ PR14 W1 N Wz R L0 po pc kb mb ko kn kc mo mn mc L x57 x58 x59 x60 x61 x62 x63 x64 x65 x66 x67 x8 W
theorem prs_tags (s id : List By) (l : List Cv) : ∀ p ∈ prs tag s id l, p.2.2.length = 32 := by
  have key : ∀ (l : List Cv) (g : List By), ∀ p ∈ prsF tag g l, p.2.2.length = 32 := by
    intro l
    induction l with
    | nil => intro g p hp; cases hp
    | cons c l ih =>
      intro g p hp
      rcases List.mem_cons.1 hp with rfl | hp
      · exact tag_len _ _
      · exact ih _ p hp
  intro p hp
  rcases List.mem_cons.1 hp with rfl | hp
  · exact tag_len _ _
  · exact key _ _ p hp
theorem prs_last (s id : List By) (l : List Cv) : ∃ a b, (prs tag s id l)[l.length]? = some (a, b, rightT tag s id l) := by
  rcases List.eq_nil_or_concat l with rfl | ⟨l', c, rfl⟩
  · exact ⟨s, firstB id, rfl⟩
  · rw [List.concat_eq_append, prs_snoc, rightT_snoc, List.length_append, List.getElem?_append_right (by rw [prs_len]; simp), prs_len]
    exact ⟨rightT tag s id l', cvB c, by simp⟩
theorem flP_len (L : List (List By × List By × List By)) (h : ∀ p ∈ L, p.2.2.length = 32) : (L.flatMap prC).length = L.length * 34 := by
  induction L with
  | nil => rfl
  | cons p L ih => rw [List.flatMap_cons, List.length_append, prC_len (h p (List.mem_cons_self ..)), ih (fun q hq => h q (List.mem_cons_of_mem _ hq)), List.length_cons]; omega
theorem flP_at (L : List (List By × List By × List By)) (h : ∀ p ∈ L, p.2.2.length = 32) (i : Nat) (p : List By × List By × List By) (hi : L[i]? = some p) (j : Nat) (v : Value) (hv : (prC p)[j]? = some v) : (L.flatMap prC)[i * 34 + j]? = some v := by
  induction L generalizing i with
  | nil => simp at hi
  | cons d L ih =>
    have hd := prC_len (h d (List.mem_cons_self ..))
    have hp := prC_len (h p (List.mem_of_getElem? hi))
    have hj : j < 34 := by have := (List.getElem?_eq_some_iff.1 hv).1; omega
    rw [List.flatMap_cons]
    cases i with
    | zero =>
      simp at hi; subst hi
      rw [Nat.zero_mul, Nat.zero_add, List.getElem?_append_left (by omega)]
      exact hv
    | succ i =>
      rw [List.getElem?_append_right (by omega), hd, show (i + 1) * 34 + j - 34 = i * 34 + j by omega]
      exact ih (fun q hq => h q (List.mem_cons_of_mem _ hq)) i (by simpa using hi)
/-- While the key is copied. -/
structure KL (w : World) (pv : Value) (PL : List (List By × List By × List By)) (bx : Nat) (RT : List By) (j : Nat) (ko : Option Addr) (kc : Nat) (W : World) : Prop where
  bel : Below w.heap.size w W
  prs : W.ownsRow w.heap.size 98 34 pv PL.length (PL.flatMap prC)
  key : Own w.heap.size W (.slice ko j kc) (RT.take j)
  box : Row W bx 26 (RT.map B8)
theorem KL.keep {w : World} {pv : Value} {PL : List (List By × List By × List By)} {bx : Nat} {RT : List By} {j : Nat} {ko : Option Addr} {kc : Nat} {W W2 : World} (h : KL w pv PL bx RT j ko kc W) (hb : Below W.heap.size W W2) : KL w pv PL bx RT j ko kc W2 := ⟨h.bel.trans (hb.mono h.bel.size), owB_keep h.prs hb, h.key.keep hb, h.box.below hb h.box.lt⟩
def PrsP (s id : List By) (l : List Cv) (w : World) (e : Ending) (w' : World) : Prop := ∃ ao c', e = .returned (.slice ao (l.length + 1) c') ∧ w'.ownsRow w.heap.size 98 34 (.slice ao (l.length + 1) c') (l.length + 1) ((prs tag s id l).flatMap prC) ∧ Below w.heap.size w w'
set_option maxHeartbeats 4000000 in
theorem r24Pairs_any (so : Option Addr) (sc : Nat) (s : List By) (io : Option Addr) (ic : Nat) (id : List By) (lo : Option Addr) (lc : Nat) (l : List Cv) (w : World) (hs : IsB w so s) (hsn : so = none → sc = 0) (hsb : s.length ≤ 1000) (hi : IsB w io id) (hin : io = none → ic = 0) (hib : id.length ≤ 64) (hc : CvsIn w lo l) (hok : ∀ c ∈ l, c.ok) (hlb : l.length ≤ 32) :
    Calls Tryz.prog 21 #[.slice so s.length sc, .slice io id.length ic, .slice lo l.length lc] w (PrsP s id l w) := by
  have F1 := r24first_any io ic id w hi hin (by omega)
  have HS : Hid (∀ W, Below w.heap.size w W → IsB W so s) := fun W h => hs.below h (Nat.le_refl _)
  have HSN : Hid (so = none → sc = 0) := hsn
  have HSB : Hid (s.length ≤ 1000) := hsb
  have HIB : Hid (id.length ≤ 64) := hib
  have HC : Hid (∀ W, Below w.heap.size w W → CvsIn W lo l) := fun W h => hc.keep h
  have HOK : Hid (∀ c ∈ l, c.ok) := hok
  have HLB : Hid (l.length ≤ 32) := hlb
  have FL : Hid ((firstB id).length = 18 + id.length) := by show (firstB id).length = _; simp [firstB]; omega
  clear hs hsn hsb hi hin hib hc hok hlb
  generalize hn : id.length = n at *
  generalize hm : l.length = m at *
  generalize hk : s.length = ks at *
  have HN : Hid (id.length = n) := hn
  have HM : Hid (l.length = m) := hm
  have HK : Hid (s.length = ks) := hk
  clear hn hm hk
  go_enter Tryz.func21, Tryz.ntmps21
  go_upto_region 3 with (go_at_call 34; refine F1.mono ?_; clear F1; rintro e w1 ⟨mo, mc, rfl, ho1, hb1⟩; have HO1 : Hid (Own w.heap.size w1 (.slice mo (18 + n) mc) (firstB id)) := ho1; have HB1 : Hid (Below w.heap.size w w1) := hb1; clear ho1 hb1)
  obtain ⟨w2, hw2⟩ : ∃ w2, w2 = w1.alloc (.cells #[] 98) := ⟨_, rfl⟩
  have HS3 : Hid (∀ a b, P3 w.heap.size w (fun W => Below w.heap.size w W ∧ Own w.heap.size W (.slice mo (18 + n) mc) (firstB id)) [] (some ⟨w1.heap.size, 0, none⟩) 0 (s, firstB id, tag s (firstB id)) false false false a b (.slice (some ⟨w1.heap.size, 0, none⟩) 0 0) w2.drew) := fun a b => by
    have hb : Below w1.heap.size w1 w2 := by rw [hw2]; exact (Below.refl _ _).alloc (Nat.le_refl _) _
    have h1 := HB1.out
    have hbb := h1.trans (hb.mono h1.size)
    have e1 := owP_empty w.heap.size w1 h1.size
    rw [← hw2] at e1
    exact ⟨fun h => (by cases h), fun h => (by cases h), hbb.drew, hbb.size, ⟨hbb.drew, HO1.out.keep hb.drew⟩, fun _ => e1, fun h => (by cases h), fun h => (by cases h), fun h => (by cases h), fun _ => rfl⟩
  refine wp_at24 hw2 ?_
  clear hw2 HO1 HB1
  generalize w1.heap.size = E1 at *
  refine wp_region_inv (IPR3 w2 w.heap.size w (fun W => Below w.heap.size w W ∧ Own w.heap.size W (.slice mo (18 + n) mc) (firstB id)) [] (some ⟨E1, 0, none⟩) 0 s (firstB id) so ks sc mo (18 + n) mc _ _ _ _ _ _ _ _ _ _ _ _ _ _ _ _ _ _ _ _ _ _ _ _ _ _ _ _ _ _ _ _ _ _ _ _ _ _ _ _ _ _ _ _ _ _ _ _ _ _ _ _ _ _ _ _ _) (by kernel_rfl) (by kernel_rfl) ⟨_, _, _, _, _, _, _, _, _, _, _, _, rfl, ⟨HS3.out _ _, fun k => (by cases k), fun k => (by cases k), fun k => (by cases k), fun k => (by cases k), fun k => (by cases k), fun k => (by cases k), fun k => (by cases k), fun k => (by cases k), fun k => (by cases k), fun k => (by cases k)⟩⟩ ?_ ?_
  · refine .cons ?_ (.cons ?_ (.cons ?_ (.cons ?_ (.cons ?_ (.cons ?_ (.cons ?_ (.cons ?_ (.cons ?_ (.cons ?_ (.cons ?_ (.cons ?_ .nil)))))))))))
    all_goals (rintro L _ W ⟨x17, x18, x19, x20, x21, x22, x23, x24, x25, x26, x27, x8, rfl, hI⟩ hL hd K hK)
    · rw [if_pos (by rfl)]
      have h10 : L 10 = false := ff24 hI.c10_0 hL
      have e8 := hI.x.p0 (ff24 hI.x.c11 h10)
      subst e8
      go_simp
      exact hK.out _ _ ⟨_, _, _, _, _, _, _, _, _, _, _, _, rfl, { hI with p0 := fun _ => rfl, c10_0 := fun _ => rfl }⟩
    · rw [if_pos (by rfl)]
      go_simp
      exact hK.out _ _ ⟨_, _, _, _, _, _, _, _, _, _, _, _, rfl, { hI with p1 := fun _ => rfl }⟩
    · obtain rfl := hI.p1 (hd 1 (by decide))
      rw [if_pos (by rfl)]
      have hcv := conv_bytes W so ks sc s HK.out (HS.out W hI.x.rd.1)
      go_simp
      exact hK.out _ _ ⟨_, _, _, _, _, _, _, _, _, _, _, _, rfl, { hI with p2 := fun _ => rfl }⟩
    · rw [if_pos (by rfl)]
      go_simp
      exact hK.out _ _ ⟨_, _, _, _, _, _, _, _, _, _, _, _, rfl, { hI with p3 := fun _ => rfl }⟩
    · obtain rfl := hI.p3 (hd 3 (by decide))
      rw [if_pos (by rfl)]
      have hcv := conv_bytes W mo (18 + n) mc (firstB id) FL.out (own_IsB hI.x.rd.2)
      go_simp
      exact hK.out _ _ ⟨_, _, _, _, _, _, _, _, _, _, _, _, rfl, { hI with p4 := fun _ => rfl }⟩
    · rw [if_pos (by rfl)]
      go_simp
      exact hK.out _ _ ⟨_, _, _, _, _, _, _, _, _, _, _, _, rfl, { hI with p5 := fun _ => rfl }⟩
    · rw [if_pos (by rfl)]
      go_simp
      exact hK.out _ _ ⟨_, _, _, _, _, _, _, _, _, _, _, _, rfl, { hI with p6 := fun _ => rfl }⟩
    · obtain rfl := hI.p5 (hd 5 (by decide))
      obtain rfl := hI.p6 (hd 6 (by decide))
      rw [if_pos (by rfl)]
      go_simp
      refine (refMac_any so mo ks sc (18 + n) mc s (firstB id) HK.out FL.out W (HS.out W hI.x.rd.1) (own_IsB hI.x.rd.2) HSN.out (own_nilcap hI.x.rd.2) (by have := HSB.out; omega) (by have := HIB.out; omega)).mono ?_
      rintro e W2 ⟨rfl, hb3⟩
      go_simp
      have hX := hI.x.keep (W2 := W2) ⟨hI.x.rd.1.trans (hb3.mono hI.x.rd.1.size), hI.x.rd.2.keep hb3⟩ hb3
      exact hK.out _ _ ⟨_, _, _, _, _, _, _, _, _, _, _, _, rfl, { hI with x := hX, p7 := fun _ => rfl }⟩
    · obtain rfl := hI.p2 (hd 2 (by decide))
      obtain rfl := hI.p4 (hd 4 (by decide))
      obtain rfl := hI.p7 (hd 7 (by decide))
      refine step_build3 (by rfl) 98 0 1 2 (.tmp 19) (.tmp 21) (.tmp 24) rfl (.string (strOf s)) (.string (strOf (firstB id))) (.agg ((tag s (firstB id)).map B8).toArray) _ rfl rfl rfl (build_pr _ _ W _ (tag_len _ _)) ?_
      exact hK.out _ _ ⟨_, _, _, _, _, _, _, _, _, _, _, _, rfl, { hI with p8 := fun _ => rfl }⟩
    · obtain rfl := hI.p8 (hd 8 (by decide))
      refine step_build_pr (by rfl) (.tmp 25) rfl (prC (s, firstB id, tag s (firstB id))) (prC_len (tag_len _ _)) rfl ?_
      have hR := (⟨hI.x.rd.1.trans (((Below.refl _ _).alloc (Nat.le_refl _) _).mono hI.x.rd.1.size), hI.x.rd.2.keep ((Below.refl _ _).alloc (Nat.le_refl _) _)⟩ : Below w.heap.size w (W.alloc (.cells (prC (s, firstB id, tag s (firstB id))).toArray 98)) ∧ Own w.heap.size (W.alloc (.cells (prC (s, firstB id, tag s (firstB id))).toArray 98)) (.slice mo (18 + n) mc) (firstB id))
      have hX := hI.x.s9 hR hL
      exact hK.out _ _ ⟨_, _, _, _, _, _, _, _, _, _, _, _, rfl, { hI with x := hX }⟩
    · obtain rfl := hI.p0 (hd 0 (by decide))
      have h9 := hd 9 (by decide)
      obtain ⟨G, e26, r26⟩ := hI.x.p9 h9 hL
      refine step_append_any el_pairs24 (by rfl) (.tmp 17) (.tmp 26) rfl w.heap.size (some ⟨E1, 0, none⟩) 0 0 [] rfl (hI.x.l0 hL) hI.x.sz (some ⟨G, 0, none⟩) 1 1 (prC (s, firstB id, tag s (firstB id))) e26 (by rw [prC_len (tag_len _ _)]) (.inr ⟨G, 0, rfl, fun j v hv => (by rw [Nat.zero_add]; exact r26.cell j v hv)⟩) (prC_one _) (fun h => (by cases h)) (by unfold maxLen; omega) (by omega) ?_
      intro ao7 c7 W2 g1 g2 g3 g4
      have hR := (⟨hI.x.rd.1.trans g2, ⟨own_still (hI.x.l0 hL) g4 hI.x.rd.2.1 (by decide), Nat.le_trans hI.x.rd.2.2 g3⟩⟩ : Below w.heap.size w W2 ∧ Own w.heap.size W2 (.slice mo (18 + n) mc) (firstB id))
      have hX := hI.x.s10 hR h9 hL g1 g2 g3
      exact hK.out _ _ ⟨_, _, _, _, _, _, _, _, _, _, _, _, rfl, { hI with x := hX, c10_0 := fun _ => (hd 0 (by decide)) }⟩
    · rw [if_pos (by rfl)]
      have hX := hI.x.s11 (hd 10 (by decide))
      go_simp
      exact hK.out _ _ ⟨_, _, _, _, _, _, _, _, _, _, _, _, rfl, { hI with x := hX }⟩
  · rintro L _ W hall ⟨x17, x18, x19, x20, x21, x22, x23, x24, x25, x26, x27, x8, rfl, hI⟩
    obtain rfl := hI.p0 (hall 0 (by decide))
    obtain rfl := hI.p1 (hall 1 (by decide))
    obtain rfl := hI.p2 (hall 2 (by decide))
    obtain rfl := hI.p3 (hall 3 (by decide))
    obtain rfl := hI.p4 (hall 4 (by decide))
    obtain rfl := hI.p5 (hall 5 (by decide))
    obtain rfl := hI.p6 (hall 6 (by decide))
    obtain rfl := hI.p7 (hall 7 (by decide))
    obtain rfl := hI.p8 (hall 8 (by decide))
    have hXe := hI.x
    rw [hall 9 (by decide)] at hXe
    rw [hall 10 (by decide)] at hXe
    rw [hall 11 (by decide)] at hXe
    clear hI hall
    try dsimp only
    obtain ⟨po, pc, u27, o27⟩ := hXe.p10 rfl
    have u8 := hXe.p11 rfl
    have HL0 : Hid (Below w.heap.size w W ∧ W.ownsRow w.heap.size 98 34 (.slice po (0 + 1) pc) (0 + 1) ((prs tag s id (l.take 0)).flatMap prC)) := ⟨hXe.bel, by
      have := o27
      simpa [prs, prsF] using this⟩
    subst u27; subst u8
    clear hXe o27
    simp only [List.length_nil]
    go_wp2
    go_loopw [8, 9] (fun lv iv wr => ∃ (i : Nat) (po : Option Addr) (pc : Nat) (PL : List (List By × List By × List By)), i ≤ m ∧ lv = .slice po PL.length pc ∧ iv = .int .i64 (i : Int) ∧ Hid (PL = prs tag s id (l.take i) ∧ PL.length = i + 1) ∧ Hid (Below w.heap.size w wr ∧ wr.ownsRow w.heap.size 98 34 (.slice po PL.length pc) PL.length (PL.flatMap prC))) (fun _ iv _ => m - (intOf iv).toNat)
    case atStart => exact ⟨0, po, pc, prs tag s id (l.take 0), by omega, rfl, rfl, ⟨rfl, rfl⟩, HL0⟩
    case round =>
      clear HL0
      obtain ⟨i, qo, qc, PL, hi, rfl, rfl, HPL, HI⟩ := hrel
      by_cases hlt : i < m
      · have y0 : (0 : Int) ≤ (i : Int) := by omega
        have y1 : (i : Int) < (m : Int) := by omega
        have z1 : IntKind.i64.wrap ((i : Int) + 1) = (i : Int) + 1 := i64_in _ (by omega) (by have := HLB.out; omega)
        have z2 : IntKind.i64.wrap ((PL.length : Int) - 1) = (i : Int) := by have := HPL.out.2; rw [show (PL.length : Int) - 1 = (i : Int) by omega]; exact i64_in _ (by omega) (by have := HLB.out; omega)
        have y2 : (i : Int) < (PL.length : Int) := by have := HPL.out.2; omega
        obtain ⟨c, hcc⟩ : ∃ c, l[i]? = some c := ⟨_, List.getElem?_eq_getElem (by rw [HM.out]; exact hlt)⟩
        have HCK : Hid (c.ok) := HOK.out c (List.mem_of_getElem? hcc)
        have HLT : Hid (i < m) := hlt
        have HTK : Hid (l.take (i + 1) = l.take i ++ [c]) := flat_take l i c hcc
        have HTL : Hid ((l.take i).length = i) := by show _ = _; rw [List.length_take, HM.out]; omega
        obtain ⟨pb, rfl⟩ : ∃ pb, qo = some ⟨pb, 0, none⟩ := by
          rcases HI.out.2.2 with ⟨_, e0⟩ | ⟨g, cc, cur, e, _⟩
          · have := HPL.out.2; omega
          · injection e with e1 _ _; exact ⟨g, e1⟩
        obtain ⟨RT, hRT⟩ : ∃ RT, RT = rightT tag s id (l.take i) := ⟨_, rfl⟩
        have HRT : Hid (RT = rightT tag s id (l.take i)) := hRT
        have L32 : Hid (RT.length = 32) := by
          obtain ⟨a9, b9, hl9⟩ := prs_last s id (l.take i)
          have := prs_tags s id (l.take i) _ (List.mem_of_getElem? hl9)
          rw [hRT]; exact this
        have RNG : Hid (∀ W : World, W.ownsRow w.heap.size 98 34 (.slice (some ⟨pb, 0, none⟩) PL.length qc) PL.length (PL.flatMap prC) → W.rangeAt pb (i * 34 + 2) (RT.map B8)) := fun W ho j v hv => by
          obtain ⟨a9, b9, hl9⟩ := prs_last s id (l.take i)
          rw [HTL.out, ← HPL.out.1, ← hRT] at hl9
          have h1 := flP_at PL (by rw [HPL.out.1]; exact prs_tags s id _) i _ hl9 (2 + j) v (by unfold prC; rw [List.getElem?_append_right (by simp)]; simpa using hv)
          have := ho.cells (g := pb) rfl (i * 34 + (2 + j)) v h1
          rw [Addr.add_mid, Nat.zero_add, ← Nat.add_assoc] at this
          exact this
        obtain ⟨B, off, hlo, hB, hrc⟩ := HC.out wr HI.out.1 i c hcc
        subst hlo
        have HCC : Hid (∀ W, Below w.heap.size w W → W.rangeAt B (off + i * 5) (cvC c)) := fun W hW => by
          obtain ⟨B', off', e', _, hr'⟩ := HC.out W hW i c hcc
          injection e' with e'; injection e' with e1 e2
          subst e1; subst e2
          exact hr'
        obtain ⟨w3, hw3⟩ : ∃ w3, w3 = wr.alloc (.cells #[] 5) := ⟨_, rfl⟩
        have HK3 : Hid (Below w.heap.size w w3 ∧ w3.ownsRow w.heap.size 98 34 (.slice (some ⟨pb, 0, none⟩) PL.length qc) PL.length (PL.flatMap prC) ∧ Own w.heap.size w3 (.slice (some ⟨wr.heap.size, 0, none⟩) 0 0) []) := by
          rw [hw3]
          exact ⟨HI.out.1.alloc HI.out.1.size _, owB_keep HI.out.2 ((Below.refl _ _).alloc (Nat.le_refl _) _), own_empty _ wr HI.out.1.size #[] rfl⟩
        have rg3 := RNG.out w3 HK3.out.2.1
        have HZ3 : Hid (Row (w3.alloc (.cells zH24.toArray 26)) w3.heap.size 26 zH24) := Row.at w3 _ _ _ _ rfl rfl
        clear hcc hlt hi HI hrc hRT
        go_upto_region 9 with (first
          | (have hz := hw3; clear hz; rw [← hw3]; clear hw3)
          | (have hz := rg3; clear hz; refine wpList_load_mid rfl 26 (.tmp 40) rfl pb (i * 34 + 2) rfl (RT.map B8) _ rg3 Tryz.underlying26 rfl (by rw [List.length_map, L32.out]; kernel_rfl) ?_; clear rg3)
          | (have hz := HZ3; clear hz; refine wpList_store_Row rfl 26 _ _ rfl w3.heap.size 26 0 zH24 (RT.map B8) HZ3.out (by rw [List.length_map, L32.out]; exact Nat.le_refl _) rfl rfl (by rw [List.length_map, L32.out]; kernel_rfl) (B8_one _) ?_; intro w4 hr4 hs4; have HK4 : Hid (KL w (.slice (some ⟨pb, 0, none⟩) PL.length qc) PL w3.heap.size RT 0 (some ⟨wr.heap.size, 0, none⟩) 0 w4) := (by have hb4 : Below w3.heap.size w3 w4 := hs4.below ((Below.refl _ _).alloc (Nat.le_refl _) _) (Nat.le_refl _); exact ⟨HK3.out.1.trans (hb4.mono HK3.out.1.size), owB_keep HK3.out.2.1 hb4, HK3.out.2.2.keep hb4, row_whole hr4 (by rw [List.length_map, L32.out]; exact Nat.le_refl _)⟩); clear hr4 hs4 HZ3 HK3))
        generalize w3.heap.size = bx at *
        obtain ⟨E9, hE9⟩ : ∃ E9, E9 = wr.heap.size := ⟨_, rfl⟩
        rw [← hE9] at HK4 ⊢
        clear hE9
        go_wp2
        go_loopw [10, 12] (fun kv jv wx => ∃ (j : Nat) (ko : Option Addr) (kc : Nat), j ≤ 32 ∧ kv = .slice ko j kc ∧ jv = .int .i64 (j : Int) ∧ Hid (KL w (.slice (some ⟨pb, 0, none⟩) PL.length qc) PL bx RT j ko kc wx)) (fun _ jv _ => 32 - (intOf jv).toNat)
        case atStart => exact ⟨0, some ⟨E9, 0, none⟩, 0, by omega, rfl, rfl, HK4⟩
        case round =>
          clear HK4
          obtain ⟨j, ko, kc, hj, rfl, rfl, HJ⟩ := hrel
          by_cases hj32 : j < 32
          · have v0 : (0 : Int) ≤ (j : Int) := by omega
            have v1 : (j : Int) < 32 := by omega
            have v2 : IntKind.i64.wrap ((j : Int) + 1) = (j : Int) + 1 := i64_in _ (by omega) (by omega)
            have hjl : j < RT.length := by rw [L32.out]; exact hj32
            have cj : wr.cell? ⟨bx, j, none⟩ = some (.int .u8 ((RT.getD j 0).toNat : Int)) := HJ.out.box.cell j _ (by rw [List.getElem?_map, List.getElem?_eq_getElem hjl, getD_lt hjl]; rfl)
            have HT9 : Hid (RT.take (j + 1) = RT.take j ++ [RT.getD j 0]) := by show _ = _; rw [List.take_add_one, List.getElem?_eq_getElem hjl]; simp [hjl]
            have HL9 : Hid ((RT.take j).length = j) := by show _ = _; rw [List.length_take]; omega
            have HJL : Hid (j < 32) := hj32
            generalize hy9 : RT.getD j 0 = yb at *
            obtain ⟨w5, hw5⟩ : ∃ w5, w5 = wr.alloc (.cells #[.int .u8 (yb.toNat : Int)] 5) := ⟨_, rfl⟩
            have HK5 : Hid (KL w (.slice (some ⟨pb, 0, none⟩) PL.length qc) PL bx RT j ko kc w5 ∧ Row w5 wr.heap.size 5 ([yb].map B8)) := by rw [hw5]; exact ⟨HJ.out.keep ((Below.refl _ _).alloc (Nat.le_refl _) _), Row.at wr 5 ([yb].map B8) _ _ rfl rfl⟩
            have HKO : Hid (w5.ownsRow w.heap.size 5 1 (.slice ko j kc) j ((RT.take j).map B8)) := by
              have := HK5.out.1.key.1
              rw [HL9.out] at this
              exact this
            clear HJ hj32 hj hjl hy9
            go_wp2_with (first
              | (have hz := hw5; clear hz; rw [← hw5]; clear hw5)
              | (at_builtin; have hz := HK5; clear hz; refine wpList_append_any el_bytes rfl (.tmp 46) (.tmp 50) rfl w.heap.size ko j kc ((RT.take j).map B8) rfl HKO.out HK5.out.1.bel.size (some ⟨wr.heap.size, 0, none⟩) 1 1 ([yb].map B8) rfl rfl (.inr ⟨wr.heap.size, 0, rfl, fun j v hv => (by rw [Nat.zero_add]; exact HK5.out.2.cell j v hv)⟩) (B8_one _) (fun h => (by cases h)) (by have := HJL.out; unfold maxLen; omega) (by have := HJL.out; omega) ?_
                 intro k7 kc7 w7 g1 g2 g3 g4
                 have HN : Hid (KL w (.slice (some ⟨pb, 0, none⟩) PL.length qc) PL bx RT (j + 1) k7 kc7 w7) := ⟨HK5.out.1.bel.trans g2, own_still HKO.out g4 HK5.out.1.prs (by decide), ⟨(by rw [HT9.out, List.length_append, HL9.out, List.map_append]; exact g1), Nat.le_trans HK5.out.1.bel.size g3⟩, row_still HKO.out g4 HK5.out.1.box (by decide)⟩
                 clear g1 g2 g3 g4 HK5 HKO))
            exact ⟨⟨j + 1, k7, kc7, HJL.out, rfl, by go_num, HN⟩, by have := HJL.out; simp [intOf]; omega⟩
          · have v1 : ¬ (j : Int) < 32 := by omega
            have L3j : Hid (RT.length = j) := by show _ = _; rw [L32.out]; omega
            have HJ3 : Hid (j ≤ 32) := hj
            have HK6 : Hid (Below w.heap.size w wr ∧ wr.ownsRow w.heap.size 98 34 (.slice (some ⟨pb, 0, none⟩) PL.length qc) PL.length (PL.flatMap prC) ∧ Own w.heap.size wr (.slice ko j kc) RT) := by
              have h := HJ.out
              have h3 := h.key
              rw [List.take_of_length_le (by rw [L3j.out]; exact Nat.le_refl _)] at h3
              exact ⟨h.bel, h.prs, h3⟩
            have hrc := HCC.out wr HJ.out.bel
            have F := r24cBytes_any c HCK.out.z wr
            have LC5 : Hid ((cvC c).length = 5) := rfl
            clear HJ hj32 hj
            generalize hcv : cvC c = CV at *
            go_upto_region 14 with (first
              | (have hz := hrc; clear hz; refine wpList_load_mid rfl 50 (.tmp 54) rfl B (off + i * 5) rfl CV _ hrc Tryz.underlying50 rfl (by rw [LC5.out]; kernel_rfl) ?_; clear hrc)
              | (go_at_call 39; refine F.mono ?_; clear F; rintro e w6 ⟨bo, bc, rfl, ho6, hb6⟩; have HO6 : Hid (Own wr.heap.size w6 (.slice bo 26 bc) (cvB c) ∧ Below wr.heap.size wr w6) := ⟨ho6, hb6⟩; clear ho6 hb6))
            have HS14 : Hid (∀ a b, P3 w.heap.size w (fun W => Below w.heap.size w W ∧ Own w.heap.size W (.slice ko j kc) RT ∧ Own w.heap.size W (.slice bo 26 bc) (cvB c)) PL (some ⟨pb, 0, none⟩) qc (RT, cvB c, tag RT (cvB c)) false false false a b (.slice (some ⟨pb, 0, none⟩) PL.length qc) w6.drew) := fun a b => by
              have h := HK6.out
              have hb6 := HO6.out.2
              have hbb := h.1.trans (hb6.mono h.1.size)
              exact ⟨fun h => (by cases h), fun h => (by cases h), hbb.drew, hbb.size, ⟨hbb.drew, h.2.2.keep hb6.drew, own_le HO6.out.1 h.1.size⟩, fun _ => owB_keep h.2.1 hb6.drew, fun h => (by cases h), fun h => (by cases h), fun h => (by cases h), fun _ => rfl⟩
            clear HO6 HK6
            refine wp_region_inv (IPR14 w6 w.heap.size w (fun W => Below w.heap.size w W ∧ Own w.heap.size W (.slice ko j kc) RT ∧ Own w.heap.size W (.slice bo 26 bc) (cvB c)) PL (some ⟨pb, 0, none⟩) qc RT (cvB c) ko j kc bo 26 bc _ _ _ _ _ _ _ _ _ _ _ _ _ _ _ _ _ _ _ _ _ _ _ _ _ _ _ _ _ _ _ _ _ _ _ _ _ _ _ _ _ _ _ _ _ _ _ _ _ _ _ _ _ _ _ _ _) (by kernel_rfl) (by kernel_rfl) ⟨_, _, _, _, _, _, _, _, _, _, _, _, rfl, ⟨HS14.out _ _, fun k => (by cases k), fun k => (by cases k), fun k => (by cases k), fun k => (by cases k), fun k => (by cases k), fun k => (by cases k), fun k => (by cases k), fun k => (by cases k), fun k => (by cases k), fun k => (by cases k)⟩⟩ ?_ ?_
            · refine .cons ?_ (.cons ?_ (.cons ?_ (.cons ?_ (.cons ?_ (.cons ?_ (.cons ?_ (.cons ?_ (.cons ?_ (.cons ?_ (.cons ?_ (.cons ?_ .nil)))))))))))
              all_goals (rintro L _ W ⟨x57, x58, x59, x60, x61, x62, x63, x64, x65, x66, x67, x8, rfl, hI⟩ hL hd K hK)
              · rw [if_pos (by rfl)]
                have h10 : L 10 = false := ff24 hI.c10_0 hL
                have e8 := hI.x.p0 (ff24 hI.x.c11 h10)
                subst e8
                go_simp
                exact hK.out _ _ ⟨_, _, _, _, _, _, _, _, _, _, _, _, rfl, { hI with p0 := fun _ => rfl, c10_0 := fun _ => rfl }⟩
              · rw [if_pos (by rfl)]
                go_simp
                exact hK.out _ _ ⟨_, _, _, _, _, _, _, _, _, _, _, _, rfl, { hI with p1 := fun _ => rfl }⟩
              · obtain rfl := hI.p1 (hd 1 (by decide))
                rw [if_pos (by rfl)]
                have hcv9 := conv_bytes W ko j kc RT L3j.out (own_IsB hI.x.rd.2.1)
                go_simp
                exact hK.out _ _ ⟨_, _, _, _, _, _, _, _, _, _, _, _, rfl, { hI with p2 := fun _ => rfl }⟩
              · rw [if_pos (by rfl)]
                go_simp
                exact hK.out _ _ ⟨_, _, _, _, _, _, _, _, _, _, _, _, rfl, { hI with p3 := fun _ => rfl }⟩
              · obtain rfl := hI.p3 (hd 3 (by decide))
                rw [if_pos (by rfl)]
                have hcv9 := conv_bytes W bo 26 bc (cvB c) (cvB_len c) (own_IsB hI.x.rd.2.2)
                go_simp
                exact hK.out _ _ ⟨_, _, _, _, _, _, _, _, _, _, _, _, rfl, { hI with p4 := fun _ => rfl }⟩
              · rw [if_pos (by rfl)]
                go_simp
                exact hK.out _ _ ⟨_, _, _, _, _, _, _, _, _, _, _, _, rfl, { hI with p5 := fun _ => rfl }⟩
              · rw [if_pos (by rfl)]
                go_simp
                exact hK.out _ _ ⟨_, _, _, _, _, _, _, _, _, _, _, _, rfl, { hI with p6 := fun _ => rfl }⟩
              · obtain rfl := hI.p5 (hd 5 (by decide))
                obtain rfl := hI.p6 (hd 6 (by decide))
                rw [if_pos (by rfl)]
                go_simp
                refine (refMac_any ko bo j kc 26 bc RT (cvB c) L3j.out (cvB_len c) W (own_IsB hI.x.rd.2.1) (own_IsB hI.x.rd.2.2) (own_nilcap hI.x.rd.2.1) (own_nilcap hI.x.rd.2.2) (by have := HJ3.out; omega) (by omega)).mono ?_
                rintro e W2 ⟨rfl, hb3⟩
                go_simp
                have hX := hI.x.keep (W2 := W2) ⟨hI.x.rd.1.trans (hb3.mono hI.x.rd.1.size), hI.x.rd.2.1.keep hb3, hI.x.rd.2.2.keep hb3⟩ hb3
                exact hK.out _ _ ⟨_, _, _, _, _, _, _, _, _, _, _, _, rfl, { hI with x := hX, p7 := fun _ => rfl }⟩
              · obtain rfl := hI.p2 (hd 2 (by decide))
                obtain rfl := hI.p4 (hd 4 (by decide))
                obtain rfl := hI.p7 (hd 7 (by decide))
                refine step_build3 (by rfl) 98 0 1 2 (.tmp 59) (.tmp 61) (.tmp 64) rfl (.string (strOf RT)) (.string (strOf (cvB c))) (.agg ((tag RT (cvB c)).map B8).toArray) _ rfl rfl rfl (build_pr _ _ W _ (tag_len _ _)) ?_
                exact hK.out _ _ ⟨_, _, _, _, _, _, _, _, _, _, _, _, rfl, { hI with p8 := fun _ => rfl }⟩
              · obtain rfl := hI.p8 (hd 8 (by decide))
                refine step_build_pr (by rfl) (.tmp 65) rfl (prC (RT, cvB c, tag RT (cvB c))) (prC_len (tag_len _ _)) rfl ?_
                have hR := (⟨hI.x.rd.1.trans (((Below.refl _ _).alloc (Nat.le_refl _) _).mono hI.x.rd.1.size), hI.x.rd.2.1.keep ((Below.refl _ _).alloc (Nat.le_refl _) _), hI.x.rd.2.2.keep ((Below.refl _ _).alloc (Nat.le_refl _) _)⟩ : Below w.heap.size w (W.alloc (.cells (prC (RT, cvB c, tag RT (cvB c))).toArray 98)) ∧ Own w.heap.size (W.alloc (.cells (prC (RT, cvB c, tag RT (cvB c))).toArray 98)) (.slice ko j kc) RT ∧ Own w.heap.size (W.alloc (.cells (prC (RT, cvB c, tag RT (cvB c))).toArray 98)) (.slice bo 26 bc) (cvB c))
                have hX := hI.x.s9 hR hL
                exact hK.out _ _ ⟨_, _, _, _, _, _, _, _, _, _, _, _, rfl, { hI with x := hX }⟩
              · obtain rfl := hI.p0 (hd 0 (by decide))
                have h9 := hd 9 (by decide)
                obtain ⟨G, e26, r26⟩ := hI.x.p9 h9 hL
                refine step_append_any el_pairs24 (by rfl) (.tmp 57) (.tmp 66) rfl w.heap.size (some ⟨pb, 0, none⟩) PL.length qc (PL.flatMap prC) rfl (hI.x.l0 hL) hI.x.sz (some ⟨G, 0, none⟩) 1 1 (prC (RT, cvB c, tag RT (cvB c))) e26 (by rw [prC_len (tag_len _ _)]) (.inr ⟨G, 0, rfl, fun j v hv => (by rw [Nat.zero_add]; exact r26.cell j v hv)⟩) (prC_one _) (fun h => (by cases h)) (by unfold maxLen; (have := HPL.out.2; have := HLT.out; have := HLB.out; omega)) (by (have := HPL.out.2; have := HLT.out; have := HLB.out; omega)) ?_
                intro ao7 c7 W2 g1 g2 g3 g4
                have hR := (⟨hI.x.rd.1.trans g2, ⟨own_still (hI.x.l0 hL) g4 hI.x.rd.2.1.1 (by decide), Nat.le_trans hI.x.rd.2.1.2 g3⟩, ⟨own_still (hI.x.l0 hL) g4 hI.x.rd.2.2.1 (by decide), Nat.le_trans hI.x.rd.2.2.2 g3⟩⟩ : Below w.heap.size w W2 ∧ Own w.heap.size W2 (.slice ko j kc) RT ∧ Own w.heap.size W2 (.slice bo 26 bc) (cvB c))
                have hX := hI.x.s10 hR h9 hL g1 g2 g3
                exact hK.out _ _ ⟨_, _, _, _, _, _, _, _, _, _, _, _, rfl, { hI with x := hX, c10_0 := fun _ => (hd 0 (by decide)) }⟩
              · rw [if_pos (by rfl)]
                have hX := hI.x.s11 (hd 10 (by decide))
                go_simp
                exact hK.out _ _ ⟨_, _, _, _, _, _, _, _, _, _, _, _, rfl, { hI with x := hX }⟩
            · rintro L _ W hall ⟨x57, x58, x59, x60, x61, x62, x63, x64, x65, x66, x67, x8, rfl, hI⟩
              obtain rfl := hI.p0 (hall 0 (by decide))
              obtain rfl := hI.p1 (hall 1 (by decide))
              obtain rfl := hI.p2 (hall 2 (by decide))
              obtain rfl := hI.p3 (hall 3 (by decide))
              obtain rfl := hI.p4 (hall 4 (by decide))
              obtain rfl := hI.p5 (hall 5 (by decide))
              obtain rfl := hI.p6 (hall 6 (by decide))
              obtain rfl := hI.p7 (hall 7 (by decide))
              obtain rfl := hI.p8 (hall 8 (by decide))
              have hXe := hI.x
              rw [hall 9 (by decide)] at hXe
              rw [hall 10 (by decide)] at hXe
              rw [hall 11 (by decide)] at hXe
              clear hI hall
              try dsimp only
              obtain ⟨qo2, qc2, u67, o67⟩ := hXe.p10 rfl
              have u8 := hXe.p11 rfl
              have HN : Hid (Below w.heap.size w W ∧ W.ownsRow w.heap.size 98 34 (.slice qo2 (PL ++ [(RT, cvB c, tag RT (cvB c))]).length qc2) (PL ++ [(RT, cvB c, tag RT (cvB c))]).length ((PL ++ [(RT, cvB c, tag RT (cvB c))]).flatMap prC)) := ⟨hXe.bel, by
                rw [List.length_append, List.flatMap_append]
                simpa using o67⟩
              subst u67; subst u8
              clear hXe o67
              have HPN : Hid (PL ++ [(RT, cvB c, tag RT (cvB c))] = prs tag s id (l.take (i + 1)) ∧ (PL ++ [(RT, cvB c, tag RT (cvB c))]).length = i + 1 + 1) := by
                refine ⟨?_, ?_⟩
                · rw [HTK.out, prs_snoc, HPL.out.1, HRT.out]
                · rw [List.length_append, HPL.out.2]; rfl
              go_wp2
              have hlt9 := HLT.out
              refine ⟨⟨_, _, _, _, _, _, _, _, _, _, _, _, _, _, _, _, _, _, _, _, _, _, _, _, _, _, _, _, _, _, _, _, _, _, _, _, _, _, _, _, _, _, _, _, _, _, ?rel, rfl⟩, by simp [intOf]; omega⟩
              exact ⟨i + 1, qo2, qc2, PL ++ [(RT, cvB c, tag RT (cvB c))], HLT.out, by rw [List.length_append]; rfl, by go_num, HPN, HN⟩
      · obtain rfl : i = m := by omega
        have y1 : ¬ ((i : Nat) : Int) < (i : Int) := by omega
        have HF : Hid (PrsP s id l w (.returned (.slice qo PL.length qc)) wr) := by
          have h := HI.out
          have e1 := HPL.out.1
          have e2 := HPL.out.2
          rw [List.take_of_length_le (by rw [HM.out]; exact Nat.le_refl _)] at e1
          exact ⟨qo, qc, by rw [HM.out, e2], by rw [HM.out, ← e2, ← e1]; exact h.2, h.1⟩
        clear HI
        go_wp2
        go_ret
        exact HF.out
end Go.Proofs.YtjooabgjkjnhhaaGreatDoor
