
import Derived.Test.YtjooabgjkjnhhaaGreatDoorT24N
/-! The law's token: of. (Printed by tools/gent24b.py.) -/
namespace Go.Proofs.YtjooabgjkjnhhaaGreatDoor
open Go.RowKit
set_option linter.unusedVariables false
set_option linter.unusedSimpArgs false
set_option maxRecDepth 100000

def mk3 : List By := [161#8, 162#8, 163#8]
/-- While the token is put together: marks made (3), appended (4), cut off again (8), built (12), laid (13). -/
structure O8 (w : World) (T : List Value) (key : Int) (ao : Option Addr) (c : Nat) (id tag : List By) (H m : Nat) (CV : List Value) (q3 q4 q8 q12 q13 : Bool) (x36 x37 x41 x45 : Value) (W : World) : Prop where
  c4 : q4 = true → q3 = true
  c8 : q8 = true → q4 = true
  c12 : q12 = true → q8 = true
  c13 : q13 = true → q12 = true
  bel : Below w.heap.size w W
  box : Row W w.heap.size 28 T
  cav : Row W H 52 CV
  sz : w.heap.size + 2 ≤ W.heap.size
  own : q4 = false → Own (w.heap.size + 2) W (.slice ao id.length c) id ∧ Row W (w.heap.size + 1) 40 zTk
  p3 : q3 = true → q4 = false → ∃ M, x36 = .slice (some ⟨M, 0, none⟩) 3 3 ∧ Row W M 5 (mk3.map B8)
  p4 : q4 = true → ∃ G c', x37 = .slice (some ⟨G, 0, none⟩) (id.length + 3) c' ∧ Own (w.heap.size + 2) W (.slice (some ⟨G, 0, none⟩) (id.length + 3) c') (id ++ mk3) ∧ (q8 = true → x41 = .slice (some ⟨G, 0, none⟩) id.length c') ∧ (q12 = true → x45 = .agg (tkC key (some ⟨G, 0, none⟩) id.length c' (some ⟨H, 0, none⟩) m (m + 2) tag).toArray) ∧ Row W (w.heap.size + 1) 40 (if q13 then tkC key (some ⟨G, 0, none⟩) id.length c' (some ⟨H, 0, none⟩) m (m + 2) tag else zTk)
section
variable {w : World} {T : List Value} {key : Int} {ao : Option Addr} {c : Nat} {id tag : List By} {H m : Nat} {CV : List Value} {q3 q4 q8 q12 q13 : Bool} {x36 x37 x41 x45 : Value} {W W2 : World}
theorem O8.drew (h : O8 w T key ao c id tag H m CV q3 q4 q8 q12 q13 x36 x37 x41 x45 W) : O8 w T key ao c id tag H m CV q3 q4 q8 q12 q13 x36 x37 x41 x45 W.drew :=
  ⟨h.c4, h.c8, h.c12, h.c13, h.bel.drew, h.box.drew, h.cav.drew, h.sz, h.own, h.p3, h.p4⟩
theorem O8.s3 (h : O8 w T key ao c id tag H m CV q3 q4 q8 q12 q13 x36 x37 x41 x45 W) (e : q3 = false) : O8 w T key ao c id tag H m CV true q4 q8 q12 q13 (.slice (some ⟨W.heap.size, 0, none⟩) 3 3) x37 x41 x45 (W.alloc (.cells (mk3.map B8).toArray 5)) := by
  have e4 := ff24 h.c4 e
  have e8 := ff24 h.c8 e4
  have e12 := ff24 h.c12 e8
  have e13 := ff24 h.c13 e12
  subst e4 e8 e12 e13
  have hb : Below W.heap.size W (W.alloc (.cells (mk3.map B8).toArray 5)) := (Below.refl _ _).alloc (Nat.le_refl _) _
  exact ⟨fun h => (by cases h), fun h => (by cases h), fun h => (by cases h), fun h => (by cases h), h.bel.trans (hb.mono h.bel.size), h.box.below hb h.box.lt, h.cav.below hb h.cav.lt, Nat.le_trans h.sz hb.size, fun _ => ⟨(h.own rfl).1.keep hb, (h.own rfl).2.below hb (h.own rfl).2.lt⟩, fun _ _ => ⟨_, rfl, Row.at W 5 (mk3.map B8) _ _ rfl rfl⟩, fun h => (by cases h)⟩
theorem O8.s4 (h : O8 w T key ao c id tag H m CV q3 q4 q8 q12 q13 x36 x37 x41 x45 W) (e3 : q3 = true) (e4 : q4 = false) {G c' : Nat} (ho : W2.ownsRow (w.heap.size + 2) 5 1 (.slice (some ⟨G, 0, none⟩) (id.length + 3) c') (id.length + 3) (id.map B8 ++ mk3.map B8)) (hz : W.heap.size ≤ W2.heap.size) (hbel : Below (w.heap.size + 2) W W2) (hk : ∀ k, k < W.heap.size → (∀ g, ao = some ⟨g, 0, none⟩ → k ≠ g) → W2.heap[k]? = W.heap[k]?) :
    O8 w T key ao c id tag H m CV q3 true q8 q12 q13 x36 (.slice (some ⟨G, 0, none⟩) (id.length + 3) c') x41 x45 W2 := by
  have e8 := ff24 h.c8 e4
  have e12 := ff24 h.c12 e8
  have e13 := ff24 h.c13 e12
  subst e3 e8 e12 e13
  have o := h.own e4
  have still : ∀ {g' t' : Nat} {cs : List Value}, Row W g' t' cs → t' ≠ 5 → Row W2 g' t' cs := fun {g' t' cs} hr ht => (hk g' hr.lt (fun q e e2 => by
    rcases o.1.1.2 with ⟨e1, _⟩ | ⟨g2, c', cur, e1, _, hh, _⟩
    · injection e1 with e1; rw [e1] at e; cases e
    · injection e1 with e1 _ _
      rw [e1] at e; injection e with e; injection e with e
      subst e2; subst e
      have h2 : W.heap[g2]? = _ := hr
      rw [hh] at h2
      injection h2 with h2
      injection h2 with _ h2
      exact ht h2.symm)).trans hr
  refine ⟨fun _ => rfl, fun h => (by cases h), fun h => (by cases h), fun h => (by cases h), h.bel.trans (hbel.mono (by omega)), h.box.below hbel (by omega), still h.cav (by decide), Nat.le_trans h.sz hz, fun h => (by cases h), fun _ h => (by cases h), fun _ => ⟨G, c', rfl, ⟨?_, Nat.le_trans h.sz hz⟩, fun h => (by cases h), fun h => (by cases h), o.2.below hbel (by omega)⟩⟩
  rw [List.length_append, List.map_append]
  exact ho
theorem O8.s8 (h : O8 w T key ao c id tag H m CV q3 q4 q8 q12 q13 x36 x37 x41 x45 W) (e4 : q4 = true) (e8 : q8 = false) {G c' : Nat} (hx : x37 = .slice (some ⟨G, 0, none⟩) (id.length + 3) c') : O8 w T key ao c id tag H m CV q3 q4 true q12 q13 x36 x37 (.slice (some ⟨G, 0, none⟩) id.length c') x45 W := by
  have e12 := ff24 h.c12 e8
  have e13 := ff24 h.c13 e12
  subst e12 e13
  obtain ⟨G', c2, hx2, o2, _, _, r2⟩ := h.p4 e4
  rw [hx] at hx2
  injection hx2 with ha _ hc
  injection ha with ha
  injection ha with ha
  subst ha; subst hc
  exact ⟨h.c4, fun _ => e4, fun h => (by cases h), fun h => (by cases h), h.bel, h.box, h.cav, h.sz, h.own, h.p3, fun _ => ⟨_, _, hx, o2, fun _ => rfl, fun h => (by cases h), r2⟩⟩
theorem O8.s12 (h : O8 w T key ao c id tag H m CV q3 q4 q8 q12 q13 x36 x37 x41 x45 W) (e8 : q8 = true) (e12 : q12 = false) {G c' : Nat} (hx : x37 = .slice (some ⟨G, 0, none⟩) (id.length + 3) c') : O8 w T key ao c id tag H m CV q3 q4 q8 true q13 x36 x37 x41 (.agg (tkC key (some ⟨G, 0, none⟩) id.length c' (some ⟨H, 0, none⟩) m (m + 2) tag).toArray) W := by
  have e13 := ff24 h.c13 e12
  subst e13
  refine ⟨h.c4, h.c8, fun _ => e8, fun h => (by cases h), h.bel, h.box, h.cav, h.sz, h.own, h.p3, fun e4 => ?_⟩
  obtain ⟨G', c2, hx2, o2, h8, _, r2⟩ := h.p4 e4
  rw [hx] at hx2
  injection hx2 with ha _ hc
  injection ha with ha
  injection ha with ha
  subst ha; subst hc
  exact ⟨_, _, hx, o2, h8, fun _ => rfl, r2⟩
theorem O8.s13 (h : O8 w T key ao c id tag H m CV q3 q4 q8 q12 q13 x36 x37 x41 x45 W) (e12 : q12 = true) {G c' : Nat} (hx : x37 = .slice (some ⟨G, 0, none⟩) (id.length + 3) c') (hr0 : Row W (w.heap.size + 1) 40 zTk) (hr : Row W2 (w.heap.size + 1) 40 (tkC key (some ⟨G, 0, none⟩) id.length c' (some ⟨H, 0, none⟩) m (m + 2) tag)) (hs : SameBut (w.heap.size + 1) W W2) (hH : H ≠ w.heap.size + 1) : O8 w T key ao c id tag H m CV q3 q4 q8 q12 true x36 x37 x41 x45 W2 := by
  have e4 := h.c8 (h.c12 e12)
  refine ⟨h.c4, h.c8, h.c12, fun _ => e12, hs.below h.bel (by omega), h.box.but hs (by omega), h.cav.but hs hH, by rw [hs.size]; exact h.sz, fun e => (by rw [e4] at e; cases e), fun _ e => (by rw [e4] at e; cases e), fun _ => ?_⟩
  obtain ⟨G', c2, hx2, o2, h8, h12, _⟩ := h.p4 e4
  rw [hx] at hx2
  injection hx2 with ha _ hc
  injection ha with ha
  injection ha with ha
  subst ha; subst hc
  exact ⟨_, _, hx, own_butr o2 hs hr0 (by decide), h8, h12, hr⟩
end
structure OF8 (W1 : World) (w : World) (T : List Value) (key : Int) (ao : Option Addr) (c : Nat) (id tag : List By) (H m : Nat) (CV : List Value) (io : Option Addr) (ic : Nat) (L : Nat → Bool) (x33 x34 x35 x36 x37 x38 x39 x40 x41 x42 x43 x44 x45 : Value) (W : World) : Prop where
  x : O8 w T key ao c id tag H m CV (L 3) (L 4) (L 8) (L 12) (L 13) x36 x37 x41 x45 W
  p0 : L 0 = true → x33 = .pointer (some ⟨w.heap.size, 0, none⟩)
  p1 : L 1 = true → x34 = .int .i64 key
  p2 : L 2 = true → x35 = .slice ao id.length c
  p5 : L 5 = true → x38 = .pointer (some ⟨w.heap.size, 1, none⟩)
  p6 : L 6 = true → x39 = .slice io id.length ic
  p7 : L 7 = true → x40 = .int .i64 (id.length : Int)
  p9 : L 9 = true → x42 = .slice (some ⟨H, 0, none⟩) m (m + 2)
  p10 : L 10 = true → x43 = .pointer (some ⟨w.heap.size, 3, none⟩)
  p11 : L 11 = true → x44 = .agg (tag.map B8).toArray
section
variable {W1 : World} {w : World} {T : List Value} {key : Int} {ao : Option Addr} {c : Nat} {id tag : List By} {H m : Nat} {CV : List Value} {io : Option Addr} {ic : Nat} {L : Nat → Bool} {x33 x34 x35 x36 x37 x38 x39 x40 x41 x42 x43 x44 x45 : Value} {W W2 : World}
theorem OF8.s0 (h : OF8 W1 w T key ao c id tag H m CV io ic L x33 x34 x35 x36 x37 x38 x39 x40 x41 x42 x43 x44 x45 W) : OF8 W1 w T key ao c id tag H m CV io ic (upd L 0) (.pointer (some ⟨w.heap.size, 0, none⟩)) x34 x35 x36 x37 x38 x39 x40 x41 x42 x43 x44 x45 W :=
  ⟨h.x, fun _ => rfl, h.p1, h.p2, h.p5, h.p6, h.p7, h.p9, h.p10, h.p11⟩
theorem OF8.s1 (h : OF8 W1 w T key ao c id tag H m CV io ic L x33 x34 x35 x36 x37 x38 x39 x40 x41 x42 x43 x44 x45 W) : OF8 W1 w T key ao c id tag H m CV io ic (upd L 1) x33 (.int .i64 key) x35 x36 x37 x38 x39 x40 x41 x42 x43 x44 x45 W :=
  ⟨h.x, h.p0, fun _ => rfl, h.p2, h.p5, h.p6, h.p7, h.p9, h.p10, h.p11⟩
theorem OF8.s3 (h : OF8 W1 w T key ao c id tag H m CV io ic L x33 x34 x35 x36 x37 x38 x39 x40 x41 x42 x43 x44 x45 W) {v : Value} (hX : O8 w T key ao c id tag H m CV ((upd L 3) 3) ((upd L 3) 4) ((upd L 3) 8) ((upd L 3) 12) ((upd L 3) 13) v x37 x41 x45 W2) : OF8 W1 w T key ao c id tag H m CV io ic (upd L 3) x33 x34 x35 v x37 x38 x39 x40 x41 x42 x43 x44 x45 W2 :=
  ⟨hX, h.p0, h.p1, h.p2, h.p5, h.p6, h.p7, h.p9, h.p10, h.p11⟩
theorem OF8.s4 (h : OF8 W1 w T key ao c id tag H m CV io ic L x33 x34 x35 x36 x37 x38 x39 x40 x41 x42 x43 x44 x45 W) {v : Value} (hX : O8 w T key ao c id tag H m CV ((upd L 4) 3) ((upd L 4) 4) ((upd L 4) 8) ((upd L 4) 12) ((upd L 4) 13) x36 v x41 x45 W2) : OF8 W1 w T key ao c id tag H m CV io ic (upd L 4) x33 x34 x35 x36 v x38 x39 x40 x41 x42 x43 x44 x45 W2 :=
  ⟨hX, h.p0, h.p1, h.p2, h.p5, h.p6, h.p7, h.p9, h.p10, h.p11⟩
theorem OF8.s8 (h : OF8 W1 w T key ao c id tag H m CV io ic L x33 x34 x35 x36 x37 x38 x39 x40 x41 x42 x43 x44 x45 W) {v : Value} (hX : O8 w T key ao c id tag H m CV ((upd L 8) 3) ((upd L 8) 4) ((upd L 8) 8) ((upd L 8) 12) ((upd L 8) 13) x36 x37 v x45 W2) : OF8 W1 w T key ao c id tag H m CV io ic (upd L 8) x33 x34 x35 x36 x37 x38 x39 x40 v x42 x43 x44 x45 W2 :=
  ⟨hX, h.p0, h.p1, h.p2, h.p5, h.p6, h.p7, h.p9, h.p10, h.p11⟩
theorem OF8.s12 (h : OF8 W1 w T key ao c id tag H m CV io ic L x33 x34 x35 x36 x37 x38 x39 x40 x41 x42 x43 x44 x45 W) {v : Value} (hX : O8 w T key ao c id tag H m CV ((upd L 12) 3) ((upd L 12) 4) ((upd L 12) 8) ((upd L 12) 12) ((upd L 12) 13) x36 x37 x41 v W2) : OF8 W1 w T key ao c id tag H m CV io ic (upd L 12) x33 x34 x35 x36 x37 x38 x39 x40 x41 x42 x43 x44 v W2 :=
  ⟨hX, h.p0, h.p1, h.p2, h.p5, h.p6, h.p7, h.p9, h.p10, h.p11⟩
theorem OF8.s13 (h : OF8 W1 w T key ao c id tag H m CV io ic L x33 x34 x35 x36 x37 x38 x39 x40 x41 x42 x43 x44 x45 W) (hX : O8 w T key ao c id tag H m CV ((upd L 13) 3) ((upd L 13) 4) ((upd L 13) 8) ((upd L 13) 12) ((upd L 13) 13) x36 x37 x41 x45 W2) : OF8 W1 w T key ao c id tag H m CV io ic (upd L 13) x33 x34 x35 x36 x37 x38 x39 x40 x41 x42 x43 x44 x45 W2 :=
  ⟨hX, h.p0, h.p1, h.p2, h.p5, h.p6, h.p7, h.p9, h.p10, h.p11⟩
end
@[reducible] def IOF8 (W1 : World) (w : World) (T : List Value) (key : Int) (ao : Option Addr) (c : Nat) (id tag : List By) (H m : Nat) (CV : List Value) (io : Option Addr) (ic : Nat) (y0 y1 y2 y3 y4 y5 y6 y7 y8 y9 y10 y11 y12 y13 y14 y15 y16 y17 y18 y19 y20 y21 y22 y23 y24 y25 y26 y27 y28 y29 y30 y31 y32 : Value) : (Nat → Bool) → Act → World → Prop := fun L a W => ∃ x33 x34 x35 x36 x37 x38 x39 x40 x41 x42 x43 x44 x45, a = ⟨#[y0, y1, y2, y3, y4, y5, y6, y7, y8, y9, y10, y11, y12, y13, y14, y15, y16, y17, y18, y19, y20, y21, y22, y23, y24, y25, y26, y27, y28, y29, y30, y31, y32, x33, x34, x35, x36, x37, x38, x39, x40, x41, x42, x43, x44, x45], []⟩ ∧ OF8 W1 w T key ao c id tag H m CV io ic L x33 x34 x35 x36 x37 x38 x39 x40 x41 x42 x43 x44 x45 W
/-- What of tells: bytes with three marks behind them, caveats with two of nothing. -/
def OfP (t : Tk) (w : World) (e : Ending) (w' : World) : Prop := ∃ G c H, e = .returned (.agg (tkC t.key (some ⟨G, 0, none⟩) t.id.length c (some ⟨H, 0, none⟩) t.cs.length (t.cs.length + 2) t.tag).toArray) ∧ Own (w.heap.size + 2) w' (.slice (some ⟨G, 0, none⟩) (t.id.length + 3) c) (t.id ++ mk3) ∧ Row w' H 52 (t.cs.flatMap cvC ++ (zCv ++ zCv)) ∧ w.heap.size ≤ H ∧ Below w.heap.size w w'
/-- What of begins with. -/
structure OW (w : World) (T : List Value) (W : World) : Prop where
  bel : Below w.heap.size w W
  box : Row W w.heap.size 28 T
  res : Row W (w.heap.size + 1) 40 zTk
theorem OW.keep {w W W2 : World} {T : List Value} (h : OW w T W) (hb : Below W.heap.size W W2) : OW w T W2 := ⟨h.bel.trans (hb.mono h.bel.size), h.box.below hb h.box.lt, h.res.below hb h.res.lt⟩
set_option maxHeartbeats 2000000 in
theorem o4 (c0 c5 c6 c7 c8 c9 c10 c11 c12 c13 c14 c15 c16 c17 c18 c19 c20 c21 c22 c23 c24 c25 c26 c27 c28 c29 c30 c31 c32 c33 c34 c35 c36 c37 c38 c39 c40 c41 c42 c43 c44 c45 : Value) (w Wa : World) (t : Tk) (io : Option Addr) (ic : Nat) (lo : Option Addr) (lc : Nat) (ao : Option Addr) (c H : Nat) (htag : t.tag.length = 32) (hbig : t.id.length ≤ 140737488351232) (hO : OW w (tkCells t io ic lo lc) Wa) (ho : Own (w.heap.size + 2) Wa (.slice ao t.id.length c) t.id) (hH : w.heap.size + 2 ≤ H) (hC : Row Wa H 52 (t.cs.flatMap cvC ++ (zCv ++ zCv))) : Code.wp Tryz.prog (dropS 4 (Tryz.f14.body.getD .skip)) (bodyPost Tryz.prog Tryz.f14 (OfP t w)) ⟨#[c0, .pointer (some ⟨w.heap.size, 0, none⟩), .pointer (some ⟨w.heap.size + 1, 0, none⟩), .slice ao t.id.length c, .slice (some ⟨H, 0, none⟩) t.cs.length (t.cs.length + 2), c5, c6, c7, c8, c9, c10, c11, c12, c13, c14, c15, c16, c17, c18, c19, c20, c21, c22, c23, c24, c25, c26, c27, c28, c29, c30, c31, c32, c33, c34, c35, c36, c37, c38, c39, c40, c41, c42, c43, c44, c45], []⟩ Wa := by
  obtain ⟨T, hT⟩ : ∃ T, T = tkCells t io ic lo lc := ⟨_, rfl⟩
  rw [← hT] at hO
  obtain ⟨CV, hCV⟩ : ∃ CV, CV = t.cs.flatMap cvC ++ (zCv ++ zCv) := ⟨_, rfl⟩
  rw [← hCV] at hC
  have HCV : Hid (CV = t.cs.flatMap cvC ++ (zCv ++ zCv)) := hCV
  have Z8 : Hid (∀ x36 x37 x41 x45, O8 w T t.key ao c t.id t.tag H t.cs.length CV false false false false false x36 x37 x41 x45 Wa.drew) := fun x36 x37 x41 x45 => O8.drew ⟨fun h => (by cases h), fun h => (by cases h), fun h => (by cases h), fun h => (by cases h), hO.bel, hO.box, hC, by have := hO.res.lt; omega, fun _ => ⟨ho, hO.res⟩, fun h => (by cases h), fun h => (by cases h)⟩
  have G0 : Hid (T[0]? = some (.int .i64 t.key)) := by rw [hT]; rfl
  have G1 : Hid (T[1]? = some (.slice io t.id.length ic)) := by rw [hT]; rfl
  have GT : Hid ((T.drop 3).take 32 = t.tag.map B8) := by rw [hT]; exact tkC_tagpart _ _ _ _ _ _ _ _ htag
  have LT : Hid ((t.tag.map B8).length = 32) := by show _ = _; rw [List.length_map, htag]
  have HBIG : Hid (t.id.length ≤ 140737488351232) := hbig
  have HH : Hid (w.heap.size + 2 ≤ H) := hH
  have HT32 : Hid (t.tag.length = 32) := htag
  clear hO hC ho hT hCV hbig hH htag
  obtain ⟨key, id, cs, tag⟩ := t
  dsimp only at *
  have HPO : Hid (∀ G c' w', Own (w.heap.size + 2) w' (.slice (some ⟨G, 0, none⟩) (id.length + 3) c') (id ++ mk3) → Row w' H 52 CV → Below w.heap.size w w' → OfP ⟨key, id, cs, tag⟩ w (.returned (.agg (tkC key (some ⟨G, 0, none⟩) id.length c' (some ⟨H, 0, none⟩) cs.length (cs.length + 2) tag).toArray)) w') := fun G c' w' h1 h2 h3 => ⟨G, c', H, rfl, h1, by rw [HCV.out] at h2; exact h2, by have := HH.out; omega, h3⟩
  generalize hm : cs.length = m at *
  conv => arg 2; whnf
  go_upto_region 8 with fail
  refine wp_region_inv (IOF8 Wa w T key ao c id tag H m CV io ic _ _ _ _ _ _ _ _ _ _ _ _ _ _ _ _ _ _ _ _ _ _ _ _ _ _ _ _ _ _ _ _ _) (by kernel_rfl) (by kernel_rfl) ⟨_, _, _, _, _, _, _, _, _, _, _, _, _, rfl, ⟨Z8.out _ _ _ _, fun k => (by cases k), fun k => (by cases k), fun k => (by cases k), fun k => (by cases k), fun k => (by cases k), fun k => (by cases k), fun k => (by cases k), fun k => (by cases k), fun k => (by cases k)⟩⟩ ?_ ?_
  · refine .cons ?_ (.cons ?_ (.cons ?_ (.cons ?_ (.cons ?_ (.cons ?_ (.cons ?_ (.cons ?_ (.cons ?_ (.cons ?_ (.cons ?_ (.cons ?_ (.cons ?_ (.cons ?_ .nil)))))))))))))
    all_goals (rintro L _ W ⟨x33, x34, x35, x36, x37, x38, x39, x40, x41, x42, x43, x44, x45, rfl, hI⟩ hL hd K hK)
    · rw [if_pos (by rfl)]
      go_simp
      exact hK.out _ _ ⟨_, _, _, _, _, _, _, _, _, _, _, _, _, rfl, { hI with p0 := fun _ => rfl }⟩
    · obtain rfl := hI.p0 (hd 0 (by decide))
      rw [if_pos (by rfl)]
      have hc := hI.x.box.cell 0 _ G0.out
      go_simp
      exact hK.out _ _ ⟨_, _, _, _, _, _, _, _, _, _, _, _, _, rfl, { hI with p1 := fun _ => rfl }⟩
    · rw [if_pos (by rfl)]
      go_simp
      exact hK.out _ _ ⟨_, _, _, _, _, _, _, _, _, _, _, _, _, rfl, { hI with p2 := fun _ => rfl }⟩
    · rw [if_pos (by rfl)]
      have hX := hI.x.s3 hL
      go_simp
      exact hK.out _ _ ⟨_, _, _, _, _, _, _, _, _, _, _, _, _, rfl, { hI with x := hX }⟩
    · obtain rfl := hI.p2 (hd 2 (by decide))
      have h3 := hd 3 (by decide)
      obtain ⟨M1, e1, r1⟩ := hI.x.p3 h3 hL
      have ow := (hI.x.own hL).1
      refine step_append_gen el_bytes (by rfl) (.tmp 35) (.tmp 36) rfl (w.heap.size + 2) W ao id.length c (id.map B8) rfl ow.1 hI.x.sz (Below.refl _ _) M1 0 3 3 (mk3.map B8) e1 rfl (fun j u hu => (by rw [Nat.zero_add]; exact r1.cell j u hu)) (B8_one _) (by have := HBIG.out; unfold maxLen; omega) (by have := HBIG.out; omega) ?_
      intro ao7 c7 W2 g1 g2 g3 g4
      obtain ⟨G7, rfl⟩ : ∃ G7, ao7 = some ⟨G7, 0, none⟩ := (by rcases g1.2 with ⟨_, e0⟩ | ⟨g, cc, cur, e, _⟩; exact absurd e0 (by omega); injection e with e1 _ _; exact ⟨g, e1⟩)
      have hX := hI.x.s4 h3 hL g1 g3 g2 g4
      exact hK.out _ _ ⟨_, _, _, _, _, _, _, _, _, _, _, _, _, rfl, { hI with x := hX }⟩
    · rw [if_pos (by rfl)]
      go_simp
      exact hK.out _ _ ⟨_, _, _, _, _, _, _, _, _, _, _, _, _, rfl, { hI with p5 := fun _ => rfl }⟩
    · obtain rfl := hI.p5 (hd 5 (by decide))
      rw [if_pos (by rfl)]
      have hc := hI.x.box.cell 1 _ G1.out
      go_simp
      exact hK.out _ _ ⟨_, _, _, _, _, _, _, _, _, _, _, _, _, rfl, { hI with p6 := fun _ => rfl }⟩
    · obtain rfl := hI.p6 (hd 6 (by decide))
      rw [if_pos (by rfl)]
      go_simp
      exact hK.out _ _ ⟨_, _, _, _, _, _, _, _, _, _, _, _, _, rfl, { hI with p7 := fun _ => rfl }⟩
    · obtain rfl := hI.p7 (hd 7 (by decide))
      rw [if_pos (by rfl)]
      obtain ⟨G7, c7, e7, ho7, _, _, _⟩ := hI.x.p4 (hd 4 (by decide))
      have hX := hI.x.s8 (hd 4 (by decide)) hL e7
      have hcap := own_cap ho7
      have g1 : (0 : Int) ≤ (id.length : Int) := by omega
      have g2 : (id.length : Int) ≤ (c7 : Int) := by have : id.length + 3 ≤ c7 := hcap; omega
      clear ho7 hcap
      subst e7
      go_simp
      exact hK.out _ _ ⟨_, _, _, _, _, _, _, _, _, _, _, _, _, rfl, { hI with x := hX }⟩
    · rw [if_pos (by rfl)]
      go_simp
      exact hK.out _ _ ⟨_, _, _, _, _, _, _, _, _, _, _, _, _, rfl, { hI with p9 := fun _ => rfl }⟩
    · rw [if_pos (by rfl)]
      go_simp
      exact hK.out _ _ ⟨_, _, _, _, _, _, _, _, _, _, _, _, _, rfl, { hI with p10 := fun _ => rfl }⟩
    · obtain rfl := hI.p10 (hd 10 (by decide))
      refine step_load_part (by rfl) 26 _ rfl w.heap.size 3 28 32 T hI.x.box rfl _ (tag.map B8) GT.out LT.out Tryz.underlying26 rfl (by kernel_rfl) ?_
      exact hK.out _ _ ⟨_, _, _, _, _, _, _, _, _, _, _, _, _, rfl, { hI with p11 := fun _ => rfl }⟩
    · obtain rfl := hI.p1 (hd 1 (by decide))
      obtain rfl := hI.p9 (hd 9 (by decide))
      obtain rfl := hI.p11 (hd 11 (by decide))
      have h8 := hd 8 (by decide)
      obtain ⟨G7, c7, e7, _, e8, _, _⟩ := hI.x.p4 (hI.x.c8 h8)
      have hX := hI.x.s12 h8 hL e7
      have e9 := e8 h8
      subst e9
      refine step_build4 (by rfl) 40 0 1 2 3 (.tmp 34) (.tmp 41) (.tmp 42) (.tmp 44) rfl (.int .i64 key) (.slice (some ⟨G7, 0, none⟩) id.length c7) (.slice (some ⟨H, 0, none⟩) m (m + 2)) (.agg (tag.map B8).toArray) _ rfl rfl rfl rfl (build_tk4 key (some ⟨G7, 0, none⟩) id.length c7 (some ⟨H, 0, none⟩) m (m + 2) W tag HT32.out) ?_
      exact hK.out _ _ ⟨_, _, _, _, _, _, _, _, _, _, _, _, _, rfl, { hI with x := hX }⟩
    · have h12 := hd 12 (by decide)
      obtain ⟨G7, c7, e7, _, _, e45, r45⟩ := hI.x.p4 (hI.x.c8 (hI.x.c12 h12))
      rw [hL] at r45
      have r46 : Row W (w.heap.size + 1) 40 zTk := r45
      have e46 := e45 h12
      subst e46
      refine step_store_Row rfl 40 _ _ rfl (w.heap.size + 1) 40 zTk (tkC key (some ⟨G7, 0, none⟩) id.length c7 (some ⟨H, 0, none⟩) m (m + 2) tag) r46 (by rw [tkC_len HT32.out]; rfl) rfl rfl (by rw [tkC_len HT32.out]; kernel_rfl) (tkC_one _ _ _ _ _ _ _ _) ?_
      intro W2 hr2 hs2
      have hX := hI.x.s13 h12 e7 r46 hr2 hs2 (by have := HH.out; omega)
      exact hK.out _ _ ⟨_, _, _, _, _, _, _, _, _, _, _, _, _, rfl, { hI with x := hX }⟩
  · rintro L _ W hall ⟨x33, x34, x35, x36, x37, x38, x39, x40, x41, x42, x43, x44, x45, rfl, hI⟩
    obtain rfl := hI.p0 (hall 0 (by decide))
    obtain rfl := hI.p1 (hall 1 (by decide))
    obtain rfl := hI.p2 (hall 2 (by decide))
    obtain rfl := hI.p5 (hall 5 (by decide))
    obtain rfl := hI.p6 (hall 6 (by decide))
    obtain rfl := hI.p7 (hall 7 (by decide))
    obtain rfl := hI.p9 (hall 9 (by decide))
    obtain rfl := hI.p10 (hall 10 (by decide))
    obtain rfl := hI.p11 (hall 11 (by decide))
    have hXe := hI.x
    rw [hall 3 (by decide)] at hXe
    rw [hall 4 (by decide)] at hXe
    rw [hall 8 (by decide)] at hXe
    rw [hall 12 (by decide)] at hXe
    rw [hall 13 (by decide)] at hXe
    clear hI hall
    try dsimp only
    obtain ⟨G, c', hx37, o2, h41, h45, r2⟩ := hXe.p4 rfl
    have hcav := hXe.cav
    have hbel := hXe.bel
    have r3 : Row W (w.heap.size + 1) 40 (tkC key (some ⟨G, 0, none⟩) id.length c' (some ⟨H, 0, none⟩) m (m + 2) tag) := r2
    clear hXe r2
    go_wp2
    refine bodyPost_ret_by (results_Row Tryz.results14 _ W (w.heap.size + 1) 40 _ _ rfl r3 Tryz.underlying40 rfl (by rw [tkC_len HT32.out]; kernel_rfl)) rfl ?_
    exact HPO.out G c' W o2 hcav hbel
end Go.Proofs.YtjooabgjkjnhhaaGreatDoor
