
import Derived.Test.YtjooabgjkjnhhaaGreatDoorT24T
import Derived.Test.YtjooabgjkjnhhaaGreatDoorK12Ref2
/-! The reference's token: Issue. (Printed by tools/gent24b.py.) -/
namespace Go.Proofs.YtjooabgjkjnhhaaGreatDoor
open Go.RowKit
set_option linter.unusedVariables false
set_option linter.unusedSimpArgs false
set_option maxRecDepth 100000

/-- While the token is put together: ID appended (3), built (5), laid (6). -/
structure I7 (w : World) (key : Int) (id tg : List By) (E1 g8 : Nat) (q3 q5 q6 : Bool) (x37 x39 : Value) (W : World) : Prop where
  c5 : q5 = true → q3 = true
  c6 : q6 = true → q5 = true
  bel : Below w.heap.size w W
  sz : w.heap.size + 1 ≤ W.heap.size
  h8 : Row W g8 26 (tg.map B8)
  id0 : q3 = false → W.ownsRow (w.heap.size + 1) 5 1 (.slice (some ⟨E1, 0, none⟩) 0 0) 0 [] ∧ Row W w.heap.size 28 zTk
  p3 : q3 = true → ∃ ao c', x37 = .slice ao id.length c' ∧ W.ownsRow (w.heap.size + 1) 5 1 (.slice ao id.length c') id.length (id.map B8) ∧ (q5 = true → x39 = .agg (tkC key ao id.length c' none 0 0 tg).toArray) ∧ Row W w.heap.size 28 (if q6 then tkC key ao id.length c' none 0 0 tg else zTk)
section
variable {w : World} {key : Int} {id tg : List By} {E1 g8 : Nat} {q3 q5 q6 : Bool} {x37 x39 : Value} {W W2 : World}
theorem I7.s3 (h : I7 w key id tg E1 g8 q3 q5 q6 x37 x39 W) (e3 : q3 = false) {ao : Option Addr} {c' : Nat} (ho : W2.ownsRow (w.heap.size + 1) 5 1 (.slice ao id.length c') id.length (id.map B8)) (hb : Below (w.heap.size + 1) W W2) (hz : W.heap.size ≤ W2.heap.size) (hk : ∀ k, k < W.heap.size → (∀ g, (some ⟨E1, 0, none⟩ : Option Addr) = some ⟨g, 0, none⟩ → k ≠ g) → W2.heap[k]? = W.heap[k]?) : I7 w key id tg E1 g8 true q5 q6 (.slice ao id.length c') x39 W2 := by
  have e5 := ff24 h.c5 e3
  have e6 := ff24 h.c6 e5
  subst e5 e6
  have o := h.id0 e3
  exact ⟨fun e => (by cases e), fun e => (by cases e), h.bel.trans (hb.mono (by omega)), Nat.le_trans h.sz hz, row_still o.1 hk h.h8 (by decide), fun e => (by cases e), fun _ => ⟨ao, c', rfl, ho, fun e => (by cases e), o.2.below hb (by omega)⟩⟩
theorem I7.s5 (h : I7 w key id tg E1 g8 q3 q5 q6 x37 x39 W) (e3 : q3 = true) (e5 : q5 = false) {ao : Option Addr} {c' : Nat} (u : x37 = .slice ao id.length c') : I7 w key id tg E1 g8 q3 true q6 x37 (.agg (tkC key ao id.length c' none 0 0 tg).toArray) W := by
  have e6 := ff24 h.c6 e5
  subst e6
  obtain ⟨ao2, c2, u2, o2, _, r2⟩ := h.p3 e3
  rw [u] at u2
  injection u2 with a1 _ a3
  subst a1; subst a3
  exact ⟨fun _ => e3, fun e => (by cases e), h.bel, h.sz, h.h8, h.id0, fun _ => ⟨_, _, u, o2, fun _ => rfl, r2⟩⟩
theorem I7.s6 (h : I7 w key id tg E1 g8 q3 q5 q6 x37 x39 W) (e5 : q5 = true) {ao : Option Addr} {c' : Nat} (u : x37 = .slice ao id.length c') (hr0 : Row W w.heap.size 28 zTk) (hr : Row W2 w.heap.size 28 (tkC key ao id.length c' none 0 0 tg)) (hs : SameBut w.heap.size W W2) (hg : g8 ≠ w.heap.size) : I7 w key id tg E1 g8 q3 q5 true x37 x39 W2 := by
  have e3 := h.c5 e5
  obtain ⟨ao2, c2, u2, o2, u5, _⟩ := h.p3 e3
  rw [u] at u2
  injection u2 with a1 _ a3
  subst a1; subst a3
  exact ⟨h.c5, fun _ => e5, hs.below h.bel (Nat.le_refl _), by rw [hs.size]; exact h.sz, h.h8.but hs hg, fun e => (by rw [e3] at e; cases e), fun _ => ⟨_, _, u, owB_but o2 hs hr0 (by decide), u5, hr⟩⟩
end
def IssP (l : Secs) (key : Int) (id : List By) (w : World) (e : Ending) (w' : World) : Prop :=
  Below w.heap.size w w' ∧ if (fnd l key).isSome = false then e = .returned (.tuple #[.agg zTk.toArray, .int .i64 13]) else if id.length < 1 ∨ 64 < id.length then e = .returned (.tuple #[.agg zTk.toArray, .int .i64 4]) else ∃ io ic, e = .returned (.tuple #[.agg (tkCells ⟨key, id, [], sgn l key (firstB id)⟩ io ic none 0).toArray, .int .i64 0]) ∧ TkO 50 w.heap.size w' ⟨key, id, [], sgn l key (firstB id)⟩ io ic none 0
def zH24 : List Value := (List.replicate 32 (0 : By)).map B8
structure IS7 (W1 : World) (w : World) (key : Int) (id tg : List By) (E1 g8 : Nat) (io : Option Addr) (ic : Nat) (L : Nat → Bool) (x34 x35 x36 x37 x38 x39 x7 : Value) (W : World) : Prop where
  x : I7 w key id tg E1 g8 (L 3) (L 5) (L 6) x37 x39 W
  p0 : L 0 = true → x34 = .int .i64 key
  p1 : L 1 = true → x35 = .slice (some ⟨E1, 0, none⟩) 0 0
  p2 : L 2 = true → x36 = .slice io id.length ic
  p4 : L 4 = true → x38 = .agg (tg.map B8).toArray
  p7 : L 7 = true → x7 = .int .i64 0
section
variable {W1 : World} {w : World} {key : Int} {id tg : List By} {E1 g8 : Nat} {io : Option Addr} {ic : Nat} {L : Nat → Bool} {x34 x35 x36 x37 x38 x39 x7 : Value} {W W2 : World}
theorem IS7.s0 (h : IS7 W1 w key id tg E1 g8 io ic L x34 x35 x36 x37 x38 x39 x7 W) : IS7 W1 w key id tg E1 g8 io ic (upd L 0) (.int .i64 key) x35 x36 x37 x38 x39 x7 W :=
  ⟨h.x, fun _ => rfl, h.p1, h.p2, h.p4, h.p7⟩
theorem IS7.s1 (h : IS7 W1 w key id tg E1 g8 io ic L x34 x35 x36 x37 x38 x39 x7 W) : IS7 W1 w key id tg E1 g8 io ic (upd L 1) x34 (.slice (some ⟨E1, 0, none⟩) 0 0) x36 x37 x38 x39 x7 W :=
  ⟨h.x, h.p0, fun _ => rfl, h.p2, h.p4, h.p7⟩
theorem IS7.s3 (h : IS7 W1 w key id tg E1 g8 io ic L x34 x35 x36 x37 x38 x39 x7 W) {v : Value} (hX : I7 w key id tg E1 g8 ((upd L 3) 3) ((upd L 3) 5) ((upd L 3) 6) v x39 W2) : IS7 W1 w key id tg E1 g8 io ic (upd L 3) x34 x35 x36 v x38 x39 x7 W2 :=
  ⟨hX, h.p0, h.p1, h.p2, h.p4, h.p7⟩
theorem IS7.s5 (h : IS7 W1 w key id tg E1 g8 io ic L x34 x35 x36 x37 x38 x39 x7 W) {v : Value} (hX : I7 w key id tg E1 g8 ((upd L 5) 3) ((upd L 5) 5) ((upd L 5) 6) x37 v W2) : IS7 W1 w key id tg E1 g8 io ic (upd L 5) x34 x35 x36 x37 x38 v x7 W2 :=
  ⟨hX, h.p0, h.p1, h.p2, h.p4, h.p7⟩
theorem IS7.s6 (h : IS7 W1 w key id tg E1 g8 io ic L x34 x35 x36 x37 x38 x39 x7 W) (hX : I7 w key id tg E1 g8 ((upd L 6) 3) ((upd L 6) 5) ((upd L 6) 6) x37 x39 W2) : IS7 W1 w key id tg E1 g8 io ic (upd L 6) x34 x35 x36 x37 x38 x39 x7 W2 :=
  ⟨hX, h.p0, h.p1, h.p2, h.p4, h.p7⟩
end
@[reducible] def IIS7 (W1 : World) (w : World) (key : Int) (id tg : List By) (E1 g8 : Nat) (io : Option Addr) (ic : Nat) (y0 y1 y2 y3 y4 y5 y6 y8 y9 y10 y11 y12 y13 y14 y15 y16 y17 y18 y19 y20 y21 y22 y23 y24 y25 y26 y27 y28 y29 y30 y31 y32 y33 : Value) : (Nat → Bool) → Act → World → Prop := fun L a W => ∃ x34 x35 x36 x37 x38 x39 x7, a = ⟨#[y0, y1, y2, y3, y4, y5, y6, x7, y8, y9, y10, y11, y12, y13, y14, y15, y16, y17, y18, y19, y20, y21, y22, y23, y24, y25, y26, y27, y28, y29, y30, y31, y32, y33, x34, x35, x36, x37, x38, x39], []⟩ ∧ IS7 W1 w key id tg E1 g8 io ic L x34 x35 x36 x37 x38 x39 x7 W
set_option maxHeartbeats 4000000 in
theorem r24Issue_any (w : World) (g : Nat) (ro : Option Addr) (rc : Nat) (vs : List Value) (l : Secs) (h : RgAt w g ro rc vs l) (hl : l.length ≤ 64) (hb256 : ∀ i, i < l.length → (l.getD i (0, [])).2.length ≤ 256) (key : Int) (io : Option Addr) (ic : Nat) (id : List By) (hb : IsB w io id) (hnil : io = none → ic = 0) (hbig : id.length ≤ 140737488351232) :
    Calls Tryz.prog 11 #[.pointer (some ⟨g, 0, none⟩), .int .i64 key, .slice io id.length ic] w (IssP l key id w) := by
  obtain ⟨W1, hW1⟩ : ∃ W1, W1 = w.alloc (.cells zTk.toArray 28) := ⟨_, rfl⟩
  have r0 : Row W1 w.heap.size 28 zTk := by rw [hW1]; exact Row.at w _ _ _ _ rfl rfl
  have b1 : Below w.heap.size w W1 := by rw [hW1]; exact (Below.refl _ _).alloc (Nat.le_refl _) _
  have s1 : W1.heap.size = w.heap.size + 1 := by rw [hW1]; simp
  have FH := rhas_any W1 g ro rc vs l (h.keep b1) hl key
  have HB1 : Hid (Below w.heap.size w W1) := b1
  by_cases hf : (fnd l key).isSome = false
  · rw [hf] at FH
    have HF : Hid ((fnd l key).isSome = false) := hf
    clear h hb256 hb hf hl
    generalize hn : id.length = n at *
    go_enter Tryz.func11, Tryz.ntmps11
    go_wp2_with (first
      | (have hz := hW1; clear hz; refine wpList_at24 hW1 ?_; clear hW1)
      | (go_at_call 27; refine FH.mono ?_; clear FH; rintro e w4 ⟨rfl, rfl⟩)
      | (have hz := r0; clear hz; refine wpList_store_Row rfl 28 _ _ rfl w.heap.size 28 0 zTk zTk r0 (Nat.le_refl _) rfl rfl (by kernel_rfl) (tkC_one _ _ _ _ _ _ _ _) ?_; intro w2 hr2 hs2; clear r0))
    have q2 := row_whole hr2 (by simp)
    refine bodyPost_ret_by (results_rowtmp Tryz.results11 _ w2 w.heap.size 28 _ _ rfl q2 Tryz.underlying28 rfl (by kernel_rfl)) rfl ?_
    exact ⟨hs2.below HB1.out (Nat.le_refl _), by rw [if_pos HF.out]; rfl⟩
  · have hf1 : (fnd l key).isSome = true := by
      cases h9 : (fnd l key).isSome
      · exact absurd h9 hf
      · rfl
    rw [hf1] at FH
    have HF : Hid (¬ (fnd l key).isSome = false) := hf
    by_cases hid : id.length < 1 ∨ 64 < id.length
    · have HI : Hid (id.length < 1 ∨ 64 < id.length) := hid
      clear h hb256 hb hf hl hf1
      generalize hn : id.length = n at *
      rcases hid with h1 | h1
      · have y1 : (n : Int) < 1 := by omega
        have y2 : decide (n < 1) = true := decide_eq_true h1
        go_enter Tryz.func11, Tryz.ntmps11
        go_wp2_with (first
          | (have hz := hW1; clear hz; refine wpList_at24 hW1 ?_; clear hW1)
          | (go_at_call 27; refine FH.mono ?_; clear FH; rintro e w4 ⟨rfl, rfl⟩)
          | (have hz := r0; clear hz; refine wpList_store_Row rfl 28 _ _ rfl w.heap.size 28 0 zTk zTk r0 (Nat.le_refl _) rfl rfl (by kernel_rfl) (tkC_one _ _ _ _ _ _ _ _) ?_; intro w2 hr2 hs2; clear r0))
        have q2 := row_whole hr2 (by simp)
        refine bodyPost_ret_by (results_rowtmp Tryz.results11 _ w2 w.heap.size 28 _ _ rfl q2 Tryz.underlying28 rfl (by kernel_rfl)) rfl ?_
        exact ⟨hs2.below HB1.out (Nat.le_refl _), by rw [if_neg HF.out, hn, if_pos HI.out]; rfl⟩
      · have y1 : ¬ (n : Int) < 1 := by omega
        have y2 : decide (n < 1) = false := decide_eq_false (by omega)
        have y3 : (64 : Int) < (n : Int) := by omega
        have y4 : decide (64 < n) = true := decide_eq_true h1
        go_enter Tryz.func11, Tryz.ntmps11
        go_wp2_with (first
          | (have hz := hW1; clear hz; refine wpList_at24 hW1 ?_; clear hW1)
          | (go_at_call 27; refine FH.mono ?_; clear FH; rintro e w4 ⟨rfl, rfl⟩)
          | (have hz := r0; clear hz; refine wpList_store_Row rfl 28 _ _ rfl w.heap.size 28 0 zTk zTk r0 (Nat.le_refl _) rfl rfl (by kernel_rfl) (tkC_one _ _ _ _ _ _ _ _) ?_; intro w2 hr2 hs2; clear r0))
        have q2 := row_whole hr2 (by simp)
        refine bodyPost_ret_by (results_rowtmp Tryz.results11 _ w2 w.heap.size 28 _ _ rfl q2 Tryz.underlying28 rfl (by kernel_rfl)) rfl ?_
        exact ⟨hs2.below HB1.out (Nat.le_refl _), by rw [if_neg HF.out, hn, if_pos HI.out]; rfl⟩
    · have HI : Hid (¬ (id.length < 1 ∨ 64 < id.length)) := hid
      have FF : Hid (∀ W, Below w.heap.size w W → Calls Tryz.prog 34 #[.slice io id.length ic] W fun e w' => ∃ ao c', e = .returned (.slice ao (18 + id.length) c') ∧ Own W.heap.size w' (.slice ao (18 + id.length) c') (firstB id) ∧ Below W.heap.size W w') := fun W hW => r24first_any io ic id W (hb.below hW (Nat.le_refl _)) hnil (by omega)
      have FSG : Hid (∀ W ao c', Below w.heap.size w W → Own W1.heap.size W (.slice ao (18 + id.length) c') (firstB id) → Calls Tryz.prog 33 #[.pointer (some ⟨g, 0, none⟩), .int .i64 key, .slice ao (18 + id.length) c'] W fun e w' => e = .returned (.tuple #[.agg ((sgn l key (firstB id)).map B8).toArray, .int .i64 (sgnE l key)]) ∧ Below W.heap.size W w') := fun W ao c' hW ho => rsign_any W g ro rc vs l (h.keep hW) hl hb256 key ao (18 + id.length) c' (firstB id) ho.len (own_IsB ho) (own_nilcap ho) (by omega)
      have R0 : Hid (∀ W, Below W1.heap.size W1 W → Row W w.heap.size 28 zTk ∧ Below w.heap.size w W) := fun W hW => ⟨r0.below hW r0.lt, b1.trans (hW.mono b1.size)⟩
      have TG32 : Hid ((sgn l key (firstB id)).length = 32) := sgn_len l key (firstB id)
      have HIB : Hid (∀ W, Below w.heap.size w W → IsB W io id) := fun W hW => hb.below hW (Nat.le_refl _)
      have HNIL : Hid (io = none → ic = 0) := hnil
      have HID : Hid (id.length ≤ 64) := by show _ ≤ _; omega
      have S1 : Hid (W1.heap.size = w.heap.size + 1) := s1
      have HIT : Hid (∀ W, Below w.heap.size w W → ∀ io2 ic2, W.ownsRow (w.heap.size + 1) 5 1 (.slice io2 id.length ic2) id.length (id.map B8) → IssP l key id w (.returned (.tuple #[.agg (tkC key io2 id.length ic2 none 0 0 (sgn l key (firstB id))).toArray, .int .i64 0])) W) := fun W hW io2 ic2 ho => ⟨hW, by rw [if_neg HF.out, if_neg HI.out]; exact ⟨io2, ic2, rfl, ⟨owB_low ho (by omega), hW.size⟩, World.ownsRow_nil _ _ _ _, sgn_len l key (firstB id), fun c hc => (by cases hc), by show id.length ≤ _; omega⟩⟩
      have y1 : ¬ (id.length : Int) < 1 := by omega
      have y2 : decide (id.length < 1) = false := decide_eq_false (by omega)
      have y3 : ¬ (64 : Int) < (id.length : Int) := by omega
      have y4 : decide (64 < id.length) = false := decide_eq_false (by omega)
      clear h hb256 hb hf hl hf1 hid r0 b1 hnil hbig s1
      generalize sgn l key (firstB id) = tg at *
      go_enter Tryz.func11, Tryz.ntmps11
      go_upto_region 7 with (first
        | (have hz := hW1; clear hz; refine wpList_at24 hW1 ?_; clear hW1)
        | (go_at_call 27; refine FH.mono ?_; clear FH; rintro e w4 ⟨rfl, hw4⟩; rw [hw4]; clear hw4 w4; have F1 := FF.out _ HB1.out)
        | (go_at_call 34; refine F1.mono ?_; clear F1; rintro e w5 ⟨ao5, c5, rfl, ho5, hb5⟩; have F2 := FSG.out w5 ao5 c5 (R0.out w5 hb5).2 ho5; have HB5 : Hid (Below W1.heap.size W1 w5) := hb5; clear ho5 hb5)
        | (go_at_call 33; refine F2.mono ?_; clear F2; rintro e w6 ⟨rfl, hb6⟩; have HB6 : Hid (Below W1.heap.size W1 w6) := HB5.out.trans (hb6.mono HB5.out.size); have HZ6 : Hid (Row (w6.alloc (.cells zH24.toArray 26)) w6.heap.size 26 zH24) := Row.at w6 _ _ _ _ rfl rfl; clear hb6)
        | (have hz := HZ6; clear hz; refine wpList_store_Row rfl 26 _ _ rfl w6.heap.size 26 0 zH24 (tg.map B8) HZ6.out (by rw [List.length_map, TG32.out]; exact Nat.le_refl _) rfl rfl (by rw [List.length_map, TG32.out]; kernel_rfl) (B8_one _) ?_; intro w7 hr7 hs7; have HB7 : Hid (Below W1.heap.size W1 w7 ∧ Row w7 w6.heap.size 26 (tg.map B8) ∧ w6.heap.size < w7.heap.size ∧ W1.heap.size ≤ w6.heap.size) := ⟨hs7.below (HB6.out.alloc HB6.out.size _) HB6.out.size, row_whole hr7 (by rw [List.length_map, TG32.out]; exact Nat.le_refl _), (by rw [hs7.size]; simp), HB6.out.size⟩; clear hr7 hs7 HZ6))
      obtain ⟨w8, hw8⟩ : ∃ w8, w8 = w7.alloc (.cells #[] 5) := ⟨_, rfl⟩
      have HS8 : Hid (∀ a b, I7 w key id tg w7.heap.size w6.heap.size false false false a b w8.drew) := fun a b => by
        have hz := HB7.out
        have hs := S1.out
        have hb : Below w7.heap.size w7 w8 := by rw [hw8]; exact (Below.refl _ _).alloc (Nat.le_refl _) _
        have hb1 : Below W1.heap.size W1 w8 := hz.1.trans (hb.mono (by omega))
        have e1 := (own_empty (w.heap.size + 1) w7 (by omega) #[] rfl).1
        rw [← hw8] at e1
        exact ⟨fun h => (by cases h), fun h => (by cases h), (R0.out _ hb1).2.drew, by have := hb.size; show _ ≤ w8.heap.size; omega, (hz.2.1.below hb hz.2.1.lt).drew, fun _ => ⟨e1, (R0.out _ hb1).1⟩, fun h => (by cases h)⟩
      have HG8 : Hid (w6.heap.size ≠ w.heap.size) := by have := HB7.out; have := S1.out; show _ ≠ _; omega
      refine wp_at24 hw8 ?_
      clear hw8 HB7 HB6 HB5
      generalize w7.heap.size = E1 at *
      generalize w6.heap.size = g8 at *
      refine wp_region_inv (IIS7 w8 w key id tg E1 g8 io ic _ _ _ _ _ _ _ _ _ _ _ _ _ _ _ _ _ _ _ _ _ _ _ _ _ _ _ _ _ _ _ _ _) (by kernel_rfl) (by kernel_rfl) ⟨_, _, _, _, _, _, _, rfl, ⟨HS8.out _ _, fun k => (by cases k), fun k => (by cases k), fun k => (by cases k), fun k => (by cases k), fun k => (by cases k)⟩⟩ ?_ ?_
      · refine .cons ?_ (.cons ?_ (.cons ?_ (.cons ?_ (.cons ?_ (.cons ?_ (.cons ?_ (.cons ?_ .nil)))))))
        all_goals (rintro L _ W ⟨x34, x35, x36, x37, x38, x39, x7, rfl, hI⟩ hL hd K hK)
        · rw [if_pos (by rfl)]
          go_simp
          exact hK.out _ _ ⟨_, _, _, _, _, _, _, rfl, { hI with p0 := fun _ => rfl }⟩
        · rw [if_pos (by rfl)]
          go_simp
          exact hK.out _ _ ⟨_, _, _, _, _, _, _, rfl, { hI with p1 := fun _ => rfl }⟩
        · rw [if_pos (by rfl)]
          go_simp
          exact hK.out _ _ ⟨_, _, _, _, _, _, _, rfl, { hI with p2 := fun _ => rfl }⟩
        · obtain rfl := hI.p1 (hd 1 (by decide))
          obtain rfl := hI.p2 (hd 2 (by decide))
          have hIL := isB_isL (HIB.out W hI.x.bel)
          refine step_append_any el_bytes (by rfl) (.tmp 35) (.tmp 36) rfl (w.heap.size + 1) (some ⟨E1, 0, none⟩) 0 0 [] rfl (hI.x.id0 hL).1 hI.x.sz io id.length ic (id.map B8) rfl (by rw [List.length_map, Nat.mul_one]) hIL (B8_one _) HNIL.out (by have := HID.out; unfold maxLen; omega) (by have := HID.out; omega) ?_
          intro ao7 c7 W2 g1 g2 g3 g4
          rw [Nat.zero_add] at g1
          rw [Nat.zero_add]
          rw [List.nil_append] at g1
          have hX := hI.x.s3 hL g1 g2 g3 g4
          exact hK.out _ _ ⟨_, _, _, _, _, _, _, rfl, { hI with x := hX }⟩
        · refine step_load_part (by rfl) 26 _ rfl g8 0 26 32 (tg.map B8) hI.x.h8 rfl _ (tg.map B8) (by rw [List.drop_zero, List.take_of_length_le (by rw [List.length_map, TG32.out]; exact Nat.le_refl _)]) (by rw [List.length_map, TG32.out]) Tryz.underlying26 rfl (by kernel_rfl) ?_
          exact hK.out _ _ ⟨_, _, _, _, _, _, _, rfl, { hI with p4 := fun _ => rfl }⟩
        · obtain rfl := hI.p0 (hd 0 (by decide))
          obtain rfl := hI.p4 (hd 4 (by decide))
          have h3 := hd 3 (by decide)
          obtain ⟨io2, ic2, u37, _, _, _⟩ := hI.x.p3 h3
          have hX := hI.x.s5 h3 hL u37
          refine step_build3 (by rfl) 28 0 1 3 (.tmp 34) (.tmp 37) (.tmp 38) rfl (.int .i64 key) (.slice io2 id.length ic2) (.agg (tg.map B8).toArray) _ rfl u37 rfl (build_tk3 key io2 id.length ic2 W tg TG32.out) ?_
          exact hK.out _ _ ⟨_, _, _, _, _, _, _, rfl, { hI with x := hX }⟩
        · have h5 := hd 5 (by decide)
          obtain ⟨io2, ic2, u37, _, u39, r37⟩ := hI.x.p3 (hI.x.c5 h5)
          rw [hL] at r37
          have r38 : Row W w.heap.size 28 zTk := r37
          refine step_store_Row rfl 28 (.tmp 6) (.tmp 39) rfl w.heap.size 28 zTk (tkC key io2 id.length ic2 none 0 0 tg) r38 (by rw [tkC_len TG32.out]; rfl) rfl (u39 h5) (by rw [tkC_len TG32.out]; kernel_rfl) (tkC_one _ _ _ _ _ _ _ _) ?_
          intro W2 hr2 hs2
          have hX := hI.x.s6 h5 u37 r38 hr2 hs2 HG8.out
          exact hK.out _ _ ⟨_, _, _, _, _, _, _, rfl, { hI with x := hX }⟩
        · rw [if_pos (by rfl)]
          go_simp
          exact hK.out _ _ ⟨_, _, _, _, _, _, _, rfl, { hI with p7 := fun _ => rfl }⟩
      · rintro L _ W hall ⟨x34, x35, x36, x37, x38, x39, x7, rfl, hI⟩
        obtain rfl := hI.p0 (hall 0 (by decide))
        obtain rfl := hI.p1 (hall 1 (by decide))
        obtain rfl := hI.p2 (hall 2 (by decide))
        obtain rfl := hI.p4 (hall 4 (by decide))
        obtain rfl := hI.p7 (hall 7 (by decide))
        have hXe := hI.x
        rw [hall 3 (by decide)] at hXe
        rw [hall 5 (by decide)] at hXe
        rw [hall 6 (by decide)] at hXe
        clear hI hall
        try dsimp only
        obtain ⟨io2, ic2, u37, o37, _, r37⟩ := hXe.p3 rfl
        have q2 : Row W w.heap.size 28 (tkC key io2 id.length ic2 none 0 0 tg) := r37
        have hb2 := hXe.bel
        clear hXe r37
        go_wp2
        refine bodyPost_ret_by (results_rowtmp Tryz.results11 _ W w.heap.size 28 _ _ rfl q2 Tryz.underlying28 rfl (by rw [tkC_len TG32.out]; kernel_rfl)) rfl ?_
        exact HIT.out W hb2 io2 ic2 o37
end Go.Proofs.YtjooabgjkjnhhaaGreatDoor
