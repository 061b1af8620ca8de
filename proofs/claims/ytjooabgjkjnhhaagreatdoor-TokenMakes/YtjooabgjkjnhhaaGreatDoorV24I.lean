
import Derived.Test.YtjooabgjkjnhhaaGreatDoorV24B
/-! The code's token: Issue. (Printed by tools/genv24.py.) -/
namespace Go.Proofs.YtjooabgjkjnhhaaGreatDoor
open Go.RowKit
set_option linter.unusedVariables false
set_option linter.unusedSimpArgs false
set_option maxRecDepth 100000

theorem build_tk3c (key : Int) (io : Option Addr) (n ic : Nat) (w : World) : ∀ (d : List By), d.length = 32 → (Instr.build 40 #[(0, .int .i64 key), (1, .slice io n ic), (3, .agg (d.map B8).toArray)]).run Tryz.prog w = .ok (.agg (tkC key io n ic none 0 0 d).toArray) w
  | [a0, a1, a2, a3, a4, a5, a6, a7, a8, a9, a10, a11, a12, a13, a14, a15, a16, a17, a18, a19, a20, a21, a22, a23, a24, a25, a26, a27, a28, a29, a30, a31], _ => by kernel_rfl
/-- While a token is issued. -/
structure I8 (w : World) (key : Int) (id tg : List By) (E g8 : Nat) (q2 q5 : Bool) (W : World) : Prop where
  bel : Below w.heap.size w W
  hE : w.heap.size + 1 ≤ E
  hg : w.heap.size + 1 ≤ g8
  sz : q2 = false → W.heap.size = E
  h8 : Row W g8 26 (tg.map B8)
  res : Row W w.heap.size 40 (if q5 then tkC key (some ⟨E, 0, none⟩) id.length id.length none 0 0 tg else zTk)
  own : q2 = true → Own E W (.slice (some ⟨E, 0, none⟩) id.length id.length) id
section
variable {w : World} {key : Int} {id tg : List By} {E g8 : Nat} {q2 q5 : Bool} {W W2 : World}
theorem I8.s2 (h : I8 w key id tg E g8 q2 q5 W) (ho : Own E W2 (.slice (some ⟨E, 0, none⟩) id.length id.length) id) (hb : Below W.heap.size W W2) : I8 w key id tg E g8 true q5 W2 :=
  ⟨h.bel.trans (hb.mono h.bel.size), h.hE, h.hg, fun e => (by cases e), h.h8.below hb h.h8.lt, h.res.below hb h.res.lt, fun _ => ho⟩
theorem I8.s5 (h : I8 w key id tg E g8 q2 false W) (hr : Row W2 w.heap.size 40 (tkC key (some ⟨E, 0, none⟩) id.length id.length none 0 0 tg)) (hs : SameBut w.heap.size W W2) : I8 w key id tg E g8 q2 true W2 :=
  ⟨hs.below h.bel (Nat.le_refl _), h.hE, h.hg, fun e => by rw [hs.size]; exact h.sz e, h.h8.but hs (by have := h.hg; omega), hr, fun e => own_butr (h.own e) hs h.res (by decide)⟩
end
structure IS8 (W1 : World) (w : World) (key : Int) (id tg : List By) (E g8 : Nat) (io : Option Addr) (ic : Nat) (L : Nat → Bool) (x31 x32 x33 x34 x35 x7 : Value) (W : World) : Prop where
  x : I8 w key id tg E g8 (L 2) (L 5) W
  p0 : L 0 = true → x31 = .int .i64 key
  p1 : L 1 = true → x32 = .slice io id.length ic
  p2 : L 2 = true → x33 = .slice (some ⟨E, 0, none⟩) id.length id.length
  p3 : L 3 = true → x34 = .agg (tg.map B8).toArray
  p4 : L 4 = true → x35 = .agg (tkC key (some ⟨E, 0, none⟩) id.length id.length none 0 0 tg).toArray
  p6 : L 6 = true → x7 = .int .i64 0
section
variable {W1 : World} {w : World} {key : Int} {id tg : List By} {E g8 : Nat} {io : Option Addr} {ic : Nat} {L : Nat → Bool} {x31 x32 x33 x34 x35 x7 : Value} {W W2 : World}
theorem IS8.s0 (h : IS8 W1 w key id tg E g8 io ic L x31 x32 x33 x34 x35 x7 W) : IS8 W1 w key id tg E g8 io ic (upd L 0) (.int .i64 key) x32 x33 x34 x35 x7 W :=
  ⟨h.x, fun _ => rfl, h.p1, h.p2, h.p3, h.p4, h.p6⟩
theorem IS8.s1 (h : IS8 W1 w key id tg E g8 io ic L x31 x32 x33 x34 x35 x7 W) : IS8 W1 w key id tg E g8 io ic (upd L 1) x31 (.slice io id.length ic) x33 x34 x35 x7 W :=
  ⟨h.x, h.p0, fun _ => rfl, h.p2, h.p3, h.p4, h.p6⟩
theorem IS8.s2 (h : IS8 W1 w key id tg E g8 io ic L x31 x32 x33 x34 x35 x7 W) (hX : I8 w key id tg E g8 ((upd L 2) 2) ((upd L 2) 5) W2) : IS8 W1 w key id tg E g8 io ic (upd L 2) x31 x32 (.slice (some ⟨E, 0, none⟩) id.length id.length) x34 x35 x7 W2 :=
  ⟨hX, h.p0, h.p1, fun _ => rfl, h.p3, h.p4, h.p6⟩
theorem IS8.s5 (h : IS8 W1 w key id tg E g8 io ic L x31 x32 x33 x34 x35 x7 W) (hX : I8 w key id tg E g8 ((upd L 5) 2) ((upd L 5) 5) W2) : IS8 W1 w key id tg E g8 io ic (upd L 5) x31 x32 x33 x34 x35 x7 W2 :=
  ⟨hX, h.p0, h.p1, h.p2, h.p3, h.p4, h.p6⟩
end
@[reducible] def IIS8 (W1 : World) (w : World) (key : Int) (id tg : List By) (E g8 : Nat) (io : Option Addr) (ic : Nat) (y0 y1 y2 y3 y4 y5 y6 y8 y9 y10 y11 y12 y13 y14 y15 y16 y17 y18 y19 y20 y21 y22 y23 y24 y25 y26 y27 y28 y29 y30 : Value) : (Nat → Bool) → Act → World → Prop := fun L a W => ∃ x31 x32 x33 x34 x35 x7, a = ⟨#[y0, y1, y2, y3, y4, y5, y6, x7, y8, y9, y10, y11, y12, y13, y14, y15, y16, y17, y18, y19, y20, y21, y22, y23, y24, y25, y26, y27, y28, y29, y30, x31, x32, x33, x34, x35], []⟩ ∧ IS8 W1 w key id tg E g8 io ic L x31 x32 x33 x34 x35 x7 W
set_option maxHeartbeats 2000000 in
theorem issue_any (N M : Nat) (w : World) (g b : Nat) (vs : List Value) (l : Secs) (h : KgO N M w g b vs l) (hb256 : ∀ i, i < l.length → (l.getD i (0, [])).2.length ≤ 256) (key : Int) (io : Option Addr) (ic : Nat) (id : List By) (hb : IsB w io id) (hcap : id.length ≤ ic) (hnil : io = none → ic = 0) (hbig : id.length ≤ 140737488351232) :
    Calls Tryz.prog 10 #[.pointer (some ⟨g, 0, none⟩), .int .i64 key, .slice io id.length ic] w (CIssP l key id w) := by
  obtain ⟨W1, hW1⟩ : ∃ W1, W1 = w.alloc (.cells zTk.toArray 40) := ⟨_, rfl⟩
  have r0 : Row W1 w.heap.size 40 zTk := by rw [hW1]; exact Row.at w _ _ _ _ rfl rfl
  have b1 : Below w.heap.size w W1 := by rw [hW1]; exact (Below.refl _ _).alloc (Nat.le_refl _) _
  have s1 : W1.heap.size = w.heap.size + 1 := by rw [hW1]; simp
  have FH := chas_any (h.below b1) key
  have HB1 : Hid (Below w.heap.size w W1) := b1
  have HZ0 : Hid (∀ (v : Value) (W : World), Below w.heap.size w W → TkA tk0 v w (.returned (.tuple #[.agg zTk.toArray, v])) W) := fun v W hW => ⟨none, 0, none, 0, rfl, ⟨⟨World.ownsRow_nil _ _ _ _, hW.size⟩, World.ownsRow_nil _ _ _ _, rfl, fun c hc => (by cases hc), by show 0 ≤ _; omega⟩⟩
  by_cases hf : (fnd l key).isSome = false
  · rw [hf] at FH
    have HF : Hid ((fnd l key).isSome = false) := hf
    clear h hb256 hb hf
    generalize hn : id.length = n at *
    go_enter Tryz.func10, Tryz.ntmps10
    go_wp2_with (first
      | (have hz := hW1; clear hz; refine wpList_at24 hW1 ?_; clear hW1)
      | (go_at_call 28; refine FH.mono ?_; clear FH; rintro e w4 ⟨rfl, hw4⟩; rw [hw4]; clear hw4 w4)
      | (have hz := r0; clear hz; refine wpList_store_Row rfl 40 _ _ rfl w.heap.size 40 0 zTk zTk r0 (Nat.le_refl _) rfl rfl (by kernel_rfl) (tkC_one _ _ _ _ _ _ _ _) ?_; intro w2 hr2 hs2; clear r0))
    have q2 := row_whole hr2 (by simp)
    refine bodyPost_ret_by (results_rowtmp Tryz.results10 _ w2 w.heap.size 40 _ _ rfl q2 Tryz.underlying40 rfl (by kernel_rfl)) rfl ?_
    have hb2 := hs2.below HB1.out (Nat.le_refl _)
    exact ⟨hb2, by rw [if_pos HF.out]; exact HZ0.out _ _ hb2⟩
  · have hf1 : (fnd l key).isSome = true := by
      cases h9 : (fnd l key).isSome
      · exact absurd h9 hf
      · rfl
    rw [hf1] at FH
    have HF : Hid (¬ (fnd l key).isSome = false) := hf
    have FI : Hid (∀ W, Calls Tryz.prog 29 #[.slice io id.length ic] W fun e w' => e = .returned (.bool (decide (1 ≤ id.length ∧ id.length ≤ 64))) ∧ w' = W) := fun W => mayID_any io id.length ic W
    by_cases hid : id.length < 1 ∨ 64 < id.length
    · have HI : Hid (id.length < 1 ∨ 64 < id.length) := hid
      have hd : decide (1 ≤ id.length ∧ id.length ≤ 64) = false := decide_eq_false (by omega)
      rw [hd] at FI
      clear h hb256 hb hf hf1 hd
      generalize hn : id.length = n at *
      go_enter Tryz.func10, Tryz.ntmps10
      go_wp2_with (first
        | (have hz := hW1; clear hz; refine wpList_at24 hW1 ?_; clear hW1)
        | (go_at_call 28; refine FH.mono ?_; clear FH; rintro e w4 ⟨rfl, hw4⟩; rw [hw4]; clear hw4 w4)
        | (go_at_call 29; refine (FI.out _).mono ?_; clear FI; rintro e w4 ⟨rfl, hw4⟩; rw [hw4]; clear hw4 w4)
        | (have hz := r0; clear hz; refine wpList_store_Row rfl 40 _ _ rfl w.heap.size 40 0 zTk zTk r0 (Nat.le_refl _) rfl rfl (by kernel_rfl) (tkC_one _ _ _ _ _ _ _ _) ?_; intro w2 hr2 hs2; clear r0))
      have q2 := row_whole hr2 (by simp)
      refine bodyPost_ret_by (results_rowtmp Tryz.results10 _ w2 w.heap.size 40 _ _ rfl q2 Tryz.underlying40 rfl (by kernel_rfl)) rfl ?_
      have hb2 := hs2.below HB1.out (Nat.le_refl _)
      exact ⟨hb2, by rw [if_neg HF.out, hn, if_pos HI.out]; exact HZ0.out _ _ hb2⟩
    · have HI : Hid (¬ (id.length < 1 ∨ 64 < id.length)) := hid
      have hd : decide (1 ≤ id.length ∧ id.length ≤ 64) = true := decide_eq_true (by omega)
      rw [hd] at FI
      have e0 : sgnE l key = 0 := by
        unfold sgnE
        cases h9 : fnd l key
        · rw [h9] at hf1; cases hf1
        · rfl
      have FF : Hid (∀ W, Below w.heap.size w W → Calls Tryz.prog 31 #[.slice io id.length ic] W fun e w' => ∃ ao c', e = .returned (.slice ao (18 + id.length) c') ∧ Own W.heap.size w' (.slice ao (18 + id.length) c') (firstB id) ∧ Below W.heap.size W w') := fun W hW => signed_any io ic id W (hb.below hW (Nat.le_refl _)) hnil (by omega)
      have FSG : Hid (∀ W ao c', Below w.heap.size w W → Own W1.heap.size W (.slice ao (18 + id.length) c') (firstB id) → Calls Tryz.prog 30 #[.pointer (some ⟨g, 0, none⟩), .int .i64 key, .slice ao (18 + id.length) c'] W fun e w' => e = .returned (.tuple #[.agg ((sgn l key (firstB id)).map B8).toArray, .int .i64 0]) ∧ Below W.heap.size W w') := fun W ao c' hW ho => by
        rw [← e0]; exact csign_any (h.below hW) hb256 key ao (18 + id.length) c' (firstB id) ho.len (own_IsB ho) (by have h1 := own_cap ho; have h2 := ho.len; omega) (own_nilcap ho) (by omega)
      have R0 : Hid (∀ W, Below W1.heap.size W1 W → Row W w.heap.size 40 zTk ∧ Below w.heap.size w W) := fun W hW => ⟨r0.below hW r0.lt, b1.trans (hW.mono b1.size)⟩
      have TG32 : Hid ((sgn l key (firstB id)).length = 32) := sgn_len l key (firstB id)
      have FCC : Hid (∀ E W, Below w.heap.size w W → W.heap.size = E → Calls Tryz.prog 32 #[.slice io id.length ic] W fun e w' => e = .returned (.slice (some ⟨E, 0, none⟩) id.length id.length) ∧ Own E w' (.slice (some ⟨E, 0, none⟩) id.length id.length) id ∧ Below W.heap.size W w') := fun E W hW hE => by
        subst hE; exact tcopied_any io id.length ic id rfl W (hb.below hW (Nat.le_refl _)) (by omega)
      have S1 : Hid (W1.heap.size = w.heap.size + 1) := s1
      have HIT : Hid (∀ W, Below w.heap.size w W → ∀ E, w.heap.size ≤ E → Own E W (.slice (some ⟨E, 0, none⟩) id.length id.length) id → CIssP l key id w (.returned (.tuple #[.agg (tkC key (some ⟨E, 0, none⟩) id.length id.length none 0 0 (sgn l key (firstB id))).toArray, .int .i64 0])) W) := fun W hW E hE ho => ⟨hW, by
        rw [if_neg HF.out, if_neg HI.out]
        exact ⟨_, _, none, 0, rfl, ⟨own_le ho hE, World.ownsRow_nil _ _ _ _, sgn_len l key (firstB id), fun c hc => (by cases hc), hbig⟩⟩⟩
      clear h hb256 hb hf hf1 hid r0 b1 hnil hbig s1 e0 hd hcap
      generalize sgn l key (firstB id) = tg at *
      go_enter Tryz.func10, Tryz.ntmps10
      go_upto_region 8 with (first
        | (have hz := hW1; clear hz; refine wpList_at24 hW1 ?_; clear hW1)
        | (go_at_call 28; refine FH.mono ?_; clear FH; rintro e w4 ⟨rfl, hw4⟩; rw [hw4]; clear hw4 w4)
        | (go_at_call 29; refine (FI.out _).mono ?_; clear FI; rintro e w4 ⟨rfl, hw4⟩; rw [hw4]; clear hw4 w4; have F1 := FF.out _ HB1.out)
        | (go_at_call 31; refine F1.mono ?_; clear F1; rintro e w5 ⟨ao5, c5, rfl, ho5, hb5⟩; have F2 := FSG.out w5 ao5 c5 (R0.out w5 hb5).2 ho5; have HB5 : Hid (Below W1.heap.size W1 w5) := hb5; clear ho5 hb5)
        | (go_at_call 30; refine F2.mono ?_; clear F2; rintro e w6 ⟨rfl, hb6⟩; have HB6 : Hid (Below W1.heap.size W1 w6) := HB5.out.trans (hb6.mono HB5.out.size); have HZ6 : Hid (Row (w6.alloc (.cells zH24.toArray 26)) w6.heap.size 26 zH24) := Row.at w6 _ _ _ _ rfl rfl; clear hb6)
        | (have hz := HZ6; clear hz; refine wpList_store_Row rfl 26 _ _ rfl w6.heap.size 26 0 zH24 (tg.map B8) HZ6.out (by rw [List.length_map, TG32.out]; exact Nat.le_refl _) rfl rfl (by rw [List.length_map, TG32.out]; kernel_rfl) (B8_one _) ?_; intro w8 hr7 hs7; have HB7 : Hid (Below W1.heap.size W1 w8 ∧ Row w8 w6.heap.size 26 (tg.map B8) ∧ w6.heap.size < w8.heap.size ∧ W1.heap.size ≤ w6.heap.size) := ⟨hs7.below (HB6.out.alloc HB6.out.size _) HB6.out.size, row_whole hr7 (by rw [List.length_map, TG32.out]; exact Nat.le_refl _), (by rw [hs7.size]; simp), HB6.out.size⟩; clear hr7 hs7 HZ6))
      try dsimp only [Act.put]
      have HS8 : Hid (I8 w key id tg w8.heap.size w6.heap.size false false w8.drew) := by
        have hz := HB7.out
        have hs := S1.out
        exact ⟨(R0.out _ hz.1).2.drew, by omega, by omega, fun _ => rfl, hz.2.1.drew, (R0.out _ hz.1).1.drew, fun e => (by cases e)⟩
      have FC := FCC.out w8.heap.size
      have HEE : Hid (w.heap.size ≤ w8.heap.size) := by have hz := HB7.out; have hs := S1.out; show _ ≤ _; omega
      clear HB7 HB6 HB5 FCC
      generalize w8.heap.size = E at *
      generalize w6.heap.size = g8 at *
      have FC : Hid (∀ W, Below w.heap.size w W → W.heap.size = E → Calls Tryz.prog 32 #[.slice io id.length ic] W fun e w' => e = .returned (.slice (some ⟨E, 0, none⟩) id.length id.length) ∧ Own E w' (.slice (some ⟨E, 0, none⟩) id.length id.length) id ∧ Below W.heap.size W w') := FC
      refine wp_region_inv (IIS8 w8 w key id tg E g8 io ic _ _ _ _ _ _ _ _ _ _ _ _ _ _ _ _ _ _ _ _ _ _ _ _ _ _ _ _ _ _) (by kernel_rfl) (by kernel_rfl) ⟨_, _, _, _, _, _, rfl, ⟨HS8.out, fun k => (by cases k), fun k => (by cases k), fun k => (by cases k), fun k => (by cases k), fun k => (by cases k), fun k => (by cases k)⟩⟩ ?_ ?_
      · refine .cons ?_ (.cons ?_ (.cons ?_ (.cons ?_ (.cons ?_ (.cons ?_ (.cons ?_ .nil))))))
        all_goals (rintro L _ W ⟨x31, x32, x33, x34, x35, x7, rfl, hI⟩ hL hd K hK)
        · rw [if_pos (by rfl)]
          go_simp
          exact hK.out _ _ ⟨_, _, _, _, _, _, rfl, { hI with p0 := fun _ => rfl }⟩
        · rw [if_pos (by rfl)]
          go_simp
          exact hK.out _ _ ⟨_, _, _, _, _, _, rfl, { hI with p1 := fun _ => rfl }⟩
        · obtain rfl := hI.p1 (hd 1 (by decide))
          rw [if_pos (by rfl)]
          go_simp
          refine (FC.out _ hI.x.bel (hI.x.sz hL)).mono ?_
          rintro e W2 ⟨rfl, ho2, hb2⟩
          go_simp
          have hX := hI.x.s2 ho2 hb2
          exact hK.out _ _ ⟨_, _, _, _, _, _, rfl, { hI with x := hX, p2 := fun _ => rfl }⟩
        · refine step_load_part (by rfl) 26 _ rfl g8 0 26 32 (tg.map B8) hI.x.h8 rfl _ (tg.map B8) (by rw [List.drop_zero, List.take_of_length_le (by rw [List.length_map, TG32.out]; exact Nat.le_refl _)]) (by rw [List.length_map, TG32.out]) Tryz.underlying26 rfl (by kernel_rfl) ?_
          exact hK.out _ _ ⟨_, _, _, _, _, _, rfl, { hI with p3 := fun _ => rfl }⟩
        · obtain rfl := hI.p0 (hd 0 (by decide))
          obtain rfl := hI.p2 (hd 2 (by decide))
          obtain rfl := hI.p3 (hd 3 (by decide))
          refine step_build3 (by rfl) 40 0 1 3 (.tmp 31) (.tmp 33) (.tmp 34) rfl (.int .i64 key) (.slice (some ⟨E, 0, none⟩) id.length id.length) (.agg (tg.map B8).toArray) _ rfl rfl rfl (build_tk3c key (some ⟨E, 0, none⟩) id.length id.length W tg TG32.out) ?_
          exact hK.out _ _ ⟨_, _, _, _, _, _, rfl, { hI with p4 := fun _ => rfl }⟩
        · obtain rfl := hI.p4 (hd 4 (by decide))
          have hx0 := hI.x
          rw [hL] at hx0
          refine step_store_Row rfl 40 _ _ rfl w.heap.size 40 zTk (tkC key (some ⟨E, 0, none⟩) id.length id.length none 0 0 tg) hx0.res (by rw [tkC_len TG32.out]; rfl) rfl rfl (by rw [tkC_len TG32.out]; kernel_rfl) (tkC_one _ _ _ _ _ _ _ _) ?_
          intro W2 hr2 hs2
          have hX := hx0.s5 hr2 hs2
          exact hK.out _ _ ⟨_, _, _, _, _, _, rfl, { hI with x := hX }⟩
        · rw [if_pos (by rfl)]
          go_simp
          exact hK.out _ _ ⟨_, _, _, _, _, _, rfl, { hI with p6 := fun _ => rfl }⟩
      · rintro L _ W hall ⟨x31, x32, x33, x34, x35, x7, rfl, hI⟩
        obtain rfl := hI.p0 (hall 0 (by decide))
        obtain rfl := hI.p1 (hall 1 (by decide))
        obtain rfl := hI.p2 (hall 2 (by decide))
        obtain rfl := hI.p3 (hall 3 (by decide))
        obtain rfl := hI.p4 (hall 4 (by decide))
        obtain rfl := hI.p6 (hall 6 (by decide))
        have hXe := hI.x
        rw [hall 2 (by decide)] at hXe
        rw [hall 5 (by decide)] at hXe
        clear hI hall
        try dsimp only
        have q2 : Row W w.heap.size 40 (tkC key (some ⟨E, 0, none⟩) id.length id.length none 0 0 tg) := hXe.res
        have hb2 := hXe.bel
        have ho2 := hXe.own rfl
        clear hXe
        go_wp2
        refine bodyPost_ret_by (results_rowtmp Tryz.results10 _ W w.heap.size 40 _ _ rfl q2 Tryz.underlying40 rfl (by rw [tkC_len TG32.out]; kernel_rfl)) rfl ?_
        exact HIT.out W hb2 E HEE.out ho2
end Go.Proofs.YtjooabgjkjnhhaaGreatDoor
