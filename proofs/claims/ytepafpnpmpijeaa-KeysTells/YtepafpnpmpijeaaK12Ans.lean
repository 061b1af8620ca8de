
import Derived.Test.YtepafpnpmpijeaaK12Code
import Derived.Test.YtepafpnpmpijeaaK12Law
/-! answers: of two rings of the same secrets, to some questions. -/
namespace Go.Proofs.Ytepafpnpmpijeaa
open Go.RowKit
set_option linter.unusedVariables false

/-- A question: a key, bytes, a tag. -/
structure AskV where
  key : Int
  bo : Option Addr
  cb : Nat
  b : List By
  t : List By
def askC (a : AskV) : List Value := .int .i64 a.key :: .slice a.bo a.b.length a.cb :: a.t.map B8
structure AskOk (w : World) (a : AskV) : Prop where
  tl : a.t.length = 32
  isb : IsB w a.bo a.b
  cap : a.b.length ≤ a.cb
  nil : a.bo = none → a.cb = 0
  big : a.b.length ≤ 140737488353000
structure AskIn (w : World) (B off : Nat) (xs : List AskV) : Prop where
  cells : ∀ (i : Nat) (a : AskV), xs[i]? = some a → w.rangeAt B (off + i * 34) (askC a)
  ok : ∀ (i : Nat) (a : AskV), xs[i]? = some a → AskOk w a
theorem AskOk.keep {w w' : World} {a : AskV} (h : AskOk w a) (hb : Below w.heap.size w w') : AskOk w' a := ⟨h.tl, h.isb.below hb (Nat.le_refl _), h.cap, h.nil, h.big⟩
theorem AskIn.keep {w w' : World} {B off : Nat} {xs : List AskV} (h : AskIn w B off xs) (hb : Below w.heap.size w w') : AskIn w' B off xs :=
  ⟨fun i a hi j v hv => by have := h.cells i a hi j v hv; exact (hb.cell (cell_lt this)).trans this, fun i a hi => (h.ok i a hi).keep hb⟩
theorem askC_len {a : AskV} (h : a.t.length = 32) : (askC a).length = 34 := by simp [askC, h]
theorem askC_one (a : AskV) : ∀ x ∈ askC a, x.oneCell' = true := by
  intro x hx
  simp only [askC, List.mem_cons] at hx
  rcases hx with rfl | rfl | hx
  · rfl
  · rfl
  · exact B8_one a.t x hx
def zAsk : List Value := .int .i64 0 :: .slice none 0 0 :: (List.replicate 32 (0 : By)).map B8
theorem zAsk_len : zAsk.length = 34 := by simp [zAsk]

set_option maxHeartbeats 2000000 in
set_option maxRecDepth 100000 in
theorem answers_any {N M : Nat} {w : World} {g b : Nat} {vs : List Value} {l : Secs} (hk : KgO N M w g b vs l) {g2 : Nat} {ao : Option Addr} {cap : Nat} {vs2 : List Value} (hr : RgAt w g2 ao cap vs2 l) (hl : l.length ≤ 64) (hb256 : ∀ i, i < l.length → (l.getD i (0, [])).2.length ≤ 256)
    (qo : Option Addr) (n qc B off : Nat) (xs : List AskV) (hn : xs.length = n) (hn47 : n ≤ 140737488355328) (hqo : 0 < n → qo = some ⟨B, off, none⟩) (hin : AskIn w B off xs) :
    Calls Try.prog 11 #[.pointer (some ⟨g, 0, none⟩), .pointer (some ⟨g2, 0, none⟩), .slice qo n qc] w fun e w' => e = .returned (.bool true) ∧ Below w.heap.size w w' := by
  have HK : Hid (∀ W, Below w.heap.size w W → KgO N M W g b vs l) := fun W h => hk.below h
  have HR : Hid (∀ W, Below w.heap.size w W → RgAt W g2 ao cap vs2 l) := fun W h => hr.keep h
  have HI : Hid (∀ W, Below w.heap.size w W → AskIn W B off xs) := fun W h => hin.keep h
  have HL : Hid (l.length ≤ 64) := hl
  have HB : Hid (∀ i, i < l.length → (l.getD i (0, [])).2.length ≤ 256) := hb256
  have HX : Hid (xs.length = n) := hn
  have NU := cnumbers_any hk
  clear hk hr hin hl hb256 hn
  go_enter Try.func11, Try.ntmps11
  go_wp2_with fail
  refine NU.mono ?_
  clear NU
  rintro e w1 ⟨lo1, n1, c1, rfl, o1, b1⟩
  have NU := rnumbers_any w1 g2 ao cap vs2 l (HR.out _ b1) HL.out
  go_wp2_with fail
  refine NU.mono ?_
  clear NU
  rintro e w2 ⟨lo2, n2, c2, rfl, o2, b2⟩
  have b12 := b1.trans (b2.mono b1.size)
  have hn1 : n1 ≤ 1000000 := by
    have h1 := o1.len
    have h2 := nums_len l 64
    omega
  have SM := sameInts_any w2 lo1 lo2 n1 c1 n2 c2 (nums l 64) (nums l 64) (o1.keep b2).rd o2.rd hn1
  rw [decide_eq_true (rfl : nums l 64 = nums l 64)] at SM
  go_wp2_with fail
  refine SM.mono ?_
  rintro e w3 ⟨rfl, d3⟩
  have b3 : Hid (Below w.heap.size w w3) := Below_dr b12 d3
  clear SM o1 b1 o2 b2 b12 hn1 d3
  go_wp2
  go_loopw [7] (fun iv wr => ∃ z : Int, -2 ≤ z ∧ z ≤ 68 ∧ iv = .int .i64 z ∧ wr = w3) (fun iv _ => (68 - intOf iv).toNat)
  case atStart => exact ⟨-2, by omega, by omega, rfl, rfl⟩
  case round =>
    obtain ⟨z, hz1, hz2, rfl, rfl⟩ := hrel
    by_cases hz : z < 68
    · have H1 := chas_any (HK.out _ b3.out) z
      have H2 := rhas_any wr g2 ao cap vs2 l (HR.out _ b3.out) HL.out z
      generalize (fnd l z).isSome = r at H1 H2
      go_wp2_with fail
      refine H1.mono ?_
      rintro e w4 ⟨rfl, rfl⟩
      go_wp2_with fail
      refine H2.mono ?_
      rintro e w5 ⟨rfl, rfl⟩
      clear H1 H2
      cases r <;> go_wp2 <;> exact ⟨⟨z + 1, by omega, by omega, by go_num, trivial⟩, by simp [intOf]; omega⟩
    · go_wp2
      go_loopw [39] (fun iv wr => ∃ k : Nat, k ≤ n ∧ iv = .int .i64 k ∧ Hid (Below w.heap.size w wr)) (fun iv _ => n - (intOf iv).toNat)
      case atStart => exact ⟨0, by omega, rfl, b3⟩
      case round =>
        clear b3
        obtain ⟨k, hk, rfl, bk⟩ := hrel
        by_cases hlt : k < n
        · obtain rfl := hqo (by omega)
          have y0 : (0 : Int) ≤ (k : Int) := by omega
          have y1 : (k : Int) < (n : Int) := by omega
          obtain ⟨a, ha⟩ : ∃ a, xs[k]? = some a := ⟨_, List.getElem?_eq_getElem (by rw [HX.out]; exact hlt)⟩
          have hrg := (HI.out _ bk.out).cells k a ha
          have HA : Hid (∀ W, Below w.heap.size w W → AskOk W a) := fun W h => (HI.out W h).ok k a ha
          have htl : a.t.length = 32 := (HA.out _ bk.out).tl
          have hcap := (HA.out _ bk.out).cap
          have hnil := (HA.out _ bk.out).nil
          have hbig := (HA.out _ bk.out).big
          have hACl := askC_len htl
          have hAC1 := askC_one a
          have i0 : (askC a)[0]? = some (.int .i64 a.key) := rfl
          have i1 : (askC a)[1]? = some (.slice a.bo a.b.length a.cb) := rfl
          have it : ((askC a).drop 2).take 32 = a.t.map B8 := List.take_of_length_le (by simp [askC, htl])
          have S1 : Hid (∀ W, Below w.heap.size w W → Calls Try.prog 12 #[.pointer (some ⟨g, 0, none⟩), .int .i64 a.key, .slice a.bo a.b.length a.cb] W fun e w' => e = .returned (.tuple #[.agg ((sgn l a.key a.b).map B8).toArray, .int .i64 (sgnE l a.key)]) ∧ Below W.heap.size W w') :=
            fun W h => csign_any (HK.out W h) HB.out a.key a.bo a.b.length a.cb a.b rfl (HA.out W h).isb hcap hnil hbig
          have S2 : Hid (∀ W, Below w.heap.size w W → Calls Try.prog 20 #[.pointer (some ⟨g2, 0, none⟩), .int .i64 a.key, .slice a.bo a.b.length a.cb] W fun e w' => e = .returned (.tuple #[.agg ((sgn l a.key a.b).map B8).toArray, .int .i64 (sgnE l a.key)]) ∧ Below W.heap.size W w') :=
            fun W h => rsign_any W g2 ao cap vs2 l (HR.out W h) HL.out HB.out a.key a.bo a.b.length a.cb a.b rfl (HA.out W h).isb hnil hbig
          obtain ⟨rt, hrt⟩ : ∃ rt, rt = decide (sgnE l a.key = 0 ∧ sgn l a.key a.b = a.t) := ⟨_, rfl⟩
          obtain ⟨rs, hrs⟩ : ∃ rs, rs = decide (sgnE l a.key = 0 ∧ sgn l a.key a.b = sgn l a.key a.b) := ⟨_, rfl⟩
          have C1 : Hid (∀ W, Below w.heap.size w W → Calls Try.prog 13 #[.pointer (some ⟨g, 0, none⟩), .int .i64 a.key, .slice a.bo a.b.length a.cb, .agg (a.t.map B8).toArray] W fun e w' => e = .returned (.tuple #[.bool rt, .int .i64 (sgnE l a.key)]) ∧ Below W.heap.size W w') :=
            fun W h => by rw [hrt]; exact ccheck_any (HK.out W h) HB.out a.key a.bo a.b.length a.cb a.b rfl (HA.out W h).isb hcap hnil hbig a.t htl
          have C3 : Hid (∀ W, Below w.heap.size w W → Calls Try.prog 13 #[.pointer (some ⟨g, 0, none⟩), .int .i64 a.key, .slice a.bo a.b.length a.cb, .agg ((sgn l a.key a.b).map B8).toArray] W fun e w' => e = .returned (.tuple #[.bool rs, .int .i64 (sgnE l a.key)]) ∧ Below W.heap.size W w') :=
            fun W h => by rw [hrs]; exact ccheck_any (HK.out W h) HB.out a.key a.bo a.b.length a.cb a.b rfl (HA.out W h).isb hcap hnil hbig _ (sgn_len _ _ _)
          have C2 : Hid (∀ W, Below w.heap.size w W → Calls Try.prog 21 #[.pointer (some ⟨g2, 0, none⟩), .int .i64 a.key, .slice a.bo a.b.length a.cb, .agg (a.t.map B8).toArray] W fun e w' => e = .returned (.tuple #[.bool rt, .int .i64 (sgnE l a.key)]) ∧ Below W.heap.size W w') :=
            fun W h => by rw [hrt]; exact rcheck_any W g2 ao cap vs2 l (HR.out W h) HL.out HB.out a.key a.bo a.b.length a.cb a.b rfl (HA.out W h).isb hnil hbig a.t htl
          have hrs2 : rs = (sgnE l a.key == 0) := by
            rw [hrs]; simp; rfl
          clear hrs
          subst hrs2
          clear hrt
          have HSL : Hid ((sgn l a.key a.b).length = 32) := sgn_len l a.key a.b
          have HSE : Hid (sgnE l a.key = 0 ∨ sgnE l a.key = 13) := by
            show _ ∨ _
            unfold sgnE; split
            · exact .inl rfl
            · exact .inr rfl
          have HTL : Hid (a.t.length = 32) := htl
          clear ha HA htl hcap hnil hbig HI HX HK HR HL HB
          generalize askC a = AC at *
          generalize sgn l a.key a.b = SG at *
          generalize sgnE l a.key = SE at *
          generalize a.key = ky at *
          generalize a.b.length = nb at *
          generalize a.bo = bo at *
          generalize a.cb = cb at *
          generalize a.t = tg at *
          have HIT : Hid ((AC.drop 2).take 32 = tg.map B8) := it
          have HAL : Hid (AC.length = 34) := hACl
          have HA1 : Hid (∀ x ∈ AC, x.oneCell' = true) := hAC1
          have lsg : Hid ((SG.map B8).length = 32) := by show _ = _; rw [List.length_map, HSL.out]
          have ltg : Hid ((tg.map B8).length = 32) := by show _ = _; rw [List.length_map, HTL.out]
          clear it hACl hAC1
          generalize hG : wr.heap.size = G at *
          have hgw : w.heap.size ≤ G := by rw [← hG]; exact bk.out.size
          clear hqo hz1 hz2
          go_wp2_with (first | (refine wpList_load_mid rfl 40 (.tmp 41) rfl B (off + k * 34) rfl AC _ hrg Try.underlying40 rfl (by rw [HAL.out]; kernel_rfl) ?_) | (refine wpList_store_Row rfl 40 _ _ rfl G 40 0 zAsk AC (Row.at wr _ _ _ _ hG.symm rfl) (by rw [HAL.out]; exact Nat.le_refl _) rfl rfl (by rw [HAL.out]; kernel_rfl) HA1.out ?_; intro w4 hr4 hs4; have r4 := row_whole hr4 (by rw [HAL.out]; exact Nat.le_of_eq zAsk_len); have bw4 : Hid (Below w.heap.size w w4) := hs4.below (bk.out.alloc (by omega) _) hgw; clear hr4 hs4 hrg bk; have c0 := r4.cell 0 _ i0; have c1 := r4.cell 1 _ i1))
          refine (S1.out _ bw4.out).mono ?_
          rintro e w5 ⟨rfl, b5⟩
          replace r4 := r4.below b5 r4.lt
          have bw5 : Hid (Below w.heap.size w w5) := bw4.out.trans (b5.mono bw4.out.size)
          clear b5 bw4 c0 c1 S1 hG
          generalize hG5 : w5.heap.size = G5 at *
          have hg5 : G < G5 := by rw [← hG5]; exact r4.lt
          go_wp2_with (refine wpList_store_Row rfl 38 _ _ rfl G5 38 0 ((List.replicate 32 (0 : By)).map B8) (SG.map B8) (Row.at w5 _ _ _ _ hG5.symm rfl) (by simp [HSL.out]) rfl rfl (by rw [List.length_map, HSL.out]; kernel_rfl) (B8_one _) ?_; intro w6 hr6 hs6; have r5 := row_whole hr6 (by simp [HSL.out]); have r6 : Row w6 G 40 AC := (r4.alloc _).but hs6 (by omega); have bw6 : Hid (Below w.heap.size w w6) := hs6.below (bw5.out.alloc (by omega) _) (by omega); clear hr6 hs6 r4 bw5; have c0 := r6.cell 0 _ i0; have c1 := r6.cell 1 _ i1)
          refine (S2.out _ bw6.out).mono ?_
          rintro e w7 ⟨rfl, b7⟩
          replace r6 := r6.below b7 r6.lt
          replace r5 := r5.below b7 r5.lt
          have bw7 : Hid (Below w.heap.size w w7) := bw6.out.trans (b7.mono bw6.out.size)
          clear b7 bw6 c0 c1 S2 hG5
          generalize hG7 : w7.heap.size = G7 at *
          have hg7 : G5 < G7 := by rw [← hG7]; exact r5.lt
          go_wp2_with (first | (refine wpList_store_Row rfl 38 _ _ rfl G7 38 0 ((List.replicate 32 (0 : By)).map B8) (SG.map B8) (Row.at w7 _ _ _ _ hG7.symm rfl) (by simp [HSL.out]) rfl rfl (by rw [List.length_map, HSL.out]; kernel_rfl) (B8_one _) ?_; intro w8 hr8 hs8; have r7 := row_whole hr8 (by simp [HSL.out]); have r8 : Row w8 G 40 AC := (r6.alloc _).but hs8 (by omega); have r9 : Row w8 G5 38 (SG.map B8) := (r5.alloc _).but hs8 (by omega); have bw8 : Hid (Below w.heap.size w w8) := hs8.below (bw7.out.alloc (by omega) _) (by omega); clear hr8 hs8 r6 r5 bw7; have c0 := r8.cell 0 _ i0; have c1 := r8.cell 1 _ i1) | (refine wpList_load_part rfl 38 _ rfl G 2 40 32 AC r8 rfl _ (tg.map B8) HIT.out ltg.out Try.underlying38 rfl (by kernel_rfl) ?_))
          refine (C1.out _ bw8.out).mono ?_
          rintro e wa ⟨rfl, ba⟩
          replace r7 := r7.below ba r7.lt
          replace r8 := r8.below ba r8.lt
          replace r9 := r9.below ba r9.lt
          have bwa : Hid (Below w.heap.size w wa) := bw8.out.trans (ba.mono bw8.out.size)
          clear ba bw8 c0 c1 hG7
          have c0 := r8.cell 0 _ i0
          have c1 := r8.cell 1 _ i1
          go_wp2_with (refine wpList_load_part rfl 38 _ rfl G 2 40 32 AC r8 rfl _ (tg.map B8) HIT.out ltg.out Try.underlying38 rfl (by kernel_rfl) ?_)
          refine (C2.out _ bwa.out).mono ?_
          rintro e wb ⟨rfl, bb⟩
          replace r7 := r7.below bb r7.lt
          replace r8 := r8.below bb r8.lt
          replace r9 := r9.below bb r9.lt
          have bwb : Hid (Below w.heap.size w wb) := bwa.out.trans (bb.mono bwa.out.size)
          clear bb bwa c0 c1 C2
          have c0 := r8.cell 0 _ i0
          have c1 := r8.cell 1 _ i1
          have CC := C3.out _ bwb.out
          go_wp2_with (refine wpList_load_Row rfl 38 _ rfl G7 38 (SG.map B8) r7 rfl _ Try.underlying38 rfl (by rw [lsg.out]; kernel_rfl) ?_)
          refine CC.mono ?_
          clear CC C1 C3
          rintro e wc ⟨rfl, bc⟩
          replace r7 := r7.below bc r7.lt
          replace r9 := r9.below bc r9.lt
          have bwc : Hid (Below w.heap.size w wc) := bwb.out.trans (bc.mono bwb.out.size)
          clear bc bwb c0 c1 r8
          have q := eq_any SG SG HSL.out HSL.out true (by simp)
          clear HSE
          go_wp2_with (first | (refine wpList_load_Row rfl 38 (.tmp 10) rfl G5 38 (SG.map B8) r9 rfl _ Try.underlying38 rfl (by rw [lsg.out]; kernel_rfl) ?_) | (refine wpList_load_Row rfl 38 (.tmp 12) rfl G7 38 (SG.map B8) r7 rfl _ Try.underlying38 rfl (by rw [lsg.out]; kernel_rfl) ?_))
          exact ⟨⟨k + 1, by omega, by go_num, bwc⟩, by simp [intOf]; omega⟩
        · obtain rfl : k = n := by omega
          have y1 : ¬ ((k : Nat) : Int) < (k : Int) := by omega
          go_wp2
          go_ret
          exact ⟨rfl, bk.out⟩

end Go.Proofs.Ytepafpnpmpijeaa
