
import Derived.Test.YthegfkcegmeklaaH16It
/-! The code's chain: quoteOf, Check. (Printed by tools/gencode16.py.) -/
namespace Go.Proofs.Ythegfkcegmeklaa
open Go.RowKit
set_option linter.unusedVariables false

def magic0 : List By := magic ++ [0#8]
theorem magic0_len : magic0.length = 17 := rfl

set_option maxHeartbeats 1000000 in
set_option maxRecDepth 100000 in
theorem cquote_any (w : World) (ko : Option Addr) (kn kc : Nat) (key : List By) (hkn : key.length = kn) (hki : IsB w ko key) (hkk : (ko = none → kc = 0) ∧ kn ≤ kc) (hkb : kn ≤ 140737488351232) (no : Option Addr) (nb nc : Nat) (nonce : List By) (hnb : nonce.length = nb) (hni : IsB w no nonce) (hnn : (no = none → nc = 0) ∧ nb ≤ nc) (hbig : nb ≤ 140737488351232)
    (ao : Option Addr) (n cap B off : Nat) (xs : List EvV) (hn : xs.length = n) (hn47 : n ≤ 140737488355328) (hao : 0 < n → ao = some ⟨B, off, none⟩) (hin : EvIn w B off xs) :
    Calls Try.prog 29 #[.slice ko kn kc, .slice no nb nc, .slice ao n cap] w fun e w' => e = .returned (.agg ((quot key nonce xs).map B8).toArray) ∧ Below w.heap.size w w' := by
  obtain ⟨W1, hW1⟩ : ∃ W1, W1 = w.alloc (.cells z32.toArray 32) := ⟨_, rfl⟩
  have b1 : Below w.heap.size w W1 := by rw [hW1]; exact (Below.refl _ _).alloc (Nat.le_refl _) _
  have r1 : Row W1 w.heap.size 32 z32 := by rw [hW1]; exact Row.at w _ _ _ _ rfl rfl
  have hz1 : W1.heap.size = w.heap.size + 1 := by rw [hW1]; simp
  have RG := creg_any cextend_any cmeasure_any W1 ao n cap B off xs hn hn47 hao (hin.keep b1)
  have HNI : Hid (∀ W, Below w.heap.size w W → IsB W no nonce) := fun W h => hni.below h (Nat.le_refl _)
  have HKI : Hid (∀ W, Below w.heap.size w W → IsB W ko key) := fun W h => hki.below h (Nat.le_refl _)
  have HX : Hid (xs.length = n) := hn
  have HB : Hid (nonce.length = nb) := hnb
  have HKN : Hid (key.length = kn) := hkn
  have HKK : Hid (kn ≤ kc) := hkk.2
  have HNN : Hid (no = none → nc = 0) := hnn.1
  have z1 : IntKind.u64.wrap (nb : Int) = (nb : Int) := by rw [IntKind.wrap_u64]; omega
  have z2 : IntKind.u64.wrap (n : Int) = (n : Int) := by rw [IntKind.wrap_u64]; omega
  have hrl := reg_len xs
  have HMS : Hid (magic0 ++ numB nb 4 ++ nonce ++ numB n 4 ++ reg xs = msg nonce xs) := by
    show _ = _
    unfold msg magic0; rw [HB.out, HX.out]
  have HML : Hid ((msg nonce xs).length = nb + 57) := by show _ = _; rw [msg_len, hnb]
  have HQ : Hid (tag key (msg nonce xs) = quot key nonce xs) := rfl
  have hql : (quot key nonce xs).length = 32 := shaLen _
  clear hin hni hn hnb hao hnn hkn hki hkk
  generalize reg xs = R at *
  generalize msg nonce xs = MS at *
  generalize quot key nonce xs = QQ at *
  have B1 : Hid (Below w.heap.size w W1) := b1
  clear b1
  rw [hW1] at RG
  go_enter Try.func29, Try.ntmps29
  go_wp2_with fail
  refine RG.mono ?_
  rw [← hW1]
  rintro e w2 ⟨rfl, hb2⟩
  dsimp only
  have r2 := r1.below hb2 r1.lt
  have b2 : Below w.heap.size w w2 := B1.out.trans (hb2.mono B1.out.size)
  have hz2 : w.heap.size + 1 ≤ w2.heap.size := by have := hb2.size; omega
  clear RG hb2 r1 hW1 hz1 B1
  obtain ⟨H, hH⟩ : ∃ H, H = w2.heap.size := ⟨_, rfl⟩
  have ZR : Hid (Row (w2.alloc (.cells z32.toArray 32)) H 32 z32) := Row.at w2 _ _ _ _ hH rfl
  have HH : Hid (H = w2.heap.size) := hH
  clear hH
  have kc0 := fun W => Lib.run_convert_bytes_const (P := Try.prog) W 36 5 #[.int .u8 112, .int .u8 111, .int .u8 114, .int .u8 116, .int .u8 99, .int .u8 117, .int .u8 108, .int .u8 108, .int .u8 105, .int .u8 115, .int .u8 32, .int .u8 113, .int .u8 117, .int .u8 111, .int .u8 116, .int .u8 101, .int .u8 0] 17 17 Try.underlying36 Try.underlying5
  go_wp2_with (first
    | (rw [← HH.out]; refine wpList_store_Row rfl 32 _ _ rfl H 32 0 z32 (R.map B8) ZR.out (by simp [hrl]) rfl rfl (by rw [List.length_map, hrl]; kernel_rfl) (B8_one _) ?_; intro w3 hr3 hs3; have kc := kc0 w3))
  have r3 := row_whole hr3 (by simp [hrl])
  have hz3 : w3.heap.size = w2.heap.size + 1 := by rw [hs3.size]; simp
  have hHs := HH.out
  have b3 : Below w.heap.size w w3 := hs3.below (b2.alloc b2.size _) (by omega)
  have q3 : Row w3 w.heap.size 32 z32 := (r2.alloc _).but hs3 (by omega)
  obtain ⟨W3, hW3⟩ : ∃ W3, W3 = w3.alloc (.cells (magic0.map B8).toArray 5 (17, 18)) := ⟨_, rfl⟩
  have b3a : Below w3.heap.size w3 W3 := by rw [hW3]; exact (Below.refl _ _).alloc (Nat.le_refl _) _
  have i3 : IsB W3 (some ⟨w3.heap.size, 0, none⟩) magic0 := by rw [hW3]; exact isb_mk (heap_alloc_new w3 _)
  have rW : Hid (Row W3 H 32 (R.map B8)) := r3.below b3a r3.lt
  have qW : Hid (Row W3 w.heap.size 32 z32) := q3.below b3a q3.lt
  have bW : Hid (Below w.heap.size w W3) := b3.trans (b3a.mono b3.size)
  have hHl := rW.out.lt
  have hwl := qW.out.lt
  have CN := cnum_any W3.heap.size W3 (some ⟨w3.heap.size, 0, none⟩) 17 17 magic0 (.inr ⟨Nat.le_refl _, rfl, _, rfl, rfl, i3⟩) nb 4 (by omega) (by omega) (by omega) (by omega)
  clear kc kc0 i3 hr3 hs3 r2 b2 r3 q3 b3 b3a hHs hz3
  rw [hW3] at CN
  refine CN.mono ?_
  clear CN
  rw [← hW3]
  clear hW3
  rintro e w4 ⟨ao4, c4, rfl, ho4, hb4⟩
  dsimp only
  have NI : Hid (∀ W, Below W3.heap.size W3 W → IsB W no nonce) := fun W h => HNI.out W (bW.out.trans (h.mono bW.out.size))
  have o4 : Hid (Own W3.heap.size w4 (.slice ao4 21 c4) (magic0 ++ numB nb 4)) := ho4
  have b4 : Hid (Below W3.heap.size W3 w4) := hb4
  clear ho4 hb4 HNI ZR HH hz2
  have hl4 : Hid ((magic0 ++ numB nb 4).length = 21) := o4.out.len
  go_wp2_with (at_builtin; refine wpList_append_more rfl (.tmp 17) (.tmp 18) rfl W3.heap.size W3 ao4 21 c4 (magic0 ++ numB nb 4) rfl hl4.out o4.out b4.out no nb nc nonce rfl HB.out (NI.out _ b4.out) HNN.out (by omega) ?_; intro ao5 c5 w5 ho5 hb5)
  refine (cnum_any W3.heap.size w5 ao5 (21 + nb) c5 _ (.inl ho5) n 4 (by omega) (by omega) (by omega) (by omega)).mono ?_
  rintro e w6 ⟨ao6, c6, rfl, ho6, hb6⟩
  dsimp only
  have b6 : Hid (Below W3.heap.size W3 w6) := hb5.trans hb6
  have o6 : Hid (Own W3.heap.size w6 (.slice ao6 (21 + nb + 4) c6) (magic0 ++ numB nb 4 ++ nonce ++ numB n 4)) := ho6
  clear ho5 hb5 ho6 hb6 o4 b4 hl4 NI
  generalize magic0 ++ numB nb 4 ++ nonce ++ numB n 4 = MM at *
  have hl6 : Hid (MM.length = 21 + nb + 4) := o6.out.len
  have r6 := rW.out.below b6.out hHl
  go_wp2_with (at_builtin; refine wpList_append_more rfl (.tmp 26) (.tmp 27) rfl W3.heap.size W3 ao6 (21 + nb + 4) c6 MM rfl hl6.out o6.out b6.out (some ⟨H, 0, none⟩) 32 32 R rfl hrl (row_isb r6) (fun h => by cases h) (by omega) ?_; intro ao7 c7 w7 ho7 hb7)
  have o7 : Own W3.heap.size w7 (.slice ao7 (nb + 57) c7) MS := by
    rw [← HMS.out]
    have e : nb + 57 = 21 + nb + 4 + 32 := by omega
    rw [e]; exact ho7
  have HEQ : Hid (21 + nb + 4 + 32 = nb + 57) := (by omega : 21 + nb + 4 + 32 = nb + 57)
  have b7 : Hid (Below w.heap.size w w7) := bW.out.trans (hb7.mono bW.out.size)
  have q7 : Hid (Row w7 w.heap.size 32 z32) := qW.out.below hb7 hwl
  have MC := mac_any ko ao7 kn kc (nb + 57) c7 key MS HKN.out HML.out w7 (HKI.out _ b7.out) (own_IsB o7) HKK.out (own_cap o7) (by omega) (by omega)
  rw [HQ.out] at MC
  clear ho7 hb7 o7 r6 o6 b6 hl6 rW qW bW
  rw [HEQ.out]
  refine MC.mono ?_
  clear MC
  rintro e w8 ⟨rfl, hb8⟩
  dsimp only
  have q8 := q7.out.below hb8 q7.out.lt
  have b8 := b7.out.trans (hb8.mono b7.out.size)
  clear hb8 q7 b7
  go_wp2_with (refine wpList_store_Row rfl 32 _ _ rfl w.heap.size 32 0 z32 (QQ.map B8) q8 (by simp [hql]) rfl rfl (by rw [List.length_map, hql]; kernel_rfl) (B8_one _) ?_; intro w9 hr9 hs9)
  have hr := row_whole hr9 (by simp [hql])
  refine bodyPost_ret_by (results_Row Try.results29 _ w9 w.heap.size 32 _ _ rfl hr Try.underlying32 rfl (by rw [List.length_map, hql]; kernel_rfl)) rfl ⟨rfl, hs9.below b8 (Nat.le_refl _)⟩

structure K4 (W1 : World) (G H : Nat) (r : Bool) (L : Nat → Bool) (x17 x18 x19 x20 : Value) (W : World) : Prop where
  x : Below W1.heap.size W1 W
  p0 : L 0 = true → x17 = .slice (some ⟨H, 0, none⟩) 32 32
  p1 : L 1 = true → x18 = .slice (some ⟨G, 0, none⟩) 32 32
  p2 : L 2 = true → x19 = .bool r
  p3 : L 3 = true → x20 = .bool (!r)
section
variable {W1 : World} {G H : Nat} {r : Bool} {L : Nat → Bool} {x17 x18 x19 x20 : Value} {W W2 : World}
theorem K4.s0 (h : K4 W1 G H r L x17 x18 x19 x20 W) : K4 W1 G H r (upd L 0) (.slice (some ⟨H, 0, none⟩) 32 32) x18 x19 x20 W :=
  ⟨h.x, fun _ => rfl, h.p1, h.p2, h.p3⟩
theorem K4.s1 (h : K4 W1 G H r L x17 x18 x19 x20 W) : K4 W1 G H r (upd L 1) x17 (.slice (some ⟨G, 0, none⟩) 32 32) x19 x20 W :=
  ⟨h.x, h.p0, fun _ => rfl, h.p2, h.p3⟩
theorem K4.s2 (h : K4 W1 G H r L x17 x18 x19 x20 W) (hX : Below W1.heap.size W1 W2) : K4 W1 G H r (upd L 2) x17 x18 (.bool r) x20 W2 :=
  ⟨hX, h.p0, h.p1, fun _ => rfl, h.p3⟩
theorem K4.s3 (h : K4 W1 G H r L x17 x18 x19 x20 W) : K4 W1 G H r (upd L 3) x17 x18 x19 (.bool (!r)) W :=
  ⟨h.x, h.p0, h.p1, h.p2, fun _ => rfl⟩
end
@[reducible] def IK4 (W1 : World) (G H : Nat) (r : Bool) (y0 y1 y2 y3 y4 y5 y6 y7 y8 y9 y10 y11 y12 y13 y14 y15 y16 : Value) : (Nat → Bool) → Act → World → Prop := fun L a W => ∃ x17 x18 x19 x20, a = ⟨#[y0, y1, y2, y3, y4, y5, y6, y7, y8, y9, y10, y11, y12, y13, y14, y15, y16, x17, x18, x19, x20], []⟩ ∧ K4 W1 G H r L x17 x18 x19 x20 W
theorem K4.step {W1 : World} {G H : Nat} {r : Bool} {y0 y1 y2 y3 y4 y5 y6 y7 y8 y9 y10 y11 y12 y13 y14 y15 y16 : Value} {P : Program} {ops : Array Oper} {Q : Exit → Act → World → Prop} {i : Nat} {o : Oper} (hq : ∀ x17 x18 x19 x20 (L : Nat → Bool) (W : World), K4 W1 G H r L x17 x18 x19 x20 W → L i = false → (∀ j ∈ onesOf o, L j = true) → ∀ K : Act → World → Prop, Shut (∀ a' w', IK4 W1 G H r y0 y1 y2 y3 y4 y5 y6 y7 y8 y9 y10 y11 y12 y13 y14 y15 y16 (upd L i) a' w' → K a' w') → if Region.wanted o (yielded ops (⟨#[y0, y1, y2, y3, y4, y5, y6, y7, y8, y9, y10, y11, y12, y13, y14, y15, y16, x17, x18, x19, x20], []⟩ : Act).tmps) = true then Oper.wp P o ⟨#[y0, y1, y2, y3, y4, y5, y6, y7, y8, y9, y10, y11, y12, y13, y14, y15, y16, x17, x18, x19, x20], []⟩ W K Q else K ((⟨#[y0, y1, y2, y3, y4, y5, y6, y7, y8, y9, y10, y11, y12, y13, y14, y15, y16, x17, x18, x19, x20], []⟩ : Act).put o.dst undef) W) : StepI P ops (IK4 W1 G H r y0 y1 y2 y3 y4 y5 y6 y7 y8 y9 y10 y11 y12 y13 y14 y15 y16) Q i o := by
  rintro L a W ⟨x17, x18, x19, x20, rfl, h⟩
  exact hq _ _ _ _ _ _ h
theorem K4.ends {W1 : World} {G H : Nat} {r : Bool} {y0 y1 y2 y3 y4 y5 y6 y7 y8 y9 y10 y11 y12 y13 y14 y15 y16 : Value} {mm_ : Nat} {Q : Exit → Act → World → Prop} (hq : ∀ x17 x18 x19 x20 (L : Nat → Bool) (W : World), (∀ j, j < mm_ → L j = true) → K4 W1 G H r L x17 x18 x19 x20 W → Q .normal ⟨#[y0, y1, y2, y3, y4, y5, y6, y7, y8, y9, y10, y11, y12, y13, y14, y15, y16, x17, x18, x19, x20], []⟩ W) : ∀ L a' w', (∀ j, j < mm_ → L j = true) → IK4 W1 G H r y0 y1 y2 y3 y4 y5 y6 y7 y8 y9 y10 y11 y12 y13 y14 y15 y16 L a' w' → Q .normal a' w' := by
  rintro L a W hall ⟨x17, x18, x19, x20, rfl, h⟩
  exact hq _ _ _ _ _ _ hall h
set_option maxHeartbeats 1000000 in
set_option maxRecDepth 100000 in
theorem ccheck_any (w : World) (ko : Option Addr) (kn kc : Nat) (key : List By) (hkn : key.length = kn) (hki : IsB w ko key) (hkk : (ko = none → kc = 0) ∧ kn ≤ kc) (hkb : kn ≤ 140737488351232) (no : Option Addr) (nb nc : Nat) (nonce : List By) (hnb : nonce.length = nb) (hni : IsB w no nonce) (hnn : (no = none → nc = 0) ∧ nb ≤ nc) (hbig : nb ≤ 140737488351232)
    (ao : Option Addr) (n cap B off : Nat) (xs : List EvV) (hn : xs.length = n) (hn47 : n ≤ 140737488355328) (hao : 0 < n → ao = some ⟨B, off, none⟩) (hin : EvIn w B off xs) (q : List By) (hq : q.length = 32) :
    Calls Try.prog 15 #[.slice ko kn kc, .slice no nb nc, .slice ao n cap, .agg (q.map B8).toArray] w fun e w' => e = .returned (.int .i64 (chk key nonce xs q)) ∧ Below w.heap.size w w' := by
  have b0 : ∀ o1, Below w.heap.size w (w.alloc o1) := fun o1 => (Below.refl _ _).alloc (Nat.le_refl _) _
  by_cases hm : 1024 < n
  · have i1 : (1024 : Int) < (n : Int) := by omega
    have HC : Hid (chk key nonce xs q = 3) := by show _ = _; unfold chk; rw [if_pos (by omega)]
    have HB := b0 (.cells (q.map B8).toArray 32)
    clear hin hki hni b0
    go_enter Try.func15, Try.ntmps15
    go_wp2
    go_ret
    exact ⟨by rw [HC.out]; rfl, HB⟩
  have i1 : ¬ (1024 : Int) < (n : Int) := by omega
  have HC : Hid (chk key nonce xs q = if quot key nonce xs = q then 0 else 19) := by show _ = _; unfold chk; rw [if_neg (by omega)]
  obtain ⟨W1, hW1⟩ : ∃ W1, W1 = w.alloc (.cells (q.map B8).toArray 32) := ⟨_, rfl⟩
  have b1 : Below w.heap.size w W1 := by rw [hW1]; exact b0 _
  have QU := cquote_any W1 ko kn kc key hkn (hki.below b1 (Nat.le_refl _)) hkk hkb no nb nc nonce hnb (hni.below b1 (Nat.le_refl _)) hnn hbig ao n cap B off xs hn hn47 hao (hin.keep b1)
  have hql : (quot key nonce xs).length = 32 := shaLen _
  have R1 : Row W1 w.heap.size 32 (q.map B8) := by rw [hW1]; exact Row.at w _ _ _ _ rfl rfl
  obtain ⟨r, hr⟩ : ∃ r, r = decide (quot key nonce xs = q) := ⟨_, rfl⟩
  have EQ : Hid (∀ W g1 g2, Row W g1 32 ((quot key nonce xs).map B8) → Row W g2 32 (q.map B8) → Calls Try.prog 30 #[.slice (some ⟨g1, 0, none⟩) 32 32, .slice (some ⟨g2, 0, none⟩) 32 32] W fun e w' => e = .returned (.bool r) ∧ Below W.heap.size W w') := fun W g1 g2 h1 h2 => by
    rw [hr]
    refine (equal_any (some ⟨g1, 0, none⟩) (some ⟨g2, 0, none⟩) 32 32 32 32 (quot key nonce xs) q hql hq W (row_isb h1) (row_isb h2) (by omega) (by omega)).mono ?_
    rintro e w' ⟨e1, e2⟩
    exact ⟨e1, by first | exact e2 | (rw [e2]; exact Below.refl _ _) | exact Below_dr (Below.refl _ _) e2⟩
  have HR : Hid (r = decide (quot key nonce xs = q)) := hr
  clear hr hin hki hni b0 hn hnb hkn hao hkk hnn
  generalize hQQ : quot key nonce xs = QQ at *
  clear hQQ
  generalize hQC : q.map B8 = QC at *
  clear hQC
  go_enter Try.func15, Try.ntmps15
  go_wp2_with fail
  rw [← hW1]
  refine QU.mono ?_
  clear QU hW1
  rintro e w2 ⟨rfl, hb2⟩
  dsimp only
  have r2 := R1.below hb2 R1.lt
  have b2 : Below w.heap.size w w2 := b1.trans (hb2.mono b1.size)
  clear hb2 R1 b1
  obtain ⟨H, hH⟩ : ∃ H, H = w2.heap.size := ⟨_, rfl⟩
  have ZR : Hid (Row (w2.alloc (.cells z32.toArray 32)) H 32 z32) := Row.at w2 _ _ _ _ hH rfl
  have HH : Hid (H = w2.heap.size) := hH
  clear hH
  go_wp2_with (first
    | (rw [← HH.out]; refine wpList_store_Row rfl 32 _ _ rfl H 32 0 z32 (QQ.map B8) ZR.out (by simp [hql]) rfl rfl (by rw [List.length_map, hql]; kernel_rfl) (B8_one _) ?_; intro w3 hr3 hs3))
  have r3 := row_whole hr3 (by simp [hql])
  have hHs := HH.out
  have hl2 := r2.lt
  have q3 : Row w3 w.heap.size 32 QC := (r2.alloc _).but hs3 (by omega)
  have b3 : Hid (Below w.heap.size w w3) := hs3.below (b2.alloc b2.size _) (by have := b2.size; omega)
  have R3 : Hid (Row w3 H 32 (QQ.map B8)) := r3
  have Q3 : Hid (Row w3 w.heap.size 32 QC) := q3
  clear hr3 hs3 r3 q3 r2 b2 ZR HH hHs hl2
  generalize hG : w.heap.size = G at *
  refine wp_region_inv (IK4 w3 G H r _ _ _ _ _ _ _ _ _ _ _ _ _ _ _ _ _) (by kernel_rfl) (by kernel_rfl) ⟨_, _, _, _, rfl, ⟨(Below.refl _ _).drew, fun k => (by cases k), fun k => (by cases k), fun k => (by cases k), fun k => (by cases k)⟩⟩ ?_ ?_
  · refine .cons ?_ (.cons ?_ (.cons ?_ (.cons ?_ .nil)))
    all_goals (refine K4.step ?_; intro x17 x18 x19 x20 L W hI hL hd K hK)
    · rw [if_pos (by rfl)]
      go_simp
      exact hK.out _ _ ⟨_, _, _, _, rfl, hI.s0⟩
    · rw [if_pos (by rfl)]
      go_simp
      exact hK.out _ _ ⟨_, _, _, _, rfl, hI.s1⟩
    · have hx0 := hI.p0 (hd 0 (by decide))
      subst hx0
      have hx1 := hI.p1 (hd 1 (by decide))
      subst hx1
      rw [if_pos (by rfl)]
      go_simp
      refine (EQ.out _ _ _ (R3.out.below hI.x R3.out.lt) (Q3.out.below hI.x Q3.out.lt)).mono ?_
      rintro e W2 ⟨rfl, b2⟩
      go_simp
      have hX := hI.x.trans (b2.mono hI.x.size)
      exact hK.out _ _ ⟨_, _, _, _, rfl, hI.s2 hX⟩
    · have hx2 := hI.p2 (hd 2 (by decide))
      subst hx2
      rw [if_pos (by rfl)]
      go_simp
      exact hK.out _ _ ⟨_, _, _, _, rfl, hI.s3⟩
  · refine K4.ends ?_; intro x17 x18 x19 x20 L W hall hI
    have hx0 := hI.p0 (hall 0 (by decide))
    subst hx0
    have hx1 := hI.p1 (hall 1 (by decide))
    subst hx1
    have hx2 := hI.p2 (hall 2 (by decide))
    subst hx2
    have hx3 := hI.p3 (hall 3 (by decide))
    subst hx3
    have hXe := hI.x
    clear hI hall
    try dsimp only
    have HBF : Hid (Below w.heap.size w W) := by rw [← hG] at b3; exact b3.out.trans (hXe.mono b3.out.size)
    clear hXe EQ R3 Q3 b3
    rw [← hG]
    cases r with
    | true =>
      have HE : Hid (chk key nonce xs q = 0) := by
        show _ = _
        rw [HC.out, if_pos (of_decide_eq_true HR.out.symm)]
      go_wp2
      go_ret
      exact ⟨by rw [HE.out]; rfl, HBF.out⟩
    | false =>
      have HE : Hid (chk key nonce xs q = 19) := by
        show _ = _
        rw [HC.out, if_neg (of_decide_eq_false HR.out.symm)]
      go_wp2
      go_ret
      exact ⟨by rw [HE.out]; rfl, HBF.out⟩
end Go.Proofs.Ythegfkcegmeklaa
