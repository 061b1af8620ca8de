import Derived.Test.YtgpnbiaghokjkaaDoorD21Str

/-! Layer 21, the document's answer: number, bytes, first. (Printed by tools/gend21.py.) -/
namespace Go.Proofs.YtgpnbiaghokjkaaDoor
open Go.RowKit
set_option linter.unusedVariables false
set_option linter.unusedSimpArgs false
set_option maxRecDepth 100000

theorem u8_in (x : Int) (h0 : 0 ≤ x) (h1 : x < 256) : IntKind.u8.wrap x = x := by
  unfold IntKind.wrap
  simp [IntKind.signed, IntKind.bits]
  omega

set_option maxHeartbeats 1000000 in
theorem r21number_small (n : Nat) (hn : n < 10) (w : World) :
    Calls Tryd.prog 24 #[.int .i64 (n : Int)] w fun e w' => e = .returned (.string (strOf [dg n])) ∧ Below w.heap.size w w' := by
  have y1 : (n : Int) < 10 := by omega
  have hd : ((48 : Int) + (n : Int)) = ((dg n).toNat : Int) := by rw [dg_nat]; omega
  have w1 : IntKind.i64.wrap (48 + (n : Int)) = 48 + (n : Int) := i64_in _ (by omega) (by omega)
  have w2 : IntKind.u8.wrap (48 + (n : Int)) = 48 + (n : Int) := u8_in _ (by omega) (by omega)
  have cv := conv_bytes (w.alloc (.cells #[.int .u8 (48 + (n : Int))] 5)) (some ⟨w.heap.size, 0, none⟩) 1 1 [dg n] rfl (own_IsB (own_one w.heap.size w (dg n) (Nat.le_refl _) _ hd))
  have hb : Below w.heap.size w (w.alloc (.cells #[.int .u8 (48 + (n : Int))] 5)) := (Below.refl _ _).alloc (Nat.le_refl _) _
  clear hd
  generalize strOf [dg n] = SS at *
  go_enter Tryd.func24, Tryd.ntmps24
  go_wp2
  go_ret
  exact ⟨rfl, hb⟩

structure Nu3 (W1 : World) (n ND NM : Nat) (D : By) (l : List By) (L : Nat → Bool) (x10 x11 x12 x13 x14 x15 x16 x17 x18 x19 x2 : Value) (W : World) : Prop where
  x : Below W1.heap.size W1 W
  p0 : L 0 = true → x10 = .int .i64 (n : Int)
  p1 : L 1 = true → x11 = .int .i64 (ND : Int)
  p2 : L 2 = true → x12 = .string (strOf l)
  p3 : L 3 = true → x13 = .int .i64 (n : Int)
  p4 : L 4 = true → x14 = .int .i64 (NM : Int)
  p5 : L 5 = true → x15 = .int .i64 (48 + (NM : Int))
  p6 : L 6 = true → x16 = .int .u8 (48 + (NM : Int))
  p7 : L 7 = true → ∃ ao c, x17 = .slice ao (1) c ∧ Own (W1.heap.size) W (.slice ao (1) c) ([D])
  p8 : L 8 = true → x18 = .string (strOf [D])
  p9 : L 9 = true → x19 = .string (strOf (l ++ [D]))
  p10 : L 10 = true → x2 = .string (strOf (l ++ [D]))
section
variable {W1 : World} {n ND NM : Nat} {D : By} {l : List By} {L : Nat → Bool} {x10 x11 x12 x13 x14 x15 x16 x17 x18 x19 x2 : Value} {W W2 : World}
end
@[reducible] def INu3 (W1 : World) (n ND NM : Nat) (D : By) (l : List By) (y0 y1 y3 y4 y5 y6 y7 y8 y9 : Value) : (Nat → Bool) → Act → World → Prop := fun L a W => ∃ x10 x11 x12 x13 x14 x15 x16 x17 x18 x19 x2, a = ⟨#[y0, y1, x2, y3, y4, y5, y6, y7, y8, y9, x10, x11, x12, x13, x14, x15, x16, x17, x18, x19], []⟩ ∧ Nu3 W1 n ND NM D l L x10 x11 x12 x13 x14 x15 x16 x17 x18 x19 x2 W
set_option maxHeartbeats 1000000 in
theorem r21number_step (n : Nat) (hn : ¬ n < 10) (hn2 : n < 9223372036854775808) (l : List By) (hl : l.length ≤ 100) (w : World)
    (HR : ∀ W, Calls Tryd.prog 24 #[.int .i64 ((n / 10 : Nat) : Int)] W fun e w' => e = .returned (.string (strOf l)) ∧ Below W.heap.size W w') :
    Calls Tryd.prog 24 #[.int .i64 (n : Int)] w fun e w' => e = .returned (.string (strOf (l ++ [dg n]))) ∧ Below w.heap.size w w' := by
  have y1 : ¬ (n : Int) < 10 := by omega
  have q1 : Int.tdiv (n : Int) 10 = ((n / 10 : Nat) : Int) := rfl
  have q2 : Int.tmod (n : Int) 10 = ((n % 10 : Nat) : Int) := rfl
  have q3 : (n : Int) / 10 = ((n / 10 : Nat) : Int) := by omega
  have q4 : (n : Int) % 10 = ((n % 10 : Nat) : Int) := by omega
  have w0 : IntKind.i64.wrap ((n / 10 : Nat) : Int) = ((n / 10 : Nat) : Int) := i64_in _ (by omega) (by omega)
  have hd : ((48 : Int) + ((n % 10 : Nat) : Int)) = ((dg n).toNat : Int) := by rw [dg_nat]; omega
  have w1 : IntKind.i64.wrap (48 + ((n % 10 : Nat) : Int)) = 48 + ((n % 10 : Nat) : Int) := i64_in _ (by omega) (by omega)
  have w2 : IntKind.u8.wrap (48 + ((n % 10 : Nat) : Int)) = 48 + ((n % 10 : Nat) : Int) := u8_in _ (by omega) (by omega)
  have HRH : Hid (∀ W, Calls Tryd.prog 24 #[.int .i64 ((n / 10 : Nat) : Int)] W fun e w' => e = .returned (.string (strOf l)) ∧ Below W.heap.size W w') := HR
  have HD : Hid (((48 : Int) + ((n % 10 : Nat) : Int)) = ((dg n).toNat : Int)) := hd
  have sa : ∀ W : World, (Op.stringOp .add (strOf l) (strOf [dg n])).run Tryd.prog W = .ok (.string (strOf (l ++ [dg n]))) W := fun W => str_add _ _ (by show l.length + 1 ≤ _; omega) W
  clear hd HR hl
  generalize dg n = D at *
  generalize n / 10 = ND at *
  generalize n % 10 = NM at *
  go_enter Tryd.func24, Tryd.ntmps24
  go_wp2_with fail
  refine wp_region_inv (INu3 w n ND NM D l _ _ _ _ _ _ _ _ _) (by kernel_rfl) (by kernel_rfl) ⟨_, _, _, _, _, _, _, _, _, _, _, rfl, ⟨(Below.refl _ _).drew, fun k => (by cases k), fun k => (by cases k), fun k => (by cases k), fun k => (by cases k), fun k => (by cases k), fun k => (by cases k), fun k => (by cases k), fun k => (by cases k), fun k => (by cases k), fun k => (by cases k), fun k => (by cases k)⟩⟩ ?_ ?_
  · refine .cons ?_ (.cons ?_ (.cons ?_ (.cons ?_ (.cons ?_ (.cons ?_ (.cons ?_ (.cons ?_ (.cons ?_ (.cons ?_ (.cons ?_ .nil))))))))))
    all_goals (rintro L _ W ⟨x10, x11, x12, x13, x14, x15, x16, x17, x18, x19, x2, rfl, hI⟩ hL hd K hK)
    · rw [if_pos (by rfl)]
      go_simp
      exact hK.out _ _ ⟨_, _, _, _, _, _, _, _, _, _, _, rfl, { hI with p0 := fun _ => rfl }⟩
    · obtain rfl := hI.p0 (hd 0 (by decide))
      rw [if_pos (by rfl)]
      go_simp
      exact hK.out _ _ ⟨_, _, _, _, _, _, _, _, _, _, _, rfl, { hI with p1 := fun _ => rfl }⟩
    · obtain rfl := hI.p1 (hd 1 (by decide))
      rw [if_pos (by rfl)]
      go_simp
      refine (HRH.out W).mono ?_
      rintro e W2 ⟨rfl, hb3⟩
      go_simp
      exact hK.out _ _ ⟨_, _, _, _, _, _, _, _, _, _, _, rfl, { hI with x := (hI.x.trans (hb3.mono hI.x.size)), p2 := fun _ => rfl, p7 := fun k => let ⟨ao, c, h1, h2⟩ := hI.p7 k; ⟨ao, c, h1, h2.keep hb3⟩ }⟩
    · rw [if_pos (by rfl)]
      go_simp
      exact hK.out _ _ ⟨_, _, _, _, _, _, _, _, _, _, _, rfl, { hI with p3 := fun _ => rfl }⟩
    · obtain rfl := hI.p3 (hd 3 (by decide))
      rw [if_pos (by rfl)]
      go_simp
      exact hK.out _ _ ⟨_, _, _, _, _, _, _, _, _, _, _, rfl, { hI with p4 := fun _ => rfl }⟩
    · obtain rfl := hI.p4 (hd 4 (by decide))
      rw [if_pos (by rfl)]
      go_simp
      exact hK.out _ _ ⟨_, _, _, _, _, _, _, _, _, _, _, rfl, { hI with p5 := fun _ => rfl }⟩
    · obtain rfl := hI.p5 (hd 5 (by decide))
      rw [if_pos (by rfl)]
      go_simp
      exact hK.out _ _ ⟨_, _, _, _, _, _, _, _, _, _, _, rfl, { hI with p6 := fun _ => rfl }⟩
    · obtain rfl := hI.p6 (hd 6 (by decide))
      rw [if_pos (by rfl)]
      have hb3 : Below W.heap.size W (W.alloc (.cells #[.int .u8 (48 + (NM : Int))] 5)) := (Below.refl _ _).alloc (Nat.le_refl _) _
      have ho3 : ∃ ao c, (Value.slice (some ⟨W.heap.size, 0, none⟩) 1 1) = .slice ao 1 c ∧ Own w.heap.size (W.alloc (.cells #[.int .u8 (48 + (NM : Int))] 5)) (.slice ao 1 c) [D] := ⟨_, _, rfl, own_one w.heap.size W D hI.x.size _ HD.out⟩
      go_simp
      exact hK.out _ _ ⟨_, _, _, _, _, _, _, _, _, _, _, rfl, { hI with x := (hI.x.trans (hb3.mono hI.x.size)), p7 := fun _ => ho3 }⟩
    · obtain ⟨ao7, c7, hx7, ho7⟩ := hI.p7 (hd 7 (by decide))
      subst hx7
      rw [if_pos (by rfl)]
      have cv := conv_bytes W ao7 1 c7 [D] rfl (own_IsB ho7)
      go_simp
      exact hK.out _ _ ⟨_, _, _, _, _, _, _, _, _, _, _, rfl, { hI with p8 := fun _ => rfl }⟩
    · obtain rfl := hI.p2 (hd 2 (by decide))
      obtain rfl := hI.p8 (hd 8 (by decide))
      rw [if_pos (by rfl)]
      go_simp
      exact hK.out _ _ ⟨_, _, _, _, _, _, _, _, _, _, _, rfl, { hI with p9 := fun _ => rfl }⟩
    · obtain rfl := hI.p9 (hd 9 (by decide))
      rw [if_pos (by rfl)]
      go_simp
      exact hK.out _ _ ⟨_, _, _, _, _, _, _, _, _, _, _, rfl, { hI with p10 := fun _ => rfl }⟩
  · rintro L _ W hall ⟨x10, x11, x12, x13, x14, x15, x16, x17, x18, x19, x2, rfl, hI⟩
    obtain rfl := hI.p0 (hall 0 (by decide))
    obtain rfl := hI.p1 (hall 1 (by decide))
    obtain rfl := hI.p2 (hall 2 (by decide))
    obtain rfl := hI.p3 (hall 3 (by decide))
    obtain rfl := hI.p4 (hall 4 (by decide))
    obtain rfl := hI.p5 (hall 5 (by decide))
    obtain rfl := hI.p6 (hall 6 (by decide))
    obtain ⟨ao7, c7, hx7, ho7⟩ := hI.p7 (hall 7 (by decide))
    subst hx7
    obtain rfl := hI.p8 (hall 8 (by decide))
    obtain rfl := hI.p9 (hall 9 (by decide))
    obtain rfl := hI.p10 (hall 10 (by decide))
    have hXe := hI.x
    clear hI hall
    try dsimp only
    have hX2 := hXe
    go_wp2
    go_ret
    exact ⟨rfl, hX2⟩

theorem r21number_F : ∀ (k n : Nat) (w : World), n < 10 ^ (k + 1) → k ≤ 50 → n < 9223372036854775808 → Calls Tryd.prog 24 #[.int .i64 (n : Int)] w fun e w' => e = .returned (.string (strOf (numF k n))) ∧ Below w.heap.size w w'
  | 0, n, w, hn, hk, h63 => r21number_small n (by omega) w
  | k + 1, n, w, hn, hk, h63 => by
    rw [numF]
    split
    · rename_i h; exact r21number_small n h w
    · rename_i h
      have hn2 : n / 10 < 10 ^ (k + 1) := by rw [Nat.pow_succ] at hn; omega
      have hl : (numF k (n / 10)).length ≤ k + 1 := (numF_len k (n / 10) k (Nat.le_refl _) hn2).2
      exact r21number_step n h h63 (numF k (n / 10)) (by omega) w fun W => r21number_F k (n / 10) W hn2 (by omega) (by omega)
theorem r21number_any (n : Nat) (w : World) (hn : n < 9223372036854775808) : Calls Tryd.prog 24 #[.int .i64 (n : Int)] w fun e w' => e = .returned (.string (strOf (num n))) ∧ Below w.heap.size w w' := r21number_F 20 n w (by omega) (by omega) hn
theorem num_len {n : Nat} (h : n < 9223372036854775808) : (num n).length ≤ 19 := (numF_len 20 n 18 (by omega) (by omega)).2

/-- A digit of base sixteen, out of the row of them. -/
def hexD : List By := [48#8, 49#8, 50#8, 51#8, 52#8, 53#8, 54#8, 55#8, 56#8, 57#8, 97#8, 98#8, 99#8, 100#8, 101#8, 102#8]
theorem k_digits : ({ data := #[48, 49, 50, 51, 52, 53, 54, 55, 56, 57, 97, 98, 99, 100, 101, 102] } : ByteArray) = strOf hexD := rfl
theorem hexD_get : ∀ i, i < 16 → hexD.getD i 0 = hx i := by decide +kernel
theorem hexC_step (x : List By) (i : Nat) (hi : i < x.length) : hexC (x.take (i + 1)) = hexC (x.take i) ++ hexB (x.getD i 0) := by
  unfold hexC
  rw [List.take_add_one, List.getElem?_eq_getElem hi, List.flatMap_append, List.getD_eq_getElem?_getD, List.getElem?_eq_getElem hi]
  simp
end Go.Proofs.YtgpnbiaghokjkaaDoor


/-! Layer 21, the document's answer: between, May, pages, fuses, blank. -/
namespace Go.Proofs.YtgpnbiaghokjkaaDoor
open Go.RowKit
set_option linter.unusedVariables false
set_option linter.unusedSimpArgs false
set_option maxRecDepth 100000

set_option maxHeartbeats 1000000 in
theorem r21between_any (n lo hi : Int) (b : Bool) (hb : decide (lo ≤ n ∧ n ≤ hi) = b) (w : World) :
    Calls Tryd.prog 41 #[.int .i64 n, .int .i64 lo, .int .i64 hi] w fun e w' => e = .returned (.bool b) ∧ w' = w := by
  have HB : Hid (decide (lo ≤ n ∧ n ≤ hi) = b) := hb
  clear hb
  by_cases h1 : lo ≤ n
  · have b1 : decide (lo ≤ n) = true := by simpa using h1
    by_cases h2 : n ≤ hi
    · have b2 : decide (n ≤ hi) = true := by simpa using h2
      go_enter Tryd.func41, Tryd.ntmps41
      go_wp2
      go_ret
      exact ⟨by rw [← HB.out]; simp [h1, h2], rfl⟩
    · have b2 : decide (n ≤ hi) = false := by simpa using h2
      go_enter Tryd.func41, Tryd.ntmps41
      go_wp2
      go_ret
      exact ⟨by rw [← HB.out]; simp [h1, h2], rfl⟩
  · have b1 : decide (lo ≤ n) = false := by simpa using h1
    go_enter Tryd.func41, Tryd.ntmps41
    go_wp2
    go_ret
    exact ⟨by rw [← HB.out]; simp; omega, rfl⟩

set_option maxHeartbeats 2000000 in
theorem r21may_any (c : Cfg) (w : World) :
    Calls Tryd.prog 21 #[.agg c.vals.toArray] w fun e w' => e = .returned (.bool (decide (c.may = 0))) ∧ Below w.heap.size w w' := by
  obtain ⟨b1, h1⟩ : ∃ b, decide (1 ≤ c.slots ∧ c.slots ≤ 8) = b := ⟨_, rfl⟩
  obtain ⟨b2, h2⟩ : ∃ b, decide (c.slots + 3 ≤ c.cells ∧ c.cells ≤ 256) = b := ⟨_, rfl⟩
  obtain ⟨b3, h3⟩ : ∃ b, decide (1 ≤ c.fuses ∧ c.fuses ≤ 64) = b := ⟨_, rfl⟩
  obtain ⟨b4, h4⟩ : ∃ b, decide (1 ≤ c.step ∧ c.step ≤ 65536) = b := ⟨_, rfl⟩
  obtain ⟨b5, h5⟩ : ∃ b, decide (1 ≤ c.keys ∧ c.keys ≤ 64) = b := ⟨_, rfl⟩
  obtain ⟨b6, h6⟩ : ∃ b, decide (0 ≤ c.erases ∧ c.erases ≤ 65536) = b := ⟨_, rfl⟩
  obtain ⟨b7, h7⟩ : ∃ b, decide (0 ≤ c.area ∧ c.area ≤ 64) = b := ⟨_, rfl⟩
  have HM : Hid (decide (c.may = 0) = ((b1 && (b2 && (b3 && b4))) && (b5 && (b6 && b7)))) := by
    show _ = _
    simp only [Cfg.may, Cfg.a, Cfg.b, h1, h2, h3, h4, h5, h6, h7]
    cases ((b1 && (b2 && (b3 && b4))) && (b5 && (b6 && b7))) <;> rfl
  have W1 := fun w => r21between_any c.slots 1 8 b1 h1 w
  have W2 := fun w => r21between_any c.cells (c.slots + 3) 256 b2 h2 w
  have W3 := fun w => r21between_any c.fuses 1 64 b3 h3 w
  have W4 := fun w => r21between_any c.step 1 65536 b4 h4 w
  have W5 := fun w => r21between_any c.keys 1 64 b5 h5 w
  have W6 := fun w => r21between_any c.erases 0 65536 b6 h6 w
  have W7 := fun w => r21between_any c.area 0 64 b7 h7 w
  have hsl : b1 = true → 1 ≤ c.slots ∧ c.slots ≤ 8 := fun e => by rw [e] at h1; simpa using h1
  have HSL : Hid (b1 = true → 1 ≤ c.slots ∧ c.slots ≤ 8) := hsl
  clear h1 h2 h3 h4 h5 h6 h7 hsl
  generalize decide (c.may = 0) = MB at *
  obtain ⟨cells, slots, fuses, step, keys, erases, area⟩ := c
  simp only [Cfg.vals] at *
  have r0 : Row (w.alloc (.cells #[.int .i64 cells, .int .i64 slots, .int .i64 fuses, .int .i64 step, .int .i64 keys, .int .i64 erases, .int .i64 area] 24)) w.heap.size 24 [.int .i64 cells, .int .i64 slots, .int .i64 fuses, .int .i64 step, .int .i64 keys, .int .i64 erases, .int .i64 area] := Row.at _ _ _ _ _ rfl rfl
  have hb0 : Below w.heap.size w (w.alloc (.cells #[.int .i64 cells, .int .i64 slots, .int .i64 fuses, .int .i64 step, .int .i64 keys, .int .i64 erases, .int .i64 area] 24)) := (Below.refl _ _).alloc (Nat.le_refl _) _
  obtain ⟨W0, hW0⟩ : ∃ W0, W0 = w.alloc (.cells #[.int .i64 cells, .int .i64 slots, .int .i64 fuses, .int .i64 step, .int .i64 keys, .int .i64 erases, .int .i64 area] 24) := ⟨_, rfl⟩
  rw [← hW0] at r0 hb0
  have c0 := r0.cell 0 _ rfl
  have c1 := r0.cell 1 _ rfl
  have c2 := r0.cell 2 _ rfl
  have c3 := r0.cell 3 _ rfl
  have c4 := r0.cell 4 _ rfl
  have c5 := r0.cell 5 _ rfl
  have c6 := r0.cell 6 _ rfl
  clear r0
  go_enter Tryd.func21, Tryd.ntmps21
  go_upto_region 1 with fail
  rw [← hW0]
  clear hW0
  go_wp2_with fail
  refine (W1 _).mono ?_
  rintro e w1 ⟨rfl, hw1⟩
  obtain rfl := hw1.symm
  dsimp only
  cases b1
  · go_wp2
    go_ret
    exact ⟨by rw [HM.out]; rfl, hb0⟩
  obtain ⟨q1, q2⟩ := HSL.out rfl
  have wq : IntKind.i64.wrap (slots + 3) = slots + 3 := i64_in _ (by omega) (by omega)
  go_wp2_with fail
  refine (W2 _).mono ?_
  rintro e w2 ⟨rfl, hw2⟩
  obtain rfl := hw2.symm
  dsimp only
  cases b2
  · go_wp2
    go_ret
    exact ⟨by rw [HM.out]; rfl, hb0⟩
  go_wp2_with fail
  refine (W3 _).mono ?_
  rintro e w3 ⟨rfl, hw3⟩
  obtain rfl := hw3.symm
  dsimp only
  cases b3
  · go_wp2
    go_ret
    exact ⟨by rw [HM.out]; rfl, hb0⟩
  go_wp2_with fail
  refine (W4 _).mono ?_
  rintro e w4 ⟨rfl, hw4⟩
  obtain rfl := hw4.symm
  dsimp only
  cases b4
  · go_wp2
    go_ret
    exact ⟨by rw [HM.out]; rfl, hb0⟩
  go_wp2_with fail
  refine (W5 _).mono ?_
  rintro e w5 ⟨rfl, hw5⟩
  obtain rfl := hw5.symm
  dsimp only
  cases b5
  · go_wp2
    go_ret
    exact ⟨by rw [HM.out]; rfl, hb0⟩
  go_wp2_with fail
  refine (W6 _).mono ?_
  rintro e w6 ⟨rfl, hw6⟩
  obtain rfl := hw6.symm
  dsimp only
  cases b6
  · go_wp2
    go_ret
    exact ⟨by rw [HM.out]; rfl, hb0⟩
  go_wp2_with fail
  refine (W7 _).mono ?_
  rintro e w7 ⟨rfl, hw7⟩
  obtain rfl := hw7.symm
  dsimp only
  cases b7 <;> (go_wp2; go_ret; exact ⟨by rw [HM.out]; rfl, hb0⟩)

set_option maxHeartbeats 1000000 in
theorem r21pages_any (c : Cfg) (h0 : 0 ≤ c.area) (h1 : c.area ≤ 64) (w : World) :
    Calls Tryd.prog 32 #[.agg c.vals.toArray] w fun e w' => e = .returned (.int .i64 (2 + 2 * c.area)) ∧ Below w.heap.size w w' := by
  have r0 := Row.at w 24 c.vals _ _ rfl rfl
  have b1 : Below w.heap.size w (w.alloc (.cells c.vals.toArray 24)) := (Below.refl _ _).alloc (Nat.le_refl _) _
  have c6 := r0.cell 6 (.int .i64 c.area) rfl
  have y1 : IntKind.i64.wrap (2 * c.area) = 2 * c.area := i64_in _ (by omega) (by omega)
  have y2 : IntKind.i64.wrap (2 + 2 * c.area) = 2 + 2 * c.area := i64_in _ (by omega) (by omega)
  clear r0
  generalize c.vals = CV at *
  generalize c.area = AR at *
  go_enter Tryd.func32, Tryd.ntmps32
  go_wp2
  go_ret
  exact ⟨rfl, b1⟩
set_option maxHeartbeats 1000000 in
theorem r21fuses_any (c : Cfg) (hm : 1 ≤ c.slots * c.fuses ∧ c.slots * c.fuses ≤ 512) (h0 : 1 ≤ c.keys) (h1 : c.keys ≤ 64) (w : World) :
    Calls Tryd.prog 42 #[.agg c.vals.toArray] w fun e w' => e = .returned (.int .i64 (c.slots * c.fuses + c.keys)) ∧ Below w.heap.size w w' := by
  have r0 := Row.at w 24 c.vals _ _ rfl rfl
  have b1 : Below w.heap.size w (w.alloc (.cells c.vals.toArray 24)) := (Below.refl _ _).alloc (Nat.le_refl _) _
  have c1 := r0.cell 1 (.int .i64 c.slots) rfl
  have c2 := r0.cell 2 (.int .i64 c.fuses) rfl
  have c4 := r0.cell 4 (.int .i64 c.keys) rfl
  have y1 : IntKind.i64.wrap (c.slots * c.fuses) = c.slots * c.fuses := i64_in _ (by omega) (by omega)
  have y2 : IntKind.i64.wrap (c.slots * c.fuses + c.keys) = c.slots * c.fuses + c.keys := i64_in _ (by omega) (by omega)
  clear r0
  generalize c.vals = CV at *
  generalize c.slots = SL at *
  generalize c.fuses = FZ at *
  generalize c.keys = KS at *
  generalize hSF : SL * FZ = SF at *
  go_enter Tryd.func42, Tryd.ntmps42
  go_wp2
  go_ret
  exact ⟨rfl, b1⟩

theorem blank_ne {x : List By} {i : Nat} (hx : x.length = 32) (hi : i < 32) (h : ¬ x.getD i 0 = 255#8) : ¬ x = List.replicate 32 255#8 := fun e => h (by rw [e, List.getD_eq_getElem?_getD, List.getElem?_replicate, if_pos hi]; rfl)
theorem blank_all {x : List By} (hx : x.length = 32) (h : ∀ i, i < 32 → x.getD i 0 = 255#8) : x = List.replicate 32 255#8 := by
  apply List.ext_getElem (by simp [hx])
  intro i h1 h2
  have := h i (by omega)
  rw [List.getD_eq_getElem?_getD, List.getElem?_eq_getElem h1] at this
  rw [List.getElem_replicate]
  exact this
set_option maxHeartbeats 1000000 in
theorem r21blank_any (x : List By) (hx : x.length = 32) (w : World) :
    Calls Tryd.prog 25 #[.agg (x.map B8).toArray] w fun e w' => e = .returned (.bool (decide (x = List.replicate 32 255#8))) ∧ Below w.heap.size w w' := by
  have r0 := Row.at w 56 (x.map B8) _ _ rfl rfl
  have b1 : Below w.heap.size w (w.alloc (.cells (x.map B8).toArray 56)) := (Below.refl _ _).alloc (Nat.le_refl _) _
  have HC : Hid (∀ W, W = w.alloc (.cells (x.map B8).toArray 56) → ∀ i : Nat, i < 32 → W.cell? ⟨w.heap.size, i, none⟩ = some (.int .u8 ((x.getD i 0).toNat : Int))) := by
    rintro W rfl i hi
    exact r0.cell i _ (by rw [List.getElem?_map, List.getElem?_eq_getElem (by omega), List.getD_eq_getElem?_getD, List.getElem?_eq_getElem (by omega)]; rfl)
  have HN : Hid (∀ i, i < 32 → ¬ x.getD i 0 = 255#8 → decide (x = List.replicate 32 255#8) = false) := fun i hi h => decide_eq_false (blank_ne hx hi h)
  have HY : Hid ((∀ i, i < 32 → x.getD i 0 = 255#8) → decide (x = List.replicate 32 255#8) = true) := fun h => decide_eq_true (blank_all hx h)
  clear r0
  generalize decide (x = List.replicate 32 255#8) = R at *
  go_enter Tryd.func25, Tryd.ntmps25
  go_wp2_with fail
  generalize hW0 : w.alloc (.cells (x.map B8).toArray 56) = W0 at *
  go_loopw [3] (fun iv wr => ∃ i : Nat, i ≤ 32 ∧ iv = .int .i64 i ∧ wr = W0 ∧ Hid (∀ j, j < i → x.getD j 0 = 255#8)) (fun iv _ => 32 - (intOf iv).toNat)
  case atStart => exact ⟨0, by omega, rfl, rfl, fun j hj => by omega⟩
  case round =>
    obtain ⟨i, hi, rfl, rfl, HT⟩ := hrel
    by_cases hlt : i < 32
    · have y0 : (0 : Int) ≤ (i : Int) := by omega
      have y1 : (i : Int) < 32 := by omega
      have cc := HC.out _ rfl i hlt
      by_cases hb : x.getD i 0 = 255#8
      · have HS : Hid (∀ j, j < i + 1 → x.getD j 0 = 255#8) := fun j hj => by
          by_cases e : j = i
          · rw [e]; exact hb
          · exact HT.out j (by omega)
        rw [hb] at cc
        clear HT hb
        go_wp2
        exact ⟨⟨i + 1, by omega, by go_num, by first | trivial | rfl, HS⟩, by simp [intOf]; omega⟩
      · have HF : Hid (R = false) := HN.out i hlt hb
        have hq : (((x.getD i 0).toNat : Int) != 255) = true := by
          rw [bne_iff_ne]
          intro e
          exact hb (BitVec.eq_of_toNat_eq (by show (x.getD i 0).toNat = 255; omega))
        clear HT hb
        generalize (x.getD i 0).toNat = y at *
        go_wp2
        go_ret
        exact ⟨by rw [HF.out]; rfl, b1⟩
    · obtain rfl : i = 32 := by omega
      have HF : Hid (R = true) := HY.out HT.out
      clear HT
      go_wp2
      go_ret
      exact ⟨by rw [HF.out]; rfl, b1⟩
end Go.Proofs.YtgpnbiaghokjkaaDoor
