
import Derived.Test.YtgpnbiaghokjkaaDoorD21Str
/-! Layer 21, the document's answer: number, bytes, first. (Printed by tools/gend21.py.) -/
namespace Go.Proofs.YtgpnbiaghokjkaaDoor
open Go.RowKit
set_option linter.unusedVariables false
set_option linter.unusedSimpArgs false
set_option maxRecDepth 100000

theorem u8_in (x : Int) (h0 : 0 ≤ x) (h1 : x < 256) : IntKind.u8.wrap x = x := by
  unfold IntKind.wrap
  simp [IntKind.signed, IntKind.bits]
  omega

set_option maxHeartbeats 1000000 in
theorem r21number_small (n : Nat) (hn : n < 10) (w : World) :
    Calls Tryd.prog 24 #[.int .i64 (n : Int)] w fun e w' => e = .returned (.string (strOf [dg n])) ∧ Below w.heap.size w w' := by
  have y1 : (n : Int) < 10 := by omega
  have hd : ((48 : Int) + (n : Int)) = ((dg n).toNat : Int) := by rw [dg_nat]; omega
  have w1 : IntKind.i64.wrap (48 + (n : Int)) = 48 + (n : Int) := i64_in _ (by omega) (by omega)
  have w2 : IntKind.u8.wrap (48 + (n : Int)) = 48 + (n : Int) := u8_in _ (by omega) (by omega)
  have cv := conv_bytes (w.alloc (.cells #[.int .u8 (48 + (n : Int))] 5)) (some ⟨w.heap.size, 0, none⟩) 1 1 [dg n] rfl (own_IsB (own_one w.heap.size w (dg n) (Nat.le_refl _) _ hd))
  have hb : Below w.heap.size w (w.alloc (.cells #[.int .u8 (48 + (n : Int))] 5)) := (Below.refl _ _).alloc (Nat.le_refl _) _
  clear hd
  generalize strOf [dg n] = SS at *
  go_enter Tryd.func24, Tryd.ntmps24
  go_wp2
  go_ret
  exact ⟨rfl, hb⟩

structure Nu3 (W1 : World) (n ND NM : Nat) (D : By) (l : List By) (L : Nat → Bool) (x10 x11 x12 x13 x14 x15 x16 x17 x18 x19 x2 : Value) (W : World) : Prop where
  x : Below W1.heap.size W1 W
  p0 : L 0 = true → x10 = .int .i64 (n : Int)
  p1 : L 1 = true → x11 = .int .i64 (ND : Int)
  p2 : L 2 = true → x12 = .string (strOf l)
  p3 : L 3 = true → x13 = .int .i64 (n : Int)
  p4 : L 4 = true → x14 = .int .i64 (NM : Int)
  p5 : L 5 = true → x15 = .int .i64 (48 + (NM : Int))
  p6 : L 6 = true → x16 = .int .u8 (48 + (NM : Int))
  p7 : L 7 = true → ∃ ao c, x17 = .slice ao (1) c ∧ Own (W1.heap.size) W (.slice ao (1) c) ([D])
  p8 : L 8 = true → x18 = .string (strOf [D])
  p9 : L 9 = true → x19 = .string (strOf (l ++ [D]))
  p10 : L 10 = true → x2 = .string (strOf (l ++ [D]))
section
variable {W1 : World} {n ND NM : Nat} {D : By} {l : List By} {L : Nat → Bool} {x10 x11 x12 x13 x14 x15 x16 x17 x18 x19 x2 : Value} {W W2 : World}
theorem Nu3.s0 (h : Nu3 W1 n ND NM D l L x10 x11 x12 x13 x14 x15 x16 x17 x18 x19 x2 W) : Nu3 W1 n ND NM D l (upd L 0) (.int .i64 (n : Int)) x11 x12 x13 x14 x15 x16 x17 x18 x19 x2 W :=
  ⟨h.x, fun _ => rfl, h.p1, h.p2, h.p3, h.p4, h.p5, h.p6, h.p7, h.p8, h.p9, h.p10⟩
theorem Nu3.s1 (h : Nu3 W1 n ND NM D l L x10 x11 x12 x13 x14 x15 x16 x17 x18 x19 x2 W) : Nu3 W1 n ND NM D l (upd L 1) x10 (.int .i64 (ND : Int)) x12 x13 x14 x15 x16 x17 x18 x19 x2 W :=
  ⟨h.x, h.p0, fun _ => rfl, h.p2, h.p3, h.p4, h.p5, h.p6, h.p7, h.p8, h.p9, h.p10⟩
theorem Nu3.s2 (h : Nu3 W1 n ND NM D l L x10 x11 x12 x13 x14 x15 x16 x17 x18 x19 x2 W) (hX : Below W1.heap.size W1 W2) (hb3 : Below W.heap.size W W2) : Nu3 W1 n ND NM D l (upd L 2) x10 x11 (.string (strOf l)) x13 x14 x15 x16 x17 x18 x19 x2 W2 :=
  ⟨hX, h.p0, h.p1, fun _ => rfl, h.p3, h.p4, h.p5, h.p6, fun k => let ⟨ao, c, h1, h2⟩ := h.p7 k; ⟨ao, c, h1, h2.keep hb3⟩, h.p8, h.p9, h.p10⟩
theorem Nu3.s3 (h : Nu3 W1 n ND NM D l L x10 x11 x12 x13 x14 x15 x16 x17 x18 x19 x2 W) : Nu3 W1 n ND NM D l (upd L 3) x10 x11 x12 (.int .i64 (n : Int)) x14 x15 x16 x17 x18 x19 x2 W :=
  ⟨h.x, h.p0, h.p1, h.p2, fun _ => rfl, h.p4, h.p5, h.p6, h.p7, h.p8, h.p9, h.p10⟩
theorem Nu3.s4 (h : Nu3 W1 n ND NM D l L x10 x11 x12 x13 x14 x15 x16 x17 x18 x19 x2 W) : Nu3 W1 n ND NM D l (upd L 4) x10 x11 x12 x13 (.int .i64 (NM : Int)) x15 x16 x17 x18 x19 x2 W :=
  ⟨h.x, h.p0, h.p1, h.p2, h.p3, fun _ => rfl, h.p5, h.p6, h.p7, h.p8, h.p9, h.p10⟩
theorem Nu3.s5 (h : Nu3 W1 n ND NM D l L x10 x11 x12 x13 x14 x15 x16 x17 x18 x19 x2 W) : Nu3 W1 n ND NM D l (upd L 5) x10 x11 x12 x13 x14 (.int .i64 (48 + (NM : Int))) x16 x17 x18 x19 x2 W :=
  ⟨h.x, h.p0, h.p1, h.p2, h.p3, h.p4, fun _ => rfl, h.p6, h.p7, h.p8, h.p9, h.p10⟩
theorem Nu3.s6 (h : Nu3 W1 n ND NM D l L x10 x11 x12 x13 x14 x15 x16 x17 x18 x19 x2 W) : Nu3 W1 n ND NM D l (upd L 6) x10 x11 x12 x13 x14 x15 (.int .u8 (48 + (NM : Int))) x17 x18 x19 x2 W :=
  ⟨h.x, h.p0, h.p1, h.p2, h.p3, h.p4, h.p5, fun _ => rfl, h.p7, h.p8, h.p9, h.p10⟩
theorem Nu3.s7 (h : Nu3 W1 n ND NM D l L x10 x11 x12 x13 x14 x15 x16 x17 x18 x19 x2 W) {v : Value} (hX : Below W1.heap.size W1 W2) (hb3 : Below W.heap.size W W2) (ho : ∃ ao c, v = .slice ao (1) c ∧ Own (W1.heap.size) W2 (.slice ao (1) c) ([D])) : Nu3 W1 n ND NM D l (upd L 7) x10 x11 x12 x13 x14 x15 x16 v x18 x19 x2 W2 :=
  ⟨hX, h.p0, h.p1, h.p2, h.p3, h.p4, h.p5, h.p6, fun _ => ho, h.p8, h.p9, h.p10⟩
theorem Nu3.s8 (h : Nu3 W1 n ND NM D l L x10 x11 x12 x13 x14 x15 x16 x17 x18 x19 x2 W) : Nu3 W1 n ND NM D l (upd L 8) x10 x11 x12 x13 x14 x15 x16 x17 (.string (strOf [D])) x19 x2 W :=
  ⟨h.x, h.p0, h.p1, h.p2, h.p3, h.p4, h.p5, h.p6, h.p7, fun _ => rfl, h.p9, h.p10⟩
theorem Nu3.s9 (h : Nu3 W1 n ND NM D l L x10 x11 x12 x13 x14 x15 x16 x17 x18 x19 x2 W) : Nu3 W1 n ND NM D l (upd L 9) x10 x11 x12 x13 x14 x15 x16 x17 x18 (.string (strOf (l ++ [D]))) x2 W :=
  ⟨h.x, h.p0, h.p1, h.p2, h.p3, h.p4, h.p5, h.p6, h.p7, h.p8, fun _ => rfl, h.p10⟩
theorem Nu3.s10 (h : Nu3 W1 n ND NM D l L x10 x11 x12 x13 x14 x15 x16 x17 x18 x19 x2 W) : Nu3 W1 n ND NM D l (upd L 10) x10 x11 x12 x13 x14 x15 x16 x17 x18 x19 (.string (strOf (l ++ [D]))) W :=
  ⟨h.x, h.p0, h.p1, h.p2, h.p3, h.p4, h.p5, h.p6, h.p7, h.p8, h.p9, fun _ => rfl⟩
end
@[reducible] def INu3 (W1 : World) (n ND NM : Nat) (D : By) (l : List By) (y0 y1 y3 y4 y5 y6 y7 y8 y9 : Value) : (Nat → Bool) → Act → World → Prop := fun L a W => ∃ x10 x11 x12 x13 x14 x15 x16 x17 x18 x19 x2, a = ⟨#[y0, y1, x2, y3, y4, y5, y6, y7, y8, y9, x10, x11, x12, x13, x14, x15, x16, x17, x18, x19], []⟩ ∧ Nu3 W1 n ND NM D l L x10 x11 x12 x13 x14 x15 x16 x17 x18 x19 x2 W
theorem Nu3.step {W1 : World} {n ND NM : Nat} {D : By} {l : List By} {y0 y1 y3 y4 y5 y6 y7 y8 y9 : Value} {P : Program} {ops : Array Oper} {Q : Exit → Act → World → Prop} {i : Nat} {o : Oper} (hq : ∀ x10 x11 x12 x13 x14 x15 x16 x17 x18 x19 x2 (L : Nat → Bool) (W : World), Nu3 W1 n ND NM D l L x10 x11 x12 x13 x14 x15 x16 x17 x18 x19 x2 W → L i = false → (∀ j ∈ onesOf o, L j = true) → ∀ K : Act → World → Prop, Shut (∀ a' w', INu3 W1 n ND NM D l y0 y1 y3 y4 y5 y6 y7 y8 y9 (upd L i) a' w' → K a' w') → if Region.wanted o (yielded ops (⟨#[y0, y1, x2, y3, y4, y5, y6, y7, y8, y9, x10, x11, x12, x13, x14, x15, x16, x17, x18, x19], []⟩ : Act).tmps) = true then Oper.wp P o ⟨#[y0, y1, x2, y3, y4, y5, y6, y7, y8, y9, x10, x11, x12, x13, x14, x15, x16, x17, x18, x19], []⟩ W K Q else K ((⟨#[y0, y1, x2, y3, y4, y5, y6, y7, y8, y9, x10, x11, x12, x13, x14, x15, x16, x17, x18, x19], []⟩ : Act).put o.dst undef) W) : StepI P ops (INu3 W1 n ND NM D l y0 y1 y3 y4 y5 y6 y7 y8 y9) Q i o := by
  rintro L a W ⟨x10, x11, x12, x13, x14, x15, x16, x17, x18, x19, x2, rfl, h⟩
  exact hq _ _ _ _ _ _ _ _ _ _ _ _ _ h
theorem Nu3.ends {W1 : World} {n ND NM : Nat} {D : By} {l : List By} {y0 y1 y3 y4 y5 y6 y7 y8 y9 : Value} {mm_ : Nat} {Q : Exit → Act → World → Prop} (hq : ∀ x10 x11 x12 x13 x14 x15 x16 x17 x18 x19 x2 (L : Nat → Bool) (W : World), (∀ j, j < mm_ → L j = true) → Nu3 W1 n ND NM D l L x10 x11 x12 x13 x14 x15 x16 x17 x18 x19 x2 W → Q .normal ⟨#[y0, y1, x2, y3, y4, y5, y6, y7, y8, y9, x10, x11, x12, x13, x14, x15, x16, x17, x18, x19], []⟩ W) : ∀ L a' w', (∀ j, j < mm_ → L j = true) → INu3 W1 n ND NM D l y0 y1 y3 y4 y5 y6 y7 y8 y9 L a' w' → Q .normal a' w' := by
  rintro L a W hall ⟨x10, x11, x12, x13, x14, x15, x16, x17, x18, x19, x2, rfl, h⟩
  exact hq _ _ _ _ _ _ _ _ _ _ _ _ _ hall h
set_option maxHeartbeats 1000000 in
theorem r21number_step (n : Nat) (hn : ¬ n < 10) (hn2 : n < 9223372036854775808) (l : List By) (hl : l.length ≤ 100) (w : World)
    (HR : ∀ W, Calls Tryd.prog 24 #[.int .i64 ((n / 10 : Nat) : Int)] W fun e w' => e = .returned (.string (strOf l)) ∧ Below W.heap.size W w') :
    Calls Tryd.prog 24 #[.int .i64 (n : Int)] w fun e w' => e = .returned (.string (strOf (l ++ [dg n]))) ∧ Below w.heap.size w w' := by
  have y1 : ¬ (n : Int) < 10 := by omega
  have q1 : Int.tdiv (n : Int) 10 = ((n / 10 : Nat) : Int) := rfl
  have q2 : Int.tmod (n : Int) 10 = ((n % 10 : Nat) : Int) := rfl
  have q3 : (n : Int) / 10 = ((n / 10 : Nat) : Int) := by omega
  have q4 : (n : Int) % 10 = ((n % 10 : Nat) : Int) := by omega
  have w0 : IntKind.i64.wrap ((n / 10 : Nat) : Int) = ((n / 10 : Nat) : Int) := i64_in _ (by omega) (by omega)
  have hd : ((48 : Int) + ((n % 10 : Nat) : Int)) = ((dg n).toNat : Int) := by rw [dg_nat]; omega
  have w1 : IntKind.i64.wrap (48 + ((n % 10 : Nat) : Int)) = 48 + ((n % 10 : Nat) : Int) := i64_in _ (by omega) (by omega)
  have w2 : IntKind.u8.wrap (48 + ((n % 10 : Nat) : Int)) = 48 + ((n % 10 : Nat) : Int) := u8_in _ (by omega) (by omega)
  have HRH : Hid (∀ W, Calls Tryd.prog 24 #[.int .i64 ((n / 10 : Nat) : Int)] W fun e w' => e = .returned (.string (strOf l)) ∧ Below W.heap.size W w') := HR
  have HD : Hid (((48 : Int) + ((n % 10 : Nat) : Int)) = ((dg n).toNat : Int)) := hd
  have sa : ∀ W : World, (Op.stringOp .add (strOf l) (strOf [dg n])).run Tryd.prog W = .ok (.string (strOf (l ++ [dg n]))) W := fun W => str_add _ _ (by show l.length + 1 ≤ _; omega) W
  clear hd HR hl
  generalize dg n = D at *
  generalize n / 10 = ND at *
  generalize n % 10 = NM at *
  go_enter Tryd.func24, Tryd.ntmps24
  go_wp2_with fail
  refine wp_region_inv (INu3 w n ND NM D l _ _ _ _ _ _ _ _ _) (by kernel_rfl) (by kernel_rfl) ⟨_, _, _, _, _, _, _, _, _, _, _, rfl, ⟨(Below.refl _ _).drew, fun k => (by cases k), fun k => (by cases k), fun k => (by cases k), fun k => (by cases k), fun k => (by cases k), fun k => (by cases k), fun k => (by cases k), fun k => (by cases k), fun k => (by cases k), fun k => (by cases k), fun k => (by cases k)⟩⟩ ?_ ?_
  · refine .cons ?_ (.cons ?_ (.cons ?_ (.cons ?_ (.cons ?_ (.cons ?_ (.cons ?_ (.cons ?_ (.cons ?_ (.cons ?_ (.cons ?_ .nil))))))))))
    all_goals (refine Nu3.step ?_; intro x10 x11 x12 x13 x14 x15 x16 x17 x18 x19 x2 L W hI hL hd K hK)
    · rw [if_pos (by rfl)]
      go_simp
      exact hK.out _ _ ⟨_, _, _, _, _, _, _, _, _, _, _, rfl, hI.s0⟩
    · have hx0 := hI.p0 (hd 0 (by decide))
      subst hx0
      rw [if_pos (by rfl)]
      go_simp
      exact hK.out _ _ ⟨_, _, _, _, _, _, _, _, _, _, _, rfl, hI.s1⟩
    · have hx1 := hI.p1 (hd 1 (by decide))
      subst hx1
      rw [if_pos (by rfl)]
      go_simp
      refine (HRH.out W).mono ?_
      rintro e W2 ⟨rfl, hb3⟩
      go_simp
      exact hK.out _ _ ⟨_, _, _, _, _, _, _, _, _, _, _, rfl, hI.s2 (hI.x.trans (hb3.mono hI.x.size)) hb3⟩
    · rw [if_pos (by rfl)]
      go_simp
      exact hK.out _ _ ⟨_, _, _, _, _, _, _, _, _, _, _, rfl, hI.s3⟩
    · have hx3 := hI.p3 (hd 3 (by decide))
      subst hx3
      rw [if_pos (by rfl)]
      go_simp
      exact hK.out _ _ ⟨_, _, _, _, _, _, _, _, _, _, _, rfl, hI.s4⟩
    · have hx4 := hI.p4 (hd 4 (by decide))
      subst hx4
      rw [if_pos (by rfl)]
      go_simp
      exact hK.out _ _ ⟨_, _, _, _, _, _, _, _, _, _, _, rfl, hI.s5⟩
    · have hx5 := hI.p5 (hd 5 (by decide))
      subst hx5
      rw [if_pos (by rfl)]
      go_simp
      exact hK.out _ _ ⟨_, _, _, _, _, _, _, _, _, _, _, rfl, hI.s6⟩
    · have hx6 := hI.p6 (hd 6 (by decide))
      subst hx6
      rw [if_pos (by rfl)]
      have hb3 : Below W.heap.size W (W.alloc (.cells #[.int .u8 (48 + (NM : Int))] 5)) := (Below.refl _ _).alloc (Nat.le_refl _) _
      have ho3 : ∃ ao c, (Value.slice (some ⟨W.heap.size, 0, none⟩) 1 1) = .slice ao 1 c ∧ Own w.heap.size (W.alloc (.cells #[.int .u8 (48 + (NM : Int))] 5)) (.slice ao 1 c) [D] := ⟨_, _, rfl, own_one w.heap.size W D hI.x.size _ HD.out⟩
      go_simp
      exact hK.out _ _ ⟨_, _, _, _, _, _, _, _, _, _, _, rfl, hI.s7 (hI.x.trans (hb3.mono hI.x.size)) hb3 ho3⟩
    · obtain ⟨ao7, c7, hx7, ho7⟩ := hI.p7 (hd 7 (by decide))
      subst hx7
      rw [if_pos (by rfl)]
      have cv := conv_bytes W ao7 1 c7 [D] rfl (own_IsB ho7)
      go_simp
      exact hK.out _ _ ⟨_, _, _, _, _, _, _, _, _, _, _, rfl, hI.s8⟩
    · have hx2 := hI.p2 (hd 2 (by decide))
      subst hx2
      have hx8 := hI.p8 (hd 8 (by decide))
      subst hx8
      rw [if_pos (by rfl)]
      go_simp
      exact hK.out _ _ ⟨_, _, _, _, _, _, _, _, _, _, _, rfl, hI.s9⟩
    · have hx9 := hI.p9 (hd 9 (by decide))
      subst hx9
      rw [if_pos (by rfl)]
      go_simp
      exact hK.out _ _ ⟨_, _, _, _, _, _, _, _, _, _, _, rfl, hI.s10⟩
  · refine Nu3.ends ?_; intro x10 x11 x12 x13 x14 x15 x16 x17 x18 x19 x2 L W hall hI
    have hx0 := hI.p0 (hall 0 (by decide))
    subst hx0
    have hx1 := hI.p1 (hall 1 (by decide))
    subst hx1
    have hx2 := hI.p2 (hall 2 (by decide))
    subst hx2
    have hx3 := hI.p3 (hall 3 (by decide))
    subst hx3
    have hx4 := hI.p4 (hall 4 (by decide))
    subst hx4
    have hx5 := hI.p5 (hall 5 (by decide))
    subst hx5
    have hx6 := hI.p6 (hall 6 (by decide))
    subst hx6
    obtain ⟨ao7, c7, hx7, ho7⟩ := hI.p7 (hall 7 (by decide))
    subst hx7
    have hx8 := hI.p8 (hall 8 (by decide))
    subst hx8
    have hx9 := hI.p9 (hall 9 (by decide))
    subst hx9
    have hx10 := hI.p10 (hall 10 (by decide))
    subst hx10
    have hXe := hI.x
    clear hI hall
    try dsimp only
    have hX2 := hXe
    go_wp2
    go_ret
    exact ⟨rfl, hX2⟩

theorem r21number_F : ∀ (k n : Nat) (w : World), n < 10 ^ (k + 1) → k ≤ 50 → n < 9223372036854775808 → Calls Tryd.prog 24 #[.int .i64 (n : Int)] w fun e w' => e = .returned (.string (strOf (numF k n))) ∧ Below w.heap.size w w'
  | 0, n, w, hn, hk, h63 => r21number_small n (by omega) w
  | k + 1, n, w, hn, hk, h63 => by
    rw [numF]
    split
    · rename_i h; exact r21number_small n h w
    · rename_i h
      have hn2 : n / 10 < 10 ^ (k + 1) := by rw [Nat.pow_succ] at hn; omega
      have hl : (numF k (n / 10)).length ≤ k + 1 := (numF_len k (n / 10) k (Nat.le_refl _) hn2).2
      exact r21number_step n h h63 (numF k (n / 10)) (by omega) w fun W => r21number_F k (n / 10) W hn2 (by omega) (by omega)
theorem r21number_any (n : Nat) (w : World) (hn : n < 9223372036854775808) : Calls Tryd.prog 24 #[.int .i64 (n : Int)] w fun e w' => e = .returned (.string (strOf (num n))) ∧ Below w.heap.size w w' := r21number_F 20 n w (by omega) (by omega) hn
theorem num_len {n : Nat} (h : n < 9223372036854775808) : (num n).length ≤ 19 := (numF_len 20 n 18 (by omega) (by omega)).2

/-- A digit of base sixteen, out of the row of them. -/
def hexD : List By := [48#8, 49#8, 50#8, 51#8, 52#8, 53#8, 54#8, 55#8, 56#8, 57#8, 97#8, 98#8, 99#8, 100#8, 101#8, 102#8]
theorem k_digits : ({ data := #[48, 49, 50, 51, 52, 53, 54, 55, 56, 57, 97, 98, 99, 100, 101, 102] } : ByteArray) = strOf hexD := rfl
theorem hexD_get : ∀ i, i < 16 → hexD.getD i 0 = hx i := by decide +kernel
theorem hexC_step (x : List By) (i : Nat) (hi : i < x.length) : hexC (x.take (i + 1)) = hexC (x.take i) ++ hexB (x.getD i 0) := by
  unfold hexC
  rw [List.take_add_one, List.getElem?_eq_getElem hi, List.flatMap_append, List.getD_eq_getElem?_getD, List.getElem?_eq_getElem hi]
  simp
end Go.Proofs.YtgpnbiaghokjkaaDoor
