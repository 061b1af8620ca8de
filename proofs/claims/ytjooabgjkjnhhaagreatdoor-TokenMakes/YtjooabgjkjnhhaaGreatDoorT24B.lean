
import Derived.Test.YtjooabgjkjnhhaaGreatDoorT24A
/-! The reference's token: May of a caveat. (Printed by tools/gent24.py.) -/
namespace Go.Proofs.YtjooabgjkjnhhaaGreatDoor
open Go.RowKit
set_option linter.unusedVariables false
set_option linter.unusedSimpArgs false

theorem cvMay1 (s f t : Int) (z : Nat) : cvMay ⟨1, s, f, t, z⟩ = (((true || s == 0) && (false || f == 0) && (false || t == 0) && (false || z == 0)) && decide (0 ≤ s ∧ s ≤ 7)) := by
  rw [Bool.eq_iff_iff]; simp [cvMay]; omega
theorem cvMay2 (s f t : Int) (z : Nat) : cvMay ⟨2, s, f, t, z⟩ = (((false || s == 0) && (true || f == 0) && (true || t == 0) && (false || z == 0)) && decide (0 ≤ f ∧ f ≤ 4294967295) && decide (0 ≤ t ∧ t ≤ 4294967295) && decide (f ≤ t)) := by
  rw [Bool.eq_iff_iff]; simp [cvMay]; omega
theorem cvMay3 (s f t : Int) (z : Nat) : cvMay ⟨3, s, f, t, z⟩ = (((false || s == 0) && (false || f == 0) && (false || t == 0) && (true || z == 0)) && (z != 0) && (z &&& 18446744073709535233 == 0)) := by
  rw [Bool.eq_iff_iff]; simp [cvMay]; generalize z &&& 18446744073709535233 = zz; omega
theorem cvMay4 (s f t : Int) (z : Nat) : cvMay ⟨4, s, f, t, z⟩ = (((true || s == 0) && (true || f == 0) && (false || t == 0) && (false || z == 0)) && decide (0 ≤ s ∧ s ≤ 7) && decide (0 ≤ f ∧ f ≤ 4611686018427387904)) := by
  rw [Bool.eq_iff_iff]; simp [cvMay]; omega
theorem cvMay5 (s f t : Int) (z : Nat) : cvMay ⟨5, s, f, t, z⟩ = (((true || s == 0) && (false || f == 0) && (true || t == 0) && (false || z == 0)) && decide (0 ≤ s ∧ s ≤ 7) && decide (0 ≤ t ∧ t ≤ 4611686018427387904)) := by
  rw [Bool.eq_iff_iff]; simp [cvMay]; omega
theorem andNot24 {z : Nat} (hz : z < 18446744073709551616) : bits .andNot .u64 (z : Int) 16382 = ((z &&& 18446744073709535233 : Nat) : Int) := by
  show IntKind.u64.wrap ((BitVec.ofInt 64 (z : Int) &&& ~~~ BitVec.ofInt 64 16382).toNat : Int) = _
  have e : (BitVec.ofInt 64 (z : Int) &&& ~~~ BitVec.ofInt 64 16382).toNat = z &&& 18446744073709535233 := by
    rw [BitVec.toNat_and]
    have h1 : (BitVec.ofInt 64 (z : Int)).toNat = z := by rw [BitVec.toNat_ofInt]; omega
    have h2 : (~~~ BitVec.ofInt 64 16382).toNat = 18446744073709535233 := by decide
    rw [h1, h2]
  rw [e]
  have := Nat.and_le_left (n := z) (m := 18446744073709535233)
  simp [IntKind.wrap, IntKind.bits, IntKind.signed]
  omega

set_option maxHeartbeats 4000000 in
set_option maxRecDepth 100000 in
theorem r24cMay_any (k s f t : Int) (z : Nat) (hz : z < 18446744073709551616) (w : World) : Calls Tryz.prog 37 #[.agg #[.int .i64 k, .int .i64 s, .int .i64 f, .int .i64 t, .int .u64 (z : Int)]] w fun e w' => e = .returned (.bool (cvMay ⟨k, s, f, t, z⟩)) ∧ Below w.heap.size w w' := by
  have B0 : Hid (Below w.heap.size w (w.alloc (.cells #[.int .i64 k, .int .i64 s, .int .i64 f, .int .i64 t, .int .u64 (z : Int)] 50))) := (Below.refl _ _).alloc (Nat.le_refl _) _
  have R0 : Hid (Row (w.alloc (.cells #[.int .i64 k, .int .i64 s, .int .i64 f, .int .i64 t, .int .u64 (z : Int)] 50)) w.heap.size 50 [.int .i64 k, .int .i64 s, .int .i64 f, .int .i64 t, .int .u64 (z : Int)]) := Row.at w _ _ _ _ rfl rfl
  have c1 := R0.out.cell 1 _ rfl
  have c2 := R0.out.cell 2 _ rfl
  have c3 := R0.out.cell 3 _ rfl
  have c4 := R0.out.cell 4 _ rfl
  go_enter Tryz.func37, Tryz.ntmps37
  by_cases h1 : k = 1
  · subst h1
    obtain ⟨q1, hq1⟩ : ∃ q1, q1 = ((true || s == 0) && (false || f == 0) && (false || t == 0) && (false || z == 0)) := ⟨_, rfl⟩
    have O1 : Hid (∀ W, Calls Tryz.prog 50 #[.agg [.int .i64 1, .int .i64 s, .int .i64 f, .int .i64 t, .int .u64 (z : Int)].toArray, .bool true, .bool false, .bool false, .bool false] W fun e w' => e = .returned (.bool q1) ∧ Below W.heap.size W w') := fun W => by rw [hq1]; exact r24only_any 1 s f t z true false false false W
    obtain ⟨p0, hp0⟩ : ∃ p, p = decide (0 ≤ s ∧ s ≤ 7) := ⟨_, rfl⟩
    have W0 : Hid (∀ W, Calls Tryz.prog 51 #[.int .i64 s, .int .i64 7] W fun e w' => e = .returned (.bool p0) ∧ Below W.heap.size W w') := fun W => by rw [hp0]; exact r24within_any s 7 W
    have HC : Hid (cvMay ⟨1, s, f, t, z⟩ = (q1 && p0)) := by rw [hq1, hp0]; exact cvMay1 s f t z
    clear hq1 hp0
    cases q1 with
    | true =>
      cases p0 with
      | true =>
        go_wp2_with (first
          | (have hz := O1; clear hz; refine wpList_load_Row rfl 50 (.tmp 1) rfl w.heap.size 50 [.int .i64 1, .int .i64 s, .int .i64 f, .int .i64 t, .int .u64 (z : Int)] R0.out rfl _ Tryz.underlying50 rfl (by kernel_rfl) ?_)
          | (have hz := O1; clear hz; go_at_call 50; refine (O1.out _).mono ?_; rintro e w2 ⟨rfl, hb2⟩; have R1 : Hid (Row w2 w.heap.size 50 [.int .i64 1, .int .i64 s, .int .i64 f, .int .i64 t, .int .u64 (z : Int)]) := R0.out.below hb2 R0.out.lt; have B1 : Hid (Below w.heap.size w w2) := B0.out.trans (hb2.mono B0.out.size); clear c1 c2 c3 c4 O1 R0 B0 hb2; have c1 := R1.out.cell 1 _ rfl; have c2 := R1.out.cell 2 _ rfl; have c3 := R1.out.cell 3 _ rfl; have c4 := R1.out.cell 4 _ rfl)
          | (have hz := R1; clear hz; have hz := W0; clear hz; go_at_call 51; refine (W0.out _).mono ?_; rintro e w3 ⟨rfl, hb3⟩; have R2 : Hid (Row w3 w.heap.size 50 [.int .i64 1, .int .i64 s, .int .i64 f, .int .i64 t, .int .u64 (z : Int)]) := R1.out.below hb3 R1.out.lt; have B2 : Hid (Below w.heap.size w w3) := B1.out.trans (hb3.mono B1.out.size); clear c1 c2 c3 c4 W0 R1 B1 hb3; have c1 := R2.out.cell 1 _ rfl; have c2 := R2.out.cell 2 _ rfl; have c3 := R2.out.cell 3 _ rfl; have c4 := R2.out.cell 4 _ rfl))
        go_ret
        refine ⟨by rw [HC.out]; simp <;> omega, ?_⟩
        first | exact B4.out | exact B3.out | exact B2.out | exact B1.out
      | false =>
        go_wp2_with (first
          | (have hz := O1; clear hz; refine wpList_load_Row rfl 50 (.tmp 1) rfl w.heap.size 50 [.int .i64 1, .int .i64 s, .int .i64 f, .int .i64 t, .int .u64 (z : Int)] R0.out rfl _ Tryz.underlying50 rfl (by kernel_rfl) ?_)
          | (have hz := O1; clear hz; go_at_call 50; refine (O1.out _).mono ?_; rintro e w2 ⟨rfl, hb2⟩; have R1 : Hid (Row w2 w.heap.size 50 [.int .i64 1, .int .i64 s, .int .i64 f, .int .i64 t, .int .u64 (z : Int)]) := R0.out.below hb2 R0.out.lt; have B1 : Hid (Below w.heap.size w w2) := B0.out.trans (hb2.mono B0.out.size); clear c1 c2 c3 c4 O1 R0 B0 hb2; have c1 := R1.out.cell 1 _ rfl; have c2 := R1.out.cell 2 _ rfl; have c3 := R1.out.cell 3 _ rfl; have c4 := R1.out.cell 4 _ rfl)
          | (have hz := R1; clear hz; have hz := W0; clear hz; go_at_call 51; refine (W0.out _).mono ?_; rintro e w3 ⟨rfl, hb3⟩; have R2 : Hid (Row w3 w.heap.size 50 [.int .i64 1, .int .i64 s, .int .i64 f, .int .i64 t, .int .u64 (z : Int)]) := R1.out.below hb3 R1.out.lt; have B2 : Hid (Below w.heap.size w w3) := B1.out.trans (hb3.mono B1.out.size); clear c1 c2 c3 c4 W0 R1 B1 hb3; have c1 := R2.out.cell 1 _ rfl; have c2 := R2.out.cell 2 _ rfl; have c3 := R2.out.cell 3 _ rfl; have c4 := R2.out.cell 4 _ rfl))
        go_ret
        refine ⟨by rw [HC.out]; simp <;> omega, ?_⟩
        first | exact B4.out | exact B3.out | exact B2.out | exact B1.out
    | false =>
      go_wp2_with (first
        | (have hz := O1; clear hz; refine wpList_load_Row rfl 50 (.tmp 1) rfl w.heap.size 50 [.int .i64 1, .int .i64 s, .int .i64 f, .int .i64 t, .int .u64 (z : Int)] R0.out rfl _ Tryz.underlying50 rfl (by kernel_rfl) ?_)
        | (have hz := O1; clear hz; go_at_call 50; refine (O1.out _).mono ?_; rintro e w2 ⟨rfl, hb2⟩; have R1 : Hid (Row w2 w.heap.size 50 [.int .i64 1, .int .i64 s, .int .i64 f, .int .i64 t, .int .u64 (z : Int)]) := R0.out.below hb2 R0.out.lt; have B1 : Hid (Below w.heap.size w w2) := B0.out.trans (hb2.mono B0.out.size); clear c1 c2 c3 c4 O1 R0 B0 hb2; have c1 := R1.out.cell 1 _ rfl; have c2 := R1.out.cell 2 _ rfl; have c3 := R1.out.cell 3 _ rfl; have c4 := R1.out.cell 4 _ rfl)
        | (have hz := R1; clear hz; have hz := W0; clear hz; go_at_call 51; refine (W0.out _).mono ?_; rintro e w3 ⟨rfl, hb3⟩; have R2 : Hid (Row w3 w.heap.size 50 [.int .i64 1, .int .i64 s, .int .i64 f, .int .i64 t, .int .u64 (z : Int)]) := R1.out.below hb3 R1.out.lt; have B2 : Hid (Below w.heap.size w w3) := B1.out.trans (hb3.mono B1.out.size); clear c1 c2 c3 c4 W0 R1 B1 hb3; have c1 := R2.out.cell 1 _ rfl; have c2 := R2.out.cell 2 _ rfl; have c3 := R2.out.cell 3 _ rfl; have c4 := R2.out.cell 4 _ rfl))
      go_ret
      refine ⟨by rw [HC.out]; simp <;> omega, ?_⟩
      first | exact B4.out | exact B3.out | exact B2.out | exact B1.out
  have y1 : (k == 1) = false := by rw [beq_eq_false_iff_ne]; exact h1
  by_cases h2 : k = 2
  · subst h2
    obtain ⟨q1, hq1⟩ : ∃ q1, q1 = ((false || s == 0) && (true || f == 0) && (true || t == 0) && (false || z == 0)) := ⟨_, rfl⟩
    have O1 : Hid (∀ W, Calls Tryz.prog 50 #[.agg [.int .i64 2, .int .i64 s, .int .i64 f, .int .i64 t, .int .u64 (z : Int)].toArray, .bool false, .bool true, .bool true, .bool false] W fun e w' => e = .returned (.bool q1) ∧ Below W.heap.size W w') := fun W => by rw [hq1]; exact r24only_any 2 s f t z false true true false W
    obtain ⟨p0, hp0⟩ : ∃ p, p = decide (0 ≤ f ∧ f ≤ 4294967295) := ⟨_, rfl⟩
    have W0 : Hid (∀ W, Calls Tryz.prog 51 #[.int .i64 f, .int .i64 4294967295] W fun e w' => e = .returned (.bool p0) ∧ Below W.heap.size W w') := fun W => by rw [hp0]; exact r24within_any f 4294967295 W
    obtain ⟨p1, hp1⟩ : ∃ p, p = decide (0 ≤ t ∧ t ≤ 4294967295) := ⟨_, rfl⟩
    have W1 : Hid (∀ W, Calls Tryz.prog 51 #[.int .i64 t, .int .i64 4294967295] W fun e w' => e = .returned (.bool p1) ∧ Below W.heap.size W w') := fun W => by rw [hp1]; exact r24within_any t 4294967295 W
    obtain ⟨p2, hp2⟩ : ∃ p, p = decide (f ≤ t) := ⟨_, rfl⟩
    have HC : Hid (cvMay ⟨2, s, f, t, z⟩ = (q1 && p0 && p1 && p2)) := by rw [hq1, hp0, hp1, hp2]; exact cvMay2 s f t z
    clear hq1 hp0 hp1
    cases q1 with
    | true =>
      cases p0 with
      | true =>
        cases p1 with
        | true =>
          cases p2 with
          | true =>
            have y9 := of_decide_eq_true hp2.symm
            clear hp2
            go_wp2_with (first
              | (have hz := O1; clear hz; refine wpList_load_Row rfl 50 (.tmp 1) rfl w.heap.size 50 [.int .i64 2, .int .i64 s, .int .i64 f, .int .i64 t, .int .u64 (z : Int)] R0.out rfl _ Tryz.underlying50 rfl (by kernel_rfl) ?_)
              | (have hz := O1; clear hz; go_at_call 50; refine (O1.out _).mono ?_; rintro e w2 ⟨rfl, hb2⟩; have R1 : Hid (Row w2 w.heap.size 50 [.int .i64 2, .int .i64 s, .int .i64 f, .int .i64 t, .int .u64 (z : Int)]) := R0.out.below hb2 R0.out.lt; have B1 : Hid (Below w.heap.size w w2) := B0.out.trans (hb2.mono B0.out.size); clear c1 c2 c3 c4 O1 R0 B0 hb2; have c1 := R1.out.cell 1 _ rfl; have c2 := R1.out.cell 2 _ rfl; have c3 := R1.out.cell 3 _ rfl; have c4 := R1.out.cell 4 _ rfl)
              | (have hz := R1; clear hz; have hz := W0; clear hz; go_at_call 51; refine (W0.out _).mono ?_; rintro e w3 ⟨rfl, hb3⟩; have R2 : Hid (Row w3 w.heap.size 50 [.int .i64 2, .int .i64 s, .int .i64 f, .int .i64 t, .int .u64 (z : Int)]) := R1.out.below hb3 R1.out.lt; have B2 : Hid (Below w.heap.size w w3) := B1.out.trans (hb3.mono B1.out.size); clear c1 c2 c3 c4 W0 R1 B1 hb3; have c1 := R2.out.cell 1 _ rfl; have c2 := R2.out.cell 2 _ rfl; have c3 := R2.out.cell 3 _ rfl; have c4 := R2.out.cell 4 _ rfl)
              | (have hz := R2; clear hz; have hz := W1; clear hz; go_at_call 51; refine (W1.out _).mono ?_; rintro e w4 ⟨rfl, hb4⟩; have R3 : Hid (Row w4 w.heap.size 50 [.int .i64 2, .int .i64 s, .int .i64 f, .int .i64 t, .int .u64 (z : Int)]) := R2.out.below hb4 R2.out.lt; have B3 : Hid (Below w.heap.size w w4) := B2.out.trans (hb4.mono B2.out.size); clear c1 c2 c3 c4 W1 R2 B2 hb4; have c1 := R3.out.cell 1 _ rfl; have c2 := R3.out.cell 2 _ rfl; have c3 := R3.out.cell 3 _ rfl; have c4 := R3.out.cell 4 _ rfl))
            go_ret
            refine ⟨by rw [HC.out]; simp <;> omega, ?_⟩
            first | exact B4.out | exact B3.out | exact B2.out | exact B1.out
          | false =>
            have y9 := of_decide_eq_false hp2.symm
            clear hp2
            go_wp2_with (first
              | (have hz := O1; clear hz; refine wpList_load_Row rfl 50 (.tmp 1) rfl w.heap.size 50 [.int .i64 2, .int .i64 s, .int .i64 f, .int .i64 t, .int .u64 (z : Int)] R0.out rfl _ Tryz.underlying50 rfl (by kernel_rfl) ?_)
              | (have hz := O1; clear hz; go_at_call 50; refine (O1.out _).mono ?_; rintro e w2 ⟨rfl, hb2⟩; have R1 : Hid (Row w2 w.heap.size 50 [.int .i64 2, .int .i64 s, .int .i64 f, .int .i64 t, .int .u64 (z : Int)]) := R0.out.below hb2 R0.out.lt; have B1 : Hid (Below w.heap.size w w2) := B0.out.trans (hb2.mono B0.out.size); clear c1 c2 c3 c4 O1 R0 B0 hb2; have c1 := R1.out.cell 1 _ rfl; have c2 := R1.out.cell 2 _ rfl; have c3 := R1.out.cell 3 _ rfl; have c4 := R1.out.cell 4 _ rfl)
              | (have hz := R1; clear hz; have hz := W0; clear hz; go_at_call 51; refine (W0.out _).mono ?_; rintro e w3 ⟨rfl, hb3⟩; have R2 : Hid (Row w3 w.heap.size 50 [.int .i64 2, .int .i64 s, .int .i64 f, .int .i64 t, .int .u64 (z : Int)]) := R1.out.below hb3 R1.out.lt; have B2 : Hid (Below w.heap.size w w3) := B1.out.trans (hb3.mono B1.out.size); clear c1 c2 c3 c4 W0 R1 B1 hb3; have c1 := R2.out.cell 1 _ rfl; have c2 := R2.out.cell 2 _ rfl; have c3 := R2.out.cell 3 _ rfl; have c4 := R2.out.cell 4 _ rfl)
              | (have hz := R2; clear hz; have hz := W1; clear hz; go_at_call 51; refine (W1.out _).mono ?_; rintro e w4 ⟨rfl, hb4⟩; have R3 : Hid (Row w4 w.heap.size 50 [.int .i64 2, .int .i64 s, .int .i64 f, .int .i64 t, .int .u64 (z : Int)]) := R2.out.below hb4 R2.out.lt; have B3 : Hid (Below w.heap.size w w4) := B2.out.trans (hb4.mono B2.out.size); clear c1 c2 c3 c4 W1 R2 B2 hb4; have c1 := R3.out.cell 1 _ rfl; have c2 := R3.out.cell 2 _ rfl; have c3 := R3.out.cell 3 _ rfl; have c4 := R3.out.cell 4 _ rfl))
            go_ret
            refine ⟨by rw [HC.out]; simp <;> omega, ?_⟩
            first | exact B4.out | exact B3.out | exact B2.out | exact B1.out
        | false =>
          go_wp2_with (first
            | (have hz := O1; clear hz; refine wpList_load_Row rfl 50 (.tmp 1) rfl w.heap.size 50 [.int .i64 2, .int .i64 s, .int .i64 f, .int .i64 t, .int .u64 (z : Int)] R0.out rfl _ Tryz.underlying50 rfl (by kernel_rfl) ?_)
            | (have hz := O1; clear hz; go_at_call 50; refine (O1.out _).mono ?_; rintro e w2 ⟨rfl, hb2⟩; have R1 : Hid (Row w2 w.heap.size 50 [.int .i64 2, .int .i64 s, .int .i64 f, .int .i64 t, .int .u64 (z : Int)]) := R0.out.below hb2 R0.out.lt; have B1 : Hid (Below w.heap.size w w2) := B0.out.trans (hb2.mono B0.out.size); clear c1 c2 c3 c4 O1 R0 B0 hb2; have c1 := R1.out.cell 1 _ rfl; have c2 := R1.out.cell 2 _ rfl; have c3 := R1.out.cell 3 _ rfl; have c4 := R1.out.cell 4 _ rfl)
            | (have hz := R1; clear hz; have hz := W0; clear hz; go_at_call 51; refine (W0.out _).mono ?_; rintro e w3 ⟨rfl, hb3⟩; have R2 : Hid (Row w3 w.heap.size 50 [.int .i64 2, .int .i64 s, .int .i64 f, .int .i64 t, .int .u64 (z : Int)]) := R1.out.below hb3 R1.out.lt; have B2 : Hid (Below w.heap.size w w3) := B1.out.trans (hb3.mono B1.out.size); clear c1 c2 c3 c4 W0 R1 B1 hb3; have c1 := R2.out.cell 1 _ rfl; have c2 := R2.out.cell 2 _ rfl; have c3 := R2.out.cell 3 _ rfl; have c4 := R2.out.cell 4 _ rfl)
            | (have hz := R2; clear hz; have hz := W1; clear hz; go_at_call 51; refine (W1.out _).mono ?_; rintro e w4 ⟨rfl, hb4⟩; have R3 : Hid (Row w4 w.heap.size 50 [.int .i64 2, .int .i64 s, .int .i64 f, .int .i64 t, .int .u64 (z : Int)]) := R2.out.below hb4 R2.out.lt; have B3 : Hid (Below w.heap.size w w4) := B2.out.trans (hb4.mono B2.out.size); clear c1 c2 c3 c4 W1 R2 B2 hb4; have c1 := R3.out.cell 1 _ rfl; have c2 := R3.out.cell 2 _ rfl; have c3 := R3.out.cell 3 _ rfl; have c4 := R3.out.cell 4 _ rfl))
          go_ret
          refine ⟨by rw [HC.out]; simp <;> omega, ?_⟩
          first | exact B4.out | exact B3.out | exact B2.out | exact B1.out
      | false =>
        go_wp2_with (first
          | (have hz := O1; clear hz; refine wpList_load_Row rfl 50 (.tmp 1) rfl w.heap.size 50 [.int .i64 2, .int .i64 s, .int .i64 f, .int .i64 t, .int .u64 (z : Int)] R0.out rfl _ Tryz.underlying50 rfl (by kernel_rfl) ?_)
          | (have hz := O1; clear hz; go_at_call 50; refine (O1.out _).mono ?_; rintro e w2 ⟨rfl, hb2⟩; have R1 : Hid (Row w2 w.heap.size 50 [.int .i64 2, .int .i64 s, .int .i64 f, .int .i64 t, .int .u64 (z : Int)]) := R0.out.below hb2 R0.out.lt; have B1 : Hid (Below w.heap.size w w2) := B0.out.trans (hb2.mono B0.out.size); clear c1 c2 c3 c4 O1 R0 B0 hb2; have c1 := R1.out.cell 1 _ rfl; have c2 := R1.out.cell 2 _ rfl; have c3 := R1.out.cell 3 _ rfl; have c4 := R1.out.cell 4 _ rfl)
          | (have hz := R1; clear hz; have hz := W0; clear hz; go_at_call 51; refine (W0.out _).mono ?_; rintro e w3 ⟨rfl, hb3⟩; have R2 : Hid (Row w3 w.heap.size 50 [.int .i64 2, .int .i64 s, .int .i64 f, .int .i64 t, .int .u64 (z : Int)]) := R1.out.below hb3 R1.out.lt; have B2 : Hid (Below w.heap.size w w3) := B1.out.trans (hb3.mono B1.out.size); clear c1 c2 c3 c4 W0 R1 B1 hb3; have c1 := R2.out.cell 1 _ rfl; have c2 := R2.out.cell 2 _ rfl; have c3 := R2.out.cell 3 _ rfl; have c4 := R2.out.cell 4 _ rfl)
          | (have hz := R2; clear hz; have hz := W1; clear hz; go_at_call 51; refine (W1.out _).mono ?_; rintro e w4 ⟨rfl, hb4⟩; have R3 : Hid (Row w4 w.heap.size 50 [.int .i64 2, .int .i64 s, .int .i64 f, .int .i64 t, .int .u64 (z : Int)]) := R2.out.below hb4 R2.out.lt; have B3 : Hid (Below w.heap.size w w4) := B2.out.trans (hb4.mono B2.out.size); clear c1 c2 c3 c4 W1 R2 B2 hb4; have c1 := R3.out.cell 1 _ rfl; have c2 := R3.out.cell 2 _ rfl; have c3 := R3.out.cell 3 _ rfl; have c4 := R3.out.cell 4 _ rfl))
        go_ret
        refine ⟨by rw [HC.out]; simp <;> omega, ?_⟩
        first | exact B4.out | exact B3.out | exact B2.out | exact B1.out
    | false =>
      go_wp2_with (first
        | (have hz := O1; clear hz; refine wpList_load_Row rfl 50 (.tmp 1) rfl w.heap.size 50 [.int .i64 2, .int .i64 s, .int .i64 f, .int .i64 t, .int .u64 (z : Int)] R0.out rfl _ Tryz.underlying50 rfl (by kernel_rfl) ?_)
        | (have hz := O1; clear hz; go_at_call 50; refine (O1.out _).mono ?_; rintro e w2 ⟨rfl, hb2⟩; have R1 : Hid (Row w2 w.heap.size 50 [.int .i64 2, .int .i64 s, .int .i64 f, .int .i64 t, .int .u64 (z : Int)]) := R0.out.below hb2 R0.out.lt; have B1 : Hid (Below w.heap.size w w2) := B0.out.trans (hb2.mono B0.out.size); clear c1 c2 c3 c4 O1 R0 B0 hb2; have c1 := R1.out.cell 1 _ rfl; have c2 := R1.out.cell 2 _ rfl; have c3 := R1.out.cell 3 _ rfl; have c4 := R1.out.cell 4 _ rfl)
        | (have hz := R1; clear hz; have hz := W0; clear hz; go_at_call 51; refine (W0.out _).mono ?_; rintro e w3 ⟨rfl, hb3⟩; have R2 : Hid (Row w3 w.heap.size 50 [.int .i64 2, .int .i64 s, .int .i64 f, .int .i64 t, .int .u64 (z : Int)]) := R1.out.below hb3 R1.out.lt; have B2 : Hid (Below w.heap.size w w3) := B1.out.trans (hb3.mono B1.out.size); clear c1 c2 c3 c4 W0 R1 B1 hb3; have c1 := R2.out.cell 1 _ rfl; have c2 := R2.out.cell 2 _ rfl; have c3 := R2.out.cell 3 _ rfl; have c4 := R2.out.cell 4 _ rfl)
        | (have hz := R2; clear hz; have hz := W1; clear hz; go_at_call 51; refine (W1.out _).mono ?_; rintro e w4 ⟨rfl, hb4⟩; have R3 : Hid (Row w4 w.heap.size 50 [.int .i64 2, .int .i64 s, .int .i64 f, .int .i64 t, .int .u64 (z : Int)]) := R2.out.below hb4 R2.out.lt; have B3 : Hid (Below w.heap.size w w4) := B2.out.trans (hb4.mono B2.out.size); clear c1 c2 c3 c4 W1 R2 B2 hb4; have c1 := R3.out.cell 1 _ rfl; have c2 := R3.out.cell 2 _ rfl; have c3 := R3.out.cell 3 _ rfl; have c4 := R3.out.cell 4 _ rfl))
      go_ret
      refine ⟨by rw [HC.out]; simp <;> omega, ?_⟩
      first | exact B4.out | exact B3.out | exact B2.out | exact B1.out
  have y2 : (k == 2) = false := by rw [beq_eq_false_iff_ne]; exact h2
  by_cases h3 : k = 3
  · subst h3
    obtain ⟨q1, hq1⟩ : ∃ q1, q1 = ((false || s == 0) && (false || f == 0) && (false || t == 0) && (true || z == 0)) := ⟨_, rfl⟩
    have O1 : Hid (∀ W, Calls Tryz.prog 50 #[.agg [.int .i64 3, .int .i64 s, .int .i64 f, .int .i64 t, .int .u64 (z : Int)].toArray, .bool false, .bool false, .bool false, .bool true] W fun e w' => e = .returned (.bool q1) ∧ Below W.heap.size W w') := fun W => by rw [hq1]; exact r24only_any 3 s f t z false false false true W
    obtain ⟨p0, hp0⟩ : ∃ p, p = (z != 0) := ⟨_, rfl⟩
    obtain ⟨p1, hp1⟩ : ∃ p, p = (z &&& 18446744073709535233 == 0) := ⟨_, rfl⟩
    have HC : Hid (cvMay ⟨3, s, f, t, z⟩ = (q1 && p0 && p1)) := by rw [hq1, hp0, hp1]; exact cvMay3 s f t z
    clear hq1 
    cases q1 with
    | true =>
      cases p0 with
      | true =>
        have y9 : (z != 0) = true := hp0.symm
        have x9 : ¬ z = 0 := by simpa using y9
        have x8 : ((z : Int) != 0) = true := by rw [bne_iff_ne]; omega
        clear hp0
        cases p1 with
        | true =>
          have y8 := andNot24 hz
          generalize z &&& 18446744073709535233 = zz at *
          obtain rfl : zz = 0 := by simpa using hp1.symm
          clear hp1
          go_wp2_with (first
            | (have hz := O1; clear hz; refine wpList_load_Row rfl 50 (.tmp 1) rfl w.heap.size 50 [.int .i64 3, .int .i64 s, .int .i64 f, .int .i64 t, .int .u64 (z : Int)] R0.out rfl _ Tryz.underlying50 rfl (by kernel_rfl) ?_)
            | (have hz := O1; clear hz; go_at_call 50; refine (O1.out _).mono ?_; rintro e w2 ⟨rfl, hb2⟩; have R1 : Hid (Row w2 w.heap.size 50 [.int .i64 3, .int .i64 s, .int .i64 f, .int .i64 t, .int .u64 (z : Int)]) := R0.out.below hb2 R0.out.lt; have B1 : Hid (Below w.heap.size w w2) := B0.out.trans (hb2.mono B0.out.size); clear c1 c2 c3 c4 O1 R0 B0 hb2; have c1 := R1.out.cell 1 _ rfl; have c2 := R1.out.cell 2 _ rfl; have c3 := R1.out.cell 3 _ rfl; have c4 := R1.out.cell 4 _ rfl))
          go_ret
          refine ⟨by rw [HC.out]; simp <;> omega, ?_⟩
          first | exact B4.out | exact B3.out | exact B2.out | exact B1.out
        | false =>
          have y8 := andNot24 hz
          generalize z &&& 18446744073709535233 = zz at *
          have y7 : (zz == 0) = false := hp1.symm
          have x7 : ((zz : Int) == 0) = false := by rw [beq_eq_false_iff_ne]; simp at y7; omega
          clear hp1
          go_wp2_with (first
            | (have hz := O1; clear hz; refine wpList_load_Row rfl 50 (.tmp 1) rfl w.heap.size 50 [.int .i64 3, .int .i64 s, .int .i64 f, .int .i64 t, .int .u64 (z : Int)] R0.out rfl _ Tryz.underlying50 rfl (by kernel_rfl) ?_)
            | (have hz := O1; clear hz; go_at_call 50; refine (O1.out _).mono ?_; rintro e w2 ⟨rfl, hb2⟩; have R1 : Hid (Row w2 w.heap.size 50 [.int .i64 3, .int .i64 s, .int .i64 f, .int .i64 t, .int .u64 (z : Int)]) := R0.out.below hb2 R0.out.lt; have B1 : Hid (Below w.heap.size w w2) := B0.out.trans (hb2.mono B0.out.size); clear c1 c2 c3 c4 O1 R0 B0 hb2; have c1 := R1.out.cell 1 _ rfl; have c2 := R1.out.cell 2 _ rfl; have c3 := R1.out.cell 3 _ rfl; have c4 := R1.out.cell 4 _ rfl))
          go_ret
          refine ⟨by rw [HC.out]; simp <;> omega, ?_⟩
          first | exact B4.out | exact B3.out | exact B2.out | exact B1.out
      | false =>
        have y9 : (z != 0) = false := hp0.symm
        have x9 : (z == 0) = true := by simpa using y9
        have x8 : ((z : Int) != 0) = false := by rw [bne_eq_false_iff_eq]; simp at x9; omega
        have x7 : ((z : Int) == 0) = true := by rw [beq_iff_eq]; simp at x9; omega
        clear hp0
        go_wp2_with (first
          | (have hz := O1; clear hz; refine wpList_load_Row rfl 50 (.tmp 1) rfl w.heap.size 50 [.int .i64 3, .int .i64 s, .int .i64 f, .int .i64 t, .int .u64 (z : Int)] R0.out rfl _ Tryz.underlying50 rfl (by kernel_rfl) ?_)
          | (have hz := O1; clear hz; go_at_call 50; refine (O1.out _).mono ?_; rintro e w2 ⟨rfl, hb2⟩; have R1 : Hid (Row w2 w.heap.size 50 [.int .i64 3, .int .i64 s, .int .i64 f, .int .i64 t, .int .u64 (z : Int)]) := R0.out.below hb2 R0.out.lt; have B1 : Hid (Below w.heap.size w w2) := B0.out.trans (hb2.mono B0.out.size); clear c1 c2 c3 c4 O1 R0 B0 hb2; have c1 := R1.out.cell 1 _ rfl; have c2 := R1.out.cell 2 _ rfl; have c3 := R1.out.cell 3 _ rfl; have c4 := R1.out.cell 4 _ rfl))
        go_ret
        refine ⟨by rw [HC.out]; simp <;> omega, ?_⟩
        first | exact B4.out | exact B3.out | exact B2.out | exact B1.out
    | false =>
      go_wp2_with (first
        | (have hz := O1; clear hz; refine wpList_load_Row rfl 50 (.tmp 1) rfl w.heap.size 50 [.int .i64 3, .int .i64 s, .int .i64 f, .int .i64 t, .int .u64 (z : Int)] R0.out rfl _ Tryz.underlying50 rfl (by kernel_rfl) ?_)
        | (have hz := O1; clear hz; go_at_call 50; refine (O1.out _).mono ?_; rintro e w2 ⟨rfl, hb2⟩; have R1 : Hid (Row w2 w.heap.size 50 [.int .i64 3, .int .i64 s, .int .i64 f, .int .i64 t, .int .u64 (z : Int)]) := R0.out.below hb2 R0.out.lt; have B1 : Hid (Below w.heap.size w w2) := B0.out.trans (hb2.mono B0.out.size); clear c1 c2 c3 c4 O1 R0 B0 hb2; have c1 := R1.out.cell 1 _ rfl; have c2 := R1.out.cell 2 _ rfl; have c3 := R1.out.cell 3 _ rfl; have c4 := R1.out.cell 4 _ rfl))
      go_ret
      refine ⟨by rw [HC.out]; simp <;> omega, ?_⟩
      first | exact B4.out | exact B3.out | exact B2.out | exact B1.out
  have y3 : (k == 3) = false := by rw [beq_eq_false_iff_ne]; exact h3
  by_cases h4 : k = 4
  · subst h4
    obtain ⟨q1, hq1⟩ : ∃ q1, q1 = ((true || s == 0) && (true || f == 0) && (false || t == 0) && (false || z == 0)) := ⟨_, rfl⟩
    have O1 : Hid (∀ W, Calls Tryz.prog 50 #[.agg [.int .i64 4, .int .i64 s, .int .i64 f, .int .i64 t, .int .u64 (z : Int)].toArray, .bool true, .bool true, .bool false, .bool false] W fun e w' => e = .returned (.bool q1) ∧ Below W.heap.size W w') := fun W => by rw [hq1]; exact r24only_any 4 s f t z true true false false W
    obtain ⟨p0, hp0⟩ : ∃ p, p = decide (0 ≤ s ∧ s ≤ 7) := ⟨_, rfl⟩
    have W0 : Hid (∀ W, Calls Tryz.prog 51 #[.int .i64 s, .int .i64 7] W fun e w' => e = .returned (.bool p0) ∧ Below W.heap.size W w') := fun W => by rw [hp0]; exact r24within_any s 7 W
    obtain ⟨p1, hp1⟩ : ∃ p, p = decide (0 ≤ f ∧ f ≤ 4611686018427387904) := ⟨_, rfl⟩
    have W1 : Hid (∀ W, Calls Tryz.prog 51 #[.int .i64 f, .int .i64 4611686018427387904] W fun e w' => e = .returned (.bool p1) ∧ Below W.heap.size W w') := fun W => by rw [hp1]; exact r24within_any f 4611686018427387904 W
    have HC : Hid (cvMay ⟨4, s, f, t, z⟩ = (q1 && p0 && p1)) := by rw [hq1, hp0, hp1]; exact cvMay4 s f t z
    clear hq1 hp0 hp1
    cases q1 with
    | true =>
      cases p0 with
      | true =>
        cases p1 with
        | true =>
          go_wp2_with (first
            | (have hz := O1; clear hz; refine wpList_load_Row rfl 50 (.tmp 1) rfl w.heap.size 50 [.int .i64 4, .int .i64 s, .int .i64 f, .int .i64 t, .int .u64 (z : Int)] R0.out rfl _ Tryz.underlying50 rfl (by kernel_rfl) ?_)
            | (have hz := O1; clear hz; go_at_call 50; refine (O1.out _).mono ?_; rintro e w2 ⟨rfl, hb2⟩; have R1 : Hid (Row w2 w.heap.size 50 [.int .i64 4, .int .i64 s, .int .i64 f, .int .i64 t, .int .u64 (z : Int)]) := R0.out.below hb2 R0.out.lt; have B1 : Hid (Below w.heap.size w w2) := B0.out.trans (hb2.mono B0.out.size); clear c1 c2 c3 c4 O1 R0 B0 hb2; have c1 := R1.out.cell 1 _ rfl; have c2 := R1.out.cell 2 _ rfl; have c3 := R1.out.cell 3 _ rfl; have c4 := R1.out.cell 4 _ rfl)
            | (have hz := R1; clear hz; have hz := W0; clear hz; go_at_call 51; refine (W0.out _).mono ?_; rintro e w3 ⟨rfl, hb3⟩; have R2 : Hid (Row w3 w.heap.size 50 [.int .i64 4, .int .i64 s, .int .i64 f, .int .i64 t, .int .u64 (z : Int)]) := R1.out.below hb3 R1.out.lt; have B2 : Hid (Below w.heap.size w w3) := B1.out.trans (hb3.mono B1.out.size); clear c1 c2 c3 c4 W0 R1 B1 hb3; have c1 := R2.out.cell 1 _ rfl; have c2 := R2.out.cell 2 _ rfl; have c3 := R2.out.cell 3 _ rfl; have c4 := R2.out.cell 4 _ rfl)
            | (have hz := R2; clear hz; have hz := W1; clear hz; go_at_call 51; refine (W1.out _).mono ?_; rintro e w4 ⟨rfl, hb4⟩; have R3 : Hid (Row w4 w.heap.size 50 [.int .i64 4, .int .i64 s, .int .i64 f, .int .i64 t, .int .u64 (z : Int)]) := R2.out.below hb4 R2.out.lt; have B3 : Hid (Below w.heap.size w w4) := B2.out.trans (hb4.mono B2.out.size); clear c1 c2 c3 c4 W1 R2 B2 hb4; have c1 := R3.out.cell 1 _ rfl; have c2 := R3.out.cell 2 _ rfl; have c3 := R3.out.cell 3 _ rfl; have c4 := R3.out.cell 4 _ rfl))
          go_ret
          refine ⟨by rw [HC.out]; simp <;> omega, ?_⟩
          first | exact B4.out | exact B3.out | exact B2.out | exact B1.out
        | false =>
          go_wp2_with (first
            | (have hz := O1; clear hz; refine wpList_load_Row rfl 50 (.tmp 1) rfl w.heap.size 50 [.int .i64 4, .int .i64 s, .int .i64 f, .int .i64 t, .int .u64 (z : Int)] R0.out rfl _ Tryz.underlying50 rfl (by kernel_rfl) ?_)
            | (have hz := O1; clear hz; go_at_call 50; refine (O1.out _).mono ?_; rintro e w2 ⟨rfl, hb2⟩; have R1 : Hid (Row w2 w.heap.size 50 [.int .i64 4, .int .i64 s, .int .i64 f, .int .i64 t, .int .u64 (z : Int)]) := R0.out.below hb2 R0.out.lt; have B1 : Hid (Below w.heap.size w w2) := B0.out.trans (hb2.mono B0.out.size); clear c1 c2 c3 c4 O1 R0 B0 hb2; have c1 := R1.out.cell 1 _ rfl; have c2 := R1.out.cell 2 _ rfl; have c3 := R1.out.cell 3 _ rfl; have c4 := R1.out.cell 4 _ rfl)
            | (have hz := R1; clear hz; have hz := W0; clear hz; go_at_call 51; refine (W0.out _).mono ?_; rintro e w3 ⟨rfl, hb3⟩; have R2 : Hid (Row w3 w.heap.size 50 [.int .i64 4, .int .i64 s, .int .i64 f, .int .i64 t, .int .u64 (z : Int)]) := R1.out.below hb3 R1.out.lt; have B2 : Hid (Below w.heap.size w w3) := B1.out.trans (hb3.mono B1.out.size); clear c1 c2 c3 c4 W0 R1 B1 hb3; have c1 := R2.out.cell 1 _ rfl; have c2 := R2.out.cell 2 _ rfl; have c3 := R2.out.cell 3 _ rfl; have c4 := R2.out.cell 4 _ rfl)
            | (have hz := R2; clear hz; have hz := W1; clear hz; go_at_call 51; refine (W1.out _).mono ?_; rintro e w4 ⟨rfl, hb4⟩; have R3 : Hid (Row w4 w.heap.size 50 [.int .i64 4, .int .i64 s, .int .i64 f, .int .i64 t, .int .u64 (z : Int)]) := R2.out.below hb4 R2.out.lt; have B3 : Hid (Below w.heap.size w w4) := B2.out.trans (hb4.mono B2.out.size); clear c1 c2 c3 c4 W1 R2 B2 hb4; have c1 := R3.out.cell 1 _ rfl; have c2 := R3.out.cell 2 _ rfl; have c3 := R3.out.cell 3 _ rfl; have c4 := R3.out.cell 4 _ rfl))
          go_ret
          refine ⟨by rw [HC.out]; simp <;> omega, ?_⟩
          first | exact B4.out | exact B3.out | exact B2.out | exact B1.out
      | false =>
        go_wp2_with (first
          | (have hz := O1; clear hz; refine wpList_load_Row rfl 50 (.tmp 1) rfl w.heap.size 50 [.int .i64 4, .int .i64 s, .int .i64 f, .int .i64 t, .int .u64 (z : Int)] R0.out rfl _ Tryz.underlying50 rfl (by kernel_rfl) ?_)
          | (have hz := O1; clear hz; go_at_call 50; refine (O1.out _).mono ?_; rintro e w2 ⟨rfl, hb2⟩; have R1 : Hid (Row w2 w.heap.size 50 [.int .i64 4, .int .i64 s, .int .i64 f, .int .i64 t, .int .u64 (z : Int)]) := R0.out.below hb2 R0.out.lt; have B1 : Hid (Below w.heap.size w w2) := B0.out.trans (hb2.mono B0.out.size); clear c1 c2 c3 c4 O1 R0 B0 hb2; have c1 := R1.out.cell 1 _ rfl; have c2 := R1.out.cell 2 _ rfl; have c3 := R1.out.cell 3 _ rfl; have c4 := R1.out.cell 4 _ rfl)
          | (have hz := R1; clear hz; have hz := W0; clear hz; go_at_call 51; refine (W0.out _).mono ?_; rintro e w3 ⟨rfl, hb3⟩; have R2 : Hid (Row w3 w.heap.size 50 [.int .i64 4, .int .i64 s, .int .i64 f, .int .i64 t, .int .u64 (z : Int)]) := R1.out.below hb3 R1.out.lt; have B2 : Hid (Below w.heap.size w w3) := B1.out.trans (hb3.mono B1.out.size); clear c1 c2 c3 c4 W0 R1 B1 hb3; have c1 := R2.out.cell 1 _ rfl; have c2 := R2.out.cell 2 _ rfl; have c3 := R2.out.cell 3 _ rfl; have c4 := R2.out.cell 4 _ rfl)
          | (have hz := R2; clear hz; have hz := W1; clear hz; go_at_call 51; refine (W1.out _).mono ?_; rintro e w4 ⟨rfl, hb4⟩; have R3 : Hid (Row w4 w.heap.size 50 [.int .i64 4, .int .i64 s, .int .i64 f, .int .i64 t, .int .u64 (z : Int)]) := R2.out.below hb4 R2.out.lt; have B3 : Hid (Below w.heap.size w w4) := B2.out.trans (hb4.mono B2.out.size); clear c1 c2 c3 c4 W1 R2 B2 hb4; have c1 := R3.out.cell 1 _ rfl; have c2 := R3.out.cell 2 _ rfl; have c3 := R3.out.cell 3 _ rfl; have c4 := R3.out.cell 4 _ rfl))
        go_ret
        refine ⟨by rw [HC.out]; simp <;> omega, ?_⟩
        first | exact B4.out | exact B3.out | exact B2.out | exact B1.out
    | false =>
      go_wp2_with (first
        | (have hz := O1; clear hz; refine wpList_load_Row rfl 50 (.tmp 1) rfl w.heap.size 50 [.int .i64 4, .int .i64 s, .int .i64 f, .int .i64 t, .int .u64 (z : Int)] R0.out rfl _ Tryz.underlying50 rfl (by kernel_rfl) ?_)
        | (have hz := O1; clear hz; go_at_call 50; refine (O1.out _).mono ?_; rintro e w2 ⟨rfl, hb2⟩; have R1 : Hid (Row w2 w.heap.size 50 [.int .i64 4, .int .i64 s, .int .i64 f, .int .i64 t, .int .u64 (z : Int)]) := R0.out.below hb2 R0.out.lt; have B1 : Hid (Below w.heap.size w w2) := B0.out.trans (hb2.mono B0.out.size); clear c1 c2 c3 c4 O1 R0 B0 hb2; have c1 := R1.out.cell 1 _ rfl; have c2 := R1.out.cell 2 _ rfl; have c3 := R1.out.cell 3 _ rfl; have c4 := R1.out.cell 4 _ rfl)
        | (have hz := R1; clear hz; have hz := W0; clear hz; go_at_call 51; refine (W0.out _).mono ?_; rintro e w3 ⟨rfl, hb3⟩; have R2 : Hid (Row w3 w.heap.size 50 [.int .i64 4, .int .i64 s, .int .i64 f, .int .i64 t, .int .u64 (z : Int)]) := R1.out.below hb3 R1.out.lt; have B2 : Hid (Below w.heap.size w w3) := B1.out.trans (hb3.mono B1.out.size); clear c1 c2 c3 c4 W0 R1 B1 hb3; have c1 := R2.out.cell 1 _ rfl; have c2 := R2.out.cell 2 _ rfl; have c3 := R2.out.cell 3 _ rfl; have c4 := R2.out.cell 4 _ rfl)
        | (have hz := R2; clear hz; have hz := W1; clear hz; go_at_call 51; refine (W1.out _).mono ?_; rintro e w4 ⟨rfl, hb4⟩; have R3 : Hid (Row w4 w.heap.size 50 [.int .i64 4, .int .i64 s, .int .i64 f, .int .i64 t, .int .u64 (z : Int)]) := R2.out.below hb4 R2.out.lt; have B3 : Hid (Below w.heap.size w w4) := B2.out.trans (hb4.mono B2.out.size); clear c1 c2 c3 c4 W1 R2 B2 hb4; have c1 := R3.out.cell 1 _ rfl; have c2 := R3.out.cell 2 _ rfl; have c3 := R3.out.cell 3 _ rfl; have c4 := R3.out.cell 4 _ rfl))
      go_ret
      refine ⟨by rw [HC.out]; simp <;> omega, ?_⟩
      first | exact B4.out | exact B3.out | exact B2.out | exact B1.out
  have y4 : (k == 4) = false := by rw [beq_eq_false_iff_ne]; exact h4
  by_cases h5 : k = 5
  · subst h5
    obtain ⟨q1, hq1⟩ : ∃ q1, q1 = ((true || s == 0) && (false || f == 0) && (true || t == 0) && (false || z == 0)) := ⟨_, rfl⟩
    have O1 : Hid (∀ W, Calls Tryz.prog 50 #[.agg [.int .i64 5, .int .i64 s, .int .i64 f, .int .i64 t, .int .u64 (z : Int)].toArray, .bool true, .bool false, .bool true, .bool false] W fun e w' => e = .returned (.bool q1) ∧ Below W.heap.size W w') := fun W => by rw [hq1]; exact r24only_any 5 s f t z true false true false W
    obtain ⟨p0, hp0⟩ : ∃ p, p = decide (0 ≤ s ∧ s ≤ 7) := ⟨_, rfl⟩
    have W0 : Hid (∀ W, Calls Tryz.prog 51 #[.int .i64 s, .int .i64 7] W fun e w' => e = .returned (.bool p0) ∧ Below W.heap.size W w') := fun W => by rw [hp0]; exact r24within_any s 7 W
    obtain ⟨p1, hp1⟩ : ∃ p, p = decide (0 ≤ t ∧ t ≤ 4611686018427387904) := ⟨_, rfl⟩
    have W1 : Hid (∀ W, Calls Tryz.prog 51 #[.int .i64 t, .int .i64 4611686018427387904] W fun e w' => e = .returned (.bool p1) ∧ Below W.heap.size W w') := fun W => by rw [hp1]; exact r24within_any t 4611686018427387904 W
    have HC : Hid (cvMay ⟨5, s, f, t, z⟩ = (q1 && p0 && p1)) := by rw [hq1, hp0, hp1]; exact cvMay5 s f t z
    clear hq1 hp0 hp1
    cases q1 with
    | true =>
      cases p0 with
      | true =>
        cases p1 with
        | true =>
          go_wp2_with (first
            | (have hz := O1; clear hz; refine wpList_load_Row rfl 50 (.tmp 1) rfl w.heap.size 50 [.int .i64 5, .int .i64 s, .int .i64 f, .int .i64 t, .int .u64 (z : Int)] R0.out rfl _ Tryz.underlying50 rfl (by kernel_rfl) ?_)
            | (have hz := O1; clear hz; go_at_call 50; refine (O1.out _).mono ?_; rintro e w2 ⟨rfl, hb2⟩; have R1 : Hid (Row w2 w.heap.size 50 [.int .i64 5, .int .i64 s, .int .i64 f, .int .i64 t, .int .u64 (z : Int)]) := R0.out.below hb2 R0.out.lt; have B1 : Hid (Below w.heap.size w w2) := B0.out.trans (hb2.mono B0.out.size); clear c1 c2 c3 c4 O1 R0 B0 hb2; have c1 := R1.out.cell 1 _ rfl; have c2 := R1.out.cell 2 _ rfl; have c3 := R1.out.cell 3 _ rfl; have c4 := R1.out.cell 4 _ rfl)
            | (have hz := R1; clear hz; have hz := W0; clear hz; go_at_call 51; refine (W0.out _).mono ?_; rintro e w3 ⟨rfl, hb3⟩; have R2 : Hid (Row w3 w.heap.size 50 [.int .i64 5, .int .i64 s, .int .i64 f, .int .i64 t, .int .u64 (z : Int)]) := R1.out.below hb3 R1.out.lt; have B2 : Hid (Below w.heap.size w w3) := B1.out.trans (hb3.mono B1.out.size); clear c1 c2 c3 c4 W0 R1 B1 hb3; have c1 := R2.out.cell 1 _ rfl; have c2 := R2.out.cell 2 _ rfl; have c3 := R2.out.cell 3 _ rfl; have c4 := R2.out.cell 4 _ rfl)
            | (have hz := R2; clear hz; have hz := W1; clear hz; go_at_call 51; refine (W1.out _).mono ?_; rintro e w4 ⟨rfl, hb4⟩; have R3 : Hid (Row w4 w.heap.size 50 [.int .i64 5, .int .i64 s, .int .i64 f, .int .i64 t, .int .u64 (z : Int)]) := R2.out.below hb4 R2.out.lt; have B3 : Hid (Below w.heap.size w w4) := B2.out.trans (hb4.mono B2.out.size); clear c1 c2 c3 c4 W1 R2 B2 hb4; have c1 := R3.out.cell 1 _ rfl; have c2 := R3.out.cell 2 _ rfl; have c3 := R3.out.cell 3 _ rfl; have c4 := R3.out.cell 4 _ rfl))
          go_ret
          refine ⟨by rw [HC.out]; simp <;> omega, ?_⟩
          first | exact B4.out | exact B3.out | exact B2.out | exact B1.out
        | false =>
          go_wp2_with (first
            | (have hz := O1; clear hz; refine wpList_load_Row rfl 50 (.tmp 1) rfl w.heap.size 50 [.int .i64 5, .int .i64 s, .int .i64 f, .int .i64 t, .int .u64 (z : Int)] R0.out rfl _ Tryz.underlying50 rfl (by kernel_rfl) ?_)
            | (have hz := O1; clear hz; go_at_call 50; refine (O1.out _).mono ?_; rintro e w2 ⟨rfl, hb2⟩; have R1 : Hid (Row w2 w.heap.size 50 [.int .i64 5, .int .i64 s, .int .i64 f, .int .i64 t, .int .u64 (z : Int)]) := R0.out.below hb2 R0.out.lt; have B1 : Hid (Below w.heap.size w w2) := B0.out.trans (hb2.mono B0.out.size); clear c1 c2 c3 c4 O1 R0 B0 hb2; have c1 := R1.out.cell 1 _ rfl; have c2 := R1.out.cell 2 _ rfl; have c3 := R1.out.cell 3 _ rfl; have c4 := R1.out.cell 4 _ rfl)
            | (have hz := R1; clear hz; have hz := W0; clear hz; go_at_call 51; refine (W0.out _).mono ?_; rintro e w3 ⟨rfl, hb3⟩; have R2 : Hid (Row w3 w.heap.size 50 [.int .i64 5, .int .i64 s, .int .i64 f, .int .i64 t, .int .u64 (z : Int)]) := R1.out.below hb3 R1.out.lt; have B2 : Hid (Below w.heap.size w w3) := B1.out.trans (hb3.mono B1.out.size); clear c1 c2 c3 c4 W0 R1 B1 hb3; have c1 := R2.out.cell 1 _ rfl; have c2 := R2.out.cell 2 _ rfl; have c3 := R2.out.cell 3 _ rfl; have c4 := R2.out.cell 4 _ rfl)
            | (have hz := R2; clear hz; have hz := W1; clear hz; go_at_call 51; refine (W1.out _).mono ?_; rintro e w4 ⟨rfl, hb4⟩; have R3 : Hid (Row w4 w.heap.size 50 [.int .i64 5, .int .i64 s, .int .i64 f, .int .i64 t, .int .u64 (z : Int)]) := R2.out.below hb4 R2.out.lt; have B3 : Hid (Below w.heap.size w w4) := B2.out.trans (hb4.mono B2.out.size); clear c1 c2 c3 c4 W1 R2 B2 hb4; have c1 := R3.out.cell 1 _ rfl; have c2 := R3.out.cell 2 _ rfl; have c3 := R3.out.cell 3 _ rfl; have c4 := R3.out.cell 4 _ rfl))
          go_ret
          refine ⟨by rw [HC.out]; simp <;> omega, ?_⟩
          first | exact B4.out | exact B3.out | exact B2.out | exact B1.out
      | false =>
        go_wp2_with (first
          | (have hz := O1; clear hz; refine wpList_load_Row rfl 50 (.tmp 1) rfl w.heap.size 50 [.int .i64 5, .int .i64 s, .int .i64 f, .int .i64 t, .int .u64 (z : Int)] R0.out rfl _ Tryz.underlying50 rfl (by kernel_rfl) ?_)
          | (have hz := O1; clear hz; go_at_call 50; refine (O1.out _).mono ?_; rintro e w2 ⟨rfl, hb2⟩; have R1 : Hid (Row w2 w.heap.size 50 [.int .i64 5, .int .i64 s, .int .i64 f, .int .i64 t, .int .u64 (z : Int)]) := R0.out.below hb2 R0.out.lt; have B1 : Hid (Below w.heap.size w w2) := B0.out.trans (hb2.mono B0.out.size); clear c1 c2 c3 c4 O1 R0 B0 hb2; have c1 := R1.out.cell 1 _ rfl; have c2 := R1.out.cell 2 _ rfl; have c3 := R1.out.cell 3 _ rfl; have c4 := R1.out.cell 4 _ rfl)
          | (have hz := R1; clear hz; have hz := W0; clear hz; go_at_call 51; refine (W0.out _).mono ?_; rintro e w3 ⟨rfl, hb3⟩; have R2 : Hid (Row w3 w.heap.size 50 [.int .i64 5, .int .i64 s, .int .i64 f, .int .i64 t, .int .u64 (z : Int)]) := R1.out.below hb3 R1.out.lt; have B2 : Hid (Below w.heap.size w w3) := B1.out.trans (hb3.mono B1.out.size); clear c1 c2 c3 c4 W0 R1 B1 hb3; have c1 := R2.out.cell 1 _ rfl; have c2 := R2.out.cell 2 _ rfl; have c3 := R2.out.cell 3 _ rfl; have c4 := R2.out.cell 4 _ rfl)
          | (have hz := R2; clear hz; have hz := W1; clear hz; go_at_call 51; refine (W1.out _).mono ?_; rintro e w4 ⟨rfl, hb4⟩; have R3 : Hid (Row w4 w.heap.size 50 [.int .i64 5, .int .i64 s, .int .i64 f, .int .i64 t, .int .u64 (z : Int)]) := R2.out.below hb4 R2.out.lt; have B3 : Hid (Below w.heap.size w w4) := B2.out.trans (hb4.mono B2.out.size); clear c1 c2 c3 c4 W1 R2 B2 hb4; have c1 := R3.out.cell 1 _ rfl; have c2 := R3.out.cell 2 _ rfl; have c3 := R3.out.cell 3 _ rfl; have c4 := R3.out.cell 4 _ rfl))
        go_ret
        refine ⟨by rw [HC.out]; simp <;> omega, ?_⟩
        first | exact B4.out | exact B3.out | exact B2.out | exact B1.out
    | false =>
      go_wp2_with (first
        | (have hz := O1; clear hz; refine wpList_load_Row rfl 50 (.tmp 1) rfl w.heap.size 50 [.int .i64 5, .int .i64 s, .int .i64 f, .int .i64 t, .int .u64 (z : Int)] R0.out rfl _ Tryz.underlying50 rfl (by kernel_rfl) ?_)
        | (have hz := O1; clear hz; go_at_call 50; refine (O1.out _).mono ?_; rintro e w2 ⟨rfl, hb2⟩; have R1 : Hid (Row w2 w.heap.size 50 [.int .i64 5, .int .i64 s, .int .i64 f, .int .i64 t, .int .u64 (z : Int)]) := R0.out.below hb2 R0.out.lt; have B1 : Hid (Below w.heap.size w w2) := B0.out.trans (hb2.mono B0.out.size); clear c1 c2 c3 c4 O1 R0 B0 hb2; have c1 := R1.out.cell 1 _ rfl; have c2 := R1.out.cell 2 _ rfl; have c3 := R1.out.cell 3 _ rfl; have c4 := R1.out.cell 4 _ rfl)
        | (have hz := R1; clear hz; have hz := W0; clear hz; go_at_call 51; refine (W0.out _).mono ?_; rintro e w3 ⟨rfl, hb3⟩; have R2 : Hid (Row w3 w.heap.size 50 [.int .i64 5, .int .i64 s, .int .i64 f, .int .i64 t, .int .u64 (z : Int)]) := R1.out.below hb3 R1.out.lt; have B2 : Hid (Below w.heap.size w w3) := B1.out.trans (hb3.mono B1.out.size); clear c1 c2 c3 c4 W0 R1 B1 hb3; have c1 := R2.out.cell 1 _ rfl; have c2 := R2.out.cell 2 _ rfl; have c3 := R2.out.cell 3 _ rfl; have c4 := R2.out.cell 4 _ rfl)
        | (have hz := R2; clear hz; have hz := W1; clear hz; go_at_call 51; refine (W1.out _).mono ?_; rintro e w4 ⟨rfl, hb4⟩; have R3 : Hid (Row w4 w.heap.size 50 [.int .i64 5, .int .i64 s, .int .i64 f, .int .i64 t, .int .u64 (z : Int)]) := R2.out.below hb4 R2.out.lt; have B3 : Hid (Below w.heap.size w w4) := B2.out.trans (hb4.mono B2.out.size); clear c1 c2 c3 c4 W1 R2 B2 hb4; have c1 := R3.out.cell 1 _ rfl; have c2 := R3.out.cell 2 _ rfl; have c3 := R3.out.cell 3 _ rfl; have c4 := R3.out.cell 4 _ rfl))
      go_ret
      refine ⟨by rw [HC.out]; simp <;> omega, ?_⟩
      first | exact B4.out | exact B3.out | exact B2.out | exact B1.out
  have y5 : (k == 5) = false := by rw [beq_eq_false_iff_ne]; exact h5
  go_wp2
  go_ret
  exact ⟨by simp [cvMay, h1, h2, h3, h4, h5], B0.out⟩
end Go.Proofs.YtjooabgjkjnhhaaGreatDoor
