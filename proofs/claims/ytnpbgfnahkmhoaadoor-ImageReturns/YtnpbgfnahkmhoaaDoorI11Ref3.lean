
import Derived.Test.YtnpbgfnahkmhoaaDoorI11Ref2
import Derived.Test.YtnpbgfnahkmhoaaDoorI11Inv
/-! The reference's must, number, Parse. -/
namespace Go.Proofs.YtnpbgfnahkmhoaaDoor
open Go.RowKit

theorem nat_beq (x n : Nat) : ((x : Int) == (n : Int)) = (x == n) := by
  rw [Bool.eq_iff_iff]; simp only [beq_iff_eq]; omega

set_option maxHeartbeats 1000000 in
set_option maxRecDepth 100000 in
theorem must_any (i : Nat) (c : By) (w : World) : Calls Tryd.prog 32 #[.int .i64 i, .int .u8 (c.toNat : Int)] w fun e w' => e = .returned (.bool (mst i c.toNat)) ∧ w' = w := by
  have hc := c.isLt
  simp only [Nat.reducePow] at hc
  generalize c.toNat = x at *
  by_cases h8 : 8 ≤ i
  · have e0 : mst i x = true := by
      unfold mst
      rw [if_neg (by omega), if_neg (by omega), if_neg (by omega), if_neg (by omega), if_neg (by omega), if_neg (by omega), if_neg (by omega), if_neg (by omega)]
    rw [e0]
    have d : ∀ j : Int, j < 8 → ((i : Int) == j) = false := fun j hj => by rw [beq_eq_false_iff_ne]; omega
    have d0 := d 0 (by omega); have d1 := d 1 (by omega); have d2 := d 2 (by omega); have d3 := d 3 (by omega); have d4 := d 4 (by omega); have d5 := d 5 (by omega); have d6 := d 6 (by omega); have d7 := d 7 (by omega)
    clear d
    go_enter Tryd.func32, Tryd.ntmps32
    go_wp2
    go_ret
    exact ⟨rfl, rfl⟩
  · have h9 : i = 0 ∨ i = 1 ∨ i = 2 ∨ i = 3 ∨ i = 4 ∨ i = 5 ∨ i = 6 ∨ i = 7 := by omega
    clear h8
    rcases h9 with rfl | rfl | rfl | rfl | rfl | rfl | rfl | rfl
    all_goals
      go_enter Tryd.func32, Tryd.ntmps32
      go_wp2
      go_ret
      refine ⟨?_, rfl⟩
      congr 2
      simp [mst]
      try first | exact nat_beq x 80 | exact nat_beq x 67 | exact nat_beq x 85 | exact nat_beq x 76 | exact nat_beq x 1 | exact nat_beq x 0 | omega

theorem or64 (a b : Nat) (ha : a < 4294967296) (hb : b < 4294967296) : bits .or .i64 (a : Int) (b : Int) = ((a ||| b : Nat) : Int) := by
  have h := Nat.or_lt_two_pow (n := 32) ha hb
  simp only [Nat.reducePow] at h
  have e : 2 ^ IntKind.i64.bits = 18446744073709551616 := rfl
  simp [bits]
  rw [e, Nat.mod_eq_of_lt (by omega), Nat.mod_eq_of_lt (by omega)]
  exact i64_in _ (by omega) (by omega)
theorem or_num (x0 x1 x2 x3 : Nat) (h0 : x0 < 256) (h1 : x1 < 256) (h2 : x2 < 256) : ((x0 ||| x1 * 256) ||| x2 * 65536) ||| x3 * 16777216 = x0 + x1 * 256 + x2 * 65536 + x3 * 16777216 := by
  have e1 : x0 ||| x1 * 256 = x0 + x1 * 256 := by
    rw [Nat.or_comm, Nat.mul_comm x1, show (256 : Nat) = 2 ^ 8 by rfl, ← Nat.two_pow_add_eq_or_of_lt (by simpa using h0)]; omega
  have e2 : (x0 + x1 * 256) ||| x2 * 65536 = x0 + x1 * 256 + x2 * 65536 := by
    rw [Nat.or_comm, Nat.mul_comm x2, show (65536 : Nat) = 2 ^ 16 by rfl, ← Nat.two_pow_add_eq_or_of_lt (by simp only [Nat.reducePow]; omega)]; omega
  have e3 : (x0 + x1 * 256 + x2 * 65536) ||| x3 * 16777216 = x0 + x1 * 256 + x2 * 65536 + x3 * 16777216 := by
    rw [Nat.or_comm, Nat.mul_comm x3, show (16777216 : Nat) = 2 ^ 24 by rfl, ← Nat.two_pow_add_eq_or_of_lt (by simp only [Nat.reducePow]; omega)]; omega
  rw [e1, e2, e3]
theorem num_form (x0 x1 x2 x3 : Nat) (h0 : x0 < 256) (h1 : x1 < 256) (h2 : x2 < 256) (h3 : x3 < 256) :
    bits .or .i64 (bits .or .i64 (bits .or .i64 (bits .or .i64 0 (x0 : Int)) ((x1 : Int) * 256)) ((x2 : Int) * 65536)) ((x3 : Int) * 16777216) = ((x0 + x1 * 256 + x2 * 65536 + x3 * 16777216 : Nat) : Int) := by
  have q := or_num x0 x1 x2 x3 h0 h1 h2
  have l1 : x0 ||| x1 * 256 < 2 ^ 32 := Nat.or_lt_two_pow (by simp only [Nat.reducePow]; omega) (by simp only [Nat.reducePow]; omega)
  have l2 : (x0 ||| x1 * 256) ||| x2 * 65536 < 2 ^ 32 := Nat.or_lt_two_pow l1 (by simp only [Nat.reducePow]; omega)
  simp only [Nat.reducePow] at l1 l2
  have a0 : bits .or .i64 0 (x0 : Int) = ((0 ||| x0 : Nat) : Int) := or64 0 x0 (by omega) (by omega)
  rw [a0, Nat.zero_or]
  have a1 : bits .or .i64 (x0 : Int) ((x1 : Int) * 256) = ((x0 ||| x1 * 256 : Nat) : Int) := by
    have := or64 x0 (x1 * 256) (by omega) (by omega); rw [← this]; congr 1
  rw [a1]
  have a2 : bits .or .i64 ((x0 ||| x1 * 256 : Nat) : Int) ((x2 : Int) * 65536) = (((x0 ||| x1 * 256) ||| x2 * 65536 : Nat) : Int) := by
    have := or64 (x0 ||| x1 * 256) (x2 * 65536) l1 (by omega); rw [← this]; congr 1
  rw [a2]
  have a3 : bits .or .i64 (((x0 ||| x1 * 256) ||| x2 * 65536 : Nat) : Int) ((x3 : Int) * 16777216) = ((((x0 ||| x1 * 256) ||| x2 * 65536) ||| x3 * 16777216 : Nat) : Int) := by
    have := or64 ((x0 ||| x1 * 256) ||| x2 * 65536) (x3 * 16777216) l2 (by omega); rw [← this]; congr 1
  rw [a3, q]

set_option maxHeartbeats 1000000 in
set_option maxRecDepth 100000 in
theorem number_any (B off n cap : Nat) (b : List By) (hn : b.length = n) (h4 : 4 ≤ n) (w : World) (hb : ∀ j v, b[j]? = some v → w.cell? ⟨B, off + j, none⟩ = some (B8 v)) :
    Calls Tryd.prog 33 #[.slice (some ⟨B, off, none⟩) n cap] w fun e w' => e = .returned (.int .i64 (num4 b)) ∧ w' = w := by
  have i0 : (0 : Int) < (n : Int) := by omega
  have i1 : (1 : Int) < (n : Int) := by omega
  have i2 : (2 : Int) < (n : Int) := by omega
  have i3 : (3 : Int) < (n : Int) := by omega
  have c : ∀ j, j < n → w.cell? ⟨B, off + j, none⟩ = some (.int .u8 ((b.getD j 0).toNat : Int)) := fun j hj => by
    rw [hb j b[j] (List.getElem?_eq_getElem (by omega)), getD_lt (by omega)]; rfl
  have c0 := c 0 (by omega); have c1 := c 1 (by omega); have c2 := c 2 (by omega); have c3 := c 3 (by omega)
  have h0 := (b.getD 0 0).isLt; have h1 := (b.getD 1 0).isLt; have h2 := (b.getD 2 0).isLt; have h3 := (b.getD 3 0).isLt
  simp only [Nat.reducePow] at h0 h1 h2 h3
  have HN : Hid (num4 b = (b.getD 0 0).toNat + (b.getD 1 0).toNat * 256 + (b.getD 2 0).toNat * 65536 + (b.getD 3 0).toNat * 16777216) := rfl
  rw [Nat.add_zero] at c0
  clear c hb hn
  generalize (b.getD 0 0).toNat = x0 at *
  generalize (b.getD 1 0).toNat = x1 at *
  generalize (b.getD 2 0).toNat = x2 at *
  generalize (b.getD 3 0).toNat = x3 at *
  go_enter Tryd.func33, Tryd.ntmps33
  go_wp2
  refine wp_loop_rounds 5 ?_
  rw [rounds_succ]
  go_wp2
  rw [rounds_succ]
  go_wp2
  rw [rounds_succ]
  go_wp2
  rw [rounds_succ]
  go_wp2
  rw [rounds_succ]
  go_wp2
  go_ret
  refine ⟨?_, rfl⟩
  rw [HN.out, ← num_form x0 x1 x2 x3 h0 h1 h2 h3]
  rfl
end Go.Proofs.YtnpbgfnahkmhoaaDoor
