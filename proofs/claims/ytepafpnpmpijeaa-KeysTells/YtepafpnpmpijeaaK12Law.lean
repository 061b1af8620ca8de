
import Derived.Test.YtepafpnpmpijeaaK12Nums
import Derived.Test.YtepafpnpmpijeaaK12Ref3
/-! The laws' own: sameInts, beyond. -/
namespace Go.Proofs.Ytepafpnpmpijeaa
open Go.RowKit
set_option linter.unusedVariables false

/-- A slice of numbers that can be read. -/
def RdI (w : World) (ao : Option Addr) (n : Nat) (m : List Int) : Prop := m.length = n ∧ (0 < n → ∃ q, ao = some ⟨q, 0, none⟩ ∧ ∀ j, j < n → w.cell? ⟨q, j, none⟩ = some (.int .i64 (m.getD j 0)))
theorem OwnI.rd {N : Nat} {w : World} {ao : Option Addr} {n c : Nat} {m : List Int} (h : OwnI N w (.slice ao n c) m) : RdI w ao n m :=
  ⟨h.len, fun hn => by
    obtain ⟨q, rfl, _⟩ := h.at hn
    exact ⟨q, rfl, fun j hj => h.cell j hj⟩⟩
theorem RdI.dr {w w' : World} {ao : Option Addr} {n : Nat} {m : List Int} (h : RdI w ao n m) (d : Dr w w') : RdI w' ao n m := by
  obtain ⟨k, rfl⟩ := d
  exact h

set_option maxHeartbeats 1000000 in
set_option maxRecDepth 100000 in
theorem sameInts_any (w : World) (ao bo : Option Addr) (n c m d : Nat) (A B : List Int) (ha : RdI w ao n A) (hb : RdI w bo m B) (hn : n ≤ 1000000) :
    Calls Try.prog 16 #[.slice ao n c, .slice bo m d] w fun e w' => e = .returned (.bool (decide (A = B))) ∧ Dr w w' := by
  by_cases hnm : n = m
  · subst hnm
    go_enter Try.func16, Try.ntmps16
    go_wp2
    go_loopw [13] (fun iv wr => ∃ k : Nat, k ≤ n ∧ iv = .int .i64 k ∧ Hid (Dr w wr ∧ ∀ j, j < k → A.getD j 0 = B.getD j 0)) (fun iv _ => n - (intOf iv).toNat)
    case atStart => exact ⟨0, by omega, rfl, Dr.refl _, fun j hj => absurd hj (by omega)⟩
    case round =>
      obtain ⟨k, hk, rfl, HI⟩ := hrel
      by_cases hlt : k < n
      · have y0 : (0 : Int) ≤ (k : Int) := by omega
        have y1 : (k : Int) < (n : Int) := by omega
        obtain ⟨q, rfl, h1⟩ := (ha.dr HI.out.1).2 (by omega)
        obtain ⟨q2, rfl, h2⟩ := (hb.dr HI.out.1).2 (by omega)
        have c1 := h1 k hlt
        have c2 := h2 k hlt
        have HX : Hid (∀ x y : Int, A.getD k 0 = x → B.getD k 0 = y → x ≠ y → A ≠ B) := fun x y e1 e2 hne e3 => hne (by rw [← e1, ← e2, e3])
        have HY : Hid (∀ x y : Int, A.getD k 0 = x → B.getD k 0 = y → x = y → ∀ j, j < k + 1 → A.getD j 0 = B.getD j 0) := fun x y e1 e2 he j hj => by
          rcases Nat.lt_or_ge j k with h3 | h3
          · exact HI.out.2 j h3
          · obtain rfl : j = k := by omega
            rw [e1, e2, he]
        generalize hx : A.getD k 0 = x at c1
        generalize hy : B.getD k 0 = y at c2
        have HX2 := HX.out x y hx hy
        have HY2 := HY.out x y hx hy
        clear HX HY hx hy h1 h2
        by_cases he : x = y
        · have HY3 : Hid (∀ j, j < k + 1 → A.getD j 0 = B.getD j 0) := HY2 he
          have hbe : (x == y) = true := by simpa using he
          subst he
          clear HX2 HY2
          go_wp2
          go_quiet (fail)
          go_wp2
          exact ⟨⟨k + 1, by omega, by go_num, HI.out.1.drewN nq, HY3.out⟩, by simp [intOf]; omega⟩
        · have HX3 : Hid (A ≠ B) := HX2 he
          have hbe : (x == y) = false := by simpa using he
          clear HX2 HY2 he
          go_wp2
          go_quiet (fail)
          go_wp2
          go_ret
          exact ⟨by simp [HX3.out], HI.out.1.drewN nq⟩
      · obtain rfl : k = n := by omega
        have y1 : ¬ ((k : Nat) : Int) < (k : Int) := by omega
        have HE : Hid (A = B) := by
          refine List.ext_getElem (by rw [ha.1, hb.1]) fun i h1 h2 => ?_
          have := HI.out.2 i (by rw [← ha.1]; exact h1)
          simpa [h1, h2] using this
        clear ha hb
        go_wp2
        go_ret
        exact ⟨by simp [HE.out], HI.out.1⟩
  · have HN : Hid (A ≠ B) := fun e => hnm (by rw [← ha.1, ← hb.1, e])
    have hbe : ((n : Int) == (m : Int)) = false := by
      rw [beq_eq_false_iff_ne]; omega
    clear ha hb
    go_enter Try.func16, Try.ntmps16
    go_wp2
    go_ret
    exact ⟨by simp [HN.out], Dr.refl _⟩

def sumTo (la : Nat → Nat) : Nat → Nat
  | 0 => 0
  | k + 1 => sumTo la k + la k

def BeyPost (la : Nat → Nat) (n : Nat) (w : World) (e : Ending) (w' : World) : Prop := ∃ r, e = .returned (.bool r) ∧ w' = w ∧ (r = false → 64 * n + sumTo la n ≤ 2147483647)

set_option maxHeartbeats 1000000 in
set_option maxRecDepth 100000 in
theorem beyond_any (w : World) (ao : Option Addr) (n c : Nat) (la : Nat → Nat) (hc : ∀ i, i < n → ∃ B off bo cb, ao = some ⟨B, off, none⟩ ∧ w.cell? ⟨B, off + i * 34 + 1, none⟩ = some (.slice bo (la i) cb) ∧ la i ≤ 140737488355328) (hn : n ≤ 140737488355328) :
    Calls Try.prog 8 #[.slice ao n c] w (BeyPost la n w) := by
  go_enter Try.func8, Try.ntmps8
  go_wp2
  go_loopw [3, 4] (fun lv iv wr => ∃ (k : Nat) (x : Int), k ≤ n ∧ lv = .int .i64 x ∧ iv = .int .i64 k ∧ Hid (x = 2147483647 - 64 * k - sumTo la k) ∧ -281474976710656 ≤ x ∧ x ≤ 2147483647 ∧ wr = w) (fun _ iv _ => n - (intOf iv).toNat)
  case atStart => exact ⟨0, 2147483647, by omega, rfl, rfl, (by show _ = _; simp [sumTo]), by omega, by omega, rfl⟩
  case round =>
    obtain ⟨k, x, hk, rfl, rfl, HX, hx1, hx2, rfl⟩ := hrel
    by_cases hlt : k < n
    · have y0 : (0 : Int) ≤ (k : Int) := by omega
      have y1 : (k : Int) < (n : Int) := by omega
      by_cases hx : 0 ≤ x
      · obtain ⟨B, off, bo, cb, rfl, hcc, hll⟩ := hc k hlt
        have HX2 : Hid (x - 64 - (la k : Int) = 2147483647 - 64 * ((k + 1 : Nat) : Int) - (sumTo la (k + 1) : Int)) := by
          have := HX.out
          show _ = _
          rw [show sumTo la (k + 1) = sumTo la k + la k from rfl]; omega
        generalize la k = L at hcc hll HX2
        have z1 : -9223372036854775808 ≤ x - 64 ∧ x - 64 ≤ 9223372036854775807 := by omega
        have z2 : -9223372036854775808 ≤ x - 64 - (L : Int) ∧ x - 64 - (L : Int) ≤ 9223372036854775807 := by omega
        clear hc
        go_wp2
        exact ⟨⟨k + 1, x - 64 - (L : Int), by omega, by go_num, by go_num, HX2, by omega, by omega, trivial⟩, by simp [intOf]; omega⟩
      · have hx' : x < 0 := by omega
        clear hc
        go_wp2
        go_ret
        exact ⟨true, rfl, rfl, fun h => by cases h⟩
    · obtain rfl : k = n := by omega
      have y1 : ¬ ((k : Nat) : Int) < (k : Int) := by omega
      clear hc
      by_cases hx : x < 0
      · go_wp2
        go_ret
        exact ⟨true, rfl, rfl, fun h => by cases h⟩
      · go_wp2
        go_ret
        exact ⟨false, rfl, rfl, fun _ => by have := HX.out; omega⟩

end Go.Proofs.Ytepafpnpmpijeaa
