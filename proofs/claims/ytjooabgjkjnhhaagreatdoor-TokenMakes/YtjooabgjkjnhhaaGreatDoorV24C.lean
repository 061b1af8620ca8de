import Derived.Test.YtjooabgjkjnhhaaGreatDoorT24A
import Derived.Test.YtjooabgjkjnhhaaGreatDoorT24E

/-! The code's token: what a caveat asks. -/
namespace Go.Proofs.YtjooabgjkjnhhaaGreatDoor
open Go.RowKit
set_option linter.unusedVariables false
set_option linter.unusedSimpArgs false
set_option maxRecDepth 100000

theorem maySlot_any (s : Int) (w : World) : Calls Tryz.prog 113 #[.int .i64 s] w fun e w' => e = .returned (.bool (decide (0 ≤ s ∧ s ≤ 7))) ∧ w' = w := by
  obtain ⟨q, hq⟩ : ∃ q, q = decide (0 ≤ s ∧ s ≤ 7) := ⟨_, rfl⟩
  rw [← hq]
  by_cases h : 0 ≤ s
  · have hd : decide ((0 : Int) ≤ s) = true := decide_eq_true h
    have d1 : decide (s < 8) = q := by rw [hq, Bool.eq_iff_iff]; simp; omega
    clear hq
    go_enter Tryz.func113, Tryz.ntmps113
    go_wp2
    go_ret
    exact ⟨rfl, rfl⟩
  · have hd : decide ((0 : Int) ≤ s) = false := decide_eq_false h
    have hq' : q = false := by rw [hq]; simp; omega
    subst hq'
    clear hq
    go_enter Tryz.func113, Tryz.ntmps113
    go_wp2
    go_ret
    exact ⟨rfl, rfl⟩
theorem mayValue_any (s : Int) (w : World) : Calls Tryz.prog 120 #[.int .i64 s] w fun e w' => e = .returned (.bool (decide (0 ≤ s ∧ s ≤ 4611686018427387904))) ∧ w' = w := by
  obtain ⟨q, hq⟩ : ∃ q, q = decide (0 ≤ s ∧ s ≤ 4611686018427387904) := ⟨_, rfl⟩
  rw [← hq]
  by_cases h : 0 ≤ s
  · have hd : decide ((0 : Int) ≤ s) = true := decide_eq_true h
    have d1 : decide (s ≤ 4611686018427387904) = q := by rw [hq, Bool.eq_iff_iff]; simp; omega
    clear hq
    go_enter Tryz.func120, Tryz.ntmps120
    go_wp2
    go_ret
    exact ⟨rfl, rfl⟩
  · have hd : decide ((0 : Int) ≤ s) = false := decide_eq_false h
    have hq' : q = false := by rw [hq]; simp; omega
    subst hq'
    clear hq
    go_enter Tryz.func120, Tryz.ntmps120
    go_wp2
    go_ret
    exact ⟨rfl, rfl⟩
/-- Does what a caveat asks have fields that may be? -/
def dmMay (c : Cv) : Bool :=
  if c.k = 1 then decide (0 ≤ c.s ∧ c.s ≤ 7)
  else if c.k = 2 then decide (0 ≤ c.f ∧ c.f ≤ c.t ∧ c.t ≤ 4294967295)
  else if c.k = 3 then decide (c.z ≠ 0 ∧ c.z &&& 18446744073709535233 = 0)
  else if c.k = 4 then decide ((0 ≤ c.s ∧ c.s ≤ 7) ∧ 0 ≤ c.f ∧ c.f ≤ 4611686018427387904)
  else decide ((0 ≤ c.s ∧ c.s ≤ 7) ∧ 0 ≤ c.t ∧ c.t ≤ 4611686018427387904)
/-- The caveat with just the fields that count. -/
def onlyC (c : Cv) : Cv :=
  if c.k = 1 then ⟨1, c.s, 0, 0, 0⟩
  else if c.k = 2 then ⟨2, 0, c.f, c.t, 0⟩
  else if c.k = 3 then ⟨3, 0, 0, 0, c.z⟩
  else if c.k = 4 then ⟨4, c.s, c.f, 0, 0⟩
  else ⟨5, c.s, 0, c.t, 0⟩
theorem cvMay_dm (c : Cv) (h1 : 1 ≤ c.k) (h5 : c.k ≤ 5) : ∃ r : Bool, (r = true ↔ c = onlyC c) ∧ cvMay c = (r && dmMay c) := by
  obtain ⟨k, s, f, t, z⟩ := c
  dsimp only at h1 h5
  have hk : k = 1 ∨ k = 2 ∨ k = 3 ∨ k = 4 ∨ k = 5 := by omega
  rcases hk with rfl | rfl | rfl | rfl | rfl
  · refine ⟨decide (f = 0 ∧ t = 0 ∧ z = 0), by simp [onlyC], ?_⟩
    rw [Bool.eq_iff_iff]; simp [cvMay, dmMay]; constructor <;> (intro h; omega)
  · refine ⟨decide (s = 0 ∧ z = 0), by simp [onlyC], ?_⟩
    rw [Bool.eq_iff_iff]; simp [cvMay, dmMay]; constructor <;> (intro h; omega)
  · refine ⟨decide (s = 0 ∧ f = 0 ∧ t = 0), by simp [onlyC], ?_⟩
    rw [Bool.eq_iff_iff]; simp [cvMay, dmMay]; constructor <;> (intro h; simp_all)
  · refine ⟨decide (t = 0 ∧ z = 0), by simp [onlyC], ?_⟩
    rw [Bool.eq_iff_iff]; simp [cvMay, dmMay]; constructor <;> (intro h; omega)
  · refine ⟨decide (f = 0 ∧ z = 0), by simp [onlyC], ?_⟩
    rw [Bool.eq_iff_iff]; simp [cvMay, dmMay]; constructor <;> (intro h; omega)
theorem cvMay_k {c : Cv} (h : ¬ (1 ≤ c.k ∧ c.k ≤ 5)) : cvMay c = false := by
  cases hm : cvMay c
  · rfl
  · exact absurd (cvMay_in hm).1 h
/-- What a caveat asks, behind the interface. -/
def dmV (c : Cv) : Value :=
  if c.k = 1 then .iface 116 (.agg #[.int .i64 c.s])
  else if c.k = 2 then .iface 118 (.agg #[.int .i64 c.f, .int .i64 c.t])
  else if c.k = 3 then .iface 120 (.agg #[.int .u64 (c.z : Int)])
  else if c.k = 4 then .iface 122 (.agg #[.int .i64 c.s, .int .i64 c.f])
  else .iface 124 (.agg #[.int .i64 c.s, .int .i64 c.t])
theorem slMay_any (s : Int) (w : World) : Calls Tryz.prog 111 #[.agg #[.int .i64 s]] w fun e w' => e = .returned (.bool (decide (0 ≤ s ∧ s ≤ 7))) ∧ Below w.heap.size w w' := by
  have HB : Hid (∀ W, w.alloc (.cells #[.int .i64 s] 116) = W → Below w.heap.size w W) := fun W h => by rw [← h]; exact (Below.refl _ _).alloc (Nat.le_refl _) _
  have F : Hid (∀ W, Calls Tryz.prog 113 #[.int .i64 s] W fun e w' => e = .returned (.bool (decide (0 ≤ s ∧ s ≤ 7))) ∧ w' = W) := fun W => maySlot_any s W
  generalize decide (0 ≤ s ∧ s ≤ 7) = q at *
  go_enter Tryz.func111, Tryz.ntmps111
  go_wp2_with (go_at_call 113; refine (F.out _).mono ?_; rintro e w2 ⟨rfl, rfl⟩)
  go_ret
  exact ⟨rfl, HB.out _ rfl⟩
theorem bits_or64 (a b : Nat) (ha : a < 18446744073709551616) (hb : b < 18446744073709551616) : bits .or .u64 (a : Int) (b : Int) = ((a ||| b : Nat) : Int) := by
  show IntKind.u64.wrap ((BitVec.ofInt 64 (a : Int) ||| BitVec.ofInt 64 (b : Int)).toNat : Int) = _
  have e3 : (BitVec.ofInt 64 (a : Int) ||| BitVec.ofInt 64 (b : Int)).toNat = a ||| b := by
    rw [BitVec.toNat_or]
    have q1 : (BitVec.ofInt 64 (a : Int)).toNat = a := by rw [BitVec.toNat_ofInt]; omega
    have q2 : (BitVec.ofInt 64 (b : Int)).toNat = b := by rw [BitVec.toNat_ofInt]; omega
    rw [q1, q2]
  rw [e3]
  have : a ||| b < 18446744073709551616 := by rw [← e3]; exact (BitVec.isLt _)
  simp [IntKind.wrap, IntKind.bits, IntKind.signed]
  omega
theorem set_or {z : Nat} (hz : z < 18446744073709551616) : (z ||| 16382 = 16382) ↔ (z &&& 18446744073709535233 = 0) := by
  have hm : ∀ i : Fin 64, Nat.testBit 18446744073709535233 i.val = !(Nat.testBit 16382 i.val) := by decide
  have hz2 : z < 2 ^ 64 := hz
  constructor
  · intro h
    apply Nat.eq_of_testBit_eq; intro i
    rw [Nat.testBit_and, Nat.zero_testBit]
    by_cases hi : i < 64
    · have h1 := congrArg (fun n => n.testBit i) h
      simp only [Nat.testBit_or] at h1
      have h2 := hm ⟨i, hi⟩
      dsimp only at h2
      rw [h2]
      cases h3 : z.testBit i
      · rfl
      · rw [h3, Bool.true_or] at h1; rw [← h1]; rfl
    · have : z.testBit i = false := Nat.testBit_lt_two_pow (Nat.lt_of_lt_of_le hz2 (Nat.pow_le_pow_right (by omega) (by omega)))
      rw [this, Bool.false_and]
  · intro h
    apply Nat.eq_of_testBit_eq; intro i
    have h1 := congrArg (fun n => n.testBit i) h
    simp only [Nat.testBit_and, Nat.zero_testBit] at h1
    rw [Nat.testBit_or]
    by_cases hi : i < 64
    · have h2 := hm ⟨i, hi⟩
      dsimp only at h2
      rw [h2] at h1
      cases h3 : z.testBit i
      · rw [Bool.false_or]
      · rw [h3, Bool.true_and] at h1
        cases h4 : Nat.testBit 16382 i
        · rw [h4] at h1; cases h1
        · rfl
    · have : z.testBit i = false := Nat.testBit_lt_two_pow (Nat.lt_of_lt_of_le hz2 (Nat.pow_le_pow_right (by omega) (by omega)))
      rw [this, Bool.false_or]
theorem kiMay_any (z : Nat) (hz : z < 18446744073709551616) (w : World) : Calls Tryz.prog 116 #[.agg #[.int .u64 (z : Int)]] w fun e w' => e = .returned (.bool (decide (z ≠ 0 ∧ z &&& 18446744073709535233 = 0))) ∧ Below w.heap.size w w' := by
  have HB : Hid (∀ W, w.alloc (.cells #[.int .u64 (z : Int)] 120) = W → Below w.heap.size w W) := fun W h => by rw [← h]; exact (Below.refl _ _).alloc (Nat.le_refl _) _
  obtain ⟨q, hq⟩ : ∃ q, q = decide (z ≠ 0 ∧ z &&& 18446744073709535233 = 0) := ⟨_, rfl⟩
  rw [← hq]
  by_cases h0 : z = 0
  · subst h0
    have hq' : q = false := by rw [hq]; rfl
    subst hq'
    clear hq
    go_enter Tryz.func116, Tryz.ntmps116
    go_wp2
    go_ret
    exact ⟨rfl, HB.out _ rfl⟩
  · have e1 : ((z : Int) != 0) = true := by rw [bne_iff_ne]; omega
    have e2 : (bits .or .u64 (z : Int) 16382 == 16382) = q := by
      rw [show (16382 : Int) = ((16382 : Nat) : Int) from rfl, bits_or64 z 16382 hz (by decide), hq, Bool.eq_iff_iff]
      simp only [beq_iff_eq, decide_eq_true_eq]
      rw [← set_or hz]
      constructor
      · intro h; exact ⟨h0, by omega⟩
      · intro h; omega
    clear hq
    go_enter Tryz.func116, Tryz.ntmps116
    go_wp2
    go_ret
    exact ⟨rfl, HB.out _ rfl⟩
theorem veMay_any (f t : Int) (w : World) : Calls Tryz.prog 114 #[.agg #[.int .i64 f, .int .i64 t]] w fun e w' => e = .returned (.bool (decide (0 ≤ f ∧ f ≤ t ∧ t ≤ 4294967295))) ∧ Below w.heap.size w w' := by
  have HB : Hid (∀ W, w.alloc (.cells #[.int .i64 f, .int .i64 t] 118) = W → Below w.heap.size w W) := fun W h => by rw [← h]; exact (Below.refl _ _).alloc (Nat.le_refl _) _
  obtain ⟨q, hq⟩ : ∃ q, q = decide (0 ≤ f ∧ f ≤ t ∧ t ≤ 4294967295) := ⟨_, rfl⟩
  rw [← hq]
  by_cases h0 : 0 ≤ f
  · have d0 : decide ((0 : Int) ≤ f) = true := decide_eq_true h0
    by_cases h1 : f ≤ t
    · have d1 : decide (f ≤ t) = true := decide_eq_true h1
      have d2 : decide (t ≤ 4294967295) = q := by rw [hq, Bool.eq_iff_iff]; simp; omega
      clear hq
      go_enter Tryz.func114, Tryz.ntmps114
      go_wp2
      go_ret
      exact ⟨rfl, HB.out _ rfl⟩
    · have d1 : decide (f ≤ t) = false := decide_eq_false h1
      have hq' : q = false := by rw [hq]; simp; omega
      subst hq'
      clear hq
      go_enter Tryz.func114, Tryz.ntmps114
      go_wp2
      go_ret
      exact ⟨rfl, HB.out _ rfl⟩
  · have d0 : decide ((0 : Int) ≤ f) = false := decide_eq_false h0
    have hq' : q = false := by rw [hq]; simp; omega
    subst hq'
    clear hq
    go_enter Tryz.func114, Tryz.ntmps114
    go_wp2
    go_ret
    exact ⟨rfl, HB.out _ rfl⟩
theorem leMay_any (s f : Int) (w : World) : Calls Tryz.prog 118 #[.agg #[.int .i64 s, .int .i64 f]] w fun e w' => e = .returned (.bool (decide ((0 ≤ s ∧ s ≤ 7) ∧ 0 ≤ f ∧ f ≤ 4611686018427387904))) ∧ Below w.heap.size w w' := by
  have HB : Hid (∀ W, w.alloc (.cells #[.int .i64 s, .int .i64 f] 122) = W → Below w.heap.size w W) := fun W h => by rw [← h]; exact (Below.refl _ _).alloc (Nat.le_refl _) _
  obtain ⟨q, hq⟩ : ∃ q, q = decide (0 ≤ s ∧ s ≤ 7) := ⟨_, rfl⟩
  obtain ⟨r, hr⟩ : ∃ r, r = decide (0 ≤ f ∧ f ≤ 4611686018427387904) := ⟨_, rfl⟩
  have F : Hid (∀ W, Calls Tryz.prog 113 #[.int .i64 s] W fun e w' => e = .returned (.bool q) ∧ w' = W) := fun W => by rw [hq]; exact maySlot_any s W
  have G : Hid (∀ W, Calls Tryz.prog 120 #[.int .i64 f] W fun e w' => e = .returned (.bool r) ∧ w' = W) := fun W => by rw [hr]; exact mayValue_any f W
  have e : decide ((0 ≤ s ∧ s ≤ 7) ∧ 0 ≤ f ∧ f ≤ 4611686018427387904) = (q && r) := by rw [hq, hr, Bool.eq_iff_iff]; simp
  rw [e]
  clear e hq hr
  cases q
  · go_enter Tryz.func118, Tryz.ntmps118
    go_wp2_with (first
      | (go_at_call 113; refine (F.out _).mono ?_; rintro e w2 ⟨rfl, rfl⟩)
      | (go_at_call 120; refine (G.out _).mono ?_; rintro e w2 ⟨rfl, rfl⟩))
    go_ret
    exact ⟨rfl, HB.out _ rfl⟩
  · go_enter Tryz.func118, Tryz.ntmps118
    go_wp2_with (first
      | (go_at_call 113; refine (F.out _).mono ?_; rintro e w2 ⟨rfl, rfl⟩)
      | (go_at_call 120; refine (G.out _).mono ?_; rintro e w2 ⟨rfl, rfl⟩))
    go_ret
    exact ⟨rfl, HB.out _ rfl⟩
theorem moMay_any (s f : Int) (w : World) : Calls Tryz.prog 121 #[.agg #[.int .i64 s, .int .i64 f]] w fun e w' => e = .returned (.bool (decide ((0 ≤ s ∧ s ≤ 7) ∧ 0 ≤ f ∧ f ≤ 4611686018427387904))) ∧ Below w.heap.size w w' := by
  have HB : Hid (∀ W, w.alloc (.cells #[.int .i64 s, .int .i64 f] 124) = W → Below w.heap.size w W) := fun W h => by rw [← h]; exact (Below.refl _ _).alloc (Nat.le_refl _) _
  obtain ⟨q, hq⟩ : ∃ q, q = decide (0 ≤ s ∧ s ≤ 7) := ⟨_, rfl⟩
  obtain ⟨r, hr⟩ : ∃ r, r = decide (0 ≤ f ∧ f ≤ 4611686018427387904) := ⟨_, rfl⟩
  have F : Hid (∀ W, Calls Tryz.prog 113 #[.int .i64 s] W fun e w' => e = .returned (.bool q) ∧ w' = W) := fun W => by rw [hq]; exact maySlot_any s W
  have G : Hid (∀ W, Calls Tryz.prog 120 #[.int .i64 f] W fun e w' => e = .returned (.bool r) ∧ w' = W) := fun W => by rw [hr]; exact mayValue_any f W
  have e : decide ((0 ≤ s ∧ s ≤ 7) ∧ 0 ≤ f ∧ f ≤ 4611686018427387904) = (q && r) := by rw [hq, hr, Bool.eq_iff_iff]; simp
  rw [e]
  clear e hq hr
  cases q
  · go_enter Tryz.func121, Tryz.ntmps121
    go_wp2_with (first
      | (go_at_call 113; refine (F.out _).mono ?_; rintro e w2 ⟨rfl, rfl⟩)
      | (go_at_call 120; refine (G.out _).mono ?_; rintro e w2 ⟨rfl, rfl⟩))
    go_ret
    exact ⟨rfl, HB.out _ rfl⟩
  · go_enter Tryz.func121, Tryz.ntmps121
    go_wp2_with (first
      | (go_at_call 113; refine (F.out _).mono ?_; rintro e w2 ⟨rfl, rfl⟩)
      | (go_at_call 120; refine (G.out _).mono ?_; rintro e w2 ⟨rfl, rfl⟩))
    go_ret
    exact ⟨rfl, HB.out _ rfl⟩
end Go.Proofs.YtjooabgjkjnhhaaGreatDoor


/-! The code's token: numbers, there and back. -/
namespace Go.Proofs.YtjooabgjkjnhhaaGreatDoor
open Go.RowKit
set_option linter.unusedVariables false
set_option linter.unusedSimpArgs false
set_option maxRecDepth 100000

set_option maxHeartbeats 1000000 in
theorem number_any (B off cap : Nat) (p : List By) (w : World) (hb : ∀ j, j < 8 → w.cell? ⟨B, off + j, none⟩ = some (.int .u8 ((p.getD j 0).toNat : Int))) :
    Calls Tryz.prog 57 #[.slice (some ⟨B, off, none⟩) 8 cap] w fun e w' => e = .returned (.int .u64 (num8 p)) ∧ w' = w := by
  have HB : Hid (∀ j, j < 8 → w.cell? ⟨B, off + j, none⟩ = some (.int .u8 ((p.getD j 0).toNat : Int))) := hb
  have H0 : Hid (numTo p 0 = 0) := rfl
  clear hb
  go_enter Tryz.func57, Tryz.ntmps57
  go_wp2
  go_loopw [3, 8] (fun nv iv wr => ∃ i : Nat, i ≤ 8 ∧ nv = .int .u64 (numTo p i) ∧ iv = .int .i64 i ∧ wr = w) (fun _ iv _ => 8 - (intOf iv).toNat)
  case atStart => exact ⟨0, by omega, rfl, rfl, rfl⟩
  case round =>
    obtain ⟨i, hi, rfl, rfl, rfl⟩ := hrel
    by_cases hlt : i < 8
    · have y0 : (0 : Int) ≤ (i : Int) := by omega
      have y1 : (i : Int) < 8 := by omega
      have z1 : IntKind.i64.wrap (8 * (i : Int)) = 8 * (i : Int) := i64_in _ (by omega) (by omega)
      have c := HB.out i hlt
      have HO : Hid (bits .or .u64 (numTo p i : Int) ((((p.getD i 0).toNat : Nat) : Int) * 2 ^ (8 * i) % 18446744073709551616) = (numTo p (i + 1) : Int)) := or_num p i hlt
      have ho := HO.out
      go_wp2
      exact ⟨⟨i + 1, by omega, by rw [wrapU64]; exact congrArg _ ho, by go_num, by first | rfl | trivial⟩, by simp [intOf]; omega⟩
    · obtain rfl : i = 8 := by omega
      have y1 : ¬ ((8 : Nat) : Int) < 8 := by omega
      have HF : Hid (numTo p 8 = num8 p) := numTo_8 p
      go_wp2
      go_ret
      exact ⟨by rw [← HF.out]; rfl, rfl⟩
/-- Cells into which the first k bytes of a number were laid. -/
def layTo (cs : List Value) (off n : Nat) : Nat → List Value
  | 0 => cs
  | k + 1 => (layTo cs off n k).set (off + k) (B8 (BitVec.ofNat 8 (n / 256 ^ k)))
theorem layTo_len (cs : List Value) (off n : Nat) : ∀ k, (layTo cs off n k).length = cs.length
  | 0 => rfl
  | k + 1 => by rw [layTo, List.length_set, layTo_len cs off n k]
set_option maxHeartbeats 1000000 in
theorem lay_any (B off cap t : Nat) (cs : List Value) (n : Nat) (hn : n < 18446744073709551616) (w : World) (hr : Row w B t cs) (hl : off + 8 ≤ cs.length) :
    Calls Tryz.prog 69 #[.slice (some ⟨B, off, none⟩) 8 cap, .int .u64 (n : Int)] w fun e w' => e = .returned (.tuple #[]) ∧ Row w' B t (layTo cs off n 8) ∧ SameBut B w w' := by
  have HR : Hid (Row w B t cs ∧ off + 8 ≤ cs.length) := ⟨hr, hl⟩
  have HN : Hid (n < 18446744073709551616) := hn
  clear hr hl hn
  go_enter Tryz.func69, Tryz.ntmps69
  go_wp2
  go_loopw [1, 7] (fun nv iv wr => ∃ i : Nat, i ≤ 8 ∧ nv = .int .u64 ((n / 256 ^ i : Nat) : Int) ∧ iv = .int .i64 i ∧ Hid (Row wr B t (layTo cs off n i) ∧ SameBut B w wr)) (fun _ iv _ => 8 - (intOf iv).toNat)
  case atStart => exact ⟨0, by omega, by simp, rfl, HR.out.1, SameBut.refl _ _⟩
  case round =>
    obtain ⟨i, hi, rfl, rfl, HI⟩ := hrel
    by_cases hlt : i < 8
    · have y0 : (0 : Int) ≤ (i : Int) := by omega
      have y1 : (i : Int) < 8 := by omega
      have z1 : IntKind.i64.wrap ((i : Int) + 1) = (i : Int) + 1 := i64_in _ (by omega) (by omega)
      have hlen : off + i < (layTo cs off n i).length := by rw [layTo_len]; have := HR.out.2; omega
      obtain ⟨v0, hv0⟩ : ∃ v0, (layTo cs off n i)[off + i]? = some v0 := ⟨_, List.getElem?_eq_getElem hlen⟩
      have c := HI.out.1.cell (off + i) _ hv0
      clear hv0
      have fz := HI.out.1.frozen (off + i)
      go_wp2
      have e1 : ((n : Int) / 256 ^ i / 256) = ((n / 256 ^ (i + 1) : Nat) : Int) := by
        rw [Nat.pow_succ, ← Nat.div_div_eq_div_mul]; push_cast; rfl
      have e2 : Value.int IntKind.u8 ((n : Int) / 256 ^ i % 256) = B8 (BitVec.ofNat 8 (n / 256 ^ i)) := by
        unfold B8; rw [ofNat_mod]; push_cast; rfl
      refine ⟨⟨i + 1, by omega, by rw [e1], by go_num, ?_⟩, by simp [intOf]; omega⟩
      rw [e2]
      exact ⟨HI.out.1.set (off + i) _, HI.out.2.trans (SameBut.setCell _ _ _ _)⟩
    · obtain rfl : i = 8 := by omega
      have y1 : ¬ ((8 : Nat) : Int) < 8 := by omega
      go_wp2
      go_end0
      exact ⟨rfl, HI.out⟩
end Go.Proofs.YtjooabgjkjnhhaaGreatDoor
