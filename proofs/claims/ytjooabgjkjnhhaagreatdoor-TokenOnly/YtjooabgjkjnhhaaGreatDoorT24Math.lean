
import Derived.Test.YtjooabgjkjnhhaaGreatDoorMath
/-! The document's token as data. -/
namespace Go.Proofs.YtjooabgjkjnhhaaGreatDoor
set_option linter.unusedVariables false

/-- A caveat: kind, slot, from, to, set. -/
structure Cv where
  k : Int
  s : Int
  f : Int
  t : Int
  z : Nat
def u64N (f : Int) : Nat := (f % 18446744073709551616).toNat
def i64N (n : Nat) : Int := if n < 9223372036854775808 then (n : Int) else (n : Int) - 18446744073709551616
theorem u64N_lt (f : Int) : u64N f < 18446744073709551616 := by unfold u64N; omega
theorem i64N_u64N {f : Int} (h1 : -9223372036854775808 ≤ f) (h2 : f < 9223372036854775808) : i64N (u64N f) = f := by
  unfold i64N u64N; split <;> omega
theorem u64N_i64N {n : Nat} (h : n < 18446744073709551616) : u64N (i64N n) = n := by
  unfold i64N u64N; split <;> omega
def le8 (n : Nat) : List By := [BitVec.ofNat 8 n, BitVec.ofNat 8 (n / 256), BitVec.ofNat 8 (n / 65536), BitVec.ofNat 8 (n / 16777216), BitVec.ofNat 8 (n / 4294967296), BitVec.ofNat 8 (n / 1099511627776), BitVec.ofNat 8 (n / 281474976710656), BitVec.ofNat 8 (n / 72057594037927936)]
def num8 (b : List By) : Nat := (b.getD 0 0).toNat + (b.getD 1 0).toNat * 256 + (b.getD 2 0).toNat * 65536 + (b.getD 3 0).toNat * 16777216 + (b.getD 4 0).toNat * 4294967296 + (b.getD 5 0).toNat * 1099511627776 + (b.getD 6 0).toNat * 281474976710656 + (b.getD 7 0).toNat * 72057594037927936
theorem le8_len (n : Nat) : (le8 n).length = 8 := rfl
theorem num8_lt (b : List By) : num8 b < 18446744073709551616 := by
  have h0 := (b.getD 0 0).isLt
  have h1 := (b.getD 1 0).isLt
  have h2 := (b.getD 2 0).isLt
  have h3 := (b.getD 3 0).isLt
  have h4 := (b.getD 4 0).isLt
  have h5 := (b.getD 5 0).isLt
  have h6 := (b.getD 6 0).isLt
  have h7 := (b.getD 7 0).isLt
  unfold num8; omega
theorem num8_le8 (n : Nat) (h : n < 18446744073709551616) (r : List By) : num8 (le8 n ++ r) = n := by
  simp [num8, le8, BitVec.toNat_ofNat]; omega
theorem le8_num8 (a b c d e f g h : By) : le8 (num8 [a, b, c, d, e, f, g, h]) = [a, b, c, d, e, f, g, h] := by
  have h0 := a.isLt
  have h1 := b.isLt
  have h2 := c.isLt
  have h3 := d.isLt
  have h4 := e.isLt
  have h5 := f.isLt
  have h6 := g.isLt
  have h7 := h.isLt
  simp only [le8, num8, List.getD_cons_zero, List.getD_cons_succ]
  refine List.cons_eq_cons.2 ⟨?_, List.cons_eq_cons.2 ⟨?_, List.cons_eq_cons.2 ⟨?_, List.cons_eq_cons.2 ⟨?_, List.cons_eq_cons.2 ⟨?_, List.cons_eq_cons.2 ⟨?_, List.cons_eq_cons.2 ⟨?_, List.cons_eq_cons.2 ⟨?_, rfl⟩⟩⟩⟩⟩⟩⟩⟩
  all_goals (apply BitVec.eq_of_toNat_eq; rw [BitVec.toNat_ofNat]; omega)
theorem num8_drop (b : List By) (n : Nat) : num8 (b.drop n) = num8 [b.getD n 0, b.getD (n + 1) 0, b.getD (n + 2) 0, b.getD (n + 3) 0, b.getD (n + 4) 0, b.getD (n + 5) 0, b.getD (n + 6) 0, b.getD (n + 7) 0] := by
  simp [num8]
theorem le8_drop (b : List By) (n : Nat) : le8 (num8 (b.drop n)) = [b.getD n 0, b.getD (n + 1) 0, b.getD (n + 2) 0, b.getD (n + 3) 0, b.getD (n + 4) 0, b.getD (n + 5) 0, b.getD (n + 6) 0, b.getD (n + 7) 0] := by
  rw [num8_drop, le8_num8]

/-- May a caveat be? -/
def cvMay (c : Cv) : Bool :=
  if c.k = 1 then decide (c.f = 0 ∧ c.t = 0 ∧ c.z = 0 ∧ 0 ≤ c.s ∧ c.s ≤ 7)
  else if c.k = 2 then decide (c.s = 0 ∧ c.z = 0 ∧ 0 ≤ c.f ∧ c.f ≤ 4294967295 ∧ 0 ≤ c.t ∧ c.t ≤ 4294967295 ∧ c.f ≤ c.t)
  else if c.k = 3 then decide (c.s = 0 ∧ c.f = 0 ∧ c.t = 0 ∧ c.z ≠ 0 ∧ c.z &&& 18446744073709535233 = 0)
  else if c.k = 4 then decide (c.t = 0 ∧ c.z = 0 ∧ 0 ≤ c.s ∧ c.s ≤ 7 ∧ 0 ≤ c.f ∧ c.f ≤ 4611686018427387904)
  else if c.k = 5 then decide (c.f = 0 ∧ c.z = 0 ∧ 0 ≤ c.s ∧ c.s ≤ 7 ∧ 0 ≤ c.t ∧ c.t ≤ 4611686018427387904)
  else false
/-- What a caveat that may be keeps to (its set: of whatever u64 there is). -/
theorem cvMay_in {c : Cv} (h : cvMay c = true) : (1 ≤ c.k ∧ c.k ≤ 5) ∧ (0 ≤ c.s ∧ c.s ≤ 7) ∧ (0 ≤ c.f ∧ c.f < 9223372036854775808) ∧ (0 ≤ c.t ∧ c.t < 9223372036854775808) := by
  unfold cvMay at h
  split at h
  · simp only [decide_eq_true_eq] at h; omega
  · split at h
    · simp only [decide_eq_true_eq] at h; omega
    · split at h
      · simp only [decide_eq_true_eq] at h; omega
      · split at h
        · simp only [decide_eq_true_eq] at h; omega
        · split at h
          · simp only [decide_eq_true_eq] at h; omega
          · cases h
/-- A caveat's bytes; the caveat of 26 bytes. -/
def cvB (c : Cv) : List By := [BitVec.ofInt 8 c.k, BitVec.ofInt 8 c.s] ++ le8 (u64N c.f) ++ le8 (u64N c.t) ++ le8 c.z
def cvAt (b : List By) : Cv := ⟨((b.getD 0 0).toNat : Int), ((b.getD 1 0).toNat : Int), i64N (num8 (b.drop 2)), i64N (num8 (b.drop 10)), num8 (b.drop 18)⟩
theorem cvB_len (c : Cv) : (cvB c).length = 26 := by simp [cvB, le8_len]
theorem ofInt8 {n : Int} (h0 : 0 ≤ n) (h1 : n < 256) : ((BitVec.ofInt 8 n).toNat : Int) = n := by
  rw [BitVec.toNat_ofInt]; omega
theorem cvAt_cvB {c : Cv} (h : cvMay c = true) (hz : c.z < 18446744073709551616) (r : List By) : cvAt (cvB c ++ r) = c := by
  obtain ⟨hk, hs, hf, ht⟩ := cvMay_in h
  obtain ⟨k, s, f, t, z⟩ := c
  dsimp only at *
  have e1 : (cvB ⟨k, s, f, t, z⟩ ++ r).drop 2 = le8 (u64N f) ++ (le8 (u64N t) ++ (le8 z ++ r)) := by simp [cvB]
  have e2 : (cvB ⟨k, s, f, t, z⟩ ++ r).drop 10 = le8 (u64N t) ++ (le8 z ++ r) := by simp [cvB, le8]
  have e3 : (cvB ⟨k, s, f, t, z⟩ ++ r).drop 18 = le8 z ++ r := by simp [cvB, le8]
  have e4 : (cvB ⟨k, s, f, t, z⟩ ++ r).getD 0 0 = BitVec.ofInt 8 k := by simp [cvB]
  have e5 : (cvB ⟨k, s, f, t, z⟩ ++ r).getD 1 0 = BitVec.ofInt 8 s := by simp [cvB]
  unfold cvAt
  rw [e1, e2, e3, e4, e5, num8_le8 _ (u64N_lt f), num8_le8 _ (u64N_lt t), num8_le8 _ hz, i64N_u64N (by omega) (by omega), i64N_u64N (by omega) (by omega), ofInt8 (by omega) (by omega), ofInt8 (by omega) (by omega)]
theorem ofInt_by (x : By) : BitVec.ofInt 8 (x.toNat : Int) = x := by
  apply BitVec.eq_of_toNat_eq
  rw [BitVec.toNat_ofInt]
  have := x.isLt
  omega
theorem cons_getD : ∀ (n : Nat) (b : List By), n < b.length → b.drop n = b.getD n 0 :: b.drop (n + 1) := fun n b h => by
  rw [List.drop_eq_getElem_cons h]
  simp [h]
theorem take26 (b : List By) (h : 26 ≤ b.length) : b.take 26 = (List.range 26).map fun i => b.getD i 0 := by
  apply List.ext_getElem
  · simp; omega
  · intro i h1 h2
    have hi : i < b.length := by rw [List.length_take] at h1; omega
    simp [hi]
theorem cvB_cvAt (b : List By) (h : 26 ≤ b.length) : cvB (cvAt b) = b.take 26 := by
  rw [take26 b h]
  unfold cvB cvAt
  dsimp only
  rw [u64N_i64N (num8_lt _), u64N_i64N (num8_lt _), le8_drop, le8_drop, le8_drop, ofInt_by, ofInt_by]
  rfl
theorem cvAt_z (b : List By) : (cvAt b).z < 18446744073709551616 := num8_lt _

/-- A token. -/
structure Tk where
  key : Int
  id : List By
  cs : List Cv
  tag : List By
def tkMay (t : Tk) : Bool := decide (0 ≤ t.key ∧ t.key ≤ 63 ∧ 1 ≤ t.id.length ∧ t.id.length ≤ 64 ∧ t.cs.length ≤ 32) && t.cs.all cvMay
def tkB (t : Tk) : List By := [80#8, 67#8, 84#8, 75#8, 1#8, BitVec.ofInt 8 t.key, BitVec.ofNat 8 t.id.length, BitVec.ofNat 8 t.cs.length] ++ t.id ++ t.cs.flatMap cvB ++ t.tag
def firstB (id : List By) : List By := [112#8, 111#8, 114#8, 116#8, 99#8, 117#8, 108#8, 108#8, 105#8, 115#8, 32#8, 116#8, 111#8, 107#8, 101#8, 110#8, 0#8, BitVec.ofNat 8 id.length] ++ id
def hd24 (i : Nat) (c : Nat) : Bool :=
  if i = 4 then c == 1 else if i = 5 then decide (c ≤ 63) else if i = 6 then decide (1 ≤ c ∧ c ≤ 64) else if i = 7 then decide (c ≤ 32) else c == [80, 67, 84, 75].getD i 0
/-- The head, from a place on: the first thing that is wrong. -/
def scan24 (b : List By) : Nat → Nat → Option (Nat × Nat)
  | _, 0 => none
  | i, m + 1 => if i = b.length then some (6, i) else if hd24 i (b.getD i 0).toNat then scan24 b (i + 1) m else some (5, i)
/-- Caveats from a place on. -/
def csR (b : List By) : Nat → Nat → Except (Nat × Nat) (List Cv)
  | _, 0 => .ok []
  | p, m + 1 => if b.length < p + 26 then .error (6, b.length) else if cvMay (cvAt (b.drop p)) then (match csR b (p + 26) m with | .error x => .error x | .ok l => .ok (cvAt (b.drop p) :: l)) else .error (5, p)
def getR (b : List By) : Except (Nat × Nat) Tk :=
  match scan24 b 0 8 with
  | some x => .error x
  | none =>
    if b.length < 8 + (b.getD 6 0).toNat then .error (6, b.length) else
    match csR b (8 + (b.getD 6 0).toNat) (b.getD 7 0).toNat with
    | .error x => .error x
    | .ok l =>
      if b.length < 8 + (b.getD 6 0).toNat + 26 * (b.getD 7 0).toNat + 32 then .error (6, b.length)
      else if 8 + (b.getD 6 0).toNat + 26 * (b.getD 7 0).toNat + 32 < b.length then .error (7, 8 + (b.getD 6 0).toNat + 26 * (b.getD 7 0).toNat + 32)
      else .ok ⟨((b.getD 5 0).toNat : Int), (b.drop 8).take (b.getD 6 0).toNat, l, b.drop (8 + (b.getD 6 0).toNat + 26 * (b.getD 7 0).toNat)⟩

theorem scan24_none {b : List By} : ∀ (m i : Nat), i ≤ b.length → scan24 b i m = none → i + m ≤ b.length ∧ ∀ j, i ≤ j → j < i + m → hd24 j (b.getD j 0).toNat = true
  | 0, i, hi, _ => ⟨by omega, fun j h1 h2 => by omega⟩
  | m + 1, i, hi, h => by
    unfold scan24 at h
    split at h
    · cases h
    · split at h
      · rename_i h1 h2
        obtain ⟨h3, h4⟩ := scan24_none m (i + 1) (by omega) h
        exact ⟨by omega, fun j hj1 hj2 => by
          by_cases e : j = i
          · rw [e]; exact h2
          · exact h4 j (by omega) (by omega)⟩
      · cases h
theorem scan24_all {b : List By} : ∀ (m i : Nat), i + m ≤ b.length → (∀ j, i ≤ j → j < i + m → hd24 j (b.getD j 0).toNat = true) → scan24 b i m = none
  | 0, i, _, _ => rfl
  | m + 1, i, hl, h => by
    unfold scan24
    rw [if_neg (by omega), if_pos (h i (by omega) (by omega))]
    exact scan24_all m (i + 1) (by omega) fun j h1 h2 => h j (by omega) (by omega)
theorem scan24_some {b : List By} : ∀ (m i : Nat), i ≤ b.length → ∀ e a, scan24 b i m = some (e, a) → a ≤ b.length ∧ (e = 5 ∨ e = 6)
  | 0, i, _, e, a, h => by cases h
  | m + 1, i, hi, e, a, h => by
    unfold scan24 at h
    split at h
    · injection h with h; injection h with h1 h2; omega
    · split at h
      · exact scan24_some m (i + 1) (by omega) e a h
      · injection h with h; injection h with h1 h2; omega
theorem csR_wrong {b : List By} : ∀ (m p : Nat), p ≤ b.length → ∀ e a, csR b p m = .error (e, a) → a ≤ b.length ∧ (e = 5 ∨ e = 6)
  | 0, p, _, e, a, h => by cases h
  | m + 1, p, hp, e, a, h => by
    unfold csR at h
    split at h
    · injection h with h; injection h with h1 h2; omega
    · split at h
      · split at h
        · rename_i x hx
          injection h with h
          subst h
          exact csR_wrong m (p + 26) (by omega) e a hx
        · cases h
      · injection h with h; injection h with h1 h2; omega
theorem csR_ok {b : List By} : ∀ (m p : Nat) (l : List Cv), p ≤ b.length → csR b p m = .ok l → l.length = m ∧ p + 26 * m ≤ b.length ∧ (∀ c ∈ l, cvMay c = true ∧ c.z < 18446744073709551616) ∧ l.flatMap cvB = (b.drop p).take (26 * m)
  | 0, p, l, hp, h => by injection h with h; subst h; exact ⟨rfl, by omega, fun c hc => by (cases hc), by simp⟩
  | m + 1, p, l, hp, h => by
    unfold csR at h
    split at h
    · cases h
    · rename_i h1
      split at h
      · rename_i h2
        split at h
        · cases h
        · rename_i l' hl'
          injection h with h
          subst h
          obtain ⟨k1, k2, k3, k4⟩ := csR_ok m (p + 26) l' (by omega) hl'
          refine ⟨by simp [k1], by omega, fun c hc => ?_, ?_⟩
          · rcases List.mem_cons.1 hc with rfl | hc
            · exact ⟨h2, cvAt_z _⟩
            · exact k3 c hc
          · rw [List.flatMap_cons, k4, cvB_cvAt _ (by rw [List.length_drop]; omega), show 26 * (m + 1) = 26 + 26 * m by omega, List.take_add, List.drop_drop]
      · cases h
theorem get_wrong {b : List By} {e a : Nat} (h : getR b = .error (e, a)) : a ≤ b.length ∧ (e = 5 ∨ e = 6 ∨ e = 7) := by
  unfold getR at h
  split at h
  · rename_i x hx
    injection h with h
    subst h
    have := scan24_some 8 0 (by omega) e a hx
    omega
  · split at h
    · injection h with h; injection h with h1 h2; omega
    · split at h
      · rename_i x hx
        injection h with h
        subst h
        have := csR_wrong _ _ (by omega) e a hx
        omega
      · split at h
        · injection h with h; injection h with h1 h2; omega
        · split at h
          · injection h with h; injection h with h1 h2; omega
          · cases h
/-- Bytes that are a token are that token's bytes. -/
theorem put_get {b : List By} {x : Tk} (h : getR b = .ok x) : tkMay x = true ∧ tkB x = b ∧ x.tag.length = 32 ∧ ∀ c ∈ x.cs, c.z < 18446744073709551616 := by
  unfold getR at h
  split at h
  · cases h
  · rename_i hs
    obtain ⟨h8, hh⟩ := scan24_none 8 0 (by omega) hs
    split at h
    · cases h
    · split at h
      · cases h
      · rename_i h1 _ l hl
        obtain ⟨k1, k2, k3, k4⟩ := csR_ok _ _ _ (by omega) hl
        split at h
        · cases h
        · split at h
          · cases h
          · rename_i h2 h3
            injection h with h
            subst h
            have p0 := hh 0 (by omega) (by omega)
            have p1 := hh 1 (by omega) (by omega)
            have p2 := hh 2 (by omega) (by omega)
            have p3 := hh 3 (by omega) (by omega)
            have p4 := hh 4 (by omega) (by omega)
            have p5 := hh 5 (by omega) (by omega)
            have p6 := hh 6 (by omega) (by omega)
            have p7 := hh 7 (by omega) (by omega)
            have p0 : (b.getD 0 0).toNat = 80 := eq_of_beq (show ((b.getD 0 0).toNat == 80) = true from p0)
            have p1 : (b.getD 1 0).toNat = 67 := eq_of_beq (show ((b.getD 1 0).toNat == 67) = true from p1)
            have p2 : (b.getD 2 0).toNat = 84 := eq_of_beq (show ((b.getD 2 0).toNat == 84) = true from p2)
            have p3 : (b.getD 3 0).toNat = 75 := eq_of_beq (show ((b.getD 3 0).toNat == 75) = true from p3)
            have p4 : (b.getD 4 0).toNat = 1 := eq_of_beq (show ((b.getD 4 0).toNat == 1) = true from p4)
            have p5 : (b.getD 5 0).toNat ≤ 63 := of_decide_eq_true (show decide ((b.getD 5 0).toNat ≤ 63) = true from p5)
            have p6 : 1 ≤ (b.getD 6 0).toNat ∧ (b.getD 6 0).toNat ≤ 64 := of_decide_eq_true (show decide (1 ≤ (b.getD 6 0).toNat ∧ (b.getD 6 0).toNat ≤ 64) = true from p6)
            have p7 : (b.getD 7 0).toNat ≤ 32 := of_decide_eq_true (show decide ((b.getD 7 0).toNat ≤ 32) = true from p7)
            have hid : ((b.drop 8).take (b.getD 6 0).toNat).length = (b.getD 6 0).toNat := by rw [List.length_take, List.length_drop]; omega
            refine ⟨?_, ?_, ?_, fun c hc => (k3 c hc).2⟩
            · unfold tkMay
              dsimp only
              rw [Bool.and_eq_true, decide_eq_true_eq, List.all_eq_true]
              refine ⟨?_, fun c hc => (k3 c hc).1⟩
              rw [hid, k1]
              omega
            · unfold tkB
              dsimp only
              rw [hid, k1, k4, ofInt_by]
              have e6 : BitVec.ofNat 8 (b.getD 6 0).toNat = b.getD 6 0 := by simp
              have e7 : BitVec.ofNat 8 (b.getD 7 0).toNat = b.getD 7 0 := by simp
              rw [e6, e7]
              have q0 : b.getD 0 0 = 80#8 := BitVec.eq_of_toNat_eq p0
              have q1 : b.getD 1 0 = 67#8 := BitVec.eq_of_toNat_eq p1
              have q2 : b.getD 2 0 = 84#8 := BitVec.eq_of_toNat_eq p2
              have q3 : b.getD 3 0 = 75#8 := BitVec.eq_of_toNat_eq p3
              have q4 : b.getD 4 0 = 1#8 := BitVec.eq_of_toNat_eq p4
              have hb : b = b.getD 0 0 :: b.getD 1 0 :: b.getD 2 0 :: b.getD 3 0 :: b.getD 4 0 :: b.getD 5 0 :: b.getD 6 0 :: b.getD 7 0 :: b.drop 8 := by
                rw [← cons_getD 7 b (by omega), ← cons_getD 6 b (by omega), ← cons_getD 5 b (by omega), ← cons_getD 4 b (by omega), ← cons_getD 3 b (by omega), ← cons_getD 2 b (by omega), ← cons_getD 1 b (by omega), ← cons_getD 0 b (by omega), List.drop_zero]
              generalize (b.getD 6 0).toNat = ni at *
              generalize (b.getD 7 0).toNat = nc at *
              have et : (b.drop 8).take ni ++ (b.drop (8 + ni)).take (26 * nc) ++ b.drop (8 + ni + 26 * nc) = b.drop 8 := by
                rw [← List.drop_drop (l := b) (i := ni) (j := 8), ← List.drop_drop (l := b) (i := 26 * nc) (j := 8 + ni), ← List.drop_drop (l := b) (i := ni) (j := 8), List.append_assoc, List.take_append_drop, List.take_append_drop]
              rw [List.append_assoc, List.append_assoc, ← List.append_assoc ((b.drop 8).take ni), et]
              conv => rhs; rw [hb, q0, q1, q2, q3, q4]
              rfl
            · dsimp only
              rw [List.length_drop]
              omega
theorem csR_of : ∀ (l : List Cv) (pre post : List By), (∀ c ∈ l, cvMay c = true ∧ c.z < 18446744073709551616) → csR (pre ++ (l.flatMap cvB ++ post)) pre.length l.length = .ok l
  | [], pre, post, _ => rfl
  | c :: l, pre, post, h => by
    have hc := h c (List.mem_cons_self ..)
    rw [List.length_cons]
    unfold csR
    have e1 : (pre ++ ((c :: l).flatMap cvB ++ post)).drop pre.length = cvB c ++ (l.flatMap cvB ++ post) := by
      rw [List.drop_left, List.flatMap_cons, List.append_assoc]
    have hlen : ¬ (pre ++ ((c :: l).flatMap cvB ++ post)).length < pre.length + 26 := by
      rw [List.flatMap_cons]
      simp only [List.length_append, cvB_len]
      omega
    rw [if_neg hlen, e1, cvAt_cvB hc.1 hc.2, if_pos hc.1]
    have ih := csR_of l (pre ++ cvB c) post fun d hd => h d (List.mem_cons_of_mem _ hd)
    rw [List.length_append, cvB_len, List.append_assoc] at ih
    rw [List.flatMap_cons, List.append_assoc, ih]
/-- A token that may be comes back. -/
theorem get_put {t : Tk} (h : tkMay t = true) (hz : ∀ c ∈ t.cs, c.z < 18446744073709551616) (ht : t.tag.length = 32) : getR (tkB t) = .ok t := by
  unfold tkMay at h
  rw [Bool.and_eq_true, decide_eq_true_eq, List.all_eq_true] at h
  obtain ⟨⟨h1, h2, h3, h4, h5⟩, h6⟩ := h
  obtain ⟨key, id, cs, tag⟩ := t
  dsimp only at *
  have hfl : (cs.flatMap cvB).length = 26 * cs.length := by
    clear h6 hz h5
    induction cs with
    | nil => rfl
    | cons c l ih => rw [List.flatMap_cons, List.length_append, cvB_len, ih, List.length_cons]; omega
  have hb : tkB ⟨key, id, cs, tag⟩ = [80#8, 67#8, 84#8, 75#8, 1#8, BitVec.ofInt 8 key, BitVec.ofNat 8 id.length, BitVec.ofNat 8 cs.length] ++ (id ++ (cs.flatMap cvB ++ tag)) := by
    unfold tkB; simp only [List.append_assoc]
  have n5 : ((BitVec.ofInt 8 key).toNat : Int) = key := ofInt8 h1 (by omega)
  have n6 : (BitVec.ofNat 8 id.length).toNat = id.length := by rw [BitVec.toNat_ofNat]; omega
  have n7 : (BitVec.ofNat 8 cs.length).toNat = cs.length := by rw [BitVec.toNat_ofNat]; omega
  rw [hb]
  have hlen : ([80#8, 67#8, 84#8, 75#8, 1#8, BitVec.ofInt 8 key, BitVec.ofNat 8 id.length, BitVec.ofNat 8 cs.length] ++ (id ++ (cs.flatMap cvB ++ tag))).length = 8 + id.length + 26 * cs.length + 32 := by
    simp only [List.length_append, hfl, ht, List.length_cons, List.length_nil]; omega
  have hsc : scan24 ([80#8, 67#8, 84#8, 75#8, 1#8, BitVec.ofInt 8 key, BitVec.ofNat 8 id.length, BitVec.ofNat 8 cs.length] ++ (id ++ (cs.flatMap cvB ++ tag))) 0 8 = none := by
    refine scan24_all 8 0 (by omega) fun j _ hj => ?_
    match j, hj with
    | 0, _ => rfl
    | 1, _ => rfl
    | 2, _ => rfl
    | 3, _ => rfl
    | 4, _ => rfl
    | 5, _ => exact decide_eq_true (show (BitVec.ofInt 8 key).toNat ≤ 63 by omega)
    | 6, _ => exact decide_eq_true (show 1 ≤ (BitVec.ofNat 8 id.length).toNat ∧ (BitVec.ofNat 8 id.length).toNat ≤ 64 by omega)
    | 7, _ => exact decide_eq_true (show (BitVec.ofNat 8 cs.length).toNat ≤ 32 by omega)
  have g5 : ([80#8, 67#8, 84#8, 75#8, 1#8, BitVec.ofInt 8 key, BitVec.ofNat 8 id.length, BitVec.ofNat 8 cs.length] ++ (id ++ (cs.flatMap cvB ++ tag))).getD 5 0 = BitVec.ofInt 8 key := rfl
  have g6 : ([80#8, 67#8, 84#8, 75#8, 1#8, BitVec.ofInt 8 key, BitVec.ofNat 8 id.length, BitVec.ofNat 8 cs.length] ++ (id ++ (cs.flatMap cvB ++ tag))).getD 6 0 = BitVec.ofNat 8 id.length := rfl
  have g7 : ([80#8, 67#8, 84#8, 75#8, 1#8, BitVec.ofInt 8 key, BitVec.ofNat 8 id.length, BitVec.ofNat 8 cs.length] ++ (id ++ (cs.flatMap cvB ++ tag))).getD 7 0 = BitVec.ofNat 8 cs.length := rfl
  have hcs : csR ([80#8, 67#8, 84#8, 75#8, 1#8, BitVec.ofInt 8 key, BitVec.ofNat 8 id.length, BitVec.ofNat 8 cs.length] ++ (id ++ (cs.flatMap cvB ++ tag))) (8 + id.length) cs.length = .ok cs := by
    have := csR_of cs ([80#8, 67#8, 84#8, 75#8, 1#8, BitVec.ofInt 8 key, BitVec.ofNat 8 id.length, BitVec.ofNat 8 cs.length] ++ id) tag fun c hc => ⟨h6 c hc, hz c hc⟩
    rw [List.append_assoc, List.length_append] at this
    exact this
  unfold getR
  rw [hsc]
  dsimp only
  rw [g5, g6, g7, n5, n6, n7, hlen, if_neg (by omega), hcs]
  dsimp only
  rw [if_neg (by omega), if_neg (by omega)]
  congr 2
  · show List.take id.length (id ++ (cs.flatMap cvB ++ tag)) = id
    rw [List.take_left]
  · show List.drop (8 + id.length + 26 * cs.length) ([80#8, 67#8, 84#8, 75#8, 1#8, BitVec.ofInt 8 key, BitVec.ofNat 8 id.length, BitVec.ofNat 8 cs.length] ++ (id ++ (cs.flatMap cvB ++ tag))) = tag
    rw [Nat.add_assoc, ← List.drop_drop]
    show List.drop (id.length + 26 * cs.length) (id ++ (cs.flatMap cvB ++ tag)) = tag
    rw [← List.drop_drop, List.drop_left, ← hfl, List.drop_left]
end Go.Proofs.YtjooabgjkjnhhaaGreatDoor
