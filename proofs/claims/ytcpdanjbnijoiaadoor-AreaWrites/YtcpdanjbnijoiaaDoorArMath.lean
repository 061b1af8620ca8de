import Derived.Test.YtcpdanjbnijoiaaDoorMMath
import Derived.Test.YtcpdanjbnijoiaaDoorL4Good

/-! The document's images on lists of bytes. -/
namespace Go.Proofs.YtcpdanjbnijoiaaDoor
open Go.RowKit

/-- Four bytes of a number, the lowest one first. -/
def le4 (n : Nat) : List By := [BitVec.ofNat 8 n, BitVec.ofNat 8 (n / 256), BitVec.ofNat 8 (n / 65536), BitVec.ofNat 8 (n / 16777216)]
/-- The number of four bytes. -/
def num4 (b : List By) : Nat := (b.getD 0 0).toNat + (b.getD 1 0).toNat * 256 + (b.getD 2 0).toNat * 65536 + (b.getD 3 0).toNat * 16777216
/-- What the tag covers. -/
def cover (s k v : Nat) (p : List By) : List By := [80#8, 67#8, 85#8, 76#8, 1#8, BitVec.ofNat 8 s, BitVec.ofNat 8 k, 0#8] ++ le4 v ++ le4 p.length ++ p

/-- May the byte of a place of the head be that? -/
def mst (i : Nat) (c : Nat) : Bool :=
  if i = 0 then c == 80 else if i = 1 then c == 67 else if i = 2 then c == 85 else if i = 3 then c == 76 else if i = 4 then c == 1 else if i = 5 then c < 8 else if i = 6 then c < 64 else if i = 7 then c == 0 else true

/-- The head gone through from the place i on, k places: what is wrong first. -/
def scan (b : List By) : Nat → Nat → Option (Nat × Nat)
  | _, 0 => none
  | i, k + 1 => if i = b.length then some (6, i) else if mst i (b.getD i 0).toNat then scan b (i + 1) k else some (5, i)

/-- What bytes are: something is wrong (its number, its place), or an image. -/
abbrev PR := Except (Nat × Nat) (Nat × Nat × Nat × List By × List By)
abbrev PR.wrong (e at_ : Nat) : PR := .error (e, at_)
abbrev PR.img (s k v : Nat) (p t : List By) : PR := .ok (s, k, v, p, t)

def parse (b : List By) : PR :=
  if 524288 < b.length then .wrong 4 524288 else
  match scan b 0 16 with
  | some (e, i) => .wrong e i
  | none =>
    let n := num4 (b.drop 12)
    if 524240 < n then .wrong 5 12 else if b.length < n + 48 then .wrong 6 b.length else if n + 48 < b.length then .wrong 7 (n + 48)
    else .img (b.getD 5 0).toNat (b.getD 6 0).toNat (num4 (b.drop 8)) ((b.drop 16).take n) (b.drop (n + 16))

theorem le4_len (n : Nat) : (le4 n).length = 4 := rfl
theorem cover_len (s k v : Nat) (p : List By) : (cover s k v p).length = p.length + 16 := by simp [cover, le4_len]; omega

theorem num4_lt (b : List By) : num4 b < 4294967296 := by
  unfold num4
  have h := fun i => (b.getD i 0).isLt
  have h0 := h 0; have h1 := h 1; have h2 := h 2; have h3 := h 3
  simp only [Nat.reducePow] at h0 h1 h2 h3
  omega
theorem num4_le4 (n : Nat) (h : n < 4294967296) (r : List By) : num4 (le4 n ++ r) = n := by
  simp only [num4, le4, List.cons_append, List.getD_cons_zero, List.getD_cons_succ, BitVec.toNat_ofNat]
  omega
theorem le4_num4 (a b c d : By) : le4 (num4 [a, b, c, d]) = [a, b, c, d] := by
  have ha := a.isLt; have hb := b.isLt; have hc := c.isLt; have hd := d.isLt
  simp only [Nat.reducePow] at ha hb hc hd
  simp only [num4, le4, List.getD_cons_zero, List.getD_cons_succ, List.cons.injEq, and_true]
  refine ⟨?_, ?_, ?_, ?_⟩ <;> (apply BitVec.eq_of_toNat_eq; rw [BitVec.toNat_ofNat]; omega)

theorem num4_drop (b : List By) (n : Nat) : num4 (b.drop n) = num4 [b.getD n 0, b.getD (n + 1) 0, b.getD (n + 2) 0, b.getD (n + 3) 0] := by
  simp only [num4, List.getD_eq_getElem?_getD, List.getElem?_drop, Nat.add_zero]; rfl
theorem le4_drop (b : List By) (n : Nat) : le4 (num4 (b.drop n)) = [b.getD n 0, b.getD (n + 1) 0, b.getD (n + 2) 0, b.getD (n + 3) 0] := by
  rw [num4_drop, le4_num4]

theorem scan_at (b : List By) (i k : Nat) (h : i < 16) (hk : k = 16 - i) : scan b i k = if i = b.length then some (6, i) else if mst i (b.getD i 0).toNat then scan b (i + 1) (16 - (i + 1)) else some (5, i) := by
  subst hk
  rw [show 16 - i = (15 - i) + 1 by omega, show 16 - (i + 1) = 15 - i by omega]; rfl

/-- A head that is gone through whole. -/
theorem scan_none {b : List By} : ∀ (k i : Nat), i ≤ b.length → scan b i k = none → i + k ≤ b.length ∧ ∀ j, i ≤ j → j < i + k → mst j (b.getD j 0).toNat = true
  | 0, i, h, _ => ⟨by omega, fun j h1 h2 => by omega⟩
  | k + 1, i, h, hs => by
    rw [scan] at hs
    split at hs
    · cases hs
    · split at hs
      · rename_i h1 h2
        have := scan_none k (i + 1) (by omega) hs
        refine ⟨by omega, fun j hj1 hj2 => ?_⟩
        by_cases e : j = i
        · subst e; exact h2
        · exact this.2 j (by omega) (by omega)
      · cases hs
theorem scan_all {b : List By} : ∀ (k i : Nat), i + k ≤ b.length → (∀ j, i ≤ j → j < i + k → mst j (b.getD j 0).toNat = true) → scan b i k = none
  | 0, _, _, _ => rfl
  | k + 1, i, h, hs => by
    rw [scan, if_neg (by omega), if_pos (hs i (by omega) (by omega))]
    exact scan_all k (i + 1) (by omega) (fun j h1 h2 => hs j (by omega) (by omega))
theorem scan_some {b : List By} : ∀ (k i : Nat), i ≤ b.length → ∀ e a, scan b i k = some (e, a) → a ≤ b.length ∧ (e = 5 ∨ e = 6)
  | 0, _, _, _, _, hs => by cases hs
  | k + 1, i, h, e, a, hs => by
    rw [scan] at hs
    split at hs
    · injection hs with hs; injection hs with h1 h2; subst h1; subst h2; exact ⟨h, .inr rfl⟩
    · split at hs
      · exact scan_some k (i + 1) (by omega) e a hs
      · injection hs with hs; injection hs with h1 h2; subst h1; subst h2; exact ⟨h, .inl rfl⟩

/-- What is wrong has a number above 0, and a place within. -/
theorem parse_wrong {b : List By} {e a : Nat} (h : parse b = .wrong e a) : 4 ≤ e ∧ e ≤ 7 ∧ a ≤ b.length := by
  unfold parse at h
  split at h
  · injection h with h; injection h with h1 h2; omega
  · split at h
    · rename_i hs
      injection h with h; injection h with h1 h2
      subst h1; subst h2
      have := scan_some 16 0 (by omega) _ _ hs
      omega
    · rename_i hs
      have := scan_none 16 0 (by omega) hs
      simp only at h
      split at h
      · injection h with h; injection h with h1 h2; omega
      · split at h
        · injection h with h; injection h with h1 h2; omega
        · split at h
          · injection h with h; injection h with h1 h2; omega
          · cases h

theorem getD_take_drop (b : List By) (n : Nat) (h : n < b.length) : b.drop n = b.getD n 0 :: b.drop (n + 1) := by
  rw [List.drop_eq_getElem_cons h]; simp [h]

theorem head16 (b : List By) (hl : 0 + 16 ≤ b.length) : b = b.getD 0 0 :: b.getD 1 0 :: b.getD 2 0 :: b.getD 3 0 :: b.getD 4 0 :: b.getD 5 0 :: b.getD 6 0 :: b.getD 7 0 :: b.getD 8 0 :: b.getD 9 0 :: b.getD 10 0 :: b.getD 11 0 :: b.getD 12 0 :: b.getD 13 0 :: b.getD 14 0 :: b.getD 15 0 :: b.drop 16 := by
  rw [← getD_take_drop b 15 (by omega), ← getD_take_drop b 14 (by omega), ← getD_take_drop b 13 (by omega), ← getD_take_drop b 12 (by omega), ← getD_take_drop b 11 (by omega), ← getD_take_drop b 10 (by omega), ← getD_take_drop b 9 (by omega), ← getD_take_drop b 8 (by omega), ← getD_take_drop b 7 (by omega), ← getD_take_drop b 6 (by omega), ← getD_take_drop b 5 (by omega), ← getD_take_drop b 4 (by omega), ← getD_take_drop b 3 (by omega), ← getD_take_drop b 2 (by omega), ← getD_take_drop b 1 (by omega), ← getD_take_drop b 0 (by omega)]
  rfl

/-- An image that was taken apart, put together. -/
theorem parse_img {b : List By} {s k v : Nat} {p t : List By} (h : parse b = .img s k v p t) :
    s < 8 ∧ k < 64 ∧ v < 4294967296 ∧ p.length ≤ 524240 ∧ t.length = 32 ∧ b.length = p.length + 48 ∧ b = cover s k v p ++ t := by
  unfold parse at h
  split at h
  · cases h
  · split at h
    · cases h
    · rename_i hs
      obtain ⟨hl, hm⟩ := scan_none 16 0 (by omega) hs
      simp only at h
      split at h
      · cases h
      · split at h
        · cases h
        · split at h
          · cases h
          · rename_i h1 h2 h3 h4
            injection h with h; injection h with e1 h; injection h with e2 h; injection h with e3 h; injection h with e4 e5
            obtain ⟨n, hn⟩ : ∃ n, num4 (b.drop 12) = n := ⟨_, rfl⟩
            rw [hn] at h2 h3 h4 e4 e5
            have hpl : p.length = n := by rw [← e4, List.length_take, List.length_drop]; clear hm e3 e1 e2 hs; omega
            have htl : t.length = 32 := by rw [← e5, List.length_drop]; clear hm e3 e1 e2 hs; omega
            have hbl : b.length = p.length + 48 := by rw [hpl]; clear hm e3 e1 e2 hs; omega
            have hp2 : p.length ≤ 524240 := by rw [hpl]; omega
            have m0 := hm 0 (by omega) (by omega); have m1 := hm 1 (by omega) (by omega); have m2 := hm 2 (by omega) (by omega); have m3 := hm 3 (by omega) (by omega)
            have m4 := hm 4 (by omega) (by omega); have m5 := hm 5 (by omega) (by omega); have m6 := hm 6 (by omega) (by omega); have m7 := hm 7 (by omega) (by omega)
            clear hm
            simp [mst] at m0 m1 m2 m3 m4 m5 m6 m7
            refine ⟨by rw [← e1]; simpa using m5, by rw [← e2]; simpa using m6, by rw [← e3]; exact num4_lt _, hp2, htl, hbl, ?_⟩
            have q0 : b.getD 0 0 = 80#8 := BitVec.eq_of_toNat_eq (by simpa using m0)
            have q1 : b.getD 1 0 = 67#8 := BitVec.eq_of_toNat_eq (by simpa using m1)
            have q2 : b.getD 2 0 = 85#8 := BitVec.eq_of_toNat_eq (by simpa using m2)
            have q3 : b.getD 3 0 = 76#8 := BitVec.eq_of_toNat_eq (by simpa using m3)
            have q4 : b.getD 4 0 = 1#8 := BitVec.eq_of_toNat_eq (by simpa using m4)
            have q5 : b.getD 5 0 = BitVec.ofNat 8 s := by rw [← e1]; simp
            have q6 : b.getD 6 0 = BitVec.ofNat 8 k := by rw [← e2]; simp
            have q7 : b.getD 7 0 = 0#8 := BitVec.eq_of_toNat_eq (by simpa using m7)
            have q8 : le4 v = [b.getD 8 0, b.getD 9 0, b.getD 10 0, b.getD 11 0] := by
              rw [← e3]; exact le4_drop b 8
            have q12 : le4 p.length = [b.getD 12 0, b.getD 13 0, b.getD 14 0, b.getD 15 0] := by
              rw [hpl, ← hn]; exact le4_drop b 12
            have hb := head16 b hl
            have hd : b.drop 16 = p ++ t := by
              rw [← e4, ← e5]
              rw [Nat.add_comm n 16, ← List.drop_drop, List.take_append_drop]
            rw [hb, hd, q0, q1, q2, q3, q4, q5, q6, q7]
            unfold cover
            rw [q8, q12]
            rfl

/-- What is made is taken apart as what it was made of. -/
theorem parse_cover (s k v : Nat) (p t : List By) (hs : s < 8) (hk : k < 64) (hv : v < 4294967296) (hp : p.length ≤ 524240) (ht : t.length = 32) :
    parse (cover s k v p ++ t) = .img s k v p t := by
  have hl : (cover s k v p ++ t).length = p.length + 48 := by rw [List.length_append, cover_len, ht]
  have hform : cover s k v p ++ t = 80#8 :: 67#8 :: 85#8 :: 76#8 :: 1#8 :: BitVec.ofNat 8 s :: BitVec.ofNat 8 k :: 0#8 :: (le4 v ++ (le4 p.length ++ (p ++ t))) := by simp [cover]
  generalize cover s k v p ++ t = b at hl hform
  have g5 : b.getD 5 0 = BitVec.ofNat 8 s := by rw [hform]; rfl
  have g6 : b.getD 6 0 = BitVec.ofNat 8 k := by rw [hform]; rfl
  have d8 : b.drop 8 = le4 v ++ (le4 p.length ++ (p ++ t)) := by rw [hform]; rfl
  have d12 : b.drop 12 = le4 p.length ++ (p ++ t) := by rw [hform]; rfl
  have d16 : b.drop 16 = p ++ t := by rw [hform]; rfl
  have n12 : num4 (b.drop 12) = p.length := by rw [d12]; exact num4_le4 _ (by omega) _
  have hscan : scan b 0 16 = none := by
    refine scan_all 16 0 (by omega) ?_
    intro j _ hj
    have h5 : (BitVec.ofNat 8 s).toNat = s := by rw [BitVec.toNat_ofNat]; omega
    have h6 : (BitVec.ofNat 8 k).toNat = k := by rw [BitVec.toNat_ofNat]; omega
    have hj' : j = 0 ∨ j = 1 ∨ j = 2 ∨ j = 3 ∨ j = 4 ∨ j = 5 ∨ j = 6 ∨ j = 7 ∨ 8 ≤ j := by omega
    rcases hj' with rfl | rfl | rfl | rfl | rfl | rfl | rfl | rfl | h8
    · rw [hform]; rfl
    · rw [hform]; rfl
    · rw [hform]; rfl
    · rw [hform]; rfl
    · rw [hform]; rfl
    · rw [g5, h5]; simp [mst, hs]
    · rw [g6, h6]; simp [mst, hk]
    · rw [hform]; rfl
    · unfold mst
      rw [if_neg (by omega), if_neg (by omega), if_neg (by omega), if_neg (by omega), if_neg (by omega), if_neg (by omega), if_neg (by omega), if_neg (by omega)]
  unfold parse
  rw [if_neg (by omega), hscan]
  simp only
  rw [n12, if_neg (by omega), if_neg (by omega), if_neg (by omega)]
  congr 1
  · rw [g5, BitVec.toNat_ofNat]; omega
  · rw [g6, BitVec.toNat_ofNat]; omega
  · rw [d8]; exact num4_le4 _ hv _
  · rw [d16, List.take_left]
  · rw [show p.length + 16 = 16 + p.length by omega, ← List.drop_drop, d16, List.drop_left]
end Go.Proofs.YtcpdanjbnijoiaaDoor


/-! Layer 14 as plain data: what an area holds, what Write leaves. -/
namespace Go.Proofs.YtcpdanjbnijoiaaDoor
open Go.RowKit
set_option linter.unusedVariables false

def blankC : List By := List.replicate 32 255#8
def isBlank (l : List (List By)) : Bool := l.all fun x => decide (x = blankC)
/-- The page number p of an area. -/
def RS.pgN (s : RS) (a : Int) (p : Nat) : Nat := (2 + a * s.c.area + p).toNat
def RS.areaE (s : RS) (a : Int) : Int := if s.gone then 8 else if a = 0 ∨ a = 1 then 0 else 2
def Cfg.asize (c : Cfg) : Int := if c.may = 0 then c.area * c.cells * 32 else 0
/-- The bytes of the first m pages of an area. -/
def RS.abytes (s : RS) (a : Int) (m : Nat) : List By := (List.range m).flatMap fun p => (s.pages.getD (s.pgN a p) []).flatten
def RS.wornAt (s : RS) (a : Int) (p : Nat) : Bool := !isBlank (s.pages.getD (s.pgN a p) []) && decide (s.c.erases ≤ s.erases.getD (s.pgN a p) 0)
def RS.aworn (s : RS) (a : Int) : Bool := (List.range s.c.area.toNat).any (s.wornAt a)
/-- The cell number k of bytes. -/
def cellOf (b : List By) (k : Nat) : List By := (List.range 32).map fun i => b.getD (32 * k + i) 255#8
theorem cellOf_len (b : List By) (k : Nat) : (cellOf b k).length = 32 := by simp [cellOf]

def eraseGo (a : Int) : Nat → Nat → RS → RS × Int
  | 0, _, s => (s, 0)
  | m + 1, p, s =>
    if isBlank (s.pages.getD (s.pgN a p) []) = true then eraseGo a m (p + 1) s
    else if s.eraseE ((s.pgN a p : Nat) : Int) = 0 then eraseGo a m (p + 1) (s.erase ((s.pgN a p : Nat) : Int))
    else (s.erase ((s.pgN a p : Nat) : Int), s.eraseE ((s.pgN a p : Nat) : Int))
def RS.layC (s : RS) (a : Int) (b : List By) (k : Nat) : RS := s.program ((s.pgN a (k / s.c.cells.toNat) : Nat) : Int) ((k % s.c.cells.toNat : Nat) : Int) (cellOf b k)
def RS.layE (s : RS) (a : Int) (k : Nat) : Int := s.programE ((s.pgN a (k / s.c.cells.toNat) : Nat) : Int) ((k % s.c.cells.toNat : Nat) : Int)
def layGo (a : Int) (b : List By) : Nat → Nat → RS → RS × Int
  | 0, _, s => (s, 0)
  | m + 1, k, s => if s.layE a k = 0 then layGo a b m (k + 1) (s.layC a b k) else (s.layC a b k, s.layE a k)
/-- The cells of b, the first one last. -/
def RS.wr2 (s : RS) (a : Int) (b : List By) : RS × Int :=
  if (layGo a b ((b.length + 31) / 32 - 1) 1 s).2 = 0 then ((layGo a b ((b.length + 31) / 32 - 1) 1 s).1.layC a b 0, (layGo a b ((b.length + 31) / 32 - 1) 1 s).1.layE a 0) else layGo a b ((b.length + 31) / 32 - 1) 1 s
def RS.wr1 (s : RS) (a : Int) (b : List By) : RS × Int :=
  if (eraseGo a s.c.area.toNat 0 s).2 = 0 then (eraseGo a s.c.area.toNat 0 s).1.wr2 a b else eraseGo a s.c.area.toNat 0 s
def RS.awrite (s : RS) (a : Int) (b : List By) : RS × Int :=
  if s.areaE a = 0 then (if b.length = 0 then (s, 1) else if s.c.asize < b.length then (s, 4) else if s.aworn a = true then (s, 9) else s.wr1 a b) else (s, s.areaE a)

/-- The image that lies at the head of bytes. -/
def imgAt (b : List By) : Option (List By) :=
  if b.length < 16 then none else if b.length < 48 + num4 (b.drop 12) then none else
  match parse (b.take (48 + num4 (b.drop 12))) with
  | .ok _ => some (b.take (48 + num4 (b.drop 12)))
  | .error _ => none
def RS.aread (s : RS) (a : Int) : List By × Int :=
  if s.areaE a = 0 then (match imgAt (s.abytes a s.c.area.toNat) with | some l => (l, 0) | none => ([], 5)) else ([], s.areaE a)

/-- What is known of a chip's areas. -/
structure RS.Ar (s : RS) : Prop where
  ok : s.Ok
  may : s.c.may = 0
  pl : (s.pages.length : Int) = 2 + 2 * s.c.area
section
variable {s : RS}
theorem RS.Ar.area (h : s.Ar) : 0 ≤ s.c.area ∧ s.c.area ≤ 64 := by
  obtain ⟨_, _, _, _, h5⟩ := may_parts h.may
  exact h5
theorem RS.Ar.cells (h : s.Ar) : 4 ≤ s.c.cells ∧ s.c.cells ≤ 256 := by
  obtain ⟨h1, h2, _⟩ := may_parts h.may
  omega
theorem RS.Ar.asize (h : s.Ar) : s.c.asize = s.c.area * s.c.cells * 32 := by unfold Cfg.asize; rw [if_pos h.may]
theorem RS.Ar.pg (h : s.Ar) {a : Int} (ha : a = 0 ∨ a = 1) {p : Nat} (hp : p < s.c.area.toNat) : ((s.pgN a p : Nat) : Int) = 2 + a * s.c.area + p ∧ s.pgN a p < s.pages.length ∧ 2 ≤ s.pgN a p := by
  have h1 := h.area
  have h2 := h.pl
  unfold RS.pgN
  rcases ha with rfl | rfl
  · rw [Int.zero_mul]; omega
  · rw [Int.one_mul]; omega
theorem pg_inj {s : RS} (h : s.Ar) {a : Int} (ha : a = 0 ∨ a = 1) {p q : Nat} (hp : p < s.c.area.toNat) (hq : q < s.c.area.toNat) (e : s.pgN a p = s.pgN a q) : p = q := by
  have h1 := (h.pg ha hp).1
  have h2 := (h.pg ha hq).1
  rw [e] at h1
  omega
theorem RS.Ar.pgLen (h : s.Ar) {q : Nat} (hq : q < s.pages.length) : ((s.pages.getD q []).length : Int) = s.c.cells := (h.ok.pgLen q hq).1
theorem RS.Ar.by8 (h : s.Ar) {q : Nat} (hq : q < s.pages.length) : ∀ x ∈ s.pages.getD q [], x.length = 32 := (h.ok.pgLen q hq).2

theorem areaE_zero {a : Int} (h : s.areaE a = 0) : s.gone = false ∧ (a = 0 ∨ a = 1) := by
  unfold RS.areaE at h
  split at h
  · omega
  · rename_i hg
    split at h
    · exact ⟨by simpa using hg, by assumption⟩
    · omega
theorem areaE_or (s : RS) (a : Int) : (s.areaE a = 8 ∧ s.gone = true) ∨ (s.gone = false ∧ ((s.areaE a = 2 ∧ ¬ a = 0 ∧ ¬ a = 1) ∨ (s.areaE a = 0 ∧ (a = 0 ∨ a = 1)))) := by
  unfold RS.areaE
  cases hg : s.gone with
  | true => exact .inl ⟨rfl, rfl⟩
  | false =>
    refine .inr ⟨rfl, ?_⟩
    rw [if_neg (by decide)]
    by_cases h : a = 0 ∨ a = 1
    · rw [if_pos h]; exact .inr ⟨rfl, h⟩
    · rw [if_neg h]; exact .inl ⟨rfl, fun e => h (.inl e), fun e => h (.inr e)⟩

/-- A page put in another's place keeps the shape. -/
theorem getD_set_eq {α : Type} (l : List α) (q : Nat) (x d : α) (hq : q < l.length) : (l.set q x).getD q d = x := by simp [hq]
theorem getD_set_ne' {α : Type} (l : List α) (q j : Nat) (x d : α) (h : j ≠ q) : (l.set q x).getD j d = l.getD j d := by
  rw [List.getD_eq_getElem?_getD, List.getElem?_set_ne (fun e => h e.symm), ← List.getD_eq_getElem?_getD]
theorem RS.Ok.setPage (h : s.Ok) (t : RS) (q : Nat) (hq : q < s.pages.length) (pg : List (List By)) (hl : pg.length = (s.pages.getD q []).length) (h8 : ∀ x ∈ pg, x.length = 32) (hc : t.c = s.c) (hp : t.pages = s.pages.set q pg) (he : t.erases.length = s.erases.length) (hb : t.blown.length = s.blown.length) : t.Ok where
  er := by rw [he, hp, List.length_set]; exact h.er
  pg := by rw [hp, List.length_set]; exact h.pg
  bl := by rw [hb]; exact h.bl
  cl := by
    intro p hm
    rw [hp] at hm
    rw [hc]
    rcases List.mem_or_eq_of_mem_set hm with h1 | rfl
    · exact h.cl p h1
    · rw [hl]; exact (h.pgLen q hq).1
  c1 := by rw [hc]; exact h.c1
  c2 := by rw [hc]; exact h.c2
  by8 := by
    intro p hm
    rw [hp] at hm
    rcases List.mem_or_eq_of_mem_set hm with h1 | rfl
    · exact h.by8 p h1
    · exact h8
theorem RS.Ar.setPage (h : s.Ar) (t : RS) (q : Nat) (hq : q < s.pages.length) (pg : List (List By)) (hl : pg.length = (s.pages.getD q []).length) (h8 : ∀ x ∈ pg, x.length = 32) (hc : t.c = s.c) (hp : t.pages = s.pages.set q pg) (he : t.erases.length = s.erases.length) (hb : t.blown.length = s.blown.length) : t.Ar :=
  ⟨h.ok.setPage t q hq pg hl h8 hc hp he hb, by rw [hc]; exact h.may, by rw [hp, List.length_set, hc]; exact h.pl⟩
end

theorem at_of {s : RS} {q c : Nat} (hg : s.gone = false) (hq : q < s.pages.length) (hc : (c : Int) < s.c.cells) : s.at (q : Int) (c : Int) = 0 := by
  unfold RS.at
  rw [hg, if_neg (by decide), if_neg (by omega)]

/-- What an act of Erase leaves, of a page that may be erased. -/
structure EraF (s : RS) (q : Nat) (t : RS) (e : Int) : Prop where
  c : t.c = s.c
  bl : t.blown = s.blown
  msk : t.mask = s.mask
  n : t.n = s.n + 1
  er : t.erases = s.erases.set q (s.erases.getD q 0 + 1)
  pg : ∃ pg, t.pages = s.pages.set q pg ∧ pg.length = (s.pages.getD q []).length ∧ (∀ x ∈ pg, x.length = 32) ∧ (e = 0 → isBlank pg = true)
  e : (e = 0 ∧ t.gone = false) ∨ (e = 8 ∧ t.gone = true)
theorem eraseCell_off (mask : List By) (c : Nat) (x : List By) : eraseCell false mask c x = blankC := by
  unfold eraseCell blankC eraseByte
  simp only [Bool.false_eq_true, if_false]
  rfl
theorem era_f {s : RS} (h : s.Ar) (hg : s.gone = false) {q : Nat} (hq : q < s.pages.length) (hw : s.erases.getD q 0 < s.c.erases) : EraF s q (s.erase (q : Int)) (s.eraseE (q : Int)) := by
  have hc := h.cells
  have h0 : s.at (q : Int) 0 = 0 := at_of (c := 0) hg hq (by omega)
  have e1 : s.erase (q : Int) = { s.act with erases := s.erases.set q (s.erases.getD q 0 + 1), pages := s.pages.set q (erasePage s.cut s.mask (s.pages.getD q [])) } := by
    unfold RS.erase; rw [if_pos ⟨h0, by simpa using hw⟩]; rfl
  have e2 : s.eraseE (q : Int) = if s.cut then 8 else 0 := by
    unfold RS.eraseE; rw [if_pos h0, if_neg (by rw [Int.toNat_natCast]; omega)]
  rw [e1, e2]
  refine ⟨rfl, rfl, rfl, rfl, rfl, ⟨_, rfl, by simp [erasePage], ?_, ?_⟩, ?_⟩
  · intro x hx
    simp only [erasePage, List.mem_mapIdx] at hx
    obtain ⟨i, _, rfl⟩ := hx
    exact eraseCell_len _ _ _ _
  · intro he
    have hcut : s.cut = false := by
      cases hc : s.cut with
      | false => rfl
      | true => rw [hc] at he; simp at he
    rw [hcut]
    unfold isBlank
    rw [List.all_eq_true]
    intro x hx
    simp only [erasePage, List.mem_mapIdx] at hx
    obtain ⟨i, _, rfl⟩ := hx
    simp [eraseCell_off]
  · unfold RS.cut
    show _ ∨ _
    by_cases hwt : s.wait = 0
    · right; simp [hwt, RS.act]
    · left; simp [hwt, RS.act, hg]

/-- What an act of Program leaves. -/
structure PrgF (s : RS) (q k : Nat) (x : List By) (t : RS) (e : Int) : Prop where
  c : t.c = s.c
  bl : t.blown = s.blown
  msk : t.mask = s.mask
  n : t.n = s.n + 1
  er : t.erases = s.erases
  pg : ∃ y, t.pages = s.pages.set q ((s.pages.getD q []).set k y) ∧ y.length = 32 ∧ (e = 0 → y = progCell false s.mask ((s.pages.getD q []).getD k []) x)
  e : (e = 0 ∧ t.gone = false) ∨ (e = 8 ∧ t.gone = true)
theorem prg_f {s : RS} (h : s.Ar) (hg : s.gone = false) {q k : Nat} (hq : q < s.pages.length) (hk : (k : Int) < s.c.cells) (x : List By) : PrgF s q k x (s.program (q : Int) (k : Int) x) (s.programE (q : Int) (k : Int)) := by
  have h0 : s.at (q : Int) (k : Int) = 0 := at_of hg hq hk
  have e1 : s.program (q : Int) (k : Int) x = s.act.setCell q k (progCell s.cut s.mask (s.cell q k) x) := by
    unfold RS.program; rw [if_pos h0]; rfl
  have e2 : s.programE (q : Int) (k : Int) = if s.cut then 8 else 0 := by
    unfold RS.programE; rw [if_pos h0]
  rw [e1, e2]
  refine ⟨rfl, rfl, rfl, rfl, rfl, ⟨_, rfl, progCell_len _ _ _ _, ?_⟩, ?_⟩
  · intro he
    have hcut : s.cut = false := by
      cases hc : s.cut with
      | false => rfl
      | true => rw [hc] at he; simp at he
    rw [hcut]; rfl
  · unfold RS.cut
    show _ ∨ _
    by_cases hwt : s.wait = 0
    · right; simp [hwt, RS.act, RS.setCell]
    · left; simp [hwt, RS.act, RS.setCell, hg]
/-- A blank cell takes what is programmed. -/
theorem prog_blank (mask x : List By) (hx : x.length = 32) : progCell false mask blankC x = x := by
  unfold progCell progByte
  simp only [Bool.false_eq_true, if_false]
  apply List.ext_getElem
  · simp [hx]
  · intro i h1 h2
    have hi : i < 32 := by simpa using h1
    have e1 : blankC.getD i 0 = 255#8 := by
      unfold blankC
      rw [List.getD_eq_getElem?_getD, List.getElem?_replicate, if_pos hi]; rfl
    have e2 : x.getD i 0 = x[i] := by simp [h2]
    simp only [List.getElem_map, List.getElem_range]
    rw [e1, e2]
    exact BitVec.allOnes_and
end Go.Proofs.YtcpdanjbnijoiaaDoor
