import Derived.Test.YtpcgkjngpdplmaaGreatDoorOpenA
import Derived.Test.YtpcgkjngpdplmaaGreatDoorMEq

/-! The document's HMAC on lists of bytes. -/
namespace Go.Proofs.YtpcgkjngpdplmaaGreatDoor
open Go.RowKit

def kh (k : List By) : List By := if 64 < k.length then sha k else k
/-- A key's block key. -/
def kb (k : List By) : List By := kh k ++ List.replicate (64 - (kh k).length) 0
/-- Bytes, each under exclusive or with one. -/
def tn (l : List By) (x : By) : List By := l.map (· ^^^ x)
/-- The tag of bytes under a key. -/
def tag (k b : List By) : List By := sha (tn (kb k) 92#8 ++ sha (tn (kb k) 54#8 ++ b))

theorem shaLen (m : List By) : (sha m).length = 32 := rfl
theorem tag_len (k b : List By) : (tag k b).length = 32 := rfl
theorem kh_le (k : List By) : (kh k).length ≤ 64 := by
  unfold kh
  split
  · rw [shaLen]; omega
  · omega
theorem kb_len (k : List By) : (kb k).length = 64 := by
  have := kh_le k
  unfold kb
  rw [List.length_append, List.length_replicate]; omega
theorem tn_len (l : List By) (x : By) : (tn l x).length = l.length := by simp [tn]
theorem tn_take (l : List By) (x : By) (k : Nat) (hk : k < l.length) : tn (l.take (k + 1)) x = tn (l.take k) x ++ [l.getD k 0 ^^^ x] := by
  unfold tn
  rw [List.take_add_one, List.map_append, List.getElem?_eq_getElem hk, List.getD_eq_getElem?_getD, List.getElem?_eq_getElem hk]; rfl
theorem kb_short (k : List By) (h : k.length ≤ 64) : kb k = k ++ List.replicate (64 - k.length) 0 := by
  have e : kh k = k := by unfold kh; rw [if_neg (by omega)]
  unfold kb; rw [e]
theorem kb_long (k : List By) (h : 64 < k.length) : kb k = sha k ++ List.replicate 32 0 := by
  have e : kh k = sha k := by unfold kh; rw [if_pos h]
  unfold kb; rw [e, shaLen]
end Go.Proofs.YtpcgkjngpdplmaaGreatDoor


/-! The document's HMAC, as the reference computes it. -/
namespace Go.Proofs.YtpcgkjngpdplmaaGreatDoor
open Go.RowKit

theorem row_isb {w : World} {g t : Nat} {l : List By} (h : Row w g t (l.map B8)) : IsB w (some ⟨g, 0, none⟩) l :=
  .inr ⟨g, 0, rfl, fun j v hj => by rw [Nat.zero_add]; exact h.cell j _ (by rw [List.getElem?_map, hj]; rfl)⟩

end Go.Proofs.YtpcgkjngpdplmaaGreatDoor


namespace Go.Proofs.YtpcgkjngpdplmaaGreatDoor
open Go.RowKit

end Go.Proofs.YtpcgkjngpdplmaaGreatDoor


/-! The document's images on lists of bytes. -/
namespace Go.Proofs.YtpcgkjngpdplmaaGreatDoor
open Go.RowKit

/-- Four bytes of a number, the lowest one first. -/
def le4 (n : Nat) : List By := [BitVec.ofNat 8 n, BitVec.ofNat 8 (n / 256), BitVec.ofNat 8 (n / 65536), BitVec.ofNat 8 (n / 16777216)]
/-- The number of four bytes. -/
def num4 (b : List By) : Nat := (b.getD 0 0).toNat + (b.getD 1 0).toNat * 256 + (b.getD 2 0).toNat * 65536 + (b.getD 3 0).toNat * 16777216
/-- What the tag covers. -/
def cover (s k v : Nat) (p : List By) : List By := [80#8, 67#8, 85#8, 76#8, 1#8, BitVec.ofNat 8 s, BitVec.ofNat 8 k, 0#8] ++ le4 v ++ le4 p.length ++ p

/-- May the byte of a place of the head be that? -/
def mst (i : Nat) (c : Nat) : Bool :=
  if i = 0 then c == 80 else if i = 1 then c == 67 else if i = 2 then c == 85 else if i = 3 then c == 76 else if i = 4 then c == 1 else if i = 5 then c < 8 else if i = 6 then c < 64 else if i = 7 then c == 0 else true

/-- The head gone through from the place i on, k places: what is wrong first. -/
def scan (b : List By) : Nat → Nat → Option (Nat × Nat)
  | _, 0 => none
  | i, k + 1 => if i = b.length then some (6, i) else if mst i (b.getD i 0).toNat then scan b (i + 1) k else some (5, i)

/-- What bytes are: something is wrong (its number, its place), or an image. -/
abbrev PR := Except (Nat × Nat) (Nat × Nat × Nat × List By × List By)
abbrev PR.wrong (e at_ : Nat) : PR := .error (e, at_)
abbrev PR.img (s k v : Nat) (p t : List By) : PR := .ok (s, k, v, p, t)

def parse (b : List By) : PR :=
  if 524288 < b.length then .wrong 4 524288 else
  match scan b 0 16 with
  | some (e, i) => .wrong e i
  | none =>
    let n := num4 (b.drop 12)
    if 524240 < n then .wrong 5 12 else if b.length < n + 48 then .wrong 6 b.length else if n + 48 < b.length then .wrong 7 (n + 48)
    else .img (b.getD 5 0).toNat (b.getD 6 0).toNat (num4 (b.drop 8)) ((b.drop 16).take n) (b.drop (n + 16))

theorem num4_lt (b : List By) : num4 b < 4294967296 := by
  unfold num4
  have h := fun i => (b.getD i 0).isLt
  have h0 := h 0; have h1 := h 1; have h2 := h 2; have h3 := h 3
  simp only [Nat.reducePow] at h0 h1 h2 h3
  omega
theorem le4_num4 (a b c d : By) : le4 (num4 [a, b, c, d]) = [a, b, c, d] := by
  have ha := a.isLt; have hb := b.isLt; have hc := c.isLt; have hd := d.isLt
  simp only [Nat.reducePow] at ha hb hc hd
  simp only [num4, le4, List.getD_cons_zero, List.getD_cons_succ, List.cons.injEq, and_true]
  refine ⟨?_, ?_, ?_, ?_⟩ <;> (apply BitVec.eq_of_toNat_eq; rw [BitVec.toNat_ofNat]; omega)

theorem num4_drop (b : List By) (n : Nat) : num4 (b.drop n) = num4 [b.getD n 0, b.getD (n + 1) 0, b.getD (n + 2) 0, b.getD (n + 3) 0] := by
  simp only [num4, List.getD_eq_getElem?_getD, List.getElem?_drop, Nat.add_zero]; rfl
theorem le4_drop (b : List By) (n : Nat) : le4 (num4 (b.drop n)) = [b.getD n 0, b.getD (n + 1) 0, b.getD (n + 2) 0, b.getD (n + 3) 0] := by
  rw [num4_drop, le4_num4]

theorem scan_at (b : List By) (i k : Nat) (h : i < 16) (hk : k = 16 - i) : scan b i k = if i = b.length then some (6, i) else if mst i (b.getD i 0).toNat then scan b (i + 1) (16 - (i + 1)) else some (5, i) := by
  subst hk
  rw [show 16 - i = (15 - i) + 1 by omega, show 16 - (i + 1) = 15 - i by omega]; rfl

/-- A head that is gone through whole. -/
theorem scan_none {b : List By} : ∀ (k i : Nat), i ≤ b.length → scan b i k = none → i + k ≤ b.length ∧ ∀ j, i ≤ j → j < i + k → mst j (b.getD j 0).toNat = true
  | 0, i, h, _ => ⟨by omega, fun j h1 h2 => by omega⟩
  | k + 1, i, h, hs => by
    rw [scan] at hs
    split at hs
    · cases hs
    · split at hs
      · rename_i h1 h2
        have := scan_none k (i + 1) (by omega) hs
        refine ⟨by omega, fun j hj1 hj2 => ?_⟩
        by_cases e : j = i
        · subst e; exact h2
        · exact this.2 j (by omega) (by omega)
      · cases hs
theorem scan_some {b : List By} : ∀ (k i : Nat), i ≤ b.length → ∀ e a, scan b i k = some (e, a) → a ≤ b.length ∧ (e = 5 ∨ e = 6)
  | 0, _, _, _, _, hs => by cases hs
  | k + 1, i, h, e, a, hs => by
    rw [scan] at hs
    split at hs
    · injection hs with hs; injection hs with h1 h2; subst h1; subst h2; exact ⟨h, .inr rfl⟩
    · split at hs
      · exact scan_some k (i + 1) (by omega) e a hs
      · injection hs with hs; injection hs with h1 h2; subst h1; subst h2; exact ⟨h, .inl rfl⟩

/-- What is wrong has a number above 0, and a place within. -/
theorem parse_wrong {b : List By} {e a : Nat} (h : parse b = .wrong e a) : 4 ≤ e ∧ e ≤ 7 ∧ a ≤ b.length := by
  unfold parse at h
  split at h
  · injection h with h; injection h with h1 h2; omega
  · split at h
    · rename_i hs
      injection h with h; injection h with h1 h2
      subst h1; subst h2
      have := scan_some 16 0 (by omega) _ _ hs
      omega
    · rename_i hs
      have := scan_none 16 0 (by omega) hs
      simp only at h
      split at h
      · injection h with h; injection h with h1 h2; omega
      · split at h
        · injection h with h; injection h with h1 h2; omega
        · split at h
          · injection h with h; injection h with h1 h2; omega
          · cases h

theorem getD_take_drop (b : List By) (n : Nat) (h : n < b.length) : b.drop n = b.getD n 0 :: b.drop (n + 1) := by
  rw [List.drop_eq_getElem_cons h]; simp [h]

theorem head16 (b : List By) (hl : 0 + 16 ≤ b.length) : b = b.getD 0 0 :: b.getD 1 0 :: b.getD 2 0 :: b.getD 3 0 :: b.getD 4 0 :: b.getD 5 0 :: b.getD 6 0 :: b.getD 7 0 :: b.getD 8 0 :: b.getD 9 0 :: b.getD 10 0 :: b.getD 11 0 :: b.getD 12 0 :: b.getD 13 0 :: b.getD 14 0 :: b.getD 15 0 :: b.drop 16 := by
  rw [← getD_take_drop b 15 (by omega), ← getD_take_drop b 14 (by omega), ← getD_take_drop b 13 (by omega), ← getD_take_drop b 12 (by omega), ← getD_take_drop b 11 (by omega), ← getD_take_drop b 10 (by omega), ← getD_take_drop b 9 (by omega), ← getD_take_drop b 8 (by omega), ← getD_take_drop b 7 (by omega), ← getD_take_drop b 6 (by omega), ← getD_take_drop b 5 (by omega), ← getD_take_drop b 4 (by omega), ← getD_take_drop b 3 (by omega), ← getD_take_drop b 2 (by omega), ← getD_take_drop b 1 (by omega), ← getD_take_drop b 0 (by omega)]
  rfl

/-- An image that was taken apart, put together. -/
theorem parse_img {b : List By} {s k v : Nat} {p t : List By} (h : parse b = .img s k v p t) :
    s < 8 ∧ k < 64 ∧ v < 4294967296 ∧ p.length ≤ 524240 ∧ t.length = 32 ∧ b.length = p.length + 48 ∧ b = cover s k v p ++ t := by
  unfold parse at h
  split at h
  · cases h
  · split at h
    · cases h
    · rename_i hs
      obtain ⟨hl, hm⟩ := scan_none 16 0 (by omega) hs
      simp only at h
      split at h
      · cases h
      · split at h
        · cases h
        · split at h
          · cases h
          · rename_i h1 h2 h3 h4
            injection h with h; injection h with e1 h; injection h with e2 h; injection h with e3 h; injection h with e4 e5
            obtain ⟨n, hn⟩ : ∃ n, num4 (b.drop 12) = n := ⟨_, rfl⟩
            rw [hn] at h2 h3 h4 e4 e5
            have hpl : p.length = n := by rw [← e4, List.length_take, List.length_drop]; clear hm e3 e1 e2 hs; omega
            have htl : t.length = 32 := by rw [← e5, List.length_drop]; clear hm e3 e1 e2 hs; omega
            have hbl : b.length = p.length + 48 := by rw [hpl]; clear hm e3 e1 e2 hs; omega
            have hp2 : p.length ≤ 524240 := by rw [hpl]; omega
            have m0 := hm 0 (by omega) (by omega); have m1 := hm 1 (by omega) (by omega); have m2 := hm 2 (by omega) (by omega); have m3 := hm 3 (by omega) (by omega)
            have m4 := hm 4 (by omega) (by omega); have m5 := hm 5 (by omega) (by omega); have m6 := hm 6 (by omega) (by omega); have m7 := hm 7 (by omega) (by omega)
            clear hm
            simp [mst] at m0 m1 m2 m3 m4 m5 m6 m7
            refine ⟨by rw [← e1]; simpa using m5, by rw [← e2]; simpa using m6, by rw [← e3]; exact num4_lt _, hp2, htl, hbl, ?_⟩
            have q0 : b.getD 0 0 = 80#8 := BitVec.eq_of_toNat_eq (by simpa using m0)
            have q1 : b.getD 1 0 = 67#8 := BitVec.eq_of_toNat_eq (by simpa using m1)
            have q2 : b.getD 2 0 = 85#8 := BitVec.eq_of_toNat_eq (by simpa using m2)
            have q3 : b.getD 3 0 = 76#8 := BitVec.eq_of_toNat_eq (by simpa using m3)
            have q4 : b.getD 4 0 = 1#8 := BitVec.eq_of_toNat_eq (by simpa using m4)
            have q5 : b.getD 5 0 = BitVec.ofNat 8 s := by rw [← e1]; simp
            have q6 : b.getD 6 0 = BitVec.ofNat 8 k := by rw [← e2]; simp
            have q7 : b.getD 7 0 = 0#8 := BitVec.eq_of_toNat_eq (by simpa using m7)
            have q8 : le4 v = [b.getD 8 0, b.getD 9 0, b.getD 10 0, b.getD 11 0] := by
              rw [← e3]; exact le4_drop b 8
            have q12 : le4 p.length = [b.getD 12 0, b.getD 13 0, b.getD 14 0, b.getD 15 0] := by
              rw [hpl, ← hn]; exact le4_drop b 12
            have hb := head16 b hl
            have hd : b.drop 16 = p ++ t := by
              rw [← e4, ← e5]
              rw [Nat.add_comm n 16, ← List.drop_drop, List.take_append_drop]
            rw [hb, hd, q0, q1, q2, q3, q4, q5, q6, q7]
            unfold cover
            rw [q8, q12]
            rfl

end Go.Proofs.YtpcgkjngpdplmaaGreatDoor
