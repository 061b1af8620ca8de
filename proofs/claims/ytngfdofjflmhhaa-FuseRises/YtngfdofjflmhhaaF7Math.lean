
import Derived.Test.YtngfdofjflmhhaaC4Blow
/-! Layer 7 as plain data: counts, what Raise and Revoke leave. -/
namespace Go.Proofs.Ytngfdofjflmhhaa
open Go.RowKit

/-- How many of k fuses from the place o on are blown. -/
def cnt (b : List Bool) (o : Nat) : Nat → Nat
  | 0 => 0
  | k + 1 => cnt b o k + (if b.getD (o + k) false then 1 else 0)

/-- What is known of a chip's fuses. -/
structure RS.Fu (s : RS) : Prop where
  s1 : 1 ≤ s.c.slots
  s2 : s.c.slots ≤ 8
  f1 : 1 ≤ s.c.fuses
  f2 : s.c.fuses ≤ 64
  k1 : 1 ≤ s.c.keys
  k2 : s.c.keys ≤ 64
  bl : (s.blown.length : Int) = s.c.slots * s.c.fuses + s.c.keys

/-- Where the row of a slot begins; the fuse of a key. -/
def RS.o7 (s : RS) (slot : Int) : Nat := (slot * s.c.fuses).toNat
def RS.key (s : RS) (k : Int) : Int := s.c.slots * s.c.fuses + k

def RS.countE (s : RS) (slot : Int) : Int := s.ask slot s.c.slots
def RS.count (s : RS) (slot : Int) : Int := if s.countE slot = 0 then (cnt s.blown (s.o7 slot) s.c.fuses.toNat : Int) else 0

/-- Raise from the place i of the row on, m places to go, while k are blown. -/
def raiseGo (o : Nat) (n : Int) : Nat → Nat → Int → RS → RS × Int
  | 0, _, _, s => (s, 0)
  | m + 1, i, k, s =>
    if n ≤ k then (s, 0)
    else if s.blown.getD (o + i) false then raiseGo o n m (i + 1) k s
    else if s.blowE ((o + i : Nat) : Int) = 0 then raiseGo o n m (i + 1) (k + 1) (s.blow ((o + i : Nat) : Int))
    else (s.blow ((o + i : Nat) : Int), s.blowE ((o + i : Nat) : Int))
def RS.raise (s : RS) (slot n : Int) : RS × Int :=
  if s.countE slot = 0 then (if n < 0 ∨ s.c.fuses < n then (s, 2) else raiseGo (s.o7 slot) n s.c.fuses.toNat 0 (s.count slot) s) else (s, s.countE slot)

def RS.revokedE (s : RS) (k : Int) : Int := s.ask k s.c.keys
def RS.revoked (s : RS) (k : Int) : Bool := if s.revokedE k = 0 then s.blown.getD (s.key k).toNat false else false
def RS.revoke (s : RS) (k : Int) : RS × Int :=
  if s.revokedE k = 0 then (if s.revoked k then (s, 0) else (s.blow (s.key k), s.blowE (s.key k))) else (s, s.revokedE k)

theorem ask_zero {s : RS} {i n : Int} (h : s.ask i n = 0) : s.gone = false ∧ 0 ≤ i ∧ i < n := by
  unfold RS.ask at h
  split at h
  · omega
  · rename_i hg
    split at h
    · omega
    · exact ⟨by simpa using hg, by omega, by omega⟩
theorem ask_of {s : RS} {i n : Int} (hg : s.gone = false) (h0 : 0 ≤ i) (h1 : i < n) : s.ask i n = 0 := by
  unfold RS.ask
  rw [hg, if_neg (by decide), if_neg (by omega)]
theorem ask_or (s : RS) (i n : Int) : s.ask i n = 8 ∧ s.gone = true ∨ s.gone = false ∧ (s.ask i n = 2 ∧ (i < 0 ∨ n ≤ i) ∨ s.ask i n = 0 ∧ 0 ≤ i ∧ i < n) := by
  unfold RS.ask
  cases hg : s.gone with
  | true => exact .inl ⟨rfl, rfl⟩
  | false =>
    refine .inr ⟨rfl, ?_⟩
    rw [if_neg (by decide)]
    by_cases h : i < 0 ∨ n ≤ i
    · rw [if_pos h]; exact .inl ⟨rfl, h⟩
    · rw [if_neg h]; exact .inr ⟨rfl, by omega, by omega⟩

section
variable {s : RS}
theorem RS.Fu.row (h : s.Fu) {slot : Int} (h0 : 0 ≤ slot) (h1 : slot < s.c.slots) : 0 ≤ slot * s.c.fuses ∧ slot * s.c.fuses + s.c.fuses ≤ s.c.slots * s.c.fuses ∧ s.c.slots * s.c.fuses ≤ 512 ∧ ((s.o7 slot : Nat) : Int) = slot * s.c.fuses := by
  have a1 := h.s2
  have a2 := h.f1
  have a3 := h.f2
  have b1 : 0 ≤ slot * s.c.fuses := Int.mul_nonneg h0 (by omega)
  have b2 : (slot + 1) * s.c.fuses ≤ s.c.slots * s.c.fuses := Int.mul_le_mul_of_nonneg_right (by omega) (by omega)
  rw [Int.add_mul, Int.one_mul] at b2
  have b3 : s.c.slots * s.c.fuses ≤ 8 * 64 := Int.mul_le_mul a1 a3 (by omega) (by omega)
  exact ⟨b1, b2, by omega, by unfold RS.o7; omega⟩
theorem RS.Fu.mul (h : s.Fu) : 1 ≤ s.c.slots * s.c.fuses ∧ s.c.slots * s.c.fuses ≤ 512 := by
  have b1 : 1 * 1 ≤ s.c.slots * s.c.fuses := Int.mul_le_mul h.s1 h.f1 (by omega) (by have := h.s1; omega)
  have b3 : s.c.slots * s.c.fuses ≤ 8 * 64 := Int.mul_le_mul h.s2 h.f2 (by have := h.f1; omega) (by omega)
  omega

theorem fuse_of {i : Int} (hg : s.gone = false) (h0 : 0 ≤ i) (h1 : i < (s.blown.length : Int)) : s.fuse i = 0 := by
  unfold RS.fuse
  rw [hg, if_neg (by decide), if_neg (by omega)]

/-- Blowing leaves the config, the sizes, the rest. -/
theorem blow_c (i : Int) : (s.blow i).c = s.c := by unfold RS.blow; split <;> rfl
theorem blow_len (i : Int) : (s.blow i).blown.length = s.blown.length := by
  unfold RS.blow
  split
  · show (s.blown.set _ _).length = _
    rw [List.length_set]
  · rfl
theorem RS.Fu.blow (h : s.Fu) (i : Int) : (s.blow i).Fu := by
  refine ⟨?_, ?_, ?_, ?_, ?_, ?_, ?_⟩ <;> (try rw [blow_len]) <;> rw [blow_c]
  · exact h.s1
  · exact h.s2
  · exact h.f1
  · exact h.f2
  · exact h.k1
  · exact h.k2
  · exact h.bl
theorem blow_o7 (i slot : Int) : (s.blow i).o7 slot = s.o7 slot := by unfold RS.o7; rw [blow_c]
end

theorem cnt_le (b : List Bool) (o : Nat) : ∀ p, cnt b o p ≤ p
  | 0 => Nat.le_refl _
  | p + 1 => by have := cnt_le b o p; unfold cnt; split <;> omega
theorem raiseGo_c {o : Nat} {n : Int} : ∀ (m i : Nat) (k : Int) (s : RS), (raiseGo o n m i k s).1.c = s.c
  | 0, _, _, _ => rfl
  | m + 1, i, k, s => by
    unfold raiseGo
    split
    · rfl
    · split
      · exact raiseGo_c m _ _ s
      · split
        · rw [raiseGo_c m]; exact blow_c _
        · exact blow_c _
theorem raiseGo_fu {o : Nat} {n : Int} : ∀ (m i : Nat) (k : Int) (s : RS), s.Fu → (raiseGo o n m i k s).1.Fu
  | 0, _, _, _, h => h
  | m + 1, i, k, s, h => by
    unfold raiseGo
    split
    · exact h
    · split
      · exact raiseGo_fu m _ _ s h
      · split
        · exact raiseGo_fu m _ _ _ (h.blow _)
        · exact h.blow _
theorem RS.Fu.raise {s : RS} (h : s.Fu) (slot n : Int) : (s.raise slot n).1.Fu := by
  unfold RS.raise
  split
  · split
    · exact h
    · exact raiseGo_fu _ _ _ _ h
  · exact h
theorem RS.Fu.revoke {s : RS} (h : s.Fu) (k : Int) : (s.revoke k).1.Fu := by
  unfold RS.revoke
  split
  · split
    · exact h
    · exact h.blow _
  · exact h
end Go.Proofs.Ytngfdofjflmhhaa
