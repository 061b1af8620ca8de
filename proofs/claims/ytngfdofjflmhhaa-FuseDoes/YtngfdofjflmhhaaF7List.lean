
import Derived.Test.YtngfdofjflmhhaaF7Ref2
/-! Layer 7 as plain data: the fuses of a row that aren't blown, as a list; Raise along it. -/
namespace Go.Proofs.Ytngfdofjflmhhaa
open Go.RowKit

/-- The places from o + i on, m of them, that aren't blown. -/
def unb (b : List Bool) (o : Nat) : Nat → Nat → List Nat
  | _, 0 => []
  | i, m + 1 => if b.getD (o + i) false then unb b o (i + 1) m else (o + i) :: unb b o (i + 1) m

theorem unb_snoc (b : List Bool) (o : Nat) : ∀ (m i : Nat), unb b o i (m + 1) = unb b o i m ++ (if b.getD (o + (i + m)) false then [] else [o + (i + m)])
  | 0, i => by
    unfold unb unb
    cases b.getD (o + (i + 0)) false <;> simp_all
  | m + 1, i => by
    have ih := unb_snoc b o m (i + 1)
    rw [unb, ih, show i + 1 + m = i + (m + 1) by omega]
    rw [show unb b o i (m + 1) = if b.getD (o + i) false then unb b o (i + 1) m else (o + i) :: unb b o (i + 1) m from rfl]
    split <;> rfl
theorem unb_len (b : List Bool) (o : Nat) : ∀ p, (unb b o 0 p).length + cnt b o p = p
  | 0 => rfl
  | p + 1 => by
    have ih := unb_len b o p
    rw [unb_snoc, cnt, Nat.zero_add]
    cases b.getD (o + p) false
    · simp; omega
    · simp; omega
theorem unb_congr {b b' : List Bool} {o : Nat} : ∀ (m i : Nat), (∀ j, i ≤ j → b'.getD (o + j) false = b.getD (o + j) false) → unb b' o i m = unb b o i m
  | 0, _, _ => rfl
  | m + 1, i, h => by
    unfold unb
    rw [h i (Nat.le_refl _), unb_congr m (i + 1) (fun j hj => h j (by omega))]
theorem unb_mem {b : List Bool} {o : Nat} : ∀ (m i : Nat), ∀ q ∈ unb b o i m, o + i ≤ q ∧ q < o + i + m
  | 0, _, q, h => by cases h
  | m + 1, i, q, h => by
    unfold unb at h
    split at h
    · have := unb_mem m (i + 1) q h; omega
    · rcases List.mem_cons.1 h with h | h
      · omega
      · have := unb_mem m (i + 1) q h; omega

/-- Raise along a list of fuses that aren't blown. -/
def raiseL (n : Int) : List Nat → Int → RS → RS × Int
  | [], _, s => (s, 0)
  | q :: L, k, s => if n ≤ k then (s, 0) else if s.blowE (q : Int) = 0 then raiseL n L (k + 1) (s.blow (q : Int)) else (s.blow (q : Int), s.blowE (q : Int))

theorem blow_other (s : RS) (q j : Nat) (h : j ≠ q) : (s.blow (q : Int)).blown.getD j false = s.blown.getD j false := by
  unfold RS.blow
  split
  · show (s.blown.set _ _).getD j false = _
    rw [List.getD_eq_getElem?_getD, List.getD_eq_getElem?_getD, List.getElem?_set_ne (by omega)]
  · rfl

theorem raiseL_done {n : Int} {L : List Nat} {k : Int} {s : RS} (h : n ≤ k) : raiseL n L k s = (s, 0) := by
  cases L with
  | nil => rfl
  | cons q L => rw [raiseL, if_pos h]
theorem raiseGo_eq {o : Nat} {n : Int} : ∀ (m i : Nat) (k : Int) (s : RS), raiseGo o n m i k s = raiseL n (unb s.blown o i m) k s
  | 0, _, _, _ => rfl
  | m + 1, i, k, s => by
    by_cases hk : n ≤ k
    · rw [raiseGo_done hk, raiseL_done hk]
    · cases hb : s.blown.getD (o + i) false with
      | true =>
        rw [raiseGo_step hk hb, raiseGo_eq m, unb, hb]; rfl
      | false =>
        have e1 : unb s.blown o i (m + 1) = (o + i) :: unb s.blown o (i + 1) m := by rw [unb, hb]; rfl
        rw [e1, raiseL, if_neg hk]
        by_cases he : s.blowE ((o + i : Nat) : Int) = 0
        · rw [raiseGo_blow hk hb he, if_pos he, raiseGo_eq m]
          congr 1
          exact unb_congr m (i + 1) fun j hj => blow_other s _ _ (by omega)
        · rw [raiseGo_gone hk hb he, if_neg he]

/-- What stands between two rounds of Raise along the list: what is left, where it ends. -/
structure Rl7 (n : Int) (R : RS × Int) (s0 s : RS) (L : List Nat) (j : Nat) (k e : Int) : Prop where
  fu : s.Fu
  good : s.Good
  c : s.c = s0.c
  an : s.n ≤ s0.n + j
  go : e = 0 → raiseL n L k s = R
  st : e ≠ 0 → R = (s, e)
theorem Rl7.blow {n : Int} {R : RS × Int} {s0 s : RS} {q : Nat} {L : List Nat} {j : Nat} {k : Int} (h : Rl7 n R s0 s (q :: L) j k 0) (hk : ¬ n ≤ k) : Rl7 n R s0 (s.blow (q : Int)) L (j + 1) (k + 1) (s.blowE (q : Int)) := by
  obtain ⟨g1, g2⟩ := h.good.blow (q : Int)
  have hg := h.go rfl
  rw [raiseL, if_neg hk] at hg
  refine ⟨h.fu.blow _, g1, by rw [blow_c]; exact h.c, by have := h.an; omega, fun he => ?_, fun he => ?_⟩
  · rw [if_pos he] at hg; exact hg
  · rw [if_neg he] at hg; exact hg.symm
theorem Rl7.fin {n : Int} {R : RS × Int} {s0 s : RS} {L : List Nat} {j : Nat} {k e : Int} (h : Rl7 n R s0 s L j k e) (hd : n ≤ k ∨ e ≠ 0) : R = (s, e) := by
  by_cases he : e = 0
  · subst he
    have hg := h.go rfl
    rcases hd with hd | hd
    · rw [raiseL_done hd] at hg; exact hg.symm
    · exact absurd rfl hd
  · exact h.st he
end Go.Proofs.Ytngfdofjflmhhaa
