
import Derived.Test.YtplpoehfdhkhmaaDoorP25Jo
/-! How long a patch may be, as data. -/
namespace Go.Proofs.YtplpoehfdhkhmaaDoor
open Go.RowKit
set_option linter.unusedVariables false

/-- How many bytes two rows have in common at their beginning. -/
def lcp : List By -> List By -> Nat
  | x :: xs, y :: ys => if x = y then lcp xs ys + 1 else 0
  | _, _ => 0
theorem lcp_step (u v : List By) (a : Nat) : lcp (u.drop a) (v.drop a) = if a < u.length /\ a < v.length /\ u.getD a 0 = v.getD a 0 then lcp (u.drop (a + 1)) (v.drop (a + 1)) + 1 else 0 := by
  by_cases hu : a < u.length
  · by_cases hv : a < v.length
    · rw [List.drop_eq_getElem_cons hu, List.drop_eq_getElem_cons hv, lcp]
      have e1 : u.getD a 0 = u[a] := getD_lt hu
      have e2 : v.getD a 0 = v[a] := getD_lt hv
      by_cases h : u[a] = v[a]
      · rw [if_pos h, if_pos ⟨hu, hv, by rw [e1, e2]; exact h⟩]
      · rw [if_neg h, if_neg (fun hh => h (by rw [<- e1, <- e2]; exact hh.2.2))]
    · rw [if_neg (fun h => hv h.2.1), (List.drop_eq_nil_of_le (by omega) : v.drop a = [])]
      cases u.drop a <;> rfl
  · rw [if_neg (fun h => hu h.1), (List.drop_eq_nil_of_le (by omega) : u.drop a = [])]
    cases v.drop a <;> rfl
theorem lcp_le : ∀ (u v : List By), lcp u v <= u.length /\ lcp u v <= v.length
  | [], v => by cases v <;> simp [lcp]
  | x :: xs, [] => by simp [lcp]
  | x :: xs, y :: ys => by
    rw [lcp]
    have := lcp_le xs ys
    split
    · simp only [List.length_cons]; omega
    · simp
/-- How many they have in common at the end of what is left. -/
def lcs (old new : List By) (a : Nat) : Nat := lcp (old.drop a).reverse (new.drop a).reverse
def mostN (old new : List By) : Nat :=
  if new.length = 0 then 77 else
    min (77 + (if 0 < lcp old new then 9 else 0) + (if 0 < lcs old new (lcp old new) then 9 else 0) + (if lcp old new + lcs old new (lcp old new) < new.length then 5 + new.length - lcp old new - lcs old new (lcp old new) else 0)) (82 + new.length)
theorem rev_getD (l : List By) (a z : Nat) (h : z < l.length - a) : (l.drop a).reverse.getD z 0 = l.getD (l.length - 1 - z) 0 := by
  have hl : z < (l.drop a).reverse.length := by rw [List.length_reverse, List.length_drop]; exact h
  rw [getD_lt hl, List.getElem_reverse, getD_lt (by omega), List.getElem_drop]
  congr 1
  rw [List.length_drop]
  omega
end Go.Proofs.YtplpoehfdhkhmaaDoor
