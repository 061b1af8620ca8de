
import Derived.Test.YtdfbfheceobboaaDoorP25D1
import Derived.Test.YtdfbfheceobboaaDoorP25Mo
/-! What Make makes, as data. -/
namespace Go.Proofs.YtdfbfheceobboaaDoor
open Go.RowKit
set_option linter.unusedVariables false

/-- A part behind others, if it has bytes. -/
def withB (l : List Pt) (y : Pt) : List Pt := if y.n = 0 then l else l ++ [y]
/-- The parts that lay the whole new row. -/
def aloneP (new : List By) : List Pt := withB [] ⟨true, 0, new.length, new⟩
/-- The parts that copy what both rows begin and end with. -/
def keptP (old new : List By) (h t : Nat) : List Pt :=
  withB (withB (withB [] ⟨false, 0, h, []⟩) ⟨true, 0, new.length - t - h, (new.drop h).take (new.length - t - h)⟩) ⟨false, old.length - t, t, []⟩
def lcsN (old new : List By) : Nat := lcs old new (lcp old new)
def bestP (old new : List By) : List Pt :=
  if (putL (keptP old new (lcp old new) (lcsN old new))).length < (putL (aloneP new)).length then keptP old new (lcp old new) (lcsN old new) else aloneP new
theorem lcp_take : ∀ (u v : List By), u.take (lcp u v) = v.take (lcp u v)
  | [], v => by cases v <;> simp [lcp]
  | x :: xs, [] => by simp [lcp]
  | x :: xs, y :: ys => by
    rw [lcp]
    split
    · rename_i h; subst h; simp [lcp_take xs ys]
    · simp
theorem lcp_self : ∀ u : List By, lcp u u = u.length
  | [] => rfl
  | x :: xs => by rw [lcp, if_pos rfl, lcp_self xs]; rfl
theorem lcs_le (old new : List By) : lcp old new + lcsN old new ≤ old.length ∧ lcp old new + lcsN old new ≤ new.length := by
  have h1 := lcp_le old new
  have h2 := lcp_le (old.drop (lcp old new)).reverse (new.drop (lcp old new)).reverse
  simp only [List.length_reverse, List.length_drop] at h2
  unfold lcsN lcs
  omega
theorem lcs_drop (old new : List By) : old.drop (old.length - lcsN old new) = new.drop (new.length - lcsN old new) := by
  have h := lcp_take (old.drop (lcp old new)).reverse (new.drop (lcp old new)).reverse
  have h0 := lcs_le old new
  have e : lcp (old.drop (lcp old new)).reverse (new.drop (lcp old new)).reverse = lcsN old new := rfl
  rw [e, List.take_reverse, List.take_reverse, List.length_drop, List.length_drop, List.drop_drop, List.drop_drop] at h
  have h2 := List.reverse_inj.1 h
  rw [show lcp old new + (old.length - lcp old new - lcsN old new) = old.length - lcsN old new by omega, show lcp old new + (new.length - lcp old new - lcsN old new) = new.length - lcsN old new by omega] at h2
  exact h2
theorem tells_app (l m : List Pt) (old : List By) : tells (l ++ m) old = tells l old ++ tells m old := by simp [tells]
theorem tells_one (y : Pt) (old : List By) : tells [y] old = ptB old y := by simp [tells]
theorem withB_tells (l : List Pt) (y : Pt) (old : List By) (h : y.n = 0 → ptB old y = []) : tells (withB l y) old = tells l old ++ ptB old y := by
  unfold withB
  split
  · rename_i h0; rw [h h0, List.append_nil]
  · rw [tells_app, tells_one]
theorem withB_sum (l : List Pt) (y : Pt) : sumN (withB l y) = sumN l + y.n := by
  unfold withB
  split
  · omega
  · rw [sumN_app, sumN_cons, sumN_nil]; omega
theorem withB_mem {l : List Pt} {y z : Pt} (h : z ∈ withB l y) : z ∈ l ∨ (z = y ∧ y.n ≠ 0) := by
  unfold withB at h
  split at h
  · exact .inl h
  · rename_i h0
    rcases List.mem_append.1 h with h | h
    · exact .inl h
    · exact .inr ⟨List.mem_singleton.1 h, h0⟩
theorem withB_len (l : List Pt) (y : Pt) : (putL (withB l y)).length = (putL l).length + if y.n = 0 then 0 else (putB y).length := by
  unfold withB
  split
  · omega
  · rw [putL_app, putL_cons]; simp [putL]
theorem beh_nil : Beh [] := fun k y h => by simp at h
theorem beh_snoc {l : List Pt} {y : Pt} (h : Beh l) (hy : behB l y.lay y.frm = true) : Beh (l ++ [y]) := fun k z hz => by
  by_cases hk : k < l.length
  · rw [List.getElem?_append_left hk] at hz
    rw [List.take_append_of_le_length (by omega)]
    exact h k z hz
  · rw [List.getElem?_append_right (by omega)] at hz
    have : k - l.length = 0 := by
      have := (List.getElem?_eq_some_iff.1 hz).1; simp at this; omega
    rw [this] at hz
    simp at hz
    subst hz
    rw [show k = l.length by omega, List.take_append_of_le_length (Nat.le_refl _), List.take_of_length_le (Nat.le_refl _)]
    exact hy
theorem behB_snoc (l : List Pt) (x : Pt) (lay : Bool) (f : Nat) : behB (l ++ [x]) lay f = if x.lay && lay then false else x.lay || lay || (x.frm + x.n != f) := by
  unfold behB; rw [List.getLast?_concat]
theorem alone_right (new : List By) (bef : Nat) : (∀ y ∈ aloneP new, PtR bef y) ∧ Beh (aloneP new) ∧ sumN (aloneP new) = new.length ∧ ∀ old, tells (aloneP new) old = new := by
  refine ⟨fun y hy => ?_, ?_, ?_, fun old => ?_⟩
  · rcases withB_mem hy with h | ⟨rfl, h⟩
    · cases h
    · exact ⟨by simp only at h ⊢; omega, fun _ => ⟨rfl, rfl⟩, fun h => by cases h⟩
  · unfold aloneP withB
    split
    · exact beh_nil
    · exact beh_snoc beh_nil rfl
  · unfold aloneP; rw [withB_sum, sumN_nil]; simp
  · unfold aloneP
    rw [withB_tells _ _ _ (fun h => by simp only at h; simp [ptB, List.length_eq_zero_iff.1 h])]
    simp [tells, ptB]
theorem kept_right (old new : List By) : (∀ y ∈ keptP old new (lcp old new) (lcsN old new), PtR old.length y) ∧ Beh (keptP old new (lcp old new) (lcsN old new)) ∧ sumN (keptP old new (lcp old new) (lcsN old new)) = new.length ∧ (sumN (keptP old new (lcp old new) (lcsN old new)) = new.length → tells (keptP old new (lcp old new) (lcsN old new)) old = new) ∧ True := by
  have h0 := lcs_le old new
  have hpre := lcp_take old new
  have hsuf := lcs_drop old new
  have hself : old = new → lcp old new = old.length := fun e => by subst e; exact lcp_self old
  generalize lcp old new = h at *
  generalize lcsN old new = t at *
  refine ⟨fun y hy => ?_, ?_, ?_, fun _ => ?_, trivial⟩
  · rcases withB_mem hy with hy | ⟨rfl, hn⟩
    · rcases withB_mem hy with hy | ⟨rfl, hn⟩
      · rcases withB_mem hy with hy | ⟨rfl, hn⟩
        · cases hy
        · exact ⟨by simp only at hn ⊢; omega, fun h => (by cases h), fun _ => ⟨rfl, by simp only; omega⟩⟩
      · refine ⟨by simp only at hn ⊢; omega, fun _ => ⟨?_, rfl⟩, fun h => (by cases h)⟩
        simp only [List.length_take, List.length_drop]; omega
    · exact ⟨by simp only at hn ⊢; omega, fun h => (by cases h), fun _ => ⟨rfl, by simp only; omega⟩⟩
  · have hb1 : Beh (withB [] ⟨false, 0, h, []⟩) := by
      unfold withB
      split
      · exact beh_nil
      · exact beh_snoc beh_nil rfl
    have hb2 : Beh (withB (withB [] ⟨false, 0, h, []⟩) ⟨true, 0, new.length - t - h, (new.drop h).take (new.length - t - h)⟩) := by
      unfold withB at hb1 ⊢
      simp only at hb1 ⊢
      split
      · exact hb1
      · refine beh_snoc hb1 ?_
        split
        · rfl
        · rw [behB_snoc]; rfl
    unfold keptP
    generalize hl : withB (withB [] ⟨false, 0, h, []⟩) ⟨true, 0, new.length - t - h, (new.drop h).take (new.length - t - h)⟩ = l at hb2 ⊢
    unfold withB
    simp only
    split
    · exact hb2
    · rename_i ht
      refine beh_snoc hb2 ?_
      subst hl
      unfold withB
      simp only
      by_cases hm : new.length - t - h = 0
      · rw [if_pos hm]
        by_cases hz : h = 0
        · rw [if_pos hz]; rfl
        · rw [if_neg hz, behB_snoc]
          simp only [Bool.false_and, Bool.false_eq_true, if_false, Bool.false_or, bne_iff_ne, ne_eq, Nat.zero_add]
          intro e
          have e1 : old = new := by
            have a1 : old = old.take h ++ old.drop (old.length - t) := by rw [← e, List.take_append_drop]
            have a2 : new = new.take h ++ new.drop (new.length - t) := by rw [show new.length - t = h by omega, List.take_append_drop]
            rw [a1, a2, hpre, hsuf]
          have := hself e1
          omega
      · rw [if_neg hm, behB_snoc]; rfl
  · unfold keptP; rw [withB_sum, withB_sum, withB_sum, sumN_nil]; simp only; omega
  · unfold keptP
    rw [withB_tells _ _ _ (fun h => by simp only at h; subst h; simp [ptB]), withB_tells _ _ _ (fun h => by simp only at h; simp [ptB, h]), withB_tells _ _ _ (fun h => by simp only at h; subst h; simp [ptB])]
    simp only [tells, ptB, List.flatMap_nil, List.nil_append, if_true, Bool.false_eq_true, if_false, List.drop_zero]
    rw [hpre, hsuf]
    have e1 : (new.drop (new.length - t)).take t = new.drop (new.length - t) := List.take_of_length_le (by rw [List.length_drop]; omega)
    rw [e1]
    have e2 : new.take h ++ (new.drop h).take (new.length - t - h) = new.take (new.length - t) := by
      rw [show new.length - t = h + (new.length - t - h) by omega, List.take_add]
      rw [show h + (new.length - t - h) - h = new.length - t - h by omega]
    rw [e2, List.take_append_drop]

theorem best_right (old new : List By) : (∀ y ∈ bestP old new, PtR old.length y) ∧ Beh (bestP old new) ∧ sumN (bestP old new) = new.length ∧ tells (bestP old new) old = new := by
  unfold bestP
  split
  · obtain ⟨h1, h2, h3, h4, _⟩ := kept_right old new
    exact ⟨h1, h2, h3, h4 h3⟩
  · obtain ⟨h1, h2, h3, h4⟩ := alone_right new old.length
    exact ⟨h1, h2, h3, h4 old⟩
theorem best_len (old new : List By) : 77 + (putL (bestP old new)).length ≤ mostN old new := by
  have ha : (putL (aloneP new)).length = if new.length = 0 then 0 else 5 + new.length := by
    unfold aloneP
    rw [withB_len]
    simp only [putB, putL, if_true, List.flatMap_nil, List.length_nil]
    split
    · rfl
    · simp [le4_len]; omega
  have h0 := lcs_le old new
  have hk : (putL (keptP old new (lcp old new) (lcsN old new))).length = (if 0 < lcp old new then 9 else 0) + (if 0 < lcsN old new then 9 else 0) + (if lcp old new + lcsN old new < new.length then 5 + new.length - lcp old new - lcsN old new else 0) := by
    unfold keptP
    rw [withB_len, withB_len, withB_len]
    generalize lcp old new = h at *
    generalize lcsN old new = t at *
    simp only [putB, putL, if_true, List.flatMap_nil, List.length_nil, Bool.false_eq_true, if_false, List.length_cons, List.length_append, le4_len, List.length_take, List.length_drop]
    have c1 : (if h = 0 then 0 else 4 + 4 + 1) = (if 0 < h then 9 else 0) := by split <;> split <;> omega
    have c2 : (if t = 0 then 0 else 4 + 4 + 1) = (if 0 < t then 9 else 0) := by split <;> split <;> omega
    have c3 : (if new.length - t - h = 0 then 0 else 4 + min (new.length - t - h) (new.length - h) + 1) = (if h + t < new.length then 5 + new.length - h - t else 0) := by
      by_cases hh : h + t < new.length
      · rw [if_neg (by omega), if_pos hh]; omega
      · rw [if_pos (by omega), if_neg hh]
    rw [c1, c2, c3]; omega
  have hb : (putL (bestP old new)).length = min (putL (keptP old new (lcp old new) (lcsN old new))).length (putL (aloneP new)).length := by
    unfold bestP
    split <;> omega
  rw [hb, hk, ha]
  unfold mostN
  have e : lcs old new (lcp old new) = lcsN old new := rfl
  rw [e]
  generalize (if 0 < lcp old new then 9 else 0) = q1
  generalize (if 0 < lcsN old new then 9 else 0) = q2
  generalize (if lcp old new + lcsN old new < new.length then 5 + new.length - lcp old new - lcsN old new else 0) = q3
  split
  · omega
  · omega
end Go.Proofs.YtdfbfheceobboaaDoor
