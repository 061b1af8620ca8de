import Derived.Test.YtdfbfheceobboaaDoorI11Inv
import Derived.BigQuiet

/-! The reference's patch: number, must. -/
namespace Go.Proofs.YtdfbfheceobboaaDoor
open Go.RowKit
set_option linter.unusedVariables false

theorem cell_lt25 {w : World} {p : Addr} {v : Value} (h : w.cell? p = some v) : p.block < w.heap.size := block_lt_of_cell h

end Go.Proofs.YtdfbfheceobboaaDoor


/-! The reference's patch: behind. -/
namespace Go.Proofs.YtdfbfheceobboaaDoor
open Go.RowKit
set_option linter.unusedVariables false

end Go.Proofs.YtdfbfheceobboaaDoor


/-! The document's HMAC, as the reference computes it. -/
namespace Go.Proofs.YtdfbfheceobboaaDoor
open Go.RowKit

theorem row_isb {w : World} {g t : Nat} {l : List By} (h : Row w g t (l.map B8)) : IsB w (some ⟨g, 0, none⟩) l :=
  .inr ⟨g, 0, rfl, fun j v hj => by rw [Nat.zero_add]; exact h.cell j _ (by rw [List.getElem?_map, hj]; rfl)⟩

end Go.Proofs.YtdfbfheceobboaaDoor


/-! The reference's patch: start. -/
namespace Go.Proofs.YtdfbfheceobboaaDoor
open Go.RowKit
set_option linter.unusedVariables false

abbrev z32b : List By := List.replicate 32 0
theorem sE_none {p : List By} : ∀ (k i : Nat), i + k = 77 → i ≤ p.length → sE p i k = none → 77 ≤ p.length
  | 0, i, hk, hi, _ => by omega
  | k + 1, i, hk, hi, h => by
    rw [sE] at h
    by_cases h1 : i = p.length
    · rw [if_pos h1] at h; cases h
    · rw [if_neg h1] at h
      split at h
      · cases h
      · split at h
        · cases h
        · exact sE_none k (i + 1) (by omega) (by omega) h
end Go.Proofs.YtdfbfheceobboaaDoor


/-! The reference's patch: start, gone through. -/
namespace Go.Proofs.YtdfbfheceobboaaDoor
open Go.RowKit
set_option linter.unusedVariables false

theorem wr2_one (e a : Int) : ∀ v ∈ [Value.int .i64 e, Value.int .i64 a], v.oneCell' = true := by
  intro v hv
  simp at hv
  rcases hv with rfl | rfl <;> rfl

end Go.Proofs.YtdfbfheceobboaaDoor


/-! A patch of the reference in memory. -/
namespace Go.Proofs.YtdfbfheceobboaaDoor
open Go.RowKit
set_option linter.unusedVariables false

theorem own_keepL {N e size : Nat} {w w' : World} {ao : Option Addr} {n c : Nat} {xs : List Value} (h : w.ownsRow N e size (.slice ao n c) n xs) (hb : ∀ B, ao = some ⟨B, 0, none⟩ → w'.heap[B]? = w.heap[B]?) : w'.ownsRow N e size (.slice ao n c) n xs := by
  refine ⟨h.1, ?_⟩
  rcases h.2 with h0 | ⟨g, c', cur, e1, h1, h2, r⟩
  · exact .inl h0
  · refine .inr ⟨g, c', cur, e1, h1, ?_, r⟩
    injection e1 with e1
    rw [hb g e1]; exact h2
/-- What is known of a patch that was read. -/
structure PXok (x : PX) : Prop where
  lo : x.old.length = 32
  ln : x.new.length = 32
  bef : x.before ≤ 524288
  aft : x.after ≤ 524288
  sum : (x.l.map Pt.n).sum = x.after
  pos : ∀ y ∈ x.l, 1 ≤ y.n
  lay : ∀ y ∈ x.l, y.lay = true → y.b.length = y.n
  cpy : ∀ y ∈ x.l, y.lay = false → y.b = [] ∧ y.frm + y.n ≤ x.before
  frm : ∀ y ∈ x.l, y.frm < 4294967296
theorem sum_le_of {l : List Pt} {y : Pt} (h : y ∈ l) : y.n ≤ (l.map Pt.n).sum := by
  induction l with
  | nil => cases h
  | cons z zs ih =>
    rw [List.map_cons, List.sum_cons]
    rcases List.mem_cons.1 h with rfl | h
    · omega
    · have := ih h; omega
theorem len_le_sum : ∀ {l : List Pt}, (∀ y ∈ l, 1 ≤ y.n) → l.length ≤ (l.map Pt.n).sum
  | [], _ => by simp
  | z :: zs, h => by
    rw [List.map_cons, List.sum_cons, List.length_cons]
    have := h z (List.mem_cons_self ..)
    have := len_le_sum fun y hy => h y (List.mem_cons_of_mem _ hy)
    omega
theorem laid_le : ∀ (l : List Pt), laidN l ≤ (l.map Pt.n).sum
  | [] => by simp [laidN]
  | z :: zs => by
    have h := laid_le zs
    unfold laidN at *
    rw [List.map_cons, List.sum_cons, List.map_cons, List.sum_cons]
    split <;> omega
theorem laid_snoc (l : List Pt) (y : Pt) : laidN (l ++ [y]) = laidN l + (if y.lay then y.n else 0) := by simp [laidN]
theorem takeP_one {l : List Pt} {k : Nat} {y : Pt} (h : l[k]? = some y) : l.take (k + 1) = l.take k ++ [y] := by
  rw [List.take_add_one, h]; rfl
end Go.Proofs.YtdfbfheceobboaaDoor


/-! The reference's patch: Laid, Tells. -/
namespace Go.Proofs.YtdfbfheceobboaaDoor
open Go.RowKit
set_option linter.unusedVariables false

theorem tells_len {x : PX} (h : PXok x) {old : List By} (ho : old.length = x.before) : ∀ {l : List Pt}, (∀ y ∈ l, y ∈ x.l) → (tells l old).length = (l.map Pt.n).sum
  | [], _ => rfl
  | y :: ys, hl => by
    have hy := hl y (List.mem_cons_self ..)
    have ih := tells_len h ho fun z hz => hl z (List.mem_cons_of_mem _ hz)
    unfold tells at *
    rw [List.flatMap_cons, List.length_append, ih, List.map_cons, List.sum_cons]
    congr 1
    unfold ptB
    cases hyl : y.lay with
    | true => rw [if_pos rfl]; exact h.lay y hy hyl
    | false =>
      have := (h.cpy y hy hyl).2
      simp only [Bool.false_eq_true, if_false, List.length_take, List.length_drop]
      omega

end Go.Proofs.YtdfbfheceobboaaDoor


/-! Which errors reading tells; what a read patch is; what applying tells. -/
namespace Go.Proofs.YtdfbfheceobboaaDoor
open Go.RowKit
set_option linter.unusedVariables false

theorem startR_ok {p : List By} {x : PX} (h : startR p = .ok x) : 77 ≤ p.length ∧ x.old = (p.drop 5).take 32 ∧ x.new = (p.drop 37).take 32 ∧ x.before = num4 (p.drop 69) ∧ x.after = num4 (p.drop 73) ∧ x.l = [] ∧ x.after ≤ 524288 := by
  unfold startR at h
  split at h
  · cases h
  · rename_i he
    split at h
    · cases h
    · injection h with h
      subst h
      exact ⟨sE_none 77 0 rfl (Nat.zero_le _) he, rfl, rfl, rfl, rfl, rfl, by show num4 (p.drop 73) ≤ 524288; omega⟩
theorem sE_72 {p : List By} : ∀ (k i : Nat), i + k = 77 → i ≤ 72 → sE p i k = none → num4 (p.drop 69) ≤ 524288
  | 0, i, hk, hi, _ => by omega
  | k + 1, i, hk, hi, h => by
    rw [sE] at h
    split at h
    · cases h
    · split at h
      · cases h
      · split at h
        · cases h
        · rename_i h3
          by_cases e : i = 72
          · by_cases h4 : 524288 < num4 (p.drop 69)
            · exact absurd ⟨e, h4⟩ h3
            · omega
          · exact sE_72 k (i + 1) (by omega) (by omega) h
theorem startR_bef {p : List By} {x : PX} (h : startR p = .ok x) : x.before ≤ 524288 := by
  have h2 := (startR_ok h).2.2.2.1
  unfold startR at h
  split at h
  · cases h
  · rename_i he
    rw [h2]
    exact sE_72 77 0 rfl (by omega) he
/-- Parts that were read. -/
structure PtOk (bef : Nat) (y : Pt) : Prop where
  pos : 1 ≤ y.n
  lay : y.lay = true → y.b.length = y.n
  cpy : y.lay = false → y.b = [] ∧ y.frm + y.n ≤ bef
  frm : y.frm < 4294967296
theorem partR_ok {bef aft : Nat} {l : List Pt} {p : List By} {a hv : Nat} {y : Pt} {nx : Nat} (h : partR bef aft l p a hv = .ok (y, nx)) : PtOk bef y ∧ hv + y.n ≤ aft ∧ behB l y.lay y.frm = true := by
  unfold partR at h
  split at h
  · cases h
  · split at h
    · cases h
    · split at h
      · cases h
      · split at h
        · cases h
        · rename_i h1 h2 h3 h4
          split at h
          · rename_i h5
            split at h
            · cases h
            · rename_i h6
              injection h with h
              injection h with hy hx
              subst hy
              simp only [nxt, h5, if_true, frmOf] at h4 h3
              have e1 : a + 5 - 4 = a + 1 := by omega
              rw [e1] at h4
              simp only [not_or, Bool.not_eq_false] at h4
              obtain ⟨k1, k2, k3, k4⟩ := h4
              refine ⟨⟨by show 1 ≤ num4 (p.drop (a + 1)); omega, fun _ => ?_, fun h => (by cases h), (by show 0 < 4294967296; omega)⟩, by show hv + num4 (p.drop (a + 1)) ≤ aft; omega, ?_⟩
              · show ((p.drop (a + 5)).take (num4 (p.drop (a + 1)))).length = num4 (p.drop (a + 1))
                rw [List.length_take, List.length_drop]
                omega
              · show behB l true 0 = true
                simpa using k4
          · rename_i h5
            injection h with h
            injection h with hy hx
            subst hy
            have h6 : (p.getD a 0).toNat = 1 := by omega
            simp only [nxt, frmOf, if_neg h5] at h4 h3
            have e1 : a + 9 - 4 = a + 5 := by omega
            rw [e1] at h4
            simp only [not_or, Bool.not_eq_false] at h4
            obtain ⟨k1, k2, k3, k4⟩ := h4
            have k3' : ¬ bef < num4 (p.drop (a + 1)) + num4 (p.drop (a + 5)) := fun hh => k3 ⟨h6, hh⟩
            have hl := num4_lt (p.drop (a + 1))
            refine ⟨⟨by show 1 ≤ num4 (p.drop (a + 5)); omega, fun h => (by cases h), fun _ => ⟨rfl, by show num4 (p.drop (a + 1)) + num4 (p.drop (a + 5)) ≤ bef; omega⟩, hl⟩, by show hv + num4 (p.drop (a + 5)) ≤ aft; omega, ?_⟩
            show behB l false (num4 (p.drop (a + 1))) = true
            have e2 : decide ((p.getD a 0).toNat = 2) = false := decide_eq_false h5
            rw [e2] at k4
            exact k4
theorem readL_ok {bef aft : Nat} {p : List By} : ∀ (n a hv : Nat) (l : List Pt) {l' : List Pt} {a' : Nat}, aft ≤ hv + n → hv = (l.map Pt.n).sum → hv ≤ aft → (∀ y ∈ l, PtOk bef y) → readL bef aft p n a hv l = .ok (l', a') → (l'.map Pt.n).sum = aft ∧ ∀ y ∈ l', PtOk bef y
  | 0, a, hv, l, l', a', hn, hs, hv', ho, h => by
    injection h with h
    injection h with h1 h2
    subst h1
    exact ⟨by omega, ho⟩
  | n + 1, a, hv, l, l', a', hn, hs, hv', ho, h => by
    rw [readL] at h
    split at h
    · injection h with h
      injection h with h1 h2
      subst h1
      exact ⟨by omega, ho⟩
    · split at h
      · cases h
      · rename_i y nx he
        obtain ⟨h1, h2, _⟩ := partR_ok he
        have := h1.pos
        refine readL_ok n nx (hv + y.n) (l ++ [y]) (by omega) ?_ h2 ?_ h
        · rw [List.map_append, List.sum_append, ← hs]; simp
        · intro z hz
          rcases List.mem_append.1 hz with hz | hz
          · exact ho z hz
          · rw [List.mem_singleton] at hz; subst hz; exact h1
theorem readR_ok {p : List By} {x : PX} (h : readR p = .ok x) : PXok x := by
  unfold readR at h
  split at h
  · cases h
  · rename_i x0 he
    split at h
    · cases h
    · rename_i l a hl
      split at h
      · cases h
      · injection h with h
        subst h
        obtain ⟨h1, h2, h3, _, _, _, h7⟩ := startR_ok he
        obtain ⟨k1, k2⟩ := readL_ok x0.after 77 0 [] (by omega) rfl (by omega) (by simp) hl
        refine ⟨?_, ?_, (show x0.before ≤ 524288 from startR_bef he), h7, k1, fun y hy => (k2 y hy).pos, fun y hy => (k2 y hy).lay, fun y hy => (k2 y hy).cpy, fun y hy => (k2 y hy).frm⟩
        · show x0.old.length = 32
          rw [h2, List.length_take, List.length_drop]; omega
        · show x0.new.length = 32
          rw [h3, List.length_take, List.length_drop]; omega
/-- What applying tells. -/
def applyR (old p : List By) : Except (Nat × Nat) (List By) :=
  match readR p with
  | .error (e, a) => .error (e, a)
  | .ok x => if old.length ≠ x.before ∨ sha old ≠ x.old then .error (11, 5) else if sha (tells x.l old) ≠ x.new then .error (19, 37) else .ok (tells x.l old)
end Go.Proofs.YtdfbfheceobboaaDoor
