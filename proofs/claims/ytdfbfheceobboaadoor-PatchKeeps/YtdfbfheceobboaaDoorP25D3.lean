
import Derived.Test.YtdfbfheceobboaaDoorP25D2
/-! What Join joins, as data. -/
namespace Go.Proofs.YtdfbfheceobboaaDoor
open Go.RowKit
set_option linter.unusedVariables false

/-- Does a part go on where another one has ended? -/
def goB (a x : Pt) : Bool := if a.lay then x.lay else !x.lay && x.frm == a.frm + a.n
/-- Two parts as one. -/
def asOneP (a x : Pt) : Pt := if a.lay then ⟨true, 0, a.n + x.n, a.b ++ x.b⟩ else ⟨false, a.frm, a.n + x.n, []⟩
/-- A part behind others, made one with the last where it goes on. -/
def joinP (l : List Pt) (x : Pt) : List Pt :=
  match l.getLast? with
  | none => l ++ [x]
  | some a => if goB a x then l.dropLast ++ [asOneP a x] else l ++ [x]
/-- What tells some of a part's bytes. -/
def cutP (y : Pt) (f t : Nat) : Pt := if y.lay then ⟨true, 0, t - f, (y.b.drop f).take (t - f)⟩ else ⟨false, y.frm + f, t - f, []⟩
/-- The pieces of parts from the part i on, from a place to another one. -/
def wthn (l : List Pt) (t : Nat) : Nat → Nat → Nat → List Pt
  | 0, _, _ => []
  | k + 1, i, f => if f < t then match l[i]? with
      | none => []
      | some y => cutP y (f - sumN (l.take i)) (min (sumN (l.take i) + y.n) t - sumN (l.take i)) :: wthn l t k (i + 1) (min (sumN (l.take i) + y.n) t)
    else []
/-- The first part that ends behind a place. -/
def fstI : List Pt → Nat → Nat
  | [], _ => 0
  | y :: ys, f => if y.n ≤ f then fstI ys (f - y.n) + 1 else 0
def piecesP (l : List Pt) (x : Pt) : List Pt := wthn l (x.frm + x.n) l.length (fstI l x.frm) x.frm
def thrP (first : List Pt) (out : List Pt) (x : Pt) : List Pt := if x.lay then joinP out x else (piecesP first x).foldl joinP out
def through (first second : List Pt) : List Pt := second.foldl (thrP first) []
theorem fstI_eq : ∀ (l : List Pt) (f i : Nat), i ≤ l.length → (∀ k, k < i → sumN (l.take (k + 1)) ≤ f) → (i < l.length → f < sumN (l.take (i + 1))) → fstI l f = i
  | [], f, i, h, _, _ => by simp at h; subst h; rfl
  | y :: ys, f, 0, h, h1, h2 => by
    have := h2 (by simp)
    simp [sumN] at this
    rw [fstI, if_neg (by omega)]
  | y :: ys, f, i + 1, h, h1, h2 => by
    have h0 := h1 0 (by omega)
    simp [sumN] at h0
    rw [fstI, if_pos h0, fstI_eq ys (f - y.n) i (by simpa using h) (fun k hk => ?_) (fun hk => ?_)]
    · have := h1 (k + 1) (by omega)
      rw [List.take_succ_cons, sumN_cons] at this; omega
    · have := h2 (by simpa using hk)
      rw [List.take_succ_cons, sumN_cons] at this; omega
theorem fstI_spec : ∀ (l : List Pt) (f : Nat), fstI l f ≤ l.length ∧ sumN (l.take (fstI l f)) ≤ f ∧ (f < sumN l → fstI l f < l.length ∧ f < sumN (l.take (fstI l f + 1)))
  | [], f => by simp [fstI, sumN]
  | y :: ys, f => by
    rw [fstI]
    split
    · rename_i h
      obtain ⟨h1, h2, h3⟩ := fstI_spec ys (f - y.n)
      refine ⟨by simp; omega, by rw [List.take_succ_cons, sumN_cons]; omega, fun hf => ?_⟩
      rw [sumN_cons] at hf
      have := h3 (by omega)
      refine ⟨by simp; omega, by rw [List.take_succ_cons, sumN_cons]; omega⟩
    · refine ⟨by simp, by simp [sumN], fun hf => ⟨by simp, by simp [sumN]; omega⟩⟩
theorem sumN_take_succ {l : List Pt} {i : Nat} {y : Pt} (h : l[i]? = some y) : sumN (l.take (i + 1)) = sumN (l.take i) + y.n := by
  rw [List.take_add_one, h, sumN_app]; simp [sumN]
theorem sumN_take_le (l : List Pt) (i : Nat) : sumN (l.take i) ≤ sumN l := by
  have := sumN_app (l.take i) (l.drop i)
  rw [List.take_append_drop] at this; omega
/-- What a piece of a part tells. -/
theorem ptB_cut (old : List By) (y : Pt) (f t : Nat) (ht : t ≤ y.n) : ptB old (cutP y f t) = ((ptB old y).drop f).take (t - f) := by
  unfold ptB cutP
  by_cases h : y.lay = true
  · simp [h]
  · simp only [h, if_false, Bool.false_eq_true]
    rw [List.drop_take, List.take_take, List.drop_drop]
    congr 1; omega
theorem cut_right {bef : Nat} {y : Pt} (h : PtR bef y) {f t : Nat} (hf : f < t) (ht : t ≤ y.n) : PtR bef (cutP y f t) ∧ (cutP y f t).n = t - f := by
  unfold cutP
  by_cases hl : y.lay = true
  · simp only [hl, if_true]
    have := (h.lay hl).1
    refine ⟨⟨by simp only; omega, fun _ => ⟨?_, rfl⟩, fun h => (by cases h)⟩, trivial⟩
    simp only [List.length_take, List.length_drop]; omega
  · simp only [hl, if_false, Bool.false_eq_true]
    have := (h.cpy (by simpa using hl)).2
    exact ⟨⟨by simp only; omega, fun h => (by cases h), fun _ => ⟨rfl, by simp only; omega⟩⟩, trivial⟩
theorem ptB_len {bef : Nat} {y : Pt} (h : PtR bef y) {old : List By} (ho : old.length = bef) : (ptB old y).length = y.n := by
  unfold ptB
  split
  · rename_i hl; exact (h.lay hl).1
  · rename_i hl
    have := (h.cpy (by simpa using hl)).2
    rw [List.length_take, List.length_drop]; omega
theorem tellsR_len {bef : Nat} {old : List By} (ho : old.length = bef) : ∀ {l : List Pt}, (∀ y ∈ l, PtR bef y) → (tells l old).length = sumN l
  | [], _ => rfl
  | y :: ys, h => by
    have h1 := ptB_len (h y (List.mem_cons_self ..)) ho
    have h2 := tellsR_len ho fun z hz => h z (List.mem_cons_of_mem _ hz)
    show (List.flatMap (ptB old) (y :: ys)).length = _
    rw [List.flatMap_cons, List.length_append, sumN_cons, h1]
    show _ + (tells ys old).length = _
    rw [h2]
theorem wthn_right {bef : Nat} {l : List Pt} (hl : ∀ y ∈ l, PtR bef y) {t : Nat} (ht : t ≤ sumN l) : ∀ (k i f : Nat), l.length - i ≤ k → i ≤ l.length → (f < t → sumN (l.take i) ≤ f ∧ i < l.length ∧ f < sumN (l.take (i + 1))) → f ≤ t →
    (∀ z ∈ wthn l t k i f, PtR bef z) ∧ sumN (wthn l t k i f) = t - f ∧ ∀ old, old.length = bef → tells (wthn l t k i f) old = ((tells l old).drop f).take (t - f)
  | 0, i, f, hk, hi, hf, hft => by
    have : ¬ f < t := fun h => by have := (hf h).2.1; omega
    refine ⟨fun z hz => (by cases hz), by show 0 = _; omega, fun old ho => ?_⟩
    rw [show t - f = 0 by omega]; rfl
  | k + 1, i, f, hk, hi, hf, hft => by
    rw [wthn]
    by_cases h : f < t
    · obtain ⟨hb, h1, h2⟩ := hf h
      rw [if_pos h]
      obtain ⟨y, hy⟩ : ∃ y, l[i]? = some y := ⟨_, List.getElem?_eq_getElem h1⟩
      rw [hy]
      simp only
      have hR := hl y (List.mem_of_getElem? hy)
      have hs := sumN_take_succ hy
      have hpos := hR.pos
      have hm : min (sumN (l.take i) + y.n) t ≤ t := Nat.min_le_right ..
      obtain ⟨g1, g2⟩ := cut_right hR (f := f - sumN (l.take i)) (t := min (sumN (l.take i) + y.n) t - sumN (l.take i)) (by omega) (by omega)
      obtain ⟨k1, k2, k3⟩ := wthn_right hl ht k (i + 1) (min (sumN (l.take i) + y.n) t) (by omega) (by omega) (fun hlt => by
        have e : min (sumN (l.take i) + y.n) t = sumN (l.take (i + 1)) := by omega
        rw [e] at hlt ⊢
        have hi2 : i + 1 < l.length := by
          refine Nat.lt_of_not_le fun hh => ?_
          rw [List.take_of_length_le hh] at hlt; omega
        refine ⟨Nat.le_refl _, hi2, ?_⟩
        obtain ⟨y2, hy2⟩ : ∃ y, l[i + 1]? = some y := ⟨_, List.getElem?_eq_getElem hi2⟩
        rw [sumN_take_succ hy2]
        have := (hl y2 (List.mem_of_getElem? hy2)).pos
        omega) hm
      refine ⟨fun z hz => ?_, by rw [sumN_cons, k2, g2]; omega, fun old ho => ?_⟩
      · rcases List.mem_cons.1 hz with rfl | hz
        · exact g1
        · exact k1 z hz
      · show List.flatMap (ptB old) (_ :: _) = _
        rw [List.flatMap_cons]
        show _ ++ tells _ old = _
        rw [k3 old ho, ptB_cut old y _ _ (by omega)]
        have e : tells l old = tells (l.take i) old ++ (ptB old y ++ tells (l.drop (i + 1)) old) := by
          conv => lhs; rw [← List.take_append_drop i l, tells_app]
          congr 1
          have hd : l.drop i = y :: l.drop (i + 1) := by
            rw [List.drop_eq_getElem_cons h1]
            rw [List.getElem?_eq_getElem h1] at hy
            injection hy with hy; rw [hy]
          rw [hd]; simp [tells]
        have eA : (tells (l.take i) old).length = sumN (l.take i) := tellsR_len ho fun z hz => hl z (List.mem_of_mem_take hz)
        have eB : (ptB old y).length = y.n := ptB_len hR ho
        generalize sumN (l.take i) = a at *
        generalize tells (l.take i) old = A at *
        generalize ptB old y = B at *
        generalize tells (l.drop (i + 1)) old = C at *
        rw [e]
        have d1 : (A ++ (B ++ C)).drop f = B.drop (f - a) ++ C := by
          rw [List.drop_append, List.drop_eq_nil_of_le (by omega), List.nil_append, List.drop_append, eA, show f - a - B.length = 0 by omega, List.drop_zero]
        have d2 : (A ++ (B ++ C)).drop (min (a + y.n) t) = B.drop (min (a + y.n) t - a) ++ C := by
          rw [List.drop_append, List.drop_eq_nil_of_le (by omega), List.nil_append, List.drop_append, eA, show min (a + y.n) t - a - B.length = 0 by omega, List.drop_zero]
        rw [d1, d2]
        by_cases hle : a + y.n ≤ t
        · rw [Nat.min_eq_left hle, show a + y.n - a = y.n by omega, List.take_append (i := t - f)]
          rw [List.drop_eq_nil_of_le (by omega : B.length ≤ y.n), List.nil_append, List.length_drop, eB]
          congr 1
          · rw [List.take_of_length_le (by rw [List.length_drop]; omega), List.take_of_length_le (by rw [List.length_drop]; omega)]
          · congr 1; omega
        · rw [Nat.min_eq_right (by omega), show t - t = 0 by omega, List.take_zero, List.append_nil, List.take_append_of_le_length (by rw [List.length_drop]; omega)]
          congr 1; omega
    · rw [if_neg h]
      refine ⟨fun z hz => (by cases hz), by rw [sumN_nil]; omega, fun old ho => ?_⟩
      rw [show t - f = 0 by omega]; rfl
theorem pieces_right {bef : Nat} {l : List Pt} (hl : ∀ y ∈ l, PtR bef y) {x : Pt} (hx : x.frm + x.n ≤ sumN l) : (∀ z ∈ piecesP l x, PtR bef z) ∧ sumN (piecesP l x) = x.n ∧ ∀ old, old.length = bef → tells (piecesP l x) old = ((tells l old).drop x.frm).take x.n := by
  obtain ⟨h1, h2, h3⟩ := fstI_spec l x.frm
  have := wthn_right hl hx l.length (fstI l x.frm) x.frm (by omega) h1 (fun h => ⟨h2, h3 (by omega)⟩) (by omega)
  rw [show x.frm + x.n - x.frm = x.n by omega] at this
  exact this
theorem behB_last (l : List Pt) (a : Pt) (lay : Bool) (f : Nat) (h : l.getLast? = some a) : behB l lay f = if a.lay && lay then false else a.lay || lay || (a.frm + a.n != f) := by
  unfold behB; rw [h]
theorem goB_beh (l : List Pt) (a x : Pt) (h : l.getLast? = some a) : behB l x.lay x.frm = !goB a x := by
  rw [behB_last l a _ _ h]
  unfold goB
  by_cases h1 : a.lay = true
  · simp only [h1, Bool.true_and, if_true, Bool.true_or]
    cases x.lay <;> rfl
  · have h1' : a.lay = false := by simpa using h1
    simp only [h1', Bool.false_and, Bool.false_eq_true, if_false, Bool.false_or]
    cases x.lay
    · simp only [Bool.false_or, Bool.not_false, Bool.true_and, bne]
      rw [Bool.beq_comm]
    · rfl
/-- What joining a part keeps. -/
theorem joinP_right {bef : Nat} {l : List Pt} {x : Pt} (hl : ∀ y ∈ l, PtR bef y) (hb : Beh l) (hx : PtR bef x) : (∀ y ∈ joinP l x, PtR bef y) ∧ Beh (joinP l x) ∧ sumN (joinP l x) = sumN l + x.n ∧ ∀ old, tells (joinP l x) old = tells l old ++ ptB old x := by
  have plain : (behB l x.lay x.frm = true) → (∀ y ∈ l ++ [x], PtR bef y) ∧ Beh (l ++ [x]) ∧ sumN (l ++ [x]) = sumN l + x.n ∧ ∀ old, tells (l ++ [x]) old = tells l old ++ ptB old x := fun h => by
    refine ⟨fun y hy => ?_, beh_snoc hb h, by rw [sumN_app, sumN_cons, sumN_nil]; omega, fun old => by rw [tells_app, tells_one]⟩
    rcases List.mem_append.1 hy with hy | hy
    · exact hl y hy
    · rw [List.mem_singleton] at hy; subst hy; exact hx
  unfold joinP
  split
  · rename_i h
    refine plain ?_
    unfold behB; rw [h]
  · rename_i a h
    have hg := goB_beh l a x h
    split
    · rename_i hgo
      have hle : l = l.dropLast ++ [a] := by
        rw [List.getLast?_eq_some_iff] at h
        obtain ⟨ys, rfl⟩ := h
        rw [List.dropLast_concat]
      generalize l.dropLast = m at *
      subst hle
      have ha := hl a (by simp)
      have hap := ha.pos
      have hxp := hx.pos
      have hbm : Beh m := fun k y hk => by
        have hkl := (List.getElem?_eq_some_iff.1 hk).1
        have := hb k y (by rw [List.getElem?_append_left hkl]; exact hk)
        rwa [List.take_append_of_le_length (by omega)] at this
      have hba : behB m a.lay a.frm = true := by
        have := hb m.length a (by rw [List.getElem?_append_right (Nat.le_refl _)]; simp)
        rwa [List.take_append_of_le_length (Nat.le_refl _), List.take_of_length_le (Nat.le_refl _)] at this
      have hfl : (asOneP a x).lay = a.lay ∧ (asOneP a x).frm = a.frm ∧ (asOneP a x).n = a.n + x.n ∧ PtR bef (asOneP a x) ∧ ∀ old, ptB old (asOneP a x) = ptB old a ++ ptB old x := by
        unfold goB at hgo
        unfold asOneP ptB
        by_cases h1 : a.lay = true
        · simp only [h1, if_true] at hgo ⊢
          obtain ⟨q1, q2⟩ := ha.lay h1
          obtain ⟨q3, q4⟩ := hx.lay hgo
          refine ⟨trivial, q2.symm, trivial, ⟨by simp only; omega, fun _ => ⟨by simp only [List.length_append]; omega, rfl⟩, fun h => (by cases h)⟩, fun old => ?_⟩
          simp [hgo]
        · simp only [h1, if_false, Bool.false_eq_true] at hgo ⊢
          have hxl : x.lay = false := by cases hh : x.lay <;> simp [hh] at hgo ⊢
          have hxf : x.frm = a.frm + a.n := by simpa [hxl] using hgo
          have h1' : a.lay = false := by simpa using h1
          obtain ⟨q1, q2⟩ := ha.cpy h1'
          obtain ⟨q3, q4⟩ := hx.cpy hxl
          refine ⟨trivial, trivial, trivial, ⟨by simp only; omega, fun h => (by cases h), fun _ => ⟨rfl, by simp only; omega⟩⟩, fun old => ?_⟩
          simp only [hxl, if_false, Bool.false_eq_true]
          rw [hxf, List.take_add, List.drop_drop]
      obtain ⟨f1, f2, f3, f4, f5⟩ := hfl
      refine ⟨fun y hy => ?_, beh_snoc hbm (by rw [f1, f2]; exact hba), ?_, fun old => ?_⟩
      · rcases List.mem_append.1 hy with hy | hy
        · exact hl y (List.mem_append_left _ hy)
        · rw [List.mem_singleton] at hy; subst hy; exact f4
      · rw [sumN_app, sumN_app, sumN_cons, sumN_cons, sumN_nil, f3]; omega
      · rw [tells_app, tells_app, tells_one, tells_one, f5, List.append_assoc]
    · rename_i hgo
      refine plain ?_
      rw [hg]; simpa using hgo
theorem foldl_right {bef : Nat} : ∀ (zs l : List Pt), (∀ y ∈ l, PtR bef y) → Beh l → (∀ z ∈ zs, PtR bef z) → (∀ y ∈ zs.foldl joinP l, PtR bef y) ∧ Beh (zs.foldl joinP l) ∧ sumN (zs.foldl joinP l) = sumN l + sumN zs ∧ ∀ old, tells (zs.foldl joinP l) old = tells l old ++ tells zs old
  | [], l, h1, h2, _ => ⟨h1, h2, rfl, fun old => by simp [tells]⟩
  | z :: zs, l, h1, h2, h3 => by
    obtain ⟨k1, k2, k3, k4⟩ := joinP_right h1 h2 (h3 z (List.mem_cons_self ..))
    obtain ⟨g1, g2, g3, g4⟩ := foldl_right zs (joinP l z) k1 k2 fun y hy => h3 y (List.mem_cons_of_mem _ hy)
    refine ⟨g1, g2, by rw [List.foldl_cons, g3, k3, sumN_cons]; omega, fun old => ?_⟩
    rw [List.foldl_cons, g4, k4]
    simp [tells]
/-- What a part told through others is. -/
theorem thrP_right {bef : Nat} {first : List Pt} (hf : ∀ y ∈ first, PtR bef y) {l : List Pt} {x : Pt} (h1 : ∀ y ∈ l, PtR bef y) (h2 : Beh l) (hx : PtR (sumN first) x) : (∀ y ∈ thrP first l x, PtR bef y) ∧ Beh (thrP first l x) ∧ sumN (thrP first l x) = sumN l + x.n ∧ ∀ old, old.length = bef → tells (thrP first l x) old = tells l old ++ ptB (tells first old) x := by
  unfold thrP
  split
  · rename_i hl
    have hx' : PtR bef x := ⟨hx.pos, hx.lay, fun h => by rw [hl] at h; cases h⟩
    obtain ⟨k1, k2, k3, k4⟩ := joinP_right h1 h2 hx'
    exact ⟨k1, k2, k3, fun old ho => by rw [k4]; simp [ptB, hl]⟩
  · rename_i hl
    have hl' : x.lay = false := by simpa using hl
    obtain ⟨p1, p2, p3⟩ := pieces_right hf (hx.cpy hl').2
    obtain ⟨g1, g2, g3, g4⟩ := foldl_right (piecesP first x) l h1 h2 p1
    exact ⟨g1, g2, by rw [g3, p2], fun old ho => by rw [g4, p3 old ho]; simp [ptB, hl']⟩
theorem through_right {bef : Nat} {first : List Pt} (hf : ∀ y ∈ first, PtR bef y) : ∀ (second l : List Pt), (∀ y ∈ l, PtR bef y) → Beh l → (∀ x ∈ second, PtR (sumN first) x) → (∀ y ∈ second.foldl (thrP first) l, PtR bef y) ∧ Beh (second.foldl (thrP first) l) ∧ sumN (second.foldl (thrP first) l) = sumN l + sumN second ∧ ∀ old, old.length = bef → tells (second.foldl (thrP first) l) old = tells l old ++ tells second (tells first old)
  | [], l, h1, h2, _ => ⟨h1, h2, rfl, fun old _ => by simp [tells]⟩
  | z :: zs, l, h1, h2, h3 => by
    obtain ⟨k1, k2, k3, k4⟩ := thrP_right hf h1 h2 (h3 z (List.mem_cons_self ..))
    obtain ⟨g1, g2, g3, g4⟩ := through_right hf zs (thrP first l z) k1 k2 fun y hy => h3 y (List.mem_cons_of_mem _ hy)
    refine ⟨g1, g2, by rw [List.foldl_cons, g3, k3, sumN_cons]; omega, fun old ho => ?_⟩
    rw [List.foldl_cons, g4 old ho, k4 old ho]
    simp [tells]
end Go.Proofs.YtdfbfheceobboaaDoor
