
import Derived.Test.YtdfbfheceobboaaDoorP25Wr
/-! How a patch is put together, and read back, as data. -/
namespace Go.Proofs.YtdfbfheceobboaaDoor
open Go.RowKit
set_option linter.unusedVariables false

/-- A part's bytes in a patch. -/
def putB (y : Pt) : List By := if y.lay then 2#8 :: (le4 y.n ++ y.b) else 1#8 :: (le4 y.frm ++ le4 y.n)
def putL (l : List Pt) : List By := l.flatMap putB
def headB (o n : List By) (b a : Nat) : List By := hd5 ++ o ++ n ++ (le4 b ++ le4 a)
def sumN (l : List Pt) : Nat := (l.map Pt.n).sum
/-- A part that may stand in a patch. -/
structure PtR (bef : Nat) (y : Pt) : Prop where
  pos : 1 ≤ y.n
  lay : y.lay = true → y.b.length = y.n ∧ y.frm = 0
  cpy : y.lay = false → y.b = [] ∧ y.frm + y.n ≤ bef
/-- Parts of which none goes on where the one ahead of it ended. -/
def Beh (l : List Pt) : Prop := ∀ k y, l[k]? = some y → behB (l.take k) y.lay y.frm = true
theorem sumN_nil : sumN [] = 0 := rfl
theorem sumN_cons (y : Pt) (l : List Pt) : sumN (y :: l) = y.n + sumN l := by simp [sumN]
theorem sumN_app (l m : List Pt) : sumN (l ++ m) = sumN l + sumN m := by simp [sumN]
theorem putL_app (l m : List Pt) : putL (l ++ m) = putL l ++ putL m := by simp [putL]
theorem putL_cons (y : Pt) (l : List Pt) : putL (y :: l) = putB y ++ putL l := by simp [putL]
theorem headB_len {o n : List By} (ho : o.length = 32) (hn : n.length = 32) (b a : Nat) : (headB o n b a).length = 77 := by
  simp [headB, hd5, le4_len, ho, hn]
theorem sE_all {p : List By} (h5 : ∀ j, j < 5 → p.getD j 0 = hd5.getD j 0) (h72 : num4 (p.drop 69) ≤ 524288) : ∀ (k i : Nat), i + k ≤ p.length → sE p i k = none
  | 0, i, _ => rfl
  | k + 1, i, h => by
    rw [sE, if_neg (by omega), if_neg (fun hh => hh.2 (h5 i hh.1)), if_neg (fun hh => by omega)]
    exact sE_all h5 h72 k (i + 1) (by omega)
theorem drop_two {α : Type} (A B : List α) (n : Nat) (h : A.length = n) (k : Nat) : (A ++ B).drop (n + k) = B.drop k := by
  subst h; rw [List.drop_append, List.drop_eq_nil_of_le (by omega), List.nil_append]; congr 1; omega
theorem head_drop {o n : List By} (ho : o.length = 32) (hn : n.length = 32) (b a : Nat) (R : List By) :
    (headB o n b a ++ R).drop 5 = o ++ (n ++ (le4 b ++ (le4 a ++ R))) ∧ (headB o n b a ++ R).drop 37 = n ++ (le4 b ++ (le4 a ++ R)) ∧ (headB o n b a ++ R).drop 69 = le4 b ++ (le4 a ++ R) ∧ (headB o n b a ++ R).drop 73 = le4 a ++ R ∧ (headB o n b a ++ R).drop 77 = R := by
  have e : headB o n b a ++ R = hd5 ++ (o ++ (n ++ (le4 b ++ (le4 a ++ R)))) := by simp [headB]
  have e5 : (headB o n b a ++ R).drop 5 = o ++ (n ++ (le4 b ++ (le4 a ++ R))) := by
    rw [e]; have := drop_two hd5 (o ++ (n ++ (le4 b ++ (le4 a ++ R)))) 5 rfl 0; simpa using this
  have step : ∀ (A B : List By) (p : List By) (x k : Nat), p.drop x = A ++ B → A.length = k → p.drop (x + k) = B := fun A B p x k h hk => by
    rw [← List.drop_drop, h]; have := drop_two A B k hk 0; simpa using this
  have e37 := step _ _ _ _ _ e5 ho
  have e69 := step _ _ _ _ _ e37 hn
  have e73 := step _ _ _ _ _ e69 (le4_len b)
  exact ⟨e5, e37, e69, e73, step _ _ _ _ _ e73 (le4_len a)⟩
theorem startR_head {o n : List By} (ho : o.length = 32) (hn : n.length = 32) {b a : Nat} (hb : b ≤ 524288) (ha : a ≤ 524288) (R : List By) : startR (headB o n b a ++ R) = .ok ⟨o, n, b, a, []⟩ := by
  obtain ⟨e5, e37, e69, e73, _⟩ := head_drop ho hn b a R
  have n1 : num4 ((headB o n b a ++ R).drop 69) = b := by rw [e69, num4_le4 _ (by omega)]
  have n2 : num4 ((headB o n b a ++ R).drop 73) = a := by rw [e73, num4_le4 _ (by omega)]
  have hs : sE (headB o n b a ++ R) 0 77 = none := by
    refine sE_all (fun j hj => ?_) (by rw [n1]; exact hb) 77 0 ?_
    · have e : headB o n b a ++ R = hd5 ++ (o ++ (n ++ (le4 b ++ (le4 a ++ R)))) := by simp [headB]
      rw [e]
      have : j < hd5.length := hj
      rw [List.getD_eq_getElem?_getD, List.getElem?_append_left this, List.getD_eq_getElem?_getD]
    · rw [List.length_append, headB_len ho hn]; omega
  unfold startR
  rw [hs]
  simp only
  rw [n2, if_neg (by omega), e5, e37, n1]
  congr 2
  · rw [List.take_append_of_le_length (by omega), List.take_of_length_le (by omega)]
  · rw [List.take_append_of_le_length (by omega), List.take_of_length_le (by omega)]
theorem getD_drop0 (p : List By) (a : Nat) : p.getD a 0 = (p.drop a).getD 0 0 := by
  simp [List.getD_eq_getElem?_getD, List.getElem?_drop]
theorem partR_put {bef aft : Nat} {pre : List Pt} {p : List By} {a hv : Nat} {y : Pt} {T : List By} (hp : p.drop a = putB y ++ T) (hy : PtR bef y) (hb : bef ≤ 524288) (ha : aft ≤ 524288) (hs : hv + y.n ≤ aft) (hbe : behB pre y.lay y.frm = true) :
    partR bef aft pre p a hv = .ok (y, a + (putB y).length) := by
  have hpos := hy.pos
  have hl : p.length = a + (putB y ++ T).length := by
    have h1 : (putB y ++ T).length = p.length - a := by rw [← hp, List.length_drop]
    have h2 : 0 < (putB y ++ T).length := by
      rw [List.length_append]; unfold putB; split <;> simp <;> omega
    omega
  have hd : ∀ k, p.drop (a + k) = (putB y ++ T).drop k := fun k => by rw [← hp, List.drop_drop]
  obtain ⟨lay, frm, n, b⟩ := y
  cases lay with
  | true =>
    obtain ⟨h1, h2⟩ := hy.lay rfl
    simp only at h1 h2 hbe hs hpos
    subst h2
    have hP : putB ⟨true, 0, n, b⟩ = 2#8 :: (le4 n ++ b) := rfl
    rw [hP] at hd hl
    have c : (p.getD a 0).toNat = 2 := by rw [getD_drop0, hp, hP]; rfl
    have e1 : num4 (p.drop (a + 1)) = n := by
      rw [hd 1, List.cons_append, List.drop_succ_cons, List.drop_zero, List.append_assoc, num4_le4 _ (by omega)]
    have e5 : (p.drop (a + 5)).take n = b := by
      rw [hd 5]
      show List.take n ((b ++ T)) = b
      rw [List.take_append_of_le_length (by omega), List.take_of_length_le (by omega)]
    have hl2 : p.length = a + 5 + n + T.length := by rw [hl]; simp [le4_len]; omega
    unfold partR
    simp only [c, nxt, frmOf]
    rw [if_neg (by omega), if_neg (by omega)]
    simp only [if_true]
    rw [show a + 5 - 4 = a + 1 by omega, e1, if_neg (by omega), if_neg, if_neg (by omega), e5]
    · rw [hP]; congr 2; simp [le4_len]; omega
    · simp only [decide_true, hbe]; rintro (h | h | h | h)
      · omega
      · omega
      · omega
      · cases h
  | false =>
    obtain ⟨h1, h2⟩ := hy.cpy rfl
    simp only at h1 h2 hbe hs hpos
    subst h1
    have hP : putB ⟨false, frm, n, []⟩ = 1#8 :: (le4 frm ++ le4 n) := rfl
    rw [hP] at hd hl
    have c : (p.getD a 0).toNat = 1 := by rw [getD_drop0, hp, hP]; rfl
    have e1 : num4 (p.drop (a + 1)) = frm := by
      rw [hd 1, List.cons_append, List.drop_succ_cons, List.drop_zero, List.append_assoc, num4_le4 _ (by omega)]
    have e5 : num4 (p.drop (a + 5)) = n := by
      rw [hd 5]
      show num4 (le4 n ++ T) = n
      rw [num4_le4 _ (by omega)]
    have hl2 : p.length = a + 9 + T.length := by rw [hl]; simp [le4_len]; omega
    unfold partR
    simp only [c, nxt, frmOf]
    rw [if_neg (by omega), if_neg (by omega)]
    simp only [show ¬ (1 : Nat) = 2 by omega, if_false]
    rw [show a + 9 - 4 = a + 5 by omega, e1, e5, if_neg (by omega), if_neg]
    · rw [hP]; congr 2
    · simp only [show decide False = false by rfl, hbe]; rintro (h | h | h | h)
      · omega
      · omega
      · omega
      · cases h
theorem readL_put {bef aft : Nat} {p H : List By} {l : List Pt} (hH : H.length = 77) (hp : p = H ++ putL l) (hb : bef ≤ 524288) (ha : aft ≤ 524288) (hy : ∀ y ∈ l, PtR bef y) (hbe : Beh l) (hsum : sumN l = aft) :
    ∀ (rest pre : List Pt) (k : Nat), l = pre ++ rest → sumN rest ≤ k → readL bef aft p k (77 + (putL pre).length) (sumN pre) pre = .ok (l, p.length)
  | [], pre, k, hl, hk => by
    rw [List.append_nil] at hl
    subst hl
    have e : 77 + (putL l).length = p.length := by rw [hp, List.length_append, hH]
    rw [e]
    cases k with
    | zero => rfl
    | succ k => rw [readL, if_pos (by omega)]
  | y :: ys, pre, k, hl, hk => by
    have hym : y ∈ l := by rw [hl]; simp
    have hR := hy y hym
    have hpos := hR.pos
    rw [sumN_cons] at hk
    have hs2 : sumN pre + (y.n + sumN ys) = aft := by rw [← hsum, hl, sumN_app, sumN_cons]
    cases k with
    | zero => omega
    | succ k =>
      rw [readL, if_neg (by omega)]
      have hd : p.drop (77 + (putL pre).length) = putB y ++ putL ys := by
        rw [hp, drop_two H _ 77 hH, hl, putL_app, putL_cons]
        simp
      have hbb : behB pre y.lay y.frm = true := by
        have := hbe pre.length y (by rw [hl, List.getElem?_append_right (Nat.le_refl _)]; simp)
        rw [hl, List.take_append_of_le_length (Nat.le_refl _), List.take_of_length_le (Nat.le_refl _)] at this
        exact this
      rw [partR_put hd hR hb ha (by omega) hbb]
      simp only
      have e1 : 77 + (putL pre).length + (putB y).length = 77 + (putL (pre ++ [y])).length := by rw [putL_app, putL_cons]; simp [putL]; omega
      have e2 : sumN pre + y.n = sumN (pre ++ [y]) := by rw [sumN_app, sumN_cons, sumN_nil]; omega
      rw [e1, e2]
      exact readL_put hH hp hb ha hy hbe hsum ys (pre ++ [y]) k (by rw [hl]; simp) (by omega)
/-- There and back: what is put is read as what it was put of. -/
theorem readR_put (x : PX) (ho : x.old.length = 32) (hn : x.new.length = 32) (hb : x.before ≤ 524288) (ha : x.after ≤ 524288) (hy : ∀ y ∈ x.l, PtR x.before y) (hbe : Beh x.l) (hsum : sumN x.l = x.after) :
    readR (headB x.old x.new x.before x.after ++ putL x.l) = .ok x := by
  have h1 := startR_head ho hn hb ha (putL x.l)
  have h2 := readL_put (headB_len ho hn x.before x.after) rfl hb ha hy hbe hsum x.l [] x.after rfl (by omega)
  unfold readR
  rw [h1]
  simp only
  have e : 77 + (putL []).length = 77 := rfl
  rw [e, sumN_nil] at h2
  rw [h2]
  simp only
  rw [if_neg (by omega)]
theorem putB_le (y : Pt) (bef : Nat) (h : PtR bef y) : (putB y).length ≤ 10 * y.n ∧ (putB y).length = if y.lay then 5 + y.n else 9 := by
  have := h.pos
  unfold putB
  split
  · rename_i hl
    have := (h.lay hl).1
    simp [le4_len, this]; omega
  · simp [le4_len]; omega
theorem putL_le (bef : Nat) : ∀ l : List Pt, (∀ y ∈ l, PtR bef y) → (putL l).length ≤ 10 * sumN l
  | [], _ => by simp [putL]
  | y :: ys, h => by
    have h1 := (putB_le y bef (h y (List.mem_cons_self ..))).1
    have h2 := putL_le bef ys fun z hz => h z (List.mem_cons_of_mem _ hz)
    rw [putL_cons, sumN_cons, List.length_append]; omega
end Go.Proofs.YtdfbfheceobboaaDoor
