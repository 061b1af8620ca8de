
import Derived.Test.YtgpnbiaghokjkaaDoorD21Math
/-! Chips as text: there and back (W7). -/
namespace Go.Proofs.YtgpnbiaghokjkaaDoor
open Go.RowKit
set_option linter.unusedVariables false
set_option linter.unusedSimpArgs false

theorem lineOf_app : ∀ (l r : List By), 10#8 ∉ l → lineOf (l ++ 10#8 :: r) = some (l, r)
  | [], r, _ => by rw [List.nil_append, lineOf, if_pos rfl]
  | x :: l, r, h => by
    rw [List.cons_append, lineOf, if_neg (fun e => h (by rw [e]; exact List.mem_cons_self ..)), lineOf_app l r (fun hm => h (List.mem_cons_of_mem _ hm))]
theorem lineOf_some : ∀ (t l r : List By), lineOf t = some (l, r) → t = l ++ 10#8 :: r ∧ 10#8 ∉ l
  | [], l, r, h => by cases h
  | x :: t, l, r, h => by
    rw [lineOf] at h
    split at h
    · rename_i hx
      injection h with h; injection h with h1 h2
      subst h1 h2 hx
      exact ⟨rfl, by simp⟩
    · rename_i hx
      split at h
      · rename_i a b hb
        injection h with h; injection h with h1 h2
        subst h1 h2
        obtain ⟨e, hn⟩ := lineOf_some t a b hb
        refine ⟨by rw [e]; rfl, fun hm => ?_⟩
        rcases List.mem_cons.1 hm with hm | hm
        · exact hx hm.symm
        · exact hn hm
      · cases h

theorem wordsL_one : ∀ (w : List By), 32#8 ∉ w → wordsL w = [w]
  | [], _ => rfl
  | x :: w, h => by
    rw [wordsL, if_neg (fun e => h (by rw [e]; exact List.mem_cons_self ..)), wordsL_one w (fun hm => h (List.mem_cons_of_mem _ hm))]
theorem wordsL_app : ∀ (w r : List By), 32#8 ∉ w → wordsL (w ++ 32#8 :: r) = w :: wordsL r
  | [], r, _ => by rw [List.nil_append, wordsL, if_pos rfl]
  | x :: w, r, h => by
    rw [List.cons_append, wordsL, if_neg (fun e => h (by rw [e]; exact List.mem_cons_self ..)), wordsL_app w r (fun hm => h (List.mem_cons_of_mem _ hm))]
def joinL : List (List By) → List By
  | [] => []
  | w :: ws => w ++ ws.flatMap fun x => 32#8 :: x
theorem wordsL_join : ∀ (l : List By), wordsL l ≠ [] ∧ joinL (wordsL l) = l
  | [] => ⟨by simp [wordsL], rfl⟩
  | x :: l => by
    obtain ⟨h1, h2⟩ := wordsL_join l
    rw [wordsL]
    split
    · rename_i hx
      refine ⟨by simp, ?_⟩
      cases hw : wordsL l with
      | nil => exact absurd hw h1
      | cons w ws =>
        rw [hw] at h2
        rw [joinL, List.nil_append, List.flatMap_cons]
        rw [joinL] at h2
        rw [List.cons_append, h2, hx]
    · cases hw : wordsL l with
      | nil => exact absurd hw h1
      | cons w ws =>
        rw [hw] at h2
        refine ⟨by simp, ?_⟩
        rw [joinL] at h2 ⊢
        rw [List.cons_append, h2]

theorem dg_nat (n : Nat) : (dg n).toNat = 48 + n % 10 := by unfold dg; rw [BitVec.toNat_ofNat]; omega
theorem numF_byte : ∀ (k n : Nat), ∀ b ∈ numF k n, 48 ≤ b.toNat ∧ b.toNat ≤ 57
  | 0, n, b, h => by
    rw [numF] at h
    obtain rfl := List.mem_singleton.1 h
    rw [dg_nat]; omega
  | k + 1, n, b, h => by
    rw [numF] at h
    split at h
    · obtain rfl := List.mem_singleton.1 h
      rw [dg_nat]; omega
    · rcases List.mem_append.1 h with h | h
      · exact numF_byte k _ b h
      · obtain rfl := List.mem_singleton.1 h
        rw [dg_nat]; omega
theorem num_no (n : Nat) : 10#8 ∉ num n ∧ 32#8 ∉ num n := by
  refine ⟨fun h => ?_, fun h => ?_⟩
  · have := (numF_byte 20 n _ h).1; revert this; decide
  · have := (numF_byte 20 n _ h).1; revert this; decide
theorem numF_fold : ∀ (k n : Nat), n < 10 ^ (k + 1) → (numF k n).foldl (fun n c => 10 * n + c.toNat % 16) 0 = n
  | 0, n, h => by
    rw [numF, List.foldl_cons, List.foldl_nil, dg_nat]; omega
  | k + 1, n, h => by
    rw [numF]
    split
    · rw [List.foldl_cons, List.foldl_nil, dg_nat]; omega
    · rw [List.foldl_append, numF_fold k (n / 10) (by rw [Nat.pow_succ] at h; omega), List.foldl_cons, List.foldl_nil, dg_nat]
      omega
theorem numF_len : ∀ (k n j : Nat), j ≤ k → n < 10 ^ (j + 1) → 0 < (numF k n).length ∧ (numF k n).length ≤ j + 1
  | 0, n, j, hj, h => by rw [numF]; simp
  | k + 1, n, j, hj, h => by
    rw [numF]
    split
    · simp
    · cases j with
      | zero => omega
      | succ j =>
        have := numF_len k (n / 10) j (by omega) (by rw [Nat.pow_succ] at h; omega)
        rw [List.length_append, List.length_singleton]; omega
theorem val_num (n : Nat) (h : n ≤ 2147483647) : val? (num n) = some n := by
  obtain ⟨l1, l2⟩ := numF_len 20 n 9 (by omega) (by omega)
  have e : valN (num n) = n := by
    unfold valN num
    rw [List.take_of_length_le (by omega)]
    exact numF_fold 20 n (by omega)
  unfold val?
  rw [e, if_pos ⟨l1, by show (num n).length < 11; unfold num; omega, h, rfl⟩]
theorem val_some {w : List By} {n : Nat} (h : val? w = some n) : w = num n ∧ n ≤ 2147483647 := by
  unfold val? at h
  split at h
  · rename_i hh
    injection h with h
    subst h
    exact ⟨hh.2.2.2.symm, hh.2.2.1⟩
  · cases h
theorem vals_num : ∀ (l : List Nat), (∀ n ∈ l, n ≤ 2147483647) → vals? (l.map num) = some l
  | [], _ => rfl
  | n :: l, h => by
    rw [List.map_cons, vals?, val_num n (h n (List.mem_cons_self ..)), vals_num l (fun m hm => h m (List.mem_cons_of_mem _ hm))]
theorem vals_some : ∀ (ws : List (List By)) (l : List Nat), vals? ws = some l → ws = l.map num ∧ ∀ n ∈ l, n ≤ 2147483647
  | [], l, h => by injection h with h; subst h; exact ⟨rfl, by simp⟩
  | w :: ws, l, h => by
    rw [vals?] at h
    split at h
    · rename_i n hn
      split at h
      · rename_i l' hl
        injection h with h
        subst h
        obtain ⟨e1, e2⟩ := val_some hn
        obtain ⟨e3, e4⟩ := vals_some ws l' hl
        refine ⟨by rw [List.map_cons, ← e1, ← e3], fun m hm => ?_⟩
        rcases List.mem_cons.1 hm with rfl | hm
        · exact e2
        · exact e4 m hm
      · cases h
    · cases h
theorem nums_words : ∀ (l : List Nat), ∀ w, 32#8 ∉ w → wordsL (w ++ numsL l) = w :: l.map num
  | [], w, h => by rw [numsL, List.flatMap_nil, List.append_nil, wordsL_one w h]; rfl
  | n :: l, w, h => by
    have ih := nums_words l (num n) (num_no n).2
    have e : numsL (n :: l) = 32#8 :: (num n ++ numsL l) := by unfold numsL; rw [List.flatMap_cons]; rfl
    rw [e, wordsL_app w _ h, ih]; rfl
theorem values_nums (l : List Nat) (w : List By) (h : 32#8 ∉ w) (hl : ∀ n ∈ l, n ≤ 2147483647) : values? (w ++ numsL l) w = some l := by
  unfold values?
  rw [nums_words l w h]
  show (if w = w then vals? (l.map num) else none) = some l
  rw [if_pos rfl, vals_num l hl]
theorem join_nums (w : List By) (l : List Nat) : joinL (w :: l.map num) = w ++ numsL l := by
  show w ++ (l.map num).flatMap (fun x => 32#8 :: x) = w ++ numsL l
  rw [List.flatMap_map]; rfl
theorem values_some {l word : List By} {v : List Nat} (h : values? l word = some v) : l = word ++ numsL v ∧ ∀ n ∈ v, n ≤ 2147483647 := by
  unfold values? at h
  obtain ⟨_, hj⟩ := wordsL_join l
  split at h
  · rename_i w ws hw
    split at h
    · rename_i e
      subst e
      obtain ⟨e1, e2⟩ := vals_some ws v h
      rw [hw, e1, join_nums] at hj
      exact ⟨hj.symm, e2⟩
    · cases h
  · cases h
theorem hx_facts : ∀ n, n < 16 → hv (hx n) = some n ∧ hx n ≠ 10#8 ∧ hx n ≠ 32#8 := by decide +kernel
theorem ofNat_self (c : By) : BitVec.ofNat 8 c.toNat = c := BitVec.eq_of_toNat_eq (by rw [BitVec.toNat_ofNat]; have := c.isLt; omega)
theorem hv_facts : ∀ c : By, ∀ n, hv c = some n → n < 16 ∧ hx n = c := by
  intro c n h
  unfold hv at h
  split at h
  · injection h with h; subst h
    refine ⟨by omega, ?_⟩
    unfold hx
    rw [if_pos (by omega), show 48 + (c.toNat - 48) = c.toNat by omega]
    exact ofNat_self c
  · split at h
    · injection h with h; subst h
      refine ⟨by omega, ?_⟩
      unfold hx
      rw [if_neg (by omega), show 87 + (c.toNat - 87) = c.toNat by omega]
      exact ofNat_self c
    · cases h
theorem unhex_hexC : ∀ (x : List By), unhex (hexC x) = some x
  | [] => rfl
  | a :: x => by
    have ha := a.isLt
    have e : hexC (a :: x) = hx (a.toNat / 16) :: hx (a.toNat % 16) :: hexC x := rfl
    rw [e, unhex, (hx_facts _ (by omega)).1, (hx_facts _ (by omega)).1, unhex_hexC x]
    show some (BitVec.ofNat 8 (16 * (a.toNat / 16) + a.toNat % 16) :: x) = _
    rw [Nat.div_add_mod]
    rw [ofNat_self]
theorem unhex_some : ∀ (l x : List By), unhex l = some x → hexC x = l ∧ l.length = 2 * x.length
  | [], x, h => by injection h with h; subst h; exact ⟨rfl, rfl⟩
  | [a], x, h => by cases h
  | a :: b :: r, x, h => by
    rw [unhex] at h
    split at h
    · rename_i m n l hm hn hl
      injection h with h
      subst h
      obtain ⟨e1, e2⟩ := unhex_some r l hl
      obtain ⟨m1, m2⟩ := hv_facts a m hm
      obtain ⟨n1, n2⟩ := hv_facts b n hn
      refine ⟨?_, by simp only [List.length_cons]; omega⟩
      have e : hexC (BitVec.ofNat 8 (16 * m + n) :: l) = hx ((BitVec.ofNat 8 (16 * m + n)).toNat / 16) :: hx ((BitVec.ofNat 8 (16 * m + n)).toNat % 16) :: hexC l := rfl
      have e3 : (BitVec.ofNat 8 (16 * m + n)).toNat = 16 * m + n := by rw [BitVec.toNat_ofNat]; omega
      rw [e, e3, show (16 * m + n) / 16 = m by omega, show (16 * m + n) % 16 = n by omega, m2, n2, e1]
    · cases h
theorem hexC_len : ∀ (x : List By), (hexC x).length = 2 * x.length
  | [] => rfl
  | a :: x => by
    have e : hexC (a :: x) = hx (a.toNat / 16) :: hx (a.toNat % 16) :: hexC x := rfl
    rw [e, List.length_cons, List.length_cons, hexC_len x, List.length_cons]; omega
theorem hexC_no : ∀ (x : List By), 10#8 ∉ hexC x ∧ 32#8 ∉ hexC x
  | [] => by simp [hexC]
  | a :: x => by
    have ha := a.isLt
    have e : hexC (a :: x) = hx (a.toNat / 16) :: hx (a.toNat % 16) :: hexC x := rfl
    have h1 := (hx_facts (a.toNat / 16) (by omega)).2
    have h2 := (hx_facts (a.toNat % 16) (by omega)).2
    obtain ⟨h3, h4⟩ := hexC_no x
    rw [e]
    refine ⟨?_, ?_⟩
    · simp only [List.mem_cons, not_or]; exact ⟨h1.1.symm, h2.1.symm, h3⟩
    · simp only [List.mem_cons, not_or]; exact ⟨h1.2.symm, h2.2.symm, h4⟩

/-- A cell's line, without its line feed. -/
def cellW (i : Nat) (x : List By) : List By := wCell ++ 32#8 :: (num i ++ 32#8 :: hexC x)
theorem cellL_eq (i : Nat) (x : List By) : cellL i x = cellW i x ++ [10#8] := by simp [cellL, cellW]
theorem cellW_words (i : Nat) (x : List By) : wordsL (cellW i x) = [wCell, num i, hexC x] := by
  unfold cellW
  rw [wordsL_app _ _ (by decide), wordsL_app _ _ (num_no i).2, wordsL_one _ (hexC_no x).2]
theorem one_cell (i : Nat) (x : List By) (hi : i ≤ 2147483647) (hx : x.length = 32) (hb : ¬ x = List.replicate 32 255#8) : one? (cellW i x) = some (i, x) := by
  unfold one?
  rw [cellW_words]
  show (if wCell = wCell ∧ (hexC x).length = 64 then _ else none) = _
  rw [if_pos ⟨rfl, by rw [hexC_len, hx]⟩, val_num i hi, unhex_hexC]
  show (if x = List.replicate 32 255#8 then none else some (i, x)) = _
  rw [if_neg hb]
theorem one_some {l : List By} {n : Nat} {x : List By} (h : one? l = some (n, x)) : l = cellW n x ∧ x.length = 32 ∧ ¬ x = List.replicate 32 255#8 ∧ n ≤ 2147483647 := by
  unfold one? at h
  obtain ⟨_, hj⟩ := wordsL_join l
  split at h
  · rename_i w0 w1 w2 hw
    split at h
    · rename_i hh
      split at h
      · rename_i m y hm hy
        split at h
        · cases h
        · rename_i hb
          injection h with h; injection h with h1 h2
          subst h1 h2
          obtain ⟨e1, e2⟩ := val_some hm
          obtain ⟨e3, e4⟩ := unhex_some _ _ hy
          refine ⟨?_, by omega, hb, e2⟩
          rw [hw, hh.1, e1, ← e3] at hj
          rw [← hj]
          unfold joinL cellW
          simp
      · cases h
    · cases h
  · cases h
/-- The places that are true. -/
theorem mem_trues : ∀ (b : List Bool) (i j : Nat), j ∈ trues b i → i ≤ j ∧ j < i + b.length
  | [], i, j, h => by cases h
  | x :: b, i, j, h => by
    rw [trues] at h
    rw [List.length_cons]
    split at h
    · rcases List.mem_cons.1 h with rfl | h
      · omega
      · have := mem_trues b (i + 1) j h; omega
    · have := mem_trues b (i + 1) j h; omega
theorem rise_lt : ∀ (n : Nat) (l : List Nat) (last : Int), riseB n l last = true → ∀ a ∈ l, last < a ∧ a < n
  | n, [], last, _, a, h => by cases h
  | n, x :: l, last, hr, a, h => by
    rw [riseB] at hr
    simp only [Bool.and_eq_true, decide_eq_true_eq] at hr
    rcases List.mem_cons.1 h with rfl | h
    · exact ⟨hr.1.1, hr.1.2⟩
    · have := rise_lt n l x hr.2 a h
      exact ⟨by omega, this.2⟩
theorem trues_marks : ∀ (m i n : Nat) (l : List Nat) (last : Int), i + m = n → riseB n l last = true → (∀ a ∈ l, i ≤ a) → trues ((List.range' i m).map fun j => decide (j ∈ l)) i = l
  | 0, i, n, l, last, hn, hr, hi => by
    cases l with
    | nil => rfl
    | cons a l =>
      have h1 := hi a (List.mem_cons_self ..)
      have h2 := (rise_lt n _ last hr a (List.mem_cons_self ..)).2
      omega
  | m + 1, i, n, l, last, hn, hr, hi => by
    rw [List.range'_succ, List.map_cons, trues]
    cases l with
    | nil =>
      rw [if_neg (by simp)]
      exact trues_marks m (i + 1) n [] last (by omega) rfl (by simp)
    | cons a l =>
      have hra := hr
      rw [riseB] at hr
      simp only [Bool.and_eq_true, decide_eq_true_eq] at hr
      have hl := rise_lt n l a hr.2
      have ha := hi a (List.mem_cons_self ..)
      by_cases e : a = i
      · subst e
        rw [if_pos (by simp)]
        congr 1
        have ih := trues_marks m (a + 1) n l a (by omega) hr.2 (fun b hb => by have := (hl b hb).1; omega)
        refine Eq.trans ?_ ih
        congr 1
        apply List.map_congr_left
        intro j hj
        have hj' := List.mem_range'_1.1 hj
        have : (j ∈ a :: l) ↔ j ∈ l := by
          rw [List.mem_cons]
          exact ⟨fun h => h.resolve_left (by omega), .inr⟩
        rw [decide_eq_decide.2 this]
      · rw [if_neg (by
          simp only [decide_eq_true_eq, List.mem_cons, not_or]
          exact ⟨fun h => e h.symm, fun h => by have := (hl i h).1; omega⟩)]
        refine trues_marks m (i + 1) n (a :: l) last (by omega) hra (fun b hb => ?_)
        rcases List.mem_cons.1 hb with rfl | hb
        · omega
        · have := (hl b hb).1; omega
theorem trues_of (n : Nat) (l : List Nat) (h : riseB n l (-1) = true) : trues (marks n l) 0 = l := by
  unfold marks
  rw [List.range_eq_range']
  exact trues_marks n 0 n l (-1) (by omega) h (by simp)
theorem marks_len (n : Nat) (l : List Nat) : (marks n l).length = n := by simp [marks]

def bk : List By := List.replicate 32 255#8
theorem set_drop (g : List (List By)) (n : Nat) (x : List By) (hn : n < g.length) : (g.set n x).drop (n + 1) = g.drop (n + 1) := by
  rw [List.drop_set]; simp
/-- Blank cells have no lines. -/
theorem cellsL_blank : ∀ (m i : Nat) (g : List (List By)), cellsL (List.replicate m bk ++ g) i = cellsL g (i + m)
  | 0, i, g => rfl
  | m + 1, i, g => by
    rw [List.replicate_succ, List.cons_append, cellsL, if_pos (show bk = List.replicate 32 255#8 from rfl), List.nil_append, cellsL_blank m (i + 1) g]
    congr 1; omega
theorem cells_back (C : Nat) : ∀ (k : Nat) (t : List By) (ln : Nat) (j : Nat) (g g' : List (List By)) (r : List By) (ln' : Nat), j ≤ C → g.length = C → g.drop j = List.replicate (C - j) bk → (∀ x ∈ g, x.length = 32) →
    cellsP C k t ln ((j : Int) - 1) g = .ok (g', r, ln') → g'.length = C ∧ g'.take j = g.take j ∧ (∀ x ∈ g', x.length = 32) ∧ t = cellsL (g'.drop j) j ++ r
  | 0, t, ln, j, g, g', r, ln', hj, hg, hd, h32, h => by
    rw [cellsP] at h
    injection h with h; injection h with h1 h2; injection h2 with h2 h3
    subst h1 h2
    refine ⟨hg, rfl, h32, ?_⟩
    have := cellsL_blank (C - j) j []
    rw [List.append_nil] at this
    rw [hd, this]; rfl
  | k + 1, t, ln, j, g, g', r, ln', hj, hg, hd, h32, h => by
    rw [cellsP] at h
    split at h
    · split at h
      · cases h
      · rename_i l r1 hl
        split at h
        · cases h
        · rename_i n x hx
          split at h
          · cases h
          · rename_i hnn
            obtain ⟨o1, o2, o3, o4⟩ := one_some hx
            obtain ⟨t1, _⟩ := lineOf_some t l r1 hl
            have hn1 : j ≤ n := by omega
            have hn2 : n < C := by omega
            have hdn : g.drop (n + 1) = List.replicate (C - (n + 1)) bk := by
              have : g.drop (n + 1) = (g.drop j).drop (n + 1 - j) := by rw [List.drop_drop]; congr 1; omega
              rw [this, hd, List.drop_replicate]; congr 1; omega
            have ih := cells_back C k r1 (ln + 1) (n + 1) (g.set n x) g' r ln' (by omega) (by rw [List.length_set]; exact hg) (by rw [set_drop g n x (by omega)]; exact hdn) (fun y hy => by
              rcases List.mem_or_eq_of_mem_set hy with h1 | rfl
              · exact h32 y h1
              · exact o2) (by rw [show ((n + 1 : Nat) : Int) - 1 = (n : Int) by omega]; exact h)
            obtain ⟨i1, i2, i3, i4⟩ := ih
            refine ⟨i1, ?_, i3, ?_⟩
            · have e1 : (g'.take (n + 1)).take j = g'.take j := by rw [List.take_take]; congr 1; omega
              have e2 : ((g.set n x).take (n + 1)).take j = g.take j := by rw [List.take_take, show min j (n + 1) = j by omega, List.take_set_of_le (by omega)]
              rw [← e1, i2, e2]
            · have hgn : g'[n]? = some x := by
                have h1 : (g'.take (n + 1))[n]? = ((g.set n x).take (n + 1))[n]? := by rw [i2]
                rw [List.getElem?_take_of_lt (by omega), List.getElem?_take_of_lt (by omega), List.getElem?_set_self (by omega)] at h1
                exact h1
              have hgd : g'.drop j = List.replicate (n - j) bk ++ x :: g'.drop (n + 1) := by
                have e1 : (g'.drop j).take (n - j) = List.replicate (n - j) bk := by
                  have h2 : (g'.take (n + 1)).drop j = ((g.set n x).take (n + 1)).drop j := by rw [i2]
                  have h3 := congrArg (List.take (n - j)) h2
                  rw [List.drop_take, List.drop_take, List.take_take, List.take_take, show min (n - j) (n + 1 - j) = n - j by omega] at h3
                  rw [h3, List.drop_set, if_neg (by omega), List.take_set_of_le (by omega), hd, List.take_replicate]
                  congr 1; omega
                have e2 : (g'.drop j).drop (n - j) = x :: g'.drop (n + 1) := by
                  rw [List.drop_drop, show j + (n - j) = n by omega, List.drop_eq_getElem_cons (by omega)]
                  rw [List.getElem?_eq_getElem (by omega)] at hgn
                  injection hgn with hgn
                  rw [hgn]
                rw [← e1, ← e2, List.take_append_drop]
              rw [hgd, cellsL_blank, show j + (n - j) = n by omega, cellsL, if_neg o3, t1, o1, i4, cellL_eq]
              simp
    · injection h with h; injection h with h1 h2; injection h2 with h2 h3
      subst h1 h2
      refine ⟨hg, rfl, h32, ?_⟩
      have := cellsL_blank (C - j) j []
      rw [List.append_nil] at this
      rw [hd, this]; rfl

theorem headL_eq (p : Nat) (e : Int) : headL p e = (wPage ++ numsL [p, e.toNat]) ++ [10#8] := by simp [headL, numsL]
theorem page_back {C p : Nat} {t : List By} {ln : Nat} {g : List (List By)} {e : Nat} {r : List By} {ln' : Nat} (h : pageP C p t ln = .ok (g, e, r, ln')) : t = headL p (e : Int) ++ (cellsL g 0 ++ r) ∧ g.length = C ∧ (∀ x ∈ g, x.length = 32) ∧ e ≤ 2147483647 := by
  unfold pageP at h
  split at h
  · cases h
  · rename_i l r1 hl
    split at h
    · rename_i q e1 hv
      split at h
      · rename_i hq
        split at h
        · rename_i g1 r2 ln2 hc
          injection h with h; injection h with h1 h2; injection h2 with h2 h3; injection h3 with h3 h4
          subst h1 h2 h3 hq
          obtain ⟨v1, v2⟩ := values_some hv
          obtain ⟨t1, _⟩ := lineOf_some _ _ _ hl
          have := cells_back C r1.length r1 (ln + 1) 0 (List.replicate C bk) g1 r2 ln2 (by omega) (by simp) (by simp) (fun x hx => by
            rw [List.mem_replicate] at hx
            rw [hx.2]; simp [bk]) hc
          obtain ⟨c1, _, c3, c4⟩ := this
          rw [List.drop_zero] at c4
          refine ⟨?_, c1, c3, v2 e1 (by simp)⟩
          rw [t1, v1, headL_eq, c4]
          simp
        · cases h
      · cases h
    · cases h

theorem pages_back (C : Nat) : ∀ (m p : Nat) (t : List By) (ln : Nat) (gs : List (List (List By))) (es : List Int) (r : List By) (ln' : Nat), pagesP C m p t ln = .ok (gs, es, r, ln') →
    t = pagesL gs es p ++ r ∧ gs.length = m ∧ es.length = m ∧ (∀ e ∈ es, 0 ≤ e ∧ e ≤ 2147483647) ∧ ∀ g ∈ gs, g.length = C ∧ ∀ x ∈ g, x.length = 32
  | 0, p, t, ln, gs, es, r, ln', h => by
    rw [pagesP] at h
    injection h with h; injection h with h1 h2; injection h2 with h2 h3; injection h3 with h3 h4
    subst h1 h2 h3
    exact ⟨rfl, rfl, rfl, by simp, by simp⟩
  | m + 1, p, t, ln, gs, es, r, ln', h => by
    rw [pagesP] at h
    split at h
    · cases h
    · rename_i g e r1 ln2 hp
      split at h
      · cases h
      · rename_i gs1 es1 r2 ln3 hps
        injection h with h; injection h with h1 h2; injection h2 with h2 h3; injection h3 with h3 h4
        subst h1 h2 h3
        obtain ⟨a1, a2, a3, a4⟩ := page_back hp
        obtain ⟨b1, b2, b3, b4, b5⟩ := pages_back C m (p + 1) r1 ln2 gs1 es1 r2 ln3 hps
        refine ⟨?_, by simp [b2], by simp [b3], fun x hx => ?_, fun x hx => ?_⟩
        · rw [pagesL, a1, b1]
          simp only [List.headD_cons, List.tail_cons, List.append_assoc]
        · rcases List.mem_cons.1 hx with rfl | hx
          · omega
          · exact b4 x hx
        · rcases List.mem_cons.1 hx with rfl | hx
          · exact ⟨a2, a3⟩
          · exact b5 x hx

theorem may_all {c : Cfg} (h : c.may = 0) : (1 ≤ c.slots ∧ c.slots ≤ 8) ∧ (c.slots + 3 ≤ c.cells ∧ c.cells ≤ 256) ∧ (1 ≤ c.fuses ∧ c.fuses ≤ 64) ∧ (1 ≤ c.step ∧ c.step ≤ 65536) ∧ (1 ≤ c.keys ∧ c.keys ≤ 64) ∧ (0 ≤ c.erases ∧ c.erases ≤ 65536) ∧ (0 ≤ c.area ∧ c.area ≤ 64) := by
  unfold Cfg.may at h
  split at h
  · rename_i hh
    simp only [Cfg.a, Cfg.b, Bool.and_eq_true, decide_eq_true_eq] at hh
    omega
  · omega
theorem cfg_of_nums {c : Cfg} (h : c.may = 0) : cfgOf c.nums = some c ∧ ∀ n ∈ c.nums, n ≤ 2147483647 := by
  obtain ⟨h1, h2, h3, h4, h5, h6, h7⟩ := may_all h
  obtain ⟨cells, slots, fuses, step, keys, erases, area⟩ := c
  simp only at h1 h2 h3 h4 h5 h6 h7
  refine ⟨?_, fun n hn => ?_⟩
  · show some (⟨_, _, _, _, _, _, _⟩ : Cfg) = _
    simp only [Option.some.injEq, Cfg.mk.injEq]
    omega
  · simp only [Cfg.nums, List.mem_cons, List.not_mem_nil, or_false] at hn
    omega
theorem cfgOf_some {l : List Nat} {c : Cfg} (h : cfgOf l = some c) : l = c.nums := by
  unfold cfgOf at h
  split at h
  · injection h with h
    subst h
    simp [Cfg.nums]
  · cases h
/-- What is known of a chip that may be told. -/
def Fit32 (c : Cfg) (t : St) : Prop := c.may = 0 ∧ Fit c t ∧ ∀ p ∈ t.pages, ∀ x ∈ p, x.length = 32
theorem print_parse {s : List By} {c : Cfg} {t : St} (h : parseL s = .ok (c, t)) : printL c t = s ∧ Fit32 c t ∧ ∀ e ∈ t.erases, e ≤ 2147483647 := by
  unfold parseL at h
  split at h
  · cases h
  · rename_i l r hl
    split at h
    · cases h
    · rename_i c' hc
      split at h
      · rename_i hm
        split at h
        · cases h
        · rename_i l2 r2 hl2
          split at h
          · cases h
          · rename_i bl hb
            split at h
            · cases h
            · rename_i gs es r3 ln hp
              split at h
              · rename_i hr3
                injection h with h; injection h with h1 h2
                subst h1 h2 hr3
                obtain ⟨m1, m2, m3, m4, m5, m6, m7⟩ := may_all hm
                have hprod : 1 ≤ c'.slots * c'.fuses ∧ c'.slots * c'.fuses ≤ 512 := ⟨by
                  have := Int.mul_le_mul m1.1 m3.1 (by omega) (by omega); omega, by
                  have := Int.mul_le_mul m1.2 m3.2 (by omega) (by omega); omega⟩
                obtain ⟨v, hv, hcf⟩ := Option.bind_eq_some_iff.1 hc
                obtain ⟨v1, _⟩ := values_some hv
                have ev := cfgOf_some hcf
                obtain ⟨t1, _⟩ := lineOf_some _ _ _ hl
                obtain ⟨t2, _⟩ := lineOf_some _ _ _ hl2
                obtain ⟨p1, p2, p3, p4, p5⟩ := pages_back _ _ _ _ _ _ _ _ _ hp
                unfold blown? at hb
                split at hb
                · rename_i v2 hv2
                  split at hb
                  · rename_i hri
                    injection hb with hb
                    obtain ⟨b1, _⟩ := values_some hv2
                    refine ⟨?_, ⟨hm, ⟨by show (gs.length : Int) = _; omega, by show (es.length : Int) = _; omega, ?_, fun p hpp => ?_⟩, ?_⟩, fun e he => (p4 e he).2⟩
                    · show (wChip ++ numsL c'.nums ++ [10#8]) ++ (wBlown ++ numsL (trues bl 0) ++ [10#8]) ++ pagesL gs es 0 = s
                      rw [t1, v1, t2, b1, p1, ← ev, ← hb, trues_of _ _ hri]
                      simp
                    · show (bl.length : Int) = _
                      rw [← hb, marks_len]; omega
                    · have hpp' : p < gs.length := hpp
                      refine ⟨?_, ?_⟩
                      · show ((gs.getD p []).length : Int) = _
                        rw [List.getD_eq_getElem?_getD, List.getElem?_eq_getElem hpp']
                        have := (p5 gs[p] (List.getElem_mem _)).1
                        simp only [Option.getD_some]
                        omega
                      · show 0 ≤ es.getD p 0
                        rw [List.getD_eq_getElem?_getD, List.getElem?_eq_getElem (by omega)]
                        exact (p4 es[p] (List.getElem_mem _)).1
                    · intro p hpp x hx
                      exact (p5 p hpp).2 x hx
                  · cases hb
                · cases hb
              · cases h
      · cases h
end Go.Proofs.YtgpnbiaghokjkaaDoor
