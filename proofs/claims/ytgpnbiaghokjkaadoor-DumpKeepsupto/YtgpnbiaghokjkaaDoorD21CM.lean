import Derived.Test.YtgpnbiaghokjkaaDoorD21Inv
import Derived.Test.YtgpnbiaghokjkaaDoorD21Rd
import Derived.Test.YtgpnbiaghokjkaaDoorD21Same
/-! Layer 21: how the landed reader goes through a text, as plain data. -/
namespace Go.Proofs.YtgpnbiaghokjkaaDoor
open Go.RowKit
set_option linter.unusedVariables false
set_option linter.unusedSimpArgs false

/-- The digits at a rest's beginning: i were there, which make n. -/
def scan : List By → Nat → Nat → Option (Nat × List By)
  | [], i, n => if i = 0 then none else some (n, [])
  | x :: s, i, n => if 48 ≤ x.toNat ∧ x.toNat ≤ 57 then (if (i = 0 ∨ 0 < n) ∧ 10 * n + (x.toNat - 48) ≤ 2147483647 then scan s (i + 1) (10 * n + (x.toNat - 48)) else none) else if i = 0 then none else some (n, x :: s)
/-- A blank and a number. -/
def numC (r : List By) : Option (Nat × List By) := if r.take 1 = [32#8] then scan (r.drop 1) 0 0 else none
def noD (r : List By) : Prop := ∀ x s, r = x :: s → ¬ (48 ≤ x.toNat ∧ x.toNat ≤ 57)

theorem numF_more : ∀ (k n : Nat), n < 10 ^ (k + 1) → numF (k + 1) n = numF k n
  | 0, n, h => by
    show (if n < 10 then [dg n] else numF 0 (n / 10) ++ [dg n]) = [dg n]
    rw [if_pos (by omega)]
  | k + 1, n, h => by
    rw [numF]
    split
    · rename_i h1; rw [numF, if_pos h1]
    · rename_i h1
      rw [numF_more k (n / 10) (by rw [Nat.pow_succ] at h; omega)]
      conv => rhs; rw [numF, if_neg h1]
theorem dg_mod (n d : Nat) : dg (10 * n + d) = dg d := by
  unfold dg
  rw [show (10 * n + d) % 10 = d % 10 by omega]
theorem num_snoc (n d : Nat) (hn : 0 < n) (hm : n ≤ 2147483647) (hd : d < 10) : num (10 * n + d) = num n ++ [dg d] := by
  unfold num
  rw [numF, if_neg (by omega), show (10 * n + d) / 10 = n by omega, dg_mod]
  rw [numF_more 19 n (by omega)]
theorem num_one (d : Nat) (hd : d < 10) : num d = [dg d] := by
  unfold num
  rw [numF, if_pos hd]
theorem dg_of (x : By) (h : 48 ≤ x.toNat ∧ x.toNat ≤ 57) : dg (x.toNat - 48) = x := by
  refine BitVec.eq_of_toNat_eq ?_
  rw [dg_nat]; omega
theorem scan_app : ∀ (k n : Nat) (t : List By), n < 10 ^ (k + 1) → n ≤ 2147483647 → scan (numF k n ++ t) 0 0 = scan t (numF k n).length n
  | 0, n, t, h, hm => by
    have h' : n < 10 := by omega
    rw [numF]
    show scan (dg n :: t) 0 0 = _
    rw [scan, dg_nat, if_pos (by omega), if_pos ⟨.inl rfl, by omega⟩]
    rw [show 10 * 0 + (48 + n % 10 - 48) = n by omega]; rfl
  | k + 1, n, t, h, hm => by
    rw [numF]
    split
    · rename_i h1
      show scan (dg n :: t) 0 0 = _
      rw [scan, dg_nat, if_pos (by omega), if_pos ⟨.inl rfl, by omega⟩]
      rw [show 10 * 0 + (48 + n % 10 - 48) = n by omega]; rfl
    · rename_i h1
      rw [List.append_assoc, scan_app k (n / 10) ([dg n] ++ t) (by rw [Nat.pow_succ] at h; omega) (by omega)]
      show scan (dg n :: t) _ _ = _
      rw [scan, dg_nat, if_pos (by omega), if_pos ⟨.inr (by omega), by omega⟩]
      rw [show 10 * (n / 10) + (48 + n % 10 - 48) = n by omega, List.length_append]; rfl
theorem scan_end (t : List By) (i n : Nat) (hi : 0 < i) (h : noD t) : scan t i n = some (n, t) := by
  cases t with
  | nil => rw [scan, if_neg (by omega)]
  | cons x s => rw [scan, if_neg (h x s rfl), if_neg (by omega)]
theorem numC_num (n : Nat) (t : List By) (hn : n ≤ 2147483647) (h : noD t) : numC (32#8 :: (num n ++ t)) = some (n, t) := by
  unfold numC
  rw [if_pos (by rfl)]
  show scan (num n ++ t) 0 0 = _
  unfold num
  rw [scan_app 20 n t (by omega) hn]
  exact scan_end t _ n (numF_len 20 n 9 (by omega) (by omega)).1 h
theorem scan_some : ∀ (s : List By) (i n m : Nat) (r : List By), 0 < i → n ≤ 2147483647 → scan s i n = some (m, r) → ∃ ds, s = ds ++ r ∧ num n ++ ds = num m ∧ m ≤ 2147483647 ∧ noD r
  | [], i, n, m, r, hi, hn, h => by
    rw [scan, if_neg (by omega)] at h
    injection h with h; injection h with h1 h2
    subst h1 h2
    exact ⟨[], rfl, by simp, hn, fun x s e => by cases e⟩
  | x :: s, i, n, m, r, hi, hn, h => by
    rw [scan] at h
    split at h
    · rename_i hx
      split at h
      · rename_i hc
        have hp : 0 < n := by omega
        obtain ⟨ds, e1, e2, e3, e4⟩ := scan_some s (i + 1) _ m r (by omega) hc.2 h
        refine ⟨x :: ds, by rw [e1]; rfl, ?_, e3, e4⟩
        rw [num_snoc n _ hp hn (by omega), dg_of x hx, List.append_assoc] at e2
        exact e2
      · cases h
    · rename_i hx
      rw [if_neg (by omega)] at h
      injection h with h; injection h with h1 h2
      subst h1 h2
      exact ⟨[], rfl, by simp, hn, fun y s' e => by injection e with e1 e2; subst e1; exact hx⟩
theorem numC_some {r : List By} {m : Nat} {t : List By} (h : numC r = some (m, t)) : r = 32#8 :: (num m ++ t) ∧ m ≤ 2147483647 ∧ noD t := by
  unfold numC at h
  split at h
  · rename_i h1
    cases r with
    | nil => cases h1
    | cons y s =>
      have hy : y = 32#8 := by injection h1
      subst hy
      replace h : scan s 0 0 = some (m, t) := h
      cases s with
      | nil => cases h
      | cons x s =>
        rw [scan] at h
        split at h
        · rename_i hx
          split at h
          · rename_i hc
            obtain ⟨ds, e1, e2, e3, e4⟩ := scan_some s 1 _ m t (by omega) hc.2 h
            refine ⟨?_, e3, e4⟩
            rw [show 10 * 0 + (x.toNat - 48) = x.toNat - 48 by omega, num_one _ (by omega), dg_of x hx] at e2
            rw [← e2, e1]; rfl
          · cases h
        · rw [if_pos rfl] at h; cases h
  · cases h
theorem numC_len {r : List By} {m : Nat} {t : List By} (h : numC r = some (m, t)) : t.length < r.length := by
  rw [(numC_some h).1, List.length_cons, List.length_append]; omega
/-- k numbers. -/
def takeNs : Nat → List By → Option (List Nat × List By)
  | 0, r => some ([], r)
  | k + 1, r => match numC r with | none => none | some (n, t) => (match takeNs k t with | none => none | some (ns, u) => some (n :: ns, u))
theorem numsL_cons (n : Nat) (l : List Nat) : numsL (n :: l) = 32#8 :: (num n ++ numsL l) := by unfold numsL; rw [List.flatMap_cons]; rfl
theorem noD_nums (l : List Nat) : noD (numsL l ++ [10#8]) := by
  intro x s e
  cases l with
  | nil =>
    have e' : [10#8] = x :: s := e
    injection e' with e1 _
    subst e1; decide
  | cons n l =>
    rw [numsL_cons] at e
    injection e with e1 _
    subst e1; decide
theorem takeNs_some : ∀ (k : Nat) (r : List By) (ns : List Nat) (u : List By), takeNs k r = some (ns, u) → r = numsL ns ++ u ∧ ns.length = k ∧ ∀ n ∈ ns, n ≤ 2147483647
  | 0, r, ns, u, h => by
    injection h with h; injection h with h1 h2
    subst h1 h2
    exact ⟨rfl, rfl, by simp⟩
  | k + 1, r, ns, u, h => by
    rw [takeNs] at h
    split at h
    · cases h
    · rename_i n t hn
      split at h
      · cases h
      · rename_i ms v hm
        injection h with h; injection h with h1 h2
        subst h1 h2
        obtain ⟨e1, e2, _⟩ := numC_some hn
        obtain ⟨f1, f2, f3⟩ := takeNs_some k t ms v hm
        refine ⟨by rw [e1, f1, numsL_cons]; simp, by rw [List.length_cons, f2], fun m hm' => ?_⟩
        rcases List.mem_cons.1 hm' with rfl | hm'
        · exact e2
        · exact f3 m hm'
theorem takeNs_nums : ∀ (ns : List Nat), (∀ n ∈ ns, n ≤ 2147483647) → takeNs ns.length (numsL ns ++ [10#8]) = some (ns, [10#8])
  | [], _ => rfl
  | n :: ns, h => by
    rw [List.length_cons, takeNs, numsL_cons]
    have e : 32#8 :: (num n ++ numsL ns) ++ [10#8] = 32#8 :: (num n ++ (numsL ns ++ [10#8])) := by simp
    rw [e, numC_num n _ (h n (List.mem_cons_self ..)) (noD_nums ns)]
    show (match takeNs ns.length (numsL ns ++ [10#8]) with | none => none | some (ms, u) => some (n :: ms, u)) = _
    rw [takeNs_nums ns (fun m hm => h m (List.mem_cons_of_mem _ hm))]
/-- A line of a word and k numbers, with its line feed. -/
def lineC (word : List By) (k : Nat) (L : List By) : Option (List Nat) :=
  if L.take word.length = word then (match takeNs k (L.drop word.length) with | some (ns, u) => if u = [10#8] then some ns else none | none => none) else none
theorem take_split {L word : List By} (h : L.take word.length = word) : L = word ++ L.drop word.length := by
  conv => lhs; rw [← List.take_append_drop word.length L, h]
theorem lineC_some {word : List By} {k : Nat} {L : List By} {ns : List Nat} (h : lineC word k L = some ns) : L = word ++ numsL ns ++ [10#8] ∧ ns.length = k ∧ ∀ n ∈ ns, n ≤ 2147483647 := by
  unfold lineC at h
  split at h
  · rename_i hw
    split at h
    · rename_i ms u hm
      split at h
      · rename_i hu
        injection h with h
        subst h hu
        obtain ⟨e1, e2, e3⟩ := takeNs_some _ _ _ _ hm
        refine ⟨?_, e2, e3⟩
        rw [List.append_assoc, ← e1]
        exact take_split hw
      · cases h
    · cases h
  · cases h
theorem lineC_of (word : List By) (ns : List Nat) (h : ∀ n ∈ ns, n ≤ 2147483647) : lineC word ns.length (word ++ numsL ns ++ [10#8]) = some ns := by
  unfold lineC
  rw [List.append_assoc, List.take_left, if_pos rfl, List.drop_left, takeNs_nums ns h]
  rfl
/-- The same by words: of a line with its line feed. -/
theorem lineC_values (word l : List By) (k : Nat) (hw : 32#8 ∉ word) : lineC word k (l ++ [10#8]) = (match values? l word with | some v => if v.length = k then some v else none | none => none) := by
  cases h : lineC word k (l ++ [10#8]) with
  | some ns =>
    obtain ⟨e1, e2, e3⟩ := lineC_some h
    have e4 : l = word ++ numsL ns := List.append_cancel_right e1
    rw [e4, values_nums ns word hw e3]
    show some ns = if ns.length = k then some ns else none
    rw [if_pos e2]
  | none =>
    cases h2 : values? l word with
    | none => rfl
    | some v =>
      obtain ⟨e1, e2⟩ := values_some h2
      show none = if v.length = k then some v else none
      by_cases hk : v.length = k
      · rw [e1, ← hk, lineC_of word v e2] at h; cases h
      · rw [if_neg hk]
theorem lineC_noLF (word L : List By) (k : Nat) (h : 10#8 ∉ L) : lineC word k L = none := by
  cases h2 : lineC word k L with
  | none => rfl
  | some ns =>
    obtain ⟨e1, _, _⟩ := lineC_some h2
    exact absurd (by rw [e1]; simp) h
/-- Numbers of fuses, rising from least on, below N. -/
def blC (N : Nat) : Nat → Nat → List By → Option (List Nat)
  | 0, _, _ => none
  | f + 1, least, r => if r = [10#8] then some [] else match numC r with | none => none | some (i, t) => if least ≤ i ∧ i < N then (match blC N f (i + 1) t with | some v => some (i :: v) | none => none) else none
theorem blC_some (N : Nat) : ∀ (f least : Nat) (r : List By) (v : List Nat), blC N f least r = some v → r = numsL v ++ [10#8] ∧ (∀ n ∈ v, n ≤ 2147483647) ∧ riseB N v ((least : Int) - 1) = true
  | 0, _, _, _, h => by cases h
  | f + 1, least, r, v, h => by
    rw [blC] at h
    split at h
    · rename_i hr
      injection h with h
      subst h hr
      exact ⟨rfl, by simp, rfl⟩
    · split at h
      · cases h
      · rename_i i t hi
        split at h
        · rename_i hc
          split at h
          · rename_i u hu
            injection h with h
            subst h
            obtain ⟨e1, e2, _⟩ := numC_some hi
            obtain ⟨f1, f2, f3⟩ := blC_some N f (i + 1) t u hu
            refine ⟨by rw [e1, f1, numsL_cons]; simp, fun m hm => ?_, ?_⟩
            · rcases List.mem_cons.1 hm with rfl | hm
              · exact e2
              · exact f2 m hm
            · rw [riseB]
              rw [show (((i + 1 : Nat) : Int) - 1) = (i : Int) by omega] at f3
              rw [f3]
              simp; omega
          · cases h
        · cases h
theorem blC_of (N : Nat) : ∀ (v : List Nat) (f least : Nat), v.length < f → (∀ n ∈ v, n ≤ 2147483647) → riseB N v ((least : Int) - 1) = true → blC N f least (numsL v ++ [10#8]) = some v
  | v, 0, _, h, _, _ => by omega
  | [], f + 1, least, h, _, _ => by rw [blC, if_pos (by rfl)]
  | i :: v, f + 1, least, h, hm, hr => by
    rw [riseB] at hr
    simp only [Bool.and_eq_true, decide_eq_true_eq] at hr
    have e : numsL (i :: v) ++ [10#8] = 32#8 :: (num i ++ (numsL v ++ [10#8])) := by rw [numsL_cons]; simp
    rw [blC, e, if_neg (by intro e; injection e with e1 _; exact absurd e1 (by decide)), numC_num i _ (hm i (List.mem_cons_self ..)) (noD_nums v)]
    show (if least ≤ i ∧ i < N then (match blC N f (i + 1) (numsL v ++ [10#8]) with | some v => some (i :: v) | none => none) else none) = _
    rw [if_pos ⟨by omega, hr.1.2⟩, blC_of N v f (i + 1) (by rw [List.length_cons] at h; omega) (fun m hm' => hm m (List.mem_cons_of_mem _ hm')) (by rw [show (((i + 1 : Nat) : Int) - 1) = (i : Int) by omega]; exact hr.2)]
theorem numsL_long : ∀ (v : List Nat), v.length ≤ (numsL v).length
  | [] => Nat.le_refl _
  | n :: v => by rw [numsL_cons, List.length_cons, List.length_cons, List.length_append]; have := numsL_long v; omega
/-- The second line, with its line feed. -/
def blownC (N : Nat) (L : List By) : Option (List Nat) := if L.take 5 = wBlown then blC N (L.length + 1) 0 (L.drop 5) else none
theorem blownC_eq (N : Nat) (l : List By) : (blownC N (l ++ [10#8])).map (marks N) = blown? N l := by
  have hw : 32#8 ∉ wBlown := by decide
  cases h : blownC N (l ++ [10#8]) with
  | some v =>
    unfold blownC at h
    split at h
    · rename_i h5
      obtain ⟨e1, e2, e3⟩ := blC_some N _ _ _ _ h
      have e4 : l ++ [10#8] = wBlown ++ (numsL v ++ [10#8]) := by rw [← e1]; exact take_split (word := wBlown) h5
      rw [← List.append_assoc] at e4
      have e5 := List.append_cancel_right e4
      unfold blown?
      rw [e5, values_nums v wBlown hw e2]
      show some (marks N v) = if riseB N v (-1) = true then some (marks N v) else none
      rw [if_pos (show riseB N v (-1) = true from e3)]
    · cases h
  | none =>
    show none = blown? N l
    unfold blown?
    split
    · rename_i v hv
      obtain ⟨e1, e2⟩ := values_some hv
      split
      · rename_i hr
        unfold blownC at h
        rw [e1, List.append_assoc, show (wBlown ++ (numsL v ++ [10#8])).take 5 = wBlown from List.take_left (l₁ := wBlown), if_pos rfl, show (wBlown ++ (numsL v ++ [10#8])).drop 5 = numsL v ++ [10#8] from List.drop_left (l₁ := wBlown)] at h
        rw [blC_of N v _ 0 (by rw [List.length_append, List.length_append]; have := numsL_long v; omega) e2 hr] at h
        cases h
      · rfl
    · rfl
theorem blownC_noLF (N : Nat) (L : List By) (h : 10#8 ∉ L) : blownC N L = none := by
  cases h2 : blownC N L with
  | none => rfl
  | some v =>
    unfold blownC at h2
    split at h2
    · rename_i h5
      obtain ⟨e1, _, _⟩ := blC_some N _ _ _ _ h2
      have e4 := take_split (word := wBlown) h5
      have e6 : L = wBlown ++ (numsL v ++ [10#8]) := by rw [← e1]; exact e4
      exact absurd (by rw [e6]; simp) h
    · cases h2
/-- A blank and a cell's bytes. -/
def hexR (r : List By) : Option (List By × List By) := if r.take 1 = [32#8] ∧ 64 ≤ (r.drop 1).length then (match unhex ((r.drop 1).take 64) with | some x => some (x, r.drop 65) | none => none) else none
theorem hexR_some {r : List By} {x u : List By} (h : hexR r = some (x, u)) : r = 32#8 :: (hexC x ++ u) ∧ x.length = 32 := by
  unfold hexR at h
  split at h
  · rename_i hc
    split at h
    · rename_i y hy
      injection h with h; injection h with h1 h2
      subst h1 h2
      obtain ⟨e1, e2⟩ := unhex_some _ _ hy
      rw [List.length_take] at e2
      refine ⟨?_, by omega⟩
      cases r with
      | nil => cases hc.1
      | cons z s =>
        have hz : z = 32#8 := by have := hc.1; injection this
        subst hz
        rw [e1]
        show _ = 32#8 :: (s.take 64 ++ s.drop 64)
        rw [List.take_append_drop]
    · cases h
  · cases h
theorem hexR_of (x u : List By) (hx : x.length = 32) : hexR (32#8 :: (hexC x ++ u)) = some (x, u) := by
  have hl : (hexC x).length = 64 := by rw [hexC_len, hx]
  unfold hexR
  show (if [32#8] = [32#8] ∧ 64 ≤ (hexC x ++ u).length then (match unhex ((hexC x ++ u).take 64) with | some y => some (y, (hexC x ++ u).drop 64) | none => none) else none) = _
  rw [if_pos ⟨rfl, by rw [List.length_append]; omega⟩, show (64 : Nat) = (hexC x).length from hl.symm, List.take_left, List.drop_left, unhex_hexC]
/-- A cell's line, with its line feed. -/
def cellC (L : List By) : Option (Nat × List By) := if L.take 4 = wCell then (match numC (L.drop 4) with | some (n, t) => (match hexR t with | some (x, u) => if u = [10#8] then some (n, x) else none | none => none) | none => none) else none
theorem cellC_some {L : List By} {n : Nat} {x : List By} (h : cellC L = some (n, x)) : L = cellW n x ++ [10#8] ∧ x.length = 32 ∧ n ≤ 2147483647 := by
  unfold cellC at h
  split at h
  · rename_i h4
    split at h
    · rename_i m t hm
      split at h
      · rename_i y u hy
        split at h
        · rename_i hu
          injection h with h; injection h with h1 h2
          subst h1 h2 hu
          obtain ⟨e1, e2, _⟩ := numC_some hm
          obtain ⟨f1, f2⟩ := hexR_some hy
          refine ⟨?_, f2, e2⟩
          have e4 := take_split (word := wCell) h4
          have e5 : L = wCell ++ L.drop 4 := e4
          rw [e5, e1, f1]
          unfold cellW
          simp
        · cases h
      · cases h
    · cases h
  · cases h
theorem cellC_of (n : Nat) (x : List By) (hn : n ≤ 2147483647) (hx : x.length = 32) : cellC (cellW n x ++ [10#8]) = some (n, x) := by
  unfold cellC
  have e : cellW n x ++ [10#8] = wCell ++ (32#8 :: (num n ++ (32#8 :: (hexC x ++ [10#8])))) := by unfold cellW; simp
  rw [e, show (wCell ++ (32#8 :: (num n ++ (32#8 :: (hexC x ++ [10#8]))))).take 4 = wCell from List.take_left (l₁ := wCell), if_pos rfl, show (wCell ++ (32#8 :: (num n ++ (32#8 :: (hexC x ++ [10#8]))))).drop 4 = 32#8 :: (num n ++ (32#8 :: (hexC x ++ [10#8]))) from List.drop_left (l₁ := wCell)]
  rw [numC_num n _ hn (fun y s e => by injection e with e1 _; subst e1; decide)]
  show (match hexR (32#8 :: (hexC x ++ [10#8])) with | some (y, u) => if u = [10#8] then some (n, y) else none | none => none) = _
  rw [hexR_of x _ hx]
  rfl
theorem cellC_one (l : List By) : (match cellC (l ++ [10#8]) with | some (n, x) => if x = List.replicate 32 255#8 then none else some (n, x) | none => none) = one? l := by
  cases h : cellC (l ++ [10#8]) with
  | some p =>
    obtain ⟨n, x⟩ := p
    obtain ⟨e1, e2, e3⟩ := cellC_some h
    have e4 := List.append_cancel_right e1
    show (if x = List.replicate 32 255#8 then none else some (n, x)) = _
    split
    · rename_i hb
      cases h2 : one? l with
      | none => rfl
      | some q =>
        obtain ⟨m, y⟩ := q
        obtain ⟨f1, f2, f3, f4⟩ := one_some h2
        have f5 : cellC (l ++ [10#8]) = some (m, y) := by rw [f1]; exact cellC_of m y f4 f2
        rw [h] at f5
        injection f5 with f5; injection f5 with _ f6
        subst f6
        exact absurd hb f3
    · rename_i hb
      rw [e4, one_cell n x e3 e2 hb]
  | none =>
    cases h2 : one? l with
    | none => rfl
    | some q =>
      obtain ⟨m, y⟩ := q
      obtain ⟨f1, f2, f3, f4⟩ := one_some h2
      rw [f1, cellC_of m y f4 f2] at h
      cases h
theorem cellC_noLF (L : List By) (h : 10#8 ∉ L) : cellC L = none := by
  cases h2 : cellC L with
  | none => rfl
  | some q =>
    obtain ⟨m, y⟩ := q
    obtain ⟨e1, _, _⟩ := cellC_some h2
    exact absurd (by rw [e1]; simp) h
end Go.Proofs.YtgpnbiaghokjkaaDoor
