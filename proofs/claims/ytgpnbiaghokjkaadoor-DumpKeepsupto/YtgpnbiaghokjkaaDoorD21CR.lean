import Derived.Test.YtgpnbiaghokjkaaDoorD21CM
import Derived.Test.YtgpnbiaghokjkaaDoorC4First
/-! Layer 21: the landed reader line by line, as plain data; it tells what the document asks. -/
namespace Go.Proofs.YtgpnbiaghokjkaaDoor
open Go.RowKit
set_option linter.unusedVariables false
set_option linter.unusedSimpArgs false

/-- The lines of a text, each with its line feed, which the last one may lack. -/
def splitF : Nat → List By → List (List By)
  | 0, _ => []
  | f + 1, t => match lineOf t with | some (l, r) => (l ++ [10#8]) :: splitF f r | none => if t = [] then [] else [t]
def splitL (t : List By) : List (List By) := splitF t.length t
theorem lineOf_len {t l r : List By} (h : lineOf t = some (l, r)) : r.length < t.length := by
  obtain ⟨e, _⟩ := lineOf_some t l r h
  rw [e, List.length_append, List.length_cons]; omega
theorem splitF_more : ∀ (f g : Nat) (t : List By), t.length ≤ f → t.length ≤ g → splitF f t = splitF g t
  | 0, 0, t, _, _ => rfl
  | 0, g + 1, t, h, _ => by
    have : t = [] := List.length_eq_zero_iff.1 (by omega)
    subst this; rfl
  | f + 1, 0, t, _, h => by
    have : t = [] := List.length_eq_zero_iff.1 (by omega)
    subst this; rfl
  | f + 1, g + 1, t, h1, h2 => by
    rw [splitF, splitF]
    split
    · rename_i l r hl
      have := lineOf_len hl
      rw [splitF_more f g r (by omega) (by omega)]
    · rfl
theorem splitL_some {t l r : List By} (h : lineOf t = some (l, r)) : splitL t = (l ++ [10#8]) :: splitL r := by
  have hr := lineOf_len h
  unfold splitL
  obtain ⟨f, hf⟩ : ∃ f, t.length = f + 1 := ⟨t.length - 1, by omega⟩
  rw [hf, splitF, h]
  show (l ++ [10#8]) :: splitF f r = _
  rw [splitF_more f r.length r (by omega) (Nat.le_refl _)]
theorem splitL_none {t : List By} (h : lineOf t = none) : splitL t = if t = [] then [] else [t] := by
  unfold splitL
  cases t with
  | nil => rfl
  | cons x s => rw [List.length_cons, splitF, h]
theorem lineOf_no : ∀ (t : List By), lineOf t = none → 10#8 ∉ t
  | [], _ => by simp
  | x :: t, h => by
    rw [lineOf] at h
    split at h
    · cases h
    · rename_i hx
      cases h2 : lineOf t with
      | some p => rw [h2] at h; cases h
      | none =>
        intro hm
        rcases List.mem_cons.1 hm with e | hm
        · exact hx e.symm
        · exact lineOf_no t h2 hm
/-- A line from the third on: the chip, how many pages have had their line, the least cell that may come. -/
def stepC (C M : Nat) (L : List By) (t : St) (pg cl : Nat) : Option (St × Nat × Nat) :=
  if L.take 4 = wCell then
    match cellC L with
    | some (n, x) => if 0 < pg ∧ cl ≤ n ∧ n < C ∧ ¬ x = List.replicate 32 255#8 then some (⟨t.pages.set (pg - 1) ((t.pages.getD (pg - 1) []).set n x), t.erases, t.blown⟩, pg, n + 1) else none
    | none => none
  else
    match lineC wPage 2 L with
    | some [p, e] => if p = pg ∧ p < M then some (⟨t.pages, t.erases.set p (e : Int), t.blown⟩, pg + 1, 0) else none
    | _ => none
def runC (C M : Nat) : List (List By) → St → Nat → Nat → Nat → Except Nat St
  | [], t, pg, cl, ln => if 0 < pg ∧ pg = M then .ok t else .error (ln + 1)
  | L :: ls, t, pg, cl, ln => match stepC C M L t pg cl with | some (t2, pg2, cl2) => runC C M ls t2 pg2 cl2 (ln + 1) | none => .error (ln + 1)
/-- The whole text. -/
def codeP (T : List By) : Except (Int × Nat) (Cfg × St) :=
  match splitL T with
  | [] => .error (5, 1)
  | L1 :: ls => match (lineC wChip 7 L1).bind cfgOf with
    | none => .error (5, 1)
    | some c => if c.may = 0 then
        (match ls with
        | [] => .error (5, 2)
        | L2 :: ls2 => match blownC (c.slots * c.fuses + c.keys).toNat L2 with
          | none => .error (5, 2)
          | some v => match runC c.cells.toNat (2 + 2 * c.area).toNat ls2 ⟨(freshN (2 + 2 * c.area).toNat c.cells.toNat 0).pages, List.replicate (2 + 2 * c.area).toNat 0, marks (c.slots * c.fuses + c.keys).toNat v⟩ 0 0 2 with
            | .ok t => .ok (c, t)
            | .error k => .error (5, k))
      else .error (1, 1)
theorem take4 {t l r : List By} (h : lineOf t = some (l, r)) : (t.take 4 = wCell) ↔ ((l ++ [10#8]).take 4 = wCell) := by
  obtain ⟨e, hn⟩ := lineOf_some t l r h
  have e2 : t = (l ++ [10#8]) ++ r := by rw [e]; simp
  rw [e2]
  by_cases hl : 4 ≤ (l ++ [10#8]).length
  · rw [List.take_append_of_le_length hl]
  · refine ⟨fun h1 => ?_, fun h1 => ?_⟩
    · exfalso
      have h4 : (l ++ [10#8]) = ((l ++ [10#8]) ++ r).take (l ++ [10#8]).length := (List.take_left).symm
      have h5 : ((l ++ [10#8]) ++ r).take (l ++ [10#8]).length = (((l ++ [10#8]) ++ r).take 4).take (l ++ [10#8]).length := by rw [List.take_take, Nat.min_eq_left (by omega)]
      rw [h1] at h5
      have h6 : 10#8 ∈ wCell := by
        have : 10#8 ∈ l ++ [10#8] := by simp
        rw [h4, h5] at this
        exact List.mem_of_mem_take this
      revert h6; decide
    · exfalso
      have := congrArg List.length h1
      rw [List.length_take] at this
      have hw : wCell.length = 4 := rfl
      omega
theorem sees_take (t : List By) : sees t wCell = decide (t.take 4 = wCell) := rfl
/-- In the midst of a page: the document's way. -/
def midP (C M pg k : Nat) (r : List By) (ln : Nat) (last : Int) (g : List (List By)) : Except Nat (List (List (List By)) × List Int) :=
  match cellsP C k r ln last g with
  | .error e => .error e
  | .ok (g2, r2, ln2) => match pagesP C (M - pg) pg r2 ln2 with
    | .error e => .error e
    | .ok (gs, es, r3, ln3) => if r3 = [] then .ok (g2 :: gs, es) else .error (ln3 + 1)
def bkP (C : Nat) : List (List By) := List.replicate C (List.replicate 32 255#8)
theorem set_mid {α : Type} (a : List α) (x y : α) (b : List α) : (a ++ x :: b).set a.length y = a ++ y :: b := by
  rw [List.set_append, if_neg (by omega), Nat.sub_self]; rfl
theorem getD_mid {α : Type} (a : List α) (x d : α) (b : List α) : (a ++ x :: b).getD a.length d = x := by
  rw [List.getD_eq_getElem?_getD, List.getElem?_append_right (Nat.le_refl _), Nat.sub_self]; rfl
/-- A page's line. -/
theorem page_line (C M pg ln : Nat) (r : List By) (hpg : pg < M) (k : Nat) : (match pagesP C (M - pg) pg r ln with
    | .error e => .error e
    | .ok (gs, es, r3, ln3) => if r3 = [] then .ok (gs, es) else .error (ln3 + 1)) =
    (match lineOf r with
     | none => (.error (ln + 1) : Except Nat (List (List (List By)) × List Int))
     | some (l, r') => match values? l wPage with
       | some [q, e] => if q = pg then (match midP C M (pg + 1) r'.length r' (ln + 1) (-1) (bkP C) with | .error k => .error k | .ok (gs, es) => .ok (gs, (e : Int) :: es)) else .error (ln + 1)
       | _ => .error (ln + 1)) := by
  obtain ⟨m, hm⟩ : ∃ m, M - pg = m + 1 := ⟨M - pg - 1, by omega⟩
  rw [hm, pagesP, pageP]
  cases hl : lineOf r with
  | none => rfl
  | some p =>
    obtain ⟨l, r'⟩ := p
    dsimp only
    cases hv : values? l wPage with
    | none => rfl
    | some v =>
      match v with
      | [] => rfl
      | [_] => rfl
      | _ :: _ :: _ :: _ => rfl
      | [q, e] =>
        dsimp only
        by_cases hq : q = pg
        · rw [if_pos hq, if_pos hq]
          unfold midP bkP
          rw [show M - (pg + 1) = m by omega]
          cases hc : cellsP C r'.length r' (ln + 1) (-1) (List.replicate C (List.replicate 32 255#8)) with
          | error k => rfl
          | ok p =>
            obtain ⟨g, r2, ln2⟩ := p
            dsimp only
            cases hp : pagesP C m (pg + 1) r2 ln2 with
            | error k => rfl
            | ok p =>
              obtain ⟨gs, es, r3, ln3⟩ := p
              dsimp only
              by_cases hr : r3 = []
              · rw [if_pos hr, if_pos hr]
              · rw [if_neg hr, if_neg hr]
        · rw [if_neg hq, if_neg hq]
theorem run_mid_nil (C M : Nat) (bl : List Bool) (k pg cl ln : Nat) (g : List (List By)) (gd : List (List (List By))) (ed : List Int) (e0 : Int) (hgd : gd.length + 1 = pg) (hpg : pg ≤ M) :
    runC C M (splitL []) ⟨gd ++ g :: List.replicate (M - pg) (bkP C), ed ++ e0 :: List.replicate (M - pg) 0, bl⟩ pg cl ln =
    (match midP C M pg k [] ln ((cl : Int) - 1) g with | .error e => .error e | .ok (gs, es) => .ok ⟨gd ++ gs, ed ++ e0 :: es, bl⟩) := by
  have hc : cellsP C k [] ln ((cl : Int) - 1) g = .ok (g, [], ln) := by
    cases k with
    | zero => rfl
    | succ k => rw [cellsP, if_neg (by decide)]
  unfold midP
  rw [hc]
  show (if 0 < pg ∧ pg = M then (.ok _ : Except Nat St) else .error (ln + 1)) = _
  by_cases hM : pg = M
  · subst hM
    rw [if_pos ⟨by omega, rfl⟩, Nat.sub_self]
    rfl
  · rw [if_neg (fun h => hM h.2)]
    obtain ⟨m, hm⟩ : ∃ m, M - pg = m + 1 := ⟨M - pg - 1, by omega⟩
    rw [hm]
    rfl
theorem mid_none (C M pg k : Nat) (r : List By) (ln : Nat) (last : Int) (g : List (List By)) (hl : lineOf r = none) (hr0 : ¬ r = []) (hk : r.length ≤ k) (hpg : pg ≤ M) : midP C M pg k r ln last g = .error (ln + 1) := by
  obtain ⟨k', rfl⟩ : ∃ k', k = k' + 1 := ⟨k - 1, by have : 0 < r.length := List.length_pos_iff.2 hr0; omega⟩
  unfold midP
  by_cases hse : sees r wCell = true
  · rw [cellsP, if_pos hse, hl]
  · rw [cellsP, if_neg hse]
    show (match pagesP C (M - pg) pg r ln with
      | .error e => (.error e : Except Nat (List (List (List By)) × List Int))
      | .ok (gs, es, r3, ln3) => if r3 = [] then .ok (g :: gs, es) else .error (ln3 + 1)) = _
    by_cases hM : pg = M
    · subst hM
      rw [Nat.sub_self]
      show (if r = [] then (.ok ([g], []) : Except Nat (List (List (List By)) × List Int)) else .error (ln + 1)) = _
      rw [if_neg hr0]
    · obtain ⟨m, hm⟩ : ∃ m, M - pg = m + 1 := ⟨M - pg - 1, by omega⟩
      rw [hm, pagesP, pageP, hl]
theorem step_page (C M : Nat) (l : List By) (pg cl : Nat) (t : St) (h : ¬ (l ++ [10#8]).take 4 = wCell) : stepC C M (l ++ [10#8]) t pg cl = (match values? l wPage with
    | some [p, e] => if p = pg ∧ p < M then some (⟨t.pages, t.erases.set p (e : Int), t.blown⟩, pg + 1, 0) else none
    | _ => none) := by
  unfold stepC
  rw [if_neg h, lineC_values wPage l 2 (by decide)]
  cases hv : values? l wPage with
  | none => rfl
  | some v =>
    match v with
    | [] => rfl
    | [_] => rfl
    | [_, _] => rfl
    | a :: b :: c :: d =>
      show (match (if (a :: b :: c :: d).length = 2 then some (a :: b :: c :: d) else none) with
        | some [p, e] => if p = pg ∧ p < M then some ((⟨t.pages, t.erases.set p (e : Int), t.blown⟩ : St), pg + 1, 0) else none
        | _ => none) = none
      rw [if_neg (by simp)]
/-- From the midst of a page on: both ways tell the same. -/
theorem run_mid (C M : Nat) (bl : List Bool) : ∀ (n : Nat) (r : List By) (k pg cl ln : Nat) (g : List (List By)) (gd : List (List (List By))) (ed : List Int) (e0 : Int),
    r.length ≤ n → r.length ≤ k → gd.length + 1 = pg → ed.length + 1 = pg → pg ≤ M →
    runC C M (splitL r) ⟨gd ++ g :: List.replicate (M - pg) (bkP C), ed ++ e0 :: List.replicate (M - pg) 0, bl⟩ pg cl ln =
      (match midP C M pg k r ln ((cl : Int) - 1) g with | .error e => .error e | .ok (gs, es) => .ok ⟨gd ++ gs, ed ++ e0 :: es, bl⟩) := by
  intro n
  induction n with
  | zero =>
    intro r k pg cl ln g gd ed e0 hn hk hgd hed hpg
    have : r = [] := List.length_eq_zero_iff.1 (by omega)
    subst this
    have hc : cellsP C k [] ln ((cl : Int) - 1) g = .ok (g, [], ln) := by
      cases k with
      | zero => rfl
      | succ k => rw [cellsP, if_neg (by decide)]
    unfold midP
    rw [hc]
    show (if 0 < pg ∧ pg = M then (.ok _ : Except Nat St) else .error (ln + 1)) = _
    by_cases hM : pg = M
    · subst hM
      rw [if_pos ⟨by omega, rfl⟩, Nat.sub_self]
      rfl
    · rw [if_neg (fun h => hM h.2)]
      obtain ⟨m, hm⟩ : ∃ m, M - pg = m + 1 := ⟨M - pg - 1, by omega⟩
      rw [hm]
      rfl
  | succ n ih =>
    intro r k pg cl ln g gd ed e0 hn hk hgd hed hpg
    by_cases hr0 : r = []
    · subst hr0
      exact run_mid_nil C M bl k pg cl ln g gd ed e0 hgd hpg
    · cases hl : lineOf r with
      | none =>
        have hno := lineOf_no r hl
        rw [splitL_none hl, if_neg hr0, runC]
        have hs : stepC C M r ⟨gd ++ g :: List.replicate (M - pg) (bkP C), ed ++ e0 :: List.replicate (M - pg) 0, bl⟩ pg cl = none := by
          unfold stepC
          rw [cellC_noLF r hno, lineC_noLF wPage r 2 hno]
          split <;> rfl
        rw [hs]
        have hm : midP C M pg k r ln ((cl : Int) - 1) g = .error (ln + 1) := mid_none C M pg k r ln _ g hl hr0 hk hpg
        rw [hm]
      | some p =>
        obtain ⟨l, r'⟩ := p
        have hlen := lineOf_len hl
        rw [splitL_some hl, runC]
        have h4 := take4 hl
        obtain ⟨k', rfl⟩ : ∃ k', k = k' + 1 := ⟨k - 1, by have : 0 < r.length := List.length_pos_iff.2 hr0; omega⟩
        by_cases hsee : r.take 4 = wCell
        · have hse : sees r wCell = true := by rw [sees_take, decide_eq_true hsee]
          have hone := cellC_one l
          unfold midP
          rw [cellsP, if_pos hse, hl]
          dsimp only
          unfold stepC
          rw [if_pos (h4.1 hsee)]
          cases hc : cellC (l ++ [10#8]) with
          | none =>
            rw [hc] at hone
            rw [← hone]
          | some q =>
            obtain ⟨m, x⟩ := q
            rw [hc] at hone
            dsimp only at hone ⊢
            by_cases hb : x = List.replicate 32 255#8
            · rw [if_pos hb] at hone
              rw [← hone, if_neg (fun h => h.2.2.2 hb)]
            · rw [if_neg hb] at hone
              rw [← hone]
              dsimp only
              by_cases hcond : cl ≤ m ∧ m < C
              · rw [if_pos ⟨by omega, hcond.1, hcond.2, hb⟩, if_neg (by omega)]
                have hp1 : pg - 1 = gd.length := by omega
                rw [hp1, getD_mid, set_mid]
                have := ih r' k' pg (m + 1) (ln + 1) (g.set m x) gd ed e0 (by omega) (by omega) hgd hed hpg
                rw [show (((m + 1 : Nat) : Int) - 1) = (m : Int) by omega] at this
                dsimp only
                rw [this]
                rfl
              · rw [if_neg (fun h => hcond ⟨h.2.1, h.2.2.1⟩), if_pos (by omega)]
        · have hse : sees r wCell = false := by rw [sees_take, decide_eq_false hsee]
          have hcell : cellsP C (k' + 1) r ln ((cl : Int) - 1) g = .ok (g, r, ln) := by rw [cellsP, if_neg (by rw [hse]; decide)]
          have hstep : stepC C M (l ++ [10#8]) ⟨gd ++ g :: List.replicate (M - pg) (bkP C), ed ++ e0 :: List.replicate (M - pg) 0, bl⟩ pg cl = (match values? l wPage with
              | some [p, e] => if p = pg ∧ p < M then some (⟨gd ++ g :: List.replicate (M - pg) (bkP C), (ed ++ e0 :: List.replicate (M - pg) 0).set p (e : Int), bl⟩, pg + 1, 0) else none
              | _ => none) := step_page C M l pg cl _ (fun h => hsee (h4.2 h))
          rw [hstep]
          unfold midP
          rw [hcell]
          dsimp only
          by_cases hM : pg = M
          · subst hM
            rw [Nat.sub_self]
            show _ = (match (if r = [] then (.ok ([g], []) : Except Nat (List (List (List By)) × List Int)) else .error (ln + 1)) with | .error e => (.error e : Except Nat St) | .ok (gs, es) => .ok ⟨gd ++ gs, ed ++ e0 :: es, bl⟩)
            rw [if_neg hr0]
            dsimp only
            have hno : ∀ s : St, (match values? l wPage with
              | some [p, e] => if p = pg ∧ p < pg then some (⟨s.pages, s.erases.set p (e : Int), s.blown⟩, pg + 1, 0) else none
              | _ => (none : Option (St × Nat × Nat))) = none := by
              intro s
              split
              · rw [if_neg (by omega)]
              · rfl
            rw [show (List.replicate 0 (bkP C)) = [] from rfl, show (List.replicate 0 (0 : Int)) = [] from rfl]
            have := hno ⟨gd ++ [g], ed ++ [e0], bl⟩
            dsimp only at this
            rw [this]
          · have hpl := page_line C M pg ln r (by omega) 0
            rw [hl] at hpl
            dsimp only at hpl
            have hmid2 : (match pagesP C (M - pg) pg r ln with
                | .error e => (.error e : Except Nat (List (List (List By)) × List Int))
                | .ok (gs, es, r3, ln3) => if r3 = [] then .ok (g :: gs, es) else .error (ln3 + 1)) = (match (match pagesP C (M - pg) pg r ln with
                | .error e => (.error e : Except Nat (List (List (List By)) × List Int))
                | .ok (gs, es, r3, ln3) => if r3 = [] then .ok (gs, es) else .error (ln3 + 1)) with | .error e => .error e | .ok (gs, es) => .ok (g :: gs, es)) := by
              cases pagesP C (M - pg) pg r ln with
              | error e => rfl
              | ok p =>
                obtain ⟨gs, es, r3, ln3⟩ := p
                dsimp only
                by_cases hr : r3 = []
                · rw [if_pos hr, if_pos hr]
                · rw [if_neg hr, if_neg hr]
            rw [hmid2, hpl]
            cases hv : values? l wPage with
            | none => rfl
            | some v =>
              match v with
              | [] => rfl
              | [_] => rfl
              | _ :: _ :: _ :: _ => rfl
              | [q, e] =>
                dsimp only
                by_cases hq : q = pg
                · subst hq
                  rw [if_pos ⟨rfl, by omega⟩, if_pos rfl]
                  dsimp only
                  obtain ⟨m, hm⟩ : ∃ m, M - q = m + 1 := ⟨M - q - 1, by omega⟩
                  have hm2 : M - (q + 1) = m := by omega
                  have eP : gd ++ g :: List.replicate (M - q) (bkP C) = (gd ++ [g]) ++ bkP C :: List.replicate (M - (q + 1)) (bkP C) := by rw [hm, hm2, List.replicate_succ]; simp
                  have eE : (ed ++ e0 :: List.replicate (M - q) 0).set q (e : Int) = (ed ++ [e0]) ++ (e : Int) :: List.replicate (M - (q + 1)) 0 := by
                    rw [hm, hm2, List.replicate_succ]
                    have := set_mid (ed ++ [e0]) (0 : Int) (e : Int) (List.replicate m 0)
                    rw [List.length_append, List.length_singleton, hed] at this
                    rw [← this]; simp
                  rw [eP, eE, ih r' r'.length (q + 1) 0 (ln + 1) (bkP C) (gd ++ [g]) (ed ++ [e0]) (e : Int) (by omega) (Nat.le_refl _) (by rw [List.length_append, List.length_singleton]; omega) (by rw [List.length_append, List.length_singleton]; omega) (by omega)]
                  show (match midP C M (q + 1) r'.length r' (ln + 1) (-1) (bkP C) with | .error e => (.error e : Except Nat St) | .ok (gs, es) => .ok ⟨gd ++ [g] ++ gs, ed ++ [e0] ++ (e : Int) :: es, bl⟩) = _
                  cases midP C M (q + 1) r'.length r' (ln + 1) (-1) (bkP C) with
                  | error k => rfl
                  | ok p =>
                    obtain ⟨gs, es⟩ := p
                    dsimp only
                    rw [List.append_assoc, List.append_assoc]; rfl
                · rw [if_neg (fun h => hq h.1), if_neg hq]
/-- The pages from the beginning on. -/
theorem run_all (C M : Nat) (bl : List Bool) (r : List By) (ln : Nat) (hM : 0 < M) :
    runC C M (splitL r) ⟨List.replicate M (bkP C), List.replicate M 0, bl⟩ 0 0 ln =
      (match pagesP C M 0 r ln with | .error e => .error e | .ok (gs, es, r3, ln3) => if r3 = [] then .ok ⟨gs, es, bl⟩ else .error (ln3 + 1)) := by
  have hpl := page_line C M 0 ln r hM 0
  have hsplit : (match pagesP C M 0 r ln with | .error e => (.error e : Except Nat St) | .ok (gs, es, r3, ln3) => if r3 = [] then .ok ⟨gs, es, bl⟩ else .error (ln3 + 1)) =
      (match (match pagesP C (M - 0) 0 r ln with
        | .error e => (.error e : Except Nat (List (List (List By)) × List Int))
        | .ok (gs, es, r3, ln3) => if r3 = [] then .ok (gs, es) else .error (ln3 + 1)) with | .error e => .error e | .ok (gs, es) => .ok ⟨gs, es, bl⟩) := by
    rw [Nat.sub_zero]
    cases pagesP C M 0 r ln with
    | error e => rfl
    | ok p =>
      obtain ⟨gs, es, r3, ln3⟩ := p
      dsimp only
      by_cases hr : r3 = []
      · rw [if_pos hr, if_pos hr]
      · rw [if_neg hr, if_neg hr]
  rw [hsplit, hpl]
  cases hl : lineOf r with
  | none =>
    dsimp only
    rw [splitL_none hl]
    by_cases hr : r = []
    · rw [if_pos hr]
      show (if 0 < 0 ∧ 0 = M then (.ok _ : Except Nat St) else .error (ln + 1)) = _
      rw [if_neg (by omega)]
    · rw [if_neg hr, runC]
      have hno := lineOf_no r hl
      have hs : stepC C M r ⟨List.replicate M (bkP C), List.replicate M 0, bl⟩ 0 0 = none := by
        unfold stepC
        rw [cellC_noLF r hno, lineC_noLF wPage r 2 hno]
        split <;> rfl
      rw [hs]
  | some p =>
    obtain ⟨l, r'⟩ := p
    dsimp only
    rw [splitL_some hl, runC]
    by_cases h4 : (l ++ [10#8]).take 4 = wCell
    · have hs : stepC C M (l ++ [10#8]) ⟨List.replicate M (bkP C), List.replicate M 0, bl⟩ 0 0 = none := by
        unfold stepC
        rw [if_pos h4]
        split
        · rw [if_neg (by omega)]
        · rfl
      rw [hs]
      dsimp only
      have hv : values? l wPage = none := by
        cases hv : values? l wPage with
        | none => rfl
        | some v =>
          exfalso
          obtain ⟨e1, _⟩ := values_some hv
          rw [e1] at h4
          have : ((wPage ++ numsL v) ++ [10#8]).take 4 = wPage := by rw [List.append_assoc]; exact List.take_left (l₁ := wPage)
          rw [this] at h4
          revert h4; decide
      rw [hv]
    · rw [step_page C M l 0 0 _ h4]
      cases hv : values? l wPage with
      | none => rfl
      | some v =>
        match v with
        | [] => rfl
        | [_] => rfl
        | _ :: _ :: _ :: _ => rfl
        | [q, e] =>
          dsimp only
          by_cases hq : q = 0
          · subst hq
            rw [if_pos ⟨rfl, hM⟩, if_pos rfl]
            dsimp only
            obtain ⟨m, hm⟩ : ∃ m, M = m + 1 := ⟨M - 1, by omega⟩
            subst hm
            have := run_mid C (m + 1) bl r'.length r' r'.length 1 0 (ln + 1) (bkP C) [] [] (e : Int) (Nat.le_refl _) (Nat.le_refl _) rfl rfl (by omega)
            rw [show m + 1 - 1 = m by omega] at this
            have e1 : List.replicate (m + 1) (bkP C) = [] ++ bkP C :: List.replicate m (bkP C) := by rw [List.replicate_succ]; rfl
            have e2 : (List.replicate (m + 1) (0 : Int)).set 0 (e : Int) = [] ++ (e : Int) :: List.replicate m 0 := by rw [List.replicate_succ]; rfl
            rw [e1, e2, this]
            show (match midP C (m + 1) (0 + 1) r'.length r' (ln + 1) (-1) (bkP C) with | .error e => (.error e : Except Nat St) | .ok (gs, es) => .ok ⟨[] ++ gs, [] ++ (e : Int) :: es, bl⟩) = _
            cases midP C (m + 1) (0 + 1) r'.length r' (ln + 1) (-1) (bkP C) with
            | error k => rfl
            | ok p => rfl
          · rw [if_neg (fun h => hq h.1), if_neg hq]
/-- The landed reader tells what the document asks. -/
theorem codeP_eq (T : List By) : codeP T = parseL T := by
  unfold codeP parseL
  cases hl : lineOf T with
  | none =>
    rw [splitL_none hl]
    by_cases hT : T = []
    · rw [if_pos hT]
    · rw [if_neg hT]
      dsimp only
      rw [lineC_noLF wChip T 7 (lineOf_no T hl)]
      rfl
  | some p =>
    obtain ⟨l, r⟩ := p
    rw [splitL_some hl]
    dsimp only
    have hc : (lineC wChip 7 (l ++ [10#8])).bind cfgOf = (values? l wChip).bind cfgOf := by
      rw [lineC_values wChip l 7 (by decide)]
      cases values? l wChip with
      | none => rfl
      | some v =>
        show (if v.length = 7 then some v else none).bind cfgOf = cfgOf v
        by_cases hv : v.length = 7
        · rw [if_pos hv]; rfl
        · rw [if_neg hv]
          show none = cfgOf v
          cases hcf : cfgOf v with
          | none => rfl
          | some c =>
            exfalso
            have := cfgOf_some hcf
            rw [this] at hv
            exact hv rfl
    rw [hc]
    cases (values? l wChip).bind cfgOf with
    | none => rfl
    | some c =>
      dsimp only
      by_cases hm : c.may = 0
      · rw [if_pos hm, if_pos hm]
        cases hl2 : lineOf r with
        | none =>
          rw [splitL_none hl2]
          by_cases hr : r = []
          · rw [if_pos hr]
          · rw [if_neg hr]
            dsimp only
            rw [blownC_noLF _ r (lineOf_no r hl2)]
        | some p =>
          obtain ⟨l2, r2⟩ := p
          rw [splitL_some hl2]
          dsimp only
          rw [← blownC_eq]
          cases blownC (c.slots * c.fuses + c.keys).toNat (l2 ++ [10#8]) with
          | none => rfl
          | some v =>
            dsimp only [Option.map]
            have ha := (may_all hm).2.2.2.2.2.2
            have := run_all c.cells.toNat (2 + 2 * c.area).toNat (marks (c.slots * c.fuses + c.keys).toNat v) r2 2 (by omega)
            rw [show (freshN (2 + 2 * c.area).toNat c.cells.toNat 0).pages = List.replicate (2 + 2 * c.area).toNat (bkP c.cells.toNat) from rfl, this]
            cases pagesP c.cells.toNat (2 + 2 * c.area).toNat 0 r2 2 with
            | error k => rfl
            | ok p =>
              obtain ⟨gs, es, r3, ln⟩ := p
              dsimp only
              by_cases hr3 : r3 = []
              · rw [if_pos hr3, if_pos hr3]
              · rw [if_neg hr3, if_neg hr3]
      · rw [if_neg hm, if_neg hm]
end Go.Proofs.YtgpnbiaghokjkaaDoor
