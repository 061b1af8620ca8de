
import Derived.Test.YtjooabgjkjnhhaaGreatDoorT24Math
/-! Token as data: tags on the way, and what one tag of two tokens says (of any function of tags). -/
namespace Go.Proofs.YtjooabgjkjnhhaaGreatDoor
set_option linter.unusedVariables false
section
variable (tg : List By → List By → List By)
/-- The right tag. -/
def rightT (s id : List By) (l : List Cv) : List By := l.foldl (fun g c => tg g (cvB c)) (tg s (firstB id))
/-- A key, a message, their tag: all on the way. -/
def prsF (g : List By) : List Cv → List (List By × List By × List By)
  | [] => []
  | c :: l => (g, cvB c, tg g (cvB c)) :: prsF (tg g (cvB c)) l
def prs (s id : List By) (l : List Cv) : List (List By × List By × List By) := (s, firstB id, tg s (firstB id)) :: prsF tg (tg s (firstB id)) l
def clashP (L : List (List By × List By × List By)) : Prop := ∃ x ∈ L, ∃ y ∈ L, x.2.2 = y.2.2 ∧ (x.1 ≠ y.1 ∨ x.2.1 ≠ y.2.1)
theorem rightT_snoc (s id : List By) (l : List Cv) (c : Cv) : rightT tg s id (l ++ [c]) = tg (rightT tg s id l) (cvB c) := by
  unfold rightT; rw [List.foldl_append]; rfl
theorem prsF_snoc : ∀ (l : List Cv) (g : List By) (c : Cv), prsF tg g (l ++ [c]) = prsF tg g l ++ [(l.foldl (fun g c => tg g (cvB c)) g, cvB c, tg (l.foldl (fun g c => tg g (cvB c)) g) (cvB c))]
  | [], g, c => rfl
  | d :: l, g, c => by rw [List.cons_append, prsF, prsF_snoc l, prsF]; rfl
theorem prs_snoc (s id : List By) (l : List Cv) (c : Cv) : prs tg s id (l ++ [c]) = prs tg s id l ++ [(rightT tg s id l, cvB c, tg (rightT tg s id l) (cvB c))] := by
  unfold prs rightT; rw [prsF_snoc]; rfl
theorem prs_len (s id : List By) : ∀ l : List Cv, (prs tg s id l).length = l.length + 1 := by
  have : ∀ (l : List Cv) (g : List By), (prsF tg g l).length = l.length := fun l => by
    induction l with
    | nil => intro g; rfl
    | cons c l ih => intro g; rw [prsF, List.length_cons, ih, List.length_cons]
  intro l
  unfold prs
  rw [List.length_cons, this]
theorem firstB_inj {a b : List By} (h : firstB a = firstB b) : a = b := by
  have : (firstB a).drop 18 = (firstB b).drop 18 := by rw [h]
  exact this
theorem firstB_ne_cvB {id : List By} {c : Cv} (h : cvMay c = true) : firstB id ≠ cvB c := by
  intro e
  have hk := (cvMay_in h).1
  have h0 : (firstB id).getD 0 0 = (cvB c).getD 0 0 := by rw [e]
  have h1 : (112#8 : By) = BitVec.ofInt 8 c.k := h0
  have h2 := congrArg BitVec.toNat h1
  have h3 := ofInt8 (n := c.k) (by omega) (by omega)
  have h4 : (112#8 : By).toNat = 112 := rfl
  omega
theorem cvB_inj {c d : Cv} (h : cvMay c = true) (hz : c.z < 18446744073709551616) (h' : cvMay d = true) (hz' : d.z < 18446744073709551616) (e : cvB c = cvB d) : c = d := by
  have h1 := cvAt_cvB h hz []
  have h2 := cvAt_cvB h' hz' []
  rw [← h1, ← h2, e]
theorem clashP_mono {L M : List (List By × List By × List By)} (h : clashP L) (hs : ∀ x ∈ L, x ∈ M) : clashP M := by
  obtain ⟨x, hx, y, hy, h1⟩ := h
  exact ⟨x, hs x hx, y, hs y hy, h1⟩
/-- One tag: the same token, or a clash. -/
theorem only24 (s : List By) : ∀ (n : Nat) (id id' : List By) (l l' : List Cv), l.length ≤ n → (∀ c ∈ l, cvMay c = true ∧ c.z < 18446744073709551616) → (∀ c ∈ l', cvMay c = true ∧ c.z < 18446744073709551616) →
    rightT tg s id l = rightT tg s id' l' → ¬ (id = id' ∧ l = l') → clashP (prs tg s id l ++ prs tg s id' l') := by
  intro n
  induction n with
  | zero =>
    intro id id' l l' hn hl hl' he hne
    have : l = [] := List.eq_nil_of_length_eq_zero (by omega)
    subst this
    rcases List.eq_nil_or_concat l' with rfl | ⟨m', c', rfl⟩
    · refine ⟨_, List.mem_append_left _ (List.mem_cons_self ..), _, List.mem_append_right _ (List.mem_cons_self ..), he, .inr fun e => hne ⟨firstB_inj e, rfl⟩⟩
    · rw [List.concat_eq_append] at *
      rw [rightT_snoc] at he
      refine ⟨_, List.mem_append_left _ (List.mem_cons_self ..), (rightT tg s id' m', cvB c', tg (rightT tg s id' m') (cvB c')), List.mem_append_right _ (by rw [prs_snoc]; simp), he, .inr fun e => ?_⟩
      exact firstB_ne_cvB (hl' c' (by simp)).1 e
  | succ n ih =>
    intro id id' l l' hn hl hl' he hne
    rcases List.eq_nil_or_concat l with rfl | ⟨m, c, rfl⟩
    · rcases List.eq_nil_or_concat l' with rfl | ⟨m', c', rfl⟩
      · refine ⟨_, List.mem_append_left _ (List.mem_cons_self ..), _, List.mem_append_right _ (List.mem_cons_self ..), he, .inr fun e => hne ⟨firstB_inj e, rfl⟩⟩
      · rw [List.concat_eq_append] at *
        rw [rightT_snoc] at he
        refine ⟨_, List.mem_append_left _ (List.mem_cons_self ..), (rightT tg s id' m', cvB c', tg (rightT tg s id' m') (cvB c')), List.mem_append_right _ (by rw [prs_snoc]; simp), he, .inr fun e => ?_⟩
        exact firstB_ne_cvB (hl' c' (by simp)).1 e
    · rw [List.concat_eq_append] at *
      rw [rightT_snoc] at he
      rcases List.eq_nil_or_concat l' with rfl | ⟨m', c', rfl⟩
      · refine ⟨(rightT tg s id m, cvB c, tg (rightT tg s id m) (cvB c)), List.mem_append_left _ (by rw [prs_snoc]; simp), _, List.mem_append_right _ (List.mem_cons_self ..), he, .inr fun e => ?_⟩
        exact firstB_ne_cvB (hl c (by simp)).1 e.symm
      · rw [List.concat_eq_append] at *
        rw [rightT_snoc] at he
        by_cases hk : rightT tg s id m = rightT tg s id' m' ∧ cvB c = cvB c'
        · have hc := hl c (by simp)
          have hc' := hl' c' (by simp)
          have ec := cvB_inj hc.1 hc.2 hc'.1 hc'.2 hk.2
          subst ec
          rw [List.length_append, List.length_singleton] at hn
          refine clashP_mono (ih id id' m m' (by omega) (fun d hd => hl d (List.mem_append_left _ hd)) (fun d hd => hl' d (List.mem_append_left _ hd)) hk.1 fun e => hne ⟨e.1, by rw [e.2]⟩) fun x hx => ?_
          rw [prs_snoc, prs_snoc]
          rcases List.mem_append.1 hx with h | h
          · exact List.mem_append_left _ (List.mem_append_left _ h)
          · exact List.mem_append_right _ (List.mem_append_left _ h)
        · refine ⟨(rightT tg s id m, cvB c, tg (rightT tg s id m) (cvB c)), List.mem_append_left _ (by rw [prs_snoc]; simp), (rightT tg s id' m', cvB c', tg (rightT tg s id' m') (cvB c')), List.mem_append_right _ (by rw [prs_snoc]; simp), he, ?_⟩
          by_cases h1 : rightT tg s id m = rightT tg s id' m'
          · exact .inr fun e => hk ⟨h1, e⟩
          · exact .inl h1
end
end Go.Proofs.YtjooabgjkjnhhaaGreatDoor
