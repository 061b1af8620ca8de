
import Derived.Test.YtpcgkjngpdplmaaGreatDoorM19Math
/-! The code's model as data: its states, what a deed tells, which answers are explained; answers that are explained stay so, cut short. -/
namespace Go.Proofs.YtpcgkjngpdplmaaGreatDoor
open Go.RowKit
set_option linter.unusedVariables false

/-- A state. -/
structure CS where
  num : List Int
  rev : Nat
  l0 : Nat
  l1 : Nat
  is : Bool
  slot : Nat
  ver : Nat
  ev : Nat
  cuts : Nat
  first : Nat
  rom : Bool
  pow : Bool
/-- What the gate finds in bytes. -/
structure Fd where
  wrong : Int
  signed : Bool
  slot : Nat
  key : Nat
  ver : Nat
def CS.lies (s : CS) (i : Nat) : Nat := if i = 0 then s.l0 else s.l1
def CS.lay (s : CS) (i k : Nat) : CS := if i = 0 then { s with l0 := k } else { s with l1 := k }
def CS.raised (s : CS) (k : Nat) (v : Int) : CS := { s with num := s.num.set k v }
abbrev fd0 : Fd := ⟨0, false, 0, 0, 0⟩
abbrev an0 (e : Int) : AN := ⟨e, 0, false, zH⟩
def findC (c : Cfg) (l : Secs) (b : List By) : Fd :=
  match parse b with
  | .error (e, _) => ⟨e, false, 0, 0, 0⟩
  | .ok (sl, k, v, _, t) =>
    if c.slots ≤ sl then ⟨5, false, sl, k, v⟩
    else if c.keys ≤ k ∨ (fnd l k).isSome = false then ⟨13, false, sl, k, v⟩
    else ⟨0, decide (sgnE l k = 0 ∧ sgn l k (b.take (b.length - 32)) = t), sl, k, v⟩
def checkC (c : Cfg) (f : Fd) (s : CS) : Int :=
  if f.wrong ≠ 0 then f.wrong else if s.rev.testBit f.key then 14 else if f.signed = false then 15
  else if (f.ver : Int) < s.num.getD f.slot 0 ∨ c.last < f.ver then 16 else 0
/-- What was staged: a list of bytes; the number 0 is nothing. -/
def stg (c : Cfg) (l : Secs) (B : List (List By)) (k : Nat) : Fd × List By :=
  if k = 0 then (⟨5, false, 0, 0, 0⟩, zH) else (findC c l (B.getD (k - 1) []), sha (B.getD (k - 1) []))
def startedC (c : Cfg) (l : Secs) (B : List (List By)) (s : CS) : Option Nat :=
  if checkC c (stg c l B (s.lies s.first)).1 s = 0 then some s.first
  else if checkC c (stg c l B (s.lies (1 - s.first))).1 s = 0 then some (1 - s.first) else none
/-- What is told: answers, and the states behind them. -/
abbrev TL := List (AN × CS)
def goesC (L : List CS) : TL := L.filterMap fun s => if s.cuts < 12 then some (an0 8, { s with cuts := s.cuts + 1, pow := false }) else none
def raiseC (c : Cfg) (k : Nat) (v : Int) (a : AN) (s : CS) : TL :=
  if v ≤ s.num.getD k 0 then [(a, s)] else if c.last < v then [(an0 10, s)]
  else (a, s.raised k v) :: (an0 9, s) :: goesC [s, s.raised k v]
def revokeC (k : Nat) (s : CS) : TL :=
  if s.rev.testBit k then [(an0 0, s)] else (an0 0, { s with rev := s.rev ||| 2 ^ k }) :: goesC [s, { s with rev := s.rev ||| 2 ^ k }]
def CS.drop (s : CS) : CS := { s with is := false, slot := 0, ver := 0 }
def triedC (f : Fd) (e : Int) (d : List By) (s : CS) : TL :=
  if 1024 ≤ s.ev then [(an0 3, s.drop)] else if e ≠ 0 then [(an0 e, { s.drop with ev := s.ev + 1 })]
  else [(⟨0, f.ver, false, d⟩, { s with ev := s.ev + 1, is := true, slot := f.slot, ver := f.ver })]
def startC (c : Cfg) (l : Secs) (B : List (List By)) (s : CS) : TL :=
  match startedC c l B s with
  | none => triedC fd0 17 zH s
  | some n => triedC (stg c l B (s.lies n)).1 0 (stg c l B (s.lies n)).2 s
def targetC (c : Cfg) (l : Secs) (B : List (List By)) (s : CS) : Nat := match startedC c l B s with | some n => 1 - n | none => 1 - s.first
def Cfg.size19 (c : Cfg) : Int := c.area * c.cells * 32
def stageC (c : Cfg) (l : Secs) (B : List (List By)) (b : List By) (n : Nat) (s : CS) : TL :=
  let f := findC c l b
  if checkC c f s ≠ 0 then [(an0 (checkC c f s), s)] else if c.size19 < b.length then [(an0 4, s)]
  else
    let t := targetC c l B s
    (an0 0, { s.lay t n with first := t }) :: (an0 9, s) :: goesC [s, s.lay t 0, s.lay t n, { s.lay t n with first := t }]
/-- The number that bytes get, and what is staged then. -/
def layC (c : Cfg) (l : Secs) (B : List (List By)) (b : List By) : Nat × List (List By) :=
  if (findC c l b).wrong ≠ 0 ∨ (findC c l b).signed = false ∨ c.size19 < b.length then (0, B)
  else match B.findIdx? (· == b) with | some i => (i + 1, B) | none => (B.length + 1, B ++ [b])
def confirmC (c : Cfg) (s : CS) : TL := if s.is then raiseC c s.slot (s.ver : Int) (an0 0) s else [(an0 11, s)]
/-- What is staged behind a step. -/
def staC (c : Cfg) (l : Secs) (B : List (List By)) (o : SP) : List (List By) := if o.kind = 8 then (layC c l B o.b).2 else B
/-- A step that asks a rom with power. (B: what is staged behind it.) -/
def askedC (c : Cfg) (l : Secs) (B : List (List By)) (n : Nat) (o : SP) (s : CS) : TL :=
  if o.kind = 1 then if 0 ≤ o.n ∧ o.n < c.slots then [(⟨0, s.num.getD o.n.toNat 0, false, zH⟩, s)] else [(an0 2, s)]
  else if o.kind = 2 then if 0 ≤ o.n ∧ o.n < c.slots then raiseC c o.n.toNat (s.num.getD o.n.toNat 0 + 1) ⟨0, s.num.getD o.n.toNat 0 + 1, false, zH⟩ s else [(an0 2, s)]
  else if o.kind = 3 then if (0 ≤ o.n ∧ o.n < c.slots) ∧ 0 ≤ o.v then raiseC c o.n.toNat o.v (an0 0) s else [(an0 2, s)]
  else if o.kind = 4 then if 0 ≤ o.n ∧ o.n < c.keys then revokeC o.n.toNat s else [(an0 2, s)]
  else if o.kind = 5 then if 0 ≤ o.n ∧ o.n < c.keys then [(⟨0, 0, s.rev.testBit o.n.toNat, zH⟩, s)] else [(an0 2, s)]
  else if o.kind = 6 then triedC (findC c l o.b) (checkC c (findC c l o.b) s) zH s
  else if o.kind = 7 then confirmC c s
  else if o.kind = 8 then stageC c l B o.b n s
  else startC c l B s
def onRomC (D : CS → TL) (s : CS) : TL := if s.rom then D s else [(an0 11, s)]
def withPowerC (D : CS → TL) (s : CS) : TL := if s.pow then D s else [(an0 8, s)]
def nothingC (s : CS) : TL := [(an0 0, s)]
def restoreC (s : CS) : TL := [(an0 0, { s with pow := true, rom := false })]
def mountC (s : CS) : TL := if s.pow then [(an0 0, { s.drop with rom := true, ev := 0 })] else [(an0 8, { s with rom := false })]
/-- B: what is staged ahead of the step. -/
def deedC (c : Cfg) (l : Secs) (B : List (List By)) (o : SP) : CS → TL :=
  if o.kind = 11 then nothingC else if o.kind = 12 then restoreC else if o.kind = 10 then mountC else if o.kind = 13 then onRomC nothingC
  else if 1 ≤ o.kind ∧ o.kind ≤ 9 then onRomC (withPowerC (askedC c l (staC c l B o) (layC c l B o.b).1 o)) else fun s => [(an0 12, s)]
/-- What is looked at of an answer. -/
def lookC (o : SP) (a : AN) : AN := if o.kind = 13 then { a with h := zH } else a
def anEq (a b : AN) : Bool := decide (a.e = b.e ∧ a.v = b.v ∧ a.is = b.is ∧ a.h = b.h)
theorem anEq_iff (a b : AN) : anEq a b = true ↔ a = b := by
  unfold anEq
  rw [decide_eq_true_iff]
  exact ⟨fun h => by cases a; cases b; simp_all, fun h => by rw [h]; simp⟩
@[reducible] def anDec (a b : AN) : Decidable (a = b) := decidable_of_iff _ (anEq_iff a b)
/-- The states that are told beside an answer. -/
def hitC (a : AN) (T : TL) : List CS := T.filterMap fun p => if anEq p.1 a then some p.2 else none
def behC (D : CS → TL) (a : AN) (C : List CS) : List CS := C.flatMap fun s => hitC a (D s)
def runC (c : Cfg) (l : Secs) : Nat → List (List By) → List CS → List SP → List AN → Bool × Nat
  | n, B, C, o :: S, a :: A => if (behC (deedC c l B o) (lookC o a) C).isEmpty then (false, n) else runC c l (n + 1) (staC c l B o) (behC (deedC c l B o) (lookC o a) C) S A
  | _, _, _, _, _ => (true, 0)
def firstC : CS := ⟨List.replicate 8 0, 0, 0, 0, false, 0, 0, 0, 0, 0, true, true⟩
def explC (c : Cfg) (l : Secs) (S : List SP) (A : List AN) : Bool × Nat :=
  if c.may ≠ 0 ∨ newE l ≠ none ∨ S.length ≠ A.length then (false, 0) else runC c l 0 [] [firstC] S A

theorem runC_short (c : Cfg) (l : Secs) : ∀ (S : List SP) (A : List AN) (n : Nat) (B : List (List By)) (C : List CS), S.length = A.length →
    (runC c l n B C S A = (true, 0) ∧ ∀ k, k ≤ S.length → runC c l n B C (S.take k) (A.take k) = (true, 0)) ∨
    (∃ i, i < S.length ∧ runC c l n B C S A = (false, n + i) ∧ runC c l n B C (S.take i) (A.take i) = (true, 0) ∧ runC c l n B C (S.take (i + 1)) (A.take (i + 1)) = (false, n + i))
  | [], [], n, B, C, _ => .inl ⟨rfl, fun k _ => by simp [runC]⟩
  | [], a :: A, n, B, C, h => by simp at h
  | o :: S, [], n, B, C, h => by simp at h
  | o :: S, a :: A, n, B, C, h => by
    have hl : S.length = A.length := by simpa using h
    by_cases he : (behC (deedC c l B o) (lookC o a) C).isEmpty = true
    · refine .inr ⟨0, by simp, ?_, ?_, ?_⟩
      · rw [runC, if_pos he]; rfl
      · rw [List.take_zero, List.take_zero, runC]; intros; simp_all
      · rw [List.take_succ_cons, List.take_succ_cons, runC, if_pos he]; rfl
    · rcases runC_short c l S A (n + 1) (staC c l B o) (behC (deedC c l B o) (lookC o a) C) hl with ⟨h1, h2⟩ | ⟨i, hi, h1, h2, h3⟩
      · refine .inl ⟨by rw [runC, if_neg he, h1], fun k hk => ?_⟩
        cases k with
        | zero => rw [List.take_zero, List.take_zero, runC]; intros; simp_all
        | succ k => rw [List.take_succ_cons, List.take_succ_cons, runC, if_neg he]; exact h2 k (by simpa using hk)
      · refine .inr ⟨i + 1, by simpa using hi, ?_, ?_, ?_⟩
        · rw [runC, if_neg he, h1]; congr 1; omega
        · rw [List.take_succ_cons, List.take_succ_cons, runC, if_neg he, h2]
        · rw [List.take_succ_cons, List.take_succ_cons, runC, if_neg he, h3]; congr 1; omega
/-- What ModelShort asks. -/
theorem explC_short (c : Cfg) (l : Secs) (S : List SP) (A : List AN) (hl : S.length = A.length) :
    (explC c l S A = (true, 0) ∧ ∀ m, m ≤ S.length → explC c l (S.take m) (A.take m) = (true, 0)) ∨
    (explC c l [] [] = (false, 0) ∧ explC c l S A = (false, 0)) ∨
    (explC c l [] [] = (true, 0) ∧ ∃ at_, at_ < S.length ∧ explC c l S A = (false, at_) ∧ explC c l (S.take at_) (A.take at_) = (true, 0) ∧ explC c l (S.take (at_ + 1)) (A.take (at_ + 1)) = (false, at_)) := by
  have hcut : ∀ m, (S.take m).length = (A.take m).length := fun m => by rw [List.length_take, List.length_take, hl]
  by_cases hbad : c.may ≠ 0 ∨ newE l ≠ none
  · refine .inr (.inl ⟨?_, ?_⟩)
    · unfold explC
      rw [if_pos (by rcases hbad with h | h; exact .inl h; exact .inr (.inl h))]
    · unfold explC
      rw [if_pos (by rcases hbad with h | h; exact .inl h; exact .inr (.inl h))]
  · have hm : c.may = 0 := Classical.byContradiction fun h => hbad (.inl h)
    have hn : newE l = none := Classical.byContradiction fun h => hbad (.inr h)
    have he : ∀ (S' : List SP) (A' : List AN), S'.length = A'.length → explC c l S' A' = runC c l 0 [] [firstC] S' A' := fun S' A' h => by
      unfold explC
      rw [if_neg (by rintro (h1 | h1 | h1); exact h1 hm; exact h1 hn; exact h1 h)]
    rcases runC_short c l S A 0 [] [firstC] hl with ⟨e1, e2⟩ | ⟨i, hi, g3, g4, g5⟩
    · refine .inl ⟨by rw [he S A hl, e1], fun m hm' => ?_⟩
      rw [he _ _ (hcut m)]
      exact e2 m hm'
    · refine .inr (.inr ⟨by rw [he [] [] rfl]; rfl, i, hi, by rw [he S A hl, g3, Nat.zero_add], ?_, ?_⟩)
      · rw [he _ _ (hcut i)]; exact g4
      · rw [he _ _ (hcut (i + 1)), g5, Nat.zero_add]

/-- What holds of a state, g numbers of bytes being out. -/
structure CS.Ok (c : Cfg) (g : Nat) (s : CS) : Prop where
  num : s.num.length = 8
  val : ∀ i, i < 8 → 0 ≤ s.num.getD i 0 ∧ s.num.getD i 0 ≤ c.last
  rev : s.rev < 2 ^ 64
  l0 : s.l0 < g
  l1 : s.l1 < g
  slot : s.slot < 8
  ver : s.ver < 4294967296
  ev : s.ev ≤ 1024
  cuts : s.cuts ≤ 12
  first : s.first ≤ 1
/-- How many states may come of one: each loss of power makes four at most. -/
def CS.wt (s : CS) : Nat := 4 ^ (12 - s.cuts)
def wtL (L : List CS) : Nat := (L.map CS.wt).sum
theorem wtL_cons (s : CS) (L : List CS) : wtL (s :: L) = s.wt + wtL L := by simp [wtL]
theorem wtL_nil : wtL [] = 0 := rfl
theorem wtL_append (L M : List CS) : wtL (L ++ M) = wtL L + wtL M := by simp [wtL]
theorem CS.wt_pos (s : CS) : 0 < s.wt := Nat.pow_pos (by omega)
theorem len_wtL : ∀ L : List CS, L.length ≤ wtL L
  | [] => Nat.le_refl _
  | s :: L => by rw [wtL_cons, List.length_cons]; have := len_wtL L; have := s.wt_pos; omega
/-- A deed that keeps states as they may be, and tells no more than four ways of losing power. -/
structure DOk (c : Cfg) (g g' : Nat) (D : CS → TL) : Prop where
  ok : ∀ s, s.Ok c g → ∀ p ∈ D s, p.2.Ok c g'
  wt : ∀ s, s.Ok c g → ∀ a, wtL (hitC a (D s)) ≤ s.wt
theorem hit_cons (a : AN) (p : AN × CS) (T : TL) : hitC a (p :: T) = @ite _ (p.1 = a) (anDec p.1 a) (p.2 :: hitC a T) (hitC a T) := by
  unfold hitC
  rw [List.filterMap_cons]
  by_cases h : p.1 = a
  · rw [if_pos ((anEq_iff _ _).2 h), if_pos h]
  · rw [if_neg (fun e => h ((anEq_iff _ _).1 e)), if_neg h]
theorem hit_nil (a : AN) : hitC a [] = [] := rfl
theorem hit_append (a : AN) (T U : TL) : hitC a (T ++ U) = hitC a T ++ hitC a U := by simp [hitC]
theorem one_wt {p : AN × CS} {s : CS} (h : p.2.cuts = s.cuts) (a : AN) : wtL (hitC a [p]) ≤ s.wt := by
  rw [hit_cons, hit_nil]
  split
  · rw [wtL_cons, wtL_nil]; unfold CS.wt; rw [h]; exact Nat.le_refl _
  · exact Nat.zero_le _
/-- Other errors than the loss of power are told once. -/
theorem goes_other {a : AN} (h : a.e ≠ 8) : ∀ L : List CS, hitC a (goesC L) = []
  | [] => rfl
  | s :: L => by
    have ih := goes_other h L
    unfold goesC at ih ⊢
    rw [List.filterMap_cons]
    split
    · exact ih
    · rename_i b hb
      split at hb
      · injection hb with hb
        rw [hit_cons, ih, if_neg]
        rw [← hb]
        intro e
        apply h
        rw [← e]
      · cases hb
theorem goes_wt {s : CS} (hs : s.cuts ≤ 12) (a : AN) : ∀ L : List CS, (∀ t ∈ L, t.cuts = s.cuts) → L.length ≤ 4 → wtL (hitC a (goesC L)) ≤ s.wt := by
  by_cases h12 : s.cuts = 12
  · intro L hL _
    have : goesC L = [] := by
      unfold goesC
      rw [List.filterMap_eq_nil_iff]
      intro t ht
      rw [if_neg (by rw [hL t ht]; omega)]
    rw [this]; exact Nat.zero_le _
  · have key : ∀ L : List CS, (∀ t ∈ L, t.cuts = s.cuts) → wtL (hitC a (goesC L)) ≤ L.length * 4 ^ (11 - s.cuts) := by
      intro L
      induction L with
      | nil => intro _; exact Nat.zero_le _
      | cons t L ih =>
        intro hL
        have ih := ih fun u hu => hL u (List.mem_cons_of_mem _ hu)
        have ht := hL t (List.mem_cons_self ..)
        have e : goesC (t :: L) = (an0 8, { t with cuts := t.cuts + 1, pow := false }) :: goesC L := by
          unfold goesC
          rw [List.filterMap_cons, if_pos (by omega)]
        rw [e, hit_cons, List.length_cons, Nat.add_one_mul]
        split
        · rw [wtL_cons]
          have : ({ t with cuts := t.cuts + 1, pow := false } : CS).wt = 4 ^ (11 - s.cuts) := by
            unfold CS.wt
            simp only
            congr 1
            omega
          show CS.wt { t with cuts := t.cuts + 1, pow := false } + _ ≤ _
          rw [this, Nat.add_comm]
          exact Nat.add_le_add_right ih _
        · exact Nat.le_trans ih (Nat.le_add_right _ _)
    intro L hL h4
    refine Nat.le_trans (key L hL) ?_
    unfold CS.wt
    rw [show 12 - s.cuts = (11 - s.cuts) + 1 by omega, Nat.pow_succ, Nat.mul_comm]
    exact Nat.mul_le_mul_left _ h4
end Go.Proofs.YtpcgkjngpdplmaaGreatDoor
