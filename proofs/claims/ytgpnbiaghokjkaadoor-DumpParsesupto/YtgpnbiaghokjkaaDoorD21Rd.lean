
import Derived.Test.YtgpnbiaghokjkaaDoorD21May
import Derived.BigQuiet
/-! Layer 21, the document's answer: the reader's next, see. -/
namespace Go.Proofs.YtgpnbiaghokjkaaDoor
open Go.RowKit
set_option linter.unusedVariables false
set_option linter.unusedSimpArgs false
set_option maxRecDepth 100000

theorem lineOf_none : ∀ (l : List By), 10#8 ∉ l → lineOf l = none
  | [], _ => rfl
  | x :: l, h => by
    rw [lineOf, if_neg (fun e => h (by rw [e]; exact List.mem_cons_self ..)), lineOf_none l (fun hm => h (List.mem_cons_of_mem _ hm))]
/-- A text gone through from a on up to i: no line feed yet. -/
def noLF (T : List By) (a i : Nat) : Prop := 10#8 ∉ (T.drop a).take (i - a)
theorem noLF_step {T : List By} {a i : Nat} (h : noLF T a i) (ha : a ≤ i) (hi : i < T.length) (hx : ¬ T.getD i 0 = 10#8) : noLF T a (i + 1) := by
  unfold noLF at h ⊢
  have e : (T.drop a).take (i + 1 - a) = (T.drop a).take (i - a) ++ [T.getD i 0] := by
    rw [show i + 1 - a = (i - a) + 1 by omega, List.take_add_one, List.getElem?_drop, show a + (i - a) = i by omega, List.getElem?_eq_getElem hi, List.getD_eq_getElem?_getD, List.getElem?_eq_getElem hi]; rfl
  rw [e, List.mem_append, not_or]
  exact ⟨h, fun hm => hx (List.mem_singleton.1 hm).symm⟩
theorem noLF_line {T : List By} {a i : Nat} (h : noLF T a i) (ha : a ≤ i) (hi : i < T.length) (hx : T.getD i 0 = 10#8) : lineOf (T.drop a) = some ((T.drop a).take (i - a), T.drop (i + 1)) := by
  have e : T.drop a = (T.drop a).take (i - a) ++ 10#8 :: T.drop (i + 1) := by
    conv => lhs; rw [← List.take_append_drop (i - a) (T.drop a)]
    rw [List.drop_drop, show a + (i - a) = i by omega, List.drop_eq_getElem_cons hi]
    rw [List.getD_eq_getElem?_getD, List.getElem?_eq_getElem hi] at hx
    rw [show T[i] = 10#8 from hx]
  have := lineOf_app ((T.drop a).take (i - a)) (T.drop (i + 1)) h
  rw [← e] at this
  exact this
theorem noLF_none {T : List By} {a : Nat} (h : noLF T a T.length) : lineOf (T.drop a) = none := by
  refine lineOf_none _ ?_
  unfold noLF at h
  rw [List.take_of_length_le (by rw [List.length_drop]; omega)] at h
  exact h

/-- The document's reader, in memory. -/
def rdC (T : List By) (a ln : Nat) : List Value := [.string (strOf T), .int .i64 (a : Int), .int .i64 (ln : Int)]
/-- What next tells and leaves. -/
def NextP (g : Nat) (T : List By) (a ln : Nat) (w : World) (e : Ending) (w' : World) : Prop :=
  (∃ l a', lineOf (T.drop a) = some (l, T.drop a') ∧ a' ≤ T.length ∧ a < a' ∧ e = .returned (.tuple #[.string (strOf l), .bool true]) ∧ Row w' g 65 (rdC T a' (ln + 1)) ∧ KeptL [g] w w') ∨
  (lineOf (T.drop a) = none ∧ e = .returned (.tuple #[.string (strOf []), .bool false]) ∧ Row w' g 65 (rdC T a (ln + 1)) ∧ KeptL [g] w w')

set_option maxHeartbeats 4000000 in
theorem r21next_any (g : Nat) (T : List By) (a ln : Nat) (w : World) (hr : Row w g 65 (rdC T a ln)) (ha : a ≤ T.length) (hT : T.length ≤ 140737488355328) (hln : ln ≤ 4611686018427387904) :
    Calls Tryd.prog 29 #[.pointer (some ⟨g, 0, none⟩)] w (NextP g T a ln w) := by
  have l0 := hr.cell 2 (.int .i64 (ln : Int)) rfl
  have l0f := hr.frozen 2
  have r1 := hr.set 2 (.int .i64 ((ln : Int) + 1))
  have s1 := SameBut.setCell g 2 (.int .i64 ((ln : Int) + 1)) w
  have e1 : (rdC T a ln).set 2 (.int .i64 ((ln : Int) + 1)) = rdC T a (ln + 1) := by simp [rdC]
  rw [e1] at r1
  have wl : IntKind.i64.wrap ((ln : Int) + 1) = (ln : Int) + 1 := i64_in _ (by omega) (by omega)
  obtain ⟨W1, hW1⟩ : ∃ W1, W1 = w.setCell ⟨g, 2, none⟩ (.int .i64 ((ln : Int) + 1)) := ⟨_, rfl⟩
  rw [← hW1] at r1 s1
  have c0 := r1.cell 0 (.string (strOf T)) rfl
  have c1 := r1.cell 1 (.int .i64 (a : Int)) rfl
  have f1 := r1.frozen 1
  have HR1 : Hid (Row W1 g 65 (rdC T a (ln + 1))) := r1
  have HS1 : Hid (KeptL [g] w W1) := (KeptL.refl _ _).but s1 (.inl (by simp))
  have HIX : Hid (∀ (i : Nat), i < T.length → ∀ W : World, (Instr.index 9 (.string (strOf T)) (.int .i64 (i : Int))).run Tryd.prog W = .ok (.int .u8 ((T.getD i 0).toNat : Int)) W) := fun i hi W => str_index T .i64 i hi W
  have HSL : Hid (∀ (i : Nat), a ≤ i → i ≤ T.length → ∀ W : World, (Instr.slice 9 (.string (strOf T)) (some (.int .i64 (a : Int))) (some (.int .i64 (i : Int))) none).run Tryd.prog W = .ok (.string (strOf ((T.drop a).take (i - a)))) W) := fun i h1 h2 W => str_slice T .i64 .i64 a i h1 h2 W
  have slen : ∀ W : World, (Builtin.len_ #[9] 3 #[.string (strOf T)]).run Tryd.prog W = .ok (goInt T.length) W := fun W => str_len T 3 W
  clear hr r1 s1 e1
  generalize strOf T = ST at *
  go_enter Tryd.func29, Tryd.ntmps29
  go_upto_region 2 with fail
  rw [← hW1]
  clear hW1 l0 l0f
  go_wp2_with fail
  go_loopw [4] (fun iv wr => ∃ i : Nat, a ≤ i ∧ i ≤ T.length ∧ iv = .int .i64 i ∧ wr = W1 ∧ Hid (noLF T a i)) (fun iv _ => T.length - (intOf iv).toNat)
  case atStart => exact ⟨a, Nat.le_refl _, ha, rfl, rfl, by show 10#8 ∉ _; rw [Nat.sub_self]; simp⟩
  case round =>
    obtain ⟨i, hi1, hi2, rfl, rfl, HN⟩ := hrel
    by_cases hlt : i < T.length
    · have y0 : (0 : Int) ≤ (i : Int) := by omega
      have y1 : (i : Int) < (T.length : Int) := by omega
      have ix := HIX.out i hlt
      by_cases hx : T.getD i 0 = 10#8
      · have sl := HSL.out i hi1 hi2
        have hxn : ((T.getD i 0).toNat : Int) = 10 := by rw [hx]; rfl
        rw [hxn] at ix
        have HL : Hid (lineOf (T.drop a) = some ((T.drop a).take (i - a), T.drop (i + 1))) := noLF_line HN.out hi1 hlt hx
        have HR2 : Hid (∀ n, Row ((wr.drewN n).setCell ⟨g, 1, none⟩ (.int .i64 ((i : Int) + 1))) g 65 (rdC T (i + 1) (ln + 1))) := fun n => by
          have r2 := (HR1.out.dr ⟨n, rfl⟩).set 1 (.int .i64 ((i : Int) + 1))
          have e2 : (rdC T a (ln + 1)).set 1 (.int .i64 ((i : Int) + 1)) = rdC T (i + 1) (ln + 1) := by simp [rdC]
          rw [e2] at r2
          exact r2
        have HS2 : Hid (∀ n, KeptL [g] w ((wr.drewN n).setCell ⟨g, 1, none⟩ (.int .i64 ((i : Int) + 1)))) := fun n => (HS1.out.dr ⟨n, rfl⟩).but (SameBut.setCell g 1 (.int .i64 ((i : Int) + 1)) (wr.drewN n)) (.inl (by simp))
        have wi : IntKind.i64.wrap ((i : Int) + 1) = (i : Int) + 1 := i64_in _ (by omega) (by omega)
        clear HN hx hxn
        obtain ⟨SL, hSL⟩ : ∃ SL, strOf ((T.drop a).take (i - a)) = SL := ⟨_, rfl⟩
        rw [hSL] at sl
        have HSLE : Hid (strOf ((T.drop a).take (i - a)) = SL) := hSL
        clear hSL
        go_wp2
        go_quiet (fail)
        go_wp2
        go_ret2
        exact .inl ⟨_, i + 1, HL.out, by omega, by omega, by rw [HSLE.out]; rfl, HR2.out _, HS2.out _⟩
      · have HN2 : Hid (noLF T a (i + 1)) := noLF_step HN.out hi1 hlt hx
        have hq : (((T.getD i 0).toNat : Int) == 10) = false := by
          rw [beq_eq_false_iff_ne]
          intro e
          exact hx (BitVec.eq_of_toNat_eq (by show (T.getD i 0).toNat = 10; omega))
        clear HN hx
        generalize (T.getD i 0).toNat = y at *
        go_wp2
        exact ⟨⟨i + 1, by omega, by omega, by go_num, by first | trivial | rfl, HN2⟩, by simp [intOf]; omega⟩
    · obtain rfl : i = T.length := by omega
      have HL : Hid (lineOf (T.drop a) = none) := noLF_none HN.out
      clear HN
      go_wp2
      go_ret2
      exact .inr ⟨HL.out, rfl, HR1.out, HS1.out⟩

theorem sees_eq (T word : List By) (a : Nat) (ha : a ≤ T.length) : sees (T.drop a) word = (decide (word.length ≤ T.length - a) && decide ((T.drop a).take word.length = word)) := by
  unfold sees
  by_cases h : word.length ≤ T.length - a
  · rw [decide_eq_true h, Bool.true_and]
  · rw [decide_eq_false h, Bool.false_and]
    refine decide_eq_false fun e => h ?_
    have := congrArg List.length e
    rw [List.length_take, List.length_drop] at this
    omega
set_option maxHeartbeats 4000000 in
theorem r21see_any (g : Nat) (T word : List By) (a ln : Nat) (w : World) (hr : Row w g 65 (rdC T a ln)) (ha : a ≤ T.length) (hT : T.length ≤ 140737488355328) (hw : word.length ≤ 1000) :
    Calls Tryd.prog 48 #[.pointer (some ⟨g, 0, none⟩), .string (strOf word)] w fun e w' => e = .returned (.bool (sees (T.drop a) word)) ∧ Dr w w' := by
  have c0 := hr.cell 0 (.string (strOf T)) rfl
  have c1 := hr.cell 1 (.int .i64 (a : Int)) rfl
  have sl1 : ∀ W : World, (Builtin.len_ #[9] 3 #[.string (strOf T)]).run Tryd.prog W = .ok (goInt T.length) W := fun W => str_len T 3 W
  have sl2 : ∀ W : World, (Builtin.len_ #[9] 3 #[.string (strOf word)]).run Tryd.prog W = .ok (goInt word.length) W := fun W => str_len word 3 W
  have w1 : IntKind.i64.wrap ((T.length : Int) - (a : Int)) = (T.length : Int) - (a : Int) := i64_in _ (by omega) (by omega)
  have HSE := sees_eq T word a ha
  clear hr
  by_cases h : word.length ≤ T.length - a
  · have h1 : decide ((word.length : Int) ≤ (T.length : Int) - (a : Int)) = true := by simp; omega
    have h2 : (T.length : Int) - (a : Int) ≥ (word.length : Int) := by omega
    have w2 : IntKind.i64.wrap ((a : Int) + (word.length : Int)) = ((a + word.length : Nat) : Int) := by rw [i64_in _ (by omega) (by omega)]; omega
    have sx : ∀ W : World, (Instr.slice 9 (.string (strOf T)) (some (.int .i64 (a : Int))) (some (.int .i64 ((a + word.length : Nat) : Int))) none).run Tryd.prog W = .ok (.string (strOf ((T.drop a).take word.length))) W := fun W => by
      have := str_slice T .i64 .i64 a (a + word.length) (by omega) (by omega) W
      rw [Nat.add_sub_cancel_left] at this
      exact this
    have hq := strOf_beq ((T.drop a).take word.length) word
    rw [decide_eq_true h, Bool.true_and] at HSE
    have HS : Hid (sees (T.drop a) word = decide ((T.drop a).take word.length = word)) := HSE
    clear HSE h
    generalize decide ((T.drop a).take word.length = word) = R at *
    generalize sees (T.drop a) word = R0 at *
    generalize strOf ((T.drop a).take word.length) = S1 at *
    generalize strOf word = S2 at *
    generalize strOf T = S3 at *
    generalize a + word.length = AW at *
    go_enter Tryd.func48, Tryd.ntmps48
    go_wp2
    go_quiet (fail)
    go_wp2
    go_ret
    exact ⟨by rw [HS.out]; rfl, ⟨nq, rfl⟩⟩
  · have h1 : decide ((word.length : Int) ≤ (T.length : Int) - (a : Int)) = false := by simp; omega
    have h2 : ¬ (T.length : Int) - (a : Int) ≥ (word.length : Int) := by omega
    rw [decide_eq_false h, Bool.false_and] at HSE
    have HS : Hid (sees (T.drop a) word = false) := HSE
    clear HSE h
    generalize sees (T.drop a) word = R0 at *
    generalize strOf word = S2 at *
    generalize strOf T = S3 at *
    go_enter Tryd.func48, Tryd.ntmps48
    go_wp2
    go_quiet (fail)
    go_wp2
    go_ret
    exact ⟨by rw [HS.out]; rfl, ⟨nq, rfl⟩⟩
end Go.Proofs.YtgpnbiaghokjkaaDoor
