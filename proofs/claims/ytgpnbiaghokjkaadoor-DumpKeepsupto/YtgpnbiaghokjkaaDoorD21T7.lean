import Derived.Test.YtgpnbiaghokjkaaDoorMem
import Derived.RangeFuncRecord
import Derived.RangeFuncCalls
import Derived.Test.YtgpnbiaghokjkaaDoorD21T6
import Derived.TacticsIn
import Derived.BigFrameIn
import Derived.OwnWalkIn
import Derived.TacticsInMore
/-! A range over a function whose rounds may panic: a round, and a function that holds one such loop. -/
namespace Go.Proofs.YtgpnbiaghokjkaaDoor
open Go.RowKit
set_option linter.unusedVariables false
section
variable {P : Program}
/-- How a round may end: off its end, or by a panic. -/
def rndEnd (P : Program) (l : Nat) (R : Ending → World → Prop) : Exit → Act → World → Prop
  | .normal, _, w => ∃ v w', (Instr.endRound l none).run P w = .ok v w' ∧ R (.returned v) w'
  | .panic ch, a, w => a.defers = [] ∧ R (.panicked ch) w
  | _, _, _ => False
/-- A frame that panics, without deferred calls, hands the panic on. -/
theorem step_out {b c : Frame} {a : Act} {todo : List Item} {cs : List Frame} {w : World} {ch : List PanicEntry} (hd : a.defers = []) (hf : ∃ g, P.funcs[b.fn]? = some g) :
    step P (lone { b.atR a todo with mode := .panicking ch } (c :: cs) w) = .next (lone (c.raise ch) cs w) :=
  step_leave_panicked ⟨rfl, hd, hf⟩
/-- One round, out of the walks of its two parts. -/
theorem round_of {n l : Nat} {f : FuncId} {tmps : Array Value} {ca cb : Code} {w : World} {R : Ending → World → Prop} (hf : ∃ g, P.funcs[f]? = some g)
    (h : ca.wpIn (Fence.wide.inRound l) n P (Exit.then (fun a1 w1 => ∃ w2, (Instr.beginRound l).run P w1 = .ok () w2 ∧ cb.wpIn (Fence.wide.inRound l) n P (rndEnd P l R) a1 w2) (fun _ _ _ => False)) { tmps := tmps, defers := [] } w) :
    RoundIn Fence.wide n P l f tmps ca cb w R := by
  refine ⟨trivial, fun c cs _ => ?_⟩
  obtain ⟨b, hb⟩ : ∃ b : Frame, b = { (default : Frame) with fn := f, kind := .normal, roundOf := some l } := ⟨_, rfl⟩
  have e0 : Frame.round l f tmps ca cb .normal = b.atR { tmps := tmps, defers := [] } [.code ca, .beginRound, .code cb] := by rw [hb]; rfl
  have hro : b.roundOf = some l := by rw [hb]
  have hki : b.kind = .normal := by rw [hb]
  have hfn : b.fn = f := by rw [hb]
  obtain ⟨e, a1, w1, q, r⟩ := h b [.beginRound, .code cb] (c :: cs) hro trivial (room_wide _)
  rw [e0]
  cases e with
  | normal =>
    obtain ⟨w2, hbr, hbody⟩ := q
    have s1 := stepsIn_wide.1 (show StepsIn (Machine.fenced P Fence.wide) P _ _ from r)
    have s2 : Steps P _ _ := Steps.one (stepR_beginRound (P := P) (b := b) (a := a1) (k := [.code cb]) (cs := c :: cs) hro hbr)
    obtain ⟨e2, a2, w3, q2, r2⟩ := hbody b [] (c :: cs) hro trivial (room_wide _)
    cases e2 with
    | normal =>
      obtain ⟨v, w4, he, hR⟩ := q2
      have s3 := stepsIn_wide.1 (show StepsIn (Machine.fenced P Fence.wide) P _ _ from r2)
      exact ⟨.returned v, w4, hR, stepsIn_wide.2 (s1.trans (s2.trans (s3.trans (Steps.one (stepR_round_end hro hki he)))))⟩
    | panic ch =>
      obtain ⟨hd, hR⟩ := q2
      obtain ⟨todo, r3⟩ := r2
      have s3 := stepsIn_wide.1 (show StepsIn (Machine.fenced P Fence.wide) P _ _ from r3)
      exact ⟨.panicked ch, w3, hR, stepsIn_wide.2 (s1.trans (s2.trans (s3.trans (Steps.one (step_out hd (by rw [hfn]; exact hf))))))⟩
    | exit id => exact q2.elim
    | goto t => exact q2.elim
    | ret => exact q2.elim
    | outgrown => exact q2.elim
  | exit id => exact q.elim
  | goto t => exact q.elim
  | ret => exact q.elim
  | panic ch => exact q.elim
  | outgrown => exact q.elim
/-- What is asked where the loop is come to. -/
def AtLoop (P : Program) (f : FuncId) (fn : Func) (g : Operand) (ps : Array Tmp) (ca cb C : Code) (R : Ending → World → Prop) (a : Act) (w : World) : Prop :=
  ∃ l mark w1 d w1' k args w2, (Instr.enterLoop f a.tmps ps ca cb none).run P w = .ok (l, mark) w1 ∧ (resolve a.eval (rangeCall g l) 0).run P w1 = .ok d w1' ∧ (invoke d.target d.args).run P w1' = .ok (.enter k args) w2 ∧
    Calls P k args w2 fun e w3 => match e with
      | .returned _ => ∃ w4, (Instr.endLoop l).run P w3 = .ok none w4 ∧ C.wp P (bodyPostM Fence.wide 0 P fn R) { a with defers := mark ++ a.defers } w4
      | .panicked ch => LeavesInM Fence.wide 0 P fn a.tmps R (mark ++ a.defers) (.panicking ch) w3
      | .outgrown => False
/-- A function whose body is two statements, the loop and the rest. -/
theorem calls_loop {f : FuncId} {fn : Func} {A B C ca cb : Code} {id : Nat} {g : Operand} {ps : Array Tmp} {args : Array Value} {w : World} {R : Ending → World → Prop} (hf : P.funcs[f]? = some fn)
    (hb : fn.body = some (.seq A (.seq (.seq B (.block id (.rangeFunc g ps ca cb))) C)))
    (h : A.wp P (Exit.then (fun a1 w1 => B.wp P (Exit.then (AtLoop P f fn g ps ca cb C R) (fun _ _ _ => False)) a1 w1) (fun _ _ _ => False)) { tmps := args ++ Array.replicate (fn.ntmps - args.size) undef, defers := [] } w) :
    Calls P f args w R := by
  refine (callsIn_wide (n := 0)).1 ⟨trivial, fun cs hr => ?_⟩
  obtain ⟨b, hb0⟩ : ∃ b : Frame, b = { (default : Frame) with fn := f, kind := .normal, roundOf := none } := ⟨_, rfl⟩
  have hro : b.roundOf = none := by rw [hb0]
  have hki : b.kind = .normal := by rw [hb0]
  have hfn : b.fn = f := by rw [hb0]
  have e0 : Frame.enter P f args .normal = b.atR { tmps := args ++ Array.replicate (fn.ntmps - args.size) undef, defers := [] } [.code (.seq A (.seq (.seq B (.block id (.rangeFunc g ps ca cb))) C))] := by
    rw [hb0]; simp [Frame.enter, Frame.atR, hf, hb]
  obtain ⟨a0, ha0⟩ : ∃ a0 : Act, a0 = { tmps := args ++ Array.replicate (fn.ntmps - args.size) undef, defers := [] } := ⟨_, rfl⟩
  rw [← ha0] at h e0
  rw [e0]
  have h' := (wpIn_wide (n := 0)).2 h
  obtain ⟨e, a1, w1, q, r⟩ := h' b [.code (.seq (.seq B (.block id (.rangeFunc g ps ca cb))) C)] cs hro trivial (room_wide _)
  cases e with
  | normal =>
    obtain ⟨e2, a2, w2, q2, r2⟩ := (wpIn_wide (n := 0)).2 (show B.wp P _ a1 w1 from q) b [.code (.block id (.rangeFunc g ps ca cb)), .code C] cs hro trivial (room_wide _)
    cases e2 with
    | normal =>
      obtain ⟨l, mark, w3, d, w3', k, args', w4, he, hres, hinv, hcall⟩ := (show AtLoop P f fn g ps ca cb C R a2 w2 from q2)
      rw [← hfn, ← hro] at he
      have sA : Steps P _ _ := stepsIn_wide.1 (show StepsIn (Machine.fenced P Fence.wide) P _ _ from r)
      have sB : Steps P _ _ := stepsIn_wide.1 (show StepsIn (Machine.fenced P Fence.wide) P _ _ from r2)
      have s0 : Steps P (lone (b.atR a0 [.code (.seq A (.seq (.seq B (.block id (.rangeFunc g ps ca cb))) C))]) cs w) (lone (b.atR a2 [.code (.rangeFunc g ps ca cb), .inBlock id, .code C]) cs w2) :=
        (Steps.one stepR_seq).trans (sA.trans ((Steps.one stepR_seq).trans ((Steps.one stepR_seq).trans (sB.trans (Steps.one stepR_block)))))
      have s1 := Steps.one (stepR_rangeFunc (P := P) (b := b) (a := a2) (k := [.inBlock id, .code C]) (cs := cs) (w := w2) he hres hinv)
      obtain ⟨e3, w5, fr, hR, hst, _, hlv⟩ := hcall (b.atR { a2 with defers := mark ++ a2.defers } (.inRangeFunc l :: [.inBlock id, .code C]) :: cs)
      cases e3 with
      | returned v =>
        obtain ⟨w6, hend, hC⟩ := hR
        have s2 : Steps P _ _ := hst
        have s3 : Steps P _ _ := Steps.one (step_leave_returned (c := b.atR { a2 with defers := mark ++ a2.defers } (.inRangeFunc l :: [.inBlock id, .code C])) (cs := cs) hlv)
        rw [finish_atR_inRangeFunc] at s3
        have s4 : Steps P _ _ := Steps.one (stepR_endRangeFunc (P := P) (b := b) (a := { a2 with defers := mark ++ a2.defers }) (k := [.inBlock id, .code C]) (cs := cs) hend)
        have s5 : Steps P _ _ := Steps.one (stepR_inBlock (P := P) (b := b) (a := { a2 with defers := mark ++ a2.defers }) (k := [.code C]) (cs := cs) (w := w6) (id := id))
        have sT := s0.trans (s1.trans (s2.trans (s3.trans (s4.trans s5))))
        obtain ⟨e4, a4, w7, q4, r4⟩ := (wpIn_wide (n := 0)).2 hC b [] cs hro trivial (room_wide _)
        cases e4 with
        | normal =>
          obtain ⟨e', w'', fr', hR', hs', hfn', hl'⟩ := leaves_stepsInM (F := Fence.wide) (n := 0) a4.defers .returning w7 { b.atR a4 [] with mode := .returning } cs rfl rfl rfl (by show P.funcs[b.fn]? = _; rw [hfn]; exact hf) hki trivial (room_wide _) q4
          have s6 : Steps P _ _ := stepsIn_wide.1 (show StepsIn (Machine.fenced P Fence.wide) P _ _ from r4)
          exact ⟨e', w'', fr', hR', ComesIn.of_steps (stepsIn_wide.2 (sT.trans (s6.trans (Steps.one (stepR_end hro))))) hs', hfn'.trans hfn, hl'⟩
        | ret =>
          obtain ⟨todo, hs0⟩ := r4.1 hro
          obtain ⟨e', w'', fr', hR', hs', hfn', hl'⟩ := leaves_stepsInM (F := Fence.wide) (n := 0) a4.defers .returning w7 { b.atR a4 todo with mode := .returning } cs rfl rfl rfl (by show P.funcs[b.fn]? = _; rw [hfn]; exact hf) hki trivial (room_wide _) q4
          exact ⟨e', w'', fr', hR', ComesIn.of_steps (stepsIn_wide.2 (sT.trans (stepsIn_wide.1 hs0))) hs', hfn'.trans hfn, hl'⟩
        | panic ch =>
          obtain ⟨todo, hs0⟩ := r4
          obtain ⟨e', w'', fr', hR', hs', hfn', hl'⟩ := leaves_stepsInM (F := Fence.wide) (n := 0) a4.defers (.panicking ch) w7 { b.atR a4 todo with mode := .panicking ch } cs rfl rfl rfl (by show P.funcs[b.fn]? = _; rw [hfn]; exact hf) hki trivial (room_wide _) q4
          exact ⟨e', w'', fr', hR', ComesIn.of_steps (stepsIn_wide.2 (sT.trans (stepsIn_wide.1 hs0))) hs', hfn'.trans hfn, hl'⟩
        | exit i => exact q4.elim
        | goto t => exact q4.elim
        | outgrown => exact ⟨.outgrown, w7, b, q4, Outgrown.of_steps sT (r4.resolve_left (by rw [hki]; simp)), hfn, trivial⟩
      | panicked ch =>
        have s2 : Steps P _ _ := hst
        have s3 : Steps P _ _ := Steps.one (step_leave_panicked (c := b.atR { a2 with defers := mark ++ a2.defers } (.inRangeFunc l :: [.inBlock id, .code C])) (cs := cs) hlv)
        rw [Frame.raise_atR] at s3
        obtain ⟨e', w'', fr', hR', hs', hfn', hl'⟩ := leaves_stepsInM (F := Fence.wide) (n := 0) (mark ++ a2.defers) (.panicking ch) w5 { b.atR { a2 with defers := mark ++ a2.defers } (.inRangeFunc l :: [.inBlock id, .code C]) with mode := .panicking ch } cs rfl rfl rfl (by show P.funcs[b.fn]? = _; rw [hfn]; exact hf) hki trivial (room_wide _) hR
        exact ⟨e', w'', fr', hR', ComesIn.of_steps (stepsIn_wide.2 (s0.trans (s1.trans (s2.trans s3)))) hs', hfn'.trans hfn, hl'⟩
      | outgrown => exact hR.elim
    | exit i => exact q2.elim
    | goto t => exact q2.elim
    | ret => exact q2.elim
    | panic ch => exact q2.elim
    | outgrown => exact q2.elim
  | exit i => exact q.elim
  | goto t => exact q.elim
  | ret => exact q.elim
  | panic ch => exact q.elim
  | outgrown => exact q.elim
end
end Go.Proofs.YtgpnbiaghokjkaaDoor

/-! Layer 21, the landed code: its iterator over lines. -/
namespace Go.Proofs.YtgpnbiaghokjkaaDoor
open Go.RowKit
set_option linter.unusedVariables false
set_option linter.unusedSimpArgs false
set_option maxRecDepth 100000

/-- What yield is to the iterator. -/
def YldD (l : Nat) (J : Nat → World → Prop) (PN : Ending → World → Prop) (ls : List (List By)) : Prop :=
  ∀ (i : Nat) (L : List By) (W : World), ls[i]? = some L → J i W → ∃ fn tmps ca cb, (Instr.yield l #[.string (strOf L)]).run Tryd.prog W = .ok (.round l fn tmps ca cb) W ∧
    ∀ m, RoundIn Fence.wide m Tryd.prog l fn tmps ca cb W fun e W' => (e = .returned (.bool true) ∧ J (i + 1) W') ∨ ((∃ k, e = pan k) ∧ PN e W')
def nxt (r : List By) : List By × List By := match lineOf r with | some (l, t) => (l ++ [10#8], t) | none => (r, [])
theorem splitL_nxt (r : List By) (h : ¬ r = []) : splitL r = (nxt r).1 :: splitL (nxt r).2 := by
  unfold nxt
  cases hl : lineOf r with
  | none =>
    rw [splitL_none hl, if_neg h]; rfl
  | some p =>
    obtain ⟨l, t⟩ := p
    exact splitL_some hl
theorem nxt_app (r : List By) : r = (nxt r).1 ++ (nxt r).2 := by
  unfold nxt
  cases hl : lineOf r with
  | none => simp
  | some p =>
    obtain ⟨l, t⟩ := p
    have := (lineOf_some r l t hl).1
    rw [this]; simp
theorem nxt_len (r : List By) (h : ¬ r = []) : 0 < (nxt r).1.length := by
  unfold nxt
  cases hl : lineOf r with
  | none => exact List.length_pos_iff.2 h
  | some p => simp
/-- The first line's end. -/
theorem nxt_idx (r : List By) : (match lineOf r with | some (l, _) => (l.length : Int) | none => -1) + 1 = (match lineOf r with | some _ => ((nxt r).1.length : Int) | none => 0) := by
  unfold nxt
  cases lineOf r with
  | none => rfl
  | some p => obtain ⟨l, t⟩ := p; simp
set_option maxHeartbeats 4000000 in
theorem lines1_any (l E : Nat) (T : List By) (hT : T.length ≤ 140737488355328) (W0 : World) (J : Nat → World → Prop) (PN : Ending → World → Prop) (hY : YldD l J PN (splitL T)) (hC : W0.cell? ⟨E, 0, none⟩ = some (.string (strOf T))) (h0 : J 0 W0) :
    Calls Tryd.prog 56 #[.func (.yield l) #[] #[], .pointer (some ⟨E, 0, none⟩)] W0 fun e W' => ((∃ v, e = .returned v) ∧ J (splitL T).length W') ∨ ((∃ k, e = pan k) ∧ PN e W') := by
  have HY : Hid (YldD l J PN (splitL T)) := hY
  have HJ0 : Hid (J 0 W0) := h0
  have HLT : Hid ((splitL T).drop 0 = splitL T) := rfl
  clear hY h0
  generalize hls : splitL T = ls at *
  have HLS : Hid (splitL T = ls) := hls
  clear hls
  go_enter Tryd.func56, Tryd.ntmps56
  go_wp2
  clear hC
  go_loopw [3] (fun sv wr => ∃ (i : Nat) (ri : List By), i ≤ ls.length ∧ ri.length ≤ 140737488355328 ∧ sv = .string (strOf ri) ∧ Hid (ls.drop i = splitL ri) ∧ Hid (J i wr)) (fun sv _ => szOf sv)
  case atStart => exact ⟨0, T, Nat.zero_le _, hT, rfl, by show ls.drop 0 = _; rw [List.drop_zero, ← HLS.out], HJ0⟩
  case round =>
    clear HJ0 HLT
    obtain ⟨i, ri, hi, hri, rfl, HD, HJ⟩ := hrel
    have hq := strOf_beq ri []
    rw [show (strOf []).toList = [] from by kernel_rfl] at hq
    by_cases he : ri = []
    · rw [decide_eq_true he] at hq
      have HJE : Hid (J ls.length wr) := by
        have h1 := HD.out
        rw [he] at h1
        have h2 : ls.drop i = [] := h1
        have h3 := List.drop_eq_nil_iff.1 h2
        have h4 : i = ls.length := by omega
        rw [← h4]; exact HJ.out
      clear HD HJ he
      generalize strOf ri = SI at *
      go_wp2
      first | go_end0 | go_ret
      exact .inl ⟨⟨_, rfl⟩, HJE.out⟩
    · rw [decide_eq_false he] at hq
      have HIX : Hid (∀ W : World, Calls Tryd.prog 57 #[.string (strOf ri), .int .u8 10] W fun e w' => e = .returned (.int .i64 (match lineOf ri with | some (l, _) => (l.length : Int) | none => -1)) ∧ w' = W) := fun W => lineIdx_any ri W
      have hap := nxt_app ri
      have hnl := nxt_len ri he
      have hidx := nxt_idx ri
      have hsp := splitL_nxt ri he
      have slen : ∀ W : World, (Builtin.len_ #[9] 3 #[.string (strOf ri)]).run Tryd.prog W = .ok (goInt ri.length) W := fun W => str_len ri 3 W
      have hn1 : lineOf ri = none → (nxt ri).1 = ri := fun h => by unfold nxt; rw [h]
      obtain ⟨LN, hLN⟩ : ∃ LN, (nxt ri).1 = LN := ⟨_, rfl⟩
      obtain ⟨rj, hrj⟩ : ∃ rj, (nxt ri).2 = rj := ⟨_, rfl⟩
      rw [hLN, hrj] at hap hsp
      rw [hLN] at hnl hidx hn1
      have hlr : ri.length = LN.length + rj.length := by rw [hap, List.length_append]
      have st : ∀ W : World, (Instr.slice 9 (.string (strOf ri)) none (some (.int .i64 (LN.length : Int))) none).run Tryd.prog W = .ok (.string (strOf LN)) W := fun W => by
        have := str_to ri .i64 LN.length (by omega) W
        rw [hap, List.take_left] at this
        rw [hap]; exact this
      have sf : ∀ W : World, (Instr.slice 9 (.string (strOf ri)) (some (.int .i64 (LN.length : Int))) none none).run Tryd.prog W = .ok (.string (strOf rj)) W := fun W => by
        have := str_from ri .i64 LN.length (by omega) W
        rw [hap, List.drop_left] at this
        rw [hap]; exact this
      have HD2 : Hid (ls.drop (i + 1) = splitL rj ∧ ls[i]? = some LN ∧ i + 1 ≤ ls.length) := by
        have h1 := HD.out
        rw [hsp] at h1
        have h2 : i < ls.length := by
          rcases Nat.lt_or_ge i ls.length with h | h
          · exact h
          · rw [List.drop_of_length_le h] at h1; cases h1
        rw [List.drop_eq_getElem_cons h2] at h1
        injection h1 with h3 h4
        exact ⟨h4, by rw [List.getElem?_eq_getElem h2, h3], h2⟩
      have HSZ : Hid (szOf (.string (strOf rj)) < szOf (.string (strOf ri))) := by
        show (strOf rj).size < (strOf ri).size
        rw [strOf_size, strOf_size]; omega
      have HYY : Hid (∃ fn tmps ca cb, (Instr.yield l #[.string (strOf LN)]).run Tryd.prog wr = .ok (.round l fn tmps ca cb) wr ∧ ∀ m, RoundIn Fence.wide m Tryd.prog l fn tmps ca cb wr fun e W' => (e = .returned (.bool true) ∧ J (i + 1) W') ∨ ((∃ k, e = pan k) ∧ PN e W')) := HY.out i LN wr HD2.out.2.1 HJ.out
      have hrjl : rj.length ≤ 140737488355328 := by omega
      have hLL : LN.length ≤ 140737488355328 := by omega
      generalize hZ : ri.length = RL at *
      clear hap hsp HD HJ hLN hrj he hlr
      generalize hSI : strOf ri = SI at *
      obtain ⟨SJ, hSJ⟩ : ∃ SJ, strOf rj = SJ := ⟨_, rfl⟩
      rw [hSJ] at sf HSZ
      have HSJ : Hid (strOf rj = SJ) := hSJ
      clear hSJ hSI
      generalize hSL : strOf LN = SL at *
      generalize hNL : LN.length = NL at *
      obtain ⟨fn, tmps, ca, cb, hy, hR⟩ := HYY.out
      have HR : Hid _ := hR
      clear hR HYY
      cases hl : lineOf ri with
      | none =>
        rw [hl] at HIX
        dsimp only at HIX
        have hNR : NL = RL := by rw [← hNL, ← hZ, hn1 hl]
        subst hNR
        clear hidx hl hn1 hZ hNL
        go_upto_region 5 with (refine (HIX.out _).mono ?_; rintro e w1 ⟨rfl, hw1⟩; rw [hw1]; clear hw1 w1)
        refine (wpIn_wide (n := 3)).1 ?_
        gi_wp2
        refine (HR.out 2).mono ?_
        rintro e W2 (⟨rfl, hj2⟩ | ⟨⟨k, rfl⟩, hpn⟩)
        · dsimp only
          have HJ2 : Hid (J (i + 1) W2) := hj2
          clear hj2 hy HR
          gi_wp2
          go_wp2
          exact ⟨⟨i + 1, rj, HD2.out.2.2, hrjl, by rw [HSJ.out], HD2.out.1, HJ2⟩, HSZ.out⟩
        · exact ⟨rfl, .inr ⟨⟨k, rfl⟩, hpn⟩⟩
      | some p =>
        rw [hl] at HIX hidx
        dsimp only at HIX hidx
        generalize (p.1.length : Int) = PL at *
        have wi : IntKind.i64.wrap (PL + 1) = (NL : Int) := by rw [hidx, i64_in _ (by omega) (by omega)]
        have wj : (( NL : Int) == 0) = false := by rw [beq_eq_false_iff_ne]; omega
        clear hidx hl hn1 hZ hNL
        go_upto_region 5 with (refine (HIX.out _).mono ?_; rintro e w1 ⟨rfl, hw1⟩; rw [hw1]; clear hw1 w1)
        refine (wpIn_wide (n := 3)).1 ?_
        gi_wp2
        refine (HR.out 2).mono ?_
        rintro e W2 (⟨rfl, hj2⟩ | ⟨⟨k, rfl⟩, hpn⟩)
        · dsimp only
          have HJ2 : Hid (J (i + 1) W2) := hj2
          clear hj2 hy HR
          gi_wp2
          go_wp2
          exact ⟨⟨i + 1, rj, HD2.out.2.2, hrjl, by rw [HSJ.out], HD2.out.1, HJ2⟩, HSZ.out⟩
        · exact ⟨rfl, .inr ⟨⟨k, rfl⟩, hpn⟩⟩
end Go.Proofs.YtgpnbiaghokjkaaDoor
