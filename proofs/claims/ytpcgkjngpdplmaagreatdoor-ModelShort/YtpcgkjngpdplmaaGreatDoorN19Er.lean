import Derived.Test.YtpcgkjngpdplmaaGreatDoorN19Bg
import Derived.Test.YtpcgkjngpdplmaaGreatDoorN19W
import Derived.Test.YtpcgkjngpdplmaaGreatDoorC4May

/-! The code's model: Explains. (Printed by tools/genn19.py.) -/
namespace Go.Proofs.YtpcgkjngpdplmaaGreatDoor
open Go.RowKit Go.Maps
set_option linter.unusedVariables false
set_option linter.unusedSimpArgs false

theorem may01 (c : Cfg) : c.may = 0 ∨ c.may = 1 := by unfold Cfg.may; split; exact .inl rfl; exact .inr rfl
theorem secE_ne {l : Secs} {i : Nat} {e : Int} (h : secE l i = some e) : e ≠ 0 := by
  unfold secE at h
  repeat' split at h
  all_goals first | (injection h with h; omega) | cases h
theorem newE_ne {l : Secs} {e : Int} {i : Nat} (h : newE l = some (e, i)) : e ≠ 0 := by
  unfold newE at h
  split at h
  · injection h with h; injection h with h _; omega
  · obtain ⟨j, _, hj⟩ := List.exists_of_findSome?_eq_some h
    cases hs : secE l j with
    | none => rw [hs] at hj; cases hj
    | some e' =>
      rw [hs] at hj
      injection hj with hj
      injection hj with h1 _
      subst h1
      exact secE_ne hs
/-- Steps in a row. -/
def StpIn (w : World) (so : Option Addr) (S : List SP) : Prop := ∀ i (h : i < S.length), ∃ B off bo c, so = some ⟨B, off, none⟩ ∧
  w.cell? ⟨B, off + i * 4, none⟩ = some (.int .i64 S[i].kind) ∧ w.cell? ⟨B, off + i * 4 + 1, none⟩ = some (.int .i64 S[i].n) ∧ w.cell? ⟨B, off + i * 4 + 2, none⟩ = some (.int .i64 S[i].v) ∧
  w.cell? ⟨B, off + i * 4 + 3, none⟩ = some (.slice bo S[i].b.length c) ∧ IsB w bo S[i].b ∧ S[i].b.length ≤ c ∧ (bo = none → c = 0)
theorem StpIn.keep {w w' : World} {so : Option Addr} {S : List SP} (h : StpIn w so S) (hb : Below w.heap.size w w') : StpIn w' so S := by
  intro i hi
  obtain ⟨B, off, bo, c, e, h1, h2, h3, h4, h5, h6⟩ := h i hi
  have hB : B < w.heap.size := cell_lt h1
  exact ⟨B, off, bo, c, e, (hb.cell hB).trans h1, (hb.cell hB).trans h2, (hb.cell hB).trans h3, (hb.cell hB).trans h4, h5.below hb (Nat.le_refl _), h6⟩

/-- Answers in a row, such as an int holds. -/
def AnsIn (w : World) (no : Option Addr) (A : List AN) : Prop := ∀ i (h : i < A.length), ∃ B off acts, no = some ⟨B, off, none⟩ ∧ w.rangeAt B (off + i * 36) (anC A[i] acts) ∧ A[i].Wf
theorem AnsIn.keep {w w' : World} {no : Option Addr} {A : List AN} (h : AnsIn w no A) (hb : Below w.heap.size w w') : AnsIn w' no A := by
  intro i hi
  obtain ⟨B, off, acts, e, hr, hl⟩ := h i hi
  have h0 := hr 0 _ (rfl : (anC A[i] acts)[0]? = some _)
  have hB : B < w.heap.size := cell_lt h0
  exact ⟨B, off, acts, e, fun j v hv => (hb.cell (p := ⟨B, off + i * 36 + j, none⟩) hB).trans (hr j v hv), hl⟩
/-- Secrets, a script and answers in memory. -/
structure In19 (w : World) (l : Secs) (S : List SP) (A : List AN) (lo : Option Addr) (lc : Nat) (so : Option Addr) (sc : Nat) (no : Option Addr) (nc : Nat) : Prop where
  sec : ∃ B off vs, (0 < l.length → lo = some ⟨B, off, none⟩) ∧ SecIn w B off vs l
  stp : StpIn w so S
  ans : AnsIn w no A
  lnil : lo = none → lc = 0
  snil : so = none → sc = 0
  nnil : no = none → nc = 0
  lle : l.length ≤ lc
  sle : S.length ≤ sc
  nle : A.length ≤ nc
  slen : S.length ≤ 2932031007402
  alen : A.length ≤ 4611686018427387904
  blen : ∀ o ∈ S, o.b.length ≤ 140737488351232
theorem In19.keep {w w' : World} {l : Secs} {S : List SP} {A : List AN} {lo : Option Addr} {lc : Nat} {so : Option Addr} {sc : Nat} {no : Option Addr} {nc : Nat} (h : In19 w l S A lo lc so sc no nc) (hb : Below w.heap.size w w') : In19 w' l S A lo lc so sc no nc :=
  ⟨by obtain ⟨B, off, vs, h1, h2⟩ := h.sec; exact ⟨B, off, vs, h1, h2.keep hb⟩, h.stp.keep hb, h.ans.keep hb, h.lnil, h.snil, h.nnil, h.lle, h.sle, h.nle, h.slen, h.alen, h.blen⟩
def explV (r : Bool × Nat) : Value := .tuple #[.bool r.1, .int .i64 (r.2 : Int)]
/-- Between two steps. (N: all that was there ahead of the model lies below.) -/
structure EI (N mg rg nb : Nat) (c : Cfg) (l : Secs) (S : List SP) (A : List AN) (R : Bool × Nat) (w : World) (i so cap cb n : Nat) (B : List (List By)) (C : List CS) (W : World) : Prop where
  md : MdM N W mg rg nb so cap c l B
  set : KSet Tryz.prog 67 csV unitElem W cb n C
  cbn : N ≤ cb ∧ cb ≠ nb
  bel : Below N w W
  ok : ∀ s ∈ C, s.Ok c (B.length + 1) ∧ s.Wf
  wt : wtL C ≤ 16777216
  nle : n ≤ 16777216
  blen : B.length ≤ i
  run : R = runC c l i B C (S.drop i) (A.drop i)
theorem firstC_ok {c : Cfg} {l : Secs} (h : CkOk c l) : firstC.Ok c 1 := by
  have := last_le h
  refine ⟨rfl, fun i hi => ?_, by show (0 : Nat) < 2 ^ 64; omega, by show (0 : Nat) < 1; omega, by show (0 : Nat) < 1; omega, by show (0 : Nat) < 8; omega, by show (0 : Nat) < 4294967296; omega, by show (0 : Nat) ≤ 1024; omega, by show (0 : Nat) ≤ 12; omega, by show (0 : Nat) ≤ 1; omega⟩
  have e : firstC.num.getD i 0 = 0 := by
    match i with
    | 0 | 1 | 2 | 3 | 4 | 5 | 6 | 7 => rfl
    | _ + 8 => rfl
  rw [e]
  omega
/-- What a step of the run leaves. -/
theorem EI.next {N mg rg nb : Nat} {c : Cfg} {l : Secs} {S : List SP} {A : List AN} {R : Bool × Nat} {w : World} {i so cap cb n : Nat} {B : List (List By)} {C : List CS} {W : World} (h : EI N mg rg nb c l S A R w i so cap cb n B C W) (hc : CkOk c l) (hi : i < S.length) (hA : S.length = A.length) (hS : S.length ≤ 2932031007402) {so' cap' cb' n' : Nat} {W' : World}
    (hM : MdM N W' mg rg nb so' cap' c l (staC c l B S[i])) (hK : KSet Tryz.prog 67 csV unitElem W' cb' n' (behC (deedC c l B S[i]) (lookC S[i] (A[i]'(by omega))) C)) (hcb : N ≤ cb' ∧ cb' ≠ nb) (hn : n' ≤ wtL C) (hb : Below N W W') :
    (behC (deedC c l B S[i]) (lookC S[i] (A[i]'(by omega))) C = [] → R = (false, i)) ∧ (¬ behC (deedC c l B S[i]) (lookC S[i] (A[i]'(by omega))) C = [] → EI N mg rg nb c l S A R w (i + 1) so' cap' cb' n' (staC c l B S[i]) (behC (deedC c l B S[i]) (lookC S[i] (A[i]'(by omega))) C) W') := by
  have hd := deed_dok (l := l) hc.sl1 hc.ke1 B S[i]
  have hbo := beh_ok hd (lookC S[i] (A[i]'(by omega))) (fun s hs => (h.ok s hs).1)
  have hsl := sta_len c l B S[i]
  have hrun := h.run
  rw [List.drop_eq_getElem_cons hi, List.drop_eq_getElem_cons (by omega : i < A.length)] at hrun
  constructor
  · intro e
    rw [hrun, runC, if_pos (by rw [e]; rfl)]
  · intro e
    refine ⟨hM, hK, hcb, h.bel.trans hb, fun s hs => ⟨hbo.1 s hs, (hbo.1 s hs).wf (by have := last_le hc; omega) (by have := h.blen; omega)⟩, Nat.le_trans hbo.2 h.wt, Nat.le_trans hn h.wt, by have := h.blen; omega, ?_⟩
    rw [hrun, runC, if_neg (by rw [List.isEmpty_iff]; exact e)]
end Go.Proofs.YtpcgkjngpdplmaaGreatDoor


/-! The code's model: a step of Explains. (Printed by tools/genn19.py.) -/
namespace Go.Proofs.YtpcgkjngpdplmaaGreatDoor
open Go.RowKit Go.Maps
set_option linter.unusedVariables false
set_option linter.unusedSimpArgs false

theorem DeedIs.less {c : Cfg} {g g' : Nat} {W0 : World} {k : Nat} {fs bs : Array Value} {D : CS → TL} (h : DeedIs c g W0 k fs bs D) (hg : g' ≤ g) : DeedIs c g' W0 k fs bs D :=
  fun W hW ab nb mb a n L hm ht ha hn s hs hwf => h W hW ab nb mb a n L hm ht ha hn s (hs.mono hg) hwf
theorem kset_notRow {w : World} {b g t n : Nat} {cs : List Value} {C : List CS} (h : KSet Tryz.prog 67 csV unitElem w b n C) (hr : Row w g t cs) : b ≠ g := by
  rintro rfl
  obtain ⟨D, ⟨es, clock, h1, _⟩, _⟩ := h
  have h2 : w.heap[b]? = _ := hr
  rw [h1] at h2
  injection h2 with h2
  cases h2
theorem LyB.more {ex : Nat → Prop} {w W W2 : World} (hb : Below w.heap.size w W) (h : LyB ex W W2) : LyB ex w W2 :=
  ⟨h.os.trans hb.os, h.tape.trans hb.tape, h.output.trans hb.output, Nat.le_trans hb.size h.size, fun i hi he => (h.block i (Nat.lt_of_lt_of_le hi hb.size) he).trans (hb.block i hi)⟩
/-- What the step stands on: the model, the step in a box of its own, the states. -/
structure X0 (N : Nat) (w : World) (mg rg nb so cap sb cb n : Nat) (c : Cfg) (l : Secs) (B : List (List By)) (o : SP) (bo : Option Addr) (bc : Nat) (C : List CS) : Prop where
  ask : AskIn N w mg rg nb so cap c l B o bo bc
  box : Row w sb 34 (spC o bo bc)
  set : KSet Tryz.prog 67 csV unitElem w cb n C
  cbn : cb ≠ nb
theorem X0.ne {N : Nat} {w : World} {mg rg nb so cap sb cb n : Nat} {c : Cfg} {l : Secs} {B : List (List By)} {o : SP} {bo : Option Addr} {bc : Nat} {C : List CS} (h : X0 N w mg rg nb so cap sb cb n c l B o bo bc C) (hs : sb ≠ so) (hm : sb ≠ mg) : ¬ (sb = nb ∨ sb = so ∨ sb = mg) ∧ ¬ (cb = nb ∨ cb = so ∨ cb = mg) := by
  obtain ⟨cs, hr, _⟩ := own_at h.ask.md.own
  have h1 := h.ask.md.num.notRow h.box
  have h2 := kset_notRow h.set hr
  have h3 := kset_notRow h.set h.ask.md.row
  have h4 := h.cbn
  omega
/-- While a step's region runs. -/
structure XB (N : Nat) (w : World) (mg rg nb so cap cb : Nat) (c : Cfg) (l : Secs) (B : List (List By)) (o : SP) (a : AN) (C : List CS) (q3 q10 q11 : Bool) (x54 x61 x14 : Value) (W : World) : Prop where
  ly : LyB (fun i => i = nb ∨ i = so ∨ i = mg) w W
  n3 : q3 = false → Below w.heap.size w W
  md : q3 = true → ∃ k fs bs so' cap', x54 = .func (.func k) fs bs ∧ Ent k ∧ DeedIs c (B.length + 1) W k fs bs (deedC c l B o) ∧ MdM N W mg rg nb so' cap' c l (staC c l B o)
  m0 : q11 = false → x14 = .map (some cb)
  n10 : q10 = true → ∃ mb n', x61 = .map (some mb) ∧ KSet Tryz.prog 67 csV unitElem W mb n' (behC (deedC c l B o) (lookC o a) C) ∧ n' ≤ wtL C ∧ w.heap.size ≤ mb
  n11 : q11 = true → x14 = x61
section
variable {N : Nat} {w W W2 : World} {mg rg nb so cap cb : Nat} {c : Cfg} {l : Secs} {B : List (List By)} {o : SP} {a : AN} {C : List CS} {q3 q10 q11 : Bool} {x54 x61 x14 : Value}
theorem XB.keep (h : XB N w mg rg nb so cap cb c l B o a C q3 q10 q11 x54 x61 x14 W) (hb : Below W.heap.size W W2) : XB N w mg rg nb so cap cb c l B o a C q3 q10 q11 x54 x61 x14 W2 :=
  ⟨h.ly.keep hb, fun e => (h.n3 e).trans (hb.mono (h.n3 e).size), fun e => let ⟨k, fs, bs, so', cap', e1, e2, e3, e4⟩ := h.md e; ⟨k, fs, bs, so', cap', e1, e2, e3.keep hb, e4.keep hb⟩, h.m0, fun e => let ⟨mb, n', e1, e2, e3⟩ := h.n10 e; ⟨mb, n', e1, e2.below hb e2.lt, e3⟩, h.n11⟩
theorem XB.drew (h : XB N w mg rg nb so cap cb c l B o a C q3 q10 q11 x54 x61 x14 W) : XB N w mg rg nb so cap cb c l B o a C q3 q10 q11 x54 x61 x14 W.drew := h.keep ⟨rfl, rfl, rfl, Nat.le_refl _, fun _ _ => rfl⟩
theorem XB.deed (h : XB N w mg rg nb so cap cb c l B o a C false false false x54 x61 x14 W) {v : Value} (hd : DeedM N mg rg nb so c l (staC c l B o) (deedC c l B o) W (.returned v) W2) : XB N w mg rg nb so cap cb c l B o a C true false false v x61 x14 W2 := by
  obtain ⟨k, fs, bs, so', cap', e, hk, hD, hM, hL⟩ := hd
  injection e with e
  exact ⟨hL.more (h.n3 rfl), (fun e => by cases e), fun _ => ⟨k, fs, bs, so', cap', e, hk, hD.less (by have := (sta_len c l B o).1; omega), hM⟩, h.m0, (fun e => by cases e), (fun e => by cases e)⟩
theorem XB.beh (h : XB N w mg rg nb so cap cb c l B o a C true false false x54 x61 x14 W) (hb : Below W.heap.size W W2) {mb n' : Nat} (hs : KSet Tryz.prog 67 csV unitElem W2 mb n' (behC (deedC c l B o) (lookC o a) C)) (hn : n' ≤ wtL C) (hm : W.heap.size ≤ mb) : XB N w mg rg nb so cap cb c l B o a C true true false x54 (.map (some mb)) x14 W2 :=
  have k := h.keep hb
  ⟨k.ly, k.n3, k.md, k.m0, fun _ => ⟨mb, n', rfl, hs, hn, Nat.le_trans h.ly.size hm⟩, (fun e => by cases e)⟩
theorem XB.put (h : XB N w mg rg nb so cap cb c l B o a C true true false x54 x61 x14 W) : XB N w mg rg nb so cap cb c l B o a C true true true x54 x61 x61 W := ⟨h.ly, h.n3, h.md, (fun e => by cases e), h.n10, fun _ => rfl⟩
end
end Go.Proofs.YtpcgkjngpdplmaaGreatDoor
