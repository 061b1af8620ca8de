
import Derived.Test.YthegfkcegmeklaaH16Bk
import Derived.RangeFuncRecord
import Derived.RangeFuncCalls
import Derived.TacticsIn
import Derived.BigFrameIn
import Derived.OwnWalkIn
import Derived.TacticsInMore
/-! A range over a function, with arrays: laws in a round. -/
namespace Go.Proofs.Ythegfkcegmeklaa
open Go.RowKit
set_option linter.unusedVariables false
section
variable {F : Fence} {n : Nat} {ops : Array Oper} {rest : List Oper} {op : Oper} {a : Act} {w : World} {Q : Exit → Act → World → Prop}
/-- An array loaded, in a round. -/
theorem inR_load (hF : ∀ f, F.fn f) {l : Nat} (hro : F.round = some l) (hgd : op.guard = none) (ty : TypeId) (x : Operand) (ho : op.op = .load ty x)
    (b o : Nat) (hx : a.eval x = .pointer (some ⟨b, o, none⟩)) (cs : List Value) (d : TypeDesc) (hc : w.rangeAt b o cs) (hu : Try.prog.underlying ty = some d) (hd : d.isRow = true) (hi : (Try.prog.info? ty).map (·.size) = some cs.length)
    (h : wpListIn F n Try.prog ops Q rest (a.put op.dst (.agg cs.toArray)) w) : wpListIn F n Try.prog ops Q (op :: rest) a w :=
  wpListIn_plain hgd fun K hK => by
    refine ⟨fun f _ => hF f, ?_⟩
    rw [hro, Oper.semAt_some l _ _ (fun c h => by rw [ho] at h; cases h)]
    unfold execOp
    simp only [ho, hx, Instr.loadAt, Instr.sureAddr, Sem.run_bind, Sem.run_pure, Result.andThen_ok, run_loadVar_mid w b o ty cs d hc hu hd hi]
    exact hK _ _ h
/-- A whole array stored into a block known whole, in a round. -/
theorem inR_store (hF : ∀ f, F.fn f) {l : Nat} (hro : F.round = some l) (hgd : op.guard = none) (ty : TypeId) (x y : Operand) (ho : op.op = .store ty x y)
    (g t : Nat) (old new : List Value) (hr : Row w g t old) (hl : new.length = old.length) (hx : a.eval x = .pointer (some ⟨g, 0, none⟩)) (hy : a.eval y = .agg new.toArray)
    (hi : (Try.prog.info? ty).map (·.size) = some new.length) (h1 : ∀ v ∈ new, v.oneCell' = true)
    (h : ∀ w', Row w' g t new → SameBut g w w' → wpListIn F n Try.prog ops Q rest (a.put op.dst undef) w') : wpListIn F n Try.prog ops Q (op :: rest) a w :=
  wpListIn_plain hgd fun K hK => by
    refine ⟨fun f _ => hF f, ?_⟩
    rw [hro, Oper.semAt_some l _ _ (fun c h => by rw [ho] at h; cases h)]
    have ht : w.there g 0 new.toArray.size := by
      intro j hj
      refine ⟨?_, hr.frozen _⟩
      have hj' : 0 + j < old.length := by simp at hj; omega
      rw [hr.cell (0 + j) old[0 + j] (List.getElem?_eq_getElem hj')]; rfl
    unfold execOp
    simp only [ho, hx, hy, Instr.storeAt, Instr.sureAddr, Sem.run_bind, Sem.run_pure, Result.andThen_ok, run_storeVar_mid w g 0 ty new.toArray ht (by simpa using hi) (all_oneCell_toArray h1)]
    refine hK _ _ (h _ ?_ ?_)
    · have := Row.setCells new 0 w old hr (by omega)
      simpa [hl] using this
    · exact SameBut.setCells g new 0 w
end
/-- The code of a range over a function: the assignment, the body. -/
def rfOf : Code → Option (Code × Code)
  | .rangeFunc _ _ a b => some (a, b)
  | .seq a b => (rfOf a).orElse fun _ => rfOf b
  | .block _ c => rfOf c
  | _ => none
/-- Between two rounds: the caller's register, the closure's slice, the loop's record, the block of deferred calls. -/
structure MD (w : World) (R3 E D l : Nat) (sl : Value) (r : Loop) (hr : List By) (W : World) : Prop where
  bel : Below w.heap.size w W
  row : Row W R3 32 (hr.map B8)
  ev : Row W E 27 [sl]
  L : W.heap[l]? = some (.loop r)
  K : W.heap[D]? = some (.deferred (some []))
  res : Row W w.heap.size 32 z32
theorem MD.kept {w : World} {R3 E D l : Nat} {sl : Value} {r : Loop} {hr : List By} {W W' : World} (h : MD w R3 E D l sl r hr W) (hb : Below w.heap.size W W') (hk : ∀ k, k < W.heap.size → k = R3 ∨ k = E ∨ k = D ∨ k = l ∨ k = w.heap.size → W'.heap[k]? = W.heap[k]?) : MD w R3 E D l sl r hr W' :=
  ⟨h.bel.trans hb, (hk _ h.row.lt (.inl rfl)).trans h.row, (hk _ h.ev.lt (.inr (.inl rfl))).trans h.ev, (hk _ (blk_lt h.L) (.inr (.inr (.inr (.inl rfl))))).trans h.L, (hk _ (blk_lt h.K) (.inr (.inr (.inl rfl)))).trans h.K, (hk _ h.res.lt (.inr (.inr (.inr (.inr rfl))))).trans h.res⟩
theorem putObj_sameBut (w : World) (l : Nat) (o : Obj) : SameBut l w (w.putObj l o) := ⟨rfl, rfl, rfl, by simp [World.putObj], fun k hk => World.putObj_heap_other hk⟩

set_option maxHeartbeats 1000000 in
set_option maxRecDepth 100000 in
/-- One round of register's loop. -/
theorem cround (m : Nat) (fn : FuncId) (w : World) (R3 E D l : Nat) (sl : Value) (r : Loop) (hst : r.state = .ready) (hpd : r.pending = none) (h3 : w.heap.size ≤ R3) (hl : w.heap.size ≤ l) (d1 : R3 ≠ E) (d2 : R3 ≠ D) (d3 : R3 ≠ l) (d4 : E ≠ l) (d5 : D ≠ l) (d6 : w.heap.size ≠ R3) (d7 : w.heap.size ≠ l) (hr x : List By) (hhr : hr.length = 32) (hx : x.length = 32) (W : World) (h : MD w R3 E D l sl r hr W) (v0 v1 v2 v4 v5 v6 v7 v8 v10 v11 : Value) (ca cb : Code) (hc : rfOf (Try.f27.body.getD .skip) = some (ca, cb)) :
    RoundIn Fence.wide m Try.prog l fn #[v0, v1, v2, .pointer (some ⟨R3, 0, none⟩), v4, v5, v6, v7, v8, .agg (x.map B8).toArray, v10, v11] ca cb W
      fun e W' => e = .returned (.bool true) ∧ MD w R3 E D l sl r x W' ∧ Below w.heap.size W W' ∧ ∀ k, k < W.heap.size → k ≠ R3 → k ≠ l → W'.heap[k]? = W.heap[k]? := by
  have lx : (x.map B8).length = 32 := by rw [List.length_map, hx]
  have lh : (hr.map B8).length = 32 := by rw [List.length_map, hhr]
  have ox : Hid (∀ v ∈ x.map B8, v.oneCell' = true) := B8_one _
  have H : Hid (MD w R3 E D l sl r hr W) := h
  clear h
  generalize hXC : x.map B8 = XC at *
  refine roundIn_of_wpIn trivial ?_
  injection hc with hc
  injection hc with hc1 hc2
  subst hc1 hc2
  gi_wp2_with (first
    | (refine inR_store (fun _ => trivial) rfl rfl 32 _ _ rfl W.heap.size 32 z32 XC (Row.at W _ _ _ _ rfl rfl) (by rw [lx]; rfl) rfl rfl (by rw [lx]; kernel_rfl) ox.out ?_; intro W1 hr1 hs1)
    | (rw [Oper.semAt_eq _ _ _ (fun c h => by cases h)]; go_simp; try go_bits))
  have bA : Below W.heap.size W W1 := hs1.below ((Below.refl _ _).alloc (Nat.le_refl _) _) (Nat.le_refl _)
  have hz1 : W1.heap.size = W.heap.size + 1 := by rw [hs1.size]; simp
  have hwz := H.out.bel.size
  have H1 : MD w R3 E D l sl r hr W1 := H.out.kept (bA.mono hwz) fun k hk _ => bA.block k hk
  refine ⟨_, run_beginRound (P := Try.prog) H1.L hst, ?_⟩
  obtain ⟨W2, hW2⟩ : ∃ W2, W2 = W1.putObj l (.loop { r with state := .busy }) := ⟨_, rfl⟩
  have s2 : SameBut l W1 W2 := by rw [hW2]; exact putObj_sameBut _ _ _
  have hll := blk_lt H1.L
  have hlW := blk_lt H.out.L
  have L2 : W2.heap[l]? = some (.loop { r with state := .busy }) := by rw [hW2]; exact World.putObj_heap_same hll
  rw [← hW2]
  clear hW2
  have rX : Row W2 W.heap.size 32 XC := hr1.but s2 (by omega)
  have r3 : Row W2 R3 32 (hr.map B8) := H1.row.but s2 d3
  have RX : Hid (W2.rangeAt W.heap.size 0 XC) := by
    show W2.rangeAt W.heap.size 0 XC
    have := rX.range 0 XC.length
    simpa using this
  have R3' : Hid (Row W2 R3 32 (hr.map B8)) := r3
  have H1' : Hid (MD w R3 E D l sl r hr W1) := H1
  have BA : Hid (Below W.heap.size W W1) := bA
  have S2 : Hid (SameBut l W1 W2) := s2
  have L2' : Hid (W2.heap[l]? = some (.loop { r with state := .busy })) := L2
  clear hr1 hs1 rX r3 H1 bA s2 L2
  gi_wp2_with (first
    | (refine inR_load (fun _ => trivial) rfl rfl 32 (.tmp 5) rfl W.heap.size 0 rfl XC _ RX.out Try.underlying32 rfl (by rw [lx]; kernel_rfl) ?_)
    | (refine inR_store (fun _ => trivial) rfl rfl 32 _ _ rfl R3 32 (hr.map B8) XC R3'.out (by rw [lx, lh]) rfl rfl (by rw [lx]; kernel_rfl) ox.out ?_; intro W3 hr3 hs3)
    | (rw [Oper.semAt_eq _ _ _ (fun c h => by cases h)]; go_simp; try go_bits))
  have L3 : W3.heap[l]? = some (.loop { r with state := .busy }) := (hs3.block l (Ne.symm d3)).trans L2'.out
  have hl3 := blk_lt L3
  have er : ({ { r with state := .busy } with state := if (none : Option Code).isNone then .ready else .done, pending := none } : Loop) = r := by
    cases r
    simp at hst hpd
    subst hst hpd
    rfl
  have e4 := run_endRound (P := Try.prog) none L3
  rw [er] at e4
  have s4 := putObj_sameBut W3 l (.loop r)
  obtain ⟨W4, hW4⟩ : ∃ W4, W4 = W3.putObj l (.loop r) := ⟨_, rfl⟩
  have L4 : W4.heap[l]? = some (.loop r) := by rw [hW4]; exact World.putObj_heap_same hl3
  rw [← hW4] at e4 s4
  have hz2 := S2.out.size
  have hz3 := hs3.size
  have hz4 := s4.size
  have kk : ∀ k, k < W.heap.size → k ≠ R3 → k ≠ l → W4.heap[k]? = W.heap[k]? := fun k hk h1 h2 => (s4.block k h2).trans ((hs3.block k h1).trans ((S2.out.block k h2).trans (BA.out.block k hk)))
  have bW : Below w.heap.size W W4 := ⟨s4.os.trans (hs3.os.trans (S2.out.os.trans BA.out.os)), s4.tape.trans (hs3.tape.trans (S2.out.tape.trans BA.out.tape)), s4.output.trans (hs3.output.trans (S2.out.output.trans BA.out.output)), by omega, fun k hk => kk k (by omega) (by omega) (by omega)⟩
  refine ⟨_, _, e4, rfl, ⟨H.out.bel.trans bW, ?_, ?_, L4, ?_, (kk _ H.out.res.lt d6 d7).trans H.out.res⟩, bW, kk⟩
  · rw [hXC]; exact hr3.but s4 d3
  · exact (kk E H.out.ev.lt (Ne.symm d1) d4).trans H.out.ev
  · exact (kk D (blk_lt H.out.K) (Ne.symm d2) d5).trans H.out.K
/-- What yield is to the iterator: whatever J stands for. -/
def Yld (l : Nat) (N : Nat) (J : Nat → World → Prop) (xs : List EvV) : Prop :=
  ∀ (i : Nat) (x : EvV) (W : World), xs[i]? = some x → J i W → ∃ fn tmps ca cb, (Instr.yield l #[.agg (evC x).toArray, .agg ((reg (xs.take (i + 1))).map B8).toArray]).run Try.prog W = .ok (.round l fn tmps ca cb) W ∧ ∀ m, RoundIn Fence.wide m Try.prog l fn tmps ca cb W fun e W' => e = .returned (.bool true) ∧ J (i + 1) W' ∧ ∀ k, k < W.heap.size → N ≤ k → W'.heap[k]? = W.heap[k]?

end Go.Proofs.Ythegfkcegmeklaa
