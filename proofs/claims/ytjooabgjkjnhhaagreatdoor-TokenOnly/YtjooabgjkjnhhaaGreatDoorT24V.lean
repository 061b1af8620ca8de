
import Derived.Test.YtjooabgjkjnhhaaGreatDoorT24U
/-! The reference's token: Pairs. (Printed by tools/gent24b.py.) -/
namespace Go.Proofs.YtjooabgjkjnhhaaGreatDoor
open Go.RowKit
set_option linter.unusedVariables false
set_option linter.unusedSimpArgs false
set_option maxRecDepth 100000

/-- A pair's cells: key, message, tag. -/
def prC (p : List By × List By × List By) : List Value := [.string (strOf p.1), .string (strOf p.2.1)] ++ p.2.2.map B8
theorem prC_len {p : List By × List By × List By} (h : p.2.2.length = 32) : (prC p).length = 34 := by simp [prC, h]
theorem prC_one (p : List By × List By × List By) : ∀ v ∈ prC p, v.oneCell' = true := by
  intro v hv
  unfold prC at hv
  rcases List.mem_append.1 hv with h | h
  · simp at h
    rcases h with rfl | rfl <;> rfl
  · exact B8_one _ v h
theorem el_pairs24 : ElT 62 98 34 64 (.agg (prC ([], [], List.replicate 32 0)).toArray) := ⟨Tryz.underlying62, by kernel_rfl, rfl, by omega⟩
theorem build_pr (a b : ByteArray) (w : World) : ∀ (d : List By), d.length = 32 → (Instr.build 98 #[(0, .string a), (1, .string b), (2, .agg (d.map B8).toArray)]).run Tryz.prog w = .ok (.agg ([Value.string a, .string b] ++ d.map B8).toArray) w
  | [x0, x1, x2, x3, x4, x5, x6, x7, x8, x9, x10, x11, x12, x13, x14, x15, x16, x17, x18, x19, x20, x21, x22, x23, x24, x25, x26, x27, x28, x29, x30, x31], _ => by kernel_rfl
theorem step_build_pr {ops : Array Oper} {o : Oper} {a : Act} {w : World} {K : Act → World → Prop} {Q : Exit → Act → World → Prop} {X : Prop} (hw : Region.wanted o (yielded ops a.tmps) = true) (x : Operand) (ho : o.op = .buildSlice 62 1 #[(0, x)])
    (cs : List Value) (hl : cs.length = 34) (hx : a.eval x = .agg cs.toArray) (h : K (a.put o.dst (.slice (some ⟨w.heap.size, 0, none⟩) 1 1)) (w.alloc (.cells cs.toArray 98))) : if Region.wanted o (yielded ops a.tmps) = true then Oper.wp Tryz.prog o a w K Q else X := by
  rw [if_pos hw]
  obtain ⟨i0, hi, hz0, hz1, hz2⟩ := info_parts el_pairs24.info
  refine wp_buildSlice 62 98 1 _ ho cs.toArray i0 _ Tryz.underlying62 hi hz0 (by rw [hz1]; omega) (by rw [hz1]; omega) ?_ h
  rw [hz1]
  have e : (#[(0, x)].map fun (i, y) => (i, a.eval y)).toList = (([Value.agg cs.toArray]).zipIdx 0).map fun x => (x.2, x.1) := by simp [hx]
  rw [e, Great.fill_whole (s := 34) (by decide) [Value.agg cs.toArray] _ (fun v hv => by rw [List.mem_singleton.1 hv]; simpa [Value.cells] using hl) (by simp)]
  congr 2
  simp [Value.cells]
theorem owP_empty (N : Nat) (w : World) (h : N ≤ w.heap.size) : (w.alloc (.cells #[] 98)).ownsRow N 98 34 (.slice (some ⟨w.heap.size, 0, none⟩) 0 0) 0 [] :=
  ⟨rfl, .inr ⟨w.heap.size, 0, #[], rfl, h, heap_alloc_new w _, Nat.le_refl _, by unfold maxLen; omega, rfl, rfl⟩⟩
/-- While a pair is put behind others: tag reckoned (7), a row of it made (9), appended (10), assigned (11). Its key and message stay readable (R). -/
structure P3 (N : Nat) (W0 : World) (R : World → Prop) (L0 : List (List By × List By × List By)) (po : Option Addr) (pc : Nat) (p : List By × List By × List By) (q9 q10 q11 : Bool) (x26 x27 x8 : Value) (W : World) : Prop where
  c10 : q10 = true → q9 = true
  c11 : q11 = true → q10 = true
  bel : Below N W0 W
  sz : N ≤ W.heap.size
  rd : R W
  l0 : q10 = false → W.ownsRow N 98 34 (.slice po L0.length pc) L0.length (L0.flatMap prC)
  p9 : q9 = true → q10 = false → ∃ G, x26 = .slice (some ⟨G, 0, none⟩) 1 1 ∧ Row W G 98 (prC p)
  p10 : q10 = true → ∃ ao c', x27 = .slice ao (L0.length + 1) c' ∧ W.ownsRow N 98 34 (.slice ao (L0.length + 1) c') (L0.length + 1) (L0.flatMap prC ++ prC p)
  p11 : q11 = true → x8 = x27
  p0 : q11 = false → x8 = .slice po L0.length pc
section
variable {N : Nat} {W0 : World} {R : World → Prop} {L0 : List (List By × List By × List By)} {po : Option Addr} {pc : Nat} {p : List By × List By × List By} {q9 q10 q11 : Bool} {x26 x27 x8 : Value} {W W2 : World}
theorem P3.keep (h : P3 N W0 R L0 po pc p q9 q10 q11 x26 x27 x8 W) (hR : R W2) (hb : Below W.heap.size W W2) : P3 N W0 R L0 po pc p q9 q10 q11 x26 x27 x8 W2 :=
  ⟨h.c10, h.c11, h.bel.trans (hb.mono h.sz), Nat.le_trans h.sz hb.size, hR, fun e => owB_keep (h.l0 e) hb, fun e f => let ⟨G, a, b⟩ := h.p9 e f; ⟨G, a, b.below hb b.lt⟩, fun e => let ⟨ao, c', a, b⟩ := h.p10 e; ⟨ao, c', a, owB_keep b hb⟩, h.p11, h.p0⟩
theorem P3.s9 (h : P3 N W0 R L0 po pc p q9 q10 q11 x26 x27 x8 W) (hR : R (W.alloc (.cells (prC p).toArray 98))) (e9 : q9 = false) : P3 N W0 R L0 po pc p true q10 q11 (.slice (some ⟨W.heap.size, 0, none⟩) 1 1) x27 x8 (W.alloc (.cells (prC p).toArray 98)) := by
  have e10 := ff24 h.c10 e9
  have e11 := ff24 h.c11 e10
  subst e10 e11
  have k := h.keep (W2 := W.alloc (.cells (prC p).toArray 98)) hR ((Below.refl _ _).alloc (Nat.le_refl _) _)
  exact ⟨fun e => (by cases e), fun e => (by cases e), k.bel, k.sz, k.rd, k.l0, fun _ _ => ⟨_, rfl, Row.at W _ _ _ _ rfl rfl⟩, fun e => (by cases e), fun e => (by cases e), k.p0⟩
theorem P3.s10 (h : P3 N W0 R L0 po pc p q9 q10 q11 x26 x27 x8 W) (hR : R W2) (e9 : q9 = true) (e10 : q10 = false) {ao : Option Addr} {c' : Nat} (ho : W2.ownsRow N 98 34 (.slice ao (L0.length + 1) c') (L0.length + 1) (L0.flatMap prC ++ prC p)) (hb : Below N W W2) (hz : W.heap.size ≤ W2.heap.size) : P3 N W0 R L0 po pc p q9 true q11 x26 (.slice ao (L0.length + 1) c') x8 W2 := by
  have e11 := ff24 h.c11 e10
  subst e11
  exact ⟨fun _ => e9, fun e => (by cases e), h.bel.trans hb, Nat.le_trans h.sz hz, hR, fun e => (by cases e), fun _ f => (by cases f), fun _ => ⟨ao, c', rfl, ho⟩, fun e => (by cases e), h.p0⟩
theorem P3.s11 (h : P3 N W0 R L0 po pc p q9 q10 q11 x26 x27 x8 W) (e10 : q10 = true) : P3 N W0 R L0 po pc p q9 q10 true x26 x27 x27 W :=
  ⟨h.c10, fun _ => e10, h.bel, h.sz, h.rd, h.l0, h.p9, h.p10, fun _ => rfl, fun e => (by cases e)⟩
end
end Go.Proofs.YtjooabgjkjnhhaaGreatDoor
