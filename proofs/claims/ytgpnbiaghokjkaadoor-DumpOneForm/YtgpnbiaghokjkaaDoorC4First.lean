
import Derived.Test.YtgpnbiaghokjkaaDoorC4Lay2
/-! The code's chip: first. (Printed by tools/genfirst.py.) -/
namespace Go.Proofs.YtgpnbiaghokjkaaDoor
open Go.RowKit

theorem step_load_Row {ops : Array Oper} {o : Oper} {a : Act} {w : World} {K : Act → World → Prop} {Q : Exit → Act → World → Prop} {X : Prop} (hgd : o.guard = none) (ty : TypeId) (x : Operand) (ho : o.op = .load ty x)
    (g t : Nat) (cs : List Value) (hr : Row w g t cs) (hx : a.eval x = .pointer (some ⟨g, 0, none⟩)) (d : TypeDesc) (hu : Tryd.prog.underlying ty = some d) (hd : d.isRow = true) (hi : (Tryd.prog.info? ty).map (·.size) = some cs.length)
    (h : K (a.put o.dst (.agg cs.toArray)) w) : if Region.wanted o (yielded ops a.tmps) = true then Oper.wp Tryd.prog o a w K Q else X := by
  have hw : Region.wanted o (yielded ops a.tmps) = true := by simp [Region.wanted, hgd]
  rw [if_pos hw]
  have hl := run_loadVar_mid (P := Tryd.prog) w g 0 ty cs d (by have := hr.range 0 cs.length; simpa using this) hu hd hi
  unfold Oper.wp execOp
  simp only [ho, hx, Instr.loadAt, Instr.sureAddr, Sem.run_bind, Sem.run_pure, Result.andThen_ok, hl]
  exact h

theorem step_store_mid {ops : Array Oper} {o : Oper} {a : Act} {w : World} {K : Act → World → Prop} {Q : Exit → Act → World → Prop} {X : Prop} (hgd : o.guard = none) (ty : TypeId) (x y : Operand) (ho : o.op = .store ty x y)
    (g off t : Nat) (old new : List Value) (hr : Row w g t old) (hl : off + new.length ≤ old.length) (hx : a.eval x = .pointer (some ⟨g, off, none⟩)) (hy : a.eval y = .agg new.toArray)
    (hi : (Tryd.prog.info? ty).map (·.size) = some new.length) (h1 : ∀ v ∈ new, v.oneCell' = true)
    (h : ∀ w', Row w' g t (putAt old off new) → SameBut g w w' → K (a.put o.dst undef) w') : if Region.wanted o (yielded ops a.tmps) = true then Oper.wp Tryd.prog o a w K Q else X := by
  have hw : Region.wanted o (yielded ops a.tmps) = true := by simp [Region.wanted, hgd]
  rw [if_pos hw]
  refine wp_store_mid ty x y ho g off new.toArray hx hy ?_ (by simpa using hi) (all_oneCell_toArray h1) (h _ ?_ ?_)
  · intro j hj
    refine ⟨?_, hr.frozen _⟩
    have hj' : off + j < old.length := by simp at hj; omega
    rw [hr.cell (off + j) old[off + j] (List.getElem?_eq_getElem hj')]; rfl
  · exact Row.setCells new off w old hr hl
  · exact SameBut.setCells g new off w

theorem KeptL.over {L : List Nat} {a b c : World} {G : Nat} (h : KeptL L a b) (k : KeptL [G] b c) (hG : a.heap.size ≤ G) : KeptL L a c :=
  ⟨k.os.trans h.os, k.tape.trans h.tape, k.output.trans h.output, Nat.le_trans h.size k.size, fun i hi hn => (k.block i (Nat.lt_of_lt_of_le hi h.size) (by simp; omega)).trans (h.block i hi hn)⟩

/-- What a chip holds at first. -/
def freshN (np n nb : Nat) : St := ⟨List.replicate np (List.replicate n (List.replicate 32 255#8)), List.replicate np 0, List.replicate nb false⟩

/-- A page of which j cells are blank. -/
def fillN (BL : List By) (n j : Nat) : List (List By) := List.replicate j BL ++ List.replicate (n - j) (List.replicate 32 0#8)
theorem fillN_set (BL : List By) (n j : Nat) (hj : j < n) : (fillN BL n j).set j BL = fillN BL n (j + 1) := by
  unfold fillN
  generalize List.replicate 32 0#8 = Z
  rw [List.set_append_right _ _ (by simp), List.length_replicate, Nat.sub_self, show n - j = (n - (j + 1)) + 1 by omega, List.replicate_succ (a := Z), List.set_cons_zero, List.replicate_succ' (a := BL), List.append_assoc]; rfl
theorem fillN_8 (BL : List By) (hB : BL.length = 32) (n j : Nat) : ∀ x ∈ fillN BL n j, x.length = 32 := by
  intro x hx
  unfold fillN at hx
  rcases List.mem_append.1 hx with hx | hx
  · rw [(List.mem_replicate.1 hx).2]; exact hB
  · rw [(List.mem_replicate.1 hx).2]; simp
theorem flat_rep (n : Nat) : (List.replicate n (List.replicate 32 0#8)).flatten.map B8 = List.replicate (n * 32) (Value.int .u8 0) := by
  induction n with
  | zero => rfl
  | succ n ih =>
    rw [List.replicate_succ, List.flatten_cons, List.map_append, ih, List.map_replicate, show (n + 1) * 32 = 32 + n * 32 by omega, ← List.replicate_append_replicate]; rfl
theorem getD_rep {α : Type} (n i : Nat) (x d : α) (h : i < n) : (List.replicate n x).getD i d = x := by
  rw [List.getD_eq_getElem?_getD, List.getElem?_replicate, if_pos h]; rfl

structure F1I (W1 : World) (cells slots fuses step keys erases area : Int) (np nb : Nat) (L : Nat → Bool) (x7 x8 x9 x10 x11 x12 x13 x14 x15 x16 x3 : Value) (G2 G5 G8 G10 : Nat) (W : World) : Prop where
  bel : KeptL [] W1 W
  b2 : L 2 = true → W1.heap.size ≤ G2 ∧ G2 < W.heap.size
  r2 : L 2 = true → Row W G2 57 (List.replicate (np * 1) (Value.slice none 0 0))
  b5 : L 5 = true → W1.heap.size ≤ G5 ∧ G5 < W.heap.size
  r5 : L 5 = true → Row W G5 3 (List.replicate (np * 1) (Value.int .i64 0))
  b8 : L 8 = true → W1.heap.size ≤ G8 ∧ G8 < W.heap.size
  r8 : L 8 = true → Row W G8 4 (List.replicate (nb * 1) (Value.bool false))
  b10 : L 10 = true → W1.heap.size ≤ G10 ∧ G10 < W.heap.size
  r10 : L 10 = true → L 11 = false → Row W G10 29 ([nilS, nilS, nilS])
  t10 : L 11 = true → Row W G10 29 ([.slice (some ⟨G2, 0, none⟩) np np, .slice (some ⟨G5, 0, none⟩) np np, .slice (some ⟨G8, 0, none⟩) nb nb])
  d2_5 : L 2 = true → L 5 = true → G2 ≠ G5
  d2_8 : L 2 = true → L 8 = true → G2 ≠ G8
  d2_10 : L 2 = true → L 10 = true → G2 ≠ G10
  d5_8 : L 5 = true → L 8 = true → G5 ≠ G8
  d5_10 : L 5 = true → L 10 = true → G5 ≠ G10
  d8_10 : L 8 = true → L 10 = true → G8 ≠ G10
  p0 : L 0 = true → x7 = .agg #[.int .i64 cells, .int .i64 slots, .int .i64 fuses, .int .i64 step, .int .i64 keys, .int .i64 erases, .int .i64 area]
  p1 : L 1 = true → x8 = .int .i64 (np : Int)
  p2 : L 2 = true → x9 = .slice (some ⟨G2, 0, none⟩) np np
  p3 : L 3 = true → x10 = .agg #[.int .i64 cells, .int .i64 slots, .int .i64 fuses, .int .i64 step, .int .i64 keys, .int .i64 erases, .int .i64 area]
  p4 : L 4 = true → x11 = .int .i64 (np : Int)
  p5 : L 5 = true → x12 = .slice (some ⟨G5, 0, none⟩) np np
  p6 : L 6 = true → x13 = .agg #[.int .i64 cells, .int .i64 slots, .int .i64 fuses, .int .i64 step, .int .i64 keys, .int .i64 erases, .int .i64 area]
  p7 : L 7 = true → x14 = .int .i64 (nb : Int)
  p8 : L 8 = true → x15 = .slice (some ⟨G8, 0, none⟩) nb nb
  p9 : L 9 = true → x16 = .agg #[.slice (some ⟨G2, 0, none⟩) np np, .slice (some ⟨G5, 0, none⟩) np np, .slice (some ⟨G8, 0, none⟩) nb nb]
  p10 : L 10 = true → x3 = .pointer (some ⟨G10, 0, none⟩)
  l9_2 : L 9 = true → L 2 = true
  l9_5 : L 9 = true → L 5 = true
  l9_8 : L 9 = true → L 8 = true
  l11_9 : L 11 = true → L 9 = true
  l11_10 : L 11 = true → L 10 = true
section
variable {W1 : World} {cells slots fuses step keys erases area : Int} {np nb : Nat} {L : Nat → Bool} {x7 x8 x9 x10 x11 x12 x13 x14 x15 x16 x3 : Value} {G2 G5 G8 G10 : Nat} {W W2 : World}
theorem F1I.zero (W1 : World) (cells slots fuses step keys erases area : Int) (np nb : Nat) (x7 x8 x9 x10 x11 x12 x13 x14 x15 x16 x3 : Value) : F1I W1 cells slots fuses step keys erases area np nb (fun _ => false) x7 x8 x9 x10 x11 x12 x13 x14 x15 x16 x3 0 0 0 0 W1.drew :=
  ⟨(KeptL.refl _ _).dr ⟨1, rfl⟩, fun k => (by cases k), fun k => (by cases k), fun k => (by cases k), fun k => (by cases k), fun k => (by cases k), fun k => (by cases k), fun k => (by cases k), fun k _ => (by cases k), fun k => (by cases k), fun k _ => (by cases k), fun k _ => (by cases k), fun k _ => (by cases k), fun k _ => (by cases k), fun k _ => (by cases k), fun k _ => (by cases k), fun k => (by cases k), fun k => (by cases k), fun k => (by cases k), fun k => (by cases k), fun k => (by cases k), fun k => (by cases k), fun k => (by cases k), fun k => (by cases k), fun k => (by cases k), fun k => (by cases k), fun k => (by cases k), fun k => (by cases k), fun k => (by cases k), fun k => (by cases k), fun k => (by cases k), fun k => (by cases k)⟩
theorem F1I.mono (h : F1I W1 cells slots fuses step keys erases area np nb L x7 x8 x9 x10 x11 x12 x13 x14 x15 x16 x3 G2 G5 G8 G10 W) (hb : Below W.heap.size W W2) : F1I W1 cells slots fuses step keys erases area np nb L x7 x8 x9 x10 x11 x12 x13 x14 x15 x16 x3 G2 G5 G8 G10 W2 :=
  ⟨h.bel.below hb h.bel.size, fun k => ⟨(h.b2 k).1, Nat.lt_of_lt_of_le (h.b2 k).2 hb.size⟩, fun k => (hb.block _ (h.b2 k).2).trans (h.r2 k), fun k => ⟨(h.b5 k).1, Nat.lt_of_lt_of_le (h.b5 k).2 hb.size⟩, fun k => (hb.block _ (h.b5 k).2).trans (h.r5 k), fun k => ⟨(h.b8 k).1, Nat.lt_of_lt_of_le (h.b8 k).2 hb.size⟩, fun k => (hb.block _ (h.b8 k).2).trans (h.r8 k), fun k => ⟨(h.b10 k).1, Nat.lt_of_lt_of_le (h.b10 k).2 hb.size⟩, fun k k2 => (hb.block _ (h.b10 k).2).trans (h.r10 k k2), fun k => (hb.block _ (h.b10 ((fun k => h.l11_10 (k)) k)).2).trans (h.t10 k), h.d2_5, h.d2_8, h.d2_10, h.d5_8, h.d5_10, h.d8_10, h.p0, h.p1, h.p2, h.p3, h.p4, h.p5, h.p6, h.p7, h.p8, h.p9, h.p10, h.l9_2, h.l9_5, h.l9_8, h.l11_9, h.l11_10⟩
theorem F1I.s1 (h : F1I W1 cells slots fuses step keys erases area np nb L x7 x8 x9 x10 x11 x12 x13 x14 x15 x16 x3 G2 G5 G8 G10 W) : F1I W1 cells slots fuses step keys erases area np nb (upd L 1) x7 (.int .i64 (np : Int)) x9 x10 x11 x12 x13 x14 x15 x16 x3 G2 G5 G8 G10 W :=
  ⟨h.bel, h.b2, h.r2, h.b5, h.r5, h.b8, h.r8, h.b10, h.r10, h.t10, h.d2_5, h.d2_8, h.d2_10, h.d5_8, h.d5_10, h.d8_10, h.p0, fun _ => rfl, h.p2, h.p3, h.p4, h.p5, h.p6, h.p7, h.p8, h.p9, h.p10, h.l9_2, h.l9_5, h.l9_8, h.l11_9, h.l11_10⟩
theorem F1I.s2 (h : F1I W1 cells slots fuses step keys erases area np nb L x7 x8 x9 x10 x11 x12 x13 x14 x15 x16 x3 G2 G5 G8 G10 W) (hL : L 2 = false) : F1I W1 cells slots fuses step keys erases area np nb (upd L 2) x7 x8 (.slice (some ⟨W.heap.size, 0, none⟩) np np) x10 x11 x12 x13 x14 x15 x16 x3 W.heap.size G5 G8 G10 (W.alloc (.cells (List.replicate (np * 1) (Value.slice none 0 0)).toArray 57)) :=
  have m := h.mono (below_alloc W (.cells (List.replicate (np * 1) (Value.slice none 0 0)).toArray 57))
  ⟨m.bel, fun _ => ⟨h.bel.size, by simp⟩, fun _ => heap_alloc_new W _, m.b5, m.r5, m.b8, m.r8, m.b10, m.r10, fun k => no_of (fun k => h.l9_2 (h.l11_9 (k))) hL k, fun _ k => (Nat.ne_of_lt (h.b5 k).2).symm, fun _ k => (Nat.ne_of_lt (h.b8 k).2).symm, fun _ k => (Nat.ne_of_lt (h.b10 k).2).symm, m.d5_8, m.d5_10, m.d8_10, m.p0, m.p1, fun _ => rfl, m.p3, m.p4, m.p5, m.p6, m.p7, m.p8, fun k => no_of (fun k => h.l9_2 (k)) hL k, m.p10, fun _ => rfl, m.l9_5, m.l9_8, m.l11_9, m.l11_10⟩
theorem F1I.s4 (h : F1I W1 cells slots fuses step keys erases area np nb L x7 x8 x9 x10 x11 x12 x13 x14 x15 x16 x3 G2 G5 G8 G10 W) : F1I W1 cells slots fuses step keys erases area np nb (upd L 4) x7 x8 x9 x10 (.int .i64 (np : Int)) x12 x13 x14 x15 x16 x3 G2 G5 G8 G10 W :=
  ⟨h.bel, h.b2, h.r2, h.b5, h.r5, h.b8, h.r8, h.b10, h.r10, h.t10, h.d2_5, h.d2_8, h.d2_10, h.d5_8, h.d5_10, h.d8_10, h.p0, h.p1, h.p2, h.p3, fun _ => rfl, h.p5, h.p6, h.p7, h.p8, h.p9, h.p10, h.l9_2, h.l9_5, h.l9_8, h.l11_9, h.l11_10⟩
theorem F1I.s5 (h : F1I W1 cells slots fuses step keys erases area np nb L x7 x8 x9 x10 x11 x12 x13 x14 x15 x16 x3 G2 G5 G8 G10 W) (hL : L 5 = false) : F1I W1 cells slots fuses step keys erases area np nb (upd L 5) x7 x8 x9 x10 x11 (.slice (some ⟨W.heap.size, 0, none⟩) np np) x13 x14 x15 x16 x3 G2 W.heap.size G8 G10 (W.alloc (.cells (List.replicate (np * 1) (Value.int .i64 0)).toArray 3)) :=
  have m := h.mono (below_alloc W (.cells (List.replicate (np * 1) (Value.int .i64 0)).toArray 3))
  ⟨m.bel, m.b2, m.r2, fun _ => ⟨h.bel.size, by simp⟩, fun _ => heap_alloc_new W _, m.b8, m.r8, m.b10, m.r10, fun k => no_of (fun k => h.l9_5 (h.l11_9 (k))) hL k, fun k _ => Nat.ne_of_lt (h.b2 k).2, m.d2_8, m.d2_10, fun _ k => (Nat.ne_of_lt (h.b8 k).2).symm, fun _ k => (Nat.ne_of_lt (h.b10 k).2).symm, m.d8_10, m.p0, m.p1, m.p2, m.p3, m.p4, fun _ => rfl, m.p6, m.p7, m.p8, fun k => no_of (fun k => h.l9_5 (k)) hL k, m.p10, m.l9_2, fun _ => rfl, m.l9_8, m.l11_9, m.l11_10⟩
theorem F1I.s7 (h : F1I W1 cells slots fuses step keys erases area np nb L x7 x8 x9 x10 x11 x12 x13 x14 x15 x16 x3 G2 G5 G8 G10 W) : F1I W1 cells slots fuses step keys erases area np nb (upd L 7) x7 x8 x9 x10 x11 x12 x13 (.int .i64 (nb : Int)) x15 x16 x3 G2 G5 G8 G10 W :=
  ⟨h.bel, h.b2, h.r2, h.b5, h.r5, h.b8, h.r8, h.b10, h.r10, h.t10, h.d2_5, h.d2_8, h.d2_10, h.d5_8, h.d5_10, h.d8_10, h.p0, h.p1, h.p2, h.p3, h.p4, h.p5, h.p6, fun _ => rfl, h.p8, h.p9, h.p10, h.l9_2, h.l9_5, h.l9_8, h.l11_9, h.l11_10⟩
theorem F1I.s8 (h : F1I W1 cells slots fuses step keys erases area np nb L x7 x8 x9 x10 x11 x12 x13 x14 x15 x16 x3 G2 G5 G8 G10 W) (hL : L 8 = false) : F1I W1 cells slots fuses step keys erases area np nb (upd L 8) x7 x8 x9 x10 x11 x12 x13 x14 (.slice (some ⟨W.heap.size, 0, none⟩) nb nb) x16 x3 G2 G5 W.heap.size G10 (W.alloc (.cells (List.replicate (nb * 1) (Value.bool false)).toArray 4)) :=
  have m := h.mono (below_alloc W (.cells (List.replicate (nb * 1) (Value.bool false)).toArray 4))
  ⟨m.bel, m.b2, m.r2, m.b5, m.r5, fun _ => ⟨h.bel.size, by simp⟩, fun _ => heap_alloc_new W _, m.b10, m.r10, fun k => no_of (fun k => h.l9_8 (h.l11_9 (k))) hL k, m.d2_5, fun k _ => Nat.ne_of_lt (h.b2 k).2, m.d2_10, fun k _ => Nat.ne_of_lt (h.b5 k).2, m.d5_10, fun _ k => (Nat.ne_of_lt (h.b10 k).2).symm, m.p0, m.p1, m.p2, m.p3, m.p4, m.p5, m.p6, m.p7, fun _ => rfl, fun k => no_of (fun k => h.l9_8 (k)) hL k, m.p10, m.l9_2, m.l9_5, fun _ => rfl, m.l11_9, m.l11_10⟩
theorem F1I.s10 (h : F1I W1 cells slots fuses step keys erases area np nb L x7 x8 x9 x10 x11 x12 x13 x14 x15 x16 x3 G2 G5 G8 G10 W) (hL : L 10 = false) : F1I W1 cells slots fuses step keys erases area np nb (upd L 10) x7 x8 x9 x10 x11 x12 x13 x14 x15 x16 (.pointer (some ⟨W.heap.size, 0, none⟩)) G2 G5 G8 W.heap.size (W.alloc (.cells #[.slice none 0 0, .slice none 0 0, .slice none 0 0] 29)) :=
  have m := h.mono (below_alloc W (.cells #[.slice none 0 0, .slice none 0 0, .slice none 0 0] 29))
  ⟨m.bel, m.b2, m.r2, m.b5, m.r5, m.b8, m.r8, fun _ => ⟨h.bel.size, by simp⟩, fun _ _ => heap_alloc_new W _, fun k => no_of (fun k => h.l11_10 (k)) hL k, m.d2_5, m.d2_8, fun k _ => Nat.ne_of_lt (h.b2 k).2, m.d5_8, fun k _ => Nat.ne_of_lt (h.b5 k).2, fun k _ => Nat.ne_of_lt (h.b8 k).2, m.p0, m.p1, m.p2, m.p3, m.p4, m.p5, m.p6, m.p7, m.p8, m.p9, fun _ => rfl, m.l9_2, m.l9_5, m.l9_8, m.l11_9, fun _ => rfl⟩
end
@[reducible] def IF1I (W1 : World) (cells slots fuses step keys erases area : Int) (np nb : Nat) (y0 y1 y2 y4 y5 y6 y17 y18 y19 y20 y21 y22 y23 y24 y25 y26 y27 y28 y29 y30 y31 y32 y33 y34 y35 y36 y37 y38 y39 y40 y41 y42 y43 y44 y45 y46 y47 y48 y49 y50 : Value) : (Nat → Bool) → Act → World → Prop := fun L a W => ∃ x7 x8 x9 x10 x11 x12 x13 x14 x15 x16 x3 G2 G5 G8 G10, a = ⟨#[y0, y1, y2, x3, y4, y5, y6, x7, x8, x9, x10, x11, x12, x13, x14, x15, x16, y17, y18, y19, y20, y21, y22, y23, y24, y25, y26, y27, y28, y29, y30, y31, y32, y33, y34, y35, y36, y37, y38, y39, y40, y41, y42, y43, y44, y45, y46, y47, y48, y49, y50], []⟩ ∧ F1I W1 cells slots fuses step keys erases area np nb L x7 x8 x9 x10 x11 x12 x13 x14 x15 x16 x3 G2 G5 G8 G10 W
structure F2I (W1 : World) (gp tB cB np i n : Nat) (old : List Value) (L : Nat → Bool) (x24 x25 x26 x27 x28 x29 x30 : Value) (G5 : Nat) (W : World) : Prop where
  bel : KeptL [gp] W1 W
  og : gp < W1.heap.size
  o0 : L 7 = false → Row W gp 57 (old)
  o1 : L 7 = true → Row W gp 57 (old.set i (.slice (some ⟨G5, 0, none⟩) n n))
  b5 : L 5 = true → W1.heap.size ≤ G5 ∧ G5 < W.heap.size
  r5 : L 5 = true → Row W G5 56 (List.replicate (n * 32) (Value.int .u8 0))
  p0 : L 0 = true → x24 = .pointer (some ⟨tB, 0, none⟩)
  p1 : L 1 = true → x25 = .slice (some ⟨gp, 0, none⟩) np np
  p2 : L 2 = true → x26 = .int .i64 (i : Int)
  p3 : L 3 = true → x27 = .pointer (some ⟨cB, 0, none⟩)
  p4 : L 4 = true → x28 = .int .i64 (n : Int)
  p5 : L 5 = true → x29 = .slice (some ⟨G5, 0, none⟩) n n
  p6 : L 6 = true → x30 = .pointer (some ⟨gp, i, none⟩)
  l7_5 : L 7 = true → L 5 = true
section
variable {W1 : World} {gp tB cB np i n : Nat} {old : List Value} {L : Nat → Bool} {x24 x25 x26 x27 x28 x29 x30 : Value} {G5 : Nat} {W W2 : World}
theorem F2I.zero (W1 : World) (gp tB cB np i n : Nat) (old : List Value) (x24 x25 x26 x27 x28 x29 x30 : Value) (hgp : gp < W1.heap.size) (ho : Row W1 gp 57 (old)) : F2I W1 gp tB cB np i n old (fun _ => false) x24 x25 x26 x27 x28 x29 x30 0 W1.drew :=
  ⟨(KeptL.refl _ _).dr ⟨1, rfl⟩, hgp, fun _ => ho, fun k => (by cases k), fun k => (by cases k), fun k => (by cases k), fun k => (by cases k), fun k => (by cases k), fun k => (by cases k), fun k => (by cases k), fun k => (by cases k), fun k => (by cases k), fun k => (by cases k), fun k => (by cases k)⟩
theorem F2I.mono (h : F2I W1 gp tB cB np i n old L x24 x25 x26 x27 x28 x29 x30 G5 W) (hb : Below W.heap.size W W2) : F2I W1 gp tB cB np i n old L x24 x25 x26 x27 x28 x29 x30 G5 W2 :=
  ⟨h.bel.below hb h.bel.size, h.og, fun k => (hb.block _ (Nat.lt_of_lt_of_le h.og h.bel.size)).trans (h.o0 k), fun k => (hb.block _ (Nat.lt_of_lt_of_le h.og h.bel.size)).trans (h.o1 k), fun k => ⟨(h.b5 k).1, Nat.lt_of_lt_of_le (h.b5 k).2 hb.size⟩, fun k => (hb.block _ (h.b5 k).2).trans (h.r5 k), h.p0, h.p1, h.p2, h.p3, h.p4, h.p5, h.p6, h.l7_5⟩
theorem F2I.s5 (h : F2I W1 gp tB cB np i n old L x24 x25 x26 x27 x28 x29 x30 G5 W) (hL : L 5 = false) : F2I W1 gp tB cB np i n old (upd L 5) x24 x25 x26 x27 x28 (.slice (some ⟨W.heap.size, 0, none⟩) n n) x30 W.heap.size (W.alloc (.cells (List.replicate (n * 32) (Value.int .u8 0)).toArray 56)) :=
  have m := h.mono (below_alloc W (.cells (List.replicate (n * 32) (Value.int .u8 0)).toArray 56))
  ⟨m.bel, m.og, m.o0, fun k => no_of (fun k => h.l7_5 (k)) hL k, fun _ => ⟨h.bel.size, by simp⟩, fun _ => heap_alloc_new W _, m.p0, m.p1, m.p2, m.p3, m.p4, fun _ => rfl, m.p6, fun _ => rfl⟩
end
@[reducible] def IF2I (W1 : World) (gp tB cB np i n : Nat) (old : List Value) (y0 y1 y2 y3 y4 y5 y6 y7 y8 y9 y10 y11 y12 y13 y14 y15 y16 y17 y18 y19 y20 y21 y22 y23 y31 y32 y33 y34 y35 y36 y37 y38 y39 y40 y41 y42 y43 y44 y45 y46 y47 y48 y49 y50 : Value) : (Nat → Bool) → Act → World → Prop := fun L a W => ∃ x24 x25 x26 x27 x28 x29 x30 G5, a = ⟨#[y0, y1, y2, y3, y4, y5, y6, y7, y8, y9, y10, y11, y12, y13, y14, y15, y16, y17, y18, y19, y20, y21, y22, y23, x24, x25, x26, x27, x28, x29, x30, y31, y32, y33, y34, y35, y36, y37, y38, y39, y40, y41, y42, y43, y44, y45, y46, y47, y48, y49, y50], []⟩ ∧ F2I W1 gp tB cB np i n old L x24 x25 x26 x27 x28 x29 x30 G5 W
structure F3I (W1 : World) (gp tB pB np i n j : Nat) (BL : List By) (old : List Value) (L : Nat → Bool) (x40 x41 x42 x43 x44 x45 x46 x47 : Value) (W : World) : Prop where
  bel : KeptL [gp] W1 W
  og : gp < W1.heap.size
  o0 : L 8 = false → Row W gp 56 (old)
  o1 : L 8 = true → Row W gp 56 (putAt old (j * 32) (BL.map B8))
  p0 : L 0 = true → x40 = .pointer (some ⟨tB, 0, none⟩)
  p1 : L 1 = true → x41 = .slice (some ⟨pB, 0, none⟩) np np
  p2 : L 2 = true → x42 = .int .i64 (i : Int)
  p3 : L 3 = true → x43 = .pointer (some ⟨pB, i, none⟩)
  p4 : L 4 = true → x44 = .slice (some ⟨gp, 0, none⟩) n n
  p5 : L 5 = true → x45 = .int .i64 (j : Int)
  p6 : L 6 = true → x46 = .agg (BL.map B8).toArray
  p7 : L 7 = true → x47 = .pointer (some ⟨gp, j * 32, none⟩)
section
variable {W1 : World} {gp tB pB np i n j : Nat} {BL : List By} {old : List Value} {L : Nat → Bool} {x40 x41 x42 x43 x44 x45 x46 x47 : Value} {W W2 : World}
theorem F3I.zero (W1 : World) (gp tB pB np i n j : Nat) (BL : List By) (old : List Value) (x40 x41 x42 x43 x44 x45 x46 x47 : Value) (hgp : gp < W1.heap.size) (ho : Row W1 gp 56 (old)) : F3I W1 gp tB pB np i n j BL old (fun _ => false) x40 x41 x42 x43 x44 x45 x46 x47  W1.drew :=
  ⟨(KeptL.refl _ _).dr ⟨1, rfl⟩, hgp, fun _ => ho, fun k => (by cases k), fun k => (by cases k), fun k => (by cases k), fun k => (by cases k), fun k => (by cases k), fun k => (by cases k), fun k => (by cases k), fun k => (by cases k), fun k => (by cases k)⟩
end
@[reducible] def IF3I (W1 : World) (gp tB pB np i n j : Nat) (BL : List By) (old : List Value) (y0 y1 y2 y3 y4 y5 y6 y7 y8 y9 y10 y11 y12 y13 y14 y15 y16 y17 y18 y19 y20 y21 y22 y23 y24 y25 y26 y27 y28 y29 y30 y31 y32 y33 y34 y35 y36 y37 y38 y39 y48 y49 y50 : Value) : (Nat → Bool) → Act → World → Prop := fun L a W => ∃ x40 x41 x42 x43 x44 x45 x46 x47, a = ⟨#[y0, y1, y2, y3, y4, y5, y6, y7, y8, y9, y10, y11, y12, y13, y14, y15, y16, y17, y18, y19, y20, y21, y22, y23, y24, y25, y26, y27, y28, y29, y30, y31, y32, y33, y34, y35, y36, y37, y38, y39, x40, x41, x42, x43, x44, x45, x46, x47, y48, y49, y50], []⟩ ∧ F3I W1 gp tB pB np i n j BL old L x40 x41 x42 x43 x44 x45 x46 x47  W

theorem AG.below {w : World} {TT : Nat} {vs : List Value} {t : St} {pB eB bB tB i : Nat} {ps : List (Nat × Nat)} {W W' : World} (h : AG w TT vs t pB eB bB tB i ps W) (hb : Below W.heap.size W W') : AG w TT vs t pB eB bB tB i ps W' := by
  have hlo := h.lo
  refine ⟨h.bel.trans (hb.mono h.bel.size), (hb.block _ h.rs.lt).trans h.rs, (hb.block _ h.rz.lt).trans h.rz, (hb.block _ h.rt.lt).trans h.rt, (hb.block _ h.rp.lt).trans h.rp, (hb.block _ h.re.lt).trans h.re, (hb.block _ h.rb.lt).trans h.rb, fun j q p hq hp => (hb.block _ (h.pgs j q p hq hp).lt).trans (h.pgs j q p hq hp), h.len, h.nd, fun b hb2 => ⟨(hlo b hb2).1, Nat.lt_of_lt_of_le (hlo b hb2).2 hb.size⟩, h.cap⟩

set_option maxHeartbeats 1500000 in
set_option maxRecDepth 100000 in
theorem cfirst_any (cells slots fuses step keys erases area : Int) (np n nb : Nat) (hnp : (np : Int) = 2 + 2 * area) (hn : (n : Int) = cells) (hnb : (nb : Int) = slots * fuses + keys) (h1 : 0 ≤ area) (h2 : area ≤ 64) (h3 : n ≤ 256) (h4 : 1 ≤ slots * fuses ∧ slots * fuses ≤ 512) (h5 : 1 ≤ keys) (h6 : keys ≤ 64) (w : World) :
    Calls Tryd.prog 78 #[.agg #[.int .i64 cells, .int .i64 slots, .int .i64 fuses, .int .i64 step, .int .i64 keys, .int .i64 erases, .int .i64 area]] w (AgainPost (freshN np n nb) w) := by
  have hl1 : np ≤ 130 := by omega
  have hl2 : nb ≤ 576 := by omega
  have HPG : Hid (∀ W, Calls Tryd.prog 51 #[.agg #[.int .i64 cells, .int .i64 slots, .int .i64 fuses, .int .i64 step, .int .i64 keys, .int .i64 erases, .int .i64 area]] W fun e w' => e = .returned (.int .i64 (np : Int)) ∧ Below W.heap.size W w') := fun W => by rw [hnp]; exact cpages_any cells slots fuses step keys erases area h1 h2 W
  have HFU : Hid (∀ W, Calls Tryd.prog 52 #[.agg #[.int .i64 cells, .int .i64 slots, .int .i64 fuses, .int .i64 step, .int .i64 keys, .int .i64 erases, .int .i64 area]] W fun e w' => e = .returned (.int .i64 (nb : Int)) ∧ Below W.heap.size W w') := fun W => by rw [hnb]; exact cfuses_any cells slots fuses step keys erases area h4 h5 h6 W
  obtain ⟨BL, hBL⟩ : ∃ BL : List By, BL = List.replicate 32 255#8 := ⟨_, rfl⟩
  have hBl : BL.length = 32 := by rw [hBL]; simp
  have HBK : Hid (∀ W, Calls Tryd.prog 82 #[] W fun e w' => e = .returned (.agg (BL.map B8).toArray) ∧ Below W.heap.size W w') := fun W => by rw [hBL]; exact cblank_any W
  have hz : ∀ w : World, (zeroValue 29).run Tryd.prog w = .ok (.agg #[.slice none 0 0, .slice none 0 0, .slice none 0 0]) w := fun _ => by kernel_rfl
  obtain ⟨T0, hT0⟩ : ∃ T0, T0 = freshN np n nb := ⟨_, rfl⟩
  rw [← hT0]
  have t1 : Hid (T0.pages = List.replicate np (List.replicate n BL)) := by rw [hT0, hBL]; exact rfl
  have t2 : Hid (T0.erases = List.replicate np 0) := by rw [hT0]; exact rfl
  have t3 : Hid (T0.blown = List.replicate nb false) := by rw [hT0]; exact rfl
  have t1l : Hid (T0.pages.length = np) := by show _ = _; rw [t1.out]; simp
  have t2l : Hid (T0.erases.length = np) := by show _ = _; rw [t2.out]; simp
  have t3l : Hid (T0.blown.length = nb) := by show _ = _; rw [t3.out]; simp
  have t1g : Hid (∀ i, i < np → T0.pages.getD i [] = List.replicate n BL) := fun i hi => by rw [t1.out]; exact getD_rep np i _ _ hi
  have hcn : cells = (n : Int) := hn.symm
  subst hcn
  clear hT0 hBL hnp hn hnb h1 h2 h4 h5 h6
  obtain ⟨W1, hW1⟩ : ∃ W1, W1 = (w.alloc (.cells #[.int .i64 (n : Int), .int .i64 slots, .int .i64 fuses, .int .i64 step, .int .i64 keys, .int .i64 erases, .int .i64 area] 24)).alloc (.cells #[.slice none 0 0, .slice none 0 0, .slice none 0 0] 29) := ⟨_, rfl⟩
  have HRC : Hid (Row W1 w.heap.size 24 [.int .i64 (n : Int), .int .i64 slots, .int .i64 fuses, .int .i64 step, .int .i64 keys, .int .i64 erases, .int .i64 area]) := by rw [hW1]; exact (Row.at _ _ _ _ _ rfl rfl : Row (w.alloc _) _ _ _).alloc _
  have HR2 : Hid (Row W1 (w.heap.size + 1) 29 [nilS, nilS, nilS]) := by rw [hW1]; exact Row.at _ _ _ _ _ (by simp) rfl
  have HB1 : Hid (Below w.heap.size w W1 ∧ W1.heap.size = w.heap.size + 2) := by rw [hW1]; exact ⟨((Below.refl _ _).alloc (Nat.le_refl _) _).alloc (by simp) _, by simp⟩
  go_enter Tryd.func78, Tryd.ntmps78
  go_wp2
  rw [← hW1]
  clear hW1
  refine wp_region_inv (IF1I W1 (n : Int) slots fuses step keys erases area np nb _ _ _ _ _ _ _ _ _ _ _ _ _ _ _ _ _ _ _ _ _ _ _ _ _ _ _ _ _ _ _ _ _ _ _ _ _ _ _ _) (by kernel_rfl) (by kernel_rfl) ⟨_, _, _, _, _, _, _, _, _, _, _, _, _, _, _, rfl, F1I.zero W1 (n : Int) slots fuses step keys erases area np nb _ _ _ _ _ _ _ _ _ _ _⟩ ?_ ?_
  · refine .cons ?_ (.cons ?_ (.cons ?_ (.cons ?_ (.cons ?_ (.cons ?_ (.cons ?_ (.cons ?_ (.cons ?_ (.cons ?_ (.cons ?_ (.cons ?_ .nil)))))))))))
    all_goals (rintro L a W ⟨x7, x8, x9, x10, x11, x12, x13, x14, x15, x16, x3, G2, G5, G8, G10, rfl, hI⟩ hL hd K hK)
    · have rc : Row W w.heap.size 24 _ := (hI.bel.block _ HRC.out.lt (by simp)).trans HRC.out
      have c0 := rc.cell 0 _ rfl
      have c1 := rc.cell 1 _ rfl
      have c2 := rc.cell 2 _ rfl
      have c3 := rc.cell 3 _ rfl
      have c4 := rc.cell 4 _ rfl
      have c5 := rc.cell 5 _ rfl
      have c6 := rc.cell 6 _ rfl
      rw [if_pos (by rfl)]
      go_simp
      exact hK.out _ _ ⟨_, _, _, _, _, _, _, _, _, _, _, _, _, _, _, rfl, { hI with p0 := fun _ => rfl }⟩
    · obtain rfl := hI.p0 (hd 0 (by decide))
      rw [if_pos (by rfl)]
      go_simp
      refine (HPG.out _).mono ?_
      rintro e w3 ⟨rfl, hb3⟩
      exact hK.out _ _ ⟨_, _, _, _, _, _, _, _, _, _, _, _, _, _, _, rfl, (hI.mono hb3).s1⟩
    · obtain rfl := hI.p1 (hd 1 (by decide))
      refine step_make elz_pages rfl (.tmp 8) rfl np rfl (by omega) (by omega) ?_
      exact hK.out _ _ ⟨_, _, _, _, _, _, _, _, _, _, _, _, _, _, _, rfl, hI.s2 hL⟩
    · have rc : Row W w.heap.size 24 _ := (hI.bel.block _ HRC.out.lt (by simp)).trans HRC.out
      have c0 := rc.cell 0 _ rfl
      have c1 := rc.cell 1 _ rfl
      have c2 := rc.cell 2 _ rfl
      have c3 := rc.cell 3 _ rfl
      have c4 := rc.cell 4 _ rfl
      have c5 := rc.cell 5 _ rfl
      have c6 := rc.cell 6 _ rfl
      rw [if_pos (by rfl)]
      go_simp
      exact hK.out _ _ ⟨_, _, _, _, _, _, _, _, _, _, _, _, _, _, _, rfl, { hI with p3 := fun _ => rfl }⟩
    · obtain rfl := hI.p3 (hd 3 (by decide))
      rw [if_pos (by rfl)]
      go_simp
      refine (HPG.out _).mono ?_
      rintro e w3 ⟨rfl, hb3⟩
      exact hK.out _ _ ⟨_, _, _, _, _, _, _, _, _, _, _, _, _, _, _, rfl, (hI.mono hb3).s4⟩
    · obtain rfl := hI.p4 (hd 4 (by decide))
      refine step_make elz_ints rfl (.tmp 11) rfl np rfl (by omega) (by omega) ?_
      exact hK.out _ _ ⟨_, _, _, _, _, _, _, _, _, _, _, _, _, _, _, rfl, hI.s5 hL⟩
    · have rc : Row W w.heap.size 24 _ := (hI.bel.block _ HRC.out.lt (by simp)).trans HRC.out
      have c0 := rc.cell 0 _ rfl
      have c1 := rc.cell 1 _ rfl
      have c2 := rc.cell 2 _ rfl
      have c3 := rc.cell 3 _ rfl
      have c4 := rc.cell 4 _ rfl
      have c5 := rc.cell 5 _ rfl
      have c6 := rc.cell 6 _ rfl
      rw [if_pos (by rfl)]
      go_simp
      exact hK.out _ _ ⟨_, _, _, _, _, _, _, _, _, _, _, _, _, _, _, rfl, { hI with p6 := fun _ => rfl }⟩
    · obtain rfl := hI.p6 (hd 6 (by decide))
      rw [if_pos (by rfl)]
      go_simp
      refine (HFU.out _).mono ?_
      rintro e w3 ⟨rfl, hb3⟩
      exact hK.out _ _ ⟨_, _, _, _, _, _, _, _, _, _, _, _, _, _, _, rfl, (hI.mono hb3).s7⟩
    · obtain rfl := hI.p7 (hd 7 (by decide))
      refine step_make elz_bools rfl (.tmp 14) rfl nb rfl (by omega) (by omega) ?_
      exact hK.out _ _ ⟨_, _, _, _, _, _, _, _, _, _, _, _, _, _, _, rfl, hI.s8 hL⟩
    · obtain rfl := hI.p2 (hd 2 (by decide))
      obtain rfl := hI.p5 (hd 5 (by decide))
      obtain rfl := hI.p8 (hd 8 (by decide))
      rw [if_pos (by rfl)]
      go_simp
      exact hK.out _ _ ⟨_, _, _, _, _, _, _, _, _, _, _, _, _, _, _, rfl, { hI with p9 := fun _ => rfl, l9_2 := fun _ => (hd 2 (by decide)), l9_5 := fun _ => (hd 5 (by decide)), l9_8 := fun _ => (hd 8 (by decide)), l11_9 := fun _ => rfl }⟩
    · rw [if_pos (by rfl)]
      go_simp
      exact hK.out _ _ ⟨_, _, _, _, _, _, _, _, _, _, _, _, _, _, _, rfl, hI.s10 hL⟩
    · obtain rfl := hI.p10 (hd 10 (by decide))
      obtain rfl := hI.p9 (hd 9 (by decide))
      refine step_store_Row rfl 29 (.tmp 3) (.tmp 16) rfl G10 29 _ [.slice (some ⟨G2, 0, none⟩) np np, .slice (some ⟨G5, 0, none⟩) np np, .slice (some ⟨G8, 0, none⟩) nb nb] (hI.r10 (hd 10 (by decide)) hL) rfl rfl rfl (by kernel_rfl) (by simp [Value.oneCell']) ?_
      intro W2 hr2 hs2
      exact hK.out _ _ ⟨_, _, _, _, _, _, _, _, _, _, _, _, _, _, _, rfl, { hI with bel := hI.bel.but hs2 (.inr (hI.b10 (hd 10 (by decide))).1), b2 := fun k => ⟨(hI.b2 k).1, by rw [hs2.size]; exact (hI.b2 k).2⟩, r2 := fun k => (hs2.block _ (hI.d2_10 k (hd 10 (by decide)))).trans (hI.r2 k), b5 := fun k => ⟨(hI.b5 k).1, by rw [hs2.size]; exact (hI.b5 k).2⟩, r5 := fun k => (hs2.block _ (hI.d5_10 k (hd 10 (by decide)))).trans (hI.r5 k), b8 := fun k => ⟨(hI.b8 k).1, by rw [hs2.size]; exact (hI.b8 k).2⟩, r8 := fun k => (hs2.block _ (hI.d8_10 k (hd 10 (by decide)))).trans (hI.r8 k), b10 := fun k => ⟨(hI.b10 k).1, by rw [hs2.size]; exact (hI.b10 k).2⟩, r10 := fun _ k => (by cases k), t10 := fun _ => hr2, l11_9 := fun _ => (hd 9 (by decide)), l11_10 := fun _ => (hd 10 (by decide)) }⟩
  · rintro L a W hall ⟨x7, x8, x9, x10, x11, x12, x13, x14, x15, x16, x3, G2, G5, G8, G10, rfl, hI⟩
    have hx0 := hI.p0 (hall 0 (by decide))
    have hx1 := hI.p1 (hall 1 (by decide))
    have hx2 := hI.p2 (hall 2 (by decide))
    have hx3 := hI.p3 (hall 3 (by decide))
    have hx4 := hI.p4 (hall 4 (by decide))
    have hx5 := hI.p5 (hall 5 (by decide))
    have hx6 := hI.p6 (hall 6 (by decide))
    have hx7 := hI.p7 (hall 7 (by decide))
    have hx8 := hI.p8 (hall 8 (by decide))
    have hx9 := hI.p9 (hall 9 (by decide))
    have hx10 := hI.p10 (hall 10 (by decide))
    subst hx0 hx1 hx2 hx3 hx4 hx5 hx6 hx7 hx8 hx9 hx10
    have hb2 := hI.b2 (hall 2 (by decide))
    have hr2 := hI.r2 (hall 2 (by decide))
    have hb5 := hI.b5 (hall 5 (by decide))
    have hr5 := hI.r5 (hall 5 (by decide))
    have hb8 := hI.b8 (hall 8 (by decide))
    have hr8 := hI.r8 (hall 8 (by decide))
    have hb10 := hI.b10 (hall 10 (by decide))
    have hr10 := hI.t10 (hall 11 (by decide))
    have hd2_5 := hI.d2_5 (hall 2 (by decide)) (hall 5 (by decide))
    have hd2_8 := hI.d2_8 (hall 2 (by decide)) (hall 8 (by decide))
    have hd2_10 := hI.d2_10 (hall 2 (by decide)) (hall 10 (by decide))
    have hd5_8 := hI.d5_8 (hall 5 (by decide)) (hall 8 (by decide))
    have hd5_10 := hI.d5_10 (hall 5 (by decide)) (hall 10 (by decide))
    have hd8_10 := hI.d8_10 (hall 8 (by decide)) (hall 10 (by decide))
    have hkp := hI.bel
    clear hI hall
    try dsimp only
    have hsz := HB1.out.2
    obtain ⟨PB, hPB⟩ : ∃ x, x = G2 := ⟨_, rfl⟩
    subst hPB
    have hag0 : AG w 24 [.int .i64 (n : Int), .int .i64 slots, .int .i64 fuses, .int .i64 step, .int .i64 keys, .int .i64 erases, .int .i64 area] T0 PB G5 G8 G10 0 [] W := by
      refine ⟨(HB1.out.1.trans ⟨hkp.os, hkp.tape, hkp.output, hkp.size, fun k hk => hkp.block k (by omega) (by simp)⟩), (hkp.block _ HRC.out.lt (by simp)).trans HRC.out, (hkp.block _ HR2.out.lt (by simp)).trans HR2.out, ?_, ?_, ?_, ?_, fun j q p hq => by simp at hq, rfl, ?_, ?_, fun j q p hq => by simp at hq⟩
      · unfold ownVals; rw [t1l.out, t2l.out, t3l.out]; exact hr10
      · rw [List.zipWith_nil_left, List.nil_append, Nat.sub_zero, t1l.out, ← Nat.mul_one np]; exact hr2
      · rw [t2l.out, ← Nat.mul_one np]; exact hr5
      · rw [t3l.out, ← Nat.mul_one nb]; exact hr8
      · simp only [List.map_nil, List.nodup_cons, List.mem_cons, List.not_mem_nil, or_false, not_or, List.nodup_nil, not_false_eq_true, and_true]
        exact ⟨⟨fun e => hd2_10 e.symm, fun e => hd5_10 e.symm, fun e => hd8_10 e.symm⟩, ⟨hd2_5, hd2_8⟩, hd5_8⟩
      · intro b hb
        simp at hb
        rcases hb with rfl | rfl | rfl | rfl <;> omega
    have HAG0 : Hid (AG w 24 [.int .i64 (n : Int), .int .i64 slots, .int .i64 fuses, .int .i64 step, .int .i64 keys, .int .i64 erases, .int .i64 area] T0 PB G5 G8 G10 0 [] W) := hag0
    clear hag0 hr2 hr5 hr8 hr10 hd2_5 hd2_8 hd2_10 hd5_8 hd5_10 hd8_10 hkp HRC HR2 HB1 hb2 hb5 hb8 hb10 hsz
    go_wp2_with fail
    refine (HBK.out _).mono ?_
    rintro e w5 ⟨rfl, hb5⟩
    have HAG1 : Hid (AG w 24 [.int .i64 (n : Int), .int .i64 slots, .int .i64 fuses, .int .i64 step, .int .i64 keys, .int .i64 erases, .int .i64 area] T0 PB G5 G8 G10 0 [] w5) := HAG0.out.below hb5
    clear hb5 HAG0
    generalize hBKs : w5.heap.size = BK at *
    go_wp2_with (refine wpList_store_Row rfl 56 _ _ rfl BK 56 0 ((List.replicate 32 (0 : By)).map B8) (BL.map B8) (Row.at _ _ _ _ _ hBKs.symm rfl) (by simp [hBl]) rfl rfl (by rw [List.length_map, hBl]; kernel_rfl) (B8_one _) ?_; intro w6 hr6 hs6; have rbk := row_whole hr6 (by simp [hBl]); have bl6 : Below w5.heap.size w5 w6 := hs6.below ((Below.refl _ _).alloc (Nat.le_refl _) _) (by omega); have HAG2 : Hid (AG w 24 [.int .i64 (n : Int), .int .i64 slots, .int .i64 fuses, .int .i64 step, .int .i64 keys, .int .i64 erases, .int .i64 area] T0 PB G5 G8 G10 0 [] w6) := HAG1.out.below bl6; have hbkp : Hid (∀ b ∈ G10 :: PB :: G5 :: G8 :: ([] : List (Nat × Nat)).map (·.1), b < BK) := fun b hb => by { have h1 := (HAG1.out.lo b hb).2; omega }; have hrt := HAG2.out.rt; unfold ownVals at hrt; rw [t1l.out, t2l.out, t3l.out] at hrt; have ct0 := hrt.cell 0 _ rfl; clear hr6 hs6 bl6 hrt)
    have HBP : Hid (PB ≠ BK ∧ G10 ≠ BK ∧ w.heap.size < BK) := by
      have a1 := hbkp.out PB (by simp)
      have a2 := hbkp.out G10 (by simp)
      have a3 := (HAG1.out.lo PB (by simp)).1
      exact ⟨by omega, by omega, by omega⟩
    have HRB0 : Hid (Row w6 BK 56 (BL.map B8)) := rbk
    clear HAG1 hBKs hbkp rbk
    go_loopw [21] (fun iv wr => ∃ (i : Nat) (ps : List (Nat × Nat)), i ≤ np ∧ iv = .int .i64 i ∧ Hid (AG w 24 [.int .i64 (n : Int), .int .i64 slots, .int .i64 fuses, .int .i64 step, .int .i64 keys, .int .i64 erases, .int .i64 area] T0 PB G5 G8 G10 i ps wr) ∧ Hid (Row wr BK 56 (BL.map B8))) (fun iv _ => np - (intOf iv).toNat)
    case atStart => exact ⟨0, [], by omega, rfl, HAG2, HRB0⟩
    case round =>
      clear HAG2 HRB0 ct0
      obtain ⟨i, ps, hi, rfl, hag, hrbk⟩ := hrel
      by_cases hlt : i < np
      · have y0 : (0 : Int) ≤ (i : Int) := by omega
        have y1 : (i : Int) < (np : Int) := by omega
        have hip : i < T0.pages.length := by rw [t1l.out]; exact hlt
        have hpi := t1g.out i hlt
        obtain ⟨OLD, hOLD⟩ : ∃ OLD, OLD = List.zipWith pgVal ps (T0.pages.take i) ++ List.replicate (T0.pages.length - i) nilS := ⟨_, rfl⟩
        have HOLD : Row wr PB 57 OLD := by rw [hOLD]; exact hag.out.rp
        have HGP : PB < wr.heap.size := HOLD.lt
        have hnd := hag.out.nd
        simp only [List.nodup_cons, List.mem_cons, not_or] at hnd
        have HTP : Hid (G10 ≠ PB) := hnd.1.1
        have HCP : Hid (w.heap.size ≠ PB) := by have := (hag.out.lo PB (by simp)).1; show _ ≠ _; omega
        have hrt0 := hag.out.rt
        unfold ownVals at hrt0
        rw [t1l.out, t2l.out, t3l.out] at hrt0
        have HRT : Hid (Row wr G10 29 [.slice (some ⟨PB, 0, none⟩) np np, .slice (some ⟨G5, 0, none⟩) np np, .slice (some ⟨G8, 0, none⟩) nb nb]) := hrt0
        have HRC2 : Hid (Row wr w.heap.size 24 [.int .i64 (n : Int), .int .i64 slots, .int .i64 fuses, .int .i64 step, .int .i64 keys, .int .i64 erases, .int .i64 area]) := hag.out.rs
        have HIO : Hid (OLD[i]? = some nilS) := by
          show _ = _
          have e1 : (List.zipWith pgVal ps (T0.pages.take i)).length = i := by rw [List.length_zipWith, hag.out.len, List.length_take]; omega
          rw [hOLD, List.getElem?_append_right (by omega), e1, Nat.sub_self, List.getElem?_replicate, if_pos (by omega)]
        have HNX : Hid (∀ (W W' : World) (G : Nat), KeptL [PB] wr W → wr.heap.size ≤ G → G < W.heap.size → Row W PB 57 (OLD.set i (.slice (some ⟨G, 0, none⟩) n n)) → Row W' G 56 ((fillN BL n n).flatten.map B8) → KeptL [G] W W' → AG w 24 [.int .i64 (n : Int), .int .i64 slots, .int .i64 fuses, .int .i64 step, .int .i64 keys, .int .i64 erases, .int .i64 area] T0 PB G5 G8 G10 (i + 1) (ps ++ [(G, n)]) W' ∧ Row W' BK 56 (BL.map B8)) := by
          intro W W' G k1 k2 k3 k4 k5 k6
          rw [hOLD] at k4
          have kk := k1.over k6 k2
          have hbl := hrbk.out.lt
          refine ⟨?_, (kk.block BK hbl (by simpa using fun e => HBP.out.1 e.symm)).trans hrbk.out⟩
          have e2 : (T0.pages.getD i []).length = n := by rw [hpi]; simp
          have e3 : fillN BL n n = T0.pages.getD i [] := by rw [hpi]; simp [fillN]
          rw [e3] at k5
          have := hag.out.push hip kk G k2 (Nat.lt_of_lt_of_le k3 k6.size) (by rw [e2]; exact (k6.block PB (Nat.lt_of_lt_of_le HGP k1.size) (by simp; omega)).trans k4) k5
          rw [e2] at this
          exact this
        have HBKR : Hid (∀ W, KeptL [PB] wr W → Row W BK 56 (BL.map B8)) := fun W k => (k.block BK hrbk.out.lt (by simpa using fun e => HBP.out.1 e.symm)).trans hrbk.out
        have HBW : Hid (BK < wr.heap.size) := hrbk.out.lt
        clear hOLD hrt0 hag hrbk hnd hpi hip
        go_wp2
        refine wp_region_inv (IF2I wr PB G10 w.heap.size np i n OLD _ _ _ _ _ _ _ _ _ _ _ _ _ _ _ _ _ _ _ _ _ _ _ _ _ _ _ _ _ _ _ _ _ _ _ _ _ _ _ _ _ _ _ _) (by kernel_rfl) (by kernel_rfl) ⟨_, _, _, _, _, _, _, _, rfl, F2I.zero wr PB G10 w.heap.size np i n OLD _ _ _ _ _ _ _ HGP HOLD⟩ ?_ ?_
        · refine .cons ?_ (.cons ?_ (.cons ?_ (.cons ?_ (.cons ?_ (.cons ?_ (.cons ?_ (.cons ?_ .nil)))))))
          all_goals (rintro L a W ⟨x24, x25, x26, x27, x28, x29, x30, G5, rfl, hI⟩ hL hd K hK)
          · rw [if_pos (by rfl)]
            go_simp
            exact hK.out _ _ ⟨_, _, _, _, _, _, _, _, rfl, { hI with p0 := fun _ => rfl }⟩
          · obtain rfl := hI.p0 (hd 0 (by decide))
            have hrt : Row W G10 29 _ := (hI.bel.block _ HRT.out.lt (by simpa using HTP.out)).trans HRT.out
            have c0 := hrt.cell 0 _ rfl
            rw [if_pos (by rfl)]
            go_simp
            exact hK.out _ _ ⟨_, _, _, _, _, _, _, _, rfl, { hI with p1 := fun _ => rfl }⟩
          · rw [if_pos (by rfl)]
            go_simp
            exact hK.out _ _ ⟨_, _, _, _, _, _, _, _, rfl, { hI with p2 := fun _ => rfl }⟩
          · rw [if_pos (by rfl)]
            go_simp
            exact hK.out _ _ ⟨_, _, _, _, _, _, _, _, rfl, { hI with p3 := fun _ => rfl }⟩
          · obtain rfl := hI.p3 (hd 3 (by decide))
            have hrc : Row W w.heap.size 24 _ := (hI.bel.block _ HRC2.out.lt (by simpa using HCP.out)).trans HRC2.out
            have c0 := hrc.cell 0 _ rfl
            rw [if_pos (by rfl)]
            go_simp
            exact hK.out _ _ ⟨_, _, _, _, _, _, _, _, rfl, { hI with p4 := fun _ => rfl }⟩
          · obtain rfl := hI.p4 (hd 4 (by decide))
            refine step_make elz_cells rfl (.tmp 28) rfl n rfl (by omega) (by omega) ?_
            exact hK.out _ _ ⟨_, _, _, _, _, _, _, _, rfl, hI.s5 hL⟩
          · obtain rfl := hI.p1 (hd 1 (by decide))
            obtain rfl := hI.p2 (hd 2 (by decide))
            rw [if_pos (by rfl)]
            go_simp
            exact hK.out _ _ ⟨_, _, _, _, _, _, _, _, rfl, { hI with p6 := fun _ => rfl }⟩
          · obtain rfl := hI.p6 (hd 6 (by decide))
            obtain rfl := hI.p5 (hd 5 (by decide))
            have ho := hI.o0 hL
            have co := ho.cell i _ HIO.out
            have fo := ho.frozen i
            rw [if_pos (by rfl)]
            go_simp
            have hr2 := ho.set i (.slice (some ⟨G5, 0, none⟩) n n)
            have hs2 := SameBut.setCell PB i (.slice (some ⟨G5, 0, none⟩) n n) W
            exact hK.out _ _ ⟨_, _, _, _, _, _, _, _, rfl, { hI with bel := hI.bel.but hs2 (.inl (by simp)), o0 := fun k => (by cases k), o1 := fun _ => hr2, b5 := fun k => ⟨(hI.b5 k).1, by rw [hs2.size]; exact (hI.b5 k).2⟩, r5 := fun k => (hs2.block _ (by have := (hI.b5 k).1; have := hI.og; omega)).trans (hI.r5 k), l7_5 := fun _ => (hd 5 (by decide)) }⟩
        · rintro L a W hall ⟨x24, x25, x26, x27, x28, x29, x30, G5, rfl, hI⟩
          have hx0 := hI.p0 (hall 0 (by decide))
          have hx1 := hI.p1 (hall 1 (by decide))
          have hx2 := hI.p2 (hall 2 (by decide))
          have hx3 := hI.p3 (hall 3 (by decide))
          have hx4 := hI.p4 (hall 4 (by decide))
          have hx5 := hI.p5 (hall 5 (by decide))
          have hx6 := hI.p6 (hall 6 (by decide))
          subst hx0 hx1 hx2 hx3 hx4 hx5 hx6
          have hb5 := hI.b5 (hall 5 (by decide))
          have hr5 := hI.r5 (hall 5 (by decide))
          have hro := hI.o1 (hall 7 (by decide))
          have hkp := hI.bel
          clear hI hall
          try dsimp only
          have HK6 : Hid (KeptL [PB] wr W) := hkp
          have HRP3 : Hid (Row W PB 57 (OLD.set i (.slice (some ⟨G5, 0, none⟩) n n))) := hro
          have hlO : i < OLD.length := (List.getElem?_eq_some_iff.1 HIO.out).1
          have HPI : Hid ((OLD.set i (.slice (some ⟨G5, 0, none⟩) n n))[i]? = some (.slice (some ⟨G5, 0, none⟩) n n)) := List.getElem?_set_self hlO
          have HRT3 : Hid (Row W G10 29 _) := (hkp.block _ HRT.out.lt (by simpa using HTP.out)).trans HRT.out
          have HRB3 : Hid (Row W BK 56 (BL.map B8)) := HBKR.out W hkp
          have hqs : wr.heap.size ≤ G5 := hb5.1
          have HTQ : Hid (G10 ≠ G5) := by have := HRT.out.lt; show _ ≠ _; omega
          have HPQ : Hid (PB ≠ G5) := by show _ ≠ _; omega
          have HQ2 : Hid (wr.heap.size ≤ G5 ∧ G5 < W.heap.size) := hb5
          have HBQ : Hid (BK ≠ G5) := by
            have h2 := HBW.out
            show _ ≠ _; omega
          have c0 := HRT3.out.cell 0 _ rfl
          have c1 := HRP3.out.cell i _ HPI.out
          have hr5' : Row W G5 56 ((fillN BL n 0).flatten.map B8) := by
            have e : (fillN BL n 0).flatten.map B8 = List.replicate (n * 32) (Value.int .u8 0) := by
              unfold fillN
              rw [List.replicate_zero, List.nil_append, Nat.sub_zero]; exact flat_rep n
            rw [e]; exact hr5
          have HR5 : Hid (Row W G5 56 ((fillN BL n 0).flatten.map B8)) := hr5'
          generalize hNEWP : OLD.set i (.slice (some ⟨G5, 0, none⟩) n n) = NEWP at *
          clear hkp hro hr5 hr5' HIO hlO hqs hb5 HOLD HGP
          go_wp2
          go_loopw [37] (fun jv wq => ∃ j : Nat, j ≤ n ∧ jv = .int .i64 j ∧ Hid (Row wq G5 56 ((fillN BL n j).flatten.map B8)) ∧ Hid (KeptL [G5] W wq)) (fun jv _ => n - (intOf jv).toNat)
          case atStart => exact ⟨0, by omega, rfl, HR5, KeptL.refl _ _⟩
          case round =>
            clear HR5 c0 c1
            obtain ⟨j, hj, rfl, hrj, hkj⟩ := hrel
            by_cases hjl : j < n
            · have z0 : (0 : Int) ≤ (j : Int) := by omega
              have z1 : (j : Int) < (n : Int) := by omega
              obtain ⟨OLD3, hOLD3⟩ : ∃ x, x = (fillN BL n j).flatten.map B8 := ⟨_, rfl⟩
              have HOLD : Row wr G5 56 OLD3 := by rw [hOLD3]; exact hrj.out
              have HGP : G5 < wr.heap.size := HOLD.lt
              have h8 := fillN_8 BL hBl n j
              have hfl : (fillN BL n j).length = n := by simp [fillN]; omega
              have HFIT : Hid (j * 32 + 32 ≤ OLD3.length) := by
                show _ ≤ _
                rw [hOLD3, List.length_map, flat_len _ h8, hfl]; omega
              have HRT4 : Hid (Row wr G10 29 _) := (hkj.out.block _ HRT3.out.lt (by simpa using HTQ.out)).trans HRT3.out
              have HRP4 : Hid (Row wr PB 57 NEWP) := (hkj.out.block _ HRP3.out.lt (by simpa using HPQ.out)).trans HRP3.out
              have HRB4 : Hid (Row wr BK 56 (BL.map B8)) := (hkj.out.block _ HRB3.out.lt (by simpa using HBQ.out)).trans HRB3.out
              have HNJ : Hid (∀ W2, Row W2 G5 56 (putAt OLD3 (j * 32) (BL.map B8)) → KeptL [G5] wr W2 → Row W2 G5 56 ((fillN BL n (j + 1)).flatten.map B8) ∧ KeptL [G5] W W2) := by
                intro W2 q1 q2
                refine ⟨?_, hkj.out.trans q2⟩
                have := putAt_cell (fillN BL n j) [] j BL h8 (by omega) hBl
                rw [List.append_nil, List.append_nil, ← hOLD3, fillN_set BL n j hjl] at this
                rw [← this]; exact q1
              clear hOLD3 hrj hkj h8 hfl
              go_wp2
              refine wp_region_inv (IF3I wr G5 G10 PB np i n j BL OLD3 _ _ _ _ _ _ _ _ _ _ _ _ _ _ _ _ _ _ _ _ _ _ _ _ _ _ _ _ _ _ _ _ _ _ _ _ _ _ _ _ _ _ _) (by kernel_rfl) (by kernel_rfl) ⟨_, _, _, _, _, _, _, _, rfl, F3I.zero wr G5 G10 PB np i n j BL OLD3 _ _ _ _ _ _ _ _ HGP HOLD⟩ ?_ ?_
              · refine .cons ?_ (.cons ?_ (.cons ?_ (.cons ?_ (.cons ?_ (.cons ?_ (.cons ?_ (.cons ?_ (.cons ?_ .nil))))))))
                all_goals (rintro L a W ⟨x40, x41, x42, x43, x44, x45, x46, x47, rfl, hI⟩ hL hd K hK)
                · rw [if_pos (by rfl)]
                  go_simp
                  exact hK.out _ _ ⟨_, _, _, _, _, _, _, _, rfl, { hI with p0 := fun _ => rfl }⟩
                · obtain rfl := hI.p0 (hd 0 (by decide))
                  have hrt : Row W G10 29 _ := (hI.bel.block _ HRT4.out.lt (by simpa using HTQ.out)).trans HRT4.out
                  have c0 := hrt.cell 0 _ rfl
                  rw [if_pos (by rfl)]
                  go_simp
                  exact hK.out _ _ ⟨_, _, _, _, _, _, _, _, rfl, { hI with p1 := fun _ => rfl }⟩
                · rw [if_pos (by rfl)]
                  go_simp
                  exact hK.out _ _ ⟨_, _, _, _, _, _, _, _, rfl, { hI with p2 := fun _ => rfl }⟩
                · obtain rfl := hI.p1 (hd 1 (by decide))
                  obtain rfl := hI.p2 (hd 2 (by decide))
                  rw [if_pos (by rfl)]
                  go_simp
                  exact hK.out _ _ ⟨_, _, _, _, _, _, _, _, rfl, { hI with p3 := fun _ => rfl }⟩
                · obtain rfl := hI.p3 (hd 3 (by decide))
                  have hrp : Row W PB 57 NEWP := (hI.bel.block _ HRP4.out.lt (by simpa using HPQ.out)).trans HRP4.out
                  have c0 := hrp.cell i _ HPI.out
                  rw [if_pos (by rfl)]
                  go_simp
                  exact hK.out _ _ ⟨_, _, _, _, _, _, _, _, rfl, { hI with p4 := fun _ => rfl }⟩
                · rw [if_pos (by rfl)]
                  go_simp
                  exact hK.out _ _ ⟨_, _, _, _, _, _, _, _, rfl, { hI with p5 := fun _ => rfl }⟩
                · have hrb : Row W BK 56 (BL.map B8) := (hI.bel.block _ HRB4.out.lt (by simpa using HBQ.out)).trans HRB4.out
                  refine step_load_Row rfl 56 (.tmp 4) rfl BK 56 _ hrb rfl _ Tryd.underlying56 rfl (by rw [List.length_map, hBl]; kernel_rfl) ?_
                  exact hK.out _ _ ⟨_, _, _, _, _, _, _, _, rfl, { hI with p6 := fun _ => rfl }⟩
                · obtain rfl := hI.p4 (hd 4 (by decide))
                  obtain rfl := hI.p5 (hd 5 (by decide))
                  rw [if_pos (by rfl)]
                  go_simp
                  exact hK.out _ _ ⟨_, _, _, _, _, _, _, _, rfl, { hI with p7 := fun _ => rfl }⟩
                · obtain rfl := hI.p7 (hd 7 (by decide))
                  obtain rfl := hI.p6 (hd 6 (by decide))
                  have ho := hI.o0 hL
                  refine step_store_mid rfl 56 (.tmp 47) (.tmp 46) rfl G5 (j * 32) 56 _ (BL.map B8) ho (by rw [List.length_map, hBl]; exact HFIT.out) rfl rfl (by rw [List.length_map, hBl]; kernel_rfl) (B8_one _) ?_
                  intro W2 hr2 hs2
                  exact hK.out _ _ ⟨_, _, _, _, _, _, _, _, rfl, { hI with bel := hI.bel.but hs2 (.inl (by simp)), o0 := fun k => (by cases k), o1 := fun _ => hr2 }⟩
              · rintro L a W hall ⟨x40, x41, x42, x43, x44, x45, x46, x47, rfl, hI⟩
                have hx0 := hI.p0 (hall 0 (by decide))
                have hx1 := hI.p1 (hall 1 (by decide))
                have hx2 := hI.p2 (hall 2 (by decide))
                have hx3 := hI.p3 (hall 3 (by decide))
                have hx4 := hI.p4 (hall 4 (by decide))
                have hx5 := hI.p5 (hall 5 (by decide))
                have hx6 := hI.p6 (hall 6 (by decide))
                have hx7 := hI.p7 (hall 7 (by decide))
                subst hx0 hx1 hx2 hx3 hx4 hx5 hx6 hx7
                have hro := hI.o1 (hall 8 (by decide))
                have hkp := hI.bel
                clear hI hall
                try dsimp only
                have hnj := HNJ.out W hro hkp
                have HN1 : Hid (Row W G5 56 ((fillN BL n (j + 1)).flatten.map B8)) := hnj.1
                have HN2 := hnj.2
                have HN3 := (show Hid _ from HN2)
                clear hnj hro hkp HNJ
                go_wp2
                exact ⟨⟨j + 1, by omega, by go_num, HN1, HN3⟩, by simp [intOf]; omega⟩
            · obtain rfl : j = n := by omega
              have z1 : ¬ (j : Int) < (j : Int) := by omega
              have hnx := HNX.out W wr G5 HK6.out HQ2.out.1 HQ2.out.2 (by rw [hNEWP]; exact HRP3.out) hrj.out hkj.out
              have HA1 := (show Hid _ from hnx.1)
              have HA2 := (show Hid _ from hnx.2)
              clear hnx hrj hkj hjl hj
              go_wp2
              exact ⟨⟨i + 1, ps ++ [(G5, j)], by omega, by go_num, HA1, HA2⟩, by simp [intOf]; omega⟩
      · obtain rfl : i = np := by omega
        have y1 : ¬ (i : Int) < (i : Int) := by omega
        have hA := hag.out
        have rz := hA.rz
        have rt := hA.rt
        unfold ownVals at rt
        rw [t1l.out, t2l.out, t3l.out] at rt
        have HFIN : Hid (∀ W3, SameBut (w.heap.size + 1) wr W3 → AgainPost T0 w (.returned (.agg #[.slice (some ⟨PB, 0, none⟩) i i, .slice (some ⟨G5, 0, none⟩) i i, .slice (some ⟨G8, 0, none⟩) nb nb])) W3) := by
          intro W3 q5
          have hA' := hA
          rw [← t1l.out] at hA'
          have re := hA'.re
          have rb := hA'.rb
          have e1 : T0.erases.map (Value.int .i64) = List.replicate T0.erases.length (.int .i64 0) := by rw [t2l.out, t2.out, List.map_replicate]
          have e2 : T0.blown.map Value.bool = List.replicate T0.blown.length (.bool false) := by rw [t3l.out, t3.out, List.map_replicate]
          obtain ⟨f1, f2⟩ := hA'.fin (by rw [e1]; exact re) (SameBut.refl _ _) (by rw [e2]; exact rb) (SameBut.refl _ _) q5
          refine ⟨PB, G5, G8, ps, ?_, f1, f2⟩
          unfold ownVals
          rw [t1l.out, t2l.out, t3l.out]
        clear hA hag hrbk
        go_wp2_with (first
          | (refine wpList_load_Row rfl 29 _ rfl _ _ _ rt rfl _ Tryd.underlying29 rfl (by kernel_rfl) ?_)
          | (refine wpList_store_Row rfl 29 _ _ rfl _ _ 0 _ [.slice (some ⟨PB, 0, none⟩) i i, .slice (some ⟨G5, 0, none⟩) i i, .slice (some ⟨G8, 0, none⟩) nb nb] rz (by simp) rfl rfl (by kernel_rfl) (by simp [Value.oneCell']) ?_; intro w9 hr9 hs9))
        have hr := row_whole hr9 (by simp)
        exact bodyPost_ret_by (results_Row Tryd.results78 _ w9 (w.heap.size + 1) 29 _ _ rfl hr Tryd.underlying29 rfl (by kernel_rfl)) rfl (HFIN.out w9 hs9)
end Go.Proofs.YtgpnbiaghokjkaaDoor
