
import Derived.Test.YtjooabgjkjnhhaaDoorT24S
import Derived.Great.BuildSlice
/-! The reference's token: Narrow. (Printed by tools/gent24b.py.) -/
namespace Go.Proofs.YtjooabgjkjnhhaaDoor
open Go.RowKit
set_option linter.unusedVariables false
set_option linter.unusedSimpArgs false
set_option maxRecDepth 100000

theorem owC_empty (N : Nat) (w : World) (h : N ≤ w.heap.size) : (w.alloc (.cells #[] 72)).ownsRow N 72 5 (.slice (some ⟨w.heap.size, 0, none⟩) 0 0) 0 [] :=
  ⟨rfl, .inr ⟨w.heap.size, 0, #[], rfl, h, heap_alloc_new w _, Nat.le_refl _, by unfold maxLen; omega, rfl, rfl⟩⟩
theorem step_build_cv {ops : Array Oper} {o : Oper} {a : Act} {w : World} {K : Act → World → Prop} {Q : Exit → Act → World → Prop} {X : Prop} (hw : Region.wanted o (yielded ops a.tmps) = true) (x : Operand) (ho : o.op = .buildSlice 24 1 #[(0, x)])
    (cs : List Value) (hl : cs.length = 5) (hx : a.eval x = .agg cs.toArray) (h : K (a.put o.dst (.slice (some ⟨w.heap.size, 0, none⟩) 1 1)) (w.alloc (.cells cs.toArray 72))) : if Region.wanted o (yielded ops a.tmps) = true then Oper.wp Tryd.prog o a w K Q else X := by
  rw [if_pos hw]
  obtain ⟨i0, hi, hz0, hz1, hz2⟩ := info_parts el_cavs24.info
  refine wp_buildSlice 24 72 1 _ ho cs.toArray i0 _ Tryd.underlying24 hi hz0 (by rw [hz1]; omega) (by rw [hz1]; omega) ?_ h
  rw [hz1]
  have e : (#[(0, x)].map fun (i, y) => (i, a.eval y)).toList = (([Value.agg cs.toArray]).zipIdx 0).map fun x => (x.2, x.1) := by simp [hx]
  rw [e, Great.fill_whole (s := 5) (by decide) [Value.agg cs.toArray] _ (fun v hv => by rw [List.mem_singleton.1 hv]; simpa [Value.cells] using hl) (by simp)]
  congr 2
  simp [Value.cells]
theorem build_tk012 (key : Int) (io : Option Addr) (n ic : Nat) (lo : Option Addr) (m lc : Nat) (w : World) : (Instr.build 28 #[(0, .int .i64 key), (1, .slice io n ic), (2, .slice lo m lc)]).run Tryd.prog w = .ok (.agg (tkC key io n ic lo m lc (List.replicate 32 0)).toArray) w := by kernel_rfl
theorem step_build3 {ops : Array Oper} {o : Oper} {a : Act} {w : World} {K : Act → World → Prop} {Q : Exit → Act → World → Prop} {X : Prop} (hw : Region.wanted o (yielded ops a.tmps) = true) (t : TypeId) (i j k : Nat) (x y z : Operand) (ho : o.op = .build t #[(i, x), (j, y), (k, z)])
    (vx vy vz v : Value) (hx : a.eval x = vx) (hy : a.eval y = vy) (hz : a.eval z = vz) (hrun : (Instr.build t #[(i, vx), (j, vy), (k, vz)]).run Tryd.prog w = .ok v w) (h : K (a.put o.dst v) w) : if Region.wanted o (yielded ops a.tmps) = true then Oper.wp Tryd.prog o a w K Q else X := by
  subst hx; subst hy; subst hz
  rw [if_pos hw]
  unfold Oper.wp execOp
  simp only [ho, List.map_toArray, List.map_cons, List.map_nil, Sem.run_bind, Sem.run_pure, hrun, Result.andThen_ok]
  exact h
/-- While the tag is reckoned, and laid (6). -/
structure NarN9 (w : World) (T : List Value) (c : Cv) (id : List By) (io2 : Option Addr) (ic2 : Nat) (cs : List Cv) (lo2 : Option Addr) (lc2 g8 : Nat) (key : Int) (tg : List By) (q : Bool) (W : World) : Prop where
  bel : Below w.heap.size w W
  t : Row W w.heap.size 28 T
  cc : Row W (w.heap.size + 1) 72 (cvC c)
  res : Row W (w.heap.size + 2) 28 zTk
  oid : W.ownsRow (w.heap.size + 3) 5 1 (.slice io2 id.length ic2) id.length (id.map B8)
  ocs : W.ownsRow (w.heap.size + 3) 72 5 (.slice lo2 (cs.length + 1) lc2) (cs.length + 1) (cs.flatMap cvC ++ cvC c)
  hg : w.heap.size + 3 ≤ g8
  g : Row W g8 28 (tkC key io2 id.length ic2 lo2 (cs.length + 1) lc2 (if q then tg else List.replicate 32 0))
section
variable {w : World} {T : List Value} {c : Cv} {id : List By} {io2 : Option Addr} {ic2 : Nat} {cs : List Cv} {lo2 : Option Addr} {lc2 g8 : Nat} {key : Int} {tg : List By} {q : Bool} {W W2 : World}
theorem NarN9.keep (h : NarN9 w T c id io2 ic2 cs lo2 lc2 g8 key tg q W) (hb : Below W.heap.size W W2) : NarN9 w T c id io2 ic2 cs lo2 lc2 g8 key tg q W2 :=
  ⟨h.bel.trans (hb.mono h.bel.size), h.t.below hb h.t.lt, h.cc.below hb h.cc.lt, h.res.below hb h.res.lt, owB_keep h.oid hb, owB_keep h.ocs hb, h.hg, h.g.below hb h.g.lt⟩
theorem NarN9.lay (h : NarN9 w T c id io2 ic2 cs lo2 lc2 g8 key tg false W) (hr : Row W2 g8 28 (tkC key io2 id.length ic2 lo2 (cs.length + 1) lc2 tg)) (hs : SameBut g8 W W2) : NarN9 w T c id io2 ic2 cs lo2 lc2 g8 key tg true W2 :=
  have hg := h.hg
  ⟨hs.below h.bel (by omega), h.t.but hs (by omega), h.cc.but hs (by omega), h.res.but hs (by omega), owB_but h.oid hs h.g (by decide), owB_but h.ocs hs h.g (by decide), h.hg, hr⟩
end
/-- A part of a row stored, at a step of a drawn region. -/
theorem step_store_part {ops : Array Oper} {op : Oper} {a : Act} {w : World} {K : Act → World → Prop} {Q : Exit → Act → World → Prop} {X : Prop} (hgd : op.guard = none) (ty : TypeId) (x y : Operand) (ho : op.op = .store ty x y)
    (g t o : Nat) (old new : List Value) (hr : Row w g t old) (hl : o + new.length ≤ old.length) (hx : a.eval x = .pointer (some ⟨g, o, none⟩)) (hy : a.eval y = .agg new.toArray)
    (hi : (Tryd.prog.info? ty).map (·.size) = some new.length) (h1 : ∀ v ∈ new, v.oneCell' = true)
    (h : ∀ w', Row w' g t (old.take o ++ new ++ old.drop (o + new.length)) → SameBut g w w' → K (a.put op.dst undef) w') : if Region.wanted op (yielded ops a.tmps) = true then Oper.wp Tryd.prog op a w K Q else X := by
  have hw : Region.wanted op (yielded ops a.tmps) = true := by simp [Region.wanted, hgd]
  rw [if_pos hw]
  refine wp_store_mid ty x y ho g o new.toArray hx hy ?_ (by simpa using hi) (all_oneCell_toArray h1) (h _ ?_ ?_)
  · intro j hj
    refine ⟨?_, hr.frozen _⟩
    have hj' : o + j < old.length := by simp at hj; omega
    rw [hr.cell (o + j) old[o + j] (List.getElem?_eq_getElem hj')]; rfl
  · exact Row.setCells new o w old hr hl
  · exact SameBut.setCells g new o w
/-- With the caveat's bytes (3). -/
structure M9 (w : World) (T : List Value) (c : Cv) (id : List By) (io2 : Option Addr) (ic2 : Nat) (cs : List Cv) (lo2 : Option Addr) (lc2 g8 : Nat) (key : Int) (tg : List By) (q3 q6 : Bool) (x38 : Value) (W : World) : Prop where
  n : NarN9 w T c id io2 ic2 cs lo2 lc2 g8 key tg q6 W
  p3 : q3 = true → q6 = false → ∃ ao c', x38 = .slice ao 26 c' ∧ Own w.heap.size W (.slice ao 26 c') (cvB c)
theorem M9.keep {w : World} {T : List Value} {c : Cv} {id : List By} {io2 : Option Addr} {ic2 : Nat} {cs : List Cv} {lo2 : Option Addr} {lc2 g8 : Nat} {key : Int} {tg : List By} {q3 q6 : Bool} {x38 : Value} {W W2 : World} (h : M9 w T c id io2 ic2 cs lo2 lc2 g8 key tg q3 q6 x38 W) (hb : Below W.heap.size W W2) : M9 w T c id io2 ic2 cs lo2 lc2 g8 key tg q3 q6 x38 W2 :=
  ⟨h.n.keep hb, fun e f => let ⟨ao, c', a, b⟩ := h.p3 e f; ⟨ao, c', a, b.keep hb⟩⟩
def NarP (t : Tk) (c : Cv) (w : World) (e : Ending) (w' : World) : Prop :=
  Below w.heap.size w w' ∧ if 32 ≤ t.cs.length then e = .returned (.tuple #[.agg zTk.toArray, .int .i64 3]) else if cvMay c = true then ∃ io ic lo lc, e = .returned (.tuple #[.agg (tkCells ⟨t.key, t.id, t.cs ++ [c], tag t.tag (cvB c)⟩ io ic lo lc).toArray, .int .i64 0]) ∧ TkO 72 w.heap.size w' ⟨t.key, t.id, t.cs ++ [c], tag t.tag (cvB c)⟩ io ic lo lc else e = .returned (.tuple #[.agg zTk.toArray, .int .i64 1])
theorem tkC_settag (key : Int) (io : Option Addr) (n ic : Nat) (lo : Option Addr) (m lc : Nat) (a b : List By) (ha : a.length = 32) (hb : b.length = 32) : (tkC key io n ic lo m lc a).take 3 ++ b.map B8 ++ (tkC key io n ic lo m lc a).drop (3 + (b.map B8).length) = tkC key io n ic lo m lc b := by
  have h1 : (tkC key io n ic lo m lc a).take 3 = [.int .i64 key, .slice io n ic, .slice lo m lc] := rfl
  have h2 : (tkC key io n ic lo m lc a).drop (3 + (b.map B8).length) = [] := List.drop_of_length_le (by rw [tkC_len ha, List.length_map, hb]; omega)
  rw [h1, h2, List.append_nil]
  rfl
structure NA8 (W1 : World) (w Wz : World) (key : Int) (id : List By) (E1 : Nat) (l7 : Option Addr) (lc7 : Nat) (cs : List Cv) (c : Cv) (io : Option Addr) (ic : Nat) (L : Nat → Bool) (x24 x25 x26 x27 x28 x29 x30 x31 x32 x33 x34 x8 : Value) (W : World) : Prop where
  x : N8 (w.heap.size + 3) Wz key id E1 l7 lc7 cs c (L 5) (L 8) (L 9) (L 10) (L 11) (L 12) x29 x32 x33 x34 x8 W
  p0 : L 0 = true → x24 = .pointer (some ⟨w.heap.size, 0, none⟩)
  p1 : L 1 = true → x25 = .int .i64 key
  p2 : L 2 = true → x26 = .slice (some ⟨E1, 0, none⟩) 0 0
  p3 : L 3 = true → x27 = .pointer (some ⟨w.heap.size, 1, none⟩)
  p4 : L 4 = true → x28 = .slice io id.length ic
  p6 : L 6 = true → x30 = .slice l7 cs.length lc7
  p7 : L 7 = true → x31 = .agg (cvC c).toArray
section
variable {W1 : World} {w Wz : World} {key : Int} {id : List By} {E1 : Nat} {l7 : Option Addr} {lc7 : Nat} {cs : List Cv} {c : Cv} {io : Option Addr} {ic : Nat} {L : Nat → Bool} {x24 x25 x26 x27 x28 x29 x30 x31 x32 x33 x34 x8 : Value} {W W2 : World}
theorem NA8.s0 (h : NA8 W1 w Wz key id E1 l7 lc7 cs c io ic L x24 x25 x26 x27 x28 x29 x30 x31 x32 x33 x34 x8 W) : NA8 W1 w Wz key id E1 l7 lc7 cs c io ic (upd L 0) (.pointer (some ⟨w.heap.size, 0, none⟩)) x25 x26 x27 x28 x29 x30 x31 x32 x33 x34 x8 W :=
  ⟨h.x, fun _ => rfl, h.p1, h.p2, h.p3, h.p4, h.p6, h.p7⟩
theorem NA8.s1 (h : NA8 W1 w Wz key id E1 l7 lc7 cs c io ic L x24 x25 x26 x27 x28 x29 x30 x31 x32 x33 x34 x8 W) : NA8 W1 w Wz key id E1 l7 lc7 cs c io ic (upd L 1) x24 (.int .i64 key) x26 x27 x28 x29 x30 x31 x32 x33 x34 x8 W :=
  ⟨h.x, h.p0, fun _ => rfl, h.p2, h.p3, h.p4, h.p6, h.p7⟩
theorem NA8.s2 (h : NA8 W1 w Wz key id E1 l7 lc7 cs c io ic L x24 x25 x26 x27 x28 x29 x30 x31 x32 x33 x34 x8 W) : NA8 W1 w Wz key id E1 l7 lc7 cs c io ic (upd L 2) x24 x25 (.slice (some ⟨E1, 0, none⟩) 0 0) x27 x28 x29 x30 x31 x32 x33 x34 x8 W :=
  ⟨h.x, h.p0, h.p1, fun _ => rfl, h.p3, h.p4, h.p6, h.p7⟩
theorem NA8.s3 (h : NA8 W1 w Wz key id E1 l7 lc7 cs c io ic L x24 x25 x26 x27 x28 x29 x30 x31 x32 x33 x34 x8 W) : NA8 W1 w Wz key id E1 l7 lc7 cs c io ic (upd L 3) x24 x25 x26 (.pointer (some ⟨w.heap.size, 1, none⟩)) x28 x29 x30 x31 x32 x33 x34 x8 W :=
  ⟨h.x, h.p0, h.p1, h.p2, fun _ => rfl, h.p4, h.p6, h.p7⟩
theorem NA8.s4 (h : NA8 W1 w Wz key id E1 l7 lc7 cs c io ic L x24 x25 x26 x27 x28 x29 x30 x31 x32 x33 x34 x8 W) : NA8 W1 w Wz key id E1 l7 lc7 cs c io ic (upd L 4) x24 x25 x26 x27 (.slice io id.length ic) x29 x30 x31 x32 x33 x34 x8 W :=
  ⟨h.x, h.p0, h.p1, h.p2, h.p3, fun _ => rfl, h.p6, h.p7⟩
theorem NA8.s5 (h : NA8 W1 w Wz key id E1 l7 lc7 cs c io ic L x24 x25 x26 x27 x28 x29 x30 x31 x32 x33 x34 x8 W) {v : Value} (hX : N8 (w.heap.size + 3) Wz key id E1 l7 lc7 cs c ((upd L 5) 5) ((upd L 5) 8) ((upd L 5) 9) ((upd L 5) 10) ((upd L 5) 11) ((upd L 5) 12) v x32 x33 x34 x8 W2) : NA8 W1 w Wz key id E1 l7 lc7 cs c io ic (upd L 5) x24 x25 x26 x27 x28 v x30 x31 x32 x33 x34 x8 W2 :=
  ⟨hX, h.p0, h.p1, h.p2, h.p3, h.p4, h.p6, h.p7⟩
theorem NA8.s6 (h : NA8 W1 w Wz key id E1 l7 lc7 cs c io ic L x24 x25 x26 x27 x28 x29 x30 x31 x32 x33 x34 x8 W) : NA8 W1 w Wz key id E1 l7 lc7 cs c io ic (upd L 6) x24 x25 x26 x27 x28 x29 (.slice l7 cs.length lc7) x31 x32 x33 x34 x8 W :=
  ⟨h.x, h.p0, h.p1, h.p2, h.p3, h.p4, fun _ => rfl, h.p7⟩
theorem NA8.s7 (h : NA8 W1 w Wz key id E1 l7 lc7 cs c io ic L x24 x25 x26 x27 x28 x29 x30 x31 x32 x33 x34 x8 W) : NA8 W1 w Wz key id E1 l7 lc7 cs c io ic (upd L 7) x24 x25 x26 x27 x28 x29 x30 (.agg (cvC c).toArray) x32 x33 x34 x8 W :=
  ⟨h.x, h.p0, h.p1, h.p2, h.p3, h.p4, h.p6, fun _ => rfl⟩
theorem NA8.s8 (h : NA8 W1 w Wz key id E1 l7 lc7 cs c io ic L x24 x25 x26 x27 x28 x29 x30 x31 x32 x33 x34 x8 W) {v : Value} (hX : N8 (w.heap.size + 3) Wz key id E1 l7 lc7 cs c ((upd L 8) 5) ((upd L 8) 8) ((upd L 8) 9) ((upd L 8) 10) ((upd L 8) 11) ((upd L 8) 12) x29 v x33 x34 x8 W2) : NA8 W1 w Wz key id E1 l7 lc7 cs c io ic (upd L 8) x24 x25 x26 x27 x28 x29 x30 x31 v x33 x34 x8 W2 :=
  ⟨hX, h.p0, h.p1, h.p2, h.p3, h.p4, h.p6, h.p7⟩
theorem NA8.s9 (h : NA8 W1 w Wz key id E1 l7 lc7 cs c io ic L x24 x25 x26 x27 x28 x29 x30 x31 x32 x33 x34 x8 W) {v : Value} (hX : N8 (w.heap.size + 3) Wz key id E1 l7 lc7 cs c ((upd L 9) 5) ((upd L 9) 8) ((upd L 9) 9) ((upd L 9) 10) ((upd L 9) 11) ((upd L 9) 12) x29 x32 v x34 x8 W2) : NA8 W1 w Wz key id E1 l7 lc7 cs c io ic (upd L 9) x24 x25 x26 x27 x28 x29 x30 x31 x32 v x34 x8 W2 :=
  ⟨hX, h.p0, h.p1, h.p2, h.p3, h.p4, h.p6, h.p7⟩
theorem NA8.s10 (h : NA8 W1 w Wz key id E1 l7 lc7 cs c io ic L x24 x25 x26 x27 x28 x29 x30 x31 x32 x33 x34 x8 W) {v : Value} (hX : N8 (w.heap.size + 3) Wz key id E1 l7 lc7 cs c ((upd L 10) 5) ((upd L 10) 8) ((upd L 10) 9) ((upd L 10) 10) ((upd L 10) 11) ((upd L 10) 12) x29 x32 x33 v x8 W2) : NA8 W1 w Wz key id E1 l7 lc7 cs c io ic (upd L 10) x24 x25 x26 x27 x28 x29 x30 x31 x32 x33 v x8 W2 :=
  ⟨hX, h.p0, h.p1, h.p2, h.p3, h.p4, h.p6, h.p7⟩
theorem NA8.s11 (h : NA8 W1 w Wz key id E1 l7 lc7 cs c io ic L x24 x25 x26 x27 x28 x29 x30 x31 x32 x33 x34 x8 W) {v : Value} (hX : N8 (w.heap.size + 3) Wz key id E1 l7 lc7 cs c ((upd L 11) 5) ((upd L 11) 8) ((upd L 11) 9) ((upd L 11) 10) ((upd L 11) 11) ((upd L 11) 12) x29 x32 x33 x34 v W2) : NA8 W1 w Wz key id E1 l7 lc7 cs c io ic (upd L 11) x24 x25 x26 x27 x28 x29 x30 x31 x32 x33 x34 v W2 :=
  ⟨hX, h.p0, h.p1, h.p2, h.p3, h.p4, h.p6, h.p7⟩
theorem NA8.s12 (h : NA8 W1 w Wz key id E1 l7 lc7 cs c io ic L x24 x25 x26 x27 x28 x29 x30 x31 x32 x33 x34 x8 W) (hX : N8 (w.heap.size + 3) Wz key id E1 l7 lc7 cs c ((upd L 12) 5) ((upd L 12) 8) ((upd L 12) 9) ((upd L 12) 10) ((upd L 12) 11) ((upd L 12) 12) x29 x32 x33 x34 x8 W2) : NA8 W1 w Wz key id E1 l7 lc7 cs c io ic (upd L 12) x24 x25 x26 x27 x28 x29 x30 x31 x32 x33 x34 x8 W2 :=
  ⟨hX, h.p0, h.p1, h.p2, h.p3, h.p4, h.p6, h.p7⟩
end
@[reducible] def INA8 (W1 : World) (w Wz : World) (key : Int) (id : List By) (E1 : Nat) (l7 : Option Addr) (lc7 : Nat) (cs : List Cv) (c : Cv) (io : Option Addr) (ic : Nat) (y0 y1 y2 y3 y4 y5 y6 y7 y9 y10 y11 y12 y13 y14 y15 y16 y17 y18 y19 y20 y21 y22 y23 y35 y36 y37 y38 y39 y40 y41 : Value) : (Nat → Bool) → Act → World → Prop := fun L a W => ∃ x24 x25 x26 x27 x28 x29 x30 x31 x32 x33 x34 x8, a = ⟨#[y0, y1, y2, y3, y4, y5, y6, y7, x8, y9, y10, y11, y12, y13, y14, y15, y16, y17, y18, y19, y20, y21, y22, y23, x24, x25, x26, x27, x28, x29, x30, x31, x32, x33, x34, y35, y36, y37, y38, y39, y40, y41], []⟩ ∧ NA8 W1 w Wz key id E1 l7 lc7 cs c io ic L x24 x25 x26 x27 x28 x29 x30 x31 x32 x33 x34 x8 W
theorem NA8.step {W1 : World} {w Wz : World} {key : Int} {id : List By} {E1 : Nat} {l7 : Option Addr} {lc7 : Nat} {cs : List Cv} {c : Cv} {io : Option Addr} {ic : Nat} {y0 y1 y2 y3 y4 y5 y6 y7 y9 y10 y11 y12 y13 y14 y15 y16 y17 y18 y19 y20 y21 y22 y23 y35 y36 y37 y38 y39 y40 y41 : Value} {P : Program} {ops : Array Oper} {Q : Exit → Act → World → Prop} {i : Nat} {o : Oper} (hq : ∀ x24 x25 x26 x27 x28 x29 x30 x31 x32 x33 x34 x8 (L : Nat → Bool) (W : World), NA8 W1 w Wz key id E1 l7 lc7 cs c io ic L x24 x25 x26 x27 x28 x29 x30 x31 x32 x33 x34 x8 W → L i = false → (∀ j ∈ onesOf o, L j = true) → ∀ K : Act → World → Prop, Shut (∀ a' w', INA8 W1 w Wz key id E1 l7 lc7 cs c io ic y0 y1 y2 y3 y4 y5 y6 y7 y9 y10 y11 y12 y13 y14 y15 y16 y17 y18 y19 y20 y21 y22 y23 y35 y36 y37 y38 y39 y40 y41 (upd L i) a' w' → K a' w') → if Region.wanted o (yielded ops (⟨#[y0, y1, y2, y3, y4, y5, y6, y7, x8, y9, y10, y11, y12, y13, y14, y15, y16, y17, y18, y19, y20, y21, y22, y23, x24, x25, x26, x27, x28, x29, x30, x31, x32, x33, x34, y35, y36, y37, y38, y39, y40, y41], []⟩ : Act).tmps) = true then Oper.wp P o ⟨#[y0, y1, y2, y3, y4, y5, y6, y7, x8, y9, y10, y11, y12, y13, y14, y15, y16, y17, y18, y19, y20, y21, y22, y23, x24, x25, x26, x27, x28, x29, x30, x31, x32, x33, x34, y35, y36, y37, y38, y39, y40, y41], []⟩ W K Q else K ((⟨#[y0, y1, y2, y3, y4, y5, y6, y7, x8, y9, y10, y11, y12, y13, y14, y15, y16, y17, y18, y19, y20, y21, y22, y23, x24, x25, x26, x27, x28, x29, x30, x31, x32, x33, x34, y35, y36, y37, y38, y39, y40, y41], []⟩ : Act).put o.dst undef) W) : StepI P ops (INA8 W1 w Wz key id E1 l7 lc7 cs c io ic y0 y1 y2 y3 y4 y5 y6 y7 y9 y10 y11 y12 y13 y14 y15 y16 y17 y18 y19 y20 y21 y22 y23 y35 y36 y37 y38 y39 y40 y41) Q i o := by
  rintro L a W ⟨x24, x25, x26, x27, x28, x29, x30, x31, x32, x33, x34, x8, rfl, h⟩
  exact hq _ _ _ _ _ _ _ _ _ _ _ _ _ _ h
theorem NA8.ends {W1 : World} {w Wz : World} {key : Int} {id : List By} {E1 : Nat} {l7 : Option Addr} {lc7 : Nat} {cs : List Cv} {c : Cv} {io : Option Addr} {ic : Nat} {y0 y1 y2 y3 y4 y5 y6 y7 y9 y10 y11 y12 y13 y14 y15 y16 y17 y18 y19 y20 y21 y22 y23 y35 y36 y37 y38 y39 y40 y41 : Value} {mm_ : Nat} {Q : Exit → Act → World → Prop} (hq : ∀ x24 x25 x26 x27 x28 x29 x30 x31 x32 x33 x34 x8 (L : Nat → Bool) (W : World), (∀ j, j < mm_ → L j = true) → NA8 W1 w Wz key id E1 l7 lc7 cs c io ic L x24 x25 x26 x27 x28 x29 x30 x31 x32 x33 x34 x8 W → Q .normal ⟨#[y0, y1, y2, y3, y4, y5, y6, y7, x8, y9, y10, y11, y12, y13, y14, y15, y16, y17, y18, y19, y20, y21, y22, y23, x24, x25, x26, x27, x28, x29, x30, x31, x32, x33, x34, y35, y36, y37, y38, y39, y40, y41], []⟩ W) : ∀ L a' w', (∀ j, j < mm_ → L j = true) → INA8 W1 w Wz key id E1 l7 lc7 cs c io ic y0 y1 y2 y3 y4 y5 y6 y7 y9 y10 y11 y12 y13 y14 y15 y16 y17 y18 y19 y20 y21 y22 y23 y35 y36 y37 y38 y39 y40 y41 L a' w' → Q .normal a' w' := by
  rintro L a W hall ⟨x24, x25, x26, x27, x28, x29, x30, x31, x32, x33, x34, x8, rfl, h⟩
  exact hq _ _ _ _ _ _ _ _ _ _ _ _ _ _ hall h
structure NA9 (W1 : World) (w : World) (T : List Value) (c : Cv) (id : List By) (io2 : Option Addr) (ic2 : Nat) (cs : List Cv) (lo2 : Option Addr) (lc2 g8 : Nat) (key : Int) (tg0 : List By) (L : Nat → Bool) (x35 x36 x37 x38 x39 x40 : Value) (W : World) : Prop where
  x : M9 w T c id io2 ic2 cs lo2 lc2 g8 key (tag tg0 (cvB c)) (L 3) (L 6) x38 W
  p0 : L 0 = true → x35 = .pointer (some ⟨w.heap.size, 3, none⟩)
  p1 : L 1 = true → x36 = .slice (some ⟨w.heap.size, 3, none⟩) 32 32
  p2 : L 2 = true → x37 = .agg (cvC c).toArray
  p4 : L 4 = true → x39 = .agg ((tag tg0 (cvB c)).map B8).toArray
  p5 : L 5 = true → x40 = .pointer (some ⟨g8, 3, none⟩)
  c6_4 : L 6 = true → L 4 = true
  c4_3 : L 4 = true → L 3 = true
section
variable {W1 : World} {w : World} {T : List Value} {c : Cv} {id : List By} {io2 : Option Addr} {ic2 : Nat} {cs : List Cv} {lo2 : Option Addr} {lc2 g8 : Nat} {key : Int} {tg0 : List By} {L : Nat → Bool} {x35 x36 x37 x38 x39 x40 : Value} {W W2 : World}
theorem NA9.s0 (h : NA9 W1 w T c id io2 ic2 cs lo2 lc2 g8 key tg0 L x35 x36 x37 x38 x39 x40 W) : NA9 W1 w T c id io2 ic2 cs lo2 lc2 g8 key tg0 (upd L 0) (.pointer (some ⟨w.heap.size, 3, none⟩)) x36 x37 x38 x39 x40 W :=
  ⟨h.x, fun _ => rfl, h.p1, h.p2, h.p4, h.p5, h.c6_4, h.c4_3⟩
theorem NA9.s1 (h : NA9 W1 w T c id io2 ic2 cs lo2 lc2 g8 key tg0 L x35 x36 x37 x38 x39 x40 W) : NA9 W1 w T c id io2 ic2 cs lo2 lc2 g8 key tg0 (upd L 1) x35 (.slice (some ⟨w.heap.size, 3, none⟩) 32 32) x37 x38 x39 x40 W :=
  ⟨h.x, h.p0, fun _ => rfl, h.p2, h.p4, h.p5, h.c6_4, h.c4_3⟩
theorem NA9.s2 (h : NA9 W1 w T c id io2 ic2 cs lo2 lc2 g8 key tg0 L x35 x36 x37 x38 x39 x40 W) : NA9 W1 w T c id io2 ic2 cs lo2 lc2 g8 key tg0 (upd L 2) x35 x36 (.agg (cvC c).toArray) x38 x39 x40 W :=
  ⟨h.x, h.p0, h.p1, fun _ => rfl, h.p4, h.p5, h.c6_4, h.c4_3⟩
theorem NA9.s3 (h : NA9 W1 w T c id io2 ic2 cs lo2 lc2 g8 key tg0 L x35 x36 x37 x38 x39 x40 W) {v : Value} (hX : M9 w T c id io2 ic2 cs lo2 lc2 g8 key (tag tg0 (cvB c)) ((upd L 3) 3) ((upd L 3) 6) v W2) : NA9 W1 w T c id io2 ic2 cs lo2 lc2 g8 key tg0 (upd L 3) x35 x36 x37 v x39 x40 W2 :=
  ⟨hX, h.p0, h.p1, h.p2, h.p4, h.p5, h.c6_4, fun _ => rfl⟩
theorem NA9.s4 (h : NA9 W1 w T c id io2 ic2 cs lo2 lc2 g8 key tg0 L x35 x36 x37 x38 x39 x40 W) (hX : M9 w T c id io2 ic2 cs lo2 lc2 g8 key (tag tg0 (cvB c)) ((upd L 4) 3) ((upd L 4) 6) x38 W2) (hc3 : L 3 = true) : NA9 W1 w T c id io2 ic2 cs lo2 lc2 g8 key tg0 (upd L 4) x35 x36 x37 x38 (.agg ((tag tg0 (cvB c)).map B8).toArray) x40 W2 :=
  ⟨hX, h.p0, h.p1, h.p2, fun _ => rfl, h.p5, fun _ => rfl, fun _ => hc3⟩
theorem NA9.s5 (h : NA9 W1 w T c id io2 ic2 cs lo2 lc2 g8 key tg0 L x35 x36 x37 x38 x39 x40 W) : NA9 W1 w T c id io2 ic2 cs lo2 lc2 g8 key tg0 (upd L 5) x35 x36 x37 x38 x39 (.pointer (some ⟨g8, 3, none⟩)) W :=
  ⟨h.x, h.p0, h.p1, h.p2, h.p4, fun _ => rfl, h.c6_4, h.c4_3⟩
theorem NA9.s6 (h : NA9 W1 w T c id io2 ic2 cs lo2 lc2 g8 key tg0 L x35 x36 x37 x38 x39 x40 W) (hX : M9 w T c id io2 ic2 cs lo2 lc2 g8 key (tag tg0 (cvB c)) ((upd L 6) 3) ((upd L 6) 6) x38 W2) (hc4 : L 4 = true) : NA9 W1 w T c id io2 ic2 cs lo2 lc2 g8 key tg0 (upd L 6) x35 x36 x37 x38 x39 x40 W2 :=
  ⟨hX, h.p0, h.p1, h.p2, h.p4, h.p5, fun _ => hc4, h.c4_3⟩
end
@[reducible] def INA9 (W1 : World) (w : World) (T : List Value) (c : Cv) (id : List By) (io2 : Option Addr) (ic2 : Nat) (cs : List Cv) (lo2 : Option Addr) (lc2 g8 : Nat) (key : Int) (tg0 : List By) (y0 y1 y2 y3 y4 y5 y6 y7 y8 y9 y10 y11 y12 y13 y14 y15 y16 y17 y18 y19 y20 y21 y22 y23 y24 y25 y26 y27 y28 y29 y30 y31 y32 y33 y34 y41 : Value) : (Nat → Bool) → Act → World → Prop := fun L a W => ∃ x35 x36 x37 x38 x39 x40, a = ⟨#[y0, y1, y2, y3, y4, y5, y6, y7, y8, y9, y10, y11, y12, y13, y14, y15, y16, y17, y18, y19, y20, y21, y22, y23, y24, y25, y26, y27, y28, y29, y30, y31, y32, y33, y34, x35, x36, x37, x38, x39, x40, y41], []⟩ ∧ NA9 W1 w T c id io2 ic2 cs lo2 lc2 g8 key tg0 L x35 x36 x37 x38 x39 x40 W
theorem NA9.step {W1 : World} {w : World} {T : List Value} {c : Cv} {id : List By} {io2 : Option Addr} {ic2 : Nat} {cs : List Cv} {lo2 : Option Addr} {lc2 g8 : Nat} {key : Int} {tg0 : List By} {y0 y1 y2 y3 y4 y5 y6 y7 y8 y9 y10 y11 y12 y13 y14 y15 y16 y17 y18 y19 y20 y21 y22 y23 y24 y25 y26 y27 y28 y29 y30 y31 y32 y33 y34 y41 : Value} {P : Program} {ops : Array Oper} {Q : Exit → Act → World → Prop} {i : Nat} {o : Oper} (hq : ∀ x35 x36 x37 x38 x39 x40 (L : Nat → Bool) (W : World), NA9 W1 w T c id io2 ic2 cs lo2 lc2 g8 key tg0 L x35 x36 x37 x38 x39 x40 W → L i = false → (∀ j ∈ onesOf o, L j = true) → ∀ K : Act → World → Prop, Shut (∀ a' w', INA9 W1 w T c id io2 ic2 cs lo2 lc2 g8 key tg0 y0 y1 y2 y3 y4 y5 y6 y7 y8 y9 y10 y11 y12 y13 y14 y15 y16 y17 y18 y19 y20 y21 y22 y23 y24 y25 y26 y27 y28 y29 y30 y31 y32 y33 y34 y41 (upd L i) a' w' → K a' w') → if Region.wanted o (yielded ops (⟨#[y0, y1, y2, y3, y4, y5, y6, y7, y8, y9, y10, y11, y12, y13, y14, y15, y16, y17, y18, y19, y20, y21, y22, y23, y24, y25, y26, y27, y28, y29, y30, y31, y32, y33, y34, x35, x36, x37, x38, x39, x40, y41], []⟩ : Act).tmps) = true then Oper.wp P o ⟨#[y0, y1, y2, y3, y4, y5, y6, y7, y8, y9, y10, y11, y12, y13, y14, y15, y16, y17, y18, y19, y20, y21, y22, y23, y24, y25, y26, y27, y28, y29, y30, y31, y32, y33, y34, x35, x36, x37, x38, x39, x40, y41], []⟩ W K Q else K ((⟨#[y0, y1, y2, y3, y4, y5, y6, y7, y8, y9, y10, y11, y12, y13, y14, y15, y16, y17, y18, y19, y20, y21, y22, y23, y24, y25, y26, y27, y28, y29, y30, y31, y32, y33, y34, x35, x36, x37, x38, x39, x40, y41], []⟩ : Act).put o.dst undef) W) : StepI P ops (INA9 W1 w T c id io2 ic2 cs lo2 lc2 g8 key tg0 y0 y1 y2 y3 y4 y5 y6 y7 y8 y9 y10 y11 y12 y13 y14 y15 y16 y17 y18 y19 y20 y21 y22 y23 y24 y25 y26 y27 y28 y29 y30 y31 y32 y33 y34 y41) Q i o := by
  rintro L a W ⟨x35, x36, x37, x38, x39, x40, rfl, h⟩
  exact hq _ _ _ _ _ _ _ _ h
theorem NA9.ends {W1 : World} {w : World} {T : List Value} {c : Cv} {id : List By} {io2 : Option Addr} {ic2 : Nat} {cs : List Cv} {lo2 : Option Addr} {lc2 g8 : Nat} {key : Int} {tg0 : List By} {y0 y1 y2 y3 y4 y5 y6 y7 y8 y9 y10 y11 y12 y13 y14 y15 y16 y17 y18 y19 y20 y21 y22 y23 y24 y25 y26 y27 y28 y29 y30 y31 y32 y33 y34 y41 : Value} {mm_ : Nat} {Q : Exit → Act → World → Prop} (hq : ∀ x35 x36 x37 x38 x39 x40 (L : Nat → Bool) (W : World), (∀ j, j < mm_ → L j = true) → NA9 W1 w T c id io2 ic2 cs lo2 lc2 g8 key tg0 L x35 x36 x37 x38 x39 x40 W → Q .normal ⟨#[y0, y1, y2, y3, y4, y5, y6, y7, y8, y9, y10, y11, y12, y13, y14, y15, y16, y17, y18, y19, y20, y21, y22, y23, y24, y25, y26, y27, y28, y29, y30, y31, y32, y33, y34, x35, x36, x37, x38, x39, x40, y41], []⟩ W) : ∀ L a' w', (∀ j, j < mm_ → L j = true) → INA9 W1 w T c id io2 ic2 cs lo2 lc2 g8 key tg0 y0 y1 y2 y3 y4 y5 y6 y7 y8 y9 y10 y11 y12 y13 y14 y15 y16 y17 y18 y19 y20 y21 y22 y23 y24 y25 y26 y27 y28 y29 y30 y31 y32 y33 y34 y41 L a' w' → Q .normal a' w' := by
  rintro L a W hall ⟨x35, x36, x37, x38, x39, x40, rfl, h⟩
  exact hq _ _ _ _ _ _ _ _ hall h
end Go.Proofs.YtjooabgjkjnhhaaDoor
