
import Derived.Test.YtjooabgjkjnhhaaGreatDoorT24S
import Derived.Great.BuildSlice
/-! The reference's token: Narrow. (Printed by tools/gent24b.py.) -/
namespace Go.Proofs.YtjooabgjkjnhhaaGreatDoor
open Go.RowKit
set_option linter.unusedVariables false
set_option linter.unusedSimpArgs false
set_option maxRecDepth 100000

theorem owC_empty (N : Nat) (w : World) (h : N ≤ w.heap.size) : (w.alloc (.cells #[] 50)).ownsRow N 50 5 (.slice (some ⟨w.heap.size, 0, none⟩) 0 0) 0 [] :=
  ⟨rfl, .inr ⟨w.heap.size, 0, #[], rfl, h, heap_alloc_new w _, Nat.le_refl _, by unfold maxLen; omega, rfl, rfl⟩⟩
theorem step_build_cv {ops : Array Oper} {o : Oper} {a : Act} {w : World} {K : Act → World → Prop} {Q : Exit → Act → World → Prop} {X : Prop} (hw : Region.wanted o (yielded ops a.tmps) = true) (x : Operand) (ho : o.op = .buildSlice 24 1 #[(0, x)])
    (cs : List Value) (hl : cs.length = 5) (hx : a.eval x = .agg cs.toArray) (h : K (a.put o.dst (.slice (some ⟨w.heap.size, 0, none⟩) 1 1)) (w.alloc (.cells cs.toArray 50))) : if Region.wanted o (yielded ops a.tmps) = true then Oper.wp Tryz.prog o a w K Q else X := by
  rw [if_pos hw]
  obtain ⟨i0, hi, hz0, hz1, hz2⟩ := info_parts el_cavs24.info
  refine wp_buildSlice 24 50 1 _ ho cs.toArray i0 _ Tryz.underlying24 hi hz0 (by rw [hz1]; omega) (by rw [hz1]; omega) ?_ h
  rw [hz1]
  have e : (#[(0, x)].map fun (i, y) => (i, a.eval y)).toList = (([Value.agg cs.toArray]).zipIdx 0).map fun x => (x.2, x.1) := by simp [hx]
  rw [e, Great.fill_whole (s := 5) (by decide) [Value.agg cs.toArray] _ (fun v hv => by rw [List.mem_singleton.1 hv]; simpa [Value.cells] using hl) (by simp)]
  congr 2
  simp [Value.cells]
theorem build_tk012 (key : Int) (io : Option Addr) (n ic : Nat) (lo : Option Addr) (m lc : Nat) (w : World) : (Instr.build 28 #[(0, .int .i64 key), (1, .slice io n ic), (2, .slice lo m lc)]).run Tryz.prog w = .ok (.agg (tkC key io n ic lo m lc (List.replicate 32 0)).toArray) w := by kernel_rfl
theorem step_build3 {ops : Array Oper} {o : Oper} {a : Act} {w : World} {K : Act → World → Prop} {Q : Exit → Act → World → Prop} {X : Prop} (hw : Region.wanted o (yielded ops a.tmps) = true) (t : TypeId) (i j k : Nat) (x y z : Operand) (ho : o.op = .build t #[(i, x), (j, y), (k, z)])
    (vx vy vz v : Value) (hx : a.eval x = vx) (hy : a.eval y = vy) (hz : a.eval z = vz) (hrun : (Instr.build t #[(i, vx), (j, vy), (k, vz)]).run Tryz.prog w = .ok v w) (h : K (a.put o.dst v) w) : if Region.wanted o (yielded ops a.tmps) = true then Oper.wp Tryz.prog o a w K Q else X := by
  subst hx; subst hy; subst hz
  rw [if_pos hw]
  unfold Oper.wp execOp
  simp only [ho, List.map_toArray, List.map_cons, List.map_nil, Sem.run_bind, Sem.run_pure, hrun, Result.andThen_ok]
  exact h
/-- While the tag is reckoned, and laid (6). -/
structure NarN9 (w : World) (T : List Value) (c : Cv) (id : List By) (io2 : Option Addr) (ic2 : Nat) (cs : List Cv) (lo2 : Option Addr) (lc2 g8 : Nat) (key : Int) (tg : List By) (q : Bool) (W : World) : Prop where
  bel : Below w.heap.size w W
  t : Row W w.heap.size 28 T
  cc : Row W (w.heap.size + 1) 50 (cvC c)
  res : Row W (w.heap.size + 2) 28 zTk
  oid : W.ownsRow (w.heap.size + 3) 5 1 (.slice io2 id.length ic2) id.length (id.map B8)
  ocs : W.ownsRow (w.heap.size + 3) 50 5 (.slice lo2 (cs.length + 1) lc2) (cs.length + 1) (cs.flatMap cvC ++ cvC c)
  hg : w.heap.size + 3 ≤ g8
  g : Row W g8 28 (tkC key io2 id.length ic2 lo2 (cs.length + 1) lc2 (if q then tg else List.replicate 32 0))
section
variable {w : World} {T : List Value} {c : Cv} {id : List By} {io2 : Option Addr} {ic2 : Nat} {cs : List Cv} {lo2 : Option Addr} {lc2 g8 : Nat} {key : Int} {tg : List By} {q : Bool} {W W2 : World}
theorem NarN9.keep (h : NarN9 w T c id io2 ic2 cs lo2 lc2 g8 key tg q W) (hb : Below W.heap.size W W2) : NarN9 w T c id io2 ic2 cs lo2 lc2 g8 key tg q W2 :=
  ⟨h.bel.trans (hb.mono h.bel.size), h.t.below hb h.t.lt, h.cc.below hb h.cc.lt, h.res.below hb h.res.lt, owB_keep h.oid hb, owB_keep h.ocs hb, h.hg, h.g.below hb h.g.lt⟩
theorem NarN9.lay (h : NarN9 w T c id io2 ic2 cs lo2 lc2 g8 key tg false W) (hr : Row W2 g8 28 (tkC key io2 id.length ic2 lo2 (cs.length + 1) lc2 tg)) (hs : SameBut g8 W W2) : NarN9 w T c id io2 ic2 cs lo2 lc2 g8 key tg true W2 :=
  have hg := h.hg
  ⟨hs.below h.bel (by omega), h.t.but hs (by omega), h.cc.but hs (by omega), h.res.but hs (by omega), owB_but h.oid hs h.g (by decide), owB_but h.ocs hs h.g (by decide), h.hg, hr⟩
end
/-- A part of a row stored, at a step of a drawn region. -/
theorem step_store_part {ops : Array Oper} {op : Oper} {a : Act} {w : World} {K : Act → World → Prop} {Q : Exit → Act → World → Prop} {X : Prop} (hgd : op.guard = none) (ty : TypeId) (x y : Operand) (ho : op.op = .store ty x y)
    (g t o : Nat) (old new : List Value) (hr : Row w g t old) (hl : o + new.length ≤ old.length) (hx : a.eval x = .pointer (some ⟨g, o, none⟩)) (hy : a.eval y = .agg new.toArray)
    (hi : (Tryz.prog.info? ty).map (·.size) = some new.length) (h1 : ∀ v ∈ new, v.oneCell' = true)
    (h : ∀ w', Row w' g t (old.take o ++ new ++ old.drop (o + new.length)) → SameBut g w w' → K (a.put op.dst undef) w') : if Region.wanted op (yielded ops a.tmps) = true then Oper.wp Tryz.prog op a w K Q else X := by
  have hw : Region.wanted op (yielded ops a.tmps) = true := by simp [Region.wanted, hgd]
  rw [if_pos hw]
  refine wp_store_mid ty x y ho g o new.toArray hx hy ?_ (by simpa using hi) (all_oneCell_toArray h1) (h _ ?_ ?_)
  · intro j hj
    refine ⟨?_, hr.frozen _⟩
    have hj' : o + j < old.length := by simp at hj; omega
    rw [hr.cell (o + j) old[o + j] (List.getElem?_eq_getElem hj')]; rfl
  · exact Row.setCells new o w old hr hl
  · exact SameBut.setCells g new o w
/-- With the caveat's bytes (3). -/
structure M9 (w : World) (T : List Value) (c : Cv) (id : List By) (io2 : Option Addr) (ic2 : Nat) (cs : List Cv) (lo2 : Option Addr) (lc2 g8 : Nat) (key : Int) (tg : List By) (q3 q6 : Bool) (x38 : Value) (W : World) : Prop where
  n : NarN9 w T c id io2 ic2 cs lo2 lc2 g8 key tg q6 W
  p3 : q3 = true → q6 = false → ∃ ao c', x38 = .slice ao 26 c' ∧ Own w.heap.size W (.slice ao 26 c') (cvB c)
theorem M9.keep {w : World} {T : List Value} {c : Cv} {id : List By} {io2 : Option Addr} {ic2 : Nat} {cs : List Cv} {lo2 : Option Addr} {lc2 g8 : Nat} {key : Int} {tg : List By} {q3 q6 : Bool} {x38 : Value} {W W2 : World} (h : M9 w T c id io2 ic2 cs lo2 lc2 g8 key tg q3 q6 x38 W) (hb : Below W.heap.size W W2) : M9 w T c id io2 ic2 cs lo2 lc2 g8 key tg q3 q6 x38 W2 :=
  ⟨h.n.keep hb, fun e f => let ⟨ao, c', a, b⟩ := h.p3 e f; ⟨ao, c', a, b.keep hb⟩⟩
def NarP (t : Tk) (c : Cv) (w : World) (e : Ending) (w' : World) : Prop :=
  Below w.heap.size w w' ∧ if 32 ≤ t.cs.length then e = .returned (.tuple #[.agg zTk.toArray, .int .i64 3]) else if cvMay c = true then ∃ io ic lo lc, e = .returned (.tuple #[.agg (tkCells ⟨t.key, t.id, t.cs ++ [c], tag t.tag (cvB c)⟩ io ic lo lc).toArray, .int .i64 0]) ∧ TkO 50 w.heap.size w' ⟨t.key, t.id, t.cs ++ [c], tag t.tag (cvB c)⟩ io ic lo lc else e = .returned (.tuple #[.agg zTk.toArray, .int .i64 1])
theorem tkC_settag (key : Int) (io : Option Addr) (n ic : Nat) (lo : Option Addr) (m lc : Nat) (a b : List By) (ha : a.length = 32) (hb : b.length = 32) : (tkC key io n ic lo m lc a).take 3 ++ b.map B8 ++ (tkC key io n ic lo m lc a).drop (3 + (b.map B8).length) = tkC key io n ic lo m lc b := by
  have h1 : (tkC key io n ic lo m lc a).take 3 = [.int .i64 key, .slice io n ic, .slice lo m lc] := rfl
  have h2 : (tkC key io n ic lo m lc a).drop (3 + (b.map B8).length) = [] := List.drop_of_length_le (by rw [tkC_len ha, List.length_map, hb]; omega)
  rw [h1, h2, List.append_nil]
  rfl
structure NA8 (W1 : World) (w Wz : World) (key : Int) (id : List By) (E1 : Nat) (l7 : Option Addr) (lc7 : Nat) (cs : List Cv) (c : Cv) (io : Option Addr) (ic : Nat) (L : Nat → Bool) (x24 x25 x26 x27 x28 x29 x30 x31 x32 x33 x34 x8 : Value) (W : World) : Prop where
  x : N8 (w.heap.size + 3) Wz key id E1 l7 lc7 cs c (L 5) (L 8) (L 9) (L 10) (L 11) (L 12) x29 x32 x33 x34 x8 W
  p0 : L 0 = true → x24 = .pointer (some ⟨w.heap.size, 0, none⟩)
  p1 : L 1 = true → x25 = .int .i64 key
  p2 : L 2 = true → x26 = .slice (some ⟨E1, 0, none⟩) 0 0
  p3 : L 3 = true → x27 = .pointer (some ⟨w.heap.size, 1, none⟩)
  p4 : L 4 = true → x28 = .slice io id.length ic
  p6 : L 6 = true → x30 = .slice l7 cs.length lc7
  p7 : L 7 = true → x31 = .agg (cvC c).toArray
section
variable {W1 : World} {w Wz : World} {key : Int} {id : List By} {E1 : Nat} {l7 : Option Addr} {lc7 : Nat} {cs : List Cv} {c : Cv} {io : Option Addr} {ic : Nat} {L : Nat → Bool} {x24 x25 x26 x27 x28 x29 x30 x31 x32 x33 x34 x8 : Value} {W W2 : World}
theorem NA8.s0 (h : NA8 W1 w Wz key id E1 l7 lc7 cs c io ic L x24 x25 x26 x27 x28 x29 x30 x31 x32 x33 x34 x8 W) : NA8 W1 w Wz key id E1 l7 lc7 cs c io ic (upd L 0) (.pointer (some ⟨w.heap.size, 0, none⟩)) x25 x26 x27 x28 x29 x30 x31 x32 x33 x34 x8 W :=
  ⟨h.x, fun _ => rfl, h.p1, h.p2, h.p3, h.p4, h.p6, h.p7⟩
theorem NA8.s1 (h : NA8 W1 w Wz key id E1 l7 lc7 cs c io ic L x24 x25 x26 x27 x28 x29 x30 x31 x32 x33 x34 x8 W) : NA8 W1 w Wz key id E1 l7 lc7 cs c io ic (upd L 1) x24 (.int .i64 key) x26 x27 x28 x29 x30 x31 x32 x33 x34 x8 W :=
  ⟨h.x, h.p0, fun _ => rfl, h.p2, h.p3, h.p4, h.p6, h.p7⟩
theorem NA8.s5 (h : NA8 W1 w Wz key id E1 l7 lc7 cs c io ic L x24 x25 x26 x27 x28 x29 x30 x31 x32 x33 x34 x8 W) {v : Value} (hX : N8 (w.heap.size + 3) Wz key id E1 l7 lc7 cs c ((upd L 5) 5) ((upd L 5) 8) ((upd L 5) 9) ((upd L 5) 10) ((upd L 5) 11) ((upd L 5) 12) v x32 x33 x34 x8 W2) : NA8 W1 w Wz key id E1 l7 lc7 cs c io ic (upd L 5) x24 x25 x26 x27 x28 v x30 x31 x32 x33 x34 x8 W2 :=
  ⟨hX, h.p0, h.p1, h.p2, h.p3, h.p4, h.p6, h.p7⟩
theorem NA8.s8 (h : NA8 W1 w Wz key id E1 l7 lc7 cs c io ic L x24 x25 x26 x27 x28 x29 x30 x31 x32 x33 x34 x8 W) {v : Value} (hX : N8 (w.heap.size + 3) Wz key id E1 l7 lc7 cs c ((upd L 8) 5) ((upd L 8) 8) ((upd L 8) 9) ((upd L 8) 10) ((upd L 8) 11) ((upd L 8) 12) x29 v x33 x34 x8 W2) : NA8 W1 w Wz key id E1 l7 lc7 cs c io ic (upd L 8) x24 x25 x26 x27 x28 x29 x30 x31 v x33 x34 x8 W2 :=
  ⟨hX, h.p0, h.p1, h.p2, h.p3, h.p4, h.p6, h.p7⟩
theorem NA8.s9 (h : NA8 W1 w Wz key id E1 l7 lc7 cs c io ic L x24 x25 x26 x27 x28 x29 x30 x31 x32 x33 x34 x8 W) {v : Value} (hX : N8 (w.heap.size + 3) Wz key id E1 l7 lc7 cs c ((upd L 9) 5) ((upd L 9) 8) ((upd L 9) 9) ((upd L 9) 10) ((upd L 9) 11) ((upd L 9) 12) x29 x32 v x34 x8 W2) : NA8 W1 w Wz key id E1 l7 lc7 cs c io ic (upd L 9) x24 x25 x26 x27 x28 x29 x30 x31 x32 v x34 x8 W2 :=
  ⟨hX, h.p0, h.p1, h.p2, h.p3, h.p4, h.p6, h.p7⟩
theorem NA8.s10 (h : NA8 W1 w Wz key id E1 l7 lc7 cs c io ic L x24 x25 x26 x27 x28 x29 x30 x31 x32 x33 x34 x8 W) {v : Value} (hX : N8 (w.heap.size + 3) Wz key id E1 l7 lc7 cs c ((upd L 10) 5) ((upd L 10) 8) ((upd L 10) 9) ((upd L 10) 10) ((upd L 10) 11) ((upd L 10) 12) x29 x32 x33 v x8 W2) : NA8 W1 w Wz key id E1 l7 lc7 cs c io ic (upd L 10) x24 x25 x26 x27 x28 x29 x30 x31 x32 x33 v x8 W2 :=
  ⟨hX, h.p0, h.p1, h.p2, h.p3, h.p4, h.p6, h.p7⟩
theorem NA8.s11 (h : NA8 W1 w Wz key id E1 l7 lc7 cs c io ic L x24 x25 x26 x27 x28 x29 x30 x31 x32 x33 x34 x8 W) {v : Value} (hX : N8 (w.heap.size + 3) Wz key id E1 l7 lc7 cs c ((upd L 11) 5) ((upd L 11) 8) ((upd L 11) 9) ((upd L 11) 10) ((upd L 11) 11) ((upd L 11) 12) x29 x32 x33 x34 v W2) : NA8 W1 w Wz key id E1 l7 lc7 cs c io ic (upd L 11) x24 x25 x26 x27 x28 x29 x30 x31 x32 x33 x34 v W2 :=
  ⟨hX, h.p0, h.p1, h.p2, h.p3, h.p4, h.p6, h.p7⟩
theorem NA8.s12 (h : NA8 W1 w Wz key id E1 l7 lc7 cs c io ic L x24 x25 x26 x27 x28 x29 x30 x31 x32 x33 x34 x8 W) (hX : N8 (w.heap.size + 3) Wz key id E1 l7 lc7 cs c ((upd L 12) 5) ((upd L 12) 8) ((upd L 12) 9) ((upd L 12) 10) ((upd L 12) 11) ((upd L 12) 12) x29 x32 x33 x34 x8 W2) : NA8 W1 w Wz key id E1 l7 lc7 cs c io ic (upd L 12) x24 x25 x26 x27 x28 x29 x30 x31 x32 x33 x34 x8 W2 :=
  ⟨hX, h.p0, h.p1, h.p2, h.p3, h.p4, h.p6, h.p7⟩
end
@[reducible] def INA8 (W1 : World) (w Wz : World) (key : Int) (id : List By) (E1 : Nat) (l7 : Option Addr) (lc7 : Nat) (cs : List Cv) (c : Cv) (io : Option Addr) (ic : Nat) (y0 y1 y2 y3 y4 y5 y6 y7 y9 y10 y11 y12 y13 y14 y15 y16 y17 y18 y19 y20 y21 y22 y23 y35 y36 y37 y38 y39 y40 y41 : Value) : (Nat → Bool) → Act → World → Prop := fun L a W => ∃ x24 x25 x26 x27 x28 x29 x30 x31 x32 x33 x34 x8, a = ⟨#[y0, y1, y2, y3, y4, y5, y6, y7, x8, y9, y10, y11, y12, y13, y14, y15, y16, y17, y18, y19, y20, y21, y22, y23, x24, x25, x26, x27, x28, x29, x30, x31, x32, x33, x34, y35, y36, y37, y38, y39, y40, y41], []⟩ ∧ NA8 W1 w Wz key id E1 l7 lc7 cs c io ic L x24 x25 x26 x27 x28 x29 x30 x31 x32 x33 x34 x8 W
structure NA9 (W1 : World) (w : World) (T : List Value) (c : Cv) (id : List By) (io2 : Option Addr) (ic2 : Nat) (cs : List Cv) (lo2 : Option Addr) (lc2 g8 : Nat) (key : Int) (tg0 : List By) (L : Nat → Bool) (x35 x36 x37 x38 x39 x40 : Value) (W : World) : Prop where
  x : M9 w T c id io2 ic2 cs lo2 lc2 g8 key (tag tg0 (cvB c)) (L 3) (L 6) x38 W
  p0 : L 0 = true → x35 = .pointer (some ⟨w.heap.size, 3, none⟩)
  p1 : L 1 = true → x36 = .slice (some ⟨w.heap.size, 3, none⟩) 32 32
  p2 : L 2 = true → x37 = .agg (cvC c).toArray
  p4 : L 4 = true → x39 = .agg ((tag tg0 (cvB c)).map B8).toArray
  p5 : L 5 = true → x40 = .pointer (some ⟨g8, 3, none⟩)
  c6_4 : L 6 = true → L 4 = true
  c4_3 : L 4 = true → L 3 = true
section
variable {W1 : World} {w : World} {T : List Value} {c : Cv} {id : List By} {io2 : Option Addr} {ic2 : Nat} {cs : List Cv} {lo2 : Option Addr} {lc2 g8 : Nat} {key : Int} {tg0 : List By} {L : Nat → Bool} {x35 x36 x37 x38 x39 x40 : Value} {W W2 : World}
theorem NA9.s0 (h : NA9 W1 w T c id io2 ic2 cs lo2 lc2 g8 key tg0 L x35 x36 x37 x38 x39 x40 W) : NA9 W1 w T c id io2 ic2 cs lo2 lc2 g8 key tg0 (upd L 0) (.pointer (some ⟨w.heap.size, 3, none⟩)) x36 x37 x38 x39 x40 W :=
  ⟨h.x, fun _ => rfl, h.p1, h.p2, h.p4, h.p5, h.c6_4, h.c4_3⟩
theorem NA9.s1 (h : NA9 W1 w T c id io2 ic2 cs lo2 lc2 g8 key tg0 L x35 x36 x37 x38 x39 x40 W) : NA9 W1 w T c id io2 ic2 cs lo2 lc2 g8 key tg0 (upd L 1) x35 (.slice (some ⟨w.heap.size, 3, none⟩) 32 32) x37 x38 x39 x40 W :=
  ⟨h.x, h.p0, fun _ => rfl, h.p2, h.p4, h.p5, h.c6_4, h.c4_3⟩
end
@[reducible] def INA9 (W1 : World) (w : World) (T : List Value) (c : Cv) (id : List By) (io2 : Option Addr) (ic2 : Nat) (cs : List Cv) (lo2 : Option Addr) (lc2 g8 : Nat) (key : Int) (tg0 : List By) (y0 y1 y2 y3 y4 y5 y6 y7 y8 y9 y10 y11 y12 y13 y14 y15 y16 y17 y18 y19 y20 y21 y22 y23 y24 y25 y26 y27 y28 y29 y30 y31 y32 y33 y34 y41 : Value) : (Nat → Bool) → Act → World → Prop := fun L a W => ∃ x35 x36 x37 x38 x39 x40, a = ⟨#[y0, y1, y2, y3, y4, y5, y6, y7, y8, y9, y10, y11, y12, y13, y14, y15, y16, y17, y18, y19, y20, y21, y22, y23, y24, y25, y26, y27, y28, y29, y30, y31, y32, y33, y34, x35, x36, x37, x38, x39, x40, y41], []⟩ ∧ NA9 W1 w T c id io2 ic2 cs lo2 lc2 g8 key tg0 L x35 x36 x37 x38 x39 x40 W
set_option maxHeartbeats 4000000 in
theorem r24Narrow_any (t : Tk) (c : Cv) (hc : c.ok) (io : Option Addr) (ic : Nat) (lo : Option Addr) (lc : Nat) (w : World) (hv : TkV w t io ic lo lc) : Calls Tryz.prog 17 #[.agg (tkCells t io ic lo lc).toArray, .agg (cvC c).toArray] w (NarP t c w) := by
  obtain ⟨T, hT⟩ : ∃ T, T = tkCells t io ic lo lc := ⟨_, rfl⟩
  obtain ⟨CC, hCC⟩ : ∃ CC, CC = cvC c := ⟨_, rfl⟩
  obtain ⟨W1, hW1⟩ : ∃ W1, W1 = ((w.alloc (.cells T.toArray 28)).alloc (.cells CC.toArray 50)).alloc (.cells zTk.toArray 28) := ⟨_, rfl⟩
  have r0 : Row W1 w.heap.size 28 T := by rw [hW1]; exact ((Row.at w _ _ _ _ rfl rfl).alloc _).alloc _
  have r1 : Row W1 (w.heap.size + 1) 50 CC := by rw [hW1]; exact (Row.at _ _ _ _ _ (by simp) rfl).alloc _
  have r2 : Row W1 (w.heap.size + 2) 28 zTk := by rw [hW1]; exact Row.at _ _ _ _ _ (by simp) rfl
  have b1 : Below w.heap.size w W1 := by rw [hW1]; exact (((Below.refl _ _).alloc (Nat.le_refl _) _).alloc (by simp) _).alloc (by simp; omega) _
  have s1 : W1.heap.size = w.heap.size + 3 := by rw [hW1]; simp
  have L5 : Hid (CC.length = 5) := by rw [hCC]; exact rfl
  have x2 : W1.cell? ⟨w.heap.size, 2, none⟩ = some (.slice lo t.cs.length lc) := r0.cell 2 _ (by rw [hT]; rfl)
  have FM : Hid (∀ v, v = cvMay c → Calls Tryz.prog 37 #[.agg CC.toArray] W1 fun e w' => e = .returned (.bool v) ∧ Below W1.heap.size W1 w') := fun v h => by rw [h, hCC]; exact r24cMay_any _ _ _ _ _ hc.z W1
  have BAD : Hid (∀ (W w2 : World) (x : Int), Below W1.heap.size W1 W → SameBut (w.heap.size + 2) W w2 → Below w.heap.size w w2) := fun W w2 x hb hs => hs.below (b1.trans (hb.mono b1.size)) (by omega)
  have R2 : Hid (∀ W, Below W1.heap.size W1 W → Row W (w.heap.size + 2) 28 zTk) := fun W h => r2.below h r2.lt
  have HNP : Hid (∀ e w', NarP t c w e w' ↔ NarP t c w e w') := fun _ _ => Iff.rfl
  rw [← hT, ← hCC]
  by_cases h32 : 32 ≤ t.cs.length
  · have y1 : (32 : Int) ≤ (t.cs.length : Int) := by omega
    have H32 : Hid (32 ≤ t.cs.length) := h32
    clear h32 r0 r1 hT hCC FM
    generalize hm : t.cs.length = m at *
    go_enter Tryz.func17, Tryz.ntmps17
    go_wp2_with (first
      | (have hz := hW1; clear hz; refine wpList_at24 hW1 ?_; clear hW1)
      | (have hz := R2; clear hz; refine wpList_store_Row rfl 28 _ _ rfl (w.heap.size + 2) 28 0 zTk zTk (R2.out _ (Below.refl _ _)) (Nat.le_refl _) rfl rfl (by kernel_rfl) (tkC_one _ _ _ _ _ _ _ _) ?_; intro w2 hr2 hs2; clear R2))
    have q2 := row_whole hr2 (by simp)
    refine bodyPost_ret_by (results_rowtmp Tryz.results17 _ w2 (w.heap.size + 2) 28 _ _ rfl q2 Tryz.underlying28 rfl (by kernel_rfl)) rfl ?_
    exact ⟨BAD.out _ _ 0 (Below.refl _ _) hs2, by rw [hm, if_pos H32.out]; rfl⟩
  · have y1 : ¬ (32 : Int) ≤ (t.cs.length : Int) := by omega
    have H32 : Hid (¬ 32 ≤ t.cs.length) := h32
    cases hmy : cvMay c with
    | false =>
      have HMY : Hid (cvMay c = false) := hmy
      have FX := FM.out false hmy.symm
      clear h32 r0 hT hCC FM hmy
      generalize hm : t.cs.length = m at *
      go_enter Tryz.func17, Tryz.ntmps17
      go_wp2_with (first
        | (have hz := hW1; clear hz; refine wpList_at24 hW1 ?_; clear hW1)
        | (have hz := r1; clear hz; refine wpList_load_Row rfl 50 (.tmp 3) rfl (w.heap.size + 1) 50 CC r1 rfl _ Tryz.underlying50 rfl (by rw [L5.out]; kernel_rfl) ?_; clear r1)
        | (go_at_call 37; refine FX.mono ?_; clear FX; rintro e w4 ⟨rfl, hb4⟩; have HB4 : Hid (Below W1.heap.size W1 w4) := hb4; clear hb4)
        | (have hz := HB4; clear hz; refine wpList_store_Row rfl 28 _ _ rfl (w.heap.size + 2) 28 0 zTk zTk (R2.out _ HB4.out) (Nat.le_refl _) rfl rfl (by kernel_rfl) (tkC_one _ _ _ _ _ _ _ _) ?_; intro w2 hr2 hs2; clear R2))
      have q2 := row_whole hr2 (by simp)
      refine bodyPost_ret_by (results_rowtmp Tryz.results17 _ w2 (w.heap.size + 2) 28 _ _ rfl q2 Tryz.underlying28 rfl (by kernel_rfl)) rfl ?_
      exact ⟨BAD.out _ _ 0 HB4.out hs2, by rw [hm, if_neg H32.out, HMY.out]; rfl⟩
    | true =>
      have FX := FM.out true hmy.symm
      have HMY : Hid (cvMay c = true) := hmy
      have HTB : Hid (∀ W, Below W1.heap.size W1 W → Row W w.heap.size 28 T) := fun W h => r0.below h r0.lt
      have HCB : Hid (∀ W, Below W1.heap.size W1 W → Row W (w.heap.size + 1) 50 CC) := fun W h => r1.below h r1.lt
      have HVB : Hid (∀ W, Below W1.heap.size W1 W → TkV W t io ic lo lc) := fun W h => hv.keep (b1.trans (h.mono b1.size))
      have HWB : Hid (∀ W, Below W1.heap.size W1 W → Below w.heap.size w W) := fun W h => b1.trans (h.mono b1.size)
      have G0 : Hid (T[0]? = some (.int .i64 t.key)) := by rw [hT]; exact rfl
      have G1 : Hid (T[1]? = some (.slice io t.id.length ic)) := by rw [hT]; exact rfl
      have G2 : Hid (T[2]? = some (.slice lo t.cs.length lc)) := by rw [hT]; exact rfl
      have G3 : Hid ((T.drop 3).take 32 = t.tag.map B8) := by rw [hT]; exact tkC_tagpart _ _ _ _ _ _ _ _ hv.tag
      have HCC : Hid (CC = cvC c) := hCC
      have S1 : Hid (W1.heap.size = w.heap.size + 3) := s1
      have HV : Hid (TkV w t io ic lo lc) := hv
      have HOK : Hid (c.ok) := hc
      have HL : Hid (t.cs.length < 32) := by show _ < _; omega
      clear h32 r0 r2 b1 s1 hT hCC FM hmy hv hc BAD HNP
      obtain ⟨key, id, cs, tg0⟩ := t
      dsimp only at *
      go_enter Tryz.func17, Tryz.ntmps17
      go_upto_region 7 with (first
        | (have hz := hW1; clear hz; refine wpList_at24 hW1 ?_; clear hW1)
        | (have hz := r1; clear hz; refine wpList_load_Row rfl 50 (.tmp 3) rfl (w.heap.size + 1) 50 CC r1 rfl _ Tryz.underlying50 rfl (by rw [L5.out]; kernel_rfl) ?_; clear r1)
        | (go_at_call 37; refine FX.mono ?_; clear FX; rintro e w4 ⟨rfl, hb4⟩; have HB4 : Hid (Below W1.heap.size W1 w4) := hb4; clear hb4))
      obtain ⟨w6, hw6⟩ : ∃ w6, w6 = (w4.alloc (.cells #[] 5)).alloc (.cells #[] 50) := ⟨_, rfl⟩
      have hb6 : Below W1.heap.size W1 w6 := by rw [hw6]; exact (HB4.out.alloc HB4.out.size _).alloc (by have := HB4.out.size; simp; omega) _
      have HO6 : Hid (w6.ownsRow (w.heap.size + 3) 5 1 (.slice (some ⟨w4.heap.size, 0, none⟩) 0 0) 0 [] ∧ w6.ownsRow (w.heap.size + 3) 50 5 (.slice (some ⟨w4.heap.size + 1, 0, none⟩) 0 0) 0 [] ∧ Below W1.heap.size W1 w6 ∧ w.heap.size + 3 ≤ w6.heap.size) := by
        have hz := HB4.out.size
        have hs := S1.out
        have e1 := (own_empty (w.heap.size + 3) w4 (by omega) #[] rfl).keep ((Below.refl (w4.alloc (.cells #[] 5)).heap.size _).alloc (Nat.le_refl _) (.cells #[] 50))
        have e2 := owC_empty (w.heap.size + 3) (w4.alloc (.cells #[] 5)) (by simp; omega)
        have e3 : (w4.alloc (.cells #[] 5)).heap.size = w4.heap.size + 1 := by simp
        rw [e3] at e2
        rw [hw6]
        exact ⟨e1.1, e2, by rw [← hw6]; exact hb6, by simp; omega⟩
      have x6 := (HTB.out w6 hb6).cell 2 _ G2.out
      clear hb6
      refine wp_at24 hw6 ?_
      clear hw6 x2
      generalize w4.heap.size = E1 at *
      go_upto_region 8 with (at_builtin; have hz := HO6; clear hz; refine wpList_append_any el_cavs24 rfl (.tmp 20) (.tmp 22) rfl (w.heap.size + 3) (some ⟨E1 + 1, 0, none⟩) 0 0 [] rfl HO6.out.2.1 HO6.out.2.2.2 lo cs.length lc (cs.flatMap cvC) rfl (flC_len cs) (cvs_isL (HVB.out w6 HO6.out.2.2.1).cs) (flC_one cs) HV.out.lnil (by have := HL.out; unfold maxLen; omega) (by have := HL.out; omega) ?_; intro l7 lc7 w7 g1 g2 g3 g4; rw [Nat.zero_add] at g1; rw [Nat.zero_add]; rw [List.nil_append] at g1; have HS7 : Hid (∀ a b c9 d e9, N8 (w.heap.size + 3) W1 key id E1 l7 lc7 cs c false false false false false false a b c9 d e9 w7.drew) := (fun a b c9 d e9 => ⟨fun h => (by cases h), fun h => (by cases h), fun h => (by cases h), ((HO6.out.2.2.1.mono (by rw [S1.out]; exact Nat.le_refl _)).trans g2).drew, Nat.le_trans HO6.out.2.2.2 g3, fun _ => own_still HO6.out.2.1 g4 HO6.out.1 (by decide), fun h => (by cases h), fun _ => g1, fun h => (by cases h), fun h => (by cases h), fun h => (by cases h), fun h => (by cases h)⟩); clear g1 g2 g3 g4 x6 HO6)
      have TB : Hid (∀ W, Below (w.heap.size + 3) W1 W → Below W1.heap.size W1 W) := fun W h => by rw [S1.out]; exact h
      have CCd : Hid ((CC.drop 0).take 5 = cvC c) := by show _ = _; rw [List.drop_zero, List.take_of_length_le (by rw [L5.out]; exact Nat.le_refl _), HCC.out]
      have LC5 : Hid ((cvC c).length = 5) := rfl
      have HNIL : Hid (io = none → ic = 0) := HV.out.inil
      have HBIG : Hid (id.length ≤ 140737488351232) := HV.out.big
      refine wp_region_inv (INA8 w7 w W1 key id E1 l7 lc7 cs c io ic _ _ _ _ _ _ _ _ _ _ _ _ _ _ _ _ _ _ _ _ _ _ _ _ _ _ _ _ _ _) (by kernel_rfl) (by kernel_rfl) ⟨_, _, _, _, _, _, _, _, _, _, _, _, rfl, ⟨HS7.out _ _ _ _ _, fun k => (by cases k), fun k => (by cases k), fun k => (by cases k), fun k => (by cases k), fun k => (by cases k), fun k => (by cases k), fun k => (by cases k)⟩⟩ ?_ ?_
      · refine .cons ?_ (.cons ?_ (.cons ?_ (.cons ?_ (.cons ?_ (.cons ?_ (.cons ?_ (.cons ?_ (.cons ?_ (.cons ?_ (.cons ?_ (.cons ?_ (.cons ?_ .nil))))))))))))
        all_goals (rintro L _ W ⟨x24, x25, x26, x27, x28, x29, x30, x31, x32, x33, x34, x8, rfl, hI⟩ hL hd K hK)
        · rw [if_pos (by rfl)]
          go_simp
          exact hK.out _ _ ⟨_, _, _, _, _, _, _, _, _, _, _, _, rfl, { hI with p0 := fun _ => rfl }⟩
        · obtain rfl := hI.p0 (hd 0 (by decide))
          rw [if_pos (by rfl)]
          have hc := (HTB.out W (TB.out _ hI.x.bel)).cell 0 _ G0.out
          go_simp
          exact hK.out _ _ ⟨_, _, _, _, _, _, _, _, _, _, _, _, rfl, { hI with p1 := fun _ => rfl }⟩
        · rw [if_pos (by rfl)]
          go_simp
          exact hK.out _ _ ⟨_, _, _, _, _, _, _, _, _, _, _, _, rfl, { hI with p2 := fun _ => rfl }⟩
        · rw [if_pos (by rfl)]
          go_simp
          exact hK.out _ _ ⟨_, _, _, _, _, _, _, _, _, _, _, _, rfl, { hI with p3 := fun _ => rfl }⟩
        · obtain rfl := hI.p3 (hd 3 (by decide))
          rw [if_pos (by rfl)]
          have hc := (HTB.out W (TB.out _ hI.x.bel)).cell 1 _ G1.out
          go_simp
          exact hK.out _ _ ⟨_, _, _, _, _, _, _, _, _, _, _, _, rfl, { hI with p4 := fun _ => rfl }⟩
        · obtain rfl := hI.p2 (hd 2 (by decide))
          obtain rfl := hI.p4 (hd 4 (by decide))
          have hIL := isB_isL (HVB.out W (TB.out _ hI.x.bel)).id
          refine step_append_any el_bytes (by rfl) (.tmp 26) (.tmp 28) rfl (w.heap.size + 3) (some ⟨E1, 0, none⟩) 0 0 [] rfl (hI.x.id0 hL) hI.x.sz io id.length ic (id.map B8) rfl (by rw [List.length_map, Nat.mul_one]) hIL (B8_one _) HNIL.out (by have := HBIG.out; unfold maxLen; omega) (by have := HBIG.out; omega) ?_
          intro ao7 c7 W2 g1 g2 g3 g4
          rw [Nat.zero_add] at g1
          rw [Nat.zero_add]
          rw [List.nil_append] at g1
          have hX := hI.x.s5 hL g1 g2 g3 g4
          exact hK.out _ _ ⟨_, _, _, _, _, _, _, _, _, _, _, _, rfl, { hI with x := hX }⟩
        · rw [if_pos (by rfl)]
          go_simp
          exact hK.out _ _ ⟨_, _, _, _, _, _, _, _, _, _, _, _, rfl, { hI with p6 := fun _ => rfl }⟩
        · refine step_load_part (by rfl) 50 _ rfl (w.heap.size + 1) 0 50 5 CC (HCB.out W (TB.out _ hI.x.bel)) rfl _ (cvC c) CCd.out LC5.out Tryz.underlying50 rfl (by kernel_rfl) ?_
          exact hK.out _ _ ⟨_, _, _, _, _, _, _, _, _, _, _, _, rfl, { hI with p7 := fun _ => rfl }⟩
        · obtain rfl := hI.p7 (hd 7 (by decide))
          refine step_build_cv (by rfl) (.tmp 31) rfl (cvC c) LC5.out rfl ?_
          have hX := hI.x.s8 hL
          exact hK.out _ _ ⟨_, _, _, _, _, _, _, _, _, _, _, _, rfl, { hI with x := hX }⟩
        · obtain rfl := hI.p6 (hd 6 (by decide))
          have h8 := hd 8 (by decide)
          obtain ⟨G, e32, r32⟩ := hI.x.p8 h8 hL
          refine step_append_any el_cavs24 (by rfl) (.tmp 30) (.tmp 32) rfl (w.heap.size + 3) l7 cs.length lc7 (cs.flatMap cvC) rfl (hI.x.l0 hL) hI.x.sz (some ⟨G, 0, none⟩) 1 1 (cvC c) e32 rfl (.inr ⟨G, 0, rfl, fun j v hv => (by rw [Nat.zero_add]; exact r32.cell j v hv)⟩) (cvC_one c) (fun h => (by cases h)) (by have := HL.out; unfold maxLen; omega) (by have := HL.out; omega) ?_
          intro ao7 c7 W2 g1 g2 g3 g4
          have hX := hI.x.s9 h8 hL g1 g2 g3 g4
          exact hK.out _ _ ⟨_, _, _, _, _, _, _, _, _, _, _, _, rfl, { hI with x := hX }⟩
        · obtain rfl := hI.p1 (hd 1 (by decide))
          have h5 := hd 5 (by decide)
          have h9 := hd 9 (by decide)
          obtain ⟨io2, ic2, u29, _⟩ := hI.x.p5 h5
          obtain ⟨lo2, lc2, u33, _⟩ := hI.x.p9 h9
          have hX := hI.x.s10 h5 h9 hL u29 u33
          refine step_build3 (by rfl) 28 0 1 2 (.tmp 25) (.tmp 29) (.tmp 33) rfl (.int .i64 key) (.slice io2 id.length ic2) (.slice lo2 (cs.length + 1) lc2) _ rfl u29 u33 (build_tk012 key io2 id.length ic2 lo2 (cs.length + 1) lc2 W) ?_
          exact hK.out _ _ ⟨_, _, _, _, _, _, _, _, _, _, _, _, rfl, { hI with x := hX }⟩
        · rw [if_pos (by rfl)]
          have hX := hI.x.s11 hL
          go_simp
          exact hK.out _ _ ⟨_, _, _, _, _, _, _, _, _, _, _, _, rfl, { hI with x := hX }⟩
        · have h10 := hd 10 (by decide)
          have h11 := hd 11 (by decide)
          obtain ⟨io2, ic2, lo2, lc2, u29, u33, u34⟩ := hI.x.p10 h10
          obtain ⟨g8, u8, hg8, hr8, _⟩ := hI.x.p11 h11
          refine step_store_Row rfl 28 (.tmp 8) (.tmp 34) rfl g8 28 zTk (tkC key io2 id.length ic2 lo2 (cs.length + 1) lc2 (List.replicate 32 0)) (hr8 hL) rfl u8 u34 (by kernel_rfl) (tkC_one _ _ _ _ _ _ _ _) ?_
          intro W2 hr2 hs2
          have hX := hI.x.s12 h10 h11 hL u29 u33 u8 hg8 (hr8 hL) hr2 hs2
          exact hK.out _ _ ⟨_, _, _, _, _, _, _, _, _, _, _, _, rfl, { hI with x := hX }⟩
      · rintro L _ W hall ⟨x24, x25, x26, x27, x28, x29, x30, x31, x32, x33, x34, x8, rfl, hI⟩
        obtain rfl := hI.p0 (hall 0 (by decide))
        obtain rfl := hI.p1 (hall 1 (by decide))
        obtain rfl := hI.p2 (hall 2 (by decide))
        obtain rfl := hI.p3 (hall 3 (by decide))
        obtain rfl := hI.p4 (hall 4 (by decide))
        obtain rfl := hI.p6 (hall 6 (by decide))
        obtain rfl := hI.p7 (hall 7 (by decide))
        have hXe := hI.x
        rw [hall 5 (by decide)] at hXe
        rw [hall 8 (by decide)] at hXe
        rw [hall 9 (by decide)] at hXe
        rw [hall 10 (by decide)] at hXe
        rw [hall 11 (by decide)] at hXe
        rw [hall 12 (by decide)] at hXe
        clear hI hall
        try dsimp only
        obtain ⟨io2, ic2, lo2, lc2, u29, u33, u34⟩ := hXe.p10 rfl
        obtain ⟨g8, u8, hg8, _, hr8⟩ := hXe.p11 rfl
        obtain ⟨_, _, v29, o29⟩ := hXe.p5 rfl
        obtain ⟨_, _, v33, o33⟩ := hXe.p9 rfl
        rw [u29] at v29; rw [u33] at v33
        injection v29 with a1 _ a3
        injection v33 with b1 _ b3
        subst a1; subst a3; subst b1; subst b3
        have hb8 := TB.out _ hXe.bel
        have HS9 : Hid (NarN9 w T c id io2 ic2 cs lo2 lc2 g8 key (tag tg0 (cvB c)) false W) := ⟨HWB.out _ hb8, HTB.out _ hb8, by rw [← HCC.out]; exact HCB.out _ hb8, R2.out _ hb8, o29, o33, hg8, hr8 rfl _ _ _ _ u29 u33⟩
        subst u29; subst u33; subst u34; subst u8
        clear hXe o29 o33 hb8 hr8 hg8
        have T32 : Hid (tg0.length = 32) := HV.out.tag
        have TG32 : Hid ((tag tg0 (cvB c)).length = 32) := tag_len _ _
        have ITG : Hid (∀ W, Row W w.heap.size 28 T → IsB W (some ⟨w.heap.size, 3, none⟩) tg0) := fun W h => .inr ⟨w.heap.size, 3, rfl, fun j v hj => by
          have hjl : j < tg0.length := (List.getElem?_eq_some_iff.1 hj).1
          refine h.cell (3 + j) _ ?_
          have h3 : ((T.drop 3).take 32)[j]? = some (B8 v) := by rw [G3.out, List.getElem?_map, hj]; rfl
          rw [List.getElem?_take, if_pos (by rw [T32.out] at hjl; exact hjl), List.getElem?_drop] at h3
          exact h3⟩
        go_upto_region 9 with fail
        refine wp_region_inv (INA9 W w T c id io2 ic2 cs lo2 lc2 g8 key tg0 _ _ _ _ _ _ _ _ _ _ _ _ _ _ _ _ _ _ _ _ _ _ _ _ _ _ _ _ _ _ _ _ _ _ _ _) (by kernel_rfl) (by kernel_rfl) ⟨_, _, _, _, _, _, rfl, ⟨⟨HS9.out.keep ⟨rfl, rfl, rfl, Nat.le_refl _, fun _ _ => rfl⟩, fun h => (by cases h)⟩, fun k => (by cases k), fun k => (by cases k), fun k => (by cases k), fun k => (by cases k), fun k => (by cases k), fun k => (by cases k), fun k => (by cases k)⟩⟩ ?_ ?_
        · refine .cons ?_ (.cons ?_ (.cons ?_ (.cons ?_ (.cons ?_ (.cons ?_ (.cons ?_ .nil))))))
          all_goals (rintro L _ W ⟨x35, x36, x37, x38, x39, x40, rfl, hI⟩ hL hd K hK)
          · rw [if_pos (by rfl)]
            go_simp
            exact hK.out _ _ ⟨_, _, _, _, _, _, rfl, { hI with p0 := fun _ => rfl }⟩
          · obtain rfl := hI.p0 (hd 0 (by decide))
            rw [if_pos (by rfl)]
            go_simp
            exact hK.out _ _ ⟨_, _, _, _, _, _, rfl, { hI with p1 := fun _ => rfl }⟩
          · refine step_load_part (by rfl) 50 _ rfl (w.heap.size + 1) 0 50 5 (cvC c) hI.x.n.cc rfl _ (cvC c) (List.take_of_length_le (Nat.le_refl _)) LC5.out Tryz.underlying50 rfl (by kernel_rfl) ?_
            exact hK.out _ _ ⟨_, _, _, _, _, _, rfl, { hI with p2 := fun _ => rfl }⟩
          · obtain rfl := hI.p2 (hd 2 (by decide))
            have h6 : L 6 = false := Bool.eq_false_iff.2 (fun e => (by have h7 := hI.c4_3 (hI.c6_4 e); rw [hL] at h7; exact Bool.noConfusion h7))
            rw [if_pos (by rfl)]
            go_simp
            refine (r24cBytes_any c HOK.out.z W).mono ?_
            rintro e W2 ⟨ao3, c3, rfl, ho, hb3⟩
            go_simp
            have k := hI.x.keep hb3
            have hX : M9 w T c id io2 ic2 cs lo2 lc2 g8 key (tag tg0 (cvB c)) true (L 6) (.slice ao3 26 c3) W2 := ⟨k.n, fun _ _ => ⟨_, _, rfl, own_le ho hI.x.n.bel.size⟩⟩
            exact hK.out _ _ ⟨_, _, _, _, _, _, rfl, { hI with x := hX, c4_3 := fun _ => rfl }⟩
          · obtain rfl := hI.p1 (hd 1 (by decide))
            rw [if_pos (by rfl)]
            go_simp
            have h6 : L 6 = false := Bool.eq_false_iff.2 (fun e => (by have h7 := hI.c6_4 e; rw [hL] at h7; exact Bool.noConfusion h7))
            obtain ⟨ao3, c3, e38, ho3⟩ := hI.x.p3 (hd 3 (by decide)) h6
            subst e38
            refine (refMac_any (some ⟨w.heap.size, 3, none⟩) ao3 32 32 26 c3 tg0 (cvB c) T32.out (cvB_len c) W (ITG.out W hI.x.n.t) (own_IsB ho3) (fun h => (by cases h)) (own_nilcap ho3) (by omega) (by omega)).mono ?_
            rintro e W2 ⟨rfl, hb3⟩
            go_simp
            have hX := hI.x.keep hb3
            exact hK.out _ _ ⟨_, _, _, _, _, _, rfl, { hI with x := hX, p4 := fun _ => rfl, c6_4 := fun _ => rfl, c4_3 := fun _ => (hd 3 (by decide)) }⟩
          · rw [if_pos (by rfl)]
            go_simp
            exact hK.out _ _ ⟨_, _, _, _, _, _, rfl, { hI with p5 := fun _ => rfl }⟩
          · obtain rfl := hI.p5 (hd 5 (by decide))
            obtain rfl := hI.p4 (hd 4 (by decide))
            have hx0 := hI.x
            rw [hL] at hx0
            refine step_store_part rfl 26 (.tmp 40) (.tmp 39) rfl g8 28 3 _ ((tag tg0 (cvB c)).map B8) hx0.n.g (by rw [List.length_map, TG32.out, tkC_len (by rfl)]; exact Nat.le_refl _) rfl rfl (by rw [List.length_map, TG32.out]; kernel_rfl) (B8_one _) ?_
            intro W2 hr2 hs2
            rw [tkC_settag _ _ _ _ _ _ _ _ _ (by rfl) TG32.out] at hr2
            have hX : M9 w T c id io2 ic2 cs lo2 lc2 g8 key (tag tg0 (cvB c)) (L 3) true x38 W2 := ⟨hx0.n.lay hr2 hs2, fun _ f => (by cases f)⟩
            exact hK.out _ _ ⟨_, _, _, _, _, _, rfl, { hI with x := hX, c6_4 := fun _ => (hd 4 (by decide)) }⟩
        · rintro L _ W hall ⟨x35, x36, x37, x38, x39, x40, rfl, hI⟩
          obtain rfl := hI.p0 (hall 0 (by decide))
          obtain rfl := hI.p1 (hall 1 (by decide))
          obtain rfl := hI.p2 (hall 2 (by decide))
          obtain rfl := hI.p4 (hall 4 (by decide))
          obtain rfl := hI.p5 (hall 5 (by decide))
          have hXe := hI.x
          rw [hall 3 (by decide)] at hXe
          rw [hall 6 (by decide)] at hXe
          clear hI hall
          try dsimp only
          obtain ⟨C9, hC9⟩ : ∃ C9, C9 = tkC key io2 id.length ic2 lo2 (cs.length + 1) lc2 (tag tg0 (cvB c)) := ⟨_, rfl⟩
          have L9 : Hid (C9.length = 35) := by show _ = _; rw [hC9]; exact tkC_len TG32.out
          have R9 : Hid (Row W g8 28 C9) := by rw [hC9]; exact hXe.n.g
          have O9 : Hid (∀ v ∈ C9, v.oneCell' = true) := by rw [hC9]; exact tkC_one _ _ _ _ _ _ _ _
          have H9 : Hid (C9 = tkC key io2 id.length ic2 lo2 (cs.length + 1) lc2 (tag tg0 (cvB c))) := hC9
          have HX9 : Hid (NarN9 w T c id io2 ic2 cs lo2 lc2 g8 key (tag tg0 (cvB c)) true W) := hXe.n
          clear hXe hC9
          go_wp2_with (first
            | (have hz := R9; clear hz; refine wpList_load_Row rfl 28 (.tmp 8) rfl g8 28 C9 R9.out rfl _ Tryz.underlying28 rfl (by rw [L9.out]; kernel_rfl) ?_; clear R9)
            | (refine wpList_store_Row rfl 28 _ _ rfl (w.heap.size + 2) 28 0 zTk C9 HX9.out.res (by rw [L9.out]; exact Nat.le_refl _) rfl rfl (by rw [L9.out]; kernel_rfl) O9.out ?_; intro w2 hr2 hs2))
          have q2 := row_whole hr2 (by rw [L9.out]; exact Nat.le_refl _)
          refine bodyPost_ret_by (results_rowtmp Tryz.results17 _ w2 (w.heap.size + 2) 28 _ _ rfl q2 Tryz.underlying28 rfl (by rw [L9.out]; kernel_rfl)) rfl ?_
          have hx := HX9.out
          refine ⟨hs2.below hx.bel (by omega), ?_⟩
          rw [if_neg H32.out, if_pos HMY.out, H9.out]
          refine ⟨io2, ic2, lo2, lc2, by unfold tkCells; rw [List.length_append]; rfl, ⟨owB_low (owB_but hx.oid hs2 hx.res (by decide)) (by omega), by rw [hs2.size]; exact hx.bel.size⟩, ?_, TG32.out, fun d hd => ?_, HBIG.out⟩
          · rw [List.length_append, List.flatMap_append]
            have := owB_low (owB_but hx.ocs hs2 hx.res (by decide)) (by omega : w.heap.size ≤ w.heap.size + 3)
            simpa using this
          · rcases List.mem_append.1 hd with hd | hd
            · exact HV.out.ok d hd
            · rw [List.mem_singleton.1 hd]; exact HOK.out
end Go.Proofs.YtjooabgjkjnhhaaGreatDoor
