
import Derived.Test.YtdfbfheceobboaaDoorP25Pa
import Derived.Test.YtdfbfheceobboaaDoorP25Laid
/-! The code's patch: what stands ahead of the parts. (Printed by tools/genc25.py.) -/
namespace Go.Proofs.YtdfbfheceobboaaDoor
open Go.RowKit
set_option linter.unusedVariables false
set_option linter.unusedSimpArgs false
set_option maxRecDepth 100000

theorem isb_cells25 {w : World} {g off : Nat} {m : List By} (h : IsB w (some ⟨g, off, none⟩) m) : ∀ j v, (m.map B8)[j]? = some v → w.cell? ((⟨g, off, none⟩ : Addr).add j) = some v := by
  intro j v hv
  rw [List.getElem?_map] at hv
  obtain ⟨x, hx, rfl⟩ := Option.map_eq_some_iff.1 hv
  rcases h with rfl | ⟨B, off', e, hc⟩
  · simp at hx
  · injection e with e
    injection e with e1 e2
    subst e1; subst e2
    have := hc j x hx
    rw [Addr.add_mid]; exact this
theorem wpList_append_full25 {ops : Array Oper} {rest : List Oper} {o : Oper} {a : Act} {w : World} {Q : Exit → Act → World → Prop} (hgd : o.guard = none) (s x : Operand)
    (ho : o.op = .call { callee := .builtin .append, args := #[s, x], argTypes := #[22, 22] })
    (g nD : Nat) (m : List By) (hs : a.eval s = .slice (some ⟨g, 0, none⟩) nD nD) (hD : m.length = nD) (hm : IsB w (some ⟨g, 0, none⟩) m)
    (h hoff n cap : Nat) (bs : List By) (hx : a.eval x = .slice (some ⟨h, hoff, none⟩) n cap) (hn : bs.length = n) (hb : IsB w (some ⟨h, hoff, none⟩) bs) (hn0 : 0 < n) (hl : nD + n ≤ 140737488353280)
    (hK : ∀ ao' cap' w', Own w.heap.size w' (.slice ao' (nD + n) cap') (m ++ bs) → Below w.heap.size w w' → wpList Tryd.prog ops Q rest (a.put o.dst (.slice ao' (nD + n) cap')) w') : wpList Tryd.prog ops Q (o :: rest) a w := by
  obtain ⟨i0, hi, hz0, hz1, hz2⟩ := info_parts Tryd.info5
  refine wpList_plain hgd fun K hK' => ?_
  have hr := run_append_grow (P := Tryd.prog) w 22 o.type 5 i0 (.int .u8 0) Tryd.underlying22 hi hz0 ⟨g, 0, none⟩ nD nD (m.map B8) (by rw [List.length_map, hz1, hD, Nat.mul_one]) (isb_cells25 hm) ⟨h, hoff, none⟩ n cap (bs.map B8) (by rw [List.length_map, hz1, hn, Nat.mul_one]) (isb_cells25 hb) (by omega) (by omega) (growslice_fits (by omega) (by rw [hz2]; omega))
  have hge := grownCap_ge w (nD + n) nD 5
  have hcm : grownCap w (nD + n) nD 5 ≤ maxLen := grownCap_le_maxLen w (nD + n) nD 5 (by unfold maxLen; omega)
  have hlen : (m ++ bs).length = nD + n := by rw [List.length_append, hD, hn]
  unfold Oper.wp execOp
  simp only [ho, resolve, invoke, builtin, Sem.run_bind, Sem.run_pure, Result.andThen_ok, List.map_toArray, List.map_cons, List.map_nil, hs, hx, hr]
  refine hK' _ _ (hK _ _ _ ⟨⟨by simp, .inr ⟨w.heap.size, _, _, by rw [hlen], Nat.le_refl _, heap_alloc_new w.drew _, by rw [hlen]; exact hge, hcm, ?_, ?_⟩⟩, by simp⟩ (((Below.refl _ _).drew).alloc (Nat.le_refl _) _))
  · simp only [Array.size_append, List.size_toArray, size_zeroCells, List.length_map, hD, hn]
    have : (Value.int IntKind.u8 0).cells.size = 1 := rfl
    rw [this]; omega
  · rw [Array.toList_append, Array.toList_append]
    have e1 : (m ++ bs).length * 1 = (m.map B8 ++ bs.map B8).length := by simp
    rw [e1, List.map_append]
    exact List.take_left

/-- What a patch says of itself, in cells. -/
def infC (o nw : List By) (b af p l : Nat) : List Value := o.map B8 ++ nw.map B8 ++ [.int .i64 (b : Int), .int .i64 (af : Int), .int .i64 (p : Int), .int .i64 (l : Int)]
theorem infC_len {o nw : List By} (ho : o.length = 32) (hn : nw.length = 32) (b af p l : Nat) : (infC o nw b af p l).length = 68 := by simp [infC, ho, hn]
theorem infC_old {o nw : List By} (ho : o.length = 32) (hn : nw.length = 32) (b af p l : Nat) {W : World} {g : Nat} (hr : Row W g 47 (infC o nw b af p l)) : IsB W (some ⟨g, 0, none⟩) o := by
  refine .inr ⟨g, 0, rfl, fun j v hj => ?_⟩
  rw [Nat.zero_add]
  refine hr.cell j (B8 v) ?_
  have hl := (List.getElem?_eq_some_iff.1 hj).1
  unfold infC
  rw [List.append_assoc, List.getElem?_append_left (by rw [List.length_map]; exact hl), List.getElem?_map, hj]; rfl
theorem infC_new {o nw : List By} (ho : o.length = 32) (hn : nw.length = 32) (b af p l : Nat) {W : World} {g : Nat} (hr : Row W g 47 (infC o nw b af p l)) : IsB W (some ⟨g, 32, none⟩) nw := by
  refine .inr ⟨g, 32, rfl, fun j v hj => ?_⟩
  refine hr.cell (32 + j) (B8 v) ?_
  have hl := (List.getElem?_eq_some_iff.1 hj).1
  unfold infC
  rw [List.append_assoc, List.getElem?_append_right (by rw [List.length_map]; omega), List.length_map, ho, show 32 + j - 32 = j by omega, List.getElem?_append_left (by rw [List.length_map]; exact hl), List.getElem?_map, hj]; rfl
theorem infC_num {o nw : List By} (ho : o.length = 32) (hn : nw.length = 32) (b af p l : Nat) : (infC o nw b af p l)[64]? = some (.int .i64 (b : Int)) ∧ (infC o nw b af p l)[65]? = some (.int .i64 (af : Int)) ∧ (infC o nw b af p l)[66]? = some (.int .i64 (p : Int)) ∧ (infC o nw b af p l)[67]? = some (.int .i64 (l : Int)) := by
  have hl : (o.map B8 ++ nw.map B8).length = 64 := by simp [ho, hn]
  unfold infC
  refine ⟨?_, ?_, ?_, ?_⟩ <;> (rw [List.getElem?_append_right (by omega), hl]; rfl)
/-- While two numbers are put. -/
structure PhW (N : Nat) (w : World) (bt G : Nat) (bcs : List Value) (ao : Option Addr) (n c : Nat) (m M2 M3 : List By) (q3 q6 q7 : Bool) (x16 x19 x2 : Value) (W : World) : Prop where
  c6 : q6 = true → q3 = true
  box : Row W G bt bcs
  p0 : q3 = false → Own N W (.slice ao n c) m ∧ Below N w W
  p3 : q3 = true → q6 = false → ∃ ao' c', x16 = .slice ao' (n + 4) c' ∧ Own N W (.slice ao' (n + 4) c') (m ++ M2) ∧ Below N w W
  p6 : q6 = true → ∃ ao' c', x19 = .slice ao' (n + 8) c' ∧ Own N W (.slice ao' (n + 8) c') (m ++ M2 ++ M3) ∧ Below N w W
  p7 : q7 = true → q6 = true ∧ x2 = x19
section
variable {N : Nat} {w : World} {bt G : Nat} {bcs : List Value} {ao : Option Addr} {n c : Nat} {m M2 M3 : List By} {q3 q6 q7 : Bool} {x16 x19 x2 : Value} {W W2 : World}
theorem PhW.s3 (h : PhW N w bt G bcs ao n c m M2 M3 q3 q6 q7 x16 x19 x2 W) (e3 : q3 = false) {ao' : Option Addr} {c' : Nat} (ho : Own N W2 (.slice ao' (n + 4) c') (m ++ M2)) (hg : Below N w W2) (hb : Row W2 G bt bcs) : PhW N w bt G bcs ao n c m M2 M3 true q6 q7 (.slice ao' (n + 4) c') x19 x2 W2 := by
  have e6 := ff25 h.c6 e3
  have e7 := ff25 (fun e => (h.p7 e).1) e6
  subst e3; subst e6; subst e7
  exact ⟨fun e => (by cases e), hb, fun e => (by cases e), fun _ _ => ⟨_, _, rfl, ho, hg⟩, fun e => (by cases e), fun e => (by cases e)⟩
theorem PhW.s6 (h : PhW N w bt G bcs ao n c m M2 M3 q3 q6 q7 x16 x19 x2 W) (e3 : q3 = true) (e6 : q6 = false) {ao' : Option Addr} {c' : Nat} (ho : Own N W2 (.slice ao' (n + 8) c') (m ++ M2 ++ M3)) (hg : Below N w W2) (hb : Row W2 G bt bcs) : PhW N w bt G bcs ao n c m M2 M3 q3 true q7 x16 (.slice ao' (n + 8) c') x2 W2 := by
  have e7 := ff25 (fun e => (h.p7 e).1) e6
  subst e3; subst e6; subst e7
  exact ⟨fun _ => rfl, hb, fun e => (by cases e), fun _ e => (by cases e), fun _ => ⟨_, _, rfl, ho, hg⟩, fun e => (by cases e)⟩
theorem PhW.s7 (h : PhW N w bt G bcs ao n c m M2 M3 q3 q6 q7 x16 x19 x2 W) (e6 : q6 = true) : PhW N w bt G bcs ao n c m M2 M3 q3 q6 true x16 x19 x19 W :=
  ⟨h.c6, h.box, h.p0, h.p3, h.p6, fun _ => ⟨e6, rfl⟩⟩
end
structure PH3 (W1 : World) (w w3 : World) (b af : Nat) (ao3 : Option Addr) (c3 : Nat) (m IC_ : List By) (IC : List Value) (L : Nat → Bool) (x13 x14 x15 x16 x17 x18 x19 x2 : Value) (W : World) : Prop where
  x : PhW w.heap.size w 47 w.heap.size IC ao3 69 c3 m (le4 b) (le4 af) (L 3) (L 6) (L 7) x16 x19 x2 W
  p0 : L 0 = true → x13 = .slice ao3 69 c3
  p1 : L 1 = true → x14 = .pointer (some ⟨w.heap.size, 64, none⟩)
  p2 : L 2 = true → x15 = .int .i64 (b : Int)
  p4 : L 4 = true → x17 = .pointer (some ⟨w.heap.size, 65, none⟩)
  p5 : L 5 = true → x18 = .int .i64 (af : Int)
section
variable {W1 : World} {w w3 : World} {b af : Nat} {ao3 : Option Addr} {c3 : Nat} {m IC_ : List By} {IC : List Value} {L : Nat → Bool} {x13 x14 x15 x16 x17 x18 x19 x2 : Value} {W W2 : World}
theorem PH3.s0 (h : PH3 W1 w w3 b af ao3 c3 m IC_ IC L x13 x14 x15 x16 x17 x18 x19 x2 W) : PH3 W1 w w3 b af ao3 c3 m IC_ IC (upd L 0) (.slice ao3 69 c3) x14 x15 x16 x17 x18 x19 x2 W :=
  ⟨h.x, fun _ => rfl, h.p1, h.p2, h.p4, h.p5⟩
theorem PH3.s1 (h : PH3 W1 w w3 b af ao3 c3 m IC_ IC L x13 x14 x15 x16 x17 x18 x19 x2 W) : PH3 W1 w w3 b af ao3 c3 m IC_ IC (upd L 1) x13 (.pointer (some ⟨w.heap.size, 64, none⟩)) x15 x16 x17 x18 x19 x2 W :=
  ⟨h.x, h.p0, fun _ => rfl, h.p2, h.p4, h.p5⟩
theorem PH3.s2 (h : PH3 W1 w w3 b af ao3 c3 m IC_ IC L x13 x14 x15 x16 x17 x18 x19 x2 W) : PH3 W1 w w3 b af ao3 c3 m IC_ IC (upd L 2) x13 x14 (.int .i64 (b : Int)) x16 x17 x18 x19 x2 W :=
  ⟨h.x, h.p0, h.p1, fun _ => rfl, h.p4, h.p5⟩
theorem PH3.s3 (h : PH3 W1 w w3 b af ao3 c3 m IC_ IC L x13 x14 x15 x16 x17 x18 x19 x2 W) {v : Value} (hX : PhW w.heap.size w 47 w.heap.size IC ao3 69 c3 m (le4 b) (le4 af) ((upd L 3) 3) ((upd L 3) 6) ((upd L 3) 7) v x19 x2 W2) : PH3 W1 w w3 b af ao3 c3 m IC_ IC (upd L 3) x13 x14 x15 v x17 x18 x19 x2 W2 :=
  ⟨hX, h.p0, h.p1, h.p2, h.p4, h.p5⟩
theorem PH3.s4 (h : PH3 W1 w w3 b af ao3 c3 m IC_ IC L x13 x14 x15 x16 x17 x18 x19 x2 W) : PH3 W1 w w3 b af ao3 c3 m IC_ IC (upd L 4) x13 x14 x15 x16 (.pointer (some ⟨w.heap.size, 65, none⟩)) x18 x19 x2 W :=
  ⟨h.x, h.p0, h.p1, h.p2, fun _ => rfl, h.p5⟩
theorem PH3.s5 (h : PH3 W1 w w3 b af ao3 c3 m IC_ IC L x13 x14 x15 x16 x17 x18 x19 x2 W) : PH3 W1 w w3 b af ao3 c3 m IC_ IC (upd L 5) x13 x14 x15 x16 x17 (.int .i64 (af : Int)) x19 x2 W :=
  ⟨h.x, h.p0, h.p1, h.p2, h.p4, fun _ => rfl⟩
theorem PH3.s6 (h : PH3 W1 w w3 b af ao3 c3 m IC_ IC L x13 x14 x15 x16 x17 x18 x19 x2 W) {v : Value} (hX : PhW w.heap.size w 47 w.heap.size IC ao3 69 c3 m (le4 b) (le4 af) ((upd L 6) 3) ((upd L 6) 6) ((upd L 6) 7) x16 v x2 W2) : PH3 W1 w w3 b af ao3 c3 m IC_ IC (upd L 6) x13 x14 x15 x16 x17 x18 v x2 W2 :=
  ⟨hX, h.p0, h.p1, h.p2, h.p4, h.p5⟩
theorem PH3.s7 (h : PH3 W1 w w3 b af ao3 c3 m IC_ IC L x13 x14 x15 x16 x17 x18 x19 x2 W) {v : Value} (hX : PhW w.heap.size w 47 w.heap.size IC ao3 69 c3 m (le4 b) (le4 af) ((upd L 7) 3) ((upd L 7) 6) ((upd L 7) 7) x16 x19 v W2) : PH3 W1 w w3 b af ao3 c3 m IC_ IC (upd L 7) x13 x14 x15 x16 x17 x18 x19 v W2 :=
  ⟨hX, h.p0, h.p1, h.p2, h.p4, h.p5⟩
end
@[reducible] def IPH3 (W1 : World) (w w3 : World) (b af : Nat) (ao3 : Option Addr) (c3 : Nat) (m IC_ : List By) (IC : List Value) (y0 y1 y3 y4 y5 y6 y7 y8 y9 y10 y11 y12 : Value) : (Nat → Bool) → Act → World → Prop := fun L a W => ∃ x13 x14 x15 x16 x17 x18 x19 x2, a = ⟨#[y0, y1, x2, y3, y4, y5, y6, y7, y8, y9, y10, y11, y12, x13, x14, x15, x16, x17, x18, x19], []⟩ ∧ PH3 W1 w w3 b af ao3 c3 m IC_ IC L x13 x14 x15 x16 x17 x18 x19 x2 W
theorem PH3.step {W1 : World} {w w3 : World} {b af : Nat} {ao3 : Option Addr} {c3 : Nat} {m IC_ : List By} {IC : List Value} {y0 y1 y3 y4 y5 y6 y7 y8 y9 y10 y11 y12 : Value} {P : Program} {ops : Array Oper} {Q : Exit → Act → World → Prop} {i : Nat} {o : Oper} (hq : ∀ x13 x14 x15 x16 x17 x18 x19 x2 (L : Nat → Bool) (W : World), PH3 W1 w w3 b af ao3 c3 m IC_ IC L x13 x14 x15 x16 x17 x18 x19 x2 W → L i = false → (∀ j ∈ onesOf o, L j = true) → ∀ K : Act → World → Prop, Shut (∀ a' w', IPH3 W1 w w3 b af ao3 c3 m IC_ IC y0 y1 y3 y4 y5 y6 y7 y8 y9 y10 y11 y12 (upd L i) a' w' → K a' w') → if Region.wanted o (yielded ops (⟨#[y0, y1, x2, y3, y4, y5, y6, y7, y8, y9, y10, y11, y12, x13, x14, x15, x16, x17, x18, x19], []⟩ : Act).tmps) = true then Oper.wp P o ⟨#[y0, y1, x2, y3, y4, y5, y6, y7, y8, y9, y10, y11, y12, x13, x14, x15, x16, x17, x18, x19], []⟩ W K Q else K ((⟨#[y0, y1, x2, y3, y4, y5, y6, y7, y8, y9, y10, y11, y12, x13, x14, x15, x16, x17, x18, x19], []⟩ : Act).put o.dst undef) W) : StepI P ops (IPH3 W1 w w3 b af ao3 c3 m IC_ IC y0 y1 y3 y4 y5 y6 y7 y8 y9 y10 y11 y12) Q i o := by
  rintro L a W ⟨x13, x14, x15, x16, x17, x18, x19, x2, rfl, h⟩
  exact hq _ _ _ _ _ _ _ _ _ _ h
theorem PH3.ends {W1 : World} {w w3 : World} {b af : Nat} {ao3 : Option Addr} {c3 : Nat} {m IC_ : List By} {IC : List Value} {y0 y1 y3 y4 y5 y6 y7 y8 y9 y10 y11 y12 : Value} {mm_ : Nat} {Q : Exit → Act → World → Prop} (hq : ∀ x13 x14 x15 x16 x17 x18 x19 x2 (L : Nat → Bool) (W : World), (∀ j, j < mm_ → L j = true) → PH3 W1 w w3 b af ao3 c3 m IC_ IC L x13 x14 x15 x16 x17 x18 x19 x2 W → Q .normal ⟨#[y0, y1, x2, y3, y4, y5, y6, y7, y8, y9, y10, y11, y12, x13, x14, x15, x16, x17, x18, x19], []⟩ W) : ∀ L a' w', (∀ j, j < mm_ → L j = true) → IPH3 W1 w w3 b af ao3 c3 m IC_ IC y0 y1 y3 y4 y5 y6 y7 y8 y9 y10 y11 y12 L a' w' → Q .normal a' w' := by
  rintro L a W hall ⟨x13, x14, x15, x16, x17, x18, x19, x2, rfl, h⟩
  exact hq _ _ _ _ _ _ _ _ _ _ hall h
def HeadP (w : World) (M : List By) (e : Ending) (w' : World) : Prop := ∃ ao' c', e = .returned (.slice ao' M.length c') ∧ Own w.heap.size w' (.slice ao' M.length c') M ∧ Below w.heap.size w w'
set_option maxHeartbeats 1000000 in
theorem cputhead_any (o nw : List By) (b af p l : Nat) (w : World) (ho : o.length = 32) (hn : nw.length = 32) (hb : b < 4294967296) (ha : af < 4294967296) :
    Calls Tryd.prog 13 #[.agg (infC o nw b af p l).toArray] w (HeadP w (headB o nw b af)) := by
  obtain ⟨W0, hW0⟩ : ∃ W0, W0 = w.alloc (.cells (infC o nw b af p l).toArray 47) := ⟨_, rfl⟩
  have kc := Lib.run_convert_bytes_const (P := Tryd.prog) W0 22 5 #[.int .u8 80, .int .u8 67, .int .u8 80, .int .u8 84, .int .u8 1] 5 5 Tryd.underlying22 Tryd.underlying5
  obtain ⟨W1, hW1⟩ : ∃ W1, W1 = W0.alloc (.cells #[.int .u8 80, .int .u8 67, .int .u8 80, .int .u8 84, .int .u8 1] 5 (5, 6)) := ⟨_, rfl⟩
  have r1 : Row W1 w.heap.size 47 (infC o nw b af p l) := by rw [hW1, hW0]; exact (Row.at w 47 (infC o nw b af p l) _ _ rfl rfl).alloc _
  have i1 : Hid (IsB W1 (some ⟨W0.heap.size, 0, none⟩) hd5) := by
    show IsB _ _ _
    rw [hW1]
    exact isb_mk25 (l := hd5) (t := 5) (fz := (5, 6)) (heap_alloc_new _ _)
  have b1 : Below w.heap.size w W1 := by rw [hW1, hW0]; exact ((Below.refl _ _).alloc (Nat.le_refl _) _).alloc (by simp) _
  have R1 : Hid (Row W1 w.heap.size 47 (infC o nw b af p l)) := r1
  have B1 : Hid (Below w.heap.size w W1) := b1
  have HOL : Hid (o.length = 32 ∧ nw.length = 32) := ⟨ho, hn⟩
  obtain ⟨n64, n65, _, _⟩ := infC_num ho hn b af p l
  have N64 : Hid ((infC o nw b af p l)[64]? = some (.int .i64 (b : Int))) := n64
  have N65 : Hid ((infC o nw b af p l)[65]? = some (.int .i64 (af : Int))) := n65
  have Ioq : Hid (∀ W, Row W w.heap.size 47 (infC o nw b af p l) → IsB W (some ⟨w.heap.size, 0, none⟩) o) := fun W h => infC_old ho hn b af p l h
  have IN : Hid (∀ W, Row W w.heap.size 47 (infC o nw b af p l) → IsB W (some ⟨w.heap.size, 32, none⟩) nw) := fun W h => infC_new ho hn b af p l h
  have FN1 : Hid (∀ W ao' c', Own w.heap.size W (.slice ao' 69 c') (hd5 ++ o ++ nw) → Calls Tryd.prog 22 #[.slice ao' 69 c', .int .i64 (b : Int)] W (PutP w.heap.size ao' W (69 + 4) (hd5 ++ o ++ nw ++ le4 b))) := fun W ao' c' h => cputn_any w.heap.size ao' 69 c' _ b W h (by omega) hb
  have FN2 : Hid (∀ W ao' c', Own w.heap.size W (.slice ao' (69 + 4) c') (hd5 ++ o ++ nw ++ le4 b) → Calls Tryd.prog 22 #[.slice ao' (69 + 4) c', .int .i64 (af : Int)] W (PutP w.heap.size ao' W (69 + 8) (hd5 ++ o ++ nw ++ le4 b ++ le4 af))) := fun W ao' c' h => cputn_any w.heap.size ao' (69 + 4) c' _ af W h (by omega) ha
  have HE : Hid (∀ ao' c' W, Own w.heap.size W (.slice ao' (69 + 8) c') (hd5 ++ o ++ nw ++ le4 b ++ le4 af) → Below w.heap.size w W → HeadP w (headB o nw b af) (.returned (.slice ao' 77 c')) W) := fun ao' c' W h1 h2 => by
    have e1 : headB o nw b af = hd5 ++ o ++ nw ++ le4 b ++ le4 af := by simp [headB]
    have e2 : (headB o nw b af).length = 77 := headB_len ho hn b af
    unfold HeadP
    rw [e2, e1]
    exact ⟨ao', c', rfl, h1, h2⟩
  clear r1 b1 n64 n65 ho hn hb ha
  generalize infC o nw b af p l = IC at *
  generalize headB o nw b af = HBB at *
  go_enter Tryd.func13, Tryd.ntmps13
  go_upto_region 3 with (first
    | (have hz := hW0; clear hz; refine wpList_at25 hW0 ?_; clear hW0)
    | (have hz := hW1; clear hz; refine wpList_at25 hW1 ?_; clear hW1 kc)
    | (have hz := i1; clear hz; at_builtin; refine wpList_append_full25 rfl (.tmp 5) (.tmp 7) rfl W0.heap.size 5 hd5 rfl rfl i1.out w.heap.size 0 32 32 o rfl HOL.out.1 (Ioq.out _ R1.out) (by omega) (by omega) ?_; intro ao2 c2 w2 ho2 hb2; have H2 : Hid (Own w.heap.size w2 (.slice ao2 37 c2) (hd5 ++ o) ∧ Below w.heap.size w w2 ∧ Row w2 w.heap.size 47 IC) := ⟨own_le ho2 B1.out.size, B1.out.trans (hb2.mono B1.out.size), R1.out.below hb2 R1.out.lt⟩; clear i1 ho2 hb2 R1 B1 Ioq)
    | (have hz := H2; clear hz; at_builtin; refine wpList_append_grw rfl (.tmp 9) (.tmp 11) rfl w.heap.size ao2 37 c2 (hd5 ++ o) rfl H2.out.1 w.heap.size 32 32 32 nw rfl HOL.out.2 (IN.out _ H2.out.2.2) (by omega) (by omega) ?_; intro ao3 c3 w3 ho3 hg3; have H3 : Hid (Own w.heap.size w3 (.slice ao3 69 c3) (hd5 ++ o ++ nw) ∧ Below w.heap.size w w3 ∧ Row w3 w.heap.size 47 IC) := ⟨ho3, H2.out.2.1.trans hg3.bel, hg3.row H2.out.2.2 (own_ne_row H2.out.1 H2.out.2.2 (by decide))⟩; clear H2 ho3 hg3 IN))
  try dsimp only [Act.put]
  have HS : Hid (∀ x16 x19 x2, PhW w.heap.size w 47 w.heap.size IC ao3 69 c3 (hd5 ++ o ++ nw) (le4 b) (le4 af) false false false x16 x19 x2 w3.drew) := fun x16 x19 x2 =>
    ⟨fun e => (by cases e), H3.out.2.2.drew, fun _ => ⟨H3.out.1, H3.out.2.1.drew⟩, fun e => (by cases e), fun e => (by cases e), fun e => (by cases e)⟩
  clear H3
  refine wp_region_inv (IPH3 w3 w w3 b af ao3 c3 (hd5 ++ o ++ nw) [] IC _ _ _ _ _ _ _ _ _ _ _ _) (by kernel_rfl) (by kernel_rfl) ⟨_, _, _, _, _, _, _, _, rfl, ⟨HS.out _ _ _, fun k => (by cases k), fun k => (by cases k), fun k => (by cases k), fun k => (by cases k), fun k => (by cases k)⟩⟩ ?_ ?_
  · refine .cons ?_ (.cons ?_ (.cons ?_ (.cons ?_ (.cons ?_ (.cons ?_ (.cons ?_ (.cons ?_ .nil)))))))
    all_goals (refine PH3.step ?_; intro x13 x14 x15 x16 x17 x18 x19 x2 L W hI hL hd K hK)
    · rw [if_pos (by rfl)]
      go_simp
      exact hK.out _ _ ⟨_, _, _, _, _, _, _, _, rfl, hI.s0⟩
    · rw [if_pos (by rfl)]
      go_simp
      exact hK.out _ _ ⟨_, _, _, _, _, _, _, _, rfl, hI.s1⟩
    · have hx1 := hI.p1 (hd 1 (by decide))
      subst hx1
      rw [if_pos (by rfl)]
      have hc := hI.x.box.cell 64 _ N64.out
      go_simp
      exact hK.out _ _ ⟨_, _, _, _, _, _, _, _, rfl, hI.s2⟩
    · have hx0 := hI.p0 (hd 0 (by decide))
      subst hx0
      have hx2 := hI.p2 (hd 2 (by decide))
      subst hx2
      rw [if_pos (by rfl)]
      go_simp
      obtain ⟨o7, g7⟩ := hI.x.p0 hL
      refine (FN1.out _ _ _ o7).mono ?_
      rintro e W2 ⟨ao2, c2, rfl, ho2, hg2⟩
      go_simp
      have hX := hI.x.s3 hL ho2 (g7.trans hg2.bel) (hg2.row hI.x.box (own_ne_row o7 hI.x.box (by decide)))
      exact hK.out _ _ ⟨_, _, _, _, _, _, _, _, rfl, hI.s3 hX⟩
    · rw [if_pos (by rfl)]
      go_simp
      exact hK.out _ _ ⟨_, _, _, _, _, _, _, _, rfl, hI.s4⟩
    · have hx4 := hI.p4 (hd 4 (by decide))
      subst hx4
      rw [if_pos (by rfl)]
      have hc := hI.x.box.cell 65 _ N65.out
      go_simp
      exact hK.out _ _ ⟨_, _, _, _, _, _, _, _, rfl, hI.s5⟩
    · have hx5 := hI.p5 (hd 5 (by decide))
      subst hx5
      rw [if_pos (by rfl)]
      go_simp
      obtain ⟨ao7, c7, u7, o7, g7⟩ := hI.x.p3 (hd 3 (by decide)) hL
      subst u7
      refine (FN2.out _ _ _ o7).mono ?_
      rintro e W2 ⟨ao2, c2, rfl, ho2, hg2⟩
      go_simp
      have hX := hI.x.s6 (hd 3 (by decide)) hL ho2 (g7.trans hg2.bel) (hg2.row hI.x.box (own_ne_row o7 hI.x.box (by decide)))
      exact hK.out _ _ ⟨_, _, _, _, _, _, _, _, rfl, hI.s6 hX⟩
    · rw [if_pos (by rfl)]
      go_simp
      have hX := hI.x.s7 (hd 6 (by decide))
      exact hK.out _ _ ⟨_, _, _, _, _, _, _, _, rfl, hI.s7 hX⟩
  · refine PH3.ends ?_; intro x13 x14 x15 x16 x17 x18 x19 x2 L W hall hI
    have hx0 := hI.p0 (hall 0 (by decide))
    subst hx0
    have hx1 := hI.p1 (hall 1 (by decide))
    subst hx1
    have hx2 := hI.p2 (hall 2 (by decide))
    subst hx2
    have hx4 := hI.p4 (hall 4 (by decide))
    subst hx4
    have hx5 := hI.p5 (hall 5 (by decide))
    subst hx5
    have hXe := hI.x
    rw [hall 3 (by decide)] at hXe
    rw [hall 6 (by decide)] at hXe
    rw [hall 7 (by decide)] at hXe
    clear hI hall
    try dsimp only
    obtain ⟨_, e4⟩ := hXe.p7 rfl
    subst e4
    obtain ⟨ao4, c4, u4, o4, g4⟩ := hXe.p6 rfl
    subst u4
    have H4 := HE.out _ _ _ o4 g4
    have H4 : Hid (HeadP w HBB (.returned (.slice ao4 77 c4)) W) := H4
    clear hXe o4 g4 HS HE FN1 FN2
    go_wp2
    go_ret
    exact H4.out
end Go.Proofs.YtdfbfheceobboaaDoor
