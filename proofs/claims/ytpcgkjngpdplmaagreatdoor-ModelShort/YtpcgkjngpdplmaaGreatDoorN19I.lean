
import Derived.Test.YtpcgkjngpdplmaaGreatDoorN19H
/-! The code's model: what was staged, in memory; started, target. (Printed by tools/genn19.py.) -/
namespace Go.Proofs.YtpcgkjngpdplmaaGreatDoor
open Go.RowKit Go.Maps
set_option linter.unusedVariables false
set_option linter.unusedSimpArgs false

def sgC (c : Cfg) (l : Secs) (B : List (List By)) (k : Nat) : List Value := fdC (stg c l B k).1 ++ (stg c l B k).2.map B8
/-- The model's last number, size and staged bytes, in memory. -/
structure SgV (W : World) (mg so cap : Nat) (c : Cfg) (l : Secs) (B : List (List By)) : Prop where
  la : W.cell? ⟨mg, 8, none⟩ = some (.int .i64 c.last)
  sz : W.cell? ⟨mg, 9, none⟩ = some (.int .i64 c.size19)
  sl : W.cell? ⟨mg, 10, none⟩ = some (.slice (some ⟨so, 0, none⟩) (B.length + 1) cap)
  st : ∀ k, k ≤ B.length → W.rangeAt so (k * 37) (sgC c l B k)
theorem SgV.lt {W : World} {mg so cap : Nat} {c : Cfg} {l : Secs} {B : List (List By)} (h : SgV W mg so cap c l B) : mg < W.heap.size ∧ so < W.heap.size :=
  ⟨cell_lt h.la, by have := h.st 0 (Nat.zero_le _) 0 _ rfl; exact cell_lt this⟩
theorem SgV.below {W W2 : World} {N mg so cap : Nat} {c : Cfg} {l : Secs} {B : List (List By)} (h : SgV W mg so cap c l B) (hb : Below N W W2) (h1 : mg < N) (h2 : so < N) : SgV W2 mg so cap c l B :=
  ⟨(hb.cell h1).trans h.la, (hb.cell h1).trans h.sz, (hb.cell h1).trans h.sl, fun k hk j v hv => (hb.cell (p := ⟨so, k * 37 + j, none⟩) h2).trans (h.st k hk j v hv)⟩
theorem SgV.keep {W W2 : World} {mg so cap : Nat} {c : Cfg} {l : Secs} {B : List (List By)} (h : SgV W mg so cap c l B) (hb : Below W.heap.size W W2) : SgV W2 mg so cap c l B := h.below hb h.lt.1 h.lt.2
theorem stg_hash (c : Cfg) (l : Secs) (B : List (List By)) (k : Nat) : (stg c l B k).2.length = 32 := by
  unfold stg
  split
  · simp
  · exact sha_len _

structure SW (w : World) (s : List Value) (W : World) : Prop where
  bel : Below w.heap.size w W
  s : Row W w.heap.size 67 s
theorem SW.keep {w W W2 : World} {S : List Value} (h : SW w S W) (hb : Below W.heap.size W W2) : SW w S W2 := ⟨h.bel.trans (hb.mono h.bel.size), h.s.below hb h.s.lt⟩
theorem SW.drew {w W : World} {S : List Value} (h : SW w S W) : SW w S W.drew := ⟨h.bel.drew, h.s.drew⟩
def startedV (r : Option Nat) : Value := match r with | some n => .tuple #[.int .i8 (n : Int), .int .i64 0] | none => .tuple #[.int .i8 0, .int .i64 17]
theorem step_load_rng {ops : Array Oper} {op : Oper} {a : Act} {w : World} {K : Act → World → Prop} {Q : Exit → Act → World → Prop} {X : Prop} (hw : Region.wanted op (yielded ops a.tmps) = true) (ty : TypeId) (x : Operand) (ho : op.op = .load ty x)
    (g o n : Nat) (cs : List Value) (hr : w.rangeAt g o cs) (hx : a.eval x = .pointer (some ⟨g, o, none⟩)) (d : TypeDesc) (hn : cs.length = n)
    (hu : Tryz.prog.underlying ty = some d) (hd : d.isRow = true) (hi : (Tryz.prog.info? ty).map (·.size) = some n)
    (h : K (a.put op.dst (.agg cs.toArray)) w) : if Region.wanted op (yielded ops a.tmps) = true then Oper.wp Tryz.prog op a w K Q else X := by
  rw [if_pos hw]
  exact wp_load_mid ty x ho g o hx _ d hr hu hd (by rw [hn]; exact hi) h
theorem range_take {w : World} {g o : Nat} {cs : List Value} (h : w.rangeAt g o cs) (n : Nat) : w.rangeAt g o (cs.take n) := fun j v hv => h j v (by rw [List.getElem?_take] at hv; split at hv; exact hv; cases hv)
structure SA4 (W1 : World) (w : World) (SV FV : List Value) (mg so cap nn li bl : Nat) (E : Int) (L : Nat → Bool) (x17 x18 x19 x20 x21 x22 x23 x24 x25 x26 x27 x28 x29 x30 x31 : Value) (W : World) : Prop where
  x : SW w SV W
  p0 : L 0 = true → x17 = .pointer (some ⟨mg, 0, none⟩)
  p1 : L 1 = true → x18 = .pointer (some ⟨mg, 0, none⟩)
  p2 : L 2 = true → x19 = .pointer (some ⟨mg, 0, none⟩)
  p3 : L 3 = true → x20 = .pointer (some ⟨mg, 10, none⟩)
  p4 : L 4 = true → x21 = .slice (some ⟨so, 0, none⟩) (bl + 1) cap
  p5 : L 5 = true → x22 = .int .i8 (nn : Int)
  p6 : L 6 = true → x23 = .pointer (some ⟨w.heap.size, 9, none⟩)
  p7 : L 7 = true → x24 = .pointer (some ⟨w.heap.size, 9 + nn, none⟩)
  p8 : L 8 = true → x25 = .int .i64 (li : Int)
  p9 : L 9 = true → x26 = .pointer (some ⟨so, li * 37, none⟩)
  p10 : L 10 = true → x27 = .pointer (some ⟨so, li * 37, none⟩)
  p11 : L 11 = true → x28 = .agg FV.toArray
  p12 : L 12 = true → x29 = .agg SV.toArray
  p13 : L 13 = true → x30 = .int .i64 E
  p14 : L 14 = true → x31 = .bool (decide (E = 0))
section
variable {W1 : World} {w : World} {SV FV : List Value} {mg so cap nn li bl : Nat} {E : Int} {L : Nat → Bool} {x17 x18 x19 x20 x21 x22 x23 x24 x25 x26 x27 x28 x29 x30 x31 : Value} {W W2 : World}
theorem SA4.s0 (h : SA4 W1 w SV FV mg so cap nn li bl E L x17 x18 x19 x20 x21 x22 x23 x24 x25 x26 x27 x28 x29 x30 x31 W) : SA4 W1 w SV FV mg so cap nn li bl E (upd L 0) (.pointer (some ⟨mg, 0, none⟩)) x18 x19 x20 x21 x22 x23 x24 x25 x26 x27 x28 x29 x30 x31 W :=
  ⟨h.x, fun _ => rfl, h.p1, h.p2, h.p3, h.p4, h.p5, h.p6, h.p7, h.p8, h.p9, h.p10, h.p11, h.p12, h.p13, h.p14⟩
theorem SA4.s1 (h : SA4 W1 w SV FV mg so cap nn li bl E L x17 x18 x19 x20 x21 x22 x23 x24 x25 x26 x27 x28 x29 x30 x31 W) : SA4 W1 w SV FV mg so cap nn li bl E (upd L 1) x17 (.pointer (some ⟨mg, 0, none⟩)) x19 x20 x21 x22 x23 x24 x25 x26 x27 x28 x29 x30 x31 W :=
  ⟨h.x, h.p0, fun _ => rfl, h.p2, h.p3, h.p4, h.p5, h.p6, h.p7, h.p8, h.p9, h.p10, h.p11, h.p12, h.p13, h.p14⟩
theorem SA4.s2 (h : SA4 W1 w SV FV mg so cap nn li bl E L x17 x18 x19 x20 x21 x22 x23 x24 x25 x26 x27 x28 x29 x30 x31 W) : SA4 W1 w SV FV mg so cap nn li bl E (upd L 2) x17 x18 (.pointer (some ⟨mg, 0, none⟩)) x20 x21 x22 x23 x24 x25 x26 x27 x28 x29 x30 x31 W :=
  ⟨h.x, h.p0, h.p1, fun _ => rfl, h.p3, h.p4, h.p5, h.p6, h.p7, h.p8, h.p9, h.p10, h.p11, h.p12, h.p13, h.p14⟩
theorem SA4.s3 (h : SA4 W1 w SV FV mg so cap nn li bl E L x17 x18 x19 x20 x21 x22 x23 x24 x25 x26 x27 x28 x29 x30 x31 W) : SA4 W1 w SV FV mg so cap nn li bl E (upd L 3) x17 x18 x19 (.pointer (some ⟨mg, 10, none⟩)) x21 x22 x23 x24 x25 x26 x27 x28 x29 x30 x31 W :=
  ⟨h.x, h.p0, h.p1, h.p2, fun _ => rfl, h.p4, h.p5, h.p6, h.p7, h.p8, h.p9, h.p10, h.p11, h.p12, h.p13, h.p14⟩
theorem SA4.s4 (h : SA4 W1 w SV FV mg so cap nn li bl E L x17 x18 x19 x20 x21 x22 x23 x24 x25 x26 x27 x28 x29 x30 x31 W) : SA4 W1 w SV FV mg so cap nn li bl E (upd L 4) x17 x18 x19 x20 (.slice (some ⟨so, 0, none⟩) (bl + 1) cap) x22 x23 x24 x25 x26 x27 x28 x29 x30 x31 W :=
  ⟨h.x, h.p0, h.p1, h.p2, h.p3, fun _ => rfl, h.p5, h.p6, h.p7, h.p8, h.p9, h.p10, h.p11, h.p12, h.p13, h.p14⟩
theorem SA4.s5 (h : SA4 W1 w SV FV mg so cap nn li bl E L x17 x18 x19 x20 x21 x22 x23 x24 x25 x26 x27 x28 x29 x30 x31 W) : SA4 W1 w SV FV mg so cap nn li bl E (upd L 5) x17 x18 x19 x20 x21 (.int .i8 (nn : Int)) x23 x24 x25 x26 x27 x28 x29 x30 x31 W :=
  ⟨h.x, h.p0, h.p1, h.p2, h.p3, h.p4, fun _ => rfl, h.p6, h.p7, h.p8, h.p9, h.p10, h.p11, h.p12, h.p13, h.p14⟩
theorem SA4.s6 (h : SA4 W1 w SV FV mg so cap nn li bl E L x17 x18 x19 x20 x21 x22 x23 x24 x25 x26 x27 x28 x29 x30 x31 W) : SA4 W1 w SV FV mg so cap nn li bl E (upd L 6) x17 x18 x19 x20 x21 x22 (.pointer (some ⟨w.heap.size, 9, none⟩)) x24 x25 x26 x27 x28 x29 x30 x31 W :=
  ⟨h.x, h.p0, h.p1, h.p2, h.p3, h.p4, h.p5, fun _ => rfl, h.p7, h.p8, h.p9, h.p10, h.p11, h.p12, h.p13, h.p14⟩
theorem SA4.s7 (h : SA4 W1 w SV FV mg so cap nn li bl E L x17 x18 x19 x20 x21 x22 x23 x24 x25 x26 x27 x28 x29 x30 x31 W) : SA4 W1 w SV FV mg so cap nn li bl E (upd L 7) x17 x18 x19 x20 x21 x22 x23 (.pointer (some ⟨w.heap.size, 9 + nn, none⟩)) x25 x26 x27 x28 x29 x30 x31 W :=
  ⟨h.x, h.p0, h.p1, h.p2, h.p3, h.p4, h.p5, h.p6, fun _ => rfl, h.p8, h.p9, h.p10, h.p11, h.p12, h.p13, h.p14⟩
theorem SA4.s8 (h : SA4 W1 w SV FV mg so cap nn li bl E L x17 x18 x19 x20 x21 x22 x23 x24 x25 x26 x27 x28 x29 x30 x31 W) : SA4 W1 w SV FV mg so cap nn li bl E (upd L 8) x17 x18 x19 x20 x21 x22 x23 x24 (.int .i64 (li : Int)) x26 x27 x28 x29 x30 x31 W :=
  ⟨h.x, h.p0, h.p1, h.p2, h.p3, h.p4, h.p5, h.p6, h.p7, fun _ => rfl, h.p9, h.p10, h.p11, h.p12, h.p13, h.p14⟩
theorem SA4.s9 (h : SA4 W1 w SV FV mg so cap nn li bl E L x17 x18 x19 x20 x21 x22 x23 x24 x25 x26 x27 x28 x29 x30 x31 W) : SA4 W1 w SV FV mg so cap nn li bl E (upd L 9) x17 x18 x19 x20 x21 x22 x23 x24 x25 (.pointer (some ⟨so, li * 37, none⟩)) x27 x28 x29 x30 x31 W :=
  ⟨h.x, h.p0, h.p1, h.p2, h.p3, h.p4, h.p5, h.p6, h.p7, h.p8, fun _ => rfl, h.p10, h.p11, h.p12, h.p13, h.p14⟩
theorem SA4.s10 (h : SA4 W1 w SV FV mg so cap nn li bl E L x17 x18 x19 x20 x21 x22 x23 x24 x25 x26 x27 x28 x29 x30 x31 W) : SA4 W1 w SV FV mg so cap nn li bl E (upd L 10) x17 x18 x19 x20 x21 x22 x23 x24 x25 x26 (.pointer (some ⟨so, li * 37, none⟩)) x28 x29 x30 x31 W :=
  ⟨h.x, h.p0, h.p1, h.p2, h.p3, h.p4, h.p5, h.p6, h.p7, h.p8, h.p9, fun _ => rfl, h.p11, h.p12, h.p13, h.p14⟩
theorem SA4.s11 (h : SA4 W1 w SV FV mg so cap nn li bl E L x17 x18 x19 x20 x21 x22 x23 x24 x25 x26 x27 x28 x29 x30 x31 W) : SA4 W1 w SV FV mg so cap nn li bl E (upd L 11) x17 x18 x19 x20 x21 x22 x23 x24 x25 x26 x27 (.agg FV.toArray) x29 x30 x31 W :=
  ⟨h.x, h.p0, h.p1, h.p2, h.p3, h.p4, h.p5, h.p6, h.p7, h.p8, h.p9, h.p10, fun _ => rfl, h.p12, h.p13, h.p14⟩
theorem SA4.s12 (h : SA4 W1 w SV FV mg so cap nn li bl E L x17 x18 x19 x20 x21 x22 x23 x24 x25 x26 x27 x28 x29 x30 x31 W) : SA4 W1 w SV FV mg so cap nn li bl E (upd L 12) x17 x18 x19 x20 x21 x22 x23 x24 x25 x26 x27 x28 (.agg SV.toArray) x30 x31 W :=
  ⟨h.x, h.p0, h.p1, h.p2, h.p3, h.p4, h.p5, h.p6, h.p7, h.p8, h.p9, h.p10, h.p11, fun _ => rfl, h.p13, h.p14⟩
theorem SA4.s13 (h : SA4 W1 w SV FV mg so cap nn li bl E L x17 x18 x19 x20 x21 x22 x23 x24 x25 x26 x27 x28 x29 x30 x31 W) (hX : SW w SV W2) : SA4 W1 w SV FV mg so cap nn li bl E (upd L 13) x17 x18 x19 x20 x21 x22 x23 x24 x25 x26 x27 x28 x29 (.int .i64 E) x31 W2 :=
  ⟨hX, h.p0, h.p1, h.p2, h.p3, h.p4, h.p5, h.p6, h.p7, h.p8, h.p9, h.p10, h.p11, h.p12, fun _ => rfl, h.p14⟩
theorem SA4.s14 (h : SA4 W1 w SV FV mg so cap nn li bl E L x17 x18 x19 x20 x21 x22 x23 x24 x25 x26 x27 x28 x29 x30 x31 W) : SA4 W1 w SV FV mg so cap nn li bl E (upd L 14) x17 x18 x19 x20 x21 x22 x23 x24 x25 x26 x27 x28 x29 x30 (.bool (decide (E = 0))) W :=
  ⟨h.x, h.p0, h.p1, h.p2, h.p3, h.p4, h.p5, h.p6, h.p7, h.p8, h.p9, h.p10, h.p11, h.p12, h.p13, fun _ => rfl⟩
end
@[reducible] def ISA4 (W1 : World) (w : World) (SV FV : List Value) (mg so cap nn li bl : Nat) (E : Int) (y0 y1 y2 y3 y4 y5 y6 y7 y8 y9 y10 y11 y12 y13 y14 y15 y16 y32 y33 : Value) : (Nat → Bool) → Act → World → Prop := fun L a W => ∃ x17 x18 x19 x20 x21 x22 x23 x24 x25 x26 x27 x28 x29 x30 x31, a = ⟨#[y0, y1, y2, y3, y4, y5, y6, y7, y8, y9, y10, y11, y12, y13, y14, y15, y16, x17, x18, x19, x20, x21, x22, x23, x24, x25, x26, x27, x28, x29, x30, x31, y32, y33], []⟩ ∧ SA4 W1 w SV FV mg so cap nn li bl E L x17 x18 x19 x20 x21 x22 x23 x24 x25 x26 x27 x28 x29 x30 x31 W
theorem SA4.step {W1 : World} {w : World} {SV FV : List Value} {mg so cap nn li bl : Nat} {E : Int} {y0 y1 y2 y3 y4 y5 y6 y7 y8 y9 y10 y11 y12 y13 y14 y15 y16 y32 y33 : Value} {P : Program} {ops : Array Oper} {Q : Exit → Act → World → Prop} {i : Nat} {o : Oper} (hq : ∀ x17 x18 x19 x20 x21 x22 x23 x24 x25 x26 x27 x28 x29 x30 x31 (L : Nat → Bool) (W : World), SA4 W1 w SV FV mg so cap nn li bl E L x17 x18 x19 x20 x21 x22 x23 x24 x25 x26 x27 x28 x29 x30 x31 W → L i = false → (∀ j ∈ onesOf o, L j = true) → ∀ K : Act → World → Prop, Shut (∀ a' w', ISA4 W1 w SV FV mg so cap nn li bl E y0 y1 y2 y3 y4 y5 y6 y7 y8 y9 y10 y11 y12 y13 y14 y15 y16 y32 y33 (upd L i) a' w' → K a' w') → if Region.wanted o (yielded ops (⟨#[y0, y1, y2, y3, y4, y5, y6, y7, y8, y9, y10, y11, y12, y13, y14, y15, y16, x17, x18, x19, x20, x21, x22, x23, x24, x25, x26, x27, x28, x29, x30, x31, y32, y33], []⟩ : Act).tmps) = true then Oper.wp P o ⟨#[y0, y1, y2, y3, y4, y5, y6, y7, y8, y9, y10, y11, y12, y13, y14, y15, y16, x17, x18, x19, x20, x21, x22, x23, x24, x25, x26, x27, x28, x29, x30, x31, y32, y33], []⟩ W K Q else K ((⟨#[y0, y1, y2, y3, y4, y5, y6, y7, y8, y9, y10, y11, y12, y13, y14, y15, y16, x17, x18, x19, x20, x21, x22, x23, x24, x25, x26, x27, x28, x29, x30, x31, y32, y33], []⟩ : Act).put o.dst undef) W) : StepI P ops (ISA4 W1 w SV FV mg so cap nn li bl E y0 y1 y2 y3 y4 y5 y6 y7 y8 y9 y10 y11 y12 y13 y14 y15 y16 y32 y33) Q i o := by
  rintro L a W ⟨x17, x18, x19, x20, x21, x22, x23, x24, x25, x26, x27, x28, x29, x30, x31, rfl, h⟩
  exact hq _ _ _ _ _ _ _ _ _ _ _ _ _ _ _ _ _ h
theorem SA4.ends {W1 : World} {w : World} {SV FV : List Value} {mg so cap nn li bl : Nat} {E : Int} {y0 y1 y2 y3 y4 y5 y6 y7 y8 y9 y10 y11 y12 y13 y14 y15 y16 y32 y33 : Value} {mm_ : Nat} {Q : Exit → Act → World → Prop} (hq : ∀ x17 x18 x19 x20 x21 x22 x23 x24 x25 x26 x27 x28 x29 x30 x31 (L : Nat → Bool) (W : World), (∀ j, j < mm_ → L j = true) → SA4 W1 w SV FV mg so cap nn li bl E L x17 x18 x19 x20 x21 x22 x23 x24 x25 x26 x27 x28 x29 x30 x31 W → Q .normal ⟨#[y0, y1, y2, y3, y4, y5, y6, y7, y8, y9, y10, y11, y12, y13, y14, y15, y16, x17, x18, x19, x20, x21, x22, x23, x24, x25, x26, x27, x28, x29, x30, x31, y32, y33], []⟩ W) : ∀ L a' w', (∀ j, j < mm_ → L j = true) → ISA4 W1 w SV FV mg so cap nn li bl E y0 y1 y2 y3 y4 y5 y6 y7 y8 y9 y10 y11 y12 y13 y14 y15 y16 y32 y33 L a' w' → Q .normal a' w' := by
  rintro L a W hall ⟨x17, x18, x19, x20, x21, x22, x23, x24, x25, x26, x27, x28, x29, x30, x31, rfl, h⟩
  exact hq _ _ _ _ _ _ _ _ _ _ _ _ _ _ _ _ _ hall h
set_option maxHeartbeats 4000000 in
set_option maxRecDepth 100000 in
theorem moStarted_any (mg so cap : Nat) (c : Cfg) (hs8 : c.slots ≤ 8) (hk64 : c.keys ≤ 64) (l : Secs) (B : List (List By)) (hB : B.length ≤ 4611686018427387903) (s : CS) (ho : s.Ok c (B.length + 1)) (hs : s.Wf) (w : World) (h : SgV w mg so cap c l B) :
    Calls Tryz.prog 78 #[.pointer (some ⟨mg, 0, none⟩), .agg (csC s).toArray] w fun e w' => e = .returned (startedV (startedC c l B s)) ∧ Below w.heap.size w w' := by
  obtain ⟨w1, hw1⟩ : ∃ w1, w1 = w.alloc (.cells (csC s).toArray 67) := ⟨_, rfl⟩
  have K1 : SW w (csC s) w1 := by rw [hw1]; exact ⟨(Below.refl _ _).alloc (Nat.le_refl _) _, Row.at _ _ _ _ _ rfl rfl⟩
  obtain ⟨n1, hn1⟩ : ∃ n1, n1 = 1 - s.first := ⟨_, rfl⟩
  have hf := hs.first
  have c6 : w1.cell? ⟨w.heap.size, 16, none⟩ = some (.int .i8 (s.first : Int)) := K1.s.cell 16 _ (csC_at hs.len 8)
  have z8 : IntKind.i8.wrap (1 - (s.first : Int)) = (n1 : Int) := by rw [i8_in _ (by omega) (by omega)]; omega
  have SG : Hid (∀ W, Below w.heap.size w W → SgV W mg so cap c l B) := fun W hb => h.keep hb
  have CK : Hid (∀ (n : Nat) W, n ≤ 1 → Below w.heap.size w W → Calls Tryz.prog 74 #[.pointer (some ⟨mg, 0, none⟩), .agg (fdC (stg c l B (s.lies n)).1).toArray, .agg (csC s).toArray] W fun e w' => e = .returned (.int .i64 (checkC c (stg c l B (s.lies n)).1 s)) ∧ Below W.heap.size W w') := fun n W hn hb => check_any c mg _ s hs (fun e => have q := stg_ok hs8 hk64 B _ e; ⟨q.1, q.2.1⟩) W (SG.out W hb).la
  have HCS : Hid (((csC s).drop 0).take 19 = csC s) := cs_all hs.len
  have LCS : Hid ((csC s).length = 19) := csC_len hs.len
  have LI : Hid (∀ n, n ≤ 1 → s.lies n < B.length + 1 ∧ (csC s)[9 + n]? = some (.int .i64 (s.lies n : Int))) := fun n hn => by
    rcases (by omega : n = 0 ∨ n = 1) with rfl | rfl
    · exact ⟨ho.l0, csC_at hs.len 1⟩
    · exact ⟨ho.l1, csC_at hs.len 2⟩
  have HK1 : Hid (SW w (csC s) w1) := K1
  have HR : Hid (startedC c l B s = if checkC c (stg c l B (s.lies s.first)).1 s = 0 then some s.first else if checkC c (stg c l B (s.lies n1)).1 s = 0 then some n1 else none) := by rw [hn1]; rfl
  have hm1 : n1 ≤ 1 := by omega
  clear K1 hs ho hn1 h hs8 hk64
  generalize hn0 : s.first = n0 at *
  clear hn0
  obtain ⟨R, HP⟩ : ∃ R, Hid (R = startedC c l B s) := ⟨_, rfl⟩
  rw [← HP.out]
  rw [HR.out] at HP
  clear HR
  go_enter Tryz.func78, Tryz.ntmps78
  go_wp2_with (rw [← hw1]; have hz := hw1; clear hz hw1)
  clear c6
  go_loopw [14] (fun iv wr => ∃ t : Nat, t ≤ 2 ∧ iv = .int .i64 t ∧ Hid (SW w (csC s) wr) ∧ Hid ((1 ≤ t → ¬ checkC c (stg c l B (s.lies n0)).1 s = 0) ∧ (2 ≤ t → ¬ checkC c (stg c l B (s.lies n1)).1 s = 0))) (fun iv _ => 2 - (intOf iv).toNat)
  case atStart => exact ⟨0, by omega, rfl, HK1, ⟨fun h => by omega, fun h => by omega⟩⟩
  case round =>
    clear HK1
    obtain ⟨t, ht, rfl, HS, HT⟩ := hrel
    by_cases hlt : t < 2
    · have y1 : (t : Int) < 2 := by omega
      have y0 : (0 : Int) ≤ (t : Int) := by omega
      have zt : IntKind.i64.wrap ((t : Int) + 1) = (t : Int) + 1 := i64_in _ (by omega) (by omega)
      obtain ⟨nn, hnn, IX, HN⟩ : ∃ nn : Nat, nn ≤ 1 ∧ (∀ W, (Instr.index 148 (.agg #[.int .i8 (n0 : Int), .int .i8 (n1 : Int)]) (.int .i64 (t : Int))).run Tryz.prog W = .ok (.int .i8 (nn : Int)) W) ∧ Hid ((t = 0 → nn = n0) ∧ (t = 1 → nn = n1)) := by
        rcases (by omega : t = 0 ∨ t = 1) with rfl | rfl
        · exact ⟨n0, hf, fun W => by kernel_rfl, fun _ => rfl, fun h => by omega⟩
        · exact ⟨n1, hm1, fun W => by kernel_rfl, fun h => by omega, fun _ => rfl⟩
      obtain ⟨hl1, hl2⟩ := LI.out nn hnn
      have KL : Hid ((csC s)[9 + nn]? = some (.int .i64 (s.lies nn : Int))) := hl2
      have v0 : (0 : Int) ≤ (nn : Int) := by omega
      have v1 : (nn : Int) < 2 := by omega
      have u0 : (0 : Int) ≤ (s.lies nn : Int) := by omega
      have u1 : (s.lies nn : Int) < ((B.length + 1 : Nat) : Int) := by omega
      have u2 : (s.lies nn : Int) < (B.length : Int) + 1 := by omega
      have RG : Hid (∀ W, Below w.heap.size w W → W.rangeAt so (s.lies nn * 37) (fdC (stg c l B (s.lies nn)).1)) := fun W hb => range_take ((SG.out W hb).st _ (by omega)) 5
      have CK2 : Hid (∀ W, Below w.heap.size w W → _) := fun W hb => CK.out nn W hnn hb
      have EN : Hid ((t = 0 → checkC c (stg c l B (s.lies nn)).1 s = checkC c (stg c l B (s.lies n0)).1 s) ∧ (t = 1 → checkC c (stg c l B (s.lies nn)).1 s = checkC c (stg c l B (s.lies n1)).1 s)) := ⟨fun h => by rw [HN.out.1 h], fun h => by rw [HN.out.2 h]⟩
      clear hl2 LI CK
      have LF : Hid ((fdC (stg c l B (s.lies nn)).1).length = 5) := rfl
      generalize checkC c (stg c l B (s.lies nn)).1 s = E at *
      generalize fdC (stg c l B (s.lies nn)).1 = FV at *
      generalize s.lies nn = li at *
      go_wp2
      refine wp_region_inv (ISA4 w w (csC s) FV mg so cap nn li B.length E _ _ _ _ _ _ _ _ _ _ _ _ _ _ _ _ _ _ _) (by kernel_rfl) (by kernel_rfl) ⟨_, _, _, _, _, _, _, _, _, _, _, _, _, _, _, rfl, ⟨HS.out.drew, fun k => (by cases k), fun k => (by cases k), fun k => (by cases k), fun k => (by cases k), fun k => (by cases k), fun k => (by cases k), fun k => (by cases k), fun k => (by cases k), fun k => (by cases k), fun k => (by cases k), fun k => (by cases k), fun k => (by cases k), fun k => (by cases k), fun k => (by cases k), fun k => (by cases k)⟩⟩ ?_ ?_
      · refine .cons ?_ (.cons ?_ (.cons ?_ (.cons ?_ (.cons ?_ (.cons ?_ (.cons ?_ (.cons ?_ (.cons ?_ (.cons ?_ (.cons ?_ (.cons ?_ (.cons ?_ (.cons ?_ (.cons ?_ .nil))))))))))))))
        all_goals (refine SA4.step ?_; intro x17 x18 x19 x20 x21 x22 x23 x24 x25 x26 x27 x28 x29 x30 x31 L W hI hL hd K hK)
        · rw [if_pos (by rfl)]
          go_simp
          exact hK.out _ _ ⟨_, _, _, _, _, _, _, _, _, _, _, _, _, _, _, rfl, hI.s0⟩
        · rw [if_pos (by rfl)]
          go_simp
          exact hK.out _ _ ⟨_, _, _, _, _, _, _, _, _, _, _, _, _, _, _, rfl, hI.s1⟩
        · have hx1 := hI.p1 (hd 1 (by decide))
          subst hx1
          rw [if_pos (by rfl)]
          go_simp
          exact hK.out _ _ ⟨_, _, _, _, _, _, _, _, _, _, _, _, _, _, _, rfl, hI.s2⟩
        · have hx2 := hI.p2 (hd 2 (by decide))
          subst hx2
          rw [if_pos (by rfl)]
          go_simp
          exact hK.out _ _ ⟨_, _, _, _, _, _, _, _, _, _, _, _, _, _, _, rfl, hI.s3⟩
        · have hx3 := hI.p3 (hd 3 (by decide))
          subst hx3
          rw [if_pos (by rfl)]
          have hc := (SG.out _ hI.x.bel).sl
          go_simp
          exact hK.out _ _ ⟨_, _, _, _, _, _, _, _, _, _, _, _, _, _, _, rfl, hI.s4⟩
        · rw [if_pos (by rfl)]
          go_simp
          exact hK.out _ _ ⟨_, _, _, _, _, _, _, _, _, _, _, _, _, _, _, rfl, hI.s5⟩
        · rw [if_pos (by rfl)]
          go_simp
          exact hK.out _ _ ⟨_, _, _, _, _, _, _, _, _, _, _, _, _, _, _, rfl, hI.s6⟩
        · have hx6 := hI.p6 (hd 6 (by decide))
          subst hx6
          have hx5 := hI.p5 (hd 5 (by decide))
          subst hx5
          rw [if_pos (by rfl)]
          go_simp
          exact hK.out _ _ ⟨_, _, _, _, _, _, _, _, _, _, _, _, _, _, _, rfl, hI.s7⟩
        · have hx7 := hI.p7 (hd 7 (by decide))
          subst hx7
          rw [if_pos (by rfl)]
          have hc := hI.x.s.cell (9 + nn) _ KL.out
          go_simp
          exact hK.out _ _ ⟨_, _, _, _, _, _, _, _, _, _, _, _, _, _, _, rfl, hI.s8⟩
        · have hx4 := hI.p4 (hd 4 (by decide))
          subst hx4
          have hx8 := hI.p8 (hd 8 (by decide))
          subst hx8
          rw [if_pos (by rfl)]
          go_simp
          exact hK.out _ _ ⟨_, _, _, _, _, _, _, _, _, _, _, _, _, _, _, rfl, hI.s9⟩
        · have hx9 := hI.p9 (hd 9 (by decide))
          subst hx9
          rw [if_pos (by rfl)]
          go_simp
          exact hK.out _ _ ⟨_, _, _, _, _, _, _, _, _, _, _, _, _, _, _, rfl, hI.s10⟩
        · have hx10 := hI.p10 (hd 10 (by decide))
          subst hx10
          refine step_load_rng (by rfl) 89 _ rfl so (li * 37) 5 FV (RG.out _ hI.x.bel) rfl _ LF.out Tryz.underlying89 rfl (by kernel_rfl) ?_
          exact hK.out _ _ ⟨_, _, _, _, _, _, _, _, _, _, _, _, _, _, _, rfl, hI.s11⟩
        · refine step_load_part (by rfl) 67 _ rfl (w.heap.size) 0 67 19 (csC s) hI.x.s rfl _ (csC s) HCS.out LCS.out Tryz.underlying67 rfl (by kernel_rfl) ?_
          exact hK.out _ _ ⟨_, _, _, _, _, _, _, _, _, _, _, _, _, _, _, rfl, hI.s12⟩
        · have hx0 := hI.p0 (hd 0 (by decide))
          subst hx0
          have hx11 := hI.p11 (hd 11 (by decide))
          subst hx11
          have hx12 := hI.p12 (hd 12 (by decide))
          subst hx12
          rw [if_pos (by rfl)]
          go_simp
          refine (CK2.out _ hI.x.bel).mono ?_
          rintro e W2 ⟨rfl, hb3⟩
          go_simp
          have hX := hI.x.keep hb3
          exact hK.out _ _ ⟨_, _, _, _, _, _, _, _, _, _, _, _, _, _, _, rfl, hI.s13 hX⟩
        · have hx13 := hI.p13 (hd 13 (by decide))
          subst hx13
          rw [if_pos (by rfl)]
          go_simp
          exact hK.out _ _ ⟨_, _, _, _, _, _, _, _, _, _, _, _, _, _, _, rfl, hI.s14⟩
      · refine SA4.ends ?_; intro x17 x18 x19 x20 x21 x22 x23 x24 x25 x26 x27 x28 x29 x30 x31 L W hall hI
        have hx0 := hI.p0 (hall 0 (by decide))
        subst hx0
        have hx1 := hI.p1 (hall 1 (by decide))
        subst hx1
        have hx2 := hI.p2 (hall 2 (by decide))
        subst hx2
        have hx3 := hI.p3 (hall 3 (by decide))
        subst hx3
        have hx4 := hI.p4 (hall 4 (by decide))
        subst hx4
        have hx5 := hI.p5 (hall 5 (by decide))
        subst hx5
        have hx6 := hI.p6 (hall 6 (by decide))
        subst hx6
        have hx7 := hI.p7 (hall 7 (by decide))
        subst hx7
        have hx8 := hI.p8 (hall 8 (by decide))
        subst hx8
        have hx9 := hI.p9 (hall 9 (by decide))
        subst hx9
        have hx10 := hI.p10 (hall 10 (by decide))
        subst hx10
        have hx11 := hI.p11 (hall 11 (by decide))
        subst hx11
        have hx12 := hI.p12 (hall 12 (by decide))
        subst hx12
        have hx13 := hI.p13 (hall 13 (by decide))
        subst hx13
        have hx14 := hI.p14 (hall 14 (by decide))
        subst hx14
        have hXe := hI.x
        clear hI hall
        try dsimp only
        by_cases hE : E = 0
        · have HQ : Hid (R = some nn) := by
            have := HP.out
            rcases (by omega : t = 0 ∨ t = 1) with h0 | h0
            · rw [HN.out.1 h0]
              rw [if_pos (by rw [← EN.out.1 h0]; exact hE)] at this
              exact this
            · rw [HN.out.2 h0]
              rw [if_neg (HT.out.1 (by omega)), if_pos (by rw [← EN.out.2 h0]; exact hE)] at this
              exact this
          subst hE
          clear HP EN HN HT
          go_wp2
          go_ret2
          exact ⟨by rw [HQ.out]; rfl, hXe.bel⟩
        · have HT2 : Hid ((1 ≤ t + 1 → ¬ checkC c (stg c l B (s.lies n0)).1 s = 0) ∧ (2 ≤ t + 1 → ¬ checkC c (stg c l B (s.lies n1)).1 s = 0)) := by
            refine ⟨fun _ => ?_, fun h2 => ?_⟩
            · rcases (by omega : t = 0 ∨ t = 1) with h0 | h0
              · rw [← EN.out.1 h0]; exact hE
              · exact HT.out.1 (by omega)
            · rw [← EN.out.2 (by omega)]; exact hE
          have hXf : Hid (SW w (csC s) W) := hXe
          clear EN HN HT HS
          go_wp2
          exact ⟨⟨t + 1, by omega, by go_num, hXf, HT2⟩, by simp [intOf]; omega⟩
    · obtain rfl : t = 2 := by omega
      have HQ : Hid (R = none) := by have := HP.out; rw [if_neg (HT.out.1 (by omega)), if_neg (HT.out.2 (by omega))] at this; exact this
      clear HP
      go_wp2
      go_ret2
      exact ⟨by rw [HQ.out]; rfl, HS.out.bel⟩
end Go.Proofs.YtpcgkjngpdplmaaGreatDoor
