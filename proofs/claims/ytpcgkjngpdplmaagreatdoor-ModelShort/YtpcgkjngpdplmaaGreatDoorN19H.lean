
import Derived.Test.YtpcgkjngpdplmaaGreatDoorN19G
/-! The code's model: check. (Printed by tools/genn19.py.) -/
namespace Go.Proofs.YtpcgkjngpdplmaaGreatDoor
open Go.RowKit Go.Maps
set_option linter.unusedVariables false
set_option linter.unusedSimpArgs false

/-- What was found and a state, in memory. -/
structure KW (w : World) (F S : List Value) (W : World) : Prop where
  bel : Below w.heap.size w W
  f : Row W w.heap.size 89 F
  s : Row W (w.heap.size + 1) 67 S
section
variable {w W W2 : World} {F S : List Value}
theorem KW.keep (h : KW w F S W) (hb : Below W.heap.size W W2) : KW w F S W2 := ⟨h.bel.trans (hb.mono h.bel.size), h.f.below hb h.f.lt, h.s.below hb h.s.lt⟩
theorem KW.drew (h : KW w F S W) : KW w F S W.drew := ⟨h.bel.drew, h.f.drew, h.s.drew⟩
end
structure CK7L (W1 : World) (w : World) (FV SV : List Value) (sl : Nat) (v X : Int) (L : Nat → Bool) (x23 x24 x25 x26 x27 x28 x29 x30 x31 x32 x33 x34 x35 x36 x37 x38 x39 x22 : Value) (W : World) : Prop where
  x : KW w FV SV W
  p0 : L 0 = true → x23 = .pointer (some ⟨w.heap.size, 4, none⟩)
  p1 : L 1 = true → x24 = .int .i64 v
  p2 : L 2 = true → x25 = .pointer (some ⟨w.heap.size, 2, none⟩)
  p3 : L 3 = true → x26 = .int .i64 (sl : Int)
  p4 : L 4 = true → x27 = .pointer (some ⟨w.heap.size + 1, 0, none⟩)
  p5 : L 5 = true → x28 = .pointer (some ⟨w.heap.size + 1, sl, none⟩)
  p6 : L 6 = true → x29 = .int .i64 X
  p7 : L 7 = true → x30 = .bool true
  p8 : L 8 = true → x31 = .bool true
  p16 : L 16 = true → x39 = .bool true
  p17 : L 17 = true → x22 = .bool true
section
variable {W1 : World} {w : World} {FV SV : List Value} {sl : Nat} {v X : Int} {L : Nat → Bool} {x23 x24 x25 x26 x27 x28 x29 x30 x31 x32 x33 x34 x35 x36 x37 x38 x39 x22 : Value} {W W2 : World}
theorem CK7L.s0 (h : CK7L W1 w FV SV sl v X L x23 x24 x25 x26 x27 x28 x29 x30 x31 x32 x33 x34 x35 x36 x37 x38 x39 x22 W) : CK7L W1 w FV SV sl v X (upd L 0) (.pointer (some ⟨w.heap.size, 4, none⟩)) x24 x25 x26 x27 x28 x29 x30 x31 x32 x33 x34 x35 x36 x37 x38 x39 x22 W :=
  ⟨h.x, fun _ => rfl, h.p1, h.p2, h.p3, h.p4, h.p5, h.p6, h.p7, h.p8, h.p16, h.p17⟩
theorem CK7L.s1 (h : CK7L W1 w FV SV sl v X L x23 x24 x25 x26 x27 x28 x29 x30 x31 x32 x33 x34 x35 x36 x37 x38 x39 x22 W) : CK7L W1 w FV SV sl v X (upd L 1) x23 (.int .i64 v) x25 x26 x27 x28 x29 x30 x31 x32 x33 x34 x35 x36 x37 x38 x39 x22 W :=
  ⟨h.x, h.p0, fun _ => rfl, h.p2, h.p3, h.p4, h.p5, h.p6, h.p7, h.p8, h.p16, h.p17⟩
theorem CK7L.s2 (h : CK7L W1 w FV SV sl v X L x23 x24 x25 x26 x27 x28 x29 x30 x31 x32 x33 x34 x35 x36 x37 x38 x39 x22 W) : CK7L W1 w FV SV sl v X (upd L 2) x23 x24 (.pointer (some ⟨w.heap.size, 2, none⟩)) x26 x27 x28 x29 x30 x31 x32 x33 x34 x35 x36 x37 x38 x39 x22 W :=
  ⟨h.x, h.p0, h.p1, fun _ => rfl, h.p3, h.p4, h.p5, h.p6, h.p7, h.p8, h.p16, h.p17⟩
theorem CK7L.s3 (h : CK7L W1 w FV SV sl v X L x23 x24 x25 x26 x27 x28 x29 x30 x31 x32 x33 x34 x35 x36 x37 x38 x39 x22 W) : CK7L W1 w FV SV sl v X (upd L 3) x23 x24 x25 (.int .i64 (sl : Int)) x27 x28 x29 x30 x31 x32 x33 x34 x35 x36 x37 x38 x39 x22 W :=
  ⟨h.x, h.p0, h.p1, h.p2, fun _ => rfl, h.p4, h.p5, h.p6, h.p7, h.p8, h.p16, h.p17⟩
theorem CK7L.s4 (h : CK7L W1 w FV SV sl v X L x23 x24 x25 x26 x27 x28 x29 x30 x31 x32 x33 x34 x35 x36 x37 x38 x39 x22 W) : CK7L W1 w FV SV sl v X (upd L 4) x23 x24 x25 x26 (.pointer (some ⟨w.heap.size + 1, 0, none⟩)) x28 x29 x30 x31 x32 x33 x34 x35 x36 x37 x38 x39 x22 W :=
  ⟨h.x, h.p0, h.p1, h.p2, h.p3, fun _ => rfl, h.p5, h.p6, h.p7, h.p8, h.p16, h.p17⟩
theorem CK7L.s5 (h : CK7L W1 w FV SV sl v X L x23 x24 x25 x26 x27 x28 x29 x30 x31 x32 x33 x34 x35 x36 x37 x38 x39 x22 W) : CK7L W1 w FV SV sl v X (upd L 5) x23 x24 x25 x26 x27 (.pointer (some ⟨w.heap.size + 1, sl, none⟩)) x29 x30 x31 x32 x33 x34 x35 x36 x37 x38 x39 x22 W :=
  ⟨h.x, h.p0, h.p1, h.p2, h.p3, h.p4, fun _ => rfl, h.p6, h.p7, h.p8, h.p16, h.p17⟩
theorem CK7L.s6 (h : CK7L W1 w FV SV sl v X L x23 x24 x25 x26 x27 x28 x29 x30 x31 x32 x33 x34 x35 x36 x37 x38 x39 x22 W) : CK7L W1 w FV SV sl v X (upd L 6) x23 x24 x25 x26 x27 x28 (.int .i64 X) x30 x31 x32 x33 x34 x35 x36 x37 x38 x39 x22 W :=
  ⟨h.x, h.p0, h.p1, h.p2, h.p3, h.p4, h.p5, fun _ => rfl, h.p7, h.p8, h.p16, h.p17⟩
theorem CK7L.s7 (h : CK7L W1 w FV SV sl v X L x23 x24 x25 x26 x27 x28 x29 x30 x31 x32 x33 x34 x35 x36 x37 x38 x39 x22 W) : CK7L W1 w FV SV sl v X (upd L 7) x23 x24 x25 x26 x27 x28 x29 (.bool true) x31 x32 x33 x34 x35 x36 x37 x38 x39 x22 W :=
  ⟨h.x, h.p0, h.p1, h.p2, h.p3, h.p4, h.p5, h.p6, fun _ => rfl, h.p8, h.p16, h.p17⟩
theorem CK7L.s8 (h : CK7L W1 w FV SV sl v X L x23 x24 x25 x26 x27 x28 x29 x30 x31 x32 x33 x34 x35 x36 x37 x38 x39 x22 W) : CK7L W1 w FV SV sl v X (upd L 8) x23 x24 x25 x26 x27 x28 x29 x30 (.bool true) x32 x33 x34 x35 x36 x37 x38 x39 x22 W :=
  ⟨h.x, h.p0, h.p1, h.p2, h.p3, h.p4, h.p5, h.p6, h.p7, fun _ => rfl, h.p16, h.p17⟩
theorem CK7L.s9 (h : CK7L W1 w FV SV sl v X L x23 x24 x25 x26 x27 x28 x29 x30 x31 x32 x33 x34 x35 x36 x37 x38 x39 x22 W) : CK7L W1 w FV SV sl v X (upd L 9) x23 x24 x25 x26 x27 x28 x29 x30 x31 undef x33 x34 x35 x36 x37 x38 x39 x22 W :=
  ⟨h.x, h.p0, h.p1, h.p2, h.p3, h.p4, h.p5, h.p6, h.p7, h.p8, h.p16, h.p17⟩
theorem CK7L.s10 (h : CK7L W1 w FV SV sl v X L x23 x24 x25 x26 x27 x28 x29 x30 x31 x32 x33 x34 x35 x36 x37 x38 x39 x22 W) : CK7L W1 w FV SV sl v X (upd L 10) x23 x24 x25 x26 x27 x28 x29 x30 x31 x32 undef x34 x35 x36 x37 x38 x39 x22 W :=
  ⟨h.x, h.p0, h.p1, h.p2, h.p3, h.p4, h.p5, h.p6, h.p7, h.p8, h.p16, h.p17⟩
theorem CK7L.s11 (h : CK7L W1 w FV SV sl v X L x23 x24 x25 x26 x27 x28 x29 x30 x31 x32 x33 x34 x35 x36 x37 x38 x39 x22 W) : CK7L W1 w FV SV sl v X (upd L 11) x23 x24 x25 x26 x27 x28 x29 x30 x31 x32 x33 undef x35 x36 x37 x38 x39 x22 W :=
  ⟨h.x, h.p0, h.p1, h.p2, h.p3, h.p4, h.p5, h.p6, h.p7, h.p8, h.p16, h.p17⟩
theorem CK7L.s12 (h : CK7L W1 w FV SV sl v X L x23 x24 x25 x26 x27 x28 x29 x30 x31 x32 x33 x34 x35 x36 x37 x38 x39 x22 W) : CK7L W1 w FV SV sl v X (upd L 12) x23 x24 x25 x26 x27 x28 x29 x30 x31 x32 x33 x34 undef x36 x37 x38 x39 x22 W :=
  ⟨h.x, h.p0, h.p1, h.p2, h.p3, h.p4, h.p5, h.p6, h.p7, h.p8, h.p16, h.p17⟩
theorem CK7L.s13 (h : CK7L W1 w FV SV sl v X L x23 x24 x25 x26 x27 x28 x29 x30 x31 x32 x33 x34 x35 x36 x37 x38 x39 x22 W) : CK7L W1 w FV SV sl v X (upd L 13) x23 x24 x25 x26 x27 x28 x29 x30 x31 x32 x33 x34 x35 undef x37 x38 x39 x22 W :=
  ⟨h.x, h.p0, h.p1, h.p2, h.p3, h.p4, h.p5, h.p6, h.p7, h.p8, h.p16, h.p17⟩
theorem CK7L.s14 (h : CK7L W1 w FV SV sl v X L x23 x24 x25 x26 x27 x28 x29 x30 x31 x32 x33 x34 x35 x36 x37 x38 x39 x22 W) : CK7L W1 w FV SV sl v X (upd L 14) x23 x24 x25 x26 x27 x28 x29 x30 x31 x32 x33 x34 x35 x36 undef x38 x39 x22 W :=
  ⟨h.x, h.p0, h.p1, h.p2, h.p3, h.p4, h.p5, h.p6, h.p7, h.p8, h.p16, h.p17⟩
theorem CK7L.s15 (h : CK7L W1 w FV SV sl v X L x23 x24 x25 x26 x27 x28 x29 x30 x31 x32 x33 x34 x35 x36 x37 x38 x39 x22 W) : CK7L W1 w FV SV sl v X (upd L 15) x23 x24 x25 x26 x27 x28 x29 x30 x31 x32 x33 x34 x35 x36 x37 undef x39 x22 W :=
  ⟨h.x, h.p0, h.p1, h.p2, h.p3, h.p4, h.p5, h.p6, h.p7, h.p8, h.p16, h.p17⟩
theorem CK7L.s16 (h : CK7L W1 w FV SV sl v X L x23 x24 x25 x26 x27 x28 x29 x30 x31 x32 x33 x34 x35 x36 x37 x38 x39 x22 W) : CK7L W1 w FV SV sl v X (upd L 16) x23 x24 x25 x26 x27 x28 x29 x30 x31 x32 x33 x34 x35 x36 x37 x38 (.bool true) x22 W :=
  ⟨h.x, h.p0, h.p1, h.p2, h.p3, h.p4, h.p5, h.p6, h.p7, h.p8, fun _ => rfl, h.p17⟩
theorem CK7L.s17 (h : CK7L W1 w FV SV sl v X L x23 x24 x25 x26 x27 x28 x29 x30 x31 x32 x33 x34 x35 x36 x37 x38 x39 x22 W) : CK7L W1 w FV SV sl v X (upd L 17) x23 x24 x25 x26 x27 x28 x29 x30 x31 x32 x33 x34 x35 x36 x37 x38 x39 (.bool true) W :=
  ⟨h.x, h.p0, h.p1, h.p2, h.p3, h.p4, h.p5, h.p6, h.p7, h.p8, h.p16, fun _ => rfl⟩
end
@[reducible] def ICK7L (W1 : World) (w : World) (FV SV : List Value) (sl : Nat) (v X : Int) (y0 y1 y2 y3 y4 y5 y6 y7 y8 y9 y10 y11 y12 y13 y14 y15 y16 y17 y18 y19 y20 y21 : Value) : (Nat → Bool) → Act → World → Prop := fun L a W => ∃ x23 x24 x25 x26 x27 x28 x29 x30 x31 x32 x33 x34 x35 x36 x37 x38 x39 x22, a = ⟨#[y0, y1, y2, y3, y4, y5, y6, y7, y8, y9, y10, y11, y12, y13, y14, y15, y16, y17, y18, y19, y20, y21, x22, x23, x24, x25, x26, x27, x28, x29, x30, x31, x32, x33, x34, x35, x36, x37, x38, x39], []⟩ ∧ CK7L W1 w FV SV sl v X L x23 x24 x25 x26 x27 x28 x29 x30 x31 x32 x33 x34 x35 x36 x37 x38 x39 x22 W
theorem CK7L.step {W1 : World} {w : World} {FV SV : List Value} {sl : Nat} {v X : Int} {y0 y1 y2 y3 y4 y5 y6 y7 y8 y9 y10 y11 y12 y13 y14 y15 y16 y17 y18 y19 y20 y21 : Value} {P : Program} {ops : Array Oper} {Q : Exit → Act → World → Prop} {i : Nat} {o : Oper} (hq : ∀ x23 x24 x25 x26 x27 x28 x29 x30 x31 x32 x33 x34 x35 x36 x37 x38 x39 x22 (L : Nat → Bool) (W : World), CK7L W1 w FV SV sl v X L x23 x24 x25 x26 x27 x28 x29 x30 x31 x32 x33 x34 x35 x36 x37 x38 x39 x22 W → L i = false → (∀ j ∈ onesOf o, L j = true) → ∀ K : Act → World → Prop, Shut (∀ a' w', ICK7L W1 w FV SV sl v X y0 y1 y2 y3 y4 y5 y6 y7 y8 y9 y10 y11 y12 y13 y14 y15 y16 y17 y18 y19 y20 y21 (upd L i) a' w' → K a' w') → if Region.wanted o (yielded ops (⟨#[y0, y1, y2, y3, y4, y5, y6, y7, y8, y9, y10, y11, y12, y13, y14, y15, y16, y17, y18, y19, y20, y21, x22, x23, x24, x25, x26, x27, x28, x29, x30, x31, x32, x33, x34, x35, x36, x37, x38, x39], []⟩ : Act).tmps) = true then Oper.wp P o ⟨#[y0, y1, y2, y3, y4, y5, y6, y7, y8, y9, y10, y11, y12, y13, y14, y15, y16, y17, y18, y19, y20, y21, x22, x23, x24, x25, x26, x27, x28, x29, x30, x31, x32, x33, x34, x35, x36, x37, x38, x39], []⟩ W K Q else K ((⟨#[y0, y1, y2, y3, y4, y5, y6, y7, y8, y9, y10, y11, y12, y13, y14, y15, y16, y17, y18, y19, y20, y21, x22, x23, x24, x25, x26, x27, x28, x29, x30, x31, x32, x33, x34, x35, x36, x37, x38, x39], []⟩ : Act).put o.dst undef) W) : StepI P ops (ICK7L W1 w FV SV sl v X y0 y1 y2 y3 y4 y5 y6 y7 y8 y9 y10 y11 y12 y13 y14 y15 y16 y17 y18 y19 y20 y21) Q i o := by
  rintro L a W ⟨x23, x24, x25, x26, x27, x28, x29, x30, x31, x32, x33, x34, x35, x36, x37, x38, x39, x22, rfl, h⟩
  exact hq _ _ _ _ _ _ _ _ _ _ _ _ _ _ _ _ _ _ _ _ h
theorem CK7L.ends {W1 : World} {w : World} {FV SV : List Value} {sl : Nat} {v X : Int} {y0 y1 y2 y3 y4 y5 y6 y7 y8 y9 y10 y11 y12 y13 y14 y15 y16 y17 y18 y19 y20 y21 : Value} {mm_ : Nat} {Q : Exit → Act → World → Prop} (hq : ∀ x23 x24 x25 x26 x27 x28 x29 x30 x31 x32 x33 x34 x35 x36 x37 x38 x39 x22 (L : Nat → Bool) (W : World), (∀ j, j < mm_ → L j = true) → CK7L W1 w FV SV sl v X L x23 x24 x25 x26 x27 x28 x29 x30 x31 x32 x33 x34 x35 x36 x37 x38 x39 x22 W → Q .normal ⟨#[y0, y1, y2, y3, y4, y5, y6, y7, y8, y9, y10, y11, y12, y13, y14, y15, y16, y17, y18, y19, y20, y21, x22, x23, x24, x25, x26, x27, x28, x29, x30, x31, x32, x33, x34, x35, x36, x37, x38, x39], []⟩ W) : ∀ L a' w', (∀ j, j < mm_ → L j = true) → ICK7L W1 w FV SV sl v X y0 y1 y2 y3 y4 y5 y6 y7 y8 y9 y10 y11 y12 y13 y14 y15 y16 y17 y18 y19 y20 y21 L a' w' → Q .normal a' w' := by
  rintro L a W hall ⟨x23, x24, x25, x26, x27, x28, x29, x30, x31, x32, x33, x34, x35, x36, x37, x38, x39, x22, rfl, h⟩
  exact hq _ _ _ _ _ _ _ _ _ _ _ _ _ _ _ _ _ _ _ _ hall h
structure CK7E (W1 : World) (w : World) (FV SV : List Value) (sl : Nat) (v X : Int) (mg : Nat) (LA : Int) (L : Nat → Bool) (x23 x24 x25 x26 x27 x28 x29 x30 x31 x32 x33 x34 x35 x36 x37 x38 x39 x22 : Value) (W : World) : Prop where
  x : KW w FV SV W
  p0 : L 0 = true → x23 = .pointer (some ⟨w.heap.size, 4, none⟩)
  p1 : L 1 = true → x24 = .int .i64 v
  p2 : L 2 = true → x25 = .pointer (some ⟨w.heap.size, 2, none⟩)
  p3 : L 3 = true → x26 = .int .i64 (sl : Int)
  p4 : L 4 = true → x27 = .pointer (some ⟨w.heap.size + 1, 0, none⟩)
  p5 : L 5 = true → x28 = .pointer (some ⟨w.heap.size + 1, sl, none⟩)
  p6 : L 6 = true → x29 = .int .i64 X
  p7 : L 7 = true → x30 = .bool false
  p8 : L 8 = true → x31 = .bool false
  p9 : L 9 = true → x32 = .pointer (some ⟨w.heap.size, 4, none⟩)
  p10 : L 10 = true → x33 = .int .i64 v
  p11 : L 11 = true → x34 = .pointer (some ⟨mg, 0, none⟩)
  p12 : L 12 = true → x35 = .pointer (some ⟨mg, 0, none⟩)
  p13 : L 13 = true → x36 = .pointer (some ⟨mg, 8, none⟩)
  p14 : L 14 = true → x37 = .int .i64 LA
  p15 : L 15 = true → x38 = .bool (decide (LA < v))
  p16 : L 16 = true → x39 = .bool (decide (LA < v))
  p17 : L 17 = true → x22 = .bool (decide (LA < v))
section
variable {W1 : World} {w : World} {FV SV : List Value} {sl : Nat} {v X : Int} {mg : Nat} {LA : Int} {L : Nat → Bool} {x23 x24 x25 x26 x27 x28 x29 x30 x31 x32 x33 x34 x35 x36 x37 x38 x39 x22 : Value} {W W2 : World}
theorem CK7E.s0 (h : CK7E W1 w FV SV sl v X mg LA L x23 x24 x25 x26 x27 x28 x29 x30 x31 x32 x33 x34 x35 x36 x37 x38 x39 x22 W) : CK7E W1 w FV SV sl v X mg LA (upd L 0) (.pointer (some ⟨w.heap.size, 4, none⟩)) x24 x25 x26 x27 x28 x29 x30 x31 x32 x33 x34 x35 x36 x37 x38 x39 x22 W :=
  ⟨h.x, fun _ => rfl, h.p1, h.p2, h.p3, h.p4, h.p5, h.p6, h.p7, h.p8, h.p9, h.p10, h.p11, h.p12, h.p13, h.p14, h.p15, h.p16, h.p17⟩
theorem CK7E.s1 (h : CK7E W1 w FV SV sl v X mg LA L x23 x24 x25 x26 x27 x28 x29 x30 x31 x32 x33 x34 x35 x36 x37 x38 x39 x22 W) : CK7E W1 w FV SV sl v X mg LA (upd L 1) x23 (.int .i64 v) x25 x26 x27 x28 x29 x30 x31 x32 x33 x34 x35 x36 x37 x38 x39 x22 W :=
  ⟨h.x, h.p0, fun _ => rfl, h.p2, h.p3, h.p4, h.p5, h.p6, h.p7, h.p8, h.p9, h.p10, h.p11, h.p12, h.p13, h.p14, h.p15, h.p16, h.p17⟩
theorem CK7E.s2 (h : CK7E W1 w FV SV sl v X mg LA L x23 x24 x25 x26 x27 x28 x29 x30 x31 x32 x33 x34 x35 x36 x37 x38 x39 x22 W) : CK7E W1 w FV SV sl v X mg LA (upd L 2) x23 x24 (.pointer (some ⟨w.heap.size, 2, none⟩)) x26 x27 x28 x29 x30 x31 x32 x33 x34 x35 x36 x37 x38 x39 x22 W :=
  ⟨h.x, h.p0, h.p1, fun _ => rfl, h.p3, h.p4, h.p5, h.p6, h.p7, h.p8, h.p9, h.p10, h.p11, h.p12, h.p13, h.p14, h.p15, h.p16, h.p17⟩
theorem CK7E.s3 (h : CK7E W1 w FV SV sl v X mg LA L x23 x24 x25 x26 x27 x28 x29 x30 x31 x32 x33 x34 x35 x36 x37 x38 x39 x22 W) : CK7E W1 w FV SV sl v X mg LA (upd L 3) x23 x24 x25 (.int .i64 (sl : Int)) x27 x28 x29 x30 x31 x32 x33 x34 x35 x36 x37 x38 x39 x22 W :=
  ⟨h.x, h.p0, h.p1, h.p2, fun _ => rfl, h.p4, h.p5, h.p6, h.p7, h.p8, h.p9, h.p10, h.p11, h.p12, h.p13, h.p14, h.p15, h.p16, h.p17⟩
theorem CK7E.s4 (h : CK7E W1 w FV SV sl v X mg LA L x23 x24 x25 x26 x27 x28 x29 x30 x31 x32 x33 x34 x35 x36 x37 x38 x39 x22 W) : CK7E W1 w FV SV sl v X mg LA (upd L 4) x23 x24 x25 x26 (.pointer (some ⟨w.heap.size + 1, 0, none⟩)) x28 x29 x30 x31 x32 x33 x34 x35 x36 x37 x38 x39 x22 W :=
  ⟨h.x, h.p0, h.p1, h.p2, h.p3, fun _ => rfl, h.p5, h.p6, h.p7, h.p8, h.p9, h.p10, h.p11, h.p12, h.p13, h.p14, h.p15, h.p16, h.p17⟩
theorem CK7E.s5 (h : CK7E W1 w FV SV sl v X mg LA L x23 x24 x25 x26 x27 x28 x29 x30 x31 x32 x33 x34 x35 x36 x37 x38 x39 x22 W) : CK7E W1 w FV SV sl v X mg LA (upd L 5) x23 x24 x25 x26 x27 (.pointer (some ⟨w.heap.size + 1, sl, none⟩)) x29 x30 x31 x32 x33 x34 x35 x36 x37 x38 x39 x22 W :=
  ⟨h.x, h.p0, h.p1, h.p2, h.p3, h.p4, fun _ => rfl, h.p6, h.p7, h.p8, h.p9, h.p10, h.p11, h.p12, h.p13, h.p14, h.p15, h.p16, h.p17⟩
theorem CK7E.s6 (h : CK7E W1 w FV SV sl v X mg LA L x23 x24 x25 x26 x27 x28 x29 x30 x31 x32 x33 x34 x35 x36 x37 x38 x39 x22 W) : CK7E W1 w FV SV sl v X mg LA (upd L 6) x23 x24 x25 x26 x27 x28 (.int .i64 X) x30 x31 x32 x33 x34 x35 x36 x37 x38 x39 x22 W :=
  ⟨h.x, h.p0, h.p1, h.p2, h.p3, h.p4, h.p5, fun _ => rfl, h.p7, h.p8, h.p9, h.p10, h.p11, h.p12, h.p13, h.p14, h.p15, h.p16, h.p17⟩
theorem CK7E.s7 (h : CK7E W1 w FV SV sl v X mg LA L x23 x24 x25 x26 x27 x28 x29 x30 x31 x32 x33 x34 x35 x36 x37 x38 x39 x22 W) : CK7E W1 w FV SV sl v X mg LA (upd L 7) x23 x24 x25 x26 x27 x28 x29 (.bool false) x31 x32 x33 x34 x35 x36 x37 x38 x39 x22 W :=
  ⟨h.x, h.p0, h.p1, h.p2, h.p3, h.p4, h.p5, h.p6, fun _ => rfl, h.p8, h.p9, h.p10, h.p11, h.p12, h.p13, h.p14, h.p15, h.p16, h.p17⟩
theorem CK7E.s8 (h : CK7E W1 w FV SV sl v X mg LA L x23 x24 x25 x26 x27 x28 x29 x30 x31 x32 x33 x34 x35 x36 x37 x38 x39 x22 W) : CK7E W1 w FV SV sl v X mg LA (upd L 8) x23 x24 x25 x26 x27 x28 x29 x30 (.bool false) x32 x33 x34 x35 x36 x37 x38 x39 x22 W :=
  ⟨h.x, h.p0, h.p1, h.p2, h.p3, h.p4, h.p5, h.p6, h.p7, fun _ => rfl, h.p9, h.p10, h.p11, h.p12, h.p13, h.p14, h.p15, h.p16, h.p17⟩
theorem CK7E.s9 (h : CK7E W1 w FV SV sl v X mg LA L x23 x24 x25 x26 x27 x28 x29 x30 x31 x32 x33 x34 x35 x36 x37 x38 x39 x22 W) : CK7E W1 w FV SV sl v X mg LA (upd L 9) x23 x24 x25 x26 x27 x28 x29 x30 x31 (.pointer (some ⟨w.heap.size, 4, none⟩)) x33 x34 x35 x36 x37 x38 x39 x22 W :=
  ⟨h.x, h.p0, h.p1, h.p2, h.p3, h.p4, h.p5, h.p6, h.p7, h.p8, fun _ => rfl, h.p10, h.p11, h.p12, h.p13, h.p14, h.p15, h.p16, h.p17⟩
theorem CK7E.s10 (h : CK7E W1 w FV SV sl v X mg LA L x23 x24 x25 x26 x27 x28 x29 x30 x31 x32 x33 x34 x35 x36 x37 x38 x39 x22 W) : CK7E W1 w FV SV sl v X mg LA (upd L 10) x23 x24 x25 x26 x27 x28 x29 x30 x31 x32 (.int .i64 v) x34 x35 x36 x37 x38 x39 x22 W :=
  ⟨h.x, h.p0, h.p1, h.p2, h.p3, h.p4, h.p5, h.p6, h.p7, h.p8, h.p9, fun _ => rfl, h.p11, h.p12, h.p13, h.p14, h.p15, h.p16, h.p17⟩
theorem CK7E.s11 (h : CK7E W1 w FV SV sl v X mg LA L x23 x24 x25 x26 x27 x28 x29 x30 x31 x32 x33 x34 x35 x36 x37 x38 x39 x22 W) : CK7E W1 w FV SV sl v X mg LA (upd L 11) x23 x24 x25 x26 x27 x28 x29 x30 x31 x32 x33 (.pointer (some ⟨mg, 0, none⟩)) x35 x36 x37 x38 x39 x22 W :=
  ⟨h.x, h.p0, h.p1, h.p2, h.p3, h.p4, h.p5, h.p6, h.p7, h.p8, h.p9, h.p10, fun _ => rfl, h.p12, h.p13, h.p14, h.p15, h.p16, h.p17⟩
theorem CK7E.s12 (h : CK7E W1 w FV SV sl v X mg LA L x23 x24 x25 x26 x27 x28 x29 x30 x31 x32 x33 x34 x35 x36 x37 x38 x39 x22 W) : CK7E W1 w FV SV sl v X mg LA (upd L 12) x23 x24 x25 x26 x27 x28 x29 x30 x31 x32 x33 x34 (.pointer (some ⟨mg, 0, none⟩)) x36 x37 x38 x39 x22 W :=
  ⟨h.x, h.p0, h.p1, h.p2, h.p3, h.p4, h.p5, h.p6, h.p7, h.p8, h.p9, h.p10, h.p11, fun _ => rfl, h.p13, h.p14, h.p15, h.p16, h.p17⟩
theorem CK7E.s13 (h : CK7E W1 w FV SV sl v X mg LA L x23 x24 x25 x26 x27 x28 x29 x30 x31 x32 x33 x34 x35 x36 x37 x38 x39 x22 W) : CK7E W1 w FV SV sl v X mg LA (upd L 13) x23 x24 x25 x26 x27 x28 x29 x30 x31 x32 x33 x34 x35 (.pointer (some ⟨mg, 8, none⟩)) x37 x38 x39 x22 W :=
  ⟨h.x, h.p0, h.p1, h.p2, h.p3, h.p4, h.p5, h.p6, h.p7, h.p8, h.p9, h.p10, h.p11, h.p12, fun _ => rfl, h.p14, h.p15, h.p16, h.p17⟩
theorem CK7E.s14 (h : CK7E W1 w FV SV sl v X mg LA L x23 x24 x25 x26 x27 x28 x29 x30 x31 x32 x33 x34 x35 x36 x37 x38 x39 x22 W) : CK7E W1 w FV SV sl v X mg LA (upd L 14) x23 x24 x25 x26 x27 x28 x29 x30 x31 x32 x33 x34 x35 x36 (.int .i64 LA) x38 x39 x22 W :=
  ⟨h.x, h.p0, h.p1, h.p2, h.p3, h.p4, h.p5, h.p6, h.p7, h.p8, h.p9, h.p10, h.p11, h.p12, h.p13, fun _ => rfl, h.p15, h.p16, h.p17⟩
theorem CK7E.s15 (h : CK7E W1 w FV SV sl v X mg LA L x23 x24 x25 x26 x27 x28 x29 x30 x31 x32 x33 x34 x35 x36 x37 x38 x39 x22 W) : CK7E W1 w FV SV sl v X mg LA (upd L 15) x23 x24 x25 x26 x27 x28 x29 x30 x31 x32 x33 x34 x35 x36 x37 (.bool (decide (LA < v))) x39 x22 W :=
  ⟨h.x, h.p0, h.p1, h.p2, h.p3, h.p4, h.p5, h.p6, h.p7, h.p8, h.p9, h.p10, h.p11, h.p12, h.p13, h.p14, fun _ => rfl, h.p16, h.p17⟩
theorem CK7E.s16 (h : CK7E W1 w FV SV sl v X mg LA L x23 x24 x25 x26 x27 x28 x29 x30 x31 x32 x33 x34 x35 x36 x37 x38 x39 x22 W) : CK7E W1 w FV SV sl v X mg LA (upd L 16) x23 x24 x25 x26 x27 x28 x29 x30 x31 x32 x33 x34 x35 x36 x37 x38 (.bool (decide (LA < v))) x22 W :=
  ⟨h.x, h.p0, h.p1, h.p2, h.p3, h.p4, h.p5, h.p6, h.p7, h.p8, h.p9, h.p10, h.p11, h.p12, h.p13, h.p14, h.p15, fun _ => rfl, h.p17⟩
theorem CK7E.s17 (h : CK7E W1 w FV SV sl v X mg LA L x23 x24 x25 x26 x27 x28 x29 x30 x31 x32 x33 x34 x35 x36 x37 x38 x39 x22 W) : CK7E W1 w FV SV sl v X mg LA (upd L 17) x23 x24 x25 x26 x27 x28 x29 x30 x31 x32 x33 x34 x35 x36 x37 x38 x39 (.bool (decide (LA < v))) W :=
  ⟨h.x, h.p0, h.p1, h.p2, h.p3, h.p4, h.p5, h.p6, h.p7, h.p8, h.p9, h.p10, h.p11, h.p12, h.p13, h.p14, h.p15, h.p16, fun _ => rfl⟩
end
@[reducible] def ICK7E (W1 : World) (w : World) (FV SV : List Value) (sl : Nat) (v X : Int) (mg : Nat) (LA : Int) (y0 y1 y2 y3 y4 y5 y6 y7 y8 y9 y10 y11 y12 y13 y14 y15 y16 y17 y18 y19 y20 y21 : Value) : (Nat → Bool) → Act → World → Prop := fun L a W => ∃ x23 x24 x25 x26 x27 x28 x29 x30 x31 x32 x33 x34 x35 x36 x37 x38 x39 x22, a = ⟨#[y0, y1, y2, y3, y4, y5, y6, y7, y8, y9, y10, y11, y12, y13, y14, y15, y16, y17, y18, y19, y20, y21, x22, x23, x24, x25, x26, x27, x28, x29, x30, x31, x32, x33, x34, x35, x36, x37, x38, x39], []⟩ ∧ CK7E W1 w FV SV sl v X mg LA L x23 x24 x25 x26 x27 x28 x29 x30 x31 x32 x33 x34 x35 x36 x37 x38 x39 x22 W
theorem CK7E.step {W1 : World} {w : World} {FV SV : List Value} {sl : Nat} {v X : Int} {mg : Nat} {LA : Int} {y0 y1 y2 y3 y4 y5 y6 y7 y8 y9 y10 y11 y12 y13 y14 y15 y16 y17 y18 y19 y20 y21 : Value} {P : Program} {ops : Array Oper} {Q : Exit → Act → World → Prop} {i : Nat} {o : Oper} (hq : ∀ x23 x24 x25 x26 x27 x28 x29 x30 x31 x32 x33 x34 x35 x36 x37 x38 x39 x22 (L : Nat → Bool) (W : World), CK7E W1 w FV SV sl v X mg LA L x23 x24 x25 x26 x27 x28 x29 x30 x31 x32 x33 x34 x35 x36 x37 x38 x39 x22 W → L i = false → (∀ j ∈ onesOf o, L j = true) → ∀ K : Act → World → Prop, Shut (∀ a' w', ICK7E W1 w FV SV sl v X mg LA y0 y1 y2 y3 y4 y5 y6 y7 y8 y9 y10 y11 y12 y13 y14 y15 y16 y17 y18 y19 y20 y21 (upd L i) a' w' → K a' w') → if Region.wanted o (yielded ops (⟨#[y0, y1, y2, y3, y4, y5, y6, y7, y8, y9, y10, y11, y12, y13, y14, y15, y16, y17, y18, y19, y20, y21, x22, x23, x24, x25, x26, x27, x28, x29, x30, x31, x32, x33, x34, x35, x36, x37, x38, x39], []⟩ : Act).tmps) = true then Oper.wp P o ⟨#[y0, y1, y2, y3, y4, y5, y6, y7, y8, y9, y10, y11, y12, y13, y14, y15, y16, y17, y18, y19, y20, y21, x22, x23, x24, x25, x26, x27, x28, x29, x30, x31, x32, x33, x34, x35, x36, x37, x38, x39], []⟩ W K Q else K ((⟨#[y0, y1, y2, y3, y4, y5, y6, y7, y8, y9, y10, y11, y12, y13, y14, y15, y16, y17, y18, y19, y20, y21, x22, x23, x24, x25, x26, x27, x28, x29, x30, x31, x32, x33, x34, x35, x36, x37, x38, x39], []⟩ : Act).put o.dst undef) W) : StepI P ops (ICK7E W1 w FV SV sl v X mg LA y0 y1 y2 y3 y4 y5 y6 y7 y8 y9 y10 y11 y12 y13 y14 y15 y16 y17 y18 y19 y20 y21) Q i o := by
  rintro L a W ⟨x23, x24, x25, x26, x27, x28, x29, x30, x31, x32, x33, x34, x35, x36, x37, x38, x39, x22, rfl, h⟩
  exact hq _ _ _ _ _ _ _ _ _ _ _ _ _ _ _ _ _ _ _ _ h
theorem CK7E.ends {W1 : World} {w : World} {FV SV : List Value} {sl : Nat} {v X : Int} {mg : Nat} {LA : Int} {y0 y1 y2 y3 y4 y5 y6 y7 y8 y9 y10 y11 y12 y13 y14 y15 y16 y17 y18 y19 y20 y21 : Value} {mm_ : Nat} {Q : Exit → Act → World → Prop} (hq : ∀ x23 x24 x25 x26 x27 x28 x29 x30 x31 x32 x33 x34 x35 x36 x37 x38 x39 x22 (L : Nat → Bool) (W : World), (∀ j, j < mm_ → L j = true) → CK7E W1 w FV SV sl v X mg LA L x23 x24 x25 x26 x27 x28 x29 x30 x31 x32 x33 x34 x35 x36 x37 x38 x39 x22 W → Q .normal ⟨#[y0, y1, y2, y3, y4, y5, y6, y7, y8, y9, y10, y11, y12, y13, y14, y15, y16, y17, y18, y19, y20, y21, x22, x23, x24, x25, x26, x27, x28, x29, x30, x31, x32, x33, x34, x35, x36, x37, x38, x39], []⟩ W) : ∀ L a' w', (∀ j, j < mm_ → L j = true) → ICK7E W1 w FV SV sl v X mg LA y0 y1 y2 y3 y4 y5 y6 y7 y8 y9 y10 y11 y12 y13 y14 y15 y16 y17 y18 y19 y20 y21 L a' w' → Q .normal a' w' := by
  rintro L a W hall ⟨x23, x24, x25, x26, x27, x28, x29, x30, x31, x32, x33, x34, x35, x36, x37, x38, x39, x22, rfl, h⟩
  exact hq _ _ _ _ _ _ _ _ _ _ _ _ _ _ _ _ _ _ _ _ hall h
set_option maxHeartbeats 4000000 in
set_option maxRecDepth 100000 in
theorem check_any (c : Cfg) (mg : Nat) (f : Fd) (s : CS) (hs : s.Wf) (hf : f.wrong = 0 → f.slot < 8 ∧ f.key < 64) (w : World) (hl : w.cell? ⟨mg, 8, none⟩ = some (.int .i64 c.last)) :
    Calls Tryz.prog 74 #[.pointer (some ⟨mg, 0, none⟩), .agg (fdC f).toArray, .agg (csC s).toArray] w fun e w' => e = .returned (.int .i64 (checkC c f s)) ∧ Below w.heap.size w w' := by
  obtain ⟨w1, hw1⟩ : ∃ w1, w1 = (w.alloc (.cells (fdC f).toArray 89)).alloc (.cells (csC s).toArray 67) := ⟨_, rfl⟩
  have K1 : KW w (fdC f) (csC s) w1 := by rw [hw1]; exact ⟨((Below.refl _ _).alloc (Nat.le_refl _) _).alloc (by simp) _, (Row.at w 89 _ _ _ rfl rfl).alloc _, Row.at _ _ _ _ _ (by simp) rfl⟩
  have HK1 : Hid (KW w (fdC f) (csC s) w1) := K1
  have c0 : w1.cell? ⟨w.heap.size, 0, none⟩ = some (.int .i64 f.wrong) := K1.f.cell 0 _ rfl
  have c3 : w1.cell? ⟨w.heap.size, 3, none⟩ = some (.int .i64 (f.key : Int)) := K1.f.cell 3 _ rfl
  have r1 := K1.s
  have LCS : Hid ((csC s).length = 19) := csC_len hs.len
  have CL : Hid (∀ W, Below w.heap.size w W → W.cell? ⟨mg, 8, none⟩ = some (.int .i64 c.last)) := fun W h => (h.cell (cell_lt hl)).trans hl
  have F1 : Hid ((fdC f)[1]? = some (.bool f.signed)) := rfl
  have F2 : Hid ((fdC f)[2]? = some (.int .i64 (f.slot : Int))) := rfl
  have F4 : Hid ((fdC f)[4]? = some (.int .i64 (f.ver : Int))) := rfl
  obtain ⟨R, HP⟩ : ∃ R, Hid (R = checkC c f s) := ⟨_, rfl⟩
  rw [← HP.out]
  unfold checkC at HP
  by_cases h0 : f.wrong ≠ 0
  · have HR : Hid (R = f.wrong) := by have := HP.out; rw [if_pos h0] at this; exact this
    clear HP
    clear hs hf hl K1 CL
    go_enter Tryz.func74, Tryz.ntmps74
    go_wp2_with (rw [← hw1]; have hz := hw1; clear hz hw1)
    go_ret
    exact ⟨by rw [HR.out]; rfl, HK1.out.bel⟩
  · have HR : Hid _ := HP.out.trans (if_neg h0)
    clear HP
    have h00 : f.wrong = 0 := Classical.not_not.1 h0
    obtain ⟨hf1, hf2⟩ := hf h00
    have IR : Hid (∀ W, _) := fun W => isRevoked_any s hs f.key hf2 W
    have KX : Hid ((csC s)[f.slot]? = some (.int .i64 (s.num.getD f.slot 0))) := csC_num hs.len f.slot hf1
    have y0 : (0 : Int) ≤ (f.slot : Int) := by omega
    have y1 : (f.slot : Int) < 8 := by omega
    rw [h00] at c0
    clear hs hf hl K1 h0 h00 hf1 hf2
    generalize s.rev.testBit f.key = B at *
    generalize s.num.getD f.slot 0 = X at *
    generalize fdC f = FV at *
    generalize csC s = SV at *
    go_enter Tryz.func74, Tryz.ntmps74
    go_wp2_with (first
      | (rw [← hw1]; have hz := hw1; clear hz hw1)
      | (refine wpList_load_whole_g ?_ 67 (.tmp 5) rfl (w.heap.size+1) 67 19 SV r1 rfl _ LCS.out Tryz.underlying67 rfl (by kernel_rfl) ?_; · rfl))
    refine (IR.out _).mono ?_
    rintro e w2 ⟨rfl, hb2⟩
    dsimp only
    have HK2 : Hid (KW w FV SV w2) := HK1.out.keep hb2
    clear hb2 HK1 r1 c0 c3 IR
    cases B with
    | true =>
      have HQ : Hid (R = 14) := HR.out.trans (if_pos rfl)
      clear HR
      go_wp2
      go_ret
      exact ⟨by rw [HQ.out]; rfl, HK2.out.bel⟩
    | false =>
      have HR2 : Hid _ := HR.out.trans (if_neg (by decide))
      clear HR
      have c1 : w2.cell? ⟨w.heap.size, 1, none⟩ = some (.bool f.signed) := HK2.out.f.cell 1 _ F1.out
      cases hsg : f.signed with
      | false =>
        rw [hsg] at c1
        have HQ : Hid (R = 15) := HR2.out.trans (if_pos hsg)
        clear hsg HR2
        go_wp2
        go_ret
        exact ⟨by rw [HQ.out]; rfl, HK2.out.bel⟩
      | true =>
        rw [hsg] at c1
        have HR3 : Hid _ := HR2.out.trans (if_neg (by rw [hsg]; decide))
        clear hsg HR2
        generalize f.slot = sl at *
        generalize (f.ver : Int) = v at *
        generalize c.last = LA at *
        by_cases hv : v < X
        · have hvd : decide (v < X) = true := decide_eq_true hv
          have HQ : Hid (R = 16) := HR3.out.trans (if_pos (.inl hv))
          clear HR3
          go_wp2
          refine wp_region_inv (ICK7L w w FV SV sl v X _ _ _ _ _ _ _ _ _ _ _ _ _ _ _ _ _ _ _ _ _ _) (by kernel_rfl) (by kernel_rfl) ⟨_, _, _, _, _, _, _, _, _, _, _, _, _, _, _, _, _, _, rfl, ⟨HK2.out.drew, fun k => (by cases k), fun k => (by cases k), fun k => (by cases k), fun k => (by cases k), fun k => (by cases k), fun k => (by cases k), fun k => (by cases k), fun k => (by cases k), fun k => (by cases k), fun k => (by cases k), fun k => (by cases k)⟩⟩ ?_ ?_
          · refine .cons ?_ (.cons ?_ (.cons ?_ (.cons ?_ (.cons ?_ (.cons ?_ (.cons ?_ (.cons ?_ (.cons ?_ (.cons ?_ (.cons ?_ (.cons ?_ (.cons ?_ (.cons ?_ (.cons ?_ (.cons ?_ (.cons ?_ (.cons ?_ .nil)))))))))))))))))
            all_goals (refine CK7L.step ?_; intro x23 x24 x25 x26 x27 x28 x29 x30 x31 x32 x33 x34 x35 x36 x37 x38 x39 x22 L W hI hL hd K hK)
            · rw [if_pos (by rfl)]
              go_simp
              exact hK.out _ _ ⟨_, _, _, _, _, _, _, _, _, _, _, _, _, _, _, _, _, _, rfl, hI.s0⟩
            · have hx0 := hI.p0 (hd 0 (by decide))
              subst hx0
              rw [if_pos (by rfl)]
              have hc := hI.x.f.cell 4 _ F4.out
              go_simp
              exact hK.out _ _ ⟨_, _, _, _, _, _, _, _, _, _, _, _, _, _, _, _, _, _, rfl, hI.s1⟩
            · rw [if_pos (by rfl)]
              go_simp
              exact hK.out _ _ ⟨_, _, _, _, _, _, _, _, _, _, _, _, _, _, _, _, _, _, rfl, hI.s2⟩
            · have hx2 := hI.p2 (hd 2 (by decide))
              subst hx2
              rw [if_pos (by rfl)]
              have hc := hI.x.f.cell 2 _ F2.out
              go_simp
              exact hK.out _ _ ⟨_, _, _, _, _, _, _, _, _, _, _, _, _, _, _, _, _, _, rfl, hI.s3⟩
            · rw [if_pos (by rfl)]
              go_simp
              exact hK.out _ _ ⟨_, _, _, _, _, _, _, _, _, _, _, _, _, _, _, _, _, _, rfl, hI.s4⟩
            · have hx4 := hI.p4 (hd 4 (by decide))
              subst hx4
              have hx3 := hI.p3 (hd 3 (by decide))
              subst hx3
              rw [if_pos (by rfl)]
              go_simp
              exact hK.out _ _ ⟨_, _, _, _, _, _, _, _, _, _, _, _, _, _, _, _, _, _, rfl, hI.s5⟩
            · have hx5 := hI.p5 (hd 5 (by decide))
              subst hx5
              rw [if_pos (by rfl)]
              have hc := hI.x.s.cell sl _ KX.out
              go_simp
              exact hK.out _ _ ⟨_, _, _, _, _, _, _, _, _, _, _, _, _, _, _, _, _, _, rfl, hI.s6⟩
            · have hx1 := hI.p1 (hd 1 (by decide))
              subst hx1
              have hx6 := hI.p6 (hd 6 (by decide))
              subst hx6
              rw [if_pos (by rfl)]
              go_simp
              exact hK.out _ _ ⟨_, _, _, _, _, _, _, _, _, _, _, _, _, _, _, _, _, _, rfl, hI.s7⟩
            · have hx7 := hI.p7 (hd 7 (by decide))
              subst hx7
              rw [if_pos (by rfl)]
              go_simp
              exact hK.out _ _ ⟨_, _, _, _, _, _, _, _, _, _, _, _, _, _, _, _, _, _, rfl, hI.s8⟩
            · have hx8 := hI.p8 (hd 8 (by decide))
              subst hx8
              rw [if_neg (by first | decide | exact Bool.false_ne_true)]
              exact hK.out _ _ ⟨_, _, _, _, _, _, _, _, _, _, _, _, _, _, _, _, _, _, rfl, hI.s9⟩
            · have hx8 := hI.p8 (hd 8 (by decide))
              subst hx8
              rw [if_neg (by first | decide | exact Bool.false_ne_true)]
              exact hK.out _ _ ⟨_, _, _, _, _, _, _, _, _, _, _, _, _, _, _, _, _, _, rfl, hI.s10⟩
            · have hx8 := hI.p8 (hd 8 (by decide))
              subst hx8
              rw [if_neg (by first | decide | exact Bool.false_ne_true)]
              exact hK.out _ _ ⟨_, _, _, _, _, _, _, _, _, _, _, _, _, _, _, _, _, _, rfl, hI.s11⟩
            · have hx8 := hI.p8 (hd 8 (by decide))
              subst hx8
              rw [if_neg (by first | decide | exact Bool.false_ne_true)]
              exact hK.out _ _ ⟨_, _, _, _, _, _, _, _, _, _, _, _, _, _, _, _, _, _, rfl, hI.s12⟩
            · have hx8 := hI.p8 (hd 8 (by decide))
              subst hx8
              rw [if_neg (by first | decide | exact Bool.false_ne_true)]
              exact hK.out _ _ ⟨_, _, _, _, _, _, _, _, _, _, _, _, _, _, _, _, _, _, rfl, hI.s13⟩
            · have hx8 := hI.p8 (hd 8 (by decide))
              subst hx8
              rw [if_neg (by first | decide | exact Bool.false_ne_true)]
              exact hK.out _ _ ⟨_, _, _, _, _, _, _, _, _, _, _, _, _, _, _, _, _, _, rfl, hI.s14⟩
            · have hx8 := hI.p8 (hd 8 (by decide))
              subst hx8
              rw [if_neg (by first | decide | exact Bool.false_ne_true)]
              exact hK.out _ _ ⟨_, _, _, _, _, _, _, _, _, _, _, _, _, _, _, _, _, _, rfl, hI.s15⟩
            · have hx8 := hI.p8 (hd 8 (by decide))
              subst hx8
              rw [if_pos (by rfl)]
              go_simp
              exact hK.out _ _ ⟨_, _, _, _, _, _, _, _, _, _, _, _, _, _, _, _, _, _, rfl, hI.s16⟩
            · have hx16 := hI.p16 (hd 16 (by decide))
              subst hx16
              rw [if_pos (by rfl)]
              go_simp
              exact hK.out _ _ ⟨_, _, _, _, _, _, _, _, _, _, _, _, _, _, _, _, _, _, rfl, hI.s17⟩
          · refine CK7L.ends ?_; intro x23 x24 x25 x26 x27 x28 x29 x30 x31 x32 x33 x34 x35 x36 x37 x38 x39 x22 L W hall hI
            have hx0 := hI.p0 (hall 0 (by decide))
            subst hx0
            have hx1 := hI.p1 (hall 1 (by decide))
            subst hx1
            have hx2 := hI.p2 (hall 2 (by decide))
            subst hx2
            have hx3 := hI.p3 (hall 3 (by decide))
            subst hx3
            have hx4 := hI.p4 (hall 4 (by decide))
            subst hx4
            have hx5 := hI.p5 (hall 5 (by decide))
            subst hx5
            have hx6 := hI.p6 (hall 6 (by decide))
            subst hx6
            have hx7 := hI.p7 (hall 7 (by decide))
            subst hx7
            have hx8 := hI.p8 (hall 8 (by decide))
            subst hx8
            have hx16 := hI.p16 (hall 16 (by decide))
            subst hx16
            have hx17 := hI.p17 (hall 17 (by decide))
            subst hx17
            have hXe := hI.x
            clear hI hall
            try dsimp only
            go_wp2
            go_ret
            exact ⟨by rw [HQ.out]; rfl, hXe.bel⟩
        · have hvd : decide (v < X) = false := decide_eq_false hv
          have hvv : X ≤ v := by omega
          have HV : Hid (¬ v < X) := hv
          clear hv
          go_wp2
          refine wp_region_inv (ICK7E w w FV SV sl v X mg LA _ _ _ _ _ _ _ _ _ _ _ _ _ _ _ _ _ _ _ _ _ _) (by kernel_rfl) (by kernel_rfl) ⟨_, _, _, _, _, _, _, _, _, _, _, _, _, _, _, _, _, _, rfl, ⟨HK2.out.drew, fun k => (by cases k), fun k => (by cases k), fun k => (by cases k), fun k => (by cases k), fun k => (by cases k), fun k => (by cases k), fun k => (by cases k), fun k => (by cases k), fun k => (by cases k), fun k => (by cases k), fun k => (by cases k), fun k => (by cases k), fun k => (by cases k), fun k => (by cases k), fun k => (by cases k), fun k => (by cases k), fun k => (by cases k), fun k => (by cases k)⟩⟩ ?_ ?_
          · refine .cons ?_ (.cons ?_ (.cons ?_ (.cons ?_ (.cons ?_ (.cons ?_ (.cons ?_ (.cons ?_ (.cons ?_ (.cons ?_ (.cons ?_ (.cons ?_ (.cons ?_ (.cons ?_ (.cons ?_ (.cons ?_ (.cons ?_ (.cons ?_ .nil)))))))))))))))))
            all_goals (refine CK7E.step ?_; intro x23 x24 x25 x26 x27 x28 x29 x30 x31 x32 x33 x34 x35 x36 x37 x38 x39 x22 L W hI hL hd K hK)
            · rw [if_pos (by rfl)]
              go_simp
              exact hK.out _ _ ⟨_, _, _, _, _, _, _, _, _, _, _, _, _, _, _, _, _, _, rfl, hI.s0⟩
            · have hx0 := hI.p0 (hd 0 (by decide))
              subst hx0
              rw [if_pos (by rfl)]
              have hc := hI.x.f.cell 4 _ F4.out
              go_simp
              exact hK.out _ _ ⟨_, _, _, _, _, _, _, _, _, _, _, _, _, _, _, _, _, _, rfl, hI.s1⟩
            · rw [if_pos (by rfl)]
              go_simp
              exact hK.out _ _ ⟨_, _, _, _, _, _, _, _, _, _, _, _, _, _, _, _, _, _, rfl, hI.s2⟩
            · have hx2 := hI.p2 (hd 2 (by decide))
              subst hx2
              rw [if_pos (by rfl)]
              have hc := hI.x.f.cell 2 _ F2.out
              go_simp
              exact hK.out _ _ ⟨_, _, _, _, _, _, _, _, _, _, _, _, _, _, _, _, _, _, rfl, hI.s3⟩
            · rw [if_pos (by rfl)]
              go_simp
              exact hK.out _ _ ⟨_, _, _, _, _, _, _, _, _, _, _, _, _, _, _, _, _, _, rfl, hI.s4⟩
            · have hx4 := hI.p4 (hd 4 (by decide))
              subst hx4
              have hx3 := hI.p3 (hd 3 (by decide))
              subst hx3
              rw [if_pos (by rfl)]
              go_simp
              exact hK.out _ _ ⟨_, _, _, _, _, _, _, _, _, _, _, _, _, _, _, _, _, _, rfl, hI.s5⟩
            · have hx5 := hI.p5 (hd 5 (by decide))
              subst hx5
              rw [if_pos (by rfl)]
              have hc := hI.x.s.cell sl _ KX.out
              go_simp
              exact hK.out _ _ ⟨_, _, _, _, _, _, _, _, _, _, _, _, _, _, _, _, _, _, rfl, hI.s6⟩
            · have hx1 := hI.p1 (hd 1 (by decide))
              subst hx1
              have hx6 := hI.p6 (hd 6 (by decide))
              subst hx6
              rw [if_pos (by rfl)]
              go_simp
              exact hK.out _ _ ⟨_, _, _, _, _, _, _, _, _, _, _, _, _, _, _, _, _, _, rfl, hI.s7⟩
            · have hx7 := hI.p7 (hd 7 (by decide))
              subst hx7
              rw [if_pos (by rfl)]
              go_simp
              exact hK.out _ _ ⟨_, _, _, _, _, _, _, _, _, _, _, _, _, _, _, _, _, _, rfl, hI.s8⟩
            · have hx8 := hI.p8 (hd 8 (by decide))
              subst hx8
              rw [if_pos (by rfl)]
              go_simp
              exact hK.out _ _ ⟨_, _, _, _, _, _, _, _, _, _, _, _, _, _, _, _, _, _, rfl, hI.s9⟩
            · have hx9 := hI.p9 (hd 9 (by decide))
              subst hx9
              have hx8 := hI.p8 (hd 8 (by decide))
              subst hx8
              rw [if_pos (by rfl)]
              have hc := hI.x.f.cell 4 _ F4.out
              go_simp
              exact hK.out _ _ ⟨_, _, _, _, _, _, _, _, _, _, _, _, _, _, _, _, _, _, rfl, hI.s10⟩
            · have hx8 := hI.p8 (hd 8 (by decide))
              subst hx8
              rw [if_pos (by rfl)]
              go_simp
              exact hK.out _ _ ⟨_, _, _, _, _, _, _, _, _, _, _, _, _, _, _, _, _, _, rfl, hI.s11⟩
            · have hx11 := hI.p11 (hd 11 (by decide))
              subst hx11
              have hx8 := hI.p8 (hd 8 (by decide))
              subst hx8
              rw [if_pos (by rfl)]
              go_simp
              exact hK.out _ _ ⟨_, _, _, _, _, _, _, _, _, _, _, _, _, _, _, _, _, _, rfl, hI.s12⟩
            · have hx12 := hI.p12 (hd 12 (by decide))
              subst hx12
              have hx8 := hI.p8 (hd 8 (by decide))
              subst hx8
              rw [if_pos (by rfl)]
              go_simp
              exact hK.out _ _ ⟨_, _, _, _, _, _, _, _, _, _, _, _, _, _, _, _, _, _, rfl, hI.s13⟩
            · have hx13 := hI.p13 (hd 13 (by decide))
              subst hx13
              have hx8 := hI.p8 (hd 8 (by decide))
              subst hx8
              rw [if_pos (by rfl)]
              have hc := CL.out _ hI.x.bel
              go_simp
              exact hK.out _ _ ⟨_, _, _, _, _, _, _, _, _, _, _, _, _, _, _, _, _, _, rfl, hI.s14⟩
            · have hx10 := hI.p10 (hd 10 (by decide))
              subst hx10
              have hx14 := hI.p14 (hd 14 (by decide))
              subst hx14
              have hx8 := hI.p8 (hd 8 (by decide))
              subst hx8
              rw [if_pos (by rfl)]
              go_simp
              exact hK.out _ _ ⟨_, _, _, _, _, _, _, _, _, _, _, _, _, _, _, _, _, _, rfl, hI.s15⟩
            · have hx8 := hI.p8 (hd 8 (by decide))
              subst hx8
              have hx15 := hI.p15 (hd 15 (by decide))
              subst hx15
              rw [if_pos (by rfl)]
              go_simp
              exact hK.out _ _ ⟨_, _, _, _, _, _, _, _, _, _, _, _, _, _, _, _, _, _, rfl, hI.s16⟩
            · have hx16 := hI.p16 (hd 16 (by decide))
              subst hx16
              rw [if_pos (by rfl)]
              go_simp
              exact hK.out _ _ ⟨_, _, _, _, _, _, _, _, _, _, _, _, _, _, _, _, _, _, rfl, hI.s17⟩
          · refine CK7E.ends ?_; intro x23 x24 x25 x26 x27 x28 x29 x30 x31 x32 x33 x34 x35 x36 x37 x38 x39 x22 L W hall hI
            have hx0 := hI.p0 (hall 0 (by decide))
            subst hx0
            have hx1 := hI.p1 (hall 1 (by decide))
            subst hx1
            have hx2 := hI.p2 (hall 2 (by decide))
            subst hx2
            have hx3 := hI.p3 (hall 3 (by decide))
            subst hx3
            have hx4 := hI.p4 (hall 4 (by decide))
            subst hx4
            have hx5 := hI.p5 (hall 5 (by decide))
            subst hx5
            have hx6 := hI.p6 (hall 6 (by decide))
            subst hx6
            have hx7 := hI.p7 (hall 7 (by decide))
            subst hx7
            have hx8 := hI.p8 (hall 8 (by decide))
            subst hx8
            have hx9 := hI.p9 (hall 9 (by decide))
            subst hx9
            have hx10 := hI.p10 (hall 10 (by decide))
            subst hx10
            have hx11 := hI.p11 (hall 11 (by decide))
            subst hx11
            have hx12 := hI.p12 (hall 12 (by decide))
            subst hx12
            have hx13 := hI.p13 (hall 13 (by decide))
            subst hx13
            have hx14 := hI.p14 (hall 14 (by decide))
            subst hx14
            have hx15 := hI.p15 (hall 15 (by decide))
            subst hx15
            have hx16 := hI.p16 (hall 16 (by decide))
            subst hx16
            have hx17 := hI.p17 (hall 17 (by decide))
            subst hx17
            have hXe := hI.x
            clear hI hall
            try dsimp only
            by_cases hy : LA < v
            · have HQ : Hid (R = 16) := HR3.out.trans (if_pos (.inr hy))
              clear HR3
              go_wp2
              go_ret
              exact ⟨by rw [HQ.out]; rfl, hXe.bel⟩
            · have HQ : Hid (R = 0) := HR3.out.trans (if_neg (fun h => h.elim (fun q => absurd q (Int.not_lt.2 hvv)) hy))
              clear HR3
              go_wp2
              go_ret
              exact ⟨by rw [HQ.out]; rfl, hXe.bel⟩
end Go.Proofs.YtpcgkjngpdplmaaGreatDoor
