
import Derived.Test.YthegfkcegmeklaaH16Tells
import Derived.Test.YthegfkcegmeklaaI11Inv
/-! ChainChecks, of any chain in code. (Printed by tools/genchk16.py.) -/
namespace Go.Proofs.Ythegfkcegmeklaa
open Go.RowKit
set_option linter.unusedVariables false

structure CK2 (W1 : World) (X : Nat) (E : Int) (ko : Option Addr) (kn kc : Nat) (no : Option Addr) (nb nc : Nat) (ao : Option Addr) (n cap : Nat) (QC RC HC EC : List Value) (L : Nat → Bool) (x18 x19 x20 x21 x22 x23 x24 x25 x26 x27 x28 x29 x30 x31 x32 x33 x34 x35 x36 x37 : Value) (W : World) : Prop where
  x : Below W1.heap.size W1 W
  p0 : L 0 = true → x18 = .int .i64 E
  p1 : L 1 = true → x19 = .pointer (some ⟨X, 0, none⟩)
  p2 : L 2 = true → x20 = .slice ko kn kc
  p3 : L 3 = true → x21 = .pointer (some ⟨X, 1, none⟩)
  p4 : L 4 = true → x22 = .slice no nb nc
  p5 : L 5 = true → x23 = .pointer (some ⟨X, 2, none⟩)
  p6 : L 6 = true → x24 = .slice ao n cap
  p7 : L 7 = true → x25 = .pointer (some ⟨X, 3, none⟩)
  p8 : L 8 = true → x26 = .agg QC.toArray
  p9 : L 9 = true → x27 = .int .i64 E
  p10 : L 10 = true → x28 = .bool false
  p11 : L 11 = true → x29 = .bool false
  p12 : L 12 = true → x30 = .agg RC.toArray
  p13 : L 13 = true → x31 = .agg HC.toArray
  p14 : L 14 = true → x32 = .agg EC.toArray
  p15 : L 15 = true → x33 = .agg RC.toArray
  p16 : L 16 = true → x34 = .agg HC.toArray
  p17 : L 17 = true → x35 = .agg EC.toArray
  p18 : L 18 = true → x36 = .bool false
  p19 : L 19 = true → x37 = .bool false
section
variable {W1 : World} {X : Nat} {E : Int} {ko : Option Addr} {kn kc : Nat} {no : Option Addr} {nb nc : Nat} {ao : Option Addr} {n cap : Nat} {QC RC HC EC : List Value} {L : Nat → Bool} {x18 x19 x20 x21 x22 x23 x24 x25 x26 x27 x28 x29 x30 x31 x32 x33 x34 x35 x36 x37 : Value} {W W2 : World}
theorem CK2.s0 (h : CK2 W1 X E ko kn kc no nb nc ao n cap QC RC HC EC L x18 x19 x20 x21 x22 x23 x24 x25 x26 x27 x28 x29 x30 x31 x32 x33 x34 x35 x36 x37 W) : CK2 W1 X E ko kn kc no nb nc ao n cap QC RC HC EC (upd L 0) (.int .i64 E) x19 x20 x21 x22 x23 x24 x25 x26 x27 x28 x29 x30 x31 x32 x33 x34 x35 x36 x37 W :=
  ⟨h.x, fun _ => rfl, h.p1, h.p2, h.p3, h.p4, h.p5, h.p6, h.p7, h.p8, h.p9, h.p10, h.p11, h.p12, h.p13, h.p14, h.p15, h.p16, h.p17, h.p18, h.p19⟩
theorem CK2.s1 (h : CK2 W1 X E ko kn kc no nb nc ao n cap QC RC HC EC L x18 x19 x20 x21 x22 x23 x24 x25 x26 x27 x28 x29 x30 x31 x32 x33 x34 x35 x36 x37 W) : CK2 W1 X E ko kn kc no nb nc ao n cap QC RC HC EC (upd L 1) x18 (.pointer (some ⟨X, 0, none⟩)) x20 x21 x22 x23 x24 x25 x26 x27 x28 x29 x30 x31 x32 x33 x34 x35 x36 x37 W :=
  ⟨h.x, h.p0, fun _ => rfl, h.p2, h.p3, h.p4, h.p5, h.p6, h.p7, h.p8, h.p9, h.p10, h.p11, h.p12, h.p13, h.p14, h.p15, h.p16, h.p17, h.p18, h.p19⟩
theorem CK2.s2 (h : CK2 W1 X E ko kn kc no nb nc ao n cap QC RC HC EC L x18 x19 x20 x21 x22 x23 x24 x25 x26 x27 x28 x29 x30 x31 x32 x33 x34 x35 x36 x37 W) : CK2 W1 X E ko kn kc no nb nc ao n cap QC RC HC EC (upd L 2) x18 x19 (.slice ko kn kc) x21 x22 x23 x24 x25 x26 x27 x28 x29 x30 x31 x32 x33 x34 x35 x36 x37 W :=
  ⟨h.x, h.p0, h.p1, fun _ => rfl, h.p3, h.p4, h.p5, h.p6, h.p7, h.p8, h.p9, h.p10, h.p11, h.p12, h.p13, h.p14, h.p15, h.p16, h.p17, h.p18, h.p19⟩
theorem CK2.s3 (h : CK2 W1 X E ko kn kc no nb nc ao n cap QC RC HC EC L x18 x19 x20 x21 x22 x23 x24 x25 x26 x27 x28 x29 x30 x31 x32 x33 x34 x35 x36 x37 W) : CK2 W1 X E ko kn kc no nb nc ao n cap QC RC HC EC (upd L 3) x18 x19 x20 (.pointer (some ⟨X, 1, none⟩)) x22 x23 x24 x25 x26 x27 x28 x29 x30 x31 x32 x33 x34 x35 x36 x37 W :=
  ⟨h.x, h.p0, h.p1, h.p2, fun _ => rfl, h.p4, h.p5, h.p6, h.p7, h.p8, h.p9, h.p10, h.p11, h.p12, h.p13, h.p14, h.p15, h.p16, h.p17, h.p18, h.p19⟩
theorem CK2.s4 (h : CK2 W1 X E ko kn kc no nb nc ao n cap QC RC HC EC L x18 x19 x20 x21 x22 x23 x24 x25 x26 x27 x28 x29 x30 x31 x32 x33 x34 x35 x36 x37 W) : CK2 W1 X E ko kn kc no nb nc ao n cap QC RC HC EC (upd L 4) x18 x19 x20 x21 (.slice no nb nc) x23 x24 x25 x26 x27 x28 x29 x30 x31 x32 x33 x34 x35 x36 x37 W :=
  ⟨h.x, h.p0, h.p1, h.p2, h.p3, fun _ => rfl, h.p5, h.p6, h.p7, h.p8, h.p9, h.p10, h.p11, h.p12, h.p13, h.p14, h.p15, h.p16, h.p17, h.p18, h.p19⟩
theorem CK2.s5 (h : CK2 W1 X E ko kn kc no nb nc ao n cap QC RC HC EC L x18 x19 x20 x21 x22 x23 x24 x25 x26 x27 x28 x29 x30 x31 x32 x33 x34 x35 x36 x37 W) : CK2 W1 X E ko kn kc no nb nc ao n cap QC RC HC EC (upd L 5) x18 x19 x20 x21 x22 (.pointer (some ⟨X, 2, none⟩)) x24 x25 x26 x27 x28 x29 x30 x31 x32 x33 x34 x35 x36 x37 W :=
  ⟨h.x, h.p0, h.p1, h.p2, h.p3, h.p4, fun _ => rfl, h.p6, h.p7, h.p8, h.p9, h.p10, h.p11, h.p12, h.p13, h.p14, h.p15, h.p16, h.p17, h.p18, h.p19⟩
theorem CK2.s6 (h : CK2 W1 X E ko kn kc no nb nc ao n cap QC RC HC EC L x18 x19 x20 x21 x22 x23 x24 x25 x26 x27 x28 x29 x30 x31 x32 x33 x34 x35 x36 x37 W) : CK2 W1 X E ko kn kc no nb nc ao n cap QC RC HC EC (upd L 6) x18 x19 x20 x21 x22 x23 (.slice ao n cap) x25 x26 x27 x28 x29 x30 x31 x32 x33 x34 x35 x36 x37 W :=
  ⟨h.x, h.p0, h.p1, h.p2, h.p3, h.p4, h.p5, fun _ => rfl, h.p7, h.p8, h.p9, h.p10, h.p11, h.p12, h.p13, h.p14, h.p15, h.p16, h.p17, h.p18, h.p19⟩
theorem CK2.s7 (h : CK2 W1 X E ko kn kc no nb nc ao n cap QC RC HC EC L x18 x19 x20 x21 x22 x23 x24 x25 x26 x27 x28 x29 x30 x31 x32 x33 x34 x35 x36 x37 W) : CK2 W1 X E ko kn kc no nb nc ao n cap QC RC HC EC (upd L 7) x18 x19 x20 x21 x22 x23 x24 (.pointer (some ⟨X, 3, none⟩)) x26 x27 x28 x29 x30 x31 x32 x33 x34 x35 x36 x37 W :=
  ⟨h.x, h.p0, h.p1, h.p2, h.p3, h.p4, h.p5, h.p6, fun _ => rfl, h.p8, h.p9, h.p10, h.p11, h.p12, h.p13, h.p14, h.p15, h.p16, h.p17, h.p18, h.p19⟩
theorem CK2.s8 (h : CK2 W1 X E ko kn kc no nb nc ao n cap QC RC HC EC L x18 x19 x20 x21 x22 x23 x24 x25 x26 x27 x28 x29 x30 x31 x32 x33 x34 x35 x36 x37 W) : CK2 W1 X E ko kn kc no nb nc ao n cap QC RC HC EC (upd L 8) x18 x19 x20 x21 x22 x23 x24 x25 (.agg QC.toArray) x27 x28 x29 x30 x31 x32 x33 x34 x35 x36 x37 W :=
  ⟨h.x, h.p0, h.p1, h.p2, h.p3, h.p4, h.p5, h.p6, h.p7, fun _ => rfl, h.p9, h.p10, h.p11, h.p12, h.p13, h.p14, h.p15, h.p16, h.p17, h.p18, h.p19⟩
theorem CK2.s9 (h : CK2 W1 X E ko kn kc no nb nc ao n cap QC RC HC EC L x18 x19 x20 x21 x22 x23 x24 x25 x26 x27 x28 x29 x30 x31 x32 x33 x34 x35 x36 x37 W) (hX : Below W1.heap.size W1 W2) : CK2 W1 X E ko kn kc no nb nc ao n cap QC RC HC EC (upd L 9) x18 x19 x20 x21 x22 x23 x24 x25 x26 (.int .i64 E) x28 x29 x30 x31 x32 x33 x34 x35 x36 x37 W2 :=
  ⟨hX, h.p0, h.p1, h.p2, h.p3, h.p4, h.p5, h.p6, h.p7, h.p8, fun _ => rfl, h.p10, h.p11, h.p12, h.p13, h.p14, h.p15, h.p16, h.p17, h.p18, h.p19⟩
theorem CK2.s10 (h : CK2 W1 X E ko kn kc no nb nc ao n cap QC RC HC EC L x18 x19 x20 x21 x22 x23 x24 x25 x26 x27 x28 x29 x30 x31 x32 x33 x34 x35 x36 x37 W) : CK2 W1 X E ko kn kc no nb nc ao n cap QC RC HC EC (upd L 10) x18 x19 x20 x21 x22 x23 x24 x25 x26 x27 (.bool false) x29 x30 x31 x32 x33 x34 x35 x36 x37 W :=
  ⟨h.x, h.p0, h.p1, h.p2, h.p3, h.p4, h.p5, h.p6, h.p7, h.p8, h.p9, fun _ => rfl, h.p11, h.p12, h.p13, h.p14, h.p15, h.p16, h.p17, h.p18, h.p19⟩
theorem CK2.s11 (h : CK2 W1 X E ko kn kc no nb nc ao n cap QC RC HC EC L x18 x19 x20 x21 x22 x23 x24 x25 x26 x27 x28 x29 x30 x31 x32 x33 x34 x35 x36 x37 W) : CK2 W1 X E ko kn kc no nb nc ao n cap QC RC HC EC (upd L 11) x18 x19 x20 x21 x22 x23 x24 x25 x26 x27 x28 (.bool false) x30 x31 x32 x33 x34 x35 x36 x37 W :=
  ⟨h.x, h.p0, h.p1, h.p2, h.p3, h.p4, h.p5, h.p6, h.p7, h.p8, h.p9, h.p10, fun _ => rfl, h.p12, h.p13, h.p14, h.p15, h.p16, h.p17, h.p18, h.p19⟩
theorem CK2.s12 (h : CK2 W1 X E ko kn kc no nb nc ao n cap QC RC HC EC L x18 x19 x20 x21 x22 x23 x24 x25 x26 x27 x28 x29 x30 x31 x32 x33 x34 x35 x36 x37 W) : CK2 W1 X E ko kn kc no nb nc ao n cap QC RC HC EC (upd L 12) x18 x19 x20 x21 x22 x23 x24 x25 x26 x27 x28 x29 (.agg RC.toArray) x31 x32 x33 x34 x35 x36 x37 W :=
  ⟨h.x, h.p0, h.p1, h.p2, h.p3, h.p4, h.p5, h.p6, h.p7, h.p8, h.p9, h.p10, h.p11, fun _ => rfl, h.p13, h.p14, h.p15, h.p16, h.p17, h.p18, h.p19⟩
theorem CK2.s13 (h : CK2 W1 X E ko kn kc no nb nc ao n cap QC RC HC EC L x18 x19 x20 x21 x22 x23 x24 x25 x26 x27 x28 x29 x30 x31 x32 x33 x34 x35 x36 x37 W) : CK2 W1 X E ko kn kc no nb nc ao n cap QC RC HC EC (upd L 13) x18 x19 x20 x21 x22 x23 x24 x25 x26 x27 x28 x29 x30 (.agg HC.toArray) x32 x33 x34 x35 x36 x37 W :=
  ⟨h.x, h.p0, h.p1, h.p2, h.p3, h.p4, h.p5, h.p6, h.p7, h.p8, h.p9, h.p10, h.p11, h.p12, fun _ => rfl, h.p14, h.p15, h.p16, h.p17, h.p18, h.p19⟩
theorem CK2.s14 (h : CK2 W1 X E ko kn kc no nb nc ao n cap QC RC HC EC L x18 x19 x20 x21 x22 x23 x24 x25 x26 x27 x28 x29 x30 x31 x32 x33 x34 x35 x36 x37 W) (hX : Below W1.heap.size W1 W2) : CK2 W1 X E ko kn kc no nb nc ao n cap QC RC HC EC (upd L 14) x18 x19 x20 x21 x22 x23 x24 x25 x26 x27 x28 x29 x30 x31 (.agg EC.toArray) x33 x34 x35 x36 x37 W2 :=
  ⟨hX, h.p0, h.p1, h.p2, h.p3, h.p4, h.p5, h.p6, h.p7, h.p8, h.p9, h.p10, h.p11, h.p12, h.p13, fun _ => rfl, h.p15, h.p16, h.p17, h.p18, h.p19⟩
theorem CK2.s15 (h : CK2 W1 X E ko kn kc no nb nc ao n cap QC RC HC EC L x18 x19 x20 x21 x22 x23 x24 x25 x26 x27 x28 x29 x30 x31 x32 x33 x34 x35 x36 x37 W) : CK2 W1 X E ko kn kc no nb nc ao n cap QC RC HC EC (upd L 15) x18 x19 x20 x21 x22 x23 x24 x25 x26 x27 x28 x29 x30 x31 x32 (.agg RC.toArray) x34 x35 x36 x37 W :=
  ⟨h.x, h.p0, h.p1, h.p2, h.p3, h.p4, h.p5, h.p6, h.p7, h.p8, h.p9, h.p10, h.p11, h.p12, h.p13, h.p14, fun _ => rfl, h.p16, h.p17, h.p18, h.p19⟩
theorem CK2.s16 (h : CK2 W1 X E ko kn kc no nb nc ao n cap QC RC HC EC L x18 x19 x20 x21 x22 x23 x24 x25 x26 x27 x28 x29 x30 x31 x32 x33 x34 x35 x36 x37 W) : CK2 W1 X E ko kn kc no nb nc ao n cap QC RC HC EC (upd L 16) x18 x19 x20 x21 x22 x23 x24 x25 x26 x27 x28 x29 x30 x31 x32 x33 (.agg HC.toArray) x35 x36 x37 W :=
  ⟨h.x, h.p0, h.p1, h.p2, h.p3, h.p4, h.p5, h.p6, h.p7, h.p8, h.p9, h.p10, h.p11, h.p12, h.p13, h.p14, h.p15, fun _ => rfl, h.p17, h.p18, h.p19⟩
theorem CK2.s17 (h : CK2 W1 X E ko kn kc no nb nc ao n cap QC RC HC EC L x18 x19 x20 x21 x22 x23 x24 x25 x26 x27 x28 x29 x30 x31 x32 x33 x34 x35 x36 x37 W) (hX : Below W1.heap.size W1 W2) : CK2 W1 X E ko kn kc no nb nc ao n cap QC RC HC EC (upd L 17) x18 x19 x20 x21 x22 x23 x24 x25 x26 x27 x28 x29 x30 x31 x32 x33 x34 (.agg EC.toArray) x36 x37 W2 :=
  ⟨hX, h.p0, h.p1, h.p2, h.p3, h.p4, h.p5, h.p6, h.p7, h.p8, h.p9, h.p10, h.p11, h.p12, h.p13, h.p14, h.p15, h.p16, fun _ => rfl, h.p18, h.p19⟩
theorem CK2.s18 (h : CK2 W1 X E ko kn kc no nb nc ao n cap QC RC HC EC L x18 x19 x20 x21 x22 x23 x24 x25 x26 x27 x28 x29 x30 x31 x32 x33 x34 x35 x36 x37 W) : CK2 W1 X E ko kn kc no nb nc ao n cap QC RC HC EC (upd L 18) x18 x19 x20 x21 x22 x23 x24 x25 x26 x27 x28 x29 x30 x31 x32 x33 x34 x35 (.bool false) x37 W :=
  ⟨h.x, h.p0, h.p1, h.p2, h.p3, h.p4, h.p5, h.p6, h.p7, h.p8, h.p9, h.p10, h.p11, h.p12, h.p13, h.p14, h.p15, h.p16, h.p17, fun _ => rfl, h.p19⟩
theorem CK2.s19 (h : CK2 W1 X E ko kn kc no nb nc ao n cap QC RC HC EC L x18 x19 x20 x21 x22 x23 x24 x25 x26 x27 x28 x29 x30 x31 x32 x33 x34 x35 x36 x37 W) : CK2 W1 X E ko kn kc no nb nc ao n cap QC RC HC EC (upd L 19) x18 x19 x20 x21 x22 x23 x24 x25 x26 x27 x28 x29 x30 x31 x32 x33 x34 x35 x36 (.bool false) W :=
  ⟨h.x, h.p0, h.p1, h.p2, h.p3, h.p4, h.p5, h.p6, h.p7, h.p8, h.p9, h.p10, h.p11, h.p12, h.p13, h.p14, h.p15, h.p16, h.p17, h.p18, fun _ => rfl⟩
end
@[reducible] def ICK2 (W1 : World) (X : Nat) (E : Int) (ko : Option Addr) (kn kc : Nat) (no : Option Addr) (nb nc : Nat) (ao : Option Addr) (n cap : Nat) (QC RC HC EC : List Value) (y0 y1 y2 y3 y4 y5 y6 y7 y8 y9 y10 y11 y12 y13 y14 y15 y16 y17 y38 y39 y40 y41 y42 y43 y44 y45 y46 y47 y48 y49 y50 y51 y52 y53 y54 y55 y56 y57 y58 y59 y60 y61 y62 : Value) : (Nat → Bool) → Act → World → Prop := fun L a W => ∃ x18 x19 x20 x21 x22 x23 x24 x25 x26 x27 x28 x29 x30 x31 x32 x33 x34 x35 x36 x37, a = ⟨#[y0, y1, y2, y3, y4, y5, y6, y7, y8, y9, y10, y11, y12, y13, y14, y15, y16, y17, x18, x19, x20, x21, x22, x23, x24, x25, x26, x27, x28, x29, x30, x31, x32, x33, x34, x35, x36, x37, y38, y39, y40, y41, y42, y43, y44, y45, y46, y47, y48, y49, y50, y51, y52, y53, y54, y55, y56, y57, y58, y59, y60, y61, y62], []⟩ ∧ CK2 W1 X E ko kn kc no nb nc ao n cap QC RC HC EC L x18 x19 x20 x21 x22 x23 x24 x25 x26 x27 x28 x29 x30 x31 x32 x33 x34 x35 x36 x37 W
theorem CK2.step {W1 : World} {X : Nat} {E : Int} {ko : Option Addr} {kn kc : Nat} {no : Option Addr} {nb nc : Nat} {ao : Option Addr} {n cap : Nat} {QC RC HC EC : List Value} {y0 y1 y2 y3 y4 y5 y6 y7 y8 y9 y10 y11 y12 y13 y14 y15 y16 y17 y38 y39 y40 y41 y42 y43 y44 y45 y46 y47 y48 y49 y50 y51 y52 y53 y54 y55 y56 y57 y58 y59 y60 y61 y62 : Value} {P : Program} {ops : Array Oper} {Q : Exit → Act → World → Prop} {i : Nat} {o : Oper} (hq : ∀ x18 x19 x20 x21 x22 x23 x24 x25 x26 x27 x28 x29 x30 x31 x32 x33 x34 x35 x36 x37 (L : Nat → Bool) (W : World), CK2 W1 X E ko kn kc no nb nc ao n cap QC RC HC EC L x18 x19 x20 x21 x22 x23 x24 x25 x26 x27 x28 x29 x30 x31 x32 x33 x34 x35 x36 x37 W → L i = false → (∀ j ∈ onesOf o, L j = true) → ∀ K : Act → World → Prop, Shut (∀ a' w', ICK2 W1 X E ko kn kc no nb nc ao n cap QC RC HC EC y0 y1 y2 y3 y4 y5 y6 y7 y8 y9 y10 y11 y12 y13 y14 y15 y16 y17 y38 y39 y40 y41 y42 y43 y44 y45 y46 y47 y48 y49 y50 y51 y52 y53 y54 y55 y56 y57 y58 y59 y60 y61 y62 (upd L i) a' w' → K a' w') → if Region.wanted o (yielded ops (⟨#[y0, y1, y2, y3, y4, y5, y6, y7, y8, y9, y10, y11, y12, y13, y14, y15, y16, y17, x18, x19, x20, x21, x22, x23, x24, x25, x26, x27, x28, x29, x30, x31, x32, x33, x34, x35, x36, x37, y38, y39, y40, y41, y42, y43, y44, y45, y46, y47, y48, y49, y50, y51, y52, y53, y54, y55, y56, y57, y58, y59, y60, y61, y62], []⟩ : Act).tmps) = true then Oper.wp P o ⟨#[y0, y1, y2, y3, y4, y5, y6, y7, y8, y9, y10, y11, y12, y13, y14, y15, y16, y17, x18, x19, x20, x21, x22, x23, x24, x25, x26, x27, x28, x29, x30, x31, x32, x33, x34, x35, x36, x37, y38, y39, y40, y41, y42, y43, y44, y45, y46, y47, y48, y49, y50, y51, y52, y53, y54, y55, y56, y57, y58, y59, y60, y61, y62], []⟩ W K Q else K ((⟨#[y0, y1, y2, y3, y4, y5, y6, y7, y8, y9, y10, y11, y12, y13, y14, y15, y16, y17, x18, x19, x20, x21, x22, x23, x24, x25, x26, x27, x28, x29, x30, x31, x32, x33, x34, x35, x36, x37, y38, y39, y40, y41, y42, y43, y44, y45, y46, y47, y48, y49, y50, y51, y52, y53, y54, y55, y56, y57, y58, y59, y60, y61, y62], []⟩ : Act).put o.dst undef) W) : StepI P ops (ICK2 W1 X E ko kn kc no nb nc ao n cap QC RC HC EC y0 y1 y2 y3 y4 y5 y6 y7 y8 y9 y10 y11 y12 y13 y14 y15 y16 y17 y38 y39 y40 y41 y42 y43 y44 y45 y46 y47 y48 y49 y50 y51 y52 y53 y54 y55 y56 y57 y58 y59 y60 y61 y62) Q i o := by
  rintro L a W ⟨x18, x19, x20, x21, x22, x23, x24, x25, x26, x27, x28, x29, x30, x31, x32, x33, x34, x35, x36, x37, rfl, h⟩
  exact hq _ _ _ _ _ _ _ _ _ _ _ _ _ _ _ _ _ _ _ _ _ _ h
theorem CK2.ends {W1 : World} {X : Nat} {E : Int} {ko : Option Addr} {kn kc : Nat} {no : Option Addr} {nb nc : Nat} {ao : Option Addr} {n cap : Nat} {QC RC HC EC : List Value} {y0 y1 y2 y3 y4 y5 y6 y7 y8 y9 y10 y11 y12 y13 y14 y15 y16 y17 y38 y39 y40 y41 y42 y43 y44 y45 y46 y47 y48 y49 y50 y51 y52 y53 y54 y55 y56 y57 y58 y59 y60 y61 y62 : Value} {mm_ : Nat} {Q : Exit → Act → World → Prop} (hq : ∀ x18 x19 x20 x21 x22 x23 x24 x25 x26 x27 x28 x29 x30 x31 x32 x33 x34 x35 x36 x37 (L : Nat → Bool) (W : World), (∀ j, j < mm_ → L j = true) → CK2 W1 X E ko kn kc no nb nc ao n cap QC RC HC EC L x18 x19 x20 x21 x22 x23 x24 x25 x26 x27 x28 x29 x30 x31 x32 x33 x34 x35 x36 x37 W → Q .normal ⟨#[y0, y1, y2, y3, y4, y5, y6, y7, y8, y9, y10, y11, y12, y13, y14, y15, y16, y17, x18, x19, x20, x21, x22, x23, x24, x25, x26, x27, x28, x29, x30, x31, x32, x33, x34, x35, x36, x37, y38, y39, y40, y41, y42, y43, y44, y45, y46, y47, y48, y49, y50, y51, y52, y53, y54, y55, y56, y57, y58, y59, y60, y61, y62], []⟩ W) : ∀ L a' w', (∀ j, j < mm_ → L j = true) → ICK2 W1 X E ko kn kc no nb nc ao n cap QC RC HC EC y0 y1 y2 y3 y4 y5 y6 y7 y8 y9 y10 y11 y12 y13 y14 y15 y16 y17 y38 y39 y40 y41 y42 y43 y44 y45 y46 y47 y48 y49 y50 y51 y52 y53 y54 y55 y56 y57 y58 y59 y60 y61 y62 L a' w' → Q .normal a' w' := by
  rintro L a W hall ⟨x18, x19, x20, x21, x22, x23, x24, x25, x26, x27, x28, x29, x30, x31, x32, x33, x34, x35, x36, x37, rfl, h⟩
  exact hq _ _ _ _ _ _ _ _ _ _ _ _ _ _ _ _ _ _ _ _ _ _ hall h
structure CK7 (W1 : World) (X B off n cap ki : Nat) (XC MC : List Value) (L : Nat → Bool) (x49 x50 x51 x52 x53 x54 x55 x56 x57 x58 x59 x60 x61 : Value) (W : World) : Prop where
  x : Below W1.heap.size W1 W
  p0 : L 0 = true → x49 = .pointer (some ⟨X, 2, none⟩)
  p1 : L 1 = true → x50 = .slice (some ⟨B, off, none⟩) n cap
  p2 : L 2 = true → x51 = .int .i64 (ki : Int)
  p3 : L 3 = true → x52 = .pointer (some ⟨B, off + ki * 33, none⟩)
  p4 : L 4 = true → x53 = .agg XC.toArray
  p5 : L 5 = true → x54 = .agg MC.toArray
  p6 : L 6 = true → x55 = .pointer (some ⟨X, 2, none⟩)
  p7 : L 7 = true → x56 = .slice (some ⟨B, off, none⟩) n cap
  p8 : L 8 = true → x57 = .int .i64 (ki : Int)
  p9 : L 9 = true → x58 = .pointer (some ⟨B, off + ki * 33, none⟩)
  p10 : L 10 = true → x59 = .agg XC.toArray
  p11 : L 11 = true → x60 = .agg MC.toArray
  p12 : L 12 = true → x61 = .bool false
section
variable {W1 : World} {X B off n cap ki : Nat} {XC MC : List Value} {L : Nat → Bool} {x49 x50 x51 x52 x53 x54 x55 x56 x57 x58 x59 x60 x61 : Value} {W W2 : World}
theorem CK7.s0 (h : CK7 W1 X B off n cap ki XC MC L x49 x50 x51 x52 x53 x54 x55 x56 x57 x58 x59 x60 x61 W) : CK7 W1 X B off n cap ki XC MC (upd L 0) (.pointer (some ⟨X, 2, none⟩)) x50 x51 x52 x53 x54 x55 x56 x57 x58 x59 x60 x61 W :=
  ⟨h.x, fun _ => rfl, h.p1, h.p2, h.p3, h.p4, h.p5, h.p6, h.p7, h.p8, h.p9, h.p10, h.p11, h.p12⟩
theorem CK7.s1 (h : CK7 W1 X B off n cap ki XC MC L x49 x50 x51 x52 x53 x54 x55 x56 x57 x58 x59 x60 x61 W) : CK7 W1 X B off n cap ki XC MC (upd L 1) x49 (.slice (some ⟨B, off, none⟩) n cap) x51 x52 x53 x54 x55 x56 x57 x58 x59 x60 x61 W :=
  ⟨h.x, h.p0, fun _ => rfl, h.p2, h.p3, h.p4, h.p5, h.p6, h.p7, h.p8, h.p9, h.p10, h.p11, h.p12⟩
theorem CK7.s2 (h : CK7 W1 X B off n cap ki XC MC L x49 x50 x51 x52 x53 x54 x55 x56 x57 x58 x59 x60 x61 W) : CK7 W1 X B off n cap ki XC MC (upd L 2) x49 x50 (.int .i64 (ki : Int)) x52 x53 x54 x55 x56 x57 x58 x59 x60 x61 W :=
  ⟨h.x, h.p0, h.p1, fun _ => rfl, h.p3, h.p4, h.p5, h.p6, h.p7, h.p8, h.p9, h.p10, h.p11, h.p12⟩
theorem CK7.s3 (h : CK7 W1 X B off n cap ki XC MC L x49 x50 x51 x52 x53 x54 x55 x56 x57 x58 x59 x60 x61 W) : CK7 W1 X B off n cap ki XC MC (upd L 3) x49 x50 x51 (.pointer (some ⟨B, off + ki * 33, none⟩)) x53 x54 x55 x56 x57 x58 x59 x60 x61 W :=
  ⟨h.x, h.p0, h.p1, h.p2, fun _ => rfl, h.p4, h.p5, h.p6, h.p7, h.p8, h.p9, h.p10, h.p11, h.p12⟩
theorem CK7.s4 (h : CK7 W1 X B off n cap ki XC MC L x49 x50 x51 x52 x53 x54 x55 x56 x57 x58 x59 x60 x61 W) : CK7 W1 X B off n cap ki XC MC (upd L 4) x49 x50 x51 x52 (.agg XC.toArray) x54 x55 x56 x57 x58 x59 x60 x61 W :=
  ⟨h.x, h.p0, h.p1, h.p2, h.p3, fun _ => rfl, h.p5, h.p6, h.p7, h.p8, h.p9, h.p10, h.p11, h.p12⟩
theorem CK7.s5 (h : CK7 W1 X B off n cap ki XC MC L x49 x50 x51 x52 x53 x54 x55 x56 x57 x58 x59 x60 x61 W) (hX : Below W1.heap.size W1 W2) : CK7 W1 X B off n cap ki XC MC (upd L 5) x49 x50 x51 x52 x53 (.agg MC.toArray) x55 x56 x57 x58 x59 x60 x61 W2 :=
  ⟨hX, h.p0, h.p1, h.p2, h.p3, h.p4, fun _ => rfl, h.p6, h.p7, h.p8, h.p9, h.p10, h.p11, h.p12⟩
theorem CK7.s6 (h : CK7 W1 X B off n cap ki XC MC L x49 x50 x51 x52 x53 x54 x55 x56 x57 x58 x59 x60 x61 W) : CK7 W1 X B off n cap ki XC MC (upd L 6) x49 x50 x51 x52 x53 x54 (.pointer (some ⟨X, 2, none⟩)) x56 x57 x58 x59 x60 x61 W :=
  ⟨h.x, h.p0, h.p1, h.p2, h.p3, h.p4, h.p5, fun _ => rfl, h.p7, h.p8, h.p9, h.p10, h.p11, h.p12⟩
theorem CK7.s7 (h : CK7 W1 X B off n cap ki XC MC L x49 x50 x51 x52 x53 x54 x55 x56 x57 x58 x59 x60 x61 W) : CK7 W1 X B off n cap ki XC MC (upd L 7) x49 x50 x51 x52 x53 x54 x55 (.slice (some ⟨B, off, none⟩) n cap) x57 x58 x59 x60 x61 W :=
  ⟨h.x, h.p0, h.p1, h.p2, h.p3, h.p4, h.p5, h.p6, fun _ => rfl, h.p8, h.p9, h.p10, h.p11, h.p12⟩
theorem CK7.s8 (h : CK7 W1 X B off n cap ki XC MC L x49 x50 x51 x52 x53 x54 x55 x56 x57 x58 x59 x60 x61 W) : CK7 W1 X B off n cap ki XC MC (upd L 8) x49 x50 x51 x52 x53 x54 x55 x56 (.int .i64 (ki : Int)) x58 x59 x60 x61 W :=
  ⟨h.x, h.p0, h.p1, h.p2, h.p3, h.p4, h.p5, h.p6, h.p7, fun _ => rfl, h.p9, h.p10, h.p11, h.p12⟩
theorem CK7.s9 (h : CK7 W1 X B off n cap ki XC MC L x49 x50 x51 x52 x53 x54 x55 x56 x57 x58 x59 x60 x61 W) : CK7 W1 X B off n cap ki XC MC (upd L 9) x49 x50 x51 x52 x53 x54 x55 x56 x57 (.pointer (some ⟨B, off + ki * 33, none⟩)) x59 x60 x61 W :=
  ⟨h.x, h.p0, h.p1, h.p2, h.p3, h.p4, h.p5, h.p6, h.p7, h.p8, fun _ => rfl, h.p10, h.p11, h.p12⟩
theorem CK7.s10 (h : CK7 W1 X B off n cap ki XC MC L x49 x50 x51 x52 x53 x54 x55 x56 x57 x58 x59 x60 x61 W) : CK7 W1 X B off n cap ki XC MC (upd L 10) x49 x50 x51 x52 x53 x54 x55 x56 x57 x58 (.agg XC.toArray) x60 x61 W :=
  ⟨h.x, h.p0, h.p1, h.p2, h.p3, h.p4, h.p5, h.p6, h.p7, h.p8, h.p9, fun _ => rfl, h.p11, h.p12⟩
theorem CK7.s11 (h : CK7 W1 X B off n cap ki XC MC L x49 x50 x51 x52 x53 x54 x55 x56 x57 x58 x59 x60 x61 W) (hX : Below W1.heap.size W1 W2) : CK7 W1 X B off n cap ki XC MC (upd L 11) x49 x50 x51 x52 x53 x54 x55 x56 x57 x58 x59 (.agg MC.toArray) x61 W2 :=
  ⟨hX, h.p0, h.p1, h.p2, h.p3, h.p4, h.p5, h.p6, h.p7, h.p8, h.p9, h.p10, fun _ => rfl, h.p12⟩
theorem CK7.s12 (h : CK7 W1 X B off n cap ki XC MC L x49 x50 x51 x52 x53 x54 x55 x56 x57 x58 x59 x60 x61 W) : CK7 W1 X B off n cap ki XC MC (upd L 12) x49 x50 x51 x52 x53 x54 x55 x56 x57 x58 x59 x60 (.bool false) W :=
  ⟨h.x, h.p0, h.p1, h.p2, h.p3, h.p4, h.p5, h.p6, h.p7, h.p8, h.p9, h.p10, h.p11, fun _ => rfl⟩
end
@[reducible] def ICK7 (W1 : World) (X B off n cap ki : Nat) (XC MC : List Value) (y0 y1 y2 y3 y4 y5 y6 y7 y8 y9 y10 y11 y12 y13 y14 y15 y16 y17 y18 y19 y20 y21 y22 y23 y24 y25 y26 y27 y28 y29 y30 y31 y32 y33 y34 y35 y36 y37 y38 y39 y40 y41 y42 y43 y44 y45 y46 y47 y48 y62 : Value) : (Nat → Bool) → Act → World → Prop := fun L a W => ∃ x49 x50 x51 x52 x53 x54 x55 x56 x57 x58 x59 x60 x61, a = ⟨#[y0, y1, y2, y3, y4, y5, y6, y7, y8, y9, y10, y11, y12, y13, y14, y15, y16, y17, y18, y19, y20, y21, y22, y23, y24, y25, y26, y27, y28, y29, y30, y31, y32, y33, y34, y35, y36, y37, y38, y39, y40, y41, y42, y43, y44, y45, y46, y47, y48, x49, x50, x51, x52, x53, x54, x55, x56, x57, x58, x59, x60, x61, y62], []⟩ ∧ CK7 W1 X B off n cap ki XC MC L x49 x50 x51 x52 x53 x54 x55 x56 x57 x58 x59 x60 x61 W
theorem CK7.step {W1 : World} {X B off n cap ki : Nat} {XC MC : List Value} {y0 y1 y2 y3 y4 y5 y6 y7 y8 y9 y10 y11 y12 y13 y14 y15 y16 y17 y18 y19 y20 y21 y22 y23 y24 y25 y26 y27 y28 y29 y30 y31 y32 y33 y34 y35 y36 y37 y38 y39 y40 y41 y42 y43 y44 y45 y46 y47 y48 y62 : Value} {P : Program} {ops : Array Oper} {Q : Exit → Act → World → Prop} {i : Nat} {o : Oper} (hq : ∀ x49 x50 x51 x52 x53 x54 x55 x56 x57 x58 x59 x60 x61 (L : Nat → Bool) (W : World), CK7 W1 X B off n cap ki XC MC L x49 x50 x51 x52 x53 x54 x55 x56 x57 x58 x59 x60 x61 W → L i = false → (∀ j ∈ onesOf o, L j = true) → ∀ K : Act → World → Prop, Shut (∀ a' w', ICK7 W1 X B off n cap ki XC MC y0 y1 y2 y3 y4 y5 y6 y7 y8 y9 y10 y11 y12 y13 y14 y15 y16 y17 y18 y19 y20 y21 y22 y23 y24 y25 y26 y27 y28 y29 y30 y31 y32 y33 y34 y35 y36 y37 y38 y39 y40 y41 y42 y43 y44 y45 y46 y47 y48 y62 (upd L i) a' w' → K a' w') → if Region.wanted o (yielded ops (⟨#[y0, y1, y2, y3, y4, y5, y6, y7, y8, y9, y10, y11, y12, y13, y14, y15, y16, y17, y18, y19, y20, y21, y22, y23, y24, y25, y26, y27, y28, y29, y30, y31, y32, y33, y34, y35, y36, y37, y38, y39, y40, y41, y42, y43, y44, y45, y46, y47, y48, x49, x50, x51, x52, x53, x54, x55, x56, x57, x58, x59, x60, x61, y62], []⟩ : Act).tmps) = true then Oper.wp P o ⟨#[y0, y1, y2, y3, y4, y5, y6, y7, y8, y9, y10, y11, y12, y13, y14, y15, y16, y17, y18, y19, y20, y21, y22, y23, y24, y25, y26, y27, y28, y29, y30, y31, y32, y33, y34, y35, y36, y37, y38, y39, y40, y41, y42, y43, y44, y45, y46, y47, y48, x49, x50, x51, x52, x53, x54, x55, x56, x57, x58, x59, x60, x61, y62], []⟩ W K Q else K ((⟨#[y0, y1, y2, y3, y4, y5, y6, y7, y8, y9, y10, y11, y12, y13, y14, y15, y16, y17, y18, y19, y20, y21, y22, y23, y24, y25, y26, y27, y28, y29, y30, y31, y32, y33, y34, y35, y36, y37, y38, y39, y40, y41, y42, y43, y44, y45, y46, y47, y48, x49, x50, x51, x52, x53, x54, x55, x56, x57, x58, x59, x60, x61, y62], []⟩ : Act).put o.dst undef) W) : StepI P ops (ICK7 W1 X B off n cap ki XC MC y0 y1 y2 y3 y4 y5 y6 y7 y8 y9 y10 y11 y12 y13 y14 y15 y16 y17 y18 y19 y20 y21 y22 y23 y24 y25 y26 y27 y28 y29 y30 y31 y32 y33 y34 y35 y36 y37 y38 y39 y40 y41 y42 y43 y44 y45 y46 y47 y48 y62) Q i o := by
  rintro L a W ⟨x49, x50, x51, x52, x53, x54, x55, x56, x57, x58, x59, x60, x61, rfl, h⟩
  exact hq _ _ _ _ _ _ _ _ _ _ _ _ _ _ _ h
theorem CK7.ends {W1 : World} {X B off n cap ki : Nat} {XC MC : List Value} {y0 y1 y2 y3 y4 y5 y6 y7 y8 y9 y10 y11 y12 y13 y14 y15 y16 y17 y18 y19 y20 y21 y22 y23 y24 y25 y26 y27 y28 y29 y30 y31 y32 y33 y34 y35 y36 y37 y38 y39 y40 y41 y42 y43 y44 y45 y46 y47 y48 y62 : Value} {mm_ : Nat} {Q : Exit → Act → World → Prop} (hq : ∀ x49 x50 x51 x52 x53 x54 x55 x56 x57 x58 x59 x60 x61 (L : Nat → Bool) (W : World), (∀ j, j < mm_ → L j = true) → CK7 W1 X B off n cap ki XC MC L x49 x50 x51 x52 x53 x54 x55 x56 x57 x58 x59 x60 x61 W → Q .normal ⟨#[y0, y1, y2, y3, y4, y5, y6, y7, y8, y9, y10, y11, y12, y13, y14, y15, y16, y17, y18, y19, y20, y21, y22, y23, y24, y25, y26, y27, y28, y29, y30, y31, y32, y33, y34, y35, y36, y37, y38, y39, y40, y41, y42, y43, y44, y45, y46, y47, y48, x49, x50, x51, x52, x53, x54, x55, x56, x57, x58, x59, x60, x61, y62], []⟩ W) : ∀ L a' w', (∀ j, j < mm_ → L j = true) → ICK7 W1 X B off n cap ki XC MC y0 y1 y2 y3 y4 y5 y6 y7 y8 y9 y10 y11 y12 y13 y14 y15 y16 y17 y18 y19 y20 y21 y22 y23 y24 y25 y26 y27 y28 y29 y30 y31 y32 y33 y34 y35 y36 y37 y38 y39 y40 y41 y42 y43 y44 y45 y46 y47 y48 y62 L a' w' → Q .normal a' w' := by
  rintro L a W hall ⟨x49, x50, x51, x52, x53, x54, x55, x56, x57, x58, x59, x60, x61, rfl, h⟩
  exact hq _ _ _ _ _ _ _ _ _ _ _ _ _ _ _ hall h
theorem Row.rng0 {w : World} {g t : Nat} {cs : List Value} (h : Row w g t cs) : w.rangeAt g 0 cs := by
  have := h.range 0 cs.length; simpa using this

set_option maxHeartbeats 4000000 in
set_option maxRecDepth 1000000 in
theorem checks_any {Lg : (Nat → Prop) → World → Addr → List EvV → Prop} (C : Chn Lg) (w : World)
    (ko : Option Addr) (kn kc : Nat) (key : List By) (hkn : key.length = kn) (hki : IsB w ko key) (hkk : (ko = none → kc = 0) ∧ kn ≤ kc) (hkb : kn ≤ 140737488351232)
    (no : Option Addr) (nb nc : Nat) (n1 : List By) (hnb : n1.length = nb) (hni : IsB w no n1) (hnn : (no = none → nc = 0) ∧ nb ≤ nc) (hbig : nb ≤ 140737488351232)
    (ao : Option Addr) (n cap B off : Nat) (xs : List EvV) (hn : xs.length = n) (hn47 : n ≤ 140737488355328) (hao : 0 < n → ao = some ⟨B, off, none⟩) (hin : EvIn w B off xs)
    (q : List By) (hq : q.length = 32) (r h : List By) (hr : r.length = 32) (hh : h.length = 32) :
    Calls Try.prog 5 #[.agg (askC ko kn kc no nb nc ao n cap q).toArray, .agg (r.map B8).toArray, .agg (h.map B8).toArray] w (KP w) := by
  obtain ⟨W1, hW1⟩ : ∃ W1, W1 = ((w.alloc (.cells (askC ko kn kc no nb nc ao n cap q).toArray 46)).alloc (.cells (r.map B8).toArray 32)).alloc (.cells (h.map B8).toArray 32) := ⟨_, rfl⟩
  have b1 : Below w.heap.size w W1 := by rw [hW1]; exact (((Below.refl _ _).alloc (Nat.le_refl _) _).alloc (by simp) _).alloc (by simp; omega) _
  have rA : Row W1 w.heap.size 46 (askC ko kn kc no nb nc ao n cap q) := by rw [hW1]; exact ((Row.at _ _ _ _ _ rfl rfl : Row (w.alloc _) _ _ _).alloc _).alloc _
  have rR : Row W1 (w.heap.size + 1) 32 (r.map B8) := by rw [hW1]; exact (Row.at _ _ _ _ _ (by simp) rfl : Row ((w.alloc _).alloc _) _ _ _).alloc _
  have rH : Row W1 (w.heap.size + 2) 32 (h.map B8) := by rw [hW1]; exact Row.at _ _ _ _ _ (by simp) rfl
  have HROW : Hid (∀ W, Below W1.heap.size W1 W → (W.cell? ⟨w.heap.size, 0, none⟩ = some (.slice ko kn kc) ∧ W.cell? ⟨w.heap.size, 1, none⟩ = some (.slice no nb nc) ∧ W.cell? ⟨w.heap.size, 2, none⟩ = some (.slice ao n cap)) ∧ W.rangeAt w.heap.size 3 (q.map B8) ∧ W.rangeAt (w.heap.size + 1) 0 (r.map B8) ∧ W.rangeAt (w.heap.size + 2) 0 (h.map B8)) := fun W hW => by
    have k := rA.below hW rA.lt
    refine ⟨⟨k.cell 0 _ rfl, k.cell 1 _ rfl, k.cell 2 _ rfl⟩, fun j v hv => ?_, (rR.below hW rR.lt).rng0, (rH.below hW rH.lt).rng0⟩
    exact k.cell (3 + j) v (by rw [← hv]; unfold askC; rw [List.getElem?_append_right (by simp)]; simp)
  have HIN : Hid (∀ W, Below W1.heap.size W1 W → EvIn W B off xs ∧ IsB W ko key ∧ IsB W no n1) := fun W hW => by
    have hb := b1.trans (hW.mono b1.size)
    exact ⟨hin.keep hb, hki.below hb (Nat.le_refl _), hni.below hb (Nat.le_refl _)⟩
  have CK : Hid (∀ W, Below W1.heap.size W1 W → Calls Try.prog 15 #[.slice ko kn kc, .slice no nb nc, .slice ao n cap, .agg (q.map B8).toArray] W fun e w' => e = .returned (.int .i64 (chk key n1 xs q)) ∧ Below W.heap.size W w') := fun W hW =>
    C.check W ko kn kc key hkn (HIN.out W hW).2.1 hkk hkb no nb nc n1 hnb (HIN.out W hW).2.2 hnn hbig ao n cap B off xs hn hn47 hao (HIN.out W hW).1 q hq
  have RK0 : Hid (∀ W, Below W1.heap.size W1 W → Calls Try.prog 16 #[.slice ko kn kc, .slice no nb nc, .slice ao n cap, .agg (q.map B8).toArray] W fun e w' => e = .returned (.int .i64 (chk key n1 xs q)) ∧ Below W.heap.size W w') := fun W hW =>
    rcheck_any W ko kn kc key hkn (HIN.out W hW).2.1 hkk.1 hkb no nb nc n1 hnb (HIN.out W hW).2.2 hnn.1 hbig ao n cap B off xs hn hn47 hao (HIN.out W hW).1 q hq
  have CE0 : Hid (∀ W, Calls Try.prog 17 #[.agg (r.map B8).toArray, .agg (h.map B8).toArray] W fun e w' => e = .returned (.agg ((extend r h).map B8).toArray) ∧ Below W.heap.size W w') := fun W => C.extend r h hr hh W
  have RE0 : Hid (∀ W, Calls Try.prog 18 #[.agg (r.map B8).toArray, .agg (h.map B8).toArray] W fun e w' => e = .returned (.agg ((extend r h).map B8).toArray) ∧ Below W.heap.size W w') := fun W => rextend_any r h hr hh W
  have HMM : Hid (∀ i, i < n → ∃ x, EvOk x ∧ (∀ W, Below W1.heap.size W1 W → W.rangeAt B (off + i * 33) (evC x)) ∧ (∀ W, Calls Try.prog 19 #[.agg (evC x).toArray] W fun e w' => e = .returned (.agg ((measure x).map B8).toArray) ∧ Below W.heap.size W w') ∧ (∀ W, Calls Try.prog 20 #[.agg (evC x).toArray] W fun e w' => e = .returned (.agg ((measure x).map B8).toArray) ∧ Below W.heap.size W w')) := fun i hi => by
    obtain ⟨x, hx⟩ : ∃ x, xs[i]? = some x := ⟨_, List.getElem?_eq_getElem (by rw [hn]; exact hi)⟩
    have ho := hin.ok i x hx
    exact ⟨x, ho, fun W hW => (HIN.out W hW).1.cells i x hx, fun W => C.measure x ho W, fun W => rmeasure_any x ho W⟩
  have HFX : Hid (∀ W, Calls Try.prog 8 #[] W fun e w' => e = .returned (.bool true) ∧ Below W.heap.size W w') := fun W => fixed_any C W
  have qe := eq_any (extend r h) (extend r h) (shaLen _) (shaLen _) true (decide_eq_true rfl).symm
  have lq : (q.map B8).length = 32 := by rw [List.length_map, hq]
  have lr : (r.map B8).length = 32 := by rw [List.length_map, hr]
  have lh : (h.map B8).length = 32 := by rw [List.length_map, hh]
  have HB1 : Hid (Below w.heap.size w W1) := b1
  have HAO : Hid (0 < n → ao = some ⟨B, off, none⟩) := hao
  clear b1 rA rR rH HIN hin hki hni hn hao C
  generalize hE : chk key n1 xs q = E at *
  clear hE
  generalize hQC : q.map B8 = QC at *
  generalize hRC : r.map B8 = RC at *
  generalize hHC : h.map B8 = HC at *
  generalize hEC : (extend r h).map B8 = EC at *
  clear hQC hRC hHC hEC
  have e1 : (E != E) = false := by simp
  go_enter Try.func5, Try.ntmps5
  go_upto_region 1 with fail
  rw [← hW1]
  clear hW1
  obtain ⟨⟨x0, x1, x2⟩, xq, _, _⟩ := HROW.out W1 (Below.refl _ _)
  generalize hX : w.heap.size = X at *
  go_wp2_with (refine wpList_load_mid rfl 32 _ rfl X 3 rfl QC _ xq Try.underlying32 rfl (by rw [lq]; kernel_rfl) ?_)
  refine (CK.out W1 (Below.refl _ _)).mono ?_
  clear CK
  rintro e w2 ⟨rfl, hb2⟩
  dsimp only
  have HB2 : Hid (Below W1.heap.size W1 w2) := hb2
  have RA : Hid (∀ W, Below w2.heap.size w2 W → W.cell? ⟨X, 0, none⟩ = some (.slice ko kn kc) ∧ W.cell? ⟨X, 1, none⟩ = some (.slice no nb nc) ∧ W.cell? ⟨X, 2, none⟩ = some (.slice ao n cap)) := fun W hW => (HROW.out W (HB2.out.trans (hW.mono HB2.out.size))).1
  have RQ : Hid (∀ W, Below w2.heap.size w2 W → W.rangeAt X 3 QC) := fun W hW => (HROW.out W (HB2.out.trans (hW.mono HB2.out.size))).2.1
  have RR : Hid (∀ W, Below w2.heap.size w2 W → W.rangeAt (X + 1) 0 RC) := fun W hW => (HROW.out W (HB2.out.trans (hW.mono HB2.out.size))).2.2.1
  have RH : Hid (∀ W, Below w2.heap.size w2 W → W.rangeAt (X + 2) 0 HC) := fun W hW => (HROW.out W (HB2.out.trans (hW.mono HB2.out.size))).2.2.2
  have RK : Hid (∀ W, Below w2.heap.size w2 W → Calls Try.prog 16 #[.slice ko kn kc, .slice no nb nc, .slice ao n cap, .agg QC.toArray] W fun e w' => e = .returned (.int .i64 E) ∧ Below W.heap.size W w') := fun W hW => RK0.out W (HB2.out.trans (hW.mono HB2.out.size))
  have CE : Hid (∀ W, Below w2.heap.size w2 W → Calls Try.prog 17 #[.agg RC.toArray, .agg HC.toArray] W fun e w' => e = .returned (.agg EC.toArray) ∧ Below W.heap.size W w') := fun W _ => CE0.out W
  have RE : Hid (∀ W, Below w2.heap.size w2 W → Calls Try.prog 18 #[.agg RC.toArray, .agg HC.toArray] W fun e w' => e = .returned (.agg EC.toArray) ∧ Below W.heap.size W w') := fun W _ => RE0.out W
  clear hb2 x0 x1 x2 xq RK0 CE0 RE0
  go_wp2_with fail
  refine wp_region_inv (ICK2 w2 X E ko kn kc no nb nc ao n cap QC RC HC EC _ _ _ _ _ _ _ _ _ _ _ _ _ _ _ _ _ _ _ _ _ _ _ _ _ _ _ _ _ _ _ _ _ _ _ _ _ _ _ _ _ _ _) (by kernel_rfl) (by kernel_rfl) ⟨_, _, _, _, _, _, _, _, _, _, _, _, _, _, _, _, _, _, _, _, rfl, ⟨(Below.refl _ _).drew, fun k => (by cases k), fun k => (by cases k), fun k => (by cases k), fun k => (by cases k), fun k => (by cases k), fun k => (by cases k), fun k => (by cases k), fun k => (by cases k), fun k => (by cases k), fun k => (by cases k), fun k => (by cases k), fun k => (by cases k), fun k => (by cases k), fun k => (by cases k), fun k => (by cases k), fun k => (by cases k), fun k => (by cases k), fun k => (by cases k), fun k => (by cases k), fun k => (by cases k)⟩⟩ ?_ ?_
  · refine .cons ?_ (.cons ?_ (.cons ?_ (.cons ?_ (.cons ?_ (.cons ?_ (.cons ?_ (.cons ?_ (.cons ?_ (.cons ?_ (.cons ?_ (.cons ?_ (.cons ?_ (.cons ?_ (.cons ?_ (.cons ?_ (.cons ?_ (.cons ?_ (.cons ?_ (.cons ?_ .nil)))))))))))))))))))
    all_goals (refine CK2.step ?_; intro x18 x19 x20 x21 x22 x23 x24 x25 x26 x27 x28 x29 x30 x31 x32 x33 x34 x35 x36 x37 L W hI hL hd K hK)
    · rw [if_pos (by rfl)]
      go_simp
      exact hK.out _ _ ⟨_, _, _, _, _, _, _, _, _, _, _, _, _, _, _, _, _, _, _, _, rfl, hI.s0⟩
    · rw [if_pos (by rfl)]
      go_simp
      exact hK.out _ _ ⟨_, _, _, _, _, _, _, _, _, _, _, _, _, _, _, _, _, _, _, _, rfl, hI.s1⟩
    · have hx1 := hI.p1 (hd 1 (by decide))
      subst hx1
      rw [if_pos (by rfl)]
      have hc := (RA.out _ hI.x).1
      go_simp
      exact hK.out _ _ ⟨_, _, _, _, _, _, _, _, _, _, _, _, _, _, _, _, _, _, _, _, rfl, hI.s2⟩
    · rw [if_pos (by rfl)]
      go_simp
      exact hK.out _ _ ⟨_, _, _, _, _, _, _, _, _, _, _, _, _, _, _, _, _, _, _, _, rfl, hI.s3⟩
    · have hx3 := hI.p3 (hd 3 (by decide))
      subst hx3
      rw [if_pos (by rfl)]
      have hc := (RA.out _ hI.x).2.1
      go_simp
      exact hK.out _ _ ⟨_, _, _, _, _, _, _, _, _, _, _, _, _, _, _, _, _, _, _, _, rfl, hI.s4⟩
    · rw [if_pos (by rfl)]
      go_simp
      exact hK.out _ _ ⟨_, _, _, _, _, _, _, _, _, _, _, _, _, _, _, _, _, _, _, _, rfl, hI.s5⟩
    · have hx5 := hI.p5 (hd 5 (by decide))
      subst hx5
      rw [if_pos (by rfl)]
      have hc := (RA.out _ hI.x).2.2
      go_simp
      exact hK.out _ _ ⟨_, _, _, _, _, _, _, _, _, _, _, _, _, _, _, _, _, _, _, _, rfl, hI.s6⟩
    · rw [if_pos (by rfl)]
      go_simp
      exact hK.out _ _ ⟨_, _, _, _, _, _, _, _, _, _, _, _, _, _, _, _, _, _, _, _, rfl, hI.s7⟩
    · have hx7 := hI.p7 (hd 7 (by decide))
      subst hx7
      refine step_load_rng rfl 32 _ rfl X 3 QC (RQ.out _ hI.x) rfl _ Try.underlying32 rfl (by rw [lq]; kernel_rfl) ?_
      exact hK.out _ _ ⟨_, _, _, _, _, _, _, _, _, _, _, _, _, _, _, _, _, _, _, _, rfl, hI.s8⟩
    · have hx2 := hI.p2 (hd 2 (by decide))
      subst hx2
      have hx4 := hI.p4 (hd 4 (by decide))
      subst hx4
      have hx6 := hI.p6 (hd 6 (by decide))
      subst hx6
      have hx8 := hI.p8 (hd 8 (by decide))
      subst hx8
      rw [if_pos (by rfl)]
      go_simp
      refine (RK.out _ hI.x).mono ?_
      rintro e W2 ⟨rfl, b2⟩
      go_simp
      have hX := hI.x.trans (b2.mono hI.x.size)
      exact hK.out _ _ ⟨_, _, _, _, _, _, _, _, _, _, _, _, _, _, _, _, _, _, _, _, rfl, hI.s9 hX⟩
    · have hx0 := hI.p0 (hd 0 (by decide))
      subst hx0
      have hx9 := hI.p9 (hd 9 (by decide))
      subst hx9
      rw [if_pos (by rfl)]
      go_simp
      exact hK.out _ _ ⟨_, _, _, _, _, _, _, _, _, _, _, _, _, _, _, _, _, _, _, _, rfl, hI.s10⟩
    · have hx10 := hI.p10 (hd 10 (by decide))
      subst hx10
      rw [if_pos (by rfl)]
      go_simp
      exact hK.out _ _ ⟨_, _, _, _, _, _, _, _, _, _, _, _, _, _, _, _, _, _, _, _, rfl, hI.s11⟩
    · have hx11 := hI.p11 (hd 11 (by decide))
      subst hx11
      refine step_load_rng rfl 32 _ rfl (X + 1) 0 RC (RR.out _ hI.x) rfl _ Try.underlying32 rfl (by rw [lr]; kernel_rfl) ?_
      exact hK.out _ _ ⟨_, _, _, _, _, _, _, _, _, _, _, _, _, _, _, _, _, _, _, _, rfl, hI.s12⟩
    · have hx11 := hI.p11 (hd 11 (by decide))
      subst hx11
      refine step_load_rng rfl 32 _ rfl (X + 2) 0 HC (RH.out _ hI.x) rfl _ Try.underlying32 rfl (by rw [lh]; kernel_rfl) ?_
      exact hK.out _ _ ⟨_, _, _, _, _, _, _, _, _, _, _, _, _, _, _, _, _, _, _, _, rfl, hI.s13⟩
    · have hx12 := hI.p12 (hd 12 (by decide))
      subst hx12
      have hx13 := hI.p13 (hd 13 (by decide))
      subst hx13
      have hx11 := hI.p11 (hd 11 (by decide))
      subst hx11
      rw [if_pos (by rfl)]
      go_simp
      refine (CE.out _ hI.x).mono ?_
      rintro e W2 ⟨rfl, b2⟩
      go_simp
      have hX := hI.x.trans (b2.mono hI.x.size)
      exact hK.out _ _ ⟨_, _, _, _, _, _, _, _, _, _, _, _, _, _, _, _, _, _, _, _, rfl, hI.s14 hX⟩
    · have hx11 := hI.p11 (hd 11 (by decide))
      subst hx11
      refine step_load_rng rfl 32 _ rfl (X + 1) 0 RC (RR.out _ hI.x) rfl _ Try.underlying32 rfl (by rw [lr]; kernel_rfl) ?_
      exact hK.out _ _ ⟨_, _, _, _, _, _, _, _, _, _, _, _, _, _, _, _, _, _, _, _, rfl, hI.s15⟩
    · have hx11 := hI.p11 (hd 11 (by decide))
      subst hx11
      refine step_load_rng rfl 32 _ rfl (X + 2) 0 HC (RH.out _ hI.x) rfl _ Try.underlying32 rfl (by rw [lh]; kernel_rfl) ?_
      exact hK.out _ _ ⟨_, _, _, _, _, _, _, _, _, _, _, _, _, _, _, _, _, _, _, _, rfl, hI.s16⟩
    · have hx15 := hI.p15 (hd 15 (by decide))
      subst hx15
      have hx16 := hI.p16 (hd 16 (by decide))
      subst hx16
      have hx11 := hI.p11 (hd 11 (by decide))
      subst hx11
      rw [if_pos (by rfl)]
      go_simp
      refine (RE.out _ hI.x).mono ?_
      rintro e W2 ⟨rfl, b2⟩
      go_simp
      have hX := hI.x.trans (b2.mono hI.x.size)
      exact hK.out _ _ ⟨_, _, _, _, _, _, _, _, _, _, _, _, _, _, _, _, _, _, _, _, rfl, hI.s17 hX⟩
    · have hx14 := hI.p14 (hd 14 (by decide))
      subst hx14
      have hx17 := hI.p17 (hd 17 (by decide))
      subst hx17
      have hx11 := hI.p11 (hd 11 (by decide))
      subst hx11
      rw [if_pos (by rfl)]
      go_simp
      exact hK.out _ _ ⟨_, _, _, _, _, _, _, _, _, _, _, _, _, _, _, _, _, _, _, _, rfl, hI.s18⟩
    · have hx11 := hI.p11 (hd 11 (by decide))
      subst hx11
      have hx18 := hI.p18 (hd 18 (by decide))
      subst hx18
      rw [if_pos (by rfl)]
      go_simp
      exact hK.out _ _ ⟨_, _, _, _, _, _, _, _, _, _, _, _, _, _, _, _, _, _, _, _, rfl, hI.s19⟩
  · refine CK2.ends ?_; intro x18 x19 x20 x21 x22 x23 x24 x25 x26 x27 x28 x29 x30 x31 x32 x33 x34 x35 x36 x37 L W hall hI
    have hx0 := hI.p0 (hall 0 (by decide))
    subst hx0
    have hx1 := hI.p1 (hall 1 (by decide))
    subst hx1
    have hx2 := hI.p2 (hall 2 (by decide))
    subst hx2
    have hx3 := hI.p3 (hall 3 (by decide))
    subst hx3
    have hx4 := hI.p4 (hall 4 (by decide))
    subst hx4
    have hx5 := hI.p5 (hall 5 (by decide))
    subst hx5
    have hx6 := hI.p6 (hall 6 (by decide))
    subst hx6
    have hx7 := hI.p7 (hall 7 (by decide))
    subst hx7
    have hx8 := hI.p8 (hall 8 (by decide))
    subst hx8
    have hx9 := hI.p9 (hall 9 (by decide))
    subst hx9
    have hx10 := hI.p10 (hall 10 (by decide))
    subst hx10
    have hx11 := hI.p11 (hall 11 (by decide))
    subst hx11
    have hx12 := hI.p12 (hall 12 (by decide))
    subst hx12
    have hx13 := hI.p13 (hall 13 (by decide))
    subst hx13
    have hx14 := hI.p14 (hall 14 (by decide))
    subst hx14
    have hx15 := hI.p15 (hall 15 (by decide))
    subst hx15
    have hx16 := hI.p16 (hall 16 (by decide))
    subst hx16
    have hx17 := hI.p17 (hall 17 (by decide))
    subst hx17
    have hx18 := hI.p18 (hall 18 (by decide))
    subst hx18
    have hx19 := hI.p19 (hall 19 (by decide))
    subst hx19
    have hXe := hI.x
    clear hI hall
    try dsimp only
    have HB3 : Hid (Below W1.heap.size W1 W) := HB2.out.trans (hXe.mono HB2.out.size)
    clear hXe HB2 RA RQ RR RH RK CE RE qe e1
    go_wp2
    go_loopw [8] (fun iv wr => ∃ i : Nat, i ≤ n ∧ i ≤ 20 ∧ iv = .int .i64 i ∧ Hid (Below W1.heap.size W1 wr)) (fun iv _ => 20 - (intOf iv).toNat)
    case atStart => exact ⟨0, by omega, by omega, rfl, HB3.out⟩
    case round =>
      clear HB3
      obtain ⟨i, hi, hi20, rfl, HBR⟩ := hrel
      have x2 := (HROW.out wr HBR.out).1.2.2
      by_cases hlt : i < n
      · have y0 : (0 : Int) ≤ (i : Int) := by omega
        have y1 : (i : Int) < (n : Int) := by omega
        by_cases h20 : i < 20
        · have y2 : (i : Int) < 20 := by omega
          obtain ⟨x, ho, hrg, hcm, hrm⟩ := HMM.out i hlt
          obtain rfl := HAO.out (by omega)
          obtain ⟨wo, hwo⟩ : ∃ wo, wo = wr := ⟨wr, rfl⟩
          subst hwo
          have RL : Hid (∀ W, Below wo.heap.size wo W → W.cell? ⟨X, 2, none⟩ = some (.slice (some ⟨B, off, none⟩) n cap)) := fun W hW => (HROW.out W (HBR.out.trans (hW.mono HBR.out.size))).1.2.2
          have RX : Hid (∀ W, Below wo.heap.size wo W → W.rangeAt B (off + i * 33) (evC x)) := fun W hW => hrg W (HBR.out.trans (hW.mono HBR.out.size))
          have CM : Hid (∀ W, Below wo.heap.size wo W → Calls Try.prog 19 #[.agg (evC x).toArray] W fun e w' => e = .returned (.agg ((measure x).map B8).toArray) ∧ Below W.heap.size W w') := fun W _ => hcm W
          have RM : Hid (∀ W, Below wo.heap.size wo W → Calls Try.prog 20 #[.agg (evC x).toArray] W fun e w' => e = .returned (.agg ((measure x).map B8).toArray) ∧ Below W.heap.size W w') := fun W _ => hrm W
          have lx := evC_len ho
          have qm := eq_any (measure x) (measure x) (shaLen _) (shaLen _) true (decide_eq_true rfl).symm
          clear hrg hcm hrm ho HMM HAO HROW
          generalize hXC : evC x = XC at *
          generalize hMC : (measure x).map B8 = MC at *
          clear hXC hMC
          go_wp2_with fail
          refine wp_region_inv (ICK7 wo X B off n cap i XC MC _ _ _ _ _ _ _ _ _ _ _ _ _ _ _ _ _ _ _ _ _ _ _ _ _ _ _ _ _ _ _ _ _ _ _ _ _ _ _ _ _ _ _ _ _ _ _ _ _ _) (by kernel_rfl) (by kernel_rfl) ⟨_, _, _, _, _, _, _, _, _, _, _, _, _, rfl, ⟨(Below.refl _ _).drew, fun k => (by cases k), fun k => (by cases k), fun k => (by cases k), fun k => (by cases k), fun k => (by cases k), fun k => (by cases k), fun k => (by cases k), fun k => (by cases k), fun k => (by cases k), fun k => (by cases k), fun k => (by cases k), fun k => (by cases k), fun k => (by cases k)⟩⟩ ?_ ?_
          · refine .cons ?_ (.cons ?_ (.cons ?_ (.cons ?_ (.cons ?_ (.cons ?_ (.cons ?_ (.cons ?_ (.cons ?_ (.cons ?_ (.cons ?_ (.cons ?_ (.cons ?_ .nil))))))))))))
            all_goals (refine CK7.step ?_; intro x49 x50 x51 x52 x53 x54 x55 x56 x57 x58 x59 x60 x61 L W hI hL hd K hK)
            · rw [if_pos (by rfl)]
              go_simp
              exact hK.out _ _ ⟨_, _, _, _, _, _, _, _, _, _, _, _, _, rfl, hI.s0⟩
            · have hx0 := hI.p0 (hd 0 (by decide))
              subst hx0
              rw [if_pos (by rfl)]
              have hc := RL.out _ hI.x
              go_simp
              exact hK.out _ _ ⟨_, _, _, _, _, _, _, _, _, _, _, _, _, rfl, hI.s1⟩
            · rw [if_pos (by rfl)]
              go_simp
              exact hK.out _ _ ⟨_, _, _, _, _, _, _, _, _, _, _, _, _, rfl, hI.s2⟩
            · have hx1 := hI.p1 (hd 1 (by decide))
              subst hx1
              have hx2 := hI.p2 (hd 2 (by decide))
              subst hx2
              rw [if_pos (by rfl)]
              go_simp
              exact hK.out _ _ ⟨_, _, _, _, _, _, _, _, _, _, _, _, _, rfl, hI.s3⟩
            · have hx3 := hI.p3 (hd 3 (by decide))
              subst hx3
              refine step_load_rng rfl 35 _ rfl B (off + i * 33) XC (RX.out _ hI.x) rfl _ Try.underlying35 rfl (by rw [lx]; kernel_rfl) ?_
              exact hK.out _ _ ⟨_, _, _, _, _, _, _, _, _, _, _, _, _, rfl, hI.s4⟩
            · have hx4 := hI.p4 (hd 4 (by decide))
              subst hx4
              rw [if_pos (by rfl)]
              go_simp
              refine (CM.out _ hI.x).mono ?_
              rintro e W2 ⟨rfl, b2⟩
              go_simp
              have hX := hI.x.trans (b2.mono hI.x.size)
              exact hK.out _ _ ⟨_, _, _, _, _, _, _, _, _, _, _, _, _, rfl, hI.s5 hX⟩
            · rw [if_pos (by rfl)]
              go_simp
              exact hK.out _ _ ⟨_, _, _, _, _, _, _, _, _, _, _, _, _, rfl, hI.s6⟩
            · have hx6 := hI.p6 (hd 6 (by decide))
              subst hx6
              rw [if_pos (by rfl)]
              have hc := RL.out _ hI.x
              go_simp
              exact hK.out _ _ ⟨_, _, _, _, _, _, _, _, _, _, _, _, _, rfl, hI.s7⟩
            · rw [if_pos (by rfl)]
              go_simp
              exact hK.out _ _ ⟨_, _, _, _, _, _, _, _, _, _, _, _, _, rfl, hI.s8⟩
            · have hx7 := hI.p7 (hd 7 (by decide))
              subst hx7
              have hx8 := hI.p8 (hd 8 (by decide))
              subst hx8
              rw [if_pos (by rfl)]
              go_simp
              exact hK.out _ _ ⟨_, _, _, _, _, _, _, _, _, _, _, _, _, rfl, hI.s9⟩
            · have hx9 := hI.p9 (hd 9 (by decide))
              subst hx9
              refine step_load_rng rfl 35 _ rfl B (off + i * 33) XC (RX.out _ hI.x) rfl _ Try.underlying35 rfl (by rw [lx]; kernel_rfl) ?_
              exact hK.out _ _ ⟨_, _, _, _, _, _, _, _, _, _, _, _, _, rfl, hI.s10⟩
            · have hx10 := hI.p10 (hd 10 (by decide))
              subst hx10
              rw [if_pos (by rfl)]
              go_simp
              refine (RM.out _ hI.x).mono ?_
              rintro e W2 ⟨rfl, b2⟩
              go_simp
              have hX := hI.x.trans (b2.mono hI.x.size)
              exact hK.out _ _ ⟨_, _, _, _, _, _, _, _, _, _, _, _, _, rfl, hI.s11 hX⟩
            · have hx5 := hI.p5 (hd 5 (by decide))
              subst hx5
              have hx11 := hI.p11 (hd 11 (by decide))
              subst hx11
              rw [if_pos (by rfl)]
              go_simp
              exact hK.out _ _ ⟨_, _, _, _, _, _, _, _, _, _, _, _, _, rfl, hI.s12⟩
          · refine CK7.ends ?_; intro x49 x50 x51 x52 x53 x54 x55 x56 x57 x58 x59 x60 x61 L W hall hI
            have hx0 := hI.p0 (hall 0 (by decide))
            subst hx0
            have hx1 := hI.p1 (hall 1 (by decide))
            subst hx1
            have hx2 := hI.p2 (hall 2 (by decide))
            subst hx2
            have hx3 := hI.p3 (hall 3 (by decide))
            subst hx3
            have hx4 := hI.p4 (hall 4 (by decide))
            subst hx4
            have hx5 := hI.p5 (hall 5 (by decide))
            subst hx5
            have hx6 := hI.p6 (hall 6 (by decide))
            subst hx6
            have hx7 := hI.p7 (hall 7 (by decide))
            subst hx7
            have hx8 := hI.p8 (hall 8 (by decide))
            subst hx8
            have hx9 := hI.p9 (hall 9 (by decide))
            subst hx9
            have hx10 := hI.p10 (hall 10 (by decide))
            subst hx10
            have hx11 := hI.p11 (hall 11 (by decide))
            subst hx11
            have hx12 := hI.p12 (hall 12 (by decide))
            subst hx12
            have hXe := hI.x
            clear hI hall
            try dsimp only
            have HBE : Hid (Below W1.heap.size W1 W) := HBR.out.trans (hXe.mono HBR.out.size)
            clear hXe RL RX CM RM qm HBR x2
            go_wp2
            exact ⟨⟨i + 1, by omega, by omega, by go_num, HBE.out⟩, by simp [intOf]; omega⟩
        · have y2 : ¬ (i : Int) < 20 := by omega
          clear HMM HROW HAO
          go_wp2_with fail
          refine (HFX.out _).mono ?_
          rintro e w9 ⟨rfl, hb9⟩
          dsimp only
          have HBE : Hid (Below w.heap.size w w9) := by
            have h1 := HBR.out.trans (hb9.mono HBR.out.size)
            show Below _ _ _
            rw [hX]
            exact HB1.out.trans (h1.mono (by rw [← hX]; exact HB1.out.size))
          clear hb9
          go_wp2
          go_ret
          exact ⟨rfl, HBE.out⟩
      · have y1 : ¬ (i : Int) < (n : Int) := by omega
        clear HMM HROW HAO
        go_wp2_with fail
        refine (HFX.out _).mono ?_
        rintro e w9 ⟨rfl, hb9⟩
        dsimp only
        have HBE : Hid (Below w.heap.size w w9) := by
          have h1 := HBR.out.trans (hb9.mono HBR.out.size)
          show Below _ _ _
          rw [hX]
          exact HB1.out.trans (h1.mono (by rw [← hX]; exact HB1.out.size))
        clear hb9
        go_wp2
        go_ret
        exact ⟨rfl, HBE.out⟩
end Go.Proofs.Ythegfkcegmeklaa
