
import Derived.Test.YtjooabgjkjnhhaaGreatDoorT24X
/-! The reference's token: Clash. (Printed by tools/gent24b.py.) -/
namespace Go.Proofs.YtjooabgjkjnhhaaGreatDoor
open Go.RowKit
set_option linter.unusedVariables false
set_option linter.unusedSimpArgs false
set_option maxRecDepth 100000
structure CLA (W1 : World) (w : World) (B off n cap i0 k0 : Nat) (tx ty : List By) (SX SY MX MY : ByteArray) (L : Nat → Bool) (x16 x17 x18 x19 x20 x21 x22 x23 x24 x25 x26 x27 x28 x29 x30 x31 x32 x33 x34 x35 x36 x37 x38 x39 x40 x41 x42 x43 x44 x45 x46 x47 x48 x49 x50 x51 x52 : Value) (W : World) : Prop where
  x : Dr w W
  p0 : L 0 = true → x16 = .slice (some ⟨B, off, none⟩) n cap
  p1 : L 1 = true → x17 = .int .i64 (i0 : Int)
  p2 : L 2 = true → x18 = .pointer (some ⟨B, off + i0 * 34, none⟩)
  p3 : L 3 = true → x19 = .pointer (some ⟨B, off + i0 * 34 + 2, none⟩)
  p4 : L 4 = true → x20 = .agg (tx.map B8).toArray
  p5 : L 5 = true → x21 = .slice (some ⟨B, off, none⟩) n cap
  p6 : L 6 = true → x22 = .int .i64 (k0 : Int)
  p7 : L 7 = true → x23 = .pointer (some ⟨B, off + k0 * 34, none⟩)
  p8 : L 8 = true → x24 = .pointer (some ⟨B, off + k0 * 34 + 2, none⟩)
  p9 : L 9 = true → x25 = .agg (ty.map B8).toArray
  p10 : L 10 = true → x26 = .bool false
  p11 : L 11 = true → x27 = .bool false
  p23 : L 23 = true → x39 = undef
  p36 : L 36 = true → x52 = .bool false
section
variable {W1 : World} {w : World} {B off n cap i0 k0 : Nat} {tx ty : List By} {SX SY MX MY : ByteArray} {L : Nat → Bool} {x16 x17 x18 x19 x20 x21 x22 x23 x24 x25 x26 x27 x28 x29 x30 x31 x32 x33 x34 x35 x36 x37 x38 x39 x40 x41 x42 x43 x44 x45 x46 x47 x48 x49 x50 x51 x52 : Value} {W W2 : World}
theorem CLA.s0 (h : CLA W1 w B off n cap i0 k0 tx ty SX SY MX MY L x16 x17 x18 x19 x20 x21 x22 x23 x24 x25 x26 x27 x28 x29 x30 x31 x32 x33 x34 x35 x36 x37 x38 x39 x40 x41 x42 x43 x44 x45 x46 x47 x48 x49 x50 x51 x52 W) : CLA W1 w B off n cap i0 k0 tx ty SX SY MX MY (upd L 0) (.slice (some ⟨B, off, none⟩) n cap) x17 x18 x19 x20 x21 x22 x23 x24 x25 x26 x27 x28 x29 x30 x31 x32 x33 x34 x35 x36 x37 x38 x39 x40 x41 x42 x43 x44 x45 x46 x47 x48 x49 x50 x51 x52 W :=
  ⟨h.x, fun _ => rfl, h.p1, h.p2, h.p3, h.p4, h.p5, h.p6, h.p7, h.p8, h.p9, h.p10, h.p11, h.p23, h.p36⟩
theorem CLA.s1 (h : CLA W1 w B off n cap i0 k0 tx ty SX SY MX MY L x16 x17 x18 x19 x20 x21 x22 x23 x24 x25 x26 x27 x28 x29 x30 x31 x32 x33 x34 x35 x36 x37 x38 x39 x40 x41 x42 x43 x44 x45 x46 x47 x48 x49 x50 x51 x52 W) : CLA W1 w B off n cap i0 k0 tx ty SX SY MX MY (upd L 1) x16 (.int .i64 (i0 : Int)) x18 x19 x20 x21 x22 x23 x24 x25 x26 x27 x28 x29 x30 x31 x32 x33 x34 x35 x36 x37 x38 x39 x40 x41 x42 x43 x44 x45 x46 x47 x48 x49 x50 x51 x52 W :=
  ⟨h.x, h.p0, fun _ => rfl, h.p2, h.p3, h.p4, h.p5, h.p6, h.p7, h.p8, h.p9, h.p10, h.p11, h.p23, h.p36⟩
end
@[reducible] def ICLA (W1 : World) (w : World) (B off n cap i0 k0 : Nat) (tx ty : List By) (SX SY MX MY : ByteArray) (y0 y1 y2 y3 y4 y5 y6 y7 y8 y9 y10 y11 y12 y13 y14 y15 : Value) : (Nat → Bool) → Act → World → Prop := fun L a W => ∃ x16 x17 x18 x19 x20 x21 x22 x23 x24 x25 x26 x27 x28 x29 x30 x31 x32 x33 x34 x35 x36 x37 x38 x39 x40 x41 x42 x43 x44 x45 x46 x47 x48 x49 x50 x51 x52, a = ⟨#[y0, y1, y2, y3, y4, y5, y6, y7, y8, y9, y10, y11, y12, y13, y14, y15, x16, x17, x18, x19, x20, x21, x22, x23, x24, x25, x26, x27, x28, x29, x30, x31, x32, x33, x34, x35, x36, x37, x38, x39, x40, x41, x42, x43, x44, x45, x46, x47, x48, x49, x50, x51, x52], []⟩ ∧ CLA W1 w B off n cap i0 k0 tx ty SX SY MX MY L x16 x17 x18 x19 x20 x21 x22 x23 x24 x25 x26 x27 x28 x29 x30 x31 x32 x33 x34 x35 x36 x37 x38 x39 x40 x41 x42 x43 x44 x45 x46 x47 x48 x49 x50 x51 x52 W
theorem CLA.step {W1 : World} {w : World} {B off n cap i0 k0 : Nat} {tx ty : List By} {SX SY MX MY : ByteArray} {y0 y1 y2 y3 y4 y5 y6 y7 y8 y9 y10 y11 y12 y13 y14 y15 : Value} {P : Program} {ops : Array Oper} {Q : Exit → Act → World → Prop} {i : Nat} {o : Oper} (hq : ∀ x16 x17 x18 x19 x20 x21 x22 x23 x24 x25 x26 x27 x28 x29 x30 x31 x32 x33 x34 x35 x36 x37 x38 x39 x40 x41 x42 x43 x44 x45 x46 x47 x48 x49 x50 x51 x52 (L : Nat → Bool) (W : World), CLA W1 w B off n cap i0 k0 tx ty SX SY MX MY L x16 x17 x18 x19 x20 x21 x22 x23 x24 x25 x26 x27 x28 x29 x30 x31 x32 x33 x34 x35 x36 x37 x38 x39 x40 x41 x42 x43 x44 x45 x46 x47 x48 x49 x50 x51 x52 W → L i = false → (∀ j ∈ onesOf o, L j = true) → ∀ K : Act → World → Prop, Shut (∀ a' w', ICLA W1 w B off n cap i0 k0 tx ty SX SY MX MY y0 y1 y2 y3 y4 y5 y6 y7 y8 y9 y10 y11 y12 y13 y14 y15 (upd L i) a' w' → K a' w') → if Region.wanted o (yielded ops (⟨#[y0, y1, y2, y3, y4, y5, y6, y7, y8, y9, y10, y11, y12, y13, y14, y15, x16, x17, x18, x19, x20, x21, x22, x23, x24, x25, x26, x27, x28, x29, x30, x31, x32, x33, x34, x35, x36, x37, x38, x39, x40, x41, x42, x43, x44, x45, x46, x47, x48, x49, x50, x51, x52], []⟩ : Act).tmps) = true then Oper.wp P o ⟨#[y0, y1, y2, y3, y4, y5, y6, y7, y8, y9, y10, y11, y12, y13, y14, y15, x16, x17, x18, x19, x20, x21, x22, x23, x24, x25, x26, x27, x28, x29, x30, x31, x32, x33, x34, x35, x36, x37, x38, x39, x40, x41, x42, x43, x44, x45, x46, x47, x48, x49, x50, x51, x52], []⟩ W K Q else K ((⟨#[y0, y1, y2, y3, y4, y5, y6, y7, y8, y9, y10, y11, y12, y13, y14, y15, x16, x17, x18, x19, x20, x21, x22, x23, x24, x25, x26, x27, x28, x29, x30, x31, x32, x33, x34, x35, x36, x37, x38, x39, x40, x41, x42, x43, x44, x45, x46, x47, x48, x49, x50, x51, x52], []⟩ : Act).put o.dst undef) W) : StepI P ops (ICLA W1 w B off n cap i0 k0 tx ty SX SY MX MY y0 y1 y2 y3 y4 y5 y6 y7 y8 y9 y10 y11 y12 y13 y14 y15) Q i o := by
  rintro L a W ⟨x16, x17, x18, x19, x20, x21, x22, x23, x24, x25, x26, x27, x28, x29, x30, x31, x32, x33, x34, x35, x36, x37, x38, x39, x40, x41, x42, x43, x44, x45, x46, x47, x48, x49, x50, x51, x52, rfl, h⟩
  exact hq _ _ _ _ _ _ _ _ _ _ _ _ _ _ _ _ _ _ _ _ _ _ _ _ _ _ _ _ _ _ _ _ _ _ _ _ _ _ _ h
structure CLB (W1 : World) (w : World) (B off n cap i0 k0 : Nat) (tx ty : List By) (SX SY MX MY : ByteArray) (L : Nat → Bool) (x16 x17 x18 x19 x20 x21 x22 x23 x24 x25 x26 x27 x28 x29 x30 x31 x32 x33 x34 x35 x36 x37 x38 x39 x40 x41 x42 x43 x44 x45 x46 x47 x48 x49 x50 x51 x52 : Value) (W : World) : Prop where
  x : Dr w W
  p0 : L 0 = true → x16 = .slice (some ⟨B, off, none⟩) n cap
  p1 : L 1 = true → x17 = .int .i64 (i0 : Int)
  p2 : L 2 = true → x18 = .pointer (some ⟨B, off + i0 * 34, none⟩)
  p3 : L 3 = true → x19 = .pointer (some ⟨B, off + i0 * 34 + 2, none⟩)
  p4 : L 4 = true → x20 = .agg (tx.map B8).toArray
  p5 : L 5 = true → x21 = .slice (some ⟨B, off, none⟩) n cap
  p6 : L 6 = true → x22 = .int .i64 (k0 : Int)
  p7 : L 7 = true → x23 = .pointer (some ⟨B, off + k0 * 34, none⟩)
  p8 : L 8 = true → x24 = .pointer (some ⟨B, off + k0 * 34 + 2, none⟩)
  p9 : L 9 = true → x25 = .agg (ty.map B8).toArray
  p10 : L 10 = true → x26 = .bool true
  p11 : L 11 = true → x27 = .bool true
  p12 : L 12 = true → x28 = .slice (some ⟨B, off, none⟩) n cap
  p13 : L 13 = true → x29 = .int .i64 (i0 : Int)
  p14 : L 14 = true → x30 = .pointer (some ⟨B, off + i0 * 34, none⟩)
  p15 : L 15 = true → x31 = .pointer (some ⟨B, off + i0 * 34, none⟩)
  p16 : L 16 = true → x32 = .string SX
  p17 : L 17 = true → x33 = .slice (some ⟨B, off, none⟩) n cap
  p18 : L 18 = true → x34 = .int .i64 (k0 : Int)
  p19 : L 19 = true → x35 = .pointer (some ⟨B, off + k0 * 34, none⟩)
  p20 : L 20 = true → x36 = .pointer (some ⟨B, off + k0 * 34, none⟩)
  p21 : L 21 = true → x37 = .string SY
  p22 : L 22 = true → x38 = .bool true
  p23 : L 23 = true → x39 = .bool true
  p35 : L 35 = true → x51 = .bool true
  p36 : L 36 = true → x52 = .bool true
section
variable {W1 : World} {w : World} {B off n cap i0 k0 : Nat} {tx ty : List By} {SX SY MX MY : ByteArray} {L : Nat → Bool} {x16 x17 x18 x19 x20 x21 x22 x23 x24 x25 x26 x27 x28 x29 x30 x31 x32 x33 x34 x35 x36 x37 x38 x39 x40 x41 x42 x43 x44 x45 x46 x47 x48 x49 x50 x51 x52 : Value} {W W2 : World}
theorem CLB.s0 (h : CLB W1 w B off n cap i0 k0 tx ty SX SY MX MY L x16 x17 x18 x19 x20 x21 x22 x23 x24 x25 x26 x27 x28 x29 x30 x31 x32 x33 x34 x35 x36 x37 x38 x39 x40 x41 x42 x43 x44 x45 x46 x47 x48 x49 x50 x51 x52 W) : CLB W1 w B off n cap i0 k0 tx ty SX SY MX MY (upd L 0) (.slice (some ⟨B, off, none⟩) n cap) x17 x18 x19 x20 x21 x22 x23 x24 x25 x26 x27 x28 x29 x30 x31 x32 x33 x34 x35 x36 x37 x38 x39 x40 x41 x42 x43 x44 x45 x46 x47 x48 x49 x50 x51 x52 W :=
  ⟨h.x, fun _ => rfl, h.p1, h.p2, h.p3, h.p4, h.p5, h.p6, h.p7, h.p8, h.p9, h.p10, h.p11, h.p12, h.p13, h.p14, h.p15, h.p16, h.p17, h.p18, h.p19, h.p20, h.p21, h.p22, h.p23, h.p35, h.p36⟩
theorem CLB.s1 (h : CLB W1 w B off n cap i0 k0 tx ty SX SY MX MY L x16 x17 x18 x19 x20 x21 x22 x23 x24 x25 x26 x27 x28 x29 x30 x31 x32 x33 x34 x35 x36 x37 x38 x39 x40 x41 x42 x43 x44 x45 x46 x47 x48 x49 x50 x51 x52 W) : CLB W1 w B off n cap i0 k0 tx ty SX SY MX MY (upd L 1) x16 (.int .i64 (i0 : Int)) x18 x19 x20 x21 x22 x23 x24 x25 x26 x27 x28 x29 x30 x31 x32 x33 x34 x35 x36 x37 x38 x39 x40 x41 x42 x43 x44 x45 x46 x47 x48 x49 x50 x51 x52 W :=
  ⟨h.x, h.p0, fun _ => rfl, h.p2, h.p3, h.p4, h.p5, h.p6, h.p7, h.p8, h.p9, h.p10, h.p11, h.p12, h.p13, h.p14, h.p15, h.p16, h.p17, h.p18, h.p19, h.p20, h.p21, h.p22, h.p23, h.p35, h.p36⟩
end
@[reducible] def ICLB (W1 : World) (w : World) (B off n cap i0 k0 : Nat) (tx ty : List By) (SX SY MX MY : ByteArray) (y0 y1 y2 y3 y4 y5 y6 y7 y8 y9 y10 y11 y12 y13 y14 y15 : Value) : (Nat → Bool) → Act → World → Prop := fun L a W => ∃ x16 x17 x18 x19 x20 x21 x22 x23 x24 x25 x26 x27 x28 x29 x30 x31 x32 x33 x34 x35 x36 x37 x38 x39 x40 x41 x42 x43 x44 x45 x46 x47 x48 x49 x50 x51 x52, a = ⟨#[y0, y1, y2, y3, y4, y5, y6, y7, y8, y9, y10, y11, y12, y13, y14, y15, x16, x17, x18, x19, x20, x21, x22, x23, x24, x25, x26, x27, x28, x29, x30, x31, x32, x33, x34, x35, x36, x37, x38, x39, x40, x41, x42, x43, x44, x45, x46, x47, x48, x49, x50, x51, x52], []⟩ ∧ CLB W1 w B off n cap i0 k0 tx ty SX SY MX MY L x16 x17 x18 x19 x20 x21 x22 x23 x24 x25 x26 x27 x28 x29 x30 x31 x32 x33 x34 x35 x36 x37 x38 x39 x40 x41 x42 x43 x44 x45 x46 x47 x48 x49 x50 x51 x52 W
theorem CLB.step {W1 : World} {w : World} {B off n cap i0 k0 : Nat} {tx ty : List By} {SX SY MX MY : ByteArray} {y0 y1 y2 y3 y4 y5 y6 y7 y8 y9 y10 y11 y12 y13 y14 y15 : Value} {P : Program} {ops : Array Oper} {Q : Exit → Act → World → Prop} {i : Nat} {o : Oper} (hq : ∀ x16 x17 x18 x19 x20 x21 x22 x23 x24 x25 x26 x27 x28 x29 x30 x31 x32 x33 x34 x35 x36 x37 x38 x39 x40 x41 x42 x43 x44 x45 x46 x47 x48 x49 x50 x51 x52 (L : Nat → Bool) (W : World), CLB W1 w B off n cap i0 k0 tx ty SX SY MX MY L x16 x17 x18 x19 x20 x21 x22 x23 x24 x25 x26 x27 x28 x29 x30 x31 x32 x33 x34 x35 x36 x37 x38 x39 x40 x41 x42 x43 x44 x45 x46 x47 x48 x49 x50 x51 x52 W → L i = false → (∀ j ∈ onesOf o, L j = true) → ∀ K : Act → World → Prop, Shut (∀ a' w', ICLB W1 w B off n cap i0 k0 tx ty SX SY MX MY y0 y1 y2 y3 y4 y5 y6 y7 y8 y9 y10 y11 y12 y13 y14 y15 (upd L i) a' w' → K a' w') → if Region.wanted o (yielded ops (⟨#[y0, y1, y2, y3, y4, y5, y6, y7, y8, y9, y10, y11, y12, y13, y14, y15, x16, x17, x18, x19, x20, x21, x22, x23, x24, x25, x26, x27, x28, x29, x30, x31, x32, x33, x34, x35, x36, x37, x38, x39, x40, x41, x42, x43, x44, x45, x46, x47, x48, x49, x50, x51, x52], []⟩ : Act).tmps) = true then Oper.wp P o ⟨#[y0, y1, y2, y3, y4, y5, y6, y7, y8, y9, y10, y11, y12, y13, y14, y15, x16, x17, x18, x19, x20, x21, x22, x23, x24, x25, x26, x27, x28, x29, x30, x31, x32, x33, x34, x35, x36, x37, x38, x39, x40, x41, x42, x43, x44, x45, x46, x47, x48, x49, x50, x51, x52], []⟩ W K Q else K ((⟨#[y0, y1, y2, y3, y4, y5, y6, y7, y8, y9, y10, y11, y12, y13, y14, y15, x16, x17, x18, x19, x20, x21, x22, x23, x24, x25, x26, x27, x28, x29, x30, x31, x32, x33, x34, x35, x36, x37, x38, x39, x40, x41, x42, x43, x44, x45, x46, x47, x48, x49, x50, x51, x52], []⟩ : Act).put o.dst undef) W) : StepI P ops (ICLB W1 w B off n cap i0 k0 tx ty SX SY MX MY y0 y1 y2 y3 y4 y5 y6 y7 y8 y9 y10 y11 y12 y13 y14 y15) Q i o := by
  rintro L a W ⟨x16, x17, x18, x19, x20, x21, x22, x23, x24, x25, x26, x27, x28, x29, x30, x31, x32, x33, x34, x35, x36, x37, x38, x39, x40, x41, x42, x43, x44, x45, x46, x47, x48, x49, x50, x51, x52, rfl, h⟩
  exact hq _ _ _ _ _ _ _ _ _ _ _ _ _ _ _ _ _ _ _ _ _ _ _ _ _ _ _ _ _ _ _ _ _ _ _ _ _ _ _ h
structure CLC (W1 : World) (w : World) (B off n cap i0 k0 : Nat) (tx ty : List By) (SX SY MX MY : ByteArray) (L : Nat → Bool) (x16 x17 x18 x19 x20 x21 x22 x23 x24 x25 x26 x27 x28 x29 x30 x31 x32 x33 x34 x35 x36 x37 x38 x39 x40 x41 x42 x43 x44 x45 x46 x47 x48 x49 x50 x51 x52 : Value) (W : World) : Prop where
  x : Dr w W
  p0 : L 0 = true → x16 = .slice (some ⟨B, off, none⟩) n cap
  p1 : L 1 = true → x17 = .int .i64 (i0 : Int)
  p2 : L 2 = true → x18 = .pointer (some ⟨B, off + i0 * 34, none⟩)
  p3 : L 3 = true → x19 = .pointer (some ⟨B, off + i0 * 34 + 2, none⟩)
  p4 : L 4 = true → x20 = .agg (tx.map B8).toArray
  p5 : L 5 = true → x21 = .slice (some ⟨B, off, none⟩) n cap
  p6 : L 6 = true → x22 = .int .i64 (k0 : Int)
  p7 : L 7 = true → x23 = .pointer (some ⟨B, off + k0 * 34, none⟩)
  p8 : L 8 = true → x24 = .pointer (some ⟨B, off + k0 * 34 + 2, none⟩)
  p9 : L 9 = true → x25 = .agg (ty.map B8).toArray
  p10 : L 10 = true → x26 = .bool true
  p11 : L 11 = true → x27 = .bool true
  p12 : L 12 = true → x28 = .slice (some ⟨B, off, none⟩) n cap
  p13 : L 13 = true → x29 = .int .i64 (i0 : Int)
  p14 : L 14 = true → x30 = .pointer (some ⟨B, off + i0 * 34, none⟩)
  p15 : L 15 = true → x31 = .pointer (some ⟨B, off + i0 * 34, none⟩)
  p16 : L 16 = true → x32 = .string SX
  p17 : L 17 = true → x33 = .slice (some ⟨B, off, none⟩) n cap
  p18 : L 18 = true → x34 = .int .i64 (k0 : Int)
  p19 : L 19 = true → x35 = .pointer (some ⟨B, off + k0 * 34, none⟩)
  p20 : L 20 = true → x36 = .pointer (some ⟨B, off + k0 * 34, none⟩)
  p21 : L 21 = true → x37 = .string SY
  p22 : L 22 = true → x38 = .bool false
  p23 : L 23 = true → x39 = .bool false
  p24 : L 24 = true → x40 = .slice (some ⟨B, off, none⟩) n cap
  p25 : L 25 = true → x41 = .int .i64 (i0 : Int)
  p26 : L 26 = true → x42 = .pointer (some ⟨B, off + i0 * 34, none⟩)
  p27 : L 27 = true → x43 = .pointer (some ⟨B, off + i0 * 34 + 1, none⟩)
  p28 : L 28 = true → x44 = .string MX
  p29 : L 29 = true → x45 = .slice (some ⟨B, off, none⟩) n cap
  p30 : L 30 = true → x46 = .int .i64 (k0 : Int)
  p31 : L 31 = true → x47 = .pointer (some ⟨B, off + k0 * 34, none⟩)
  p32 : L 32 = true → x48 = .pointer (some ⟨B, off + k0 * 34 + 1, none⟩)
  p33 : L 33 = true → x49 = .string MY
  p34 : L 34 = true → x50 = .bool true
  p35 : L 35 = true → x51 = .bool true
  p36 : L 36 = true → x52 = .bool true
section
variable {W1 : World} {w : World} {B off n cap i0 k0 : Nat} {tx ty : List By} {SX SY MX MY : ByteArray} {L : Nat → Bool} {x16 x17 x18 x19 x20 x21 x22 x23 x24 x25 x26 x27 x28 x29 x30 x31 x32 x33 x34 x35 x36 x37 x38 x39 x40 x41 x42 x43 x44 x45 x46 x47 x48 x49 x50 x51 x52 : Value} {W W2 : World}
theorem CLC.s0 (h : CLC W1 w B off n cap i0 k0 tx ty SX SY MX MY L x16 x17 x18 x19 x20 x21 x22 x23 x24 x25 x26 x27 x28 x29 x30 x31 x32 x33 x34 x35 x36 x37 x38 x39 x40 x41 x42 x43 x44 x45 x46 x47 x48 x49 x50 x51 x52 W) : CLC W1 w B off n cap i0 k0 tx ty SX SY MX MY (upd L 0) (.slice (some ⟨B, off, none⟩) n cap) x17 x18 x19 x20 x21 x22 x23 x24 x25 x26 x27 x28 x29 x30 x31 x32 x33 x34 x35 x36 x37 x38 x39 x40 x41 x42 x43 x44 x45 x46 x47 x48 x49 x50 x51 x52 W :=
  ⟨h.x, fun _ => rfl, h.p1, h.p2, h.p3, h.p4, h.p5, h.p6, h.p7, h.p8, h.p9, h.p10, h.p11, h.p12, h.p13, h.p14, h.p15, h.p16, h.p17, h.p18, h.p19, h.p20, h.p21, h.p22, h.p23, h.p24, h.p25, h.p26, h.p27, h.p28, h.p29, h.p30, h.p31, h.p32, h.p33, h.p34, h.p35, h.p36⟩
theorem CLC.s1 (h : CLC W1 w B off n cap i0 k0 tx ty SX SY MX MY L x16 x17 x18 x19 x20 x21 x22 x23 x24 x25 x26 x27 x28 x29 x30 x31 x32 x33 x34 x35 x36 x37 x38 x39 x40 x41 x42 x43 x44 x45 x46 x47 x48 x49 x50 x51 x52 W) : CLC W1 w B off n cap i0 k0 tx ty SX SY MX MY (upd L 1) x16 (.int .i64 (i0 : Int)) x18 x19 x20 x21 x22 x23 x24 x25 x26 x27 x28 x29 x30 x31 x32 x33 x34 x35 x36 x37 x38 x39 x40 x41 x42 x43 x44 x45 x46 x47 x48 x49 x50 x51 x52 W :=
  ⟨h.x, h.p0, fun _ => rfl, h.p2, h.p3, h.p4, h.p5, h.p6, h.p7, h.p8, h.p9, h.p10, h.p11, h.p12, h.p13, h.p14, h.p15, h.p16, h.p17, h.p18, h.p19, h.p20, h.p21, h.p22, h.p23, h.p24, h.p25, h.p26, h.p27, h.p28, h.p29, h.p30, h.p31, h.p32, h.p33, h.p34, h.p35, h.p36⟩
end
@[reducible] def ICLC (W1 : World) (w : World) (B off n cap i0 k0 : Nat) (tx ty : List By) (SX SY MX MY : ByteArray) (y0 y1 y2 y3 y4 y5 y6 y7 y8 y9 y10 y11 y12 y13 y14 y15 : Value) : (Nat → Bool) → Act → World → Prop := fun L a W => ∃ x16 x17 x18 x19 x20 x21 x22 x23 x24 x25 x26 x27 x28 x29 x30 x31 x32 x33 x34 x35 x36 x37 x38 x39 x40 x41 x42 x43 x44 x45 x46 x47 x48 x49 x50 x51 x52, a = ⟨#[y0, y1, y2, y3, y4, y5, y6, y7, y8, y9, y10, y11, y12, y13, y14, y15, x16, x17, x18, x19, x20, x21, x22, x23, x24, x25, x26, x27, x28, x29, x30, x31, x32, x33, x34, x35, x36, x37, x38, x39, x40, x41, x42, x43, x44, x45, x46, x47, x48, x49, x50, x51, x52], []⟩ ∧ CLC W1 w B off n cap i0 k0 tx ty SX SY MX MY L x16 x17 x18 x19 x20 x21 x22 x23 x24 x25 x26 x27 x28 x29 x30 x31 x32 x33 x34 x35 x36 x37 x38 x39 x40 x41 x42 x43 x44 x45 x46 x47 x48 x49 x50 x51 x52 W
theorem CLC.step {W1 : World} {w : World} {B off n cap i0 k0 : Nat} {tx ty : List By} {SX SY MX MY : ByteArray} {y0 y1 y2 y3 y4 y5 y6 y7 y8 y9 y10 y11 y12 y13 y14 y15 : Value} {P : Program} {ops : Array Oper} {Q : Exit → Act → World → Prop} {i : Nat} {o : Oper} (hq : ∀ x16 x17 x18 x19 x20 x21 x22 x23 x24 x25 x26 x27 x28 x29 x30 x31 x32 x33 x34 x35 x36 x37 x38 x39 x40 x41 x42 x43 x44 x45 x46 x47 x48 x49 x50 x51 x52 (L : Nat → Bool) (W : World), CLC W1 w B off n cap i0 k0 tx ty SX SY MX MY L x16 x17 x18 x19 x20 x21 x22 x23 x24 x25 x26 x27 x28 x29 x30 x31 x32 x33 x34 x35 x36 x37 x38 x39 x40 x41 x42 x43 x44 x45 x46 x47 x48 x49 x50 x51 x52 W → L i = false → (∀ j ∈ onesOf o, L j = true) → ∀ K : Act → World → Prop, Shut (∀ a' w', ICLC W1 w B off n cap i0 k0 tx ty SX SY MX MY y0 y1 y2 y3 y4 y5 y6 y7 y8 y9 y10 y11 y12 y13 y14 y15 (upd L i) a' w' → K a' w') → if Region.wanted o (yielded ops (⟨#[y0, y1, y2, y3, y4, y5, y6, y7, y8, y9, y10, y11, y12, y13, y14, y15, x16, x17, x18, x19, x20, x21, x22, x23, x24, x25, x26, x27, x28, x29, x30, x31, x32, x33, x34, x35, x36, x37, x38, x39, x40, x41, x42, x43, x44, x45, x46, x47, x48, x49, x50, x51, x52], []⟩ : Act).tmps) = true then Oper.wp P o ⟨#[y0, y1, y2, y3, y4, y5, y6, y7, y8, y9, y10, y11, y12, y13, y14, y15, x16, x17, x18, x19, x20, x21, x22, x23, x24, x25, x26, x27, x28, x29, x30, x31, x32, x33, x34, x35, x36, x37, x38, x39, x40, x41, x42, x43, x44, x45, x46, x47, x48, x49, x50, x51, x52], []⟩ W K Q else K ((⟨#[y0, y1, y2, y3, y4, y5, y6, y7, y8, y9, y10, y11, y12, y13, y14, y15, x16, x17, x18, x19, x20, x21, x22, x23, x24, x25, x26, x27, x28, x29, x30, x31, x32, x33, x34, x35, x36, x37, x38, x39, x40, x41, x42, x43, x44, x45, x46, x47, x48, x49, x50, x51, x52], []⟩ : Act).put o.dst undef) W) : StepI P ops (ICLC W1 w B off n cap i0 k0 tx ty SX SY MX MY y0 y1 y2 y3 y4 y5 y6 y7 y8 y9 y10 y11 y12 y13 y14 y15) Q i o := by
  rintro L a W ⟨x16, x17, x18, x19, x20, x21, x22, x23, x24, x25, x26, x27, x28, x29, x30, x31, x32, x33, x34, x35, x36, x37, x38, x39, x40, x41, x42, x43, x44, x45, x46, x47, x48, x49, x50, x51, x52, rfl, h⟩
  exact hq _ _ _ _ _ _ _ _ _ _ _ _ _ _ _ _ _ _ _ _ _ _ _ _ _ _ _ _ _ _ _ _ _ _ _ _ _ _ _ h
structure CLD (W1 : World) (w : World) (B off n cap i0 k0 : Nat) (tx ty : List By) (SX SY MX MY : ByteArray) (L : Nat → Bool) (x16 x17 x18 x19 x20 x21 x22 x23 x24 x25 x26 x27 x28 x29 x30 x31 x32 x33 x34 x35 x36 x37 x38 x39 x40 x41 x42 x43 x44 x45 x46 x47 x48 x49 x50 x51 x52 : Value) (W : World) : Prop where
  x : Dr w W
  p0 : L 0 = true → x16 = .slice (some ⟨B, off, none⟩) n cap
  p1 : L 1 = true → x17 = .int .i64 (i0 : Int)
  p2 : L 2 = true → x18 = .pointer (some ⟨B, off + i0 * 34, none⟩)
  p3 : L 3 = true → x19 = .pointer (some ⟨B, off + i0 * 34 + 2, none⟩)
  p4 : L 4 = true → x20 = .agg (tx.map B8).toArray
  p5 : L 5 = true → x21 = .slice (some ⟨B, off, none⟩) n cap
  p6 : L 6 = true → x22 = .int .i64 (k0 : Int)
  p7 : L 7 = true → x23 = .pointer (some ⟨B, off + k0 * 34, none⟩)
  p8 : L 8 = true → x24 = .pointer (some ⟨B, off + k0 * 34 + 2, none⟩)
  p9 : L 9 = true → x25 = .agg (ty.map B8).toArray
  p10 : L 10 = true → x26 = .bool true
  p11 : L 11 = true → x27 = .bool true
  p12 : L 12 = true → x28 = .slice (some ⟨B, off, none⟩) n cap
  p13 : L 13 = true → x29 = .int .i64 (i0 : Int)
  p14 : L 14 = true → x30 = .pointer (some ⟨B, off + i0 * 34, none⟩)
  p15 : L 15 = true → x31 = .pointer (some ⟨B, off + i0 * 34, none⟩)
  p16 : L 16 = true → x32 = .string SX
  p17 : L 17 = true → x33 = .slice (some ⟨B, off, none⟩) n cap
  p18 : L 18 = true → x34 = .int .i64 (k0 : Int)
  p19 : L 19 = true → x35 = .pointer (some ⟨B, off + k0 * 34, none⟩)
  p20 : L 20 = true → x36 = .pointer (some ⟨B, off + k0 * 34, none⟩)
  p21 : L 21 = true → x37 = .string SY
  p22 : L 22 = true → x38 = .bool false
  p23 : L 23 = true → x39 = .bool false
  p24 : L 24 = true → x40 = .slice (some ⟨B, off, none⟩) n cap
  p25 : L 25 = true → x41 = .int .i64 (i0 : Int)
  p26 : L 26 = true → x42 = .pointer (some ⟨B, off + i0 * 34, none⟩)
  p27 : L 27 = true → x43 = .pointer (some ⟨B, off + i0 * 34 + 1, none⟩)
  p28 : L 28 = true → x44 = .string MX
  p29 : L 29 = true → x45 = .slice (some ⟨B, off, none⟩) n cap
  p30 : L 30 = true → x46 = .int .i64 (k0 : Int)
  p31 : L 31 = true → x47 = .pointer (some ⟨B, off + k0 * 34, none⟩)
  p32 : L 32 = true → x48 = .pointer (some ⟨B, off + k0 * 34 + 1, none⟩)
  p33 : L 33 = true → x49 = .string MY
  p34 : L 34 = true → x50 = .bool false
  p35 : L 35 = true → x51 = .bool false
  p36 : L 36 = true → x52 = .bool false
section
variable {W1 : World} {w : World} {B off n cap i0 k0 : Nat} {tx ty : List By} {SX SY MX MY : ByteArray} {L : Nat → Bool} {x16 x17 x18 x19 x20 x21 x22 x23 x24 x25 x26 x27 x28 x29 x30 x31 x32 x33 x34 x35 x36 x37 x38 x39 x40 x41 x42 x43 x44 x45 x46 x47 x48 x49 x50 x51 x52 : Value} {W W2 : World}
theorem CLD.s0 (h : CLD W1 w B off n cap i0 k0 tx ty SX SY MX MY L x16 x17 x18 x19 x20 x21 x22 x23 x24 x25 x26 x27 x28 x29 x30 x31 x32 x33 x34 x35 x36 x37 x38 x39 x40 x41 x42 x43 x44 x45 x46 x47 x48 x49 x50 x51 x52 W) : CLD W1 w B off n cap i0 k0 tx ty SX SY MX MY (upd L 0) (.slice (some ⟨B, off, none⟩) n cap) x17 x18 x19 x20 x21 x22 x23 x24 x25 x26 x27 x28 x29 x30 x31 x32 x33 x34 x35 x36 x37 x38 x39 x40 x41 x42 x43 x44 x45 x46 x47 x48 x49 x50 x51 x52 W :=
  ⟨h.x, fun _ => rfl, h.p1, h.p2, h.p3, h.p4, h.p5, h.p6, h.p7, h.p8, h.p9, h.p10, h.p11, h.p12, h.p13, h.p14, h.p15, h.p16, h.p17, h.p18, h.p19, h.p20, h.p21, h.p22, h.p23, h.p24, h.p25, h.p26, h.p27, h.p28, h.p29, h.p30, h.p31, h.p32, h.p33, h.p34, h.p35, h.p36⟩
theorem CLD.s1 (h : CLD W1 w B off n cap i0 k0 tx ty SX SY MX MY L x16 x17 x18 x19 x20 x21 x22 x23 x24 x25 x26 x27 x28 x29 x30 x31 x32 x33 x34 x35 x36 x37 x38 x39 x40 x41 x42 x43 x44 x45 x46 x47 x48 x49 x50 x51 x52 W) : CLD W1 w B off n cap i0 k0 tx ty SX SY MX MY (upd L 1) x16 (.int .i64 (i0 : Int)) x18 x19 x20 x21 x22 x23 x24 x25 x26 x27 x28 x29 x30 x31 x32 x33 x34 x35 x36 x37 x38 x39 x40 x41 x42 x43 x44 x45 x46 x47 x48 x49 x50 x51 x52 W :=
  ⟨h.x, h.p0, fun _ => rfl, h.p2, h.p3, h.p4, h.p5, h.p6, h.p7, h.p8, h.p9, h.p10, h.p11, h.p12, h.p13, h.p14, h.p15, h.p16, h.p17, h.p18, h.p19, h.p20, h.p21, h.p22, h.p23, h.p24, h.p25, h.p26, h.p27, h.p28, h.p29, h.p30, h.p31, h.p32, h.p33, h.p34, h.p35, h.p36⟩
end
@[reducible] def ICLD (W1 : World) (w : World) (B off n cap i0 k0 : Nat) (tx ty : List By) (SX SY MX MY : ByteArray) (y0 y1 y2 y3 y4 y5 y6 y7 y8 y9 y10 y11 y12 y13 y14 y15 : Value) : (Nat → Bool) → Act → World → Prop := fun L a W => ∃ x16 x17 x18 x19 x20 x21 x22 x23 x24 x25 x26 x27 x28 x29 x30 x31 x32 x33 x34 x35 x36 x37 x38 x39 x40 x41 x42 x43 x44 x45 x46 x47 x48 x49 x50 x51 x52, a = ⟨#[y0, y1, y2, y3, y4, y5, y6, y7, y8, y9, y10, y11, y12, y13, y14, y15, x16, x17, x18, x19, x20, x21, x22, x23, x24, x25, x26, x27, x28, x29, x30, x31, x32, x33, x34, x35, x36, x37, x38, x39, x40, x41, x42, x43, x44, x45, x46, x47, x48, x49, x50, x51, x52], []⟩ ∧ CLD W1 w B off n cap i0 k0 tx ty SX SY MX MY L x16 x17 x18 x19 x20 x21 x22 x23 x24 x25 x26 x27 x28 x29 x30 x31 x32 x33 x34 x35 x36 x37 x38 x39 x40 x41 x42 x43 x44 x45 x46 x47 x48 x49 x50 x51 x52 W
theorem CLD.step {W1 : World} {w : World} {B off n cap i0 k0 : Nat} {tx ty : List By} {SX SY MX MY : ByteArray} {y0 y1 y2 y3 y4 y5 y6 y7 y8 y9 y10 y11 y12 y13 y14 y15 : Value} {P : Program} {ops : Array Oper} {Q : Exit → Act → World → Prop} {i : Nat} {o : Oper} (hq : ∀ x16 x17 x18 x19 x20 x21 x22 x23 x24 x25 x26 x27 x28 x29 x30 x31 x32 x33 x34 x35 x36 x37 x38 x39 x40 x41 x42 x43 x44 x45 x46 x47 x48 x49 x50 x51 x52 (L : Nat → Bool) (W : World), CLD W1 w B off n cap i0 k0 tx ty SX SY MX MY L x16 x17 x18 x19 x20 x21 x22 x23 x24 x25 x26 x27 x28 x29 x30 x31 x32 x33 x34 x35 x36 x37 x38 x39 x40 x41 x42 x43 x44 x45 x46 x47 x48 x49 x50 x51 x52 W → L i = false → (∀ j ∈ onesOf o, L j = true) → ∀ K : Act → World → Prop, Shut (∀ a' w', ICLD W1 w B off n cap i0 k0 tx ty SX SY MX MY y0 y1 y2 y3 y4 y5 y6 y7 y8 y9 y10 y11 y12 y13 y14 y15 (upd L i) a' w' → K a' w') → if Region.wanted o (yielded ops (⟨#[y0, y1, y2, y3, y4, y5, y6, y7, y8, y9, y10, y11, y12, y13, y14, y15, x16, x17, x18, x19, x20, x21, x22, x23, x24, x25, x26, x27, x28, x29, x30, x31, x32, x33, x34, x35, x36, x37, x38, x39, x40, x41, x42, x43, x44, x45, x46, x47, x48, x49, x50, x51, x52], []⟩ : Act).tmps) = true then Oper.wp P o ⟨#[y0, y1, y2, y3, y4, y5, y6, y7, y8, y9, y10, y11, y12, y13, y14, y15, x16, x17, x18, x19, x20, x21, x22, x23, x24, x25, x26, x27, x28, x29, x30, x31, x32, x33, x34, x35, x36, x37, x38, x39, x40, x41, x42, x43, x44, x45, x46, x47, x48, x49, x50, x51, x52], []⟩ W K Q else K ((⟨#[y0, y1, y2, y3, y4, y5, y6, y7, y8, y9, y10, y11, y12, y13, y14, y15, x16, x17, x18, x19, x20, x21, x22, x23, x24, x25, x26, x27, x28, x29, x30, x31, x32, x33, x34, x35, x36, x37, x38, x39, x40, x41, x42, x43, x44, x45, x46, x47, x48, x49, x50, x51, x52], []⟩ : Act).put o.dst undef) W) : StepI P ops (ICLD W1 w B off n cap i0 k0 tx ty SX SY MX MY y0 y1 y2 y3 y4 y5 y6 y7 y8 y9 y10 y11 y12 y13 y14 y15) Q i o := by
  rintro L a W ⟨x16, x17, x18, x19, x20, x21, x22, x23, x24, x25, x26, x27, x28, x29, x30, x31, x32, x33, x34, x35, x36, x37, x38, x39, x40, x41, x42, x43, x44, x45, x46, x47, x48, x49, x50, x51, x52, rfl, h⟩
  exact hq _ _ _ _ _ _ _ _ _ _ _ _ _ _ _ _ _ _ _ _ _ _ _ _ _ _ _ _ _ _ _ _ _ _ _ _ _ _ _ h
/-- Pairs in memory. -/
def PrIn (W : World) (B off : Nat) (L : List (List By × List By × List By)) : Prop := ∀ (i : Nat) (p : List By × List By × List By), L[i]? = some p → W.rangeAt B (off + i * 34) (prC p)
/-- Is there none among the first i, and of the number i with the first k? -/
def NoCl (L : List (List By × List By × List By)) (i k : Nat) : Prop := ∀ a b x y, a < b → (b < i ∨ b = i ∧ a < k) → L[b]? = some x → L[a]? = some y → ¬ (x.2.2 = y.2.2 ∧ (x.1 ≠ y.1 ∨ x.2.1 ≠ y.2.1))
theorem nocl_all {L : List (List By × List By × List By)} (h : NoCl L L.length 0) : ¬ clashP L := by
  rintro ⟨x, hx, y, hy, ht, hn⟩
  obtain ⟨b, hb, rfl⟩ := List.getElem_of_mem hx
  obtain ⟨a, ha, rfl⟩ := List.getElem_of_mem hy
  rcases Nat.lt_trichotomy a b with h1 | h1 | h1
  · exact h a b _ _ h1 (.inl hb) (List.getElem?_eq_getElem hb) (List.getElem?_eq_getElem ha) ⟨ht, hn⟩
  · subst h1
    rcases hn with hn | hn <;> exact hn rfl
  · exact h b a _ _ h1 (.inl ha) (List.getElem?_eq_getElem ha) (List.getElem?_eq_getElem hb) ⟨ht.symm, hn.imp Ne.symm Ne.symm⟩
set_option maxHeartbeats 4000000 in
theorem r24Clash_any (B off cap : Nat) (L : List (List By × List By × List By)) (w : World) (hL : PrIn w B off L) (ht : ∀ p ∈ L, p.2.2.length = 32) (hn : L.length ≤ 1000) (v : Bool) (hv : v = true ↔ clashP L) :
    Calls Tryz.prog 20 #[.slice (some ⟨B, off, none⟩) L.length cap] w fun e w' => e = .returned (.bool v) ∧ Below w.heap.size w w' := by
  obtain ⟨n, hnn⟩ : ∃ n, n = L.length := ⟨_, rfl⟩
  have HN : Hid (n = L.length) := hnn
  have HNB : Hid (n ≤ 1000) := by show n ≤ _; omega
  have HP : Hid (∀ W, Dr w W → PrIn W B off L) := fun W hW => by obtain ⟨k, rfl⟩ := hW; exact hL
  have HT : Hid (∀ p ∈ L, p.2.2.length = 32) := ht
  have HV : Hid (v = true ↔ clashP L) := hv
  rw [← hnn]
  clear hL ht hn hv hnn
  go_enter Tryz.func20, Tryz.ntmps20
  go_wp2
  go_loopw [3] (fun iv wr => ∃ i : Nat, i ≤ n ∧ iv = .int .i64 (i : Int) ∧ Hid (Dr w wr) ∧ Hid (NoCl L i 0)) (fun iv _ => n - (intOf iv).toNat)
  case atStart => exact ⟨0, by omega, rfl, Dr.refl _, fun a b x y h1 h2 => by omega⟩
  case round =>
    obtain ⟨i, hi, rfl, HD, HC⟩ := hrel
    by_cases hlt : i < n
    · have y1 : (i : Int) < (n : Int) := by omega
      have y0 : (0 : Int) ≤ (i : Int) := by omega
      have z1 : IntKind.i64.wrap ((i : Int) + 1) = (i : Int) + 1 := i64_in _ (by omega) (by have := HNB.out; omega)
      have HLT : Hid (i < n) := hlt
      clear hlt hi
      obtain ⟨wo, hwo⟩ : ∃ wo, wo = wr := ⟨wr, rfl⟩
      subst hwo
      go_wp2
      go_loopw [4] (fun kv wr => ∃ k : Nat, k ≤ i ∧ kv = .int .i64 (k : Int) ∧ Hid (Dr w wr) ∧ Hid (NoCl L i k)) (fun kv _ => i - (intOf kv).toNat)
      case atStart => exact ⟨0, by omega, rfl, HD, HC⟩
      case round =>
        clear HD HC
        obtain ⟨k, hk, rfl, HD, HC⟩ := hrel
        by_cases hkl : k < i
        · have x1 : (k : Int) < (i : Int) := by omega
          have x0 : (0 : Int) ≤ (k : Int) := by omega
          have x2 : (k : Int) < (n : Int) := by have := HLT.out; omega
          have z2 : IntKind.i64.wrap ((k : Int) + 1) = (k : Int) + 1 := i64_in _ (by omega) (by have := HNB.out; have := HLT.out; omega)
          obtain ⟨p, hp⟩ : ∃ p, L[i]? = some p := ⟨_, List.getElem?_eq_getElem (by rw [← HN.out]; exact HLT.out)⟩
          obtain ⟨q, hq⟩ : ∃ q, L[k]? = some q := ⟨_, List.getElem?_eq_getElem (by rw [← HN.out]; have := HLT.out; omega)⟩
          have HKL : Hid (k < i) := hkl
          have tp := HT.out p (List.mem_of_getElem? hp)
          have tq := HT.out q (List.mem_of_getElem? hq)
          have YES : Hid (p.2.2 = q.2.2 ∧ (p.1 ≠ q.1 ∨ p.2.1 ≠ q.2.1) → v = true) := fun h => HV.out.2 ⟨p, List.mem_of_getElem? hp, q, List.mem_of_getElem? hq, h.1, h.2⟩
          have NXT : Hid (¬ (p.2.2 = q.2.2 ∧ (p.1 ≠ q.1 ∨ p.2.1 ≠ q.2.1)) → NoCl L i (k + 1)) := fun h a b x y h1 h2 h3 h4 => by
            by_cases he : b = i ∧ a = k
            · obtain ⟨rfl, rfl⟩ := he
              rw [hp] at h3; rw [hq] at h4
              injection h3 with h3; injection h4 with h4
              subst h3; subst h4
              exact h
            · exact HC.out a b x y h1 (by rcases h2 with h2 | ⟨h2, h5⟩; exact .inl h2; exact .inr ⟨h2, by omega⟩) h3 h4
          have R1 : Hid (∀ W, Dr w W → W.rangeAt B (off + i * 34) (prC p)) := fun W hW => HP.out W hW i p hp
          have R2 : Hid (∀ W, Dr w W → W.rangeAt B (off + k * 34) (prC q)) := fun W hW => HP.out W hW k q hq
          have A0 : Hid (∀ W, Dr w W → W.cell? ⟨B, off + i * 34, none⟩ = some (.string (strOf p.1))) := fun W hW => (R1.out W hW) 0 _ rfl
          have A1 : Hid (∀ W, Dr w W → W.cell? ⟨B, off + i * 34 + 1, none⟩ = some (.string (strOf p.2.1))) := fun W hW => (R1.out W hW) 1 _ rfl
          have A2 : Hid (∀ W, Dr w W → W.rangeAt B (off + i * 34 + 2) (p.2.2.map B8)) := fun W hW j v hj => by
            have := (R1.out W hW) (2 + j) v (by unfold prC; rw [List.getElem?_append_right (by simp)]; simpa using hj)
            rw [← Nat.add_assoc] at this; exact this
          have C0 : Hid (∀ W, Dr w W → W.cell? ⟨B, off + k * 34, none⟩ = some (.string (strOf q.1))) := fun W hW => (R2.out W hW) 0 _ rfl
          have C1 : Hid (∀ W, Dr w W → W.cell? ⟨B, off + k * 34 + 1, none⟩ = some (.string (strOf q.2.1))) := fun W hW => (R2.out W hW) 1 _ rfl
          have C2 : Hid (∀ W, Dr w W → W.rangeAt B (off + k * 34 + 2) (q.2.2.map B8)) := fun W hW j v hj => by
            have := (R2.out W hW) (2 + j) v (by unfold prC; rw [List.getElem?_append_right (by simp)]; simpa using hj)
            rw [← Nat.add_assoc] at this; exact this
          have LP : Hid ((p.2.2.map B8).length = 32) := by show _ = _; rw [List.length_map, tp]
          have LQ : Hid ((q.2.2.map B8).length = 32) := by show _ = _; rw [List.length_map, tq]
          have EQ := eq_any p.2.2 q.2.2 tp tq
          clear hkl hk HC hp hq R1 R2
          obtain ⟨a, b, tx⟩ := p
          obtain ⟨a', b', ty⟩ := q
          dsimp only at *
          by_cases h1 : tx = ty
          · have EQT := fun W => EQ true (by simp [h1]) W
            by_cases h2 : a = a'
            · by_cases h3 : b = b'
              · have e2 : ((strOf a).toList == (strOf a').toList) = true := by rw [h2]; simp
                have e3 : ((strOf b).toList == (strOf b').toList) = true := by rw [h3]; simp
                have HNX : Hid (NoCl L i (k + 1)) := NXT.out (fun h => by rcases h.2 with h | h; exact h h2; exact h h3)
                clear EQ NXT YES h1 h2 h3 tp tq
                generalize strOf a = SX at *
                generalize strOf a' = SY at *
                generalize strOf b = MX at *
                generalize strOf b' = MY at *
                go_upto_region 7 with fail
                refine wp_region_inv (ICLD wr w B off n cap i k tx ty SX SY MX MY _ _ _ _ _ _ _ _ _ _ _ _ _ _ _ _) (by kernel_rfl) (by kernel_rfl) ⟨_, _, _, _, _, _, _, _, _, _, _, _, _, _, _, _, _, _, _, _, _, _, _, _, _, _, _, _, _, _, _, _, _, _, _, _, _, rfl, ⟨HD.out.drewN 1, fun k => (by cases k), fun k => (by cases k), fun k => (by cases k), fun k => (by cases k), fun k => (by cases k), fun k => (by cases k), fun k => (by cases k), fun k => (by cases k), fun k => (by cases k), fun k => (by cases k), fun k => (by cases k), fun k => (by cases k), fun k => (by cases k), fun k => (by cases k), fun k => (by cases k), fun k => (by cases k), fun k => (by cases k), fun k => (by cases k), fun k => (by cases k), fun k => (by cases k), fun k => (by cases k), fun k => (by cases k), fun k => (by cases k), fun k => (by cases k), fun k => (by cases k), fun k => (by cases k), fun k => (by cases k), fun k => (by cases k), fun k => (by cases k), fun k => (by cases k), fun k => (by cases k), fun k => (by cases k), fun k => (by cases k), fun k => (by cases k), fun k => (by cases k), fun k => (by cases k), fun k => (by cases k)⟩⟩ ?_ ?_
                · refine .cons ?_ (.cons ?_ (.cons ?_ (.cons ?_ (.cons ?_ (.cons ?_ (.cons ?_ (.cons ?_ (.cons ?_ (.cons ?_ (.cons ?_ (.cons ?_ (.cons ?_ (.cons ?_ (.cons ?_ (.cons ?_ (.cons ?_ (.cons ?_ (.cons ?_ (.cons ?_ (.cons ?_ (.cons ?_ (.cons ?_ (.cons ?_ (.cons ?_ (.cons ?_ (.cons ?_ (.cons ?_ (.cons ?_ (.cons ?_ (.cons ?_ (.cons ?_ (.cons ?_ (.cons ?_ (.cons ?_ (.cons ?_ (.cons ?_ .nil))))))))))))))))))))))))))))))))))))
                  all_goals (refine CLD.step ?_; intro x16 x17 x18 x19 x20 x21 x22 x23 x24 x25 x26 x27 x28 x29 x30 x31 x32 x33 x34 x35 x36 x37 x38 x39 x40 x41 x42 x43 x44 x45 x46 x47 x48 x49 x50 x51 x52 L W hI hL hd K hK)
                  · rw [if_pos (by rfl)]
                    go_simp
                    exact hK.out _ _ ⟨_, _, _, _, _, _, _, _, _, _, _, _, _, _, _, _, _, _, _, _, _, _, _, _, _, _, _, _, _, _, _, _, _, _, _, _, _, rfl, { hI with p0 := fun _ => rfl }⟩
                  · rw [if_pos (by rfl)]
                    go_simp
                    exact hK.out _ _ ⟨_, _, _, _, _, _, _, _, _, _, _, _, _, _, _, _, _, _, _, _, _, _, _, _, _, _, _, _, _, _, _, _, _, _, _, _, _, rfl, { hI with p1 := fun _ => rfl }⟩
                  · obtain rfl := hI.p0 (hd 0 (by decide))
                    obtain rfl := hI.p1 (hd 1 (by decide))
                    rw [if_pos (by rfl)]
                    go_simp
                    exact hK.out _ _ ⟨_, _, _, _, _, _, _, _, _, _, _, _, _, _, _, _, _, _, _, _, _, _, _, _, _, _, _, _, _, _, _, _, _, _, _, _, _, rfl, { hI with p2 := fun _ => rfl }⟩
                  · obtain rfl := hI.p2 (hd 2 (by decide))
                    rw [if_pos (by rfl)]
                    go_simp
                    exact hK.out _ _ ⟨_, _, _, _, _, _, _, _, _, _, _, _, _, _, _, _, _, _, _, _, _, _, _, _, _, _, _, _, _, _, _, _, _, _, _, _, _, rfl, { hI with p3 := fun _ => rfl }⟩
                  · obtain rfl := hI.p3 (hd 3 (by decide))
                    refine step_load_rng (by rfl) 26 _ rfl B (off + i * 34 + 2) (tx.map B8) (A2.out _ hI.x) rfl _ Tryz.underlying26 rfl (by rw [LP.out]; kernel_rfl) ?_
                    exact hK.out _ _ ⟨_, _, _, _, _, _, _, _, _, _, _, _, _, _, _, _, _, _, _, _, _, _, _, _, _, _, _, _, _, _, _, _, _, _, _, _, _, rfl, { hI with p4 := fun _ => rfl }⟩
                  · rw [if_pos (by rfl)]
                    go_simp
                    exact hK.out _ _ ⟨_, _, _, _, _, _, _, _, _, _, _, _, _, _, _, _, _, _, _, _, _, _, _, _, _, _, _, _, _, _, _, _, _, _, _, _, _, rfl, { hI with p5 := fun _ => rfl }⟩
                  · rw [if_pos (by rfl)]
                    go_simp
                    exact hK.out _ _ ⟨_, _, _, _, _, _, _, _, _, _, _, _, _, _, _, _, _, _, _, _, _, _, _, _, _, _, _, _, _, _, _, _, _, _, _, _, _, rfl, { hI with p6 := fun _ => rfl }⟩
                  · obtain rfl := hI.p5 (hd 5 (by decide))
                    obtain rfl := hI.p6 (hd 6 (by decide))
                    rw [if_pos (by rfl)]
                    go_simp
                    exact hK.out _ _ ⟨_, _, _, _, _, _, _, _, _, _, _, _, _, _, _, _, _, _, _, _, _, _, _, _, _, _, _, _, _, _, _, _, _, _, _, _, _, rfl, { hI with p7 := fun _ => rfl }⟩
                  · obtain rfl := hI.p7 (hd 7 (by decide))
                    rw [if_pos (by rfl)]
                    go_simp
                    exact hK.out _ _ ⟨_, _, _, _, _, _, _, _, _, _, _, _, _, _, _, _, _, _, _, _, _, _, _, _, _, _, _, _, _, _, _, _, _, _, _, _, _, rfl, { hI with p8 := fun _ => rfl }⟩
                  · obtain rfl := hI.p8 (hd 8 (by decide))
                    refine step_load_rng (by rfl) 26 _ rfl B (off + k * 34 + 2) (ty.map B8) (C2.out _ hI.x) rfl _ Tryz.underlying26 rfl (by rw [LQ.out]; kernel_rfl) ?_
                    exact hK.out _ _ ⟨_, _, _, _, _, _, _, _, _, _, _, _, _, _, _, _, _, _, _, _, _, _, _, _, _, _, _, _, _, _, _, _, _, _, _, _, _, rfl, { hI with p9 := fun _ => rfl }⟩
                  · obtain rfl := hI.p4 (hd 4 (by decide))
                    obtain rfl := hI.p9 (hd 9 (by decide))
                    rw [if_pos (by rfl)]
                    have heq := EQT W
                    go_simp
                    exact hK.out _ _ ⟨_, _, _, _, _, _, _, _, _, _, _, _, _, _, _, _, _, _, _, _, _, _, _, _, _, _, _, _, _, _, _, _, _, _, _, _, _, rfl, { hI with p10 := fun _ => rfl }⟩
                  · obtain rfl := hI.p10 (hd 10 (by decide))
                    rw [if_pos (by rfl)]
                    go_simp
                    exact hK.out _ _ ⟨_, _, _, _, _, _, _, _, _, _, _, _, _, _, _, _, _, _, _, _, _, _, _, _, _, _, _, _, _, _, _, _, _, _, _, _, _, rfl, { hI with p11 := fun _ => rfl }⟩
                  · obtain rfl := hI.p11 (hd 11 (by decide))
                    rw [if_pos (by rfl)]
                    go_simp
                    exact hK.out _ _ ⟨_, _, _, _, _, _, _, _, _, _, _, _, _, _, _, _, _, _, _, _, _, _, _, _, _, _, _, _, _, _, _, _, _, _, _, _, _, rfl, { hI with p12 := fun _ => rfl }⟩
                  · obtain rfl := hI.p11 (hd 11 (by decide))
                    rw [if_pos (by rfl)]
                    go_simp
                    exact hK.out _ _ ⟨_, _, _, _, _, _, _, _, _, _, _, _, _, _, _, _, _, _, _, _, _, _, _, _, _, _, _, _, _, _, _, _, _, _, _, _, _, rfl, { hI with p13 := fun _ => rfl }⟩
                  · obtain rfl := hI.p12 (hd 12 (by decide))
                    obtain rfl := hI.p13 (hd 13 (by decide))
                    obtain rfl := hI.p11 (hd 11 (by decide))
                    rw [if_pos (by rfl)]
                    go_simp
                    exact hK.out _ _ ⟨_, _, _, _, _, _, _, _, _, _, _, _, _, _, _, _, _, _, _, _, _, _, _, _, _, _, _, _, _, _, _, _, _, _, _, _, _, rfl, { hI with p14 := fun _ => rfl }⟩
                  · obtain rfl := hI.p14 (hd 14 (by decide))
                    obtain rfl := hI.p11 (hd 11 (by decide))
                    rw [if_pos (by rfl)]
                    go_simp
                    exact hK.out _ _ ⟨_, _, _, _, _, _, _, _, _, _, _, _, _, _, _, _, _, _, _, _, _, _, _, _, _, _, _, _, _, _, _, _, _, _, _, _, _, rfl, { hI with p15 := fun _ => rfl }⟩
                  · obtain rfl := hI.p15 (hd 15 (by decide))
                    obtain rfl := hI.p11 (hd 11 (by decide))
                    rw [if_pos (by rfl)]
                    have hc := A0.out _ hI.x
                    go_simp
                    exact hK.out _ _ ⟨_, _, _, _, _, _, _, _, _, _, _, _, _, _, _, _, _, _, _, _, _, _, _, _, _, _, _, _, _, _, _, _, _, _, _, _, _, rfl, { hI with p16 := fun _ => rfl }⟩
                  · obtain rfl := hI.p11 (hd 11 (by decide))
                    rw [if_pos (by rfl)]
                    go_simp
                    exact hK.out _ _ ⟨_, _, _, _, _, _, _, _, _, _, _, _, _, _, _, _, _, _, _, _, _, _, _, _, _, _, _, _, _, _, _, _, _, _, _, _, _, rfl, { hI with p17 := fun _ => rfl }⟩
                  · obtain rfl := hI.p11 (hd 11 (by decide))
                    rw [if_pos (by rfl)]
                    go_simp
                    exact hK.out _ _ ⟨_, _, _, _, _, _, _, _, _, _, _, _, _, _, _, _, _, _, _, _, _, _, _, _, _, _, _, _, _, _, _, _, _, _, _, _, _, rfl, { hI with p18 := fun _ => rfl }⟩
                  · obtain rfl := hI.p17 (hd 17 (by decide))
                    obtain rfl := hI.p18 (hd 18 (by decide))
                    obtain rfl := hI.p11 (hd 11 (by decide))
                    rw [if_pos (by rfl)]
                    go_simp
                    exact hK.out _ _ ⟨_, _, _, _, _, _, _, _, _, _, _, _, _, _, _, _, _, _, _, _, _, _, _, _, _, _, _, _, _, _, _, _, _, _, _, _, _, rfl, { hI with p19 := fun _ => rfl }⟩
                  · obtain rfl := hI.p19 (hd 19 (by decide))
                    obtain rfl := hI.p11 (hd 11 (by decide))
                    rw [if_pos (by rfl)]
                    go_simp
                    exact hK.out _ _ ⟨_, _, _, _, _, _, _, _, _, _, _, _, _, _, _, _, _, _, _, _, _, _, _, _, _, _, _, _, _, _, _, _, _, _, _, _, _, rfl, { hI with p20 := fun _ => rfl }⟩
                  · obtain rfl := hI.p20 (hd 20 (by decide))
                    obtain rfl := hI.p11 (hd 11 (by decide))
                    rw [if_pos (by rfl)]
                    have hc := C0.out _ hI.x
                    go_simp
                    exact hK.out _ _ ⟨_, _, _, _, _, _, _, _, _, _, _, _, _, _, _, _, _, _, _, _, _, _, _, _, _, _, _, _, _, _, _, _, _, _, _, _, _, rfl, { hI with p21 := fun _ => rfl }⟩
                  · obtain rfl := hI.p16 (hd 16 (by decide))
                    obtain rfl := hI.p21 (hd 21 (by decide))
                    obtain rfl := hI.p11 (hd 11 (by decide))
                    rw [if_pos (by rfl)]
                    go_simp
                    exact hK.out _ _ ⟨_, _, _, _, _, _, _, _, _, _, _, _, _, _, _, _, _, _, _, _, _, _, _, _, _, _, _, _, _, _, _, _, _, _, _, _, _, rfl, { hI with p22 := fun _ => rfl }⟩
                  · obtain rfl := hI.p22 (hd 22 (by decide))
                    obtain rfl := hI.p11 (hd 11 (by decide))
                    rw [if_pos (by rfl)]
                    go_simp
                    exact hK.out _ _ ⟨_, _, _, _, _, _, _, _, _, _, _, _, _, _, _, _, _, _, _, _, _, _, _, _, _, _, _, _, _, _, _, _, _, _, _, _, _, rfl, { hI with p23 := fun _ => rfl }⟩
                  · obtain rfl := hI.p23 (hd 23 (by decide))
                    rw [if_pos (by rfl)]
                    go_simp
                    exact hK.out _ _ ⟨_, _, _, _, _, _, _, _, _, _, _, _, _, _, _, _, _, _, _, _, _, _, _, _, _, _, _, _, _, _, _, _, _, _, _, _, _, rfl, { hI with p24 := fun _ => rfl }⟩
                  · obtain rfl := hI.p23 (hd 23 (by decide))
                    rw [if_pos (by rfl)]
                    go_simp
                    exact hK.out _ _ ⟨_, _, _, _, _, _, _, _, _, _, _, _, _, _, _, _, _, _, _, _, _, _, _, _, _, _, _, _, _, _, _, _, _, _, _, _, _, rfl, { hI with p25 := fun _ => rfl }⟩
                  · obtain rfl := hI.p24 (hd 24 (by decide))
                    obtain rfl := hI.p25 (hd 25 (by decide))
                    obtain rfl := hI.p23 (hd 23 (by decide))
                    rw [if_pos (by rfl)]
                    go_simp
                    exact hK.out _ _ ⟨_, _, _, _, _, _, _, _, _, _, _, _, _, _, _, _, _, _, _, _, _, _, _, _, _, _, _, _, _, _, _, _, _, _, _, _, _, rfl, { hI with p26 := fun _ => rfl }⟩
                  · obtain rfl := hI.p26 (hd 26 (by decide))
                    obtain rfl := hI.p23 (hd 23 (by decide))
                    rw [if_pos (by rfl)]
                    go_simp
                    exact hK.out _ _ ⟨_, _, _, _, _, _, _, _, _, _, _, _, _, _, _, _, _, _, _, _, _, _, _, _, _, _, _, _, _, _, _, _, _, _, _, _, _, rfl, { hI with p27 := fun _ => rfl }⟩
                  · obtain rfl := hI.p27 (hd 27 (by decide))
                    obtain rfl := hI.p23 (hd 23 (by decide))
                    rw [if_pos (by rfl)]
                    have hc := A1.out _ hI.x
                    go_simp
                    exact hK.out _ _ ⟨_, _, _, _, _, _, _, _, _, _, _, _, _, _, _, _, _, _, _, _, _, _, _, _, _, _, _, _, _, _, _, _, _, _, _, _, _, rfl, { hI with p28 := fun _ => rfl }⟩
                  · obtain rfl := hI.p23 (hd 23 (by decide))
                    rw [if_pos (by rfl)]
                    go_simp
                    exact hK.out _ _ ⟨_, _, _, _, _, _, _, _, _, _, _, _, _, _, _, _, _, _, _, _, _, _, _, _, _, _, _, _, _, _, _, _, _, _, _, _, _, rfl, { hI with p29 := fun _ => rfl }⟩
                  · obtain rfl := hI.p23 (hd 23 (by decide))
                    rw [if_pos (by rfl)]
                    go_simp
                    exact hK.out _ _ ⟨_, _, _, _, _, _, _, _, _, _, _, _, _, _, _, _, _, _, _, _, _, _, _, _, _, _, _, _, _, _, _, _, _, _, _, _, _, rfl, { hI with p30 := fun _ => rfl }⟩
                  · obtain rfl := hI.p29 (hd 29 (by decide))
                    obtain rfl := hI.p30 (hd 30 (by decide))
                    obtain rfl := hI.p23 (hd 23 (by decide))
                    rw [if_pos (by rfl)]
                    go_simp
                    exact hK.out _ _ ⟨_, _, _, _, _, _, _, _, _, _, _, _, _, _, _, _, _, _, _, _, _, _, _, _, _, _, _, _, _, _, _, _, _, _, _, _, _, rfl, { hI with p31 := fun _ => rfl }⟩
                  · obtain rfl := hI.p31 (hd 31 (by decide))
                    obtain rfl := hI.p23 (hd 23 (by decide))
                    rw [if_pos (by rfl)]
                    go_simp
                    exact hK.out _ _ ⟨_, _, _, _, _, _, _, _, _, _, _, _, _, _, _, _, _, _, _, _, _, _, _, _, _, _, _, _, _, _, _, _, _, _, _, _, _, rfl, { hI with p32 := fun _ => rfl }⟩
                  · obtain rfl := hI.p32 (hd 32 (by decide))
                    obtain rfl := hI.p23 (hd 23 (by decide))
                    rw [if_pos (by rfl)]
                    have hc := C1.out _ hI.x
                    go_simp
                    exact hK.out _ _ ⟨_, _, _, _, _, _, _, _, _, _, _, _, _, _, _, _, _, _, _, _, _, _, _, _, _, _, _, _, _, _, _, _, _, _, _, _, _, rfl, { hI with p33 := fun _ => rfl }⟩
                  · obtain rfl := hI.p28 (hd 28 (by decide))
                    obtain rfl := hI.p33 (hd 33 (by decide))
                    obtain rfl := hI.p23 (hd 23 (by decide))
                    rw [if_pos (by rfl)]
                    go_simp
                    exact hK.out _ _ ⟨_, _, _, _, _, _, _, _, _, _, _, _, _, _, _, _, _, _, _, _, _, _, _, _, _, _, _, _, _, _, _, _, _, _, _, _, _, rfl, { hI with p34 := fun _ => rfl }⟩
                  · obtain rfl := hI.p23 (hd 23 (by decide))
                    obtain rfl := hI.p34 (hd 34 (by decide))
                    obtain rfl := hI.p11 (hd 11 (by decide))
                    rw [if_pos (by rfl)]
                    go_simp
                    exact hK.out _ _ ⟨_, _, _, _, _, _, _, _, _, _, _, _, _, _, _, _, _, _, _, _, _, _, _, _, _, _, _, _, _, _, _, _, _, _, _, _, _, rfl, { hI with p35 := fun _ => rfl }⟩
                  · obtain rfl := hI.p11 (hd 11 (by decide))
                    obtain rfl := hI.p35 (hd 35 (by decide))
                    rw [if_pos (by rfl)]
                    go_simp
                    exact hK.out _ _ ⟨_, _, _, _, _, _, _, _, _, _, _, _, _, _, _, _, _, _, _, _, _, _, _, _, _, _, _, _, _, _, _, _, _, _, _, _, _, rfl, { hI with p36 := fun _ => rfl }⟩
                · rintro L _ W hall ⟨x16, x17, x18, x19, x20, x21, x22, x23, x24, x25, x26, x27, x28, x29, x30, x31, x32, x33, x34, x35, x36, x37, x38, x39, x40, x41, x42, x43, x44, x45, x46, x47, x48, x49, x50, x51, x52, rfl, hI⟩
                  obtain rfl := hI.p0 (hall 0 (by decide))
                  obtain rfl := hI.p1 (hall 1 (by decide))
                  obtain rfl := hI.p2 (hall 2 (by decide))
                  obtain rfl := hI.p3 (hall 3 (by decide))
                  obtain rfl := hI.p4 (hall 4 (by decide))
                  obtain rfl := hI.p5 (hall 5 (by decide))
                  obtain rfl := hI.p6 (hall 6 (by decide))
                  obtain rfl := hI.p7 (hall 7 (by decide))
                  obtain rfl := hI.p8 (hall 8 (by decide))
                  obtain rfl := hI.p9 (hall 9 (by decide))
                  obtain rfl := hI.p10 (hall 10 (by decide))
                  obtain rfl := hI.p11 (hall 11 (by decide))
                  obtain rfl := hI.p12 (hall 12 (by decide))
                  obtain rfl := hI.p13 (hall 13 (by decide))
                  obtain rfl := hI.p14 (hall 14 (by decide))
                  obtain rfl := hI.p15 (hall 15 (by decide))
                  obtain rfl := hI.p16 (hall 16 (by decide))
                  obtain rfl := hI.p17 (hall 17 (by decide))
                  obtain rfl := hI.p18 (hall 18 (by decide))
                  obtain rfl := hI.p19 (hall 19 (by decide))
                  obtain rfl := hI.p20 (hall 20 (by decide))
                  obtain rfl := hI.p21 (hall 21 (by decide))
                  obtain rfl := hI.p22 (hall 22 (by decide))
                  obtain rfl := hI.p23 (hall 23 (by decide))
                  obtain rfl := hI.p24 (hall 24 (by decide))
                  obtain rfl := hI.p25 (hall 25 (by decide))
                  obtain rfl := hI.p26 (hall 26 (by decide))
                  obtain rfl := hI.p27 (hall 27 (by decide))
                  obtain rfl := hI.p28 (hall 28 (by decide))
                  obtain rfl := hI.p29 (hall 29 (by decide))
                  obtain rfl := hI.p30 (hall 30 (by decide))
                  obtain rfl := hI.p31 (hall 31 (by decide))
                  obtain rfl := hI.p32 (hall 32 (by decide))
                  obtain rfl := hI.p33 (hall 33 (by decide))
                  obtain rfl := hI.p34 (hall 34 (by decide))
                  obtain rfl := hI.p35 (hall 35 (by decide))
                  obtain rfl := hI.p36 (hall 36 (by decide))
                  have hXe := hI.x
                  clear hI hall
                  try dsimp only
                  have HX7 : Hid (Dr w W) := hXe
                  clear hXe
                  go_wp2
                  exact ⟨⟨k + 1, HKL.out, by go_num, HX7, HNX⟩, by have := HKL.out; simp [intOf]; omega⟩
              · have e2 : ((strOf a).toList == (strOf a').toList) = true := by rw [h2]; simp
                have e3 : ((strOf b).toList == (strOf b').toList) = false := strOf_beq _ _ false (by simp [h3])
                have HNX : Hid (v = true) := YES.out ⟨h1, .inr h3⟩
                clear EQ NXT YES h1 h2 h3 tp tq
                generalize strOf a = SX at *
                generalize strOf a' = SY at *
                generalize strOf b = MX at *
                generalize strOf b' = MY at *
                go_upto_region 7 with fail
                refine wp_region_inv (ICLC wr w B off n cap i k tx ty SX SY MX MY _ _ _ _ _ _ _ _ _ _ _ _ _ _ _ _) (by kernel_rfl) (by kernel_rfl) ⟨_, _, _, _, _, _, _, _, _, _, _, _, _, _, _, _, _, _, _, _, _, _, _, _, _, _, _, _, _, _, _, _, _, _, _, _, _, rfl, ⟨HD.out.drewN 1, fun k => (by cases k), fun k => (by cases k), fun k => (by cases k), fun k => (by cases k), fun k => (by cases k), fun k => (by cases k), fun k => (by cases k), fun k => (by cases k), fun k => (by cases k), fun k => (by cases k), fun k => (by cases k), fun k => (by cases k), fun k => (by cases k), fun k => (by cases k), fun k => (by cases k), fun k => (by cases k), fun k => (by cases k), fun k => (by cases k), fun k => (by cases k), fun k => (by cases k), fun k => (by cases k), fun k => (by cases k), fun k => (by cases k), fun k => (by cases k), fun k => (by cases k), fun k => (by cases k), fun k => (by cases k), fun k => (by cases k), fun k => (by cases k), fun k => (by cases k), fun k => (by cases k), fun k => (by cases k), fun k => (by cases k), fun k => (by cases k), fun k => (by cases k), fun k => (by cases k), fun k => (by cases k)⟩⟩ ?_ ?_
                · refine .cons ?_ (.cons ?_ (.cons ?_ (.cons ?_ (.cons ?_ (.cons ?_ (.cons ?_ (.cons ?_ (.cons ?_ (.cons ?_ (.cons ?_ (.cons ?_ (.cons ?_ (.cons ?_ (.cons ?_ (.cons ?_ (.cons ?_ (.cons ?_ (.cons ?_ (.cons ?_ (.cons ?_ (.cons ?_ (.cons ?_ (.cons ?_ (.cons ?_ (.cons ?_ (.cons ?_ (.cons ?_ (.cons ?_ (.cons ?_ (.cons ?_ (.cons ?_ (.cons ?_ (.cons ?_ (.cons ?_ (.cons ?_ (.cons ?_ .nil))))))))))))))))))))))))))))))))))))
                  all_goals (refine CLC.step ?_; intro x16 x17 x18 x19 x20 x21 x22 x23 x24 x25 x26 x27 x28 x29 x30 x31 x32 x33 x34 x35 x36 x37 x38 x39 x40 x41 x42 x43 x44 x45 x46 x47 x48 x49 x50 x51 x52 L W hI hL hd K hK)
                  · rw [if_pos (by rfl)]
                    go_simp
                    exact hK.out _ _ ⟨_, _, _, _, _, _, _, _, _, _, _, _, _, _, _, _, _, _, _, _, _, _, _, _, _, _, _, _, _, _, _, _, _, _, _, _, _, rfl, { hI with p0 := fun _ => rfl }⟩
                  · rw [if_pos (by rfl)]
                    go_simp
                    exact hK.out _ _ ⟨_, _, _, _, _, _, _, _, _, _, _, _, _, _, _, _, _, _, _, _, _, _, _, _, _, _, _, _, _, _, _, _, _, _, _, _, _, rfl, { hI with p1 := fun _ => rfl }⟩
                  · obtain rfl := hI.p0 (hd 0 (by decide))
                    obtain rfl := hI.p1 (hd 1 (by decide))
                    rw [if_pos (by rfl)]
                    go_simp
                    exact hK.out _ _ ⟨_, _, _, _, _, _, _, _, _, _, _, _, _, _, _, _, _, _, _, _, _, _, _, _, _, _, _, _, _, _, _, _, _, _, _, _, _, rfl, { hI with p2 := fun _ => rfl }⟩
                  · obtain rfl := hI.p2 (hd 2 (by decide))
                    rw [if_pos (by rfl)]
                    go_simp
                    exact hK.out _ _ ⟨_, _, _, _, _, _, _, _, _, _, _, _, _, _, _, _, _, _, _, _, _, _, _, _, _, _, _, _, _, _, _, _, _, _, _, _, _, rfl, { hI with p3 := fun _ => rfl }⟩
                  · obtain rfl := hI.p3 (hd 3 (by decide))
                    refine step_load_rng (by rfl) 26 _ rfl B (off + i * 34 + 2) (tx.map B8) (A2.out _ hI.x) rfl _ Tryz.underlying26 rfl (by rw [LP.out]; kernel_rfl) ?_
                    exact hK.out _ _ ⟨_, _, _, _, _, _, _, _, _, _, _, _, _, _, _, _, _, _, _, _, _, _, _, _, _, _, _, _, _, _, _, _, _, _, _, _, _, rfl, { hI with p4 := fun _ => rfl }⟩
                  · rw [if_pos (by rfl)]
                    go_simp
                    exact hK.out _ _ ⟨_, _, _, _, _, _, _, _, _, _, _, _, _, _, _, _, _, _, _, _, _, _, _, _, _, _, _, _, _, _, _, _, _, _, _, _, _, rfl, { hI with p5 := fun _ => rfl }⟩
                  · rw [if_pos (by rfl)]
                    go_simp
                    exact hK.out _ _ ⟨_, _, _, _, _, _, _, _, _, _, _, _, _, _, _, _, _, _, _, _, _, _, _, _, _, _, _, _, _, _, _, _, _, _, _, _, _, rfl, { hI with p6 := fun _ => rfl }⟩
                  · obtain rfl := hI.p5 (hd 5 (by decide))
                    obtain rfl := hI.p6 (hd 6 (by decide))
                    rw [if_pos (by rfl)]
                    go_simp
                    exact hK.out _ _ ⟨_, _, _, _, _, _, _, _, _, _, _, _, _, _, _, _, _, _, _, _, _, _, _, _, _, _, _, _, _, _, _, _, _, _, _, _, _, rfl, { hI with p7 := fun _ => rfl }⟩
                  · obtain rfl := hI.p7 (hd 7 (by decide))
                    rw [if_pos (by rfl)]
                    go_simp
                    exact hK.out _ _ ⟨_, _, _, _, _, _, _, _, _, _, _, _, _, _, _, _, _, _, _, _, _, _, _, _, _, _, _, _, _, _, _, _, _, _, _, _, _, rfl, { hI with p8 := fun _ => rfl }⟩
                  · obtain rfl := hI.p8 (hd 8 (by decide))
                    refine step_load_rng (by rfl) 26 _ rfl B (off + k * 34 + 2) (ty.map B8) (C2.out _ hI.x) rfl _ Tryz.underlying26 rfl (by rw [LQ.out]; kernel_rfl) ?_
                    exact hK.out _ _ ⟨_, _, _, _, _, _, _, _, _, _, _, _, _, _, _, _, _, _, _, _, _, _, _, _, _, _, _, _, _, _, _, _, _, _, _, _, _, rfl, { hI with p9 := fun _ => rfl }⟩
                  · obtain rfl := hI.p4 (hd 4 (by decide))
                    obtain rfl := hI.p9 (hd 9 (by decide))
                    rw [if_pos (by rfl)]
                    have heq := EQT W
                    go_simp
                    exact hK.out _ _ ⟨_, _, _, _, _, _, _, _, _, _, _, _, _, _, _, _, _, _, _, _, _, _, _, _, _, _, _, _, _, _, _, _, _, _, _, _, _, rfl, { hI with p10 := fun _ => rfl }⟩
                  · obtain rfl := hI.p10 (hd 10 (by decide))
                    rw [if_pos (by rfl)]
                    go_simp
                    exact hK.out _ _ ⟨_, _, _, _, _, _, _, _, _, _, _, _, _, _, _, _, _, _, _, _, _, _, _, _, _, _, _, _, _, _, _, _, _, _, _, _, _, rfl, { hI with p11 := fun _ => rfl }⟩
                  · obtain rfl := hI.p11 (hd 11 (by decide))
                    rw [if_pos (by rfl)]
                    go_simp
                    exact hK.out _ _ ⟨_, _, _, _, _, _, _, _, _, _, _, _, _, _, _, _, _, _, _, _, _, _, _, _, _, _, _, _, _, _, _, _, _, _, _, _, _, rfl, { hI with p12 := fun _ => rfl }⟩
                  · obtain rfl := hI.p11 (hd 11 (by decide))
                    rw [if_pos (by rfl)]
                    go_simp
                    exact hK.out _ _ ⟨_, _, _, _, _, _, _, _, _, _, _, _, _, _, _, _, _, _, _, _, _, _, _, _, _, _, _, _, _, _, _, _, _, _, _, _, _, rfl, { hI with p13 := fun _ => rfl }⟩
                  · obtain rfl := hI.p12 (hd 12 (by decide))
                    obtain rfl := hI.p13 (hd 13 (by decide))
                    obtain rfl := hI.p11 (hd 11 (by decide))
                    rw [if_pos (by rfl)]
                    go_simp
                    exact hK.out _ _ ⟨_, _, _, _, _, _, _, _, _, _, _, _, _, _, _, _, _, _, _, _, _, _, _, _, _, _, _, _, _, _, _, _, _, _, _, _, _, rfl, { hI with p14 := fun _ => rfl }⟩
                  · obtain rfl := hI.p14 (hd 14 (by decide))
                    obtain rfl := hI.p11 (hd 11 (by decide))
                    rw [if_pos (by rfl)]
                    go_simp
                    exact hK.out _ _ ⟨_, _, _, _, _, _, _, _, _, _, _, _, _, _, _, _, _, _, _, _, _, _, _, _, _, _, _, _, _, _, _, _, _, _, _, _, _, rfl, { hI with p15 := fun _ => rfl }⟩
                  · obtain rfl := hI.p15 (hd 15 (by decide))
                    obtain rfl := hI.p11 (hd 11 (by decide))
                    rw [if_pos (by rfl)]
                    have hc := A0.out _ hI.x
                    go_simp
                    exact hK.out _ _ ⟨_, _, _, _, _, _, _, _, _, _, _, _, _, _, _, _, _, _, _, _, _, _, _, _, _, _, _, _, _, _, _, _, _, _, _, _, _, rfl, { hI with p16 := fun _ => rfl }⟩
                  · obtain rfl := hI.p11 (hd 11 (by decide))
                    rw [if_pos (by rfl)]
                    go_simp
                    exact hK.out _ _ ⟨_, _, _, _, _, _, _, _, _, _, _, _, _, _, _, _, _, _, _, _, _, _, _, _, _, _, _, _, _, _, _, _, _, _, _, _, _, rfl, { hI with p17 := fun _ => rfl }⟩
                  · obtain rfl := hI.p11 (hd 11 (by decide))
                    rw [if_pos (by rfl)]
                    go_simp
                    exact hK.out _ _ ⟨_, _, _, _, _, _, _, _, _, _, _, _, _, _, _, _, _, _, _, _, _, _, _, _, _, _, _, _, _, _, _, _, _, _, _, _, _, rfl, { hI with p18 := fun _ => rfl }⟩
                  · obtain rfl := hI.p17 (hd 17 (by decide))
                    obtain rfl := hI.p18 (hd 18 (by decide))
                    obtain rfl := hI.p11 (hd 11 (by decide))
                    rw [if_pos (by rfl)]
                    go_simp
                    exact hK.out _ _ ⟨_, _, _, _, _, _, _, _, _, _, _, _, _, _, _, _, _, _, _, _, _, _, _, _, _, _, _, _, _, _, _, _, _, _, _, _, _, rfl, { hI with p19 := fun _ => rfl }⟩
                  · obtain rfl := hI.p19 (hd 19 (by decide))
                    obtain rfl := hI.p11 (hd 11 (by decide))
                    rw [if_pos (by rfl)]
                    go_simp
                    exact hK.out _ _ ⟨_, _, _, _, _, _, _, _, _, _, _, _, _, _, _, _, _, _, _, _, _, _, _, _, _, _, _, _, _, _, _, _, _, _, _, _, _, rfl, { hI with p20 := fun _ => rfl }⟩
                  · obtain rfl := hI.p20 (hd 20 (by decide))
                    obtain rfl := hI.p11 (hd 11 (by decide))
                    rw [if_pos (by rfl)]
                    have hc := C0.out _ hI.x
                    go_simp
                    exact hK.out _ _ ⟨_, _, _, _, _, _, _, _, _, _, _, _, _, _, _, _, _, _, _, _, _, _, _, _, _, _, _, _, _, _, _, _, _, _, _, _, _, rfl, { hI with p21 := fun _ => rfl }⟩
                  · obtain rfl := hI.p16 (hd 16 (by decide))
                    obtain rfl := hI.p21 (hd 21 (by decide))
                    obtain rfl := hI.p11 (hd 11 (by decide))
                    rw [if_pos (by rfl)]
                    go_simp
                    exact hK.out _ _ ⟨_, _, _, _, _, _, _, _, _, _, _, _, _, _, _, _, _, _, _, _, _, _, _, _, _, _, _, _, _, _, _, _, _, _, _, _, _, rfl, { hI with p22 := fun _ => rfl }⟩
                  · obtain rfl := hI.p22 (hd 22 (by decide))
                    obtain rfl := hI.p11 (hd 11 (by decide))
                    rw [if_pos (by rfl)]
                    go_simp
                    exact hK.out _ _ ⟨_, _, _, _, _, _, _, _, _, _, _, _, _, _, _, _, _, _, _, _, _, _, _, _, _, _, _, _, _, _, _, _, _, _, _, _, _, rfl, { hI with p23 := fun _ => rfl }⟩
                  · obtain rfl := hI.p23 (hd 23 (by decide))
                    rw [if_pos (by rfl)]
                    go_simp
                    exact hK.out _ _ ⟨_, _, _, _, _, _, _, _, _, _, _, _, _, _, _, _, _, _, _, _, _, _, _, _, _, _, _, _, _, _, _, _, _, _, _, _, _, rfl, { hI with p24 := fun _ => rfl }⟩
                  · obtain rfl := hI.p23 (hd 23 (by decide))
                    rw [if_pos (by rfl)]
                    go_simp
                    exact hK.out _ _ ⟨_, _, _, _, _, _, _, _, _, _, _, _, _, _, _, _, _, _, _, _, _, _, _, _, _, _, _, _, _, _, _, _, _, _, _, _, _, rfl, { hI with p25 := fun _ => rfl }⟩
                  · obtain rfl := hI.p24 (hd 24 (by decide))
                    obtain rfl := hI.p25 (hd 25 (by decide))
                    obtain rfl := hI.p23 (hd 23 (by decide))
                    rw [if_pos (by rfl)]
                    go_simp
                    exact hK.out _ _ ⟨_, _, _, _, _, _, _, _, _, _, _, _, _, _, _, _, _, _, _, _, _, _, _, _, _, _, _, _, _, _, _, _, _, _, _, _, _, rfl, { hI with p26 := fun _ => rfl }⟩
                  · obtain rfl := hI.p26 (hd 26 (by decide))
                    obtain rfl := hI.p23 (hd 23 (by decide))
                    rw [if_pos (by rfl)]
                    go_simp
                    exact hK.out _ _ ⟨_, _, _, _, _, _, _, _, _, _, _, _, _, _, _, _, _, _, _, _, _, _, _, _, _, _, _, _, _, _, _, _, _, _, _, _, _, rfl, { hI with p27 := fun _ => rfl }⟩
                  · obtain rfl := hI.p27 (hd 27 (by decide))
                    obtain rfl := hI.p23 (hd 23 (by decide))
                    rw [if_pos (by rfl)]
                    have hc := A1.out _ hI.x
                    go_simp
                    exact hK.out _ _ ⟨_, _, _, _, _, _, _, _, _, _, _, _, _, _, _, _, _, _, _, _, _, _, _, _, _, _, _, _, _, _, _, _, _, _, _, _, _, rfl, { hI with p28 := fun _ => rfl }⟩
                  · obtain rfl := hI.p23 (hd 23 (by decide))
                    rw [if_pos (by rfl)]
                    go_simp
                    exact hK.out _ _ ⟨_, _, _, _, _, _, _, _, _, _, _, _, _, _, _, _, _, _, _, _, _, _, _, _, _, _, _, _, _, _, _, _, _, _, _, _, _, rfl, { hI with p29 := fun _ => rfl }⟩
                  · obtain rfl := hI.p23 (hd 23 (by decide))
                    rw [if_pos (by rfl)]
                    go_simp
                    exact hK.out _ _ ⟨_, _, _, _, _, _, _, _, _, _, _, _, _, _, _, _, _, _, _, _, _, _, _, _, _, _, _, _, _, _, _, _, _, _, _, _, _, rfl, { hI with p30 := fun _ => rfl }⟩
                  · obtain rfl := hI.p29 (hd 29 (by decide))
                    obtain rfl := hI.p30 (hd 30 (by decide))
                    obtain rfl := hI.p23 (hd 23 (by decide))
                    rw [if_pos (by rfl)]
                    go_simp
                    exact hK.out _ _ ⟨_, _, _, _, _, _, _, _, _, _, _, _, _, _, _, _, _, _, _, _, _, _, _, _, _, _, _, _, _, _, _, _, _, _, _, _, _, rfl, { hI with p31 := fun _ => rfl }⟩
                  · obtain rfl := hI.p31 (hd 31 (by decide))
                    obtain rfl := hI.p23 (hd 23 (by decide))
                    rw [if_pos (by rfl)]
                    go_simp
                    exact hK.out _ _ ⟨_, _, _, _, _, _, _, _, _, _, _, _, _, _, _, _, _, _, _, _, _, _, _, _, _, _, _, _, _, _, _, _, _, _, _, _, _, rfl, { hI with p32 := fun _ => rfl }⟩
                  · obtain rfl := hI.p32 (hd 32 (by decide))
                    obtain rfl := hI.p23 (hd 23 (by decide))
                    rw [if_pos (by rfl)]
                    have hc := C1.out _ hI.x
                    go_simp
                    exact hK.out _ _ ⟨_, _, _, _, _, _, _, _, _, _, _, _, _, _, _, _, _, _, _, _, _, _, _, _, _, _, _, _, _, _, _, _, _, _, _, _, _, rfl, { hI with p33 := fun _ => rfl }⟩
                  · obtain rfl := hI.p28 (hd 28 (by decide))
                    obtain rfl := hI.p33 (hd 33 (by decide))
                    obtain rfl := hI.p23 (hd 23 (by decide))
                    rw [if_pos (by rfl)]
                    go_simp
                    exact hK.out _ _ ⟨_, _, _, _, _, _, _, _, _, _, _, _, _, _, _, _, _, _, _, _, _, _, _, _, _, _, _, _, _, _, _, _, _, _, _, _, _, rfl, { hI with p34 := fun _ => rfl }⟩
                  · obtain rfl := hI.p23 (hd 23 (by decide))
                    obtain rfl := hI.p34 (hd 34 (by decide))
                    obtain rfl := hI.p11 (hd 11 (by decide))
                    rw [if_pos (by rfl)]
                    go_simp
                    exact hK.out _ _ ⟨_, _, _, _, _, _, _, _, _, _, _, _, _, _, _, _, _, _, _, _, _, _, _, _, _, _, _, _, _, _, _, _, _, _, _, _, _, rfl, { hI with p35 := fun _ => rfl }⟩
                  · obtain rfl := hI.p11 (hd 11 (by decide))
                    obtain rfl := hI.p35 (hd 35 (by decide))
                    rw [if_pos (by rfl)]
                    go_simp
                    exact hK.out _ _ ⟨_, _, _, _, _, _, _, _, _, _, _, _, _, _, _, _, _, _, _, _, _, _, _, _, _, _, _, _, _, _, _, _, _, _, _, _, _, rfl, { hI with p36 := fun _ => rfl }⟩
                · rintro L _ W hall ⟨x16, x17, x18, x19, x20, x21, x22, x23, x24, x25, x26, x27, x28, x29, x30, x31, x32, x33, x34, x35, x36, x37, x38, x39, x40, x41, x42, x43, x44, x45, x46, x47, x48, x49, x50, x51, x52, rfl, hI⟩
                  obtain rfl := hI.p0 (hall 0 (by decide))
                  obtain rfl := hI.p1 (hall 1 (by decide))
                  obtain rfl := hI.p2 (hall 2 (by decide))
                  obtain rfl := hI.p3 (hall 3 (by decide))
                  obtain rfl := hI.p4 (hall 4 (by decide))
                  obtain rfl := hI.p5 (hall 5 (by decide))
                  obtain rfl := hI.p6 (hall 6 (by decide))
                  obtain rfl := hI.p7 (hall 7 (by decide))
                  obtain rfl := hI.p8 (hall 8 (by decide))
                  obtain rfl := hI.p9 (hall 9 (by decide))
                  obtain rfl := hI.p10 (hall 10 (by decide))
                  obtain rfl := hI.p11 (hall 11 (by decide))
                  obtain rfl := hI.p12 (hall 12 (by decide))
                  obtain rfl := hI.p13 (hall 13 (by decide))
                  obtain rfl := hI.p14 (hall 14 (by decide))
                  obtain rfl := hI.p15 (hall 15 (by decide))
                  obtain rfl := hI.p16 (hall 16 (by decide))
                  obtain rfl := hI.p17 (hall 17 (by decide))
                  obtain rfl := hI.p18 (hall 18 (by decide))
                  obtain rfl := hI.p19 (hall 19 (by decide))
                  obtain rfl := hI.p20 (hall 20 (by decide))
                  obtain rfl := hI.p21 (hall 21 (by decide))
                  obtain rfl := hI.p22 (hall 22 (by decide))
                  obtain rfl := hI.p23 (hall 23 (by decide))
                  obtain rfl := hI.p24 (hall 24 (by decide))
                  obtain rfl := hI.p25 (hall 25 (by decide))
                  obtain rfl := hI.p26 (hall 26 (by decide))
                  obtain rfl := hI.p27 (hall 27 (by decide))
                  obtain rfl := hI.p28 (hall 28 (by decide))
                  obtain rfl := hI.p29 (hall 29 (by decide))
                  obtain rfl := hI.p30 (hall 30 (by decide))
                  obtain rfl := hI.p31 (hall 31 (by decide))
                  obtain rfl := hI.p32 (hall 32 (by decide))
                  obtain rfl := hI.p33 (hall 33 (by decide))
                  obtain rfl := hI.p34 (hall 34 (by decide))
                  obtain rfl := hI.p35 (hall 35 (by decide))
                  obtain rfl := hI.p36 (hall 36 (by decide))
                  have hXe := hI.x
                  clear hI hall
                  try dsimp only
                  have HX7 : Hid (Dr w W) := hXe
                  clear hXe
                  go_wp2
                  go_ret
                  exact ⟨by rw [HNX.out]; rfl, Below_dr (Below.refl _ _) HX7.out⟩
            · have e2 : ((strOf a).toList == (strOf a').toList) = false := strOf_beq _ _ false (by simp [h2])
              have HNX : Hid (v = true) := YES.out ⟨h1, .inl h2⟩
              clear EQ NXT YES h1 h2 tp tq
              generalize strOf a = SX at *
              generalize strOf a' = SY at *
              generalize strOf b = MX at *
              generalize strOf b' = MY at *
              go_upto_region 7 with fail
              refine wp_region_inv (ICLB wr w B off n cap i k tx ty SX SY MX MY _ _ _ _ _ _ _ _ _ _ _ _ _ _ _ _) (by kernel_rfl) (by kernel_rfl) ⟨_, _, _, _, _, _, _, _, _, _, _, _, _, _, _, _, _, _, _, _, _, _, _, _, _, _, _, _, _, _, _, _, _, _, _, _, _, rfl, ⟨HD.out.drewN 1, fun k => (by cases k), fun k => (by cases k), fun k => (by cases k), fun k => (by cases k), fun k => (by cases k), fun k => (by cases k), fun k => (by cases k), fun k => (by cases k), fun k => (by cases k), fun k => (by cases k), fun k => (by cases k), fun k => (by cases k), fun k => (by cases k), fun k => (by cases k), fun k => (by cases k), fun k => (by cases k), fun k => (by cases k), fun k => (by cases k), fun k => (by cases k), fun k => (by cases k), fun k => (by cases k), fun k => (by cases k), fun k => (by cases k), fun k => (by cases k), fun k => (by cases k), fun k => (by cases k)⟩⟩ ?_ ?_
              · refine .cons ?_ (.cons ?_ (.cons ?_ (.cons ?_ (.cons ?_ (.cons ?_ (.cons ?_ (.cons ?_ (.cons ?_ (.cons ?_ (.cons ?_ (.cons ?_ (.cons ?_ (.cons ?_ (.cons ?_ (.cons ?_ (.cons ?_ (.cons ?_ (.cons ?_ (.cons ?_ (.cons ?_ (.cons ?_ (.cons ?_ (.cons ?_ (.cons ?_ (.cons ?_ (.cons ?_ (.cons ?_ (.cons ?_ (.cons ?_ (.cons ?_ (.cons ?_ (.cons ?_ (.cons ?_ (.cons ?_ (.cons ?_ (.cons ?_ .nil))))))))))))))))))))))))))))))))))))
                all_goals (refine CLB.step ?_; intro x16 x17 x18 x19 x20 x21 x22 x23 x24 x25 x26 x27 x28 x29 x30 x31 x32 x33 x34 x35 x36 x37 x38 x39 x40 x41 x42 x43 x44 x45 x46 x47 x48 x49 x50 x51 x52 L W hI hL hd K hK)
                · rw [if_pos (by rfl)]
                  go_simp
                  exact hK.out _ _ ⟨_, _, _, _, _, _, _, _, _, _, _, _, _, _, _, _, _, _, _, _, _, _, _, _, _, _, _, _, _, _, _, _, _, _, _, _, _, rfl, { hI with p0 := fun _ => rfl }⟩
                · rw [if_pos (by rfl)]
                  go_simp
                  exact hK.out _ _ ⟨_, _, _, _, _, _, _, _, _, _, _, _, _, _, _, _, _, _, _, _, _, _, _, _, _, _, _, _, _, _, _, _, _, _, _, _, _, rfl, { hI with p1 := fun _ => rfl }⟩
                · obtain rfl := hI.p0 (hd 0 (by decide))
                  obtain rfl := hI.p1 (hd 1 (by decide))
                  rw [if_pos (by rfl)]
                  go_simp
                  exact hK.out _ _ ⟨_, _, _, _, _, _, _, _, _, _, _, _, _, _, _, _, _, _, _, _, _, _, _, _, _, _, _, _, _, _, _, _, _, _, _, _, _, rfl, { hI with p2 := fun _ => rfl }⟩
                · obtain rfl := hI.p2 (hd 2 (by decide))
                  rw [if_pos (by rfl)]
                  go_simp
                  exact hK.out _ _ ⟨_, _, _, _, _, _, _, _, _, _, _, _, _, _, _, _, _, _, _, _, _, _, _, _, _, _, _, _, _, _, _, _, _, _, _, _, _, rfl, { hI with p3 := fun _ => rfl }⟩
                · obtain rfl := hI.p3 (hd 3 (by decide))
                  refine step_load_rng (by rfl) 26 _ rfl B (off + i * 34 + 2) (tx.map B8) (A2.out _ hI.x) rfl _ Tryz.underlying26 rfl (by rw [LP.out]; kernel_rfl) ?_
                  exact hK.out _ _ ⟨_, _, _, _, _, _, _, _, _, _, _, _, _, _, _, _, _, _, _, _, _, _, _, _, _, _, _, _, _, _, _, _, _, _, _, _, _, rfl, { hI with p4 := fun _ => rfl }⟩
                · rw [if_pos (by rfl)]
                  go_simp
                  exact hK.out _ _ ⟨_, _, _, _, _, _, _, _, _, _, _, _, _, _, _, _, _, _, _, _, _, _, _, _, _, _, _, _, _, _, _, _, _, _, _, _, _, rfl, { hI with p5 := fun _ => rfl }⟩
                · rw [if_pos (by rfl)]
                  go_simp
                  exact hK.out _ _ ⟨_, _, _, _, _, _, _, _, _, _, _, _, _, _, _, _, _, _, _, _, _, _, _, _, _, _, _, _, _, _, _, _, _, _, _, _, _, rfl, { hI with p6 := fun _ => rfl }⟩
                · obtain rfl := hI.p5 (hd 5 (by decide))
                  obtain rfl := hI.p6 (hd 6 (by decide))
                  rw [if_pos (by rfl)]
                  go_simp
                  exact hK.out _ _ ⟨_, _, _, _, _, _, _, _, _, _, _, _, _, _, _, _, _, _, _, _, _, _, _, _, _, _, _, _, _, _, _, _, _, _, _, _, _, rfl, { hI with p7 := fun _ => rfl }⟩
                · obtain rfl := hI.p7 (hd 7 (by decide))
                  rw [if_pos (by rfl)]
                  go_simp
                  exact hK.out _ _ ⟨_, _, _, _, _, _, _, _, _, _, _, _, _, _, _, _, _, _, _, _, _, _, _, _, _, _, _, _, _, _, _, _, _, _, _, _, _, rfl, { hI with p8 := fun _ => rfl }⟩
                · obtain rfl := hI.p8 (hd 8 (by decide))
                  refine step_load_rng (by rfl) 26 _ rfl B (off + k * 34 + 2) (ty.map B8) (C2.out _ hI.x) rfl _ Tryz.underlying26 rfl (by rw [LQ.out]; kernel_rfl) ?_
                  exact hK.out _ _ ⟨_, _, _, _, _, _, _, _, _, _, _, _, _, _, _, _, _, _, _, _, _, _, _, _, _, _, _, _, _, _, _, _, _, _, _, _, _, rfl, { hI with p9 := fun _ => rfl }⟩
                · obtain rfl := hI.p4 (hd 4 (by decide))
                  obtain rfl := hI.p9 (hd 9 (by decide))
                  rw [if_pos (by rfl)]
                  have heq := EQT W
                  go_simp
                  exact hK.out _ _ ⟨_, _, _, _, _, _, _, _, _, _, _, _, _, _, _, _, _, _, _, _, _, _, _, _, _, _, _, _, _, _, _, _, _, _, _, _, _, rfl, { hI with p10 := fun _ => rfl }⟩
                · obtain rfl := hI.p10 (hd 10 (by decide))
                  rw [if_pos (by rfl)]
                  go_simp
                  exact hK.out _ _ ⟨_, _, _, _, _, _, _, _, _, _, _, _, _, _, _, _, _, _, _, _, _, _, _, _, _, _, _, _, _, _, _, _, _, _, _, _, _, rfl, { hI with p11 := fun _ => rfl }⟩
                · obtain rfl := hI.p11 (hd 11 (by decide))
                  rw [if_pos (by rfl)]
                  go_simp
                  exact hK.out _ _ ⟨_, _, _, _, _, _, _, _, _, _, _, _, _, _, _, _, _, _, _, _, _, _, _, _, _, _, _, _, _, _, _, _, _, _, _, _, _, rfl, { hI with p12 := fun _ => rfl }⟩
                · obtain rfl := hI.p11 (hd 11 (by decide))
                  rw [if_pos (by rfl)]
                  go_simp
                  exact hK.out _ _ ⟨_, _, _, _, _, _, _, _, _, _, _, _, _, _, _, _, _, _, _, _, _, _, _, _, _, _, _, _, _, _, _, _, _, _, _, _, _, rfl, { hI with p13 := fun _ => rfl }⟩
                · obtain rfl := hI.p12 (hd 12 (by decide))
                  obtain rfl := hI.p13 (hd 13 (by decide))
                  obtain rfl := hI.p11 (hd 11 (by decide))
                  rw [if_pos (by rfl)]
                  go_simp
                  exact hK.out _ _ ⟨_, _, _, _, _, _, _, _, _, _, _, _, _, _, _, _, _, _, _, _, _, _, _, _, _, _, _, _, _, _, _, _, _, _, _, _, _, rfl, { hI with p14 := fun _ => rfl }⟩
                · obtain rfl := hI.p14 (hd 14 (by decide))
                  obtain rfl := hI.p11 (hd 11 (by decide))
                  rw [if_pos (by rfl)]
                  go_simp
                  exact hK.out _ _ ⟨_, _, _, _, _, _, _, _, _, _, _, _, _, _, _, _, _, _, _, _, _, _, _, _, _, _, _, _, _, _, _, _, _, _, _, _, _, rfl, { hI with p15 := fun _ => rfl }⟩
                · obtain rfl := hI.p15 (hd 15 (by decide))
                  obtain rfl := hI.p11 (hd 11 (by decide))
                  rw [if_pos (by rfl)]
                  have hc := A0.out _ hI.x
                  go_simp
                  exact hK.out _ _ ⟨_, _, _, _, _, _, _, _, _, _, _, _, _, _, _, _, _, _, _, _, _, _, _, _, _, _, _, _, _, _, _, _, _, _, _, _, _, rfl, { hI with p16 := fun _ => rfl }⟩
                · obtain rfl := hI.p11 (hd 11 (by decide))
                  rw [if_pos (by rfl)]
                  go_simp
                  exact hK.out _ _ ⟨_, _, _, _, _, _, _, _, _, _, _, _, _, _, _, _, _, _, _, _, _, _, _, _, _, _, _, _, _, _, _, _, _, _, _, _, _, rfl, { hI with p17 := fun _ => rfl }⟩
                · obtain rfl := hI.p11 (hd 11 (by decide))
                  rw [if_pos (by rfl)]
                  go_simp
                  exact hK.out _ _ ⟨_, _, _, _, _, _, _, _, _, _, _, _, _, _, _, _, _, _, _, _, _, _, _, _, _, _, _, _, _, _, _, _, _, _, _, _, _, rfl, { hI with p18 := fun _ => rfl }⟩
                · obtain rfl := hI.p17 (hd 17 (by decide))
                  obtain rfl := hI.p18 (hd 18 (by decide))
                  obtain rfl := hI.p11 (hd 11 (by decide))
                  rw [if_pos (by rfl)]
                  go_simp
                  exact hK.out _ _ ⟨_, _, _, _, _, _, _, _, _, _, _, _, _, _, _, _, _, _, _, _, _, _, _, _, _, _, _, _, _, _, _, _, _, _, _, _, _, rfl, { hI with p19 := fun _ => rfl }⟩
                · obtain rfl := hI.p19 (hd 19 (by decide))
                  obtain rfl := hI.p11 (hd 11 (by decide))
                  rw [if_pos (by rfl)]
                  go_simp
                  exact hK.out _ _ ⟨_, _, _, _, _, _, _, _, _, _, _, _, _, _, _, _, _, _, _, _, _, _, _, _, _, _, _, _, _, _, _, _, _, _, _, _, _, rfl, { hI with p20 := fun _ => rfl }⟩
                · obtain rfl := hI.p20 (hd 20 (by decide))
                  obtain rfl := hI.p11 (hd 11 (by decide))
                  rw [if_pos (by rfl)]
                  have hc := C0.out _ hI.x
                  go_simp
                  exact hK.out _ _ ⟨_, _, _, _, _, _, _, _, _, _, _, _, _, _, _, _, _, _, _, _, _, _, _, _, _, _, _, _, _, _, _, _, _, _, _, _, _, rfl, { hI with p21 := fun _ => rfl }⟩
                · obtain rfl := hI.p16 (hd 16 (by decide))
                  obtain rfl := hI.p21 (hd 21 (by decide))
                  obtain rfl := hI.p11 (hd 11 (by decide))
                  rw [if_pos (by rfl)]
                  go_simp
                  exact hK.out _ _ ⟨_, _, _, _, _, _, _, _, _, _, _, _, _, _, _, _, _, _, _, _, _, _, _, _, _, _, _, _, _, _, _, _, _, _, _, _, _, rfl, { hI with p22 := fun _ => rfl }⟩
                · obtain rfl := hI.p22 (hd 22 (by decide))
                  obtain rfl := hI.p11 (hd 11 (by decide))
                  rw [if_pos (by rfl)]
                  go_simp
                  exact hK.out _ _ ⟨_, _, _, _, _, _, _, _, _, _, _, _, _, _, _, _, _, _, _, _, _, _, _, _, _, _, _, _, _, _, _, _, _, _, _, _, _, rfl, { hI with p23 := fun _ => rfl }⟩
                · obtain rfl := hI.p23 (hd 23 (by decide))
                  rw [if_neg (by first | decide | exact Bool.false_ne_true)]
                  exact hK.out _ _ ⟨_, _, _, _, _, _, _, _, _, _, _, _, _, _, _, _, _, _, _, _, _, _, _, _, _, _, _, _, _, _, _, _, _, _, _, _, _, rfl, { hI with }⟩
                · obtain rfl := hI.p23 (hd 23 (by decide))
                  rw [if_neg (by first | decide | exact Bool.false_ne_true)]
                  exact hK.out _ _ ⟨_, _, _, _, _, _, _, _, _, _, _, _, _, _, _, _, _, _, _, _, _, _, _, _, _, _, _, _, _, _, _, _, _, _, _, _, _, rfl, { hI with }⟩
                · obtain rfl := hI.p23 (hd 23 (by decide))
                  rw [if_neg (by first | decide | exact Bool.false_ne_true)]
                  exact hK.out _ _ ⟨_, _, _, _, _, _, _, _, _, _, _, _, _, _, _, _, _, _, _, _, _, _, _, _, _, _, _, _, _, _, _, _, _, _, _, _, _, rfl, { hI with }⟩
                · obtain rfl := hI.p23 (hd 23 (by decide))
                  rw [if_neg (by first | decide | exact Bool.false_ne_true)]
                  exact hK.out _ _ ⟨_, _, _, _, _, _, _, _, _, _, _, _, _, _, _, _, _, _, _, _, _, _, _, _, _, _, _, _, _, _, _, _, _, _, _, _, _, rfl, { hI with }⟩
                · obtain rfl := hI.p23 (hd 23 (by decide))
                  rw [if_neg (by first | decide | exact Bool.false_ne_true)]
                  exact hK.out _ _ ⟨_, _, _, _, _, _, _, _, _, _, _, _, _, _, _, _, _, _, _, _, _, _, _, _, _, _, _, _, _, _, _, _, _, _, _, _, _, rfl, { hI with }⟩
                · obtain rfl := hI.p23 (hd 23 (by decide))
                  rw [if_neg (by first | decide | exact Bool.false_ne_true)]
                  exact hK.out _ _ ⟨_, _, _, _, _, _, _, _, _, _, _, _, _, _, _, _, _, _, _, _, _, _, _, _, _, _, _, _, _, _, _, _, _, _, _, _, _, rfl, { hI with }⟩
                · obtain rfl := hI.p23 (hd 23 (by decide))
                  rw [if_neg (by first | decide | exact Bool.false_ne_true)]
                  exact hK.out _ _ ⟨_, _, _, _, _, _, _, _, _, _, _, _, _, _, _, _, _, _, _, _, _, _, _, _, _, _, _, _, _, _, _, _, _, _, _, _, _, rfl, { hI with }⟩
                · obtain rfl := hI.p23 (hd 23 (by decide))
                  rw [if_neg (by first | decide | exact Bool.false_ne_true)]
                  exact hK.out _ _ ⟨_, _, _, _, _, _, _, _, _, _, _, _, _, _, _, _, _, _, _, _, _, _, _, _, _, _, _, _, _, _, _, _, _, _, _, _, _, rfl, { hI with }⟩
                · obtain rfl := hI.p23 (hd 23 (by decide))
                  rw [if_neg (by first | decide | exact Bool.false_ne_true)]
                  exact hK.out _ _ ⟨_, _, _, _, _, _, _, _, _, _, _, _, _, _, _, _, _, _, _, _, _, _, _, _, _, _, _, _, _, _, _, _, _, _, _, _, _, rfl, { hI with }⟩
                · obtain rfl := hI.p23 (hd 23 (by decide))
                  rw [if_neg (by first | decide | exact Bool.false_ne_true)]
                  exact hK.out _ _ ⟨_, _, _, _, _, _, _, _, _, _, _, _, _, _, _, _, _, _, _, _, _, _, _, _, _, _, _, _, _, _, _, _, _, _, _, _, _, rfl, { hI with }⟩
                · obtain rfl := hI.p23 (hd 23 (by decide))
                  rw [if_neg (by first | decide | exact Bool.false_ne_true)]
                  exact hK.out _ _ ⟨_, _, _, _, _, _, _, _, _, _, _, _, _, _, _, _, _, _, _, _, _, _, _, _, _, _, _, _, _, _, _, _, _, _, _, _, _, rfl, { hI with }⟩
                · obtain rfl := hI.p23 (hd 23 (by decide))
                  obtain rfl := hI.p11 (hd 11 (by decide))
                  rw [if_pos (by rfl)]
                  go_simp
                  exact hK.out _ _ ⟨_, _, _, _, _, _, _, _, _, _, _, _, _, _, _, _, _, _, _, _, _, _, _, _, _, _, _, _, _, _, _, _, _, _, _, _, _, rfl, { hI with p35 := fun _ => rfl }⟩
                · obtain rfl := hI.p11 (hd 11 (by decide))
                  obtain rfl := hI.p35 (hd 35 (by decide))
                  rw [if_pos (by rfl)]
                  go_simp
                  exact hK.out _ _ ⟨_, _, _, _, _, _, _, _, _, _, _, _, _, _, _, _, _, _, _, _, _, _, _, _, _, _, _, _, _, _, _, _, _, _, _, _, _, rfl, { hI with p36 := fun _ => rfl }⟩
              · rintro L _ W hall ⟨x16, x17, x18, x19, x20, x21, x22, x23, x24, x25, x26, x27, x28, x29, x30, x31, x32, x33, x34, x35, x36, x37, x38, x39, x40, x41, x42, x43, x44, x45, x46, x47, x48, x49, x50, x51, x52, rfl, hI⟩
                obtain rfl := hI.p0 (hall 0 (by decide))
                obtain rfl := hI.p1 (hall 1 (by decide))
                obtain rfl := hI.p2 (hall 2 (by decide))
                obtain rfl := hI.p3 (hall 3 (by decide))
                obtain rfl := hI.p4 (hall 4 (by decide))
                obtain rfl := hI.p5 (hall 5 (by decide))
                obtain rfl := hI.p6 (hall 6 (by decide))
                obtain rfl := hI.p7 (hall 7 (by decide))
                obtain rfl := hI.p8 (hall 8 (by decide))
                obtain rfl := hI.p9 (hall 9 (by decide))
                obtain rfl := hI.p10 (hall 10 (by decide))
                obtain rfl := hI.p11 (hall 11 (by decide))
                obtain rfl := hI.p12 (hall 12 (by decide))
                obtain rfl := hI.p13 (hall 13 (by decide))
                obtain rfl := hI.p14 (hall 14 (by decide))
                obtain rfl := hI.p15 (hall 15 (by decide))
                obtain rfl := hI.p16 (hall 16 (by decide))
                obtain rfl := hI.p17 (hall 17 (by decide))
                obtain rfl := hI.p18 (hall 18 (by decide))
                obtain rfl := hI.p19 (hall 19 (by decide))
                obtain rfl := hI.p20 (hall 20 (by decide))
                obtain rfl := hI.p21 (hall 21 (by decide))
                obtain rfl := hI.p22 (hall 22 (by decide))
                obtain rfl := hI.p23 (hall 23 (by decide))
                obtain rfl := hI.p35 (hall 35 (by decide))
                obtain rfl := hI.p36 (hall 36 (by decide))
                have hXe := hI.x
                clear hI hall
                try dsimp only
                have HX7 : Hid (Dr w W) := hXe
                clear hXe
                go_wp2
                go_ret
                exact ⟨by rw [HNX.out]; rfl, Below_dr (Below.refl _ _) HX7.out⟩
          · have EQT := fun W => EQ false (by simp [h1]) W
            have HNX : Hid (NoCl L i (k + 1)) := NXT.out (fun h => h1 h.1)
            clear EQ NXT YES h1 tp tq
            generalize strOf a = SX at *
            generalize strOf a' = SY at *
            generalize strOf b = MX at *
            generalize strOf b' = MY at *
            go_upto_region 7 with fail
            refine wp_region_inv (ICLA wr w B off n cap i k tx ty SX SY MX MY _ _ _ _ _ _ _ _ _ _ _ _ _ _ _ _) (by kernel_rfl) (by kernel_rfl) ⟨_, _, _, _, _, _, _, _, _, _, _, _, _, _, _, _, _, _, _, _, _, _, _, _, _, _, _, _, _, _, _, _, _, _, _, _, _, rfl, ⟨HD.out.drewN 1, fun k => (by cases k), fun k => (by cases k), fun k => (by cases k), fun k => (by cases k), fun k => (by cases k), fun k => (by cases k), fun k => (by cases k), fun k => (by cases k), fun k => (by cases k), fun k => (by cases k), fun k => (by cases k), fun k => (by cases k), fun k => (by cases k), fun k => (by cases k)⟩⟩ ?_ ?_
            · refine .cons ?_ (.cons ?_ (.cons ?_ (.cons ?_ (.cons ?_ (.cons ?_ (.cons ?_ (.cons ?_ (.cons ?_ (.cons ?_ (.cons ?_ (.cons ?_ (.cons ?_ (.cons ?_ (.cons ?_ (.cons ?_ (.cons ?_ (.cons ?_ (.cons ?_ (.cons ?_ (.cons ?_ (.cons ?_ (.cons ?_ (.cons ?_ (.cons ?_ (.cons ?_ (.cons ?_ (.cons ?_ (.cons ?_ (.cons ?_ (.cons ?_ (.cons ?_ (.cons ?_ (.cons ?_ (.cons ?_ (.cons ?_ (.cons ?_ .nil))))))))))))))))))))))))))))))))))))
              all_goals (refine CLA.step ?_; intro x16 x17 x18 x19 x20 x21 x22 x23 x24 x25 x26 x27 x28 x29 x30 x31 x32 x33 x34 x35 x36 x37 x38 x39 x40 x41 x42 x43 x44 x45 x46 x47 x48 x49 x50 x51 x52 L W hI hL hd K hK)
              · rw [if_pos (by rfl)]
                go_simp
                exact hK.out _ _ ⟨_, _, _, _, _, _, _, _, _, _, _, _, _, _, _, _, _, _, _, _, _, _, _, _, _, _, _, _, _, _, _, _, _, _, _, _, _, rfl, { hI with p0 := fun _ => rfl }⟩
              · rw [if_pos (by rfl)]
                go_simp
                exact hK.out _ _ ⟨_, _, _, _, _, _, _, _, _, _, _, _, _, _, _, _, _, _, _, _, _, _, _, _, _, _, _, _, _, _, _, _, _, _, _, _, _, rfl, { hI with p1 := fun _ => rfl }⟩
              · obtain rfl := hI.p0 (hd 0 (by decide))
                obtain rfl := hI.p1 (hd 1 (by decide))
                rw [if_pos (by rfl)]
                go_simp
                exact hK.out _ _ ⟨_, _, _, _, _, _, _, _, _, _, _, _, _, _, _, _, _, _, _, _, _, _, _, _, _, _, _, _, _, _, _, _, _, _, _, _, _, rfl, { hI with p2 := fun _ => rfl }⟩
              · obtain rfl := hI.p2 (hd 2 (by decide))
                rw [if_pos (by rfl)]
                go_simp
                exact hK.out _ _ ⟨_, _, _, _, _, _, _, _, _, _, _, _, _, _, _, _, _, _, _, _, _, _, _, _, _, _, _, _, _, _, _, _, _, _, _, _, _, rfl, { hI with p3 := fun _ => rfl }⟩
              · obtain rfl := hI.p3 (hd 3 (by decide))
                refine step_load_rng (by rfl) 26 _ rfl B (off + i * 34 + 2) (tx.map B8) (A2.out _ hI.x) rfl _ Tryz.underlying26 rfl (by rw [LP.out]; kernel_rfl) ?_
                exact hK.out _ _ ⟨_, _, _, _, _, _, _, _, _, _, _, _, _, _, _, _, _, _, _, _, _, _, _, _, _, _, _, _, _, _, _, _, _, _, _, _, _, rfl, { hI with p4 := fun _ => rfl }⟩
              · rw [if_pos (by rfl)]
                go_simp
                exact hK.out _ _ ⟨_, _, _, _, _, _, _, _, _, _, _, _, _, _, _, _, _, _, _, _, _, _, _, _, _, _, _, _, _, _, _, _, _, _, _, _, _, rfl, { hI with p5 := fun _ => rfl }⟩
              · rw [if_pos (by rfl)]
                go_simp
                exact hK.out _ _ ⟨_, _, _, _, _, _, _, _, _, _, _, _, _, _, _, _, _, _, _, _, _, _, _, _, _, _, _, _, _, _, _, _, _, _, _, _, _, rfl, { hI with p6 := fun _ => rfl }⟩
              · obtain rfl := hI.p5 (hd 5 (by decide))
                obtain rfl := hI.p6 (hd 6 (by decide))
                rw [if_pos (by rfl)]
                go_simp
                exact hK.out _ _ ⟨_, _, _, _, _, _, _, _, _, _, _, _, _, _, _, _, _, _, _, _, _, _, _, _, _, _, _, _, _, _, _, _, _, _, _, _, _, rfl, { hI with p7 := fun _ => rfl }⟩
              · obtain rfl := hI.p7 (hd 7 (by decide))
                rw [if_pos (by rfl)]
                go_simp
                exact hK.out _ _ ⟨_, _, _, _, _, _, _, _, _, _, _, _, _, _, _, _, _, _, _, _, _, _, _, _, _, _, _, _, _, _, _, _, _, _, _, _, _, rfl, { hI with p8 := fun _ => rfl }⟩
              · obtain rfl := hI.p8 (hd 8 (by decide))
                refine step_load_rng (by rfl) 26 _ rfl B (off + k * 34 + 2) (ty.map B8) (C2.out _ hI.x) rfl _ Tryz.underlying26 rfl (by rw [LQ.out]; kernel_rfl) ?_
                exact hK.out _ _ ⟨_, _, _, _, _, _, _, _, _, _, _, _, _, _, _, _, _, _, _, _, _, _, _, _, _, _, _, _, _, _, _, _, _, _, _, _, _, rfl, { hI with p9 := fun _ => rfl }⟩
              · obtain rfl := hI.p4 (hd 4 (by decide))
                obtain rfl := hI.p9 (hd 9 (by decide))
                rw [if_pos (by rfl)]
                have heq := EQT W
                go_simp
                exact hK.out _ _ ⟨_, _, _, _, _, _, _, _, _, _, _, _, _, _, _, _, _, _, _, _, _, _, _, _, _, _, _, _, _, _, _, _, _, _, _, _, _, rfl, { hI with p10 := fun _ => rfl }⟩
              · obtain rfl := hI.p10 (hd 10 (by decide))
                rw [if_pos (by rfl)]
                go_simp
                exact hK.out _ _ ⟨_, _, _, _, _, _, _, _, _, _, _, _, _, _, _, _, _, _, _, _, _, _, _, _, _, _, _, _, _, _, _, _, _, _, _, _, _, rfl, { hI with p11 := fun _ => rfl }⟩
              · obtain rfl := hI.p11 (hd 11 (by decide))
                rw [if_neg (by first | decide | exact Bool.false_ne_true)]
                exact hK.out _ _ ⟨_, _, _, _, _, _, _, _, _, _, _, _, _, _, _, _, _, _, _, _, _, _, _, _, _, _, _, _, _, _, _, _, _, _, _, _, _, rfl, { hI with }⟩
              · obtain rfl := hI.p11 (hd 11 (by decide))
                rw [if_neg (by first | decide | exact Bool.false_ne_true)]
                exact hK.out _ _ ⟨_, _, _, _, _, _, _, _, _, _, _, _, _, _, _, _, _, _, _, _, _, _, _, _, _, _, _, _, _, _, _, _, _, _, _, _, _, rfl, { hI with }⟩
              · obtain rfl := hI.p11 (hd 11 (by decide))
                rw [if_neg (by first | decide | exact Bool.false_ne_true)]
                exact hK.out _ _ ⟨_, _, _, _, _, _, _, _, _, _, _, _, _, _, _, _, _, _, _, _, _, _, _, _, _, _, _, _, _, _, _, _, _, _, _, _, _, rfl, { hI with }⟩
              · obtain rfl := hI.p11 (hd 11 (by decide))
                rw [if_neg (by first | decide | exact Bool.false_ne_true)]
                exact hK.out _ _ ⟨_, _, _, _, _, _, _, _, _, _, _, _, _, _, _, _, _, _, _, _, _, _, _, _, _, _, _, _, _, _, _, _, _, _, _, _, _, rfl, { hI with }⟩
              · obtain rfl := hI.p11 (hd 11 (by decide))
                rw [if_neg (by first | decide | exact Bool.false_ne_true)]
                exact hK.out _ _ ⟨_, _, _, _, _, _, _, _, _, _, _, _, _, _, _, _, _, _, _, _, _, _, _, _, _, _, _, _, _, _, _, _, _, _, _, _, _, rfl, { hI with }⟩
              · obtain rfl := hI.p11 (hd 11 (by decide))
                rw [if_neg (by first | decide | exact Bool.false_ne_true)]
                exact hK.out _ _ ⟨_, _, _, _, _, _, _, _, _, _, _, _, _, _, _, _, _, _, _, _, _, _, _, _, _, _, _, _, _, _, _, _, _, _, _, _, _, rfl, { hI with }⟩
              · obtain rfl := hI.p11 (hd 11 (by decide))
                rw [if_neg (by first | decide | exact Bool.false_ne_true)]
                exact hK.out _ _ ⟨_, _, _, _, _, _, _, _, _, _, _, _, _, _, _, _, _, _, _, _, _, _, _, _, _, _, _, _, _, _, _, _, _, _, _, _, _, rfl, { hI with }⟩
              · obtain rfl := hI.p11 (hd 11 (by decide))
                rw [if_neg (by first | decide | exact Bool.false_ne_true)]
                exact hK.out _ _ ⟨_, _, _, _, _, _, _, _, _, _, _, _, _, _, _, _, _, _, _, _, _, _, _, _, _, _, _, _, _, _, _, _, _, _, _, _, _, rfl, { hI with }⟩
              · obtain rfl := hI.p11 (hd 11 (by decide))
                rw [if_neg (by first | decide | exact Bool.false_ne_true)]
                exact hK.out _ _ ⟨_, _, _, _, _, _, _, _, _, _, _, _, _, _, _, _, _, _, _, _, _, _, _, _, _, _, _, _, _, _, _, _, _, _, _, _, _, rfl, { hI with }⟩
              · obtain rfl := hI.p11 (hd 11 (by decide))
                rw [if_neg (by first | decide | exact Bool.false_ne_true)]
                exact hK.out _ _ ⟨_, _, _, _, _, _, _, _, _, _, _, _, _, _, _, _, _, _, _, _, _, _, _, _, _, _, _, _, _, _, _, _, _, _, _, _, _, rfl, { hI with }⟩
              · obtain rfl := hI.p11 (hd 11 (by decide))
                rw [if_neg (by first | decide | exact Bool.false_ne_true)]
                exact hK.out _ _ ⟨_, _, _, _, _, _, _, _, _, _, _, _, _, _, _, _, _, _, _, _, _, _, _, _, _, _, _, _, _, _, _, _, _, _, _, _, _, rfl, { hI with }⟩
              · obtain rfl := hI.p11 (hd 11 (by decide))
                rw [if_neg (by first | decide | exact Bool.false_ne_true)]
                exact hK.out _ _ ⟨_, _, _, _, _, _, _, _, _, _, _, _, _, _, _, _, _, _, _, _, _, _, _, _, _, _, _, _, _, _, _, _, _, _, _, _, _, rfl, { hI with p23 := fun _ => rfl }⟩
              · obtain rfl := hI.p23 (hd 23 (by decide))
                rw [if_neg (by first | decide | exact Bool.false_ne_true)]
                exact hK.out _ _ ⟨_, _, _, _, _, _, _, _, _, _, _, _, _, _, _, _, _, _, _, _, _, _, _, _, _, _, _, _, _, _, _, _, _, _, _, _, _, rfl, { hI with }⟩
              · obtain rfl := hI.p23 (hd 23 (by decide))
                rw [if_neg (by first | decide | exact Bool.false_ne_true)]
                exact hK.out _ _ ⟨_, _, _, _, _, _, _, _, _, _, _, _, _, _, _, _, _, _, _, _, _, _, _, _, _, _, _, _, _, _, _, _, _, _, _, _, _, rfl, { hI with }⟩
              · obtain rfl := hI.p23 (hd 23 (by decide))
                rw [if_neg (by first | decide | exact Bool.false_ne_true)]
                exact hK.out _ _ ⟨_, _, _, _, _, _, _, _, _, _, _, _, _, _, _, _, _, _, _, _, _, _, _, _, _, _, _, _, _, _, _, _, _, _, _, _, _, rfl, { hI with }⟩
              · obtain rfl := hI.p23 (hd 23 (by decide))
                rw [if_neg (by first | decide | exact Bool.false_ne_true)]
                exact hK.out _ _ ⟨_, _, _, _, _, _, _, _, _, _, _, _, _, _, _, _, _, _, _, _, _, _, _, _, _, _, _, _, _, _, _, _, _, _, _, _, _, rfl, { hI with }⟩
              · obtain rfl := hI.p23 (hd 23 (by decide))
                rw [if_neg (by first | decide | exact Bool.false_ne_true)]
                exact hK.out _ _ ⟨_, _, _, _, _, _, _, _, _, _, _, _, _, _, _, _, _, _, _, _, _, _, _, _, _, _, _, _, _, _, _, _, _, _, _, _, _, rfl, { hI with }⟩
              · obtain rfl := hI.p23 (hd 23 (by decide))
                rw [if_neg (by first | decide | exact Bool.false_ne_true)]
                exact hK.out _ _ ⟨_, _, _, _, _, _, _, _, _, _, _, _, _, _, _, _, _, _, _, _, _, _, _, _, _, _, _, _, _, _, _, _, _, _, _, _, _, rfl, { hI with }⟩
              · obtain rfl := hI.p23 (hd 23 (by decide))
                rw [if_neg (by first | decide | exact Bool.false_ne_true)]
                exact hK.out _ _ ⟨_, _, _, _, _, _, _, _, _, _, _, _, _, _, _, _, _, _, _, _, _, _, _, _, _, _, _, _, _, _, _, _, _, _, _, _, _, rfl, { hI with }⟩
              · obtain rfl := hI.p23 (hd 23 (by decide))
                rw [if_neg (by first | decide | exact Bool.false_ne_true)]
                exact hK.out _ _ ⟨_, _, _, _, _, _, _, _, _, _, _, _, _, _, _, _, _, _, _, _, _, _, _, _, _, _, _, _, _, _, _, _, _, _, _, _, _, rfl, { hI with }⟩
              · obtain rfl := hI.p23 (hd 23 (by decide))
                rw [if_neg (by first | decide | exact Bool.false_ne_true)]
                exact hK.out _ _ ⟨_, _, _, _, _, _, _, _, _, _, _, _, _, _, _, _, _, _, _, _, _, _, _, _, _, _, _, _, _, _, _, _, _, _, _, _, _, rfl, { hI with }⟩
              · obtain rfl := hI.p23 (hd 23 (by decide))
                rw [if_neg (by first | decide | exact Bool.false_ne_true)]
                exact hK.out _ _ ⟨_, _, _, _, _, _, _, _, _, _, _, _, _, _, _, _, _, _, _, _, _, _, _, _, _, _, _, _, _, _, _, _, _, _, _, _, _, rfl, { hI with }⟩
              · obtain rfl := hI.p23 (hd 23 (by decide))
                rw [if_neg (by first | decide | exact Bool.false_ne_true)]
                exact hK.out _ _ ⟨_, _, _, _, _, _, _, _, _, _, _, _, _, _, _, _, _, _, _, _, _, _, _, _, _, _, _, _, _, _, _, _, _, _, _, _, _, rfl, { hI with }⟩
              · obtain rfl := hI.p23 (hd 23 (by decide))
                obtain rfl := hI.p11 (hd 11 (by decide))
                rw [if_neg (by first | decide | exact Bool.false_ne_true)]
                exact hK.out _ _ ⟨_, _, _, _, _, _, _, _, _, _, _, _, _, _, _, _, _, _, _, _, _, _, _, _, _, _, _, _, _, _, _, _, _, _, _, _, _, rfl, { hI with }⟩
              · obtain rfl := hI.p11 (hd 11 (by decide))
                rw [if_pos (by rfl)]
                go_simp
                exact hK.out _ _ ⟨_, _, _, _, _, _, _, _, _, _, _, _, _, _, _, _, _, _, _, _, _, _, _, _, _, _, _, _, _, _, _, _, _, _, _, _, _, rfl, { hI with p36 := fun _ => rfl }⟩
            · rintro L _ W hall ⟨x16, x17, x18, x19, x20, x21, x22, x23, x24, x25, x26, x27, x28, x29, x30, x31, x32, x33, x34, x35, x36, x37, x38, x39, x40, x41, x42, x43, x44, x45, x46, x47, x48, x49, x50, x51, x52, rfl, hI⟩
              obtain rfl := hI.p0 (hall 0 (by decide))
              obtain rfl := hI.p1 (hall 1 (by decide))
              obtain rfl := hI.p2 (hall 2 (by decide))
              obtain rfl := hI.p3 (hall 3 (by decide))
              obtain rfl := hI.p4 (hall 4 (by decide))
              obtain rfl := hI.p5 (hall 5 (by decide))
              obtain rfl := hI.p6 (hall 6 (by decide))
              obtain rfl := hI.p7 (hall 7 (by decide))
              obtain rfl := hI.p8 (hall 8 (by decide))
              obtain rfl := hI.p9 (hall 9 (by decide))
              obtain rfl := hI.p10 (hall 10 (by decide))
              obtain rfl := hI.p11 (hall 11 (by decide))
              obtain rfl := hI.p23 (hall 23 (by decide))
              obtain rfl := hI.p36 (hall 36 (by decide))
              have hXe := hI.x
              clear hI hall
              try dsimp only
              have HX7 : Hid (Dr w W) := hXe
              clear hXe
              go_wp2
              exact ⟨⟨k + 1, HKL.out, by go_num, HX7, HNX⟩, by have := HKL.out; simp [intOf]; omega⟩
        · obtain rfl : k = i := by omega
          have x1 : ¬ ((k : Nat) : Int) < (k : Int) := by omega
          have HNX : Hid (NoCl L (k + 1) 0) := fun a b x y h1 h2 => HC.out a b x y h1 (by omega)
          go_wp2
          exact ⟨⟨k + 1, HLT.out, by go_num, HD, HNX⟩, by have := HLT.out; simp [intOf]; omega⟩
    · obtain rfl : i = n := by omega
      have y1 : ¬ ((i : Nat) : Int) < (i : Int) := by omega
      have HF : Hid (v = false) := by
        cases hvv : v
        · exact rfl
        · exact absurd (HV.out.1 hvv) (nocl_all (by rw [← HN.out]; exact HC.out))
      go_wp2
      go_ret
      exact ⟨by rw [HF.out]; rfl, Below_dr (Below.refl _ _) HD.out⟩
end Go.Proofs.YtjooabgjkjnhhaaGreatDoor
