
import Derived.Test.YtdfbfheceobboaaDoorP25AB
import Derived.Test.YtdfbfheceobboaaDoorI11Inv
import Derived.Test.YtdfbfheceobboaaDoorI11Mem
import Derived.BigRegion
/-! told: an error as the document has it. -/
namespace Go.Proofs.YtdfbfheceobboaaDoor
open Go.RowKit

structure ToldW (w : World) (ge : Nat) (E At : Int) (l1 l2 : Bool) (W : World) : Prop where
  bel : Below w.heap.size w W
  rr : Row W w.heap.size 60 [.int .i64 0, .int .i64 0]
  pw : ∃ x, Row W (w.heap.size + 1) 48 [x] ∧ (l1 = true → x = .pointer (some ⟨ge, 0, none⟩))
  pn : ∃ y, Row W (w.heap.size + 2) 26 [y] ∧ (l2 = true → y = .int .i64 E)
section
variable {w W : World} {ge : Nat} {E At : Int} {l1 l2 : Bool}
theorem ToldW.hit1 (h : ToldW w ge E At l1 l2 W) (o1 o2 o3 o4 : Obj) : ToldW w ge E At true l2 (((((W.alloc o1).alloc o2).alloc o3).alloc o4).setCell ⟨w.heap.size + 1, 0, none⟩ (.pointer (some ⟨ge, 0, none⟩))) := by
  obtain ⟨x, h1, _⟩ := h.pw
  obtain ⟨y, h2, h3⟩ := h.pn
  have hz := h.bel.size
  have sb := SameBut.setCell (w.heap.size + 1) 0 (.pointer (some ⟨ge, 0, none⟩)) ((((W.alloc o1).alloc o2).alloc o3).alloc o4)
  refine ⟨?_, (((((h.rr.alloc o1).alloc o2).alloc o3).alloc o4)).but sb (by omega), ⟨_, ((((h1.alloc o1).alloc o2).alloc o3).alloc o4).set 0 _, fun _ => rfl⟩, ⟨y, (((((h2.alloc o1).alloc o2).alloc o3).alloc o4)).but sb (by omega), h3⟩⟩
  exact sb.below ((((h.bel.alloc hz _).alloc (by simp; omega) _).alloc (by simp; omega) _).alloc (by simp; omega) _) (by omega)
theorem ToldW.hit2 (h : ToldW w ge E At l1 l2 W) (o1 o2 o3 o4 : Obj) : ToldW w ge E At l1 true (((((W.alloc o1).alloc o2).alloc o3).alloc o4).setCell ⟨w.heap.size + 2, 0, none⟩ (.int .i64 E)) := by
  obtain ⟨x, h1, h3⟩ := h.pw
  obtain ⟨y, h2, _⟩ := h.pn
  have hz := h.bel.size
  have sb := SameBut.setCell (w.heap.size + 2) 0 (.int .i64 E) ((((W.alloc o1).alloc o2).alloc o3).alloc o4)
  refine ⟨?_, (((((h.rr.alloc o1).alloc o2).alloc o3).alloc o4)).but sb (by omega), ⟨x, (((((h1.alloc o1).alloc o2).alloc o3).alloc o4)).but sb (by omega), h3⟩, ⟨_, ((((h2.alloc o1).alloc o2).alloc o3).alloc o4).set 0 _, fun _ => rfl⟩⟩
  exact sb.below ((((h.bel.alloc hz _).alloc (by simp; omega) _).alloc (by simp; omega) _).alloc (by simp; omega) _) (by omega)
theorem ToldW.cE (hr : Row w ge 52 [.int .i64 E, .int .i64 At]) (h : ToldW w ge E At l1 l2 W) : W.cell? ⟨ge, 0, none⟩ = some (.int .i64 E) := (hr.below h.bel hr.lt).cell 0 _ rfl
theorem ToldW.cA (hr : Row w ge 52 [.int .i64 E, .int .i64 At]) (h : ToldW w ge E At l1 l2 W) : W.cell? ⟨ge, 1, none⟩ = some (.int .i64 At) := (hr.below h.bel hr.lt).cell 1 _ rfl
theorem ToldW.cW (h : ToldW w ge E At l1 l2 W) (hl : l1 = true) : W.cell? ⟨w.heap.size + 1, 0, none⟩ = some (.pointer (some ⟨ge, 0, none⟩)) := by
  obtain ⟨x, h1, h2⟩ := h.pw
  have := h2 hl; subst this; exact h1.cell 0 _ rfl
theorem ToldW.cN (h : ToldW w ge E At l1 l2 W) (hl : l2 = true) : W.cell? ⟨w.heap.size + 2, 0, none⟩ = some (.int .i64 E) := by
  obtain ⟨x, h1, h2⟩ := h.pn
  have := h2 hl; subst this; exact h1.cell 0 _ rfl
end

structure T5 (W1 : World) (w : World) (ge : Nat) (E At : Int) (L : Nat → Bool) (x9 x10 x11 x12 x13 x14 x15 x16 x17 x18 x19 x20 x21 x22 x23 x24 x25 x26 x27 x28 x29 x30 x31 x32 x33 x34 x35 x36 x37 : Value) (W : World) : Prop where
  x : ToldW w ge E At (L 2) (L 11) W
  p0 : L 0 = true → x9 = .iface 48 (.pointer (some ⟨ge, 0, none⟩))
  p1 : L 1 = true → x10 = .iface 112 (.pointer (some ⟨w.heap.size + 1, 0, none⟩))
  p2 : L 2 = true → x11 = .bool true
  p3 : L 3 = true → x12 = .bool false
  p4 : L 4 = true → x13 = .bool false
  p5 : L 5 = true → x14 = .pointer (some ⟨ge, 0, none⟩)
  p6 : L 6 = true → x15 = .bool false
  p7 : L 7 = true → x16 = .bool false
  p8 : L 8 = true → x17 = .bool false
  p9 : L 9 = true → x18 = .iface 48 (.pointer (some ⟨ge, 0, none⟩))
  p10 : L 10 = true → x19 = .iface 113 (.pointer (some ⟨w.heap.size + 2, 0, none⟩))
  p11 : L 11 = true → x20 = .bool true
  p12 : L 12 = true → x21 = .bool false
  p13 : L 13 = true → x22 = .bool false
  p14 : L 14 = true → x23 = .bool false
  p15 : L 15 = true → x24 = .int .i64 E
  p16 : L 16 = true → x25 = .pointer (some ⟨ge, 0, none⟩)
  p17 : L 17 = true → x26 = .pointer (some ⟨ge, 0, none⟩)
  p18 : L 18 = true → x27 = .pointer (some ⟨ge, 0, none⟩)
  p19 : L 19 = true → x28 = .int .i64 E
  p20 : L 20 = true → x29 = .bool false
  p21 : L 21 = true → x30 = .bool false
  p22 : L 22 = true → x31 = .bool false
  p23 : L 23 = true → x32 = .pointer (some ⟨ge, 0, none⟩)
  p24 : L 24 = true → x33 = .pointer (some ⟨ge, 0, none⟩)
  p25 : L 25 = true → x34 = .pointer (some ⟨ge, 0, none⟩)
  p26 : L 26 = true → x35 = .int .i64 E
  p27 : L 27 = true → x36 = .bool false
  p28 : L 28 = true → x37 = .bool false
  c4_3 : L 4 = true → L 3 = true
  c3_2 : L 3 = true → L 2 = true
  c14_13 : L 14 = true → L 13 = true
  c13_12 : L 13 = true → L 12 = true
  c12_11 : L 12 = true → L 11 = true
  c13_8 : L 13 = true → L 8 = true
  c8_7 : L 8 = true → L 7 = true
  c7_4 : L 7 = true → L 4 = true
  c22_21 : L 22 = true → L 21 = true
  c21_14 : L 21 = true → L 14 = true
section
variable {W1 : World} {w : World} {ge : Nat} {E At : Int} {L : Nat → Bool} {x9 x10 x11 x12 x13 x14 x15 x16 x17 x18 x19 x20 x21 x22 x23 x24 x25 x26 x27 x28 x29 x30 x31 x32 x33 x34 x35 x36 x37 : Value} {W W2 : World}
theorem T5.s0 (h : T5 W1 w ge E At L x9 x10 x11 x12 x13 x14 x15 x16 x17 x18 x19 x20 x21 x22 x23 x24 x25 x26 x27 x28 x29 x30 x31 x32 x33 x34 x35 x36 x37 W) : T5 W1 w ge E At (upd L 0) (.iface 48 (.pointer (some ⟨ge, 0, none⟩))) x10 x11 x12 x13 x14 x15 x16 x17 x18 x19 x20 x21 x22 x23 x24 x25 x26 x27 x28 x29 x30 x31 x32 x33 x34 x35 x36 x37 W :=
  ⟨h.x, fun _ => rfl, h.p1, h.p2, h.p3, h.p4, h.p5, h.p6, h.p7, h.p8, h.p9, h.p10, h.p11, h.p12, h.p13, h.p14, h.p15, h.p16, h.p17, h.p18, h.p19, h.p20, h.p21, h.p22, h.p23, h.p24, h.p25, h.p26, h.p27, h.p28, h.c4_3, h.c3_2, h.c14_13, h.c13_12, h.c12_11, h.c13_8, h.c8_7, h.c7_4, h.c22_21, h.c21_14⟩
theorem T5.s1 (h : T5 W1 w ge E At L x9 x10 x11 x12 x13 x14 x15 x16 x17 x18 x19 x20 x21 x22 x23 x24 x25 x26 x27 x28 x29 x30 x31 x32 x33 x34 x35 x36 x37 W) : T5 W1 w ge E At (upd L 1) x9 (.iface 112 (.pointer (some ⟨w.heap.size + 1, 0, none⟩))) x11 x12 x13 x14 x15 x16 x17 x18 x19 x20 x21 x22 x23 x24 x25 x26 x27 x28 x29 x30 x31 x32 x33 x34 x35 x36 x37 W :=
  ⟨h.x, h.p0, fun _ => rfl, h.p2, h.p3, h.p4, h.p5, h.p6, h.p7, h.p8, h.p9, h.p10, h.p11, h.p12, h.p13, h.p14, h.p15, h.p16, h.p17, h.p18, h.p19, h.p20, h.p21, h.p22, h.p23, h.p24, h.p25, h.p26, h.p27, h.p28, h.c4_3, h.c3_2, h.c14_13, h.c13_12, h.c12_11, h.c13_8, h.c8_7, h.c7_4, h.c22_21, h.c21_14⟩
theorem T5.s2 (h : T5 W1 w ge E At L x9 x10 x11 x12 x13 x14 x15 x16 x17 x18 x19 x20 x21 x22 x23 x24 x25 x26 x27 x28 x29 x30 x31 x32 x33 x34 x35 x36 x37 W) (hX : ToldW w ge E At ((upd L 2) 2) ((upd L 2) 11) W2) : T5 W1 w ge E At (upd L 2) x9 x10 (.bool true) x12 x13 x14 x15 x16 x17 x18 x19 x20 x21 x22 x23 x24 x25 x26 x27 x28 x29 x30 x31 x32 x33 x34 x35 x36 x37 W2 :=
  ⟨hX, h.p0, h.p1, fun _ => rfl, h.p3, h.p4, h.p5, h.p6, h.p7, h.p8, h.p9, h.p10, h.p11, h.p12, h.p13, h.p14, h.p15, h.p16, h.p17, h.p18, h.p19, h.p20, h.p21, h.p22, h.p23, h.p24, h.p25, h.p26, h.p27, h.p28, h.c4_3, fun _ => rfl, h.c14_13, h.c13_12, h.c12_11, h.c13_8, h.c8_7, h.c7_4, h.c22_21, h.c21_14⟩
theorem T5.s3 (h : T5 W1 w ge E At L x9 x10 x11 x12 x13 x14 x15 x16 x17 x18 x19 x20 x21 x22 x23 x24 x25 x26 x27 x28 x29 x30 x31 x32 x33 x34 x35 x36 x37 W) (hc2 : L 2 = true) : T5 W1 w ge E At (upd L 3) x9 x10 x11 (.bool false) x13 x14 x15 x16 x17 x18 x19 x20 x21 x22 x23 x24 x25 x26 x27 x28 x29 x30 x31 x32 x33 x34 x35 x36 x37 W :=
  ⟨h.x, h.p0, h.p1, h.p2, fun _ => rfl, h.p4, h.p5, h.p6, h.p7, h.p8, h.p9, h.p10, h.p11, h.p12, h.p13, h.p14, h.p15, h.p16, h.p17, h.p18, h.p19, h.p20, h.p21, h.p22, h.p23, h.p24, h.p25, h.p26, h.p27, h.p28, fun _ => rfl, fun _ => hc2, h.c14_13, h.c13_12, h.c12_11, h.c13_8, h.c8_7, h.c7_4, h.c22_21, h.c21_14⟩
theorem T5.s4 (h : T5 W1 w ge E At L x9 x10 x11 x12 x13 x14 x15 x16 x17 x18 x19 x20 x21 x22 x23 x24 x25 x26 x27 x28 x29 x30 x31 x32 x33 x34 x35 x36 x37 W) (hc3 : L 3 = true) : T5 W1 w ge E At (upd L 4) x9 x10 x11 x12 (.bool false) x14 x15 x16 x17 x18 x19 x20 x21 x22 x23 x24 x25 x26 x27 x28 x29 x30 x31 x32 x33 x34 x35 x36 x37 W :=
  ⟨h.x, h.p0, h.p1, h.p2, h.p3, fun _ => rfl, h.p5, h.p6, h.p7, h.p8, h.p9, h.p10, h.p11, h.p12, h.p13, h.p14, h.p15, h.p16, h.p17, h.p18, h.p19, h.p20, h.p21, h.p22, h.p23, h.p24, h.p25, h.p26, h.p27, h.p28, fun _ => hc3, h.c3_2, h.c14_13, h.c13_12, h.c12_11, h.c13_8, h.c8_7, fun _ => rfl, h.c22_21, h.c21_14⟩
theorem T5.s5 (h : T5 W1 w ge E At L x9 x10 x11 x12 x13 x14 x15 x16 x17 x18 x19 x20 x21 x22 x23 x24 x25 x26 x27 x28 x29 x30 x31 x32 x33 x34 x35 x36 x37 W) : T5 W1 w ge E At (upd L 5) x9 x10 x11 x12 x13 (.pointer (some ⟨ge, 0, none⟩)) x15 x16 x17 x18 x19 x20 x21 x22 x23 x24 x25 x26 x27 x28 x29 x30 x31 x32 x33 x34 x35 x36 x37 W :=
  ⟨h.x, h.p0, h.p1, h.p2, h.p3, h.p4, fun _ => rfl, h.p6, h.p7, h.p8, h.p9, h.p10, h.p11, h.p12, h.p13, h.p14, h.p15, h.p16, h.p17, h.p18, h.p19, h.p20, h.p21, h.p22, h.p23, h.p24, h.p25, h.p26, h.p27, h.p28, h.c4_3, h.c3_2, h.c14_13, h.c13_12, h.c12_11, h.c13_8, h.c8_7, h.c7_4, h.c22_21, h.c21_14⟩
theorem T5.s6 (h : T5 W1 w ge E At L x9 x10 x11 x12 x13 x14 x15 x16 x17 x18 x19 x20 x21 x22 x23 x24 x25 x26 x27 x28 x29 x30 x31 x32 x33 x34 x35 x36 x37 W) : T5 W1 w ge E At (upd L 6) x9 x10 x11 x12 x13 x14 (.bool false) x16 x17 x18 x19 x20 x21 x22 x23 x24 x25 x26 x27 x28 x29 x30 x31 x32 x33 x34 x35 x36 x37 W :=
  ⟨h.x, h.p0, h.p1, h.p2, h.p3, h.p4, h.p5, fun _ => rfl, h.p7, h.p8, h.p9, h.p10, h.p11, h.p12, h.p13, h.p14, h.p15, h.p16, h.p17, h.p18, h.p19, h.p20, h.p21, h.p22, h.p23, h.p24, h.p25, h.p26, h.p27, h.p28, h.c4_3, h.c3_2, h.c14_13, h.c13_12, h.c12_11, h.c13_8, h.c8_7, h.c7_4, h.c22_21, h.c21_14⟩
theorem T5.s7 (h : T5 W1 w ge E At L x9 x10 x11 x12 x13 x14 x15 x16 x17 x18 x19 x20 x21 x22 x23 x24 x25 x26 x27 x28 x29 x30 x31 x32 x33 x34 x35 x36 x37 W) (hc4 : L 4 = true) : T5 W1 w ge E At (upd L 7) x9 x10 x11 x12 x13 x14 x15 (.bool false) x17 x18 x19 x20 x21 x22 x23 x24 x25 x26 x27 x28 x29 x30 x31 x32 x33 x34 x35 x36 x37 W :=
  ⟨h.x, h.p0, h.p1, h.p2, h.p3, h.p4, h.p5, h.p6, fun _ => rfl, h.p8, h.p9, h.p10, h.p11, h.p12, h.p13, h.p14, h.p15, h.p16, h.p17, h.p18, h.p19, h.p20, h.p21, h.p22, h.p23, h.p24, h.p25, h.p26, h.p27, h.p28, h.c4_3, h.c3_2, h.c14_13, h.c13_12, h.c12_11, h.c13_8, fun _ => rfl, fun _ => hc4, h.c22_21, h.c21_14⟩
theorem T5.s8 (h : T5 W1 w ge E At L x9 x10 x11 x12 x13 x14 x15 x16 x17 x18 x19 x20 x21 x22 x23 x24 x25 x26 x27 x28 x29 x30 x31 x32 x33 x34 x35 x36 x37 W) (hc7 : L 7 = true) : T5 W1 w ge E At (upd L 8) x9 x10 x11 x12 x13 x14 x15 x16 (.bool false) x18 x19 x20 x21 x22 x23 x24 x25 x26 x27 x28 x29 x30 x31 x32 x33 x34 x35 x36 x37 W :=
  ⟨h.x, h.p0, h.p1, h.p2, h.p3, h.p4, h.p5, h.p6, h.p7, fun _ => rfl, h.p9, h.p10, h.p11, h.p12, h.p13, h.p14, h.p15, h.p16, h.p17, h.p18, h.p19, h.p20, h.p21, h.p22, h.p23, h.p24, h.p25, h.p26, h.p27, h.p28, h.c4_3, h.c3_2, h.c14_13, h.c13_12, h.c12_11, fun _ => rfl, fun _ => hc7, h.c7_4, h.c22_21, h.c21_14⟩
theorem T5.s9 (h : T5 W1 w ge E At L x9 x10 x11 x12 x13 x14 x15 x16 x17 x18 x19 x20 x21 x22 x23 x24 x25 x26 x27 x28 x29 x30 x31 x32 x33 x34 x35 x36 x37 W) : T5 W1 w ge E At (upd L 9) x9 x10 x11 x12 x13 x14 x15 x16 x17 (.iface 48 (.pointer (some ⟨ge, 0, none⟩))) x19 x20 x21 x22 x23 x24 x25 x26 x27 x28 x29 x30 x31 x32 x33 x34 x35 x36 x37 W :=
  ⟨h.x, h.p0, h.p1, h.p2, h.p3, h.p4, h.p5, h.p6, h.p7, h.p8, fun _ => rfl, h.p10, h.p11, h.p12, h.p13, h.p14, h.p15, h.p16, h.p17, h.p18, h.p19, h.p20, h.p21, h.p22, h.p23, h.p24, h.p25, h.p26, h.p27, h.p28, h.c4_3, h.c3_2, h.c14_13, h.c13_12, h.c12_11, h.c13_8, h.c8_7, h.c7_4, h.c22_21, h.c21_14⟩
theorem T5.s10 (h : T5 W1 w ge E At L x9 x10 x11 x12 x13 x14 x15 x16 x17 x18 x19 x20 x21 x22 x23 x24 x25 x26 x27 x28 x29 x30 x31 x32 x33 x34 x35 x36 x37 W) : T5 W1 w ge E At (upd L 10) x9 x10 x11 x12 x13 x14 x15 x16 x17 x18 (.iface 113 (.pointer (some ⟨w.heap.size + 2, 0, none⟩))) x20 x21 x22 x23 x24 x25 x26 x27 x28 x29 x30 x31 x32 x33 x34 x35 x36 x37 W :=
  ⟨h.x, h.p0, h.p1, h.p2, h.p3, h.p4, h.p5, h.p6, h.p7, h.p8, h.p9, fun _ => rfl, h.p11, h.p12, h.p13, h.p14, h.p15, h.p16, h.p17, h.p18, h.p19, h.p20, h.p21, h.p22, h.p23, h.p24, h.p25, h.p26, h.p27, h.p28, h.c4_3, h.c3_2, h.c14_13, h.c13_12, h.c12_11, h.c13_8, h.c8_7, h.c7_4, h.c22_21, h.c21_14⟩
theorem T5.s11 (h : T5 W1 w ge E At L x9 x10 x11 x12 x13 x14 x15 x16 x17 x18 x19 x20 x21 x22 x23 x24 x25 x26 x27 x28 x29 x30 x31 x32 x33 x34 x35 x36 x37 W) (hX : ToldW w ge E At ((upd L 11) 2) ((upd L 11) 11) W2) : T5 W1 w ge E At (upd L 11) x9 x10 x11 x12 x13 x14 x15 x16 x17 x18 x19 (.bool true) x21 x22 x23 x24 x25 x26 x27 x28 x29 x30 x31 x32 x33 x34 x35 x36 x37 W2 :=
  ⟨hX, h.p0, h.p1, h.p2, h.p3, h.p4, h.p5, h.p6, h.p7, h.p8, h.p9, h.p10, fun _ => rfl, h.p12, h.p13, h.p14, h.p15, h.p16, h.p17, h.p18, h.p19, h.p20, h.p21, h.p22, h.p23, h.p24, h.p25, h.p26, h.p27, h.p28, h.c4_3, h.c3_2, h.c14_13, h.c13_12, fun _ => rfl, h.c13_8, h.c8_7, h.c7_4, h.c22_21, h.c21_14⟩
theorem T5.s12 (h : T5 W1 w ge E At L x9 x10 x11 x12 x13 x14 x15 x16 x17 x18 x19 x20 x21 x22 x23 x24 x25 x26 x27 x28 x29 x30 x31 x32 x33 x34 x35 x36 x37 W) (hc11 : L 11 = true) : T5 W1 w ge E At (upd L 12) x9 x10 x11 x12 x13 x14 x15 x16 x17 x18 x19 x20 (.bool false) x22 x23 x24 x25 x26 x27 x28 x29 x30 x31 x32 x33 x34 x35 x36 x37 W :=
  ⟨h.x, h.p0, h.p1, h.p2, h.p3, h.p4, h.p5, h.p6, h.p7, h.p8, h.p9, h.p10, h.p11, fun _ => rfl, h.p13, h.p14, h.p15, h.p16, h.p17, h.p18, h.p19, h.p20, h.p21, h.p22, h.p23, h.p24, h.p25, h.p26, h.p27, h.p28, h.c4_3, h.c3_2, h.c14_13, fun _ => rfl, fun _ => hc11, h.c13_8, h.c8_7, h.c7_4, h.c22_21, h.c21_14⟩
theorem T5.s13 (h : T5 W1 w ge E At L x9 x10 x11 x12 x13 x14 x15 x16 x17 x18 x19 x20 x21 x22 x23 x24 x25 x26 x27 x28 x29 x30 x31 x32 x33 x34 x35 x36 x37 W) (hc12 : L 12 = true) (hc8 : L 8 = true) : T5 W1 w ge E At (upd L 13) x9 x10 x11 x12 x13 x14 x15 x16 x17 x18 x19 x20 x21 (.bool false) x23 x24 x25 x26 x27 x28 x29 x30 x31 x32 x33 x34 x35 x36 x37 W :=
  ⟨h.x, h.p0, h.p1, h.p2, h.p3, h.p4, h.p5, h.p6, h.p7, h.p8, h.p9, h.p10, h.p11, h.p12, fun _ => rfl, h.p14, h.p15, h.p16, h.p17, h.p18, h.p19, h.p20, h.p21, h.p22, h.p23, h.p24, h.p25, h.p26, h.p27, h.p28, h.c4_3, h.c3_2, fun _ => rfl, fun _ => hc12, h.c12_11, fun _ => hc8, h.c8_7, h.c7_4, h.c22_21, h.c21_14⟩
theorem T5.s14 (h : T5 W1 w ge E At L x9 x10 x11 x12 x13 x14 x15 x16 x17 x18 x19 x20 x21 x22 x23 x24 x25 x26 x27 x28 x29 x30 x31 x32 x33 x34 x35 x36 x37 W) (hc13 : L 13 = true) : T5 W1 w ge E At (upd L 14) x9 x10 x11 x12 x13 x14 x15 x16 x17 x18 x19 x20 x21 x22 (.bool false) x24 x25 x26 x27 x28 x29 x30 x31 x32 x33 x34 x35 x36 x37 W :=
  ⟨h.x, h.p0, h.p1, h.p2, h.p3, h.p4, h.p5, h.p6, h.p7, h.p8, h.p9, h.p10, h.p11, h.p12, h.p13, fun _ => rfl, h.p15, h.p16, h.p17, h.p18, h.p19, h.p20, h.p21, h.p22, h.p23, h.p24, h.p25, h.p26, h.p27, h.p28, h.c4_3, h.c3_2, fun _ => hc13, h.c13_12, h.c12_11, h.c13_8, h.c8_7, h.c7_4, h.c22_21, fun _ => rfl⟩
theorem T5.s15 (h : T5 W1 w ge E At L x9 x10 x11 x12 x13 x14 x15 x16 x17 x18 x19 x20 x21 x22 x23 x24 x25 x26 x27 x28 x29 x30 x31 x32 x33 x34 x35 x36 x37 W) : T5 W1 w ge E At (upd L 15) x9 x10 x11 x12 x13 x14 x15 x16 x17 x18 x19 x20 x21 x22 x23 (.int .i64 E) x25 x26 x27 x28 x29 x30 x31 x32 x33 x34 x35 x36 x37 W :=
  ⟨h.x, h.p0, h.p1, h.p2, h.p3, h.p4, h.p5, h.p6, h.p7, h.p8, h.p9, h.p10, h.p11, h.p12, h.p13, h.p14, fun _ => rfl, h.p16, h.p17, h.p18, h.p19, h.p20, h.p21, h.p22, h.p23, h.p24, h.p25, h.p26, h.p27, h.p28, h.c4_3, h.c3_2, h.c14_13, h.c13_12, h.c12_11, h.c13_8, h.c8_7, h.c7_4, h.c22_21, h.c21_14⟩
theorem T5.s16 (h : T5 W1 w ge E At L x9 x10 x11 x12 x13 x14 x15 x16 x17 x18 x19 x20 x21 x22 x23 x24 x25 x26 x27 x28 x29 x30 x31 x32 x33 x34 x35 x36 x37 W) : T5 W1 w ge E At (upd L 16) x9 x10 x11 x12 x13 x14 x15 x16 x17 x18 x19 x20 x21 x22 x23 x24 (.pointer (some ⟨ge, 0, none⟩)) x26 x27 x28 x29 x30 x31 x32 x33 x34 x35 x36 x37 W :=
  ⟨h.x, h.p0, h.p1, h.p2, h.p3, h.p4, h.p5, h.p6, h.p7, h.p8, h.p9, h.p10, h.p11, h.p12, h.p13, h.p14, h.p15, fun _ => rfl, h.p17, h.p18, h.p19, h.p20, h.p21, h.p22, h.p23, h.p24, h.p25, h.p26, h.p27, h.p28, h.c4_3, h.c3_2, h.c14_13, h.c13_12, h.c12_11, h.c13_8, h.c8_7, h.c7_4, h.c22_21, h.c21_14⟩
theorem T5.s17 (h : T5 W1 w ge E At L x9 x10 x11 x12 x13 x14 x15 x16 x17 x18 x19 x20 x21 x22 x23 x24 x25 x26 x27 x28 x29 x30 x31 x32 x33 x34 x35 x36 x37 W) : T5 W1 w ge E At (upd L 17) x9 x10 x11 x12 x13 x14 x15 x16 x17 x18 x19 x20 x21 x22 x23 x24 x25 (.pointer (some ⟨ge, 0, none⟩)) x27 x28 x29 x30 x31 x32 x33 x34 x35 x36 x37 W :=
  ⟨h.x, h.p0, h.p1, h.p2, h.p3, h.p4, h.p5, h.p6, h.p7, h.p8, h.p9, h.p10, h.p11, h.p12, h.p13, h.p14, h.p15, h.p16, fun _ => rfl, h.p18, h.p19, h.p20, h.p21, h.p22, h.p23, h.p24, h.p25, h.p26, h.p27, h.p28, h.c4_3, h.c3_2, h.c14_13, h.c13_12, h.c12_11, h.c13_8, h.c8_7, h.c7_4, h.c22_21, h.c21_14⟩
theorem T5.s18 (h : T5 W1 w ge E At L x9 x10 x11 x12 x13 x14 x15 x16 x17 x18 x19 x20 x21 x22 x23 x24 x25 x26 x27 x28 x29 x30 x31 x32 x33 x34 x35 x36 x37 W) : T5 W1 w ge E At (upd L 18) x9 x10 x11 x12 x13 x14 x15 x16 x17 x18 x19 x20 x21 x22 x23 x24 x25 x26 (.pointer (some ⟨ge, 0, none⟩)) x28 x29 x30 x31 x32 x33 x34 x35 x36 x37 W :=
  ⟨h.x, h.p0, h.p1, h.p2, h.p3, h.p4, h.p5, h.p6, h.p7, h.p8, h.p9, h.p10, h.p11, h.p12, h.p13, h.p14, h.p15, h.p16, h.p17, fun _ => rfl, h.p19, h.p20, h.p21, h.p22, h.p23, h.p24, h.p25, h.p26, h.p27, h.p28, h.c4_3, h.c3_2, h.c14_13, h.c13_12, h.c12_11, h.c13_8, h.c8_7, h.c7_4, h.c22_21, h.c21_14⟩
theorem T5.s19 (h : T5 W1 w ge E At L x9 x10 x11 x12 x13 x14 x15 x16 x17 x18 x19 x20 x21 x22 x23 x24 x25 x26 x27 x28 x29 x30 x31 x32 x33 x34 x35 x36 x37 W) : T5 W1 w ge E At (upd L 19) x9 x10 x11 x12 x13 x14 x15 x16 x17 x18 x19 x20 x21 x22 x23 x24 x25 x26 x27 (.int .i64 E) x29 x30 x31 x32 x33 x34 x35 x36 x37 W :=
  ⟨h.x, h.p0, h.p1, h.p2, h.p3, h.p4, h.p5, h.p6, h.p7, h.p8, h.p9, h.p10, h.p11, h.p12, h.p13, h.p14, h.p15, h.p16, h.p17, h.p18, fun _ => rfl, h.p20, h.p21, h.p22, h.p23, h.p24, h.p25, h.p26, h.p27, h.p28, h.c4_3, h.c3_2, h.c14_13, h.c13_12, h.c12_11, h.c13_8, h.c8_7, h.c7_4, h.c22_21, h.c21_14⟩
theorem T5.s20 (h : T5 W1 w ge E At L x9 x10 x11 x12 x13 x14 x15 x16 x17 x18 x19 x20 x21 x22 x23 x24 x25 x26 x27 x28 x29 x30 x31 x32 x33 x34 x35 x36 x37 W) : T5 W1 w ge E At (upd L 20) x9 x10 x11 x12 x13 x14 x15 x16 x17 x18 x19 x20 x21 x22 x23 x24 x25 x26 x27 x28 (.bool false) x30 x31 x32 x33 x34 x35 x36 x37 W :=
  ⟨h.x, h.p0, h.p1, h.p2, h.p3, h.p4, h.p5, h.p6, h.p7, h.p8, h.p9, h.p10, h.p11, h.p12, h.p13, h.p14, h.p15, h.p16, h.p17, h.p18, h.p19, fun _ => rfl, h.p21, h.p22, h.p23, h.p24, h.p25, h.p26, h.p27, h.p28, h.c4_3, h.c3_2, h.c14_13, h.c13_12, h.c12_11, h.c13_8, h.c8_7, h.c7_4, h.c22_21, h.c21_14⟩
theorem T5.s21 (h : T5 W1 w ge E At L x9 x10 x11 x12 x13 x14 x15 x16 x17 x18 x19 x20 x21 x22 x23 x24 x25 x26 x27 x28 x29 x30 x31 x32 x33 x34 x35 x36 x37 W) (hc14 : L 14 = true) : T5 W1 w ge E At (upd L 21) x9 x10 x11 x12 x13 x14 x15 x16 x17 x18 x19 x20 x21 x22 x23 x24 x25 x26 x27 x28 x29 (.bool false) x31 x32 x33 x34 x35 x36 x37 W :=
  ⟨h.x, h.p0, h.p1, h.p2, h.p3, h.p4, h.p5, h.p6, h.p7, h.p8, h.p9, h.p10, h.p11, h.p12, h.p13, h.p14, h.p15, h.p16, h.p17, h.p18, h.p19, h.p20, fun _ => rfl, h.p22, h.p23, h.p24, h.p25, h.p26, h.p27, h.p28, h.c4_3, h.c3_2, h.c14_13, h.c13_12, h.c12_11, h.c13_8, h.c8_7, h.c7_4, fun _ => rfl, fun _ => hc14⟩
theorem T5.s22 (h : T5 W1 w ge E At L x9 x10 x11 x12 x13 x14 x15 x16 x17 x18 x19 x20 x21 x22 x23 x24 x25 x26 x27 x28 x29 x30 x31 x32 x33 x34 x35 x36 x37 W) (hc21 : L 21 = true) : T5 W1 w ge E At (upd L 22) x9 x10 x11 x12 x13 x14 x15 x16 x17 x18 x19 x20 x21 x22 x23 x24 x25 x26 x27 x28 x29 x30 (.bool false) x32 x33 x34 x35 x36 x37 W :=
  ⟨h.x, h.p0, h.p1, h.p2, h.p3, h.p4, h.p5, h.p6, h.p7, h.p8, h.p9, h.p10, h.p11, h.p12, h.p13, h.p14, h.p15, h.p16, h.p17, h.p18, h.p19, h.p20, h.p21, fun _ => rfl, h.p23, h.p24, h.p25, h.p26, h.p27, h.p28, h.c4_3, h.c3_2, h.c14_13, h.c13_12, h.c12_11, h.c13_8, h.c8_7, h.c7_4, fun _ => hc21, h.c21_14⟩
theorem T5.s23 (h : T5 W1 w ge E At L x9 x10 x11 x12 x13 x14 x15 x16 x17 x18 x19 x20 x21 x22 x23 x24 x25 x26 x27 x28 x29 x30 x31 x32 x33 x34 x35 x36 x37 W) : T5 W1 w ge E At (upd L 23) x9 x10 x11 x12 x13 x14 x15 x16 x17 x18 x19 x20 x21 x22 x23 x24 x25 x26 x27 x28 x29 x30 x31 (.pointer (some ⟨ge, 0, none⟩)) x33 x34 x35 x36 x37 W :=
  ⟨h.x, h.p0, h.p1, h.p2, h.p3, h.p4, h.p5, h.p6, h.p7, h.p8, h.p9, h.p10, h.p11, h.p12, h.p13, h.p14, h.p15, h.p16, h.p17, h.p18, h.p19, h.p20, h.p21, h.p22, fun _ => rfl, h.p24, h.p25, h.p26, h.p27, h.p28, h.c4_3, h.c3_2, h.c14_13, h.c13_12, h.c12_11, h.c13_8, h.c8_7, h.c7_4, h.c22_21, h.c21_14⟩
theorem T5.s24 (h : T5 W1 w ge E At L x9 x10 x11 x12 x13 x14 x15 x16 x17 x18 x19 x20 x21 x22 x23 x24 x25 x26 x27 x28 x29 x30 x31 x32 x33 x34 x35 x36 x37 W) : T5 W1 w ge E At (upd L 24) x9 x10 x11 x12 x13 x14 x15 x16 x17 x18 x19 x20 x21 x22 x23 x24 x25 x26 x27 x28 x29 x30 x31 x32 (.pointer (some ⟨ge, 0, none⟩)) x34 x35 x36 x37 W :=
  ⟨h.x, h.p0, h.p1, h.p2, h.p3, h.p4, h.p5, h.p6, h.p7, h.p8, h.p9, h.p10, h.p11, h.p12, h.p13, h.p14, h.p15, h.p16, h.p17, h.p18, h.p19, h.p20, h.p21, h.p22, h.p23, fun _ => rfl, h.p25, h.p26, h.p27, h.p28, h.c4_3, h.c3_2, h.c14_13, h.c13_12, h.c12_11, h.c13_8, h.c8_7, h.c7_4, h.c22_21, h.c21_14⟩
theorem T5.s25 (h : T5 W1 w ge E At L x9 x10 x11 x12 x13 x14 x15 x16 x17 x18 x19 x20 x21 x22 x23 x24 x25 x26 x27 x28 x29 x30 x31 x32 x33 x34 x35 x36 x37 W) : T5 W1 w ge E At (upd L 25) x9 x10 x11 x12 x13 x14 x15 x16 x17 x18 x19 x20 x21 x22 x23 x24 x25 x26 x27 x28 x29 x30 x31 x32 x33 (.pointer (some ⟨ge, 0, none⟩)) x35 x36 x37 W :=
  ⟨h.x, h.p0, h.p1, h.p2, h.p3, h.p4, h.p5, h.p6, h.p7, h.p8, h.p9, h.p10, h.p11, h.p12, h.p13, h.p14, h.p15, h.p16, h.p17, h.p18, h.p19, h.p20, h.p21, h.p22, h.p23, h.p24, fun _ => rfl, h.p26, h.p27, h.p28, h.c4_3, h.c3_2, h.c14_13, h.c13_12, h.c12_11, h.c13_8, h.c8_7, h.c7_4, h.c22_21, h.c21_14⟩
theorem T5.s26 (h : T5 W1 w ge E At L x9 x10 x11 x12 x13 x14 x15 x16 x17 x18 x19 x20 x21 x22 x23 x24 x25 x26 x27 x28 x29 x30 x31 x32 x33 x34 x35 x36 x37 W) : T5 W1 w ge E At (upd L 26) x9 x10 x11 x12 x13 x14 x15 x16 x17 x18 x19 x20 x21 x22 x23 x24 x25 x26 x27 x28 x29 x30 x31 x32 x33 x34 (.int .i64 E) x36 x37 W :=
  ⟨h.x, h.p0, h.p1, h.p2, h.p3, h.p4, h.p5, h.p6, h.p7, h.p8, h.p9, h.p10, h.p11, h.p12, h.p13, h.p14, h.p15, h.p16, h.p17, h.p18, h.p19, h.p20, h.p21, h.p22, h.p23, h.p24, h.p25, fun _ => rfl, h.p27, h.p28, h.c4_3, h.c3_2, h.c14_13, h.c13_12, h.c12_11, h.c13_8, h.c8_7, h.c7_4, h.c22_21, h.c21_14⟩
theorem T5.s27 (h : T5 W1 w ge E At L x9 x10 x11 x12 x13 x14 x15 x16 x17 x18 x19 x20 x21 x22 x23 x24 x25 x26 x27 x28 x29 x30 x31 x32 x33 x34 x35 x36 x37 W) : T5 W1 w ge E At (upd L 27) x9 x10 x11 x12 x13 x14 x15 x16 x17 x18 x19 x20 x21 x22 x23 x24 x25 x26 x27 x28 x29 x30 x31 x32 x33 x34 x35 (.bool false) x37 W :=
  ⟨h.x, h.p0, h.p1, h.p2, h.p3, h.p4, h.p5, h.p6, h.p7, h.p8, h.p9, h.p10, h.p11, h.p12, h.p13, h.p14, h.p15, h.p16, h.p17, h.p18, h.p19, h.p20, h.p21, h.p22, h.p23, h.p24, h.p25, h.p26, fun _ => rfl, h.p28, h.c4_3, h.c3_2, h.c14_13, h.c13_12, h.c12_11, h.c13_8, h.c8_7, h.c7_4, h.c22_21, h.c21_14⟩
theorem T5.s28 (h : T5 W1 w ge E At L x9 x10 x11 x12 x13 x14 x15 x16 x17 x18 x19 x20 x21 x22 x23 x24 x25 x26 x27 x28 x29 x30 x31 x32 x33 x34 x35 x36 x37 W) : T5 W1 w ge E At (upd L 28) x9 x10 x11 x12 x13 x14 x15 x16 x17 x18 x19 x20 x21 x22 x23 x24 x25 x26 x27 x28 x29 x30 x31 x32 x33 x34 x35 x36 (.bool false) W :=
  ⟨h.x, h.p0, h.p1, h.p2, h.p3, h.p4, h.p5, h.p6, h.p7, h.p8, h.p9, h.p10, h.p11, h.p12, h.p13, h.p14, h.p15, h.p16, h.p17, h.p18, h.p19, h.p20, h.p21, h.p22, h.p23, h.p24, h.p25, h.p26, h.p27, fun _ => rfl, h.c4_3, h.c3_2, h.c14_13, h.c13_12, h.c12_11, h.c13_8, h.c8_7, h.c7_4, h.c22_21, h.c21_14⟩
end
@[reducible] def IT5 (W1 : World) (w : World) (ge : Nat) (E At : Int) (y0 y1 y2 y3 y4 y5 y6 y7 y8 y38 y39 y40 y41 y42 y43 y44 y45 y46 y47 : Value) : (Nat → Bool) → Act → World → Prop := fun L a W => ∃ x9 x10 x11 x12 x13 x14 x15 x16 x17 x18 x19 x20 x21 x22 x23 x24 x25 x26 x27 x28 x29 x30 x31 x32 x33 x34 x35 x36 x37, a = ⟨#[y0, y1, y2, y3, y4, y5, y6, y7, y8, x9, x10, x11, x12, x13, x14, x15, x16, x17, x18, x19, x20, x21, x22, x23, x24, x25, x26, x27, x28, x29, x30, x31, x32, x33, x34, x35, x36, x37, y38, y39, y40, y41, y42, y43, y44, y45, y46, y47], []⟩ ∧ T5 W1 w ge E At L x9 x10 x11 x12 x13 x14 x15 x16 x17 x18 x19 x20 x21 x22 x23 x24 x25 x26 x27 x28 x29 x30 x31 x32 x33 x34 x35 x36 x37 W
theorem T5.step {W1 : World} {w : World} {ge : Nat} {E At : Int} {y0 y1 y2 y3 y4 y5 y6 y7 y8 y38 y39 y40 y41 y42 y43 y44 y45 y46 y47 : Value} {P : Program} {ops : Array Oper} {Q : Exit → Act → World → Prop} {i : Nat} {o : Oper} (hq : ∀ x9 x10 x11 x12 x13 x14 x15 x16 x17 x18 x19 x20 x21 x22 x23 x24 x25 x26 x27 x28 x29 x30 x31 x32 x33 x34 x35 x36 x37 (L : Nat → Bool) (W : World), T5 W1 w ge E At L x9 x10 x11 x12 x13 x14 x15 x16 x17 x18 x19 x20 x21 x22 x23 x24 x25 x26 x27 x28 x29 x30 x31 x32 x33 x34 x35 x36 x37 W → L i = false → (∀ j ∈ onesOf o, L j = true) → ∀ K : Act → World → Prop, Shut (∀ a' w', IT5 W1 w ge E At y0 y1 y2 y3 y4 y5 y6 y7 y8 y38 y39 y40 y41 y42 y43 y44 y45 y46 y47 (upd L i) a' w' → K a' w') → if Region.wanted o (yielded ops (⟨#[y0, y1, y2, y3, y4, y5, y6, y7, y8, x9, x10, x11, x12, x13, x14, x15, x16, x17, x18, x19, x20, x21, x22, x23, x24, x25, x26, x27, x28, x29, x30, x31, x32, x33, x34, x35, x36, x37, y38, y39, y40, y41, y42, y43, y44, y45, y46, y47], []⟩ : Act).tmps) = true then Oper.wp P o ⟨#[y0, y1, y2, y3, y4, y5, y6, y7, y8, x9, x10, x11, x12, x13, x14, x15, x16, x17, x18, x19, x20, x21, x22, x23, x24, x25, x26, x27, x28, x29, x30, x31, x32, x33, x34, x35, x36, x37, y38, y39, y40, y41, y42, y43, y44, y45, y46, y47], []⟩ W K Q else K ((⟨#[y0, y1, y2, y3, y4, y5, y6, y7, y8, x9, x10, x11, x12, x13, x14, x15, x16, x17, x18, x19, x20, x21, x22, x23, x24, x25, x26, x27, x28, x29, x30, x31, x32, x33, x34, x35, x36, x37, y38, y39, y40, y41, y42, y43, y44, y45, y46, y47], []⟩ : Act).put o.dst undef) W) : StepI P ops (IT5 W1 w ge E At y0 y1 y2 y3 y4 y5 y6 y7 y8 y38 y39 y40 y41 y42 y43 y44 y45 y46 y47) Q i o := by
  rintro L a W ⟨x9, x10, x11, x12, x13, x14, x15, x16, x17, x18, x19, x20, x21, x22, x23, x24, x25, x26, x27, x28, x29, x30, x31, x32, x33, x34, x35, x36, x37, rfl, h⟩
  exact hq _ _ _ _ _ _ _ _ _ _ _ _ _ _ _ _ _ _ _ _ _ _ _ _ _ _ _ _ _ _ _ h
theorem T5.ends {W1 : World} {w : World} {ge : Nat} {E At : Int} {y0 y1 y2 y3 y4 y5 y6 y7 y8 y38 y39 y40 y41 y42 y43 y44 y45 y46 y47 : Value} {mm_ : Nat} {Q : Exit → Act → World → Prop} (hq : ∀ x9 x10 x11 x12 x13 x14 x15 x16 x17 x18 x19 x20 x21 x22 x23 x24 x25 x26 x27 x28 x29 x30 x31 x32 x33 x34 x35 x36 x37 (L : Nat → Bool) (W : World), (∀ j, j < mm_ → L j = true) → T5 W1 w ge E At L x9 x10 x11 x12 x13 x14 x15 x16 x17 x18 x19 x20 x21 x22 x23 x24 x25 x26 x27 x28 x29 x30 x31 x32 x33 x34 x35 x36 x37 W → Q .normal ⟨#[y0, y1, y2, y3, y4, y5, y6, y7, y8, x9, x10, x11, x12, x13, x14, x15, x16, x17, x18, x19, x20, x21, x22, x23, x24, x25, x26, x27, x28, x29, x30, x31, x32, x33, x34, x35, x36, x37, y38, y39, y40, y41, y42, y43, y44, y45, y46, y47], []⟩ W) : ∀ L a' w', (∀ j, j < mm_ → L j = true) → IT5 W1 w ge E At y0 y1 y2 y3 y4 y5 y6 y7 y8 y38 y39 y40 y41 y42 y43 y44 y45 y46 y47 L a' w' → Q .normal a' w' := by
  rintro L a W hall ⟨x9, x10, x11, x12, x13, x14, x15, x16, x17, x18, x19, x20, x21, x22, x23, x24, x25, x26, x27, x28, x29, x30, x31, x32, x33, x34, x35, x36, x37, rfl, h⟩
  exact hq _ _ _ _ _ _ _ _ _ _ _ _ _ _ _ _ _ _ _ _ _ _ _ _ _ _ _ _ _ _ _ hall h
set_option maxHeartbeats 1000000 in
set_option maxRecDepth 100000 in
/-- A *Wrong that wraps its number. -/
theorem told_wrong (ge : Nat) (E At : Int) (w : World) (hg : HG w) (hr : Row w ge 52 [.int .i64 E, .int .i64 At]) (hE : ¬ E = 0) :
    Calls Tryd.prog 32 #[.iface 48 (.pointer (some ⟨ge, 0, none⟩))] w fun e w' => e = .returned (.tuple #[.agg #[.int .i64 E, .int .i64 At], .bool true]) ∧ Below w.heap.size w w' := by
  have HGW : Hid (HG w) := hg
  have hRE : Hid (Row w ge 52 [.int .i64 E, .int .i64 At]) := hr
  clear hg hr
  go_enter Tryd.func32, Tryd.ntmps32
  go_wp2_with fail
  have HZ : Hid (ToldW w ge E At false false (((w.alloc (.cells #[.int .i64 0, .int .i64 0] 60)).alloc (.cells #[.pointer none] 48)).alloc (.cells #[.int .i64 0] 26)).drew) := by
    have z0 := Row.at w 60 [.int .i64 0, .int .i64 0] _ _ rfl rfl
    have z1 : Row ((w.alloc (.cells #[.int .i64 0, .int .i64 0] 60)).alloc (.cells #[.pointer none] 48)) (w.heap.size + 1) 48 [.pointer none] := Row.at _ _ _ _ _ (by simp) rfl
    have z2 : Row (((w.alloc (.cells #[.int .i64 0, .int .i64 0] 60)).alloc (.cells #[.pointer none] 48)).alloc (.cells #[.int .i64 0] 26)) (w.heap.size + 2) 26 [.int .i64 0] := Row.at _ _ _ _ _ (by simp) rfl
    exact ⟨((((Below.refl _ _).alloc (Nat.le_refl _) _).alloc (by simp) _).alloc (by simp; omega) _).drew, ((z0.alloc _).alloc _), ⟨_, z1.alloc _, fun h => by cases h⟩, ⟨_, z2, fun h => by cases h⟩⟩
  generalize (((w.alloc (.cells #[.int .i64 0, .int .i64 0] 60)).alloc (.cells #[.pointer none] 48)).alloc (.cells #[.int .i64 0] 26)) = W1 at *
  refine wp_region_inv (IT5 W1 w ge E At _ _ _ _ _ _ _ _ _ _ _ _ _ _ _ _ _ _ _) (by kernel_rfl) (by kernel_rfl) ⟨_, _, _, _, _, _, _, _, _, _, _, _, _, _, _, _, _, _, _, _, _, _, _, _, _, _, _, _, _, rfl, ⟨HZ.out, fun k => (by cases k), fun k => (by cases k), fun k => (by cases k), fun k => (by cases k), fun k => (by cases k), fun k => (by cases k), fun k => (by cases k), fun k => (by cases k), fun k => (by cases k), fun k => (by cases k), fun k => (by cases k), fun k => (by cases k), fun k => (by cases k), fun k => (by cases k), fun k => (by cases k), fun k => (by cases k), fun k => (by cases k), fun k => (by cases k), fun k => (by cases k), fun k => (by cases k), fun k => (by cases k), fun k => (by cases k), fun k => (by cases k), fun k => (by cases k), fun k => (by cases k), fun k => (by cases k), fun k => (by cases k), fun k => (by cases k), fun k => (by cases k), fun k => (by cases k), fun k => (by cases k), fun k => (by cases k), fun k => (by cases k), fun k => (by cases k), fun k => (by cases k), fun k => (by cases k), fun k => (by cases k), fun k => (by cases k), fun k => (by cases k)⟩⟩ ?_ ?_
  · refine .cons ?_ (.cons ?_ (.cons ?_ (.cons ?_ (.cons ?_ (.cons ?_ (.cons ?_ (.cons ?_ (.cons ?_ (.cons ?_ (.cons ?_ (.cons ?_ (.cons ?_ (.cons ?_ (.cons ?_ (.cons ?_ (.cons ?_ (.cons ?_ (.cons ?_ (.cons ?_ (.cons ?_ (.cons ?_ (.cons ?_ (.cons ?_ (.cons ?_ (.cons ?_ (.cons ?_ (.cons ?_ (.cons ?_ .nil))))))))))))))))))))))))))))
    all_goals (refine T5.step ?_; intro x9 x10 x11 x12 x13 x14 x15 x16 x17 x18 x19 x20 x21 x22 x23 x24 x25 x26 x27 x28 x29 x30 x31 x32 x33 x34 x35 x36 x37 L W hI hL hd K hK)
    · rw [if_pos (by rfl)]
      go_simp
      exact hK.out _ _ ⟨_, _, _, _, _, _, _, _, _, _, _, _, _, _, _, _, _, _, _, _, _, _, _, _, _, _, _, _, _, rfl, hI.s0⟩
    · rw [if_pos (by rfl)]
      go_simp
      exact hK.out _ _ ⟨_, _, _, _, _, _, _, _, _, _, _, _, _, _, _, _, _, _, _, _, _, _, _, _, _, _, _, _, _, rfl, hI.s1⟩
    · have hx0 := hI.p0 (hd 0 (by decide))
      subst hx0
      have hx1 := hI.p1 (hd 1 (by decide))
      subst hx1
      rw [if_pos (by rfl)]
      go_simp
      obtain ⟨x, hr, _⟩ := hI.x.pw
      go_at_call 45
      refine (as_wrong ⟨ge, 0, none⟩ ⟨w.heap.size + 1, 0, none⟩ x W (HGW.out.below hI.x.bel HGW.out.lt) (hr.cell 0 x rfl) (hr.frozen _)).mono ?_
      rintro e W2 ⟨rfl, rfl⟩
      go_simp
      exact hK.out _ _ ⟨_, _, _, _, _, _, _, _, _, _, _, _, _, _, _, _, _, _, _, _, _, _, _, _, _, _, _, _, _, rfl, hI.s2 (hI.x.hit1 _ _ _ _)⟩
    · have hx2 := hI.p2 (hd 2 (by decide))
      subst hx2
      rw [if_pos (by rfl)]
      go_simp
      exact hK.out _ _ ⟨_, _, _, _, _, _, _, _, _, _, _, _, _, _, _, _, _, _, _, _, _, _, _, _, _, _, _, _, _, rfl, hI.s3 (hd 2 (by decide))⟩
    · have hx3 := hI.p3 (hd 3 (by decide))
      subst hx3
      rw [if_pos (by rfl)]
      go_simp
      exact hK.out _ _ ⟨_, _, _, _, _, _, _, _, _, _, _, _, _, _, _, _, _, _, _, _, _, _, _, _, _, _, _, _, _, rfl, hI.s4 (hd 3 (by decide))⟩
    · have hx4 := hI.p4 (hd 4 (by decide))
      subst hx4
      have hL2 := (hI.c3_2 (hI.c4_3 (hd 4 (by decide))))
      rw [if_pos (by rfl)]
      have lw := hI.x.cW hL2
      go_simp
      exact hK.out _ _ ⟨_, _, _, _, _, _, _, _, _, _, _, _, _, _, _, _, _, _, _, _, _, _, _, _, _, _, _, _, _, rfl, hI.s5⟩
    · have hx5 := hI.p5 (hd 5 (by decide))
      subst hx5
      have hx4 := hI.p4 (hd 4 (by decide))
      subst hx4
      rw [if_pos (by rfl)]
      go_simp
      exact hK.out _ _ ⟨_, _, _, _, _, _, _, _, _, _, _, _, _, _, _, _, _, _, _, _, _, _, _, _, _, _, _, _, _, rfl, hI.s6⟩
    · have hx4 := hI.p4 (hd 4 (by decide))
      subst hx4
      have hx6 := hI.p6 (hd 6 (by decide))
      subst hx6
      rw [if_pos (by rfl)]
      go_simp
      exact hK.out _ _ ⟨_, _, _, _, _, _, _, _, _, _, _, _, _, _, _, _, _, _, _, _, _, _, _, _, _, _, _, _, _, rfl, hI.s7 (hd 4 (by decide))⟩
    · have hx7 := hI.p7 (hd 7 (by decide))
      subst hx7
      rw [if_pos (by rfl)]
      go_simp
      exact hK.out _ _ ⟨_, _, _, _, _, _, _, _, _, _, _, _, _, _, _, _, _, _, _, _, _, _, _, _, _, _, _, _, _, rfl, hI.s8 (hd 7 (by decide))⟩
    · have hx8 := hI.p8 (hd 8 (by decide))
      subst hx8
      rw [if_pos (by rfl)]
      go_simp
      exact hK.out _ _ ⟨_, _, _, _, _, _, _, _, _, _, _, _, _, _, _, _, _, _, _, _, _, _, _, _, _, _, _, _, _, rfl, hI.s9⟩
    · have hx8 := hI.p8 (hd 8 (by decide))
      subst hx8
      rw [if_pos (by rfl)]
      go_simp
      exact hK.out _ _ ⟨_, _, _, _, _, _, _, _, _, _, _, _, _, _, _, _, _, _, _, _, _, _, _, _, _, _, _, _, _, rfl, hI.s10⟩
    · have hx9 := hI.p9 (hd 9 (by decide))
      subst hx9
      have hx10 := hI.p10 (hd 10 (by decide))
      subst hx10
      have hx8 := hI.p8 (hd 8 (by decide))
      subst hx8
      rw [if_pos (by rfl)]
      go_simp
      obtain ⟨y, hr, _⟩ := hI.x.pn
      go_at_call 45
      refine (as_errno ⟨ge, 0, none⟩ ⟨w.heap.size + 2, 0, none⟩ E y W (HGW.out.below hI.x.bel HGW.out.lt) (hr.cell 0 y rfl) (hr.frozen _) (ToldW.cE hRE.out hI.x)).mono ?_
      rintro e W2 ⟨rfl, rfl⟩
      go_simp
      exact hK.out _ _ ⟨_, _, _, _, _, _, _, _, _, _, _, _, _, _, _, _, _, _, _, _, _, _, _, _, _, _, _, _, _, rfl, hI.s11 (hI.x.hit2 _ _ _ _)⟩
    · have hx11 := hI.p11 (hd 11 (by decide))
      subst hx11
      have hx8 := hI.p8 (hd 8 (by decide))
      subst hx8
      rw [if_pos (by rfl)]
      go_simp
      exact hK.out _ _ ⟨_, _, _, _, _, _, _, _, _, _, _, _, _, _, _, _, _, _, _, _, _, _, _, _, _, _, _, _, _, rfl, hI.s12 (hd 11 (by decide))⟩
    · have hx8 := hI.p8 (hd 8 (by decide))
      subst hx8
      have hx12 := hI.p12 (hd 12 (by decide))
      subst hx12
      rw [if_pos (by rfl)]
      go_simp
      exact hK.out _ _ ⟨_, _, _, _, _, _, _, _, _, _, _, _, _, _, _, _, _, _, _, _, _, _, _, _, _, _, _, _, _, rfl, hI.s13 (hd 12 (by decide)) (hd 8 (by decide))⟩
    · have hx13 := hI.p13 (hd 13 (by decide))
      subst hx13
      rw [if_pos (by rfl)]
      go_simp
      exact hK.out _ _ ⟨_, _, _, _, _, _, _, _, _, _, _, _, _, _, _, _, _, _, _, _, _, _, _, _, _, _, _, _, _, rfl, hI.s14 (hd 13 (by decide))⟩
    · have hx14 := hI.p14 (hd 14 (by decide))
      subst hx14
      have hL11 := (hI.c12_11 (hI.c13_12 (hI.c14_13 (hd 14 (by decide)))))
      rw [if_pos (by rfl)]
      have ln := hI.x.cN hL11
      go_simp
      exact hK.out _ _ ⟨_, _, _, _, _, _, _, _, _, _, _, _, _, _, _, _, _, _, _, _, _, _, _, _, _, _, _, _, _, rfl, hI.s15⟩
    · have hx14 := hI.p14 (hd 14 (by decide))
      subst hx14
      have hL2 := (hI.c3_2 (hI.c4_3 (hI.c7_4 (hI.c8_7 (hI.c13_8 (hI.c14_13 (hd 14 (by decide))))))))
      rw [if_pos (by rfl)]
      have lw := hI.x.cW hL2
      go_simp
      exact hK.out _ _ ⟨_, _, _, _, _, _, _, _, _, _, _, _, _, _, _, _, _, _, _, _, _, _, _, _, _, _, _, _, _, rfl, hI.s16⟩
    · have hx16 := hI.p16 (hd 16 (by decide))
      subst hx16
      have hx14 := hI.p14 (hd 14 (by decide))
      subst hx14
      rw [if_pos (by rfl)]
      go_simp
      exact hK.out _ _ ⟨_, _, _, _, _, _, _, _, _, _, _, _, _, _, _, _, _, _, _, _, _, _, _, _, _, _, _, _, _, rfl, hI.s17⟩
    · have hx17 := hI.p17 (hd 17 (by decide))
      subst hx17
      have hx14 := hI.p14 (hd 14 (by decide))
      subst hx14
      rw [if_pos (by rfl)]
      go_simp
      exact hK.out _ _ ⟨_, _, _, _, _, _, _, _, _, _, _, _, _, _, _, _, _, _, _, _, _, _, _, _, _, _, _, _, _, rfl, hI.s18⟩
    · have hx18 := hI.p18 (hd 18 (by decide))
      subst hx18
      have hx14 := hI.p14 (hd 14 (by decide))
      subst hx14
      rw [if_pos (by rfl)]
      have le := ToldW.cE hRE.out hI.x
      go_simp
      exact hK.out _ _ ⟨_, _, _, _, _, _, _, _, _, _, _, _, _, _, _, _, _, _, _, _, _, _, _, _, _, _, _, _, _, rfl, hI.s19⟩
    · have hx15 := hI.p15 (hd 15 (by decide))
      subst hx15
      have hx19 := hI.p19 (hd 19 (by decide))
      subst hx19
      have hx14 := hI.p14 (hd 14 (by decide))
      subst hx14
      rw [if_pos (by rfl)]
      go_simp
      exact hK.out _ _ ⟨_, _, _, _, _, _, _, _, _, _, _, _, _, _, _, _, _, _, _, _, _, _, _, _, _, _, _, _, _, rfl, hI.s20⟩
    · have hx14 := hI.p14 (hd 14 (by decide))
      subst hx14
      have hx20 := hI.p20 (hd 20 (by decide))
      subst hx20
      rw [if_pos (by rfl)]
      go_simp
      exact hK.out _ _ ⟨_, _, _, _, _, _, _, _, _, _, _, _, _, _, _, _, _, _, _, _, _, _, _, _, _, _, _, _, _, rfl, hI.s21 (hd 14 (by decide))⟩
    · have hx21 := hI.p21 (hd 21 (by decide))
      subst hx21
      rw [if_pos (by rfl)]
      go_simp
      exact hK.out _ _ ⟨_, _, _, _, _, _, _, _, _, _, _, _, _, _, _, _, _, _, _, _, _, _, _, _, _, _, _, _, _, rfl, hI.s22 (hd 21 (by decide))⟩
    · have hx22 := hI.p22 (hd 22 (by decide))
      subst hx22
      have hL2 := (hI.c3_2 (hI.c4_3 (hI.c7_4 (hI.c8_7 (hI.c13_8 (hI.c14_13 (hI.c21_14 (hI.c22_21 (hd 22 (by decide))))))))))
      rw [if_pos (by rfl)]
      have lw := hI.x.cW hL2
      go_simp
      exact hK.out _ _ ⟨_, _, _, _, _, _, _, _, _, _, _, _, _, _, _, _, _, _, _, _, _, _, _, _, _, _, _, _, _, rfl, hI.s23⟩
    · have hx23 := hI.p23 (hd 23 (by decide))
      subst hx23
      have hx22 := hI.p22 (hd 22 (by decide))
      subst hx22
      rw [if_pos (by rfl)]
      go_simp
      exact hK.out _ _ ⟨_, _, _, _, _, _, _, _, _, _, _, _, _, _, _, _, _, _, _, _, _, _, _, _, _, _, _, _, _, rfl, hI.s24⟩
    · have hx24 := hI.p24 (hd 24 (by decide))
      subst hx24
      have hx22 := hI.p22 (hd 22 (by decide))
      subst hx22
      rw [if_pos (by rfl)]
      go_simp
      exact hK.out _ _ ⟨_, _, _, _, _, _, _, _, _, _, _, _, _, _, _, _, _, _, _, _, _, _, _, _, _, _, _, _, _, rfl, hI.s25⟩
    · have hx25 := hI.p25 (hd 25 (by decide))
      subst hx25
      have hx22 := hI.p22 (hd 22 (by decide))
      subst hx22
      rw [if_pos (by rfl)]
      have le := ToldW.cE hRE.out hI.x
      go_simp
      exact hK.out _ _ ⟨_, _, _, _, _, _, _, _, _, _, _, _, _, _, _, _, _, _, _, _, _, _, _, _, _, _, _, _, _, rfl, hI.s26⟩
    · have hx26 := hI.p26 (hd 26 (by decide))
      subst hx26
      have hx22 := hI.p22 (hd 22 (by decide))
      subst hx22
      rw [if_pos (by rfl)]
      have hq : (E == 0) = false := by simpa using hE
      go_simp
      exact hK.out _ _ ⟨_, _, _, _, _, _, _, _, _, _, _, _, _, _, _, _, _, _, _, _, _, _, _, _, _, _, _, _, _, rfl, hI.s27⟩
    · have hx22 := hI.p22 (hd 22 (by decide))
      subst hx22
      have hx27 := hI.p27 (hd 27 (by decide))
      subst hx27
      rw [if_pos (by rfl)]
      go_simp
      exact hK.out _ _ ⟨_, _, _, _, _, _, _, _, _, _, _, _, _, _, _, _, _, _, _, _, _, _, _, _, _, _, _, _, _, rfl, hI.s28⟩
  · refine T5.ends ?_; intro x9 x10 x11 x12 x13 x14 x15 x16 x17 x18 x19 x20 x21 x22 x23 x24 x25 x26 x27 x28 x29 x30 x31 x32 x33 x34 x35 x36 x37 L W hall hI
    have hx0 := hI.p0 (hall 0 (by decide))
    subst hx0
    have hx1 := hI.p1 (hall 1 (by decide))
    subst hx1
    have hx2 := hI.p2 (hall 2 (by decide))
    subst hx2
    have hx3 := hI.p3 (hall 3 (by decide))
    subst hx3
    have hx4 := hI.p4 (hall 4 (by decide))
    subst hx4
    have hx5 := hI.p5 (hall 5 (by decide))
    subst hx5
    have hx6 := hI.p6 (hall 6 (by decide))
    subst hx6
    have hx7 := hI.p7 (hall 7 (by decide))
    subst hx7
    have hx8 := hI.p8 (hall 8 (by decide))
    subst hx8
    have hx9 := hI.p9 (hall 9 (by decide))
    subst hx9
    have hx10 := hI.p10 (hall 10 (by decide))
    subst hx10
    have hx11 := hI.p11 (hall 11 (by decide))
    subst hx11
    have hx12 := hI.p12 (hall 12 (by decide))
    subst hx12
    have hx13 := hI.p13 (hall 13 (by decide))
    subst hx13
    have hx14 := hI.p14 (hall 14 (by decide))
    subst hx14
    have hx15 := hI.p15 (hall 15 (by decide))
    subst hx15
    have hx16 := hI.p16 (hall 16 (by decide))
    subst hx16
    have hx17 := hI.p17 (hall 17 (by decide))
    subst hx17
    have hx18 := hI.p18 (hall 18 (by decide))
    subst hx18
    have hx19 := hI.p19 (hall 19 (by decide))
    subst hx19
    have hx20 := hI.p20 (hall 20 (by decide))
    subst hx20
    have hx21 := hI.p21 (hall 21 (by decide))
    subst hx21
    have hx22 := hI.p22 (hall 22 (by decide))
    subst hx22
    have hx23 := hI.p23 (hall 23 (by decide))
    subst hx23
    have hx24 := hI.p24 (hall 24 (by decide))
    subst hx24
    have hx25 := hI.p25 (hall 25 (by decide))
    subst hx25
    have hx26 := hI.p26 (hall 26 (by decide))
    subst hx26
    have hx27 := hI.p27 (hall 27 (by decide))
    subst hx27
    have hx28 := hI.p28 (hall 28 (by decide))
    subst hx28
    have hXe := hI.x
    rw [hall 2 (by decide)] at hXe
    rw [hall 11 (by decide)] at hXe
    clear hI hall
    try dsimp only
    have c1 := hXe.cW rfl
    have c2 := ToldW.cE hRE.out hXe
    have c3 := ToldW.cA hRE.out hXe
    have r0 := hXe.rr
    have c4 := r0.cell 0 _ rfl
    have c5 := r0.cell 1 _ rfl
    have f4 := r0.frozen 0
    have f5 := r0.frozen 1
    have R0 : Hid (Row W w.heap.size 60 [.int .i64 0, .int .i64 0]) := r0
    have HB : Hid (Below w.heap.size w W) := hXe.bel
    clear r0 hXe HZ
    go_wp2_with fail
    go_region
    all_goals
      go_wp2
      have rz := ((R0.out.set 0 (.int .i64 E)).set 1 (.int .i64 At)).drew
      refine bodyPost_ret_by (results_rowtmp Tryd.results32 _ _ w.heap.size 60 _ _ rfl rz Tryd.underlying60 rfl (by kernel_rfl)) rfl ⟨rfl, ?_⟩
      exact ((SameBut.setCell w.heap.size 0 (.int .i64 E) W).trans (SameBut.setCell w.heap.size 1 (.int .i64 At) _)).below HB.out (Nat.le_refl _) |>.drew

set_option maxHeartbeats 1000000 in
/-- No error. -/
theorem told_nil (w : World) : Calls Tryd.prog 32 #[.nilIface] w fun e w' => e = .returned (.tuple #[.agg #[.int .i64 0, .int .i64 0], .bool true]) ∧ Below w.heap.size w w' := by
  go_enter Tryd.func32, Tryd.ntmps32
  go_wp2
  have rz := Row.at w 60 [.int .i64 0, .int .i64 0] _ _ rfl rfl
  refine bodyPost_ret_by (results_rowtmp Tryd.results32 _ _ w.heap.size 60 _ _ rfl rz Tryd.underlying60 rfl (by kernel_rfl)) rfl ⟨rfl, ?_⟩
  exact (Below.refl _ _).alloc (Nat.le_refl _) _
end Go.Proofs.YtdfbfheceobboaaDoor
