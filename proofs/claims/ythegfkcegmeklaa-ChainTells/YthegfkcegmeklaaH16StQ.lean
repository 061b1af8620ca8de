
import Derived.Test.YthegfkcegmeklaaH16StB
/-! The law's step: Quote. (Printed by tools/genstep16.py.) -/
namespace Go.Proofs.Ythegfkcegmeklaa
open Go.RowKit
set_option linter.unusedVariables false

structure S28 (W1 : World) (PW : World → Prop) (g X H : Nat) (ko : Option Addr) (kn kc : Nat) (no : Option Addr) (nb nc : Nat) (ao : Option Addr) (n c : Nat) (QC : List Value) (L : Nat → Bool) (x156 x157 x158 x159 x160 x161 x162 x163 x164 x165 x166 x167 x168 x169 x170 x171 x172 x173 x174 x175 x176 x177 x178 x179 x4 : Value) (W : World) : Prop where
  x : PW W
  p0 : L 0 = true → x156 = .agg QC.toArray
  p1 : L 1 = true → x157 = .pointer (some ⟨X, 35, none⟩)
  p2 : L 2 = true → x158 = .slice ko kn kc
  p3 : L 3 = true → x159 = .pointer (some ⟨X, 36, none⟩)
  p4 : L 4 = true → x160 = .slice no nb nc
  p5 : L 5 = true → x161 = .pointer (some ⟨g, 0, none⟩)
  p6 : L 6 = true → x162 = .pointer (some ⟨g, 0, none⟩)
  p7 : L 7 = true → x163 = .pointer (some ⟨g, 1, none⟩)
  p8 : L 8 = true → x164 = .slice ao n c
  p9 : L 9 = true → x165 = .agg QC.toArray
  p10 : L 10 = true → x166 = .bool true
  p11 : L 11 = true → x167 = .bool true
  p12 : L 12 = true → x168 = .pointer (some ⟨X, 35, none⟩)
  p13 : L 13 = true → x169 = .slice ko kn kc
  p14 : L 14 = true → x170 = .pointer (some ⟨X, 36, none⟩)
  p15 : L 15 = true → x171 = .slice no nb nc
  p16 : L 16 = true → x172 = .pointer (some ⟨g, 0, none⟩)
  p17 : L 17 = true → x173 = .pointer (some ⟨g, 0, none⟩)
  p18 : L 18 = true → x174 = .pointer (some ⟨g, 1, none⟩)
  p19 : L 19 = true → x175 = .slice ao n c
  p20 : L 20 = true → x176 = .agg QC.toArray
  p21 : L 21 = true → x177 = .int .i64 0
  p22 : L 22 = true → x178 = .bool true
  p23 : L 23 = true → x179 = .bool true
  p24 : L 24 = true → x4 = .bool true
section
variable {W1 : World} {PW : World → Prop} {g X H : Nat} {ko : Option Addr} {kn kc : Nat} {no : Option Addr} {nb nc : Nat} {ao : Option Addr} {n c : Nat} {QC : List Value} {L : Nat → Bool} {x156 x157 x158 x159 x160 x161 x162 x163 x164 x165 x166 x167 x168 x169 x170 x171 x172 x173 x174 x175 x176 x177 x178 x179 x4 : Value} {W W2 : World}
theorem S28.s0 (h : S28 W1 PW g X H ko kn kc no nb nc ao n c QC L x156 x157 x158 x159 x160 x161 x162 x163 x164 x165 x166 x167 x168 x169 x170 x171 x172 x173 x174 x175 x176 x177 x178 x179 x4 W) : S28 W1 PW g X H ko kn kc no nb nc ao n c QC (upd L 0) (.agg QC.toArray) x157 x158 x159 x160 x161 x162 x163 x164 x165 x166 x167 x168 x169 x170 x171 x172 x173 x174 x175 x176 x177 x178 x179 x4 W :=
  ⟨h.x, fun _ => rfl, h.p1, h.p2, h.p3, h.p4, h.p5, h.p6, h.p7, h.p8, h.p9, h.p10, h.p11, h.p12, h.p13, h.p14, h.p15, h.p16, h.p17, h.p18, h.p19, h.p20, h.p21, h.p22, h.p23, h.p24⟩
theorem S28.s1 (h : S28 W1 PW g X H ko kn kc no nb nc ao n c QC L x156 x157 x158 x159 x160 x161 x162 x163 x164 x165 x166 x167 x168 x169 x170 x171 x172 x173 x174 x175 x176 x177 x178 x179 x4 W) : S28 W1 PW g X H ko kn kc no nb nc ao n c QC (upd L 1) x156 (.pointer (some ⟨X, 35, none⟩)) x158 x159 x160 x161 x162 x163 x164 x165 x166 x167 x168 x169 x170 x171 x172 x173 x174 x175 x176 x177 x178 x179 x4 W :=
  ⟨h.x, h.p0, fun _ => rfl, h.p2, h.p3, h.p4, h.p5, h.p6, h.p7, h.p8, h.p9, h.p10, h.p11, h.p12, h.p13, h.p14, h.p15, h.p16, h.p17, h.p18, h.p19, h.p20, h.p21, h.p22, h.p23, h.p24⟩
theorem S28.s2 (h : S28 W1 PW g X H ko kn kc no nb nc ao n c QC L x156 x157 x158 x159 x160 x161 x162 x163 x164 x165 x166 x167 x168 x169 x170 x171 x172 x173 x174 x175 x176 x177 x178 x179 x4 W) : S28 W1 PW g X H ko kn kc no nb nc ao n c QC (upd L 2) x156 x157 (.slice ko kn kc) x159 x160 x161 x162 x163 x164 x165 x166 x167 x168 x169 x170 x171 x172 x173 x174 x175 x176 x177 x178 x179 x4 W :=
  ⟨h.x, h.p0, h.p1, fun _ => rfl, h.p3, h.p4, h.p5, h.p6, h.p7, h.p8, h.p9, h.p10, h.p11, h.p12, h.p13, h.p14, h.p15, h.p16, h.p17, h.p18, h.p19, h.p20, h.p21, h.p22, h.p23, h.p24⟩
theorem S28.s3 (h : S28 W1 PW g X H ko kn kc no nb nc ao n c QC L x156 x157 x158 x159 x160 x161 x162 x163 x164 x165 x166 x167 x168 x169 x170 x171 x172 x173 x174 x175 x176 x177 x178 x179 x4 W) : S28 W1 PW g X H ko kn kc no nb nc ao n c QC (upd L 3) x156 x157 x158 (.pointer (some ⟨X, 36, none⟩)) x160 x161 x162 x163 x164 x165 x166 x167 x168 x169 x170 x171 x172 x173 x174 x175 x176 x177 x178 x179 x4 W :=
  ⟨h.x, h.p0, h.p1, h.p2, fun _ => rfl, h.p4, h.p5, h.p6, h.p7, h.p8, h.p9, h.p10, h.p11, h.p12, h.p13, h.p14, h.p15, h.p16, h.p17, h.p18, h.p19, h.p20, h.p21, h.p22, h.p23, h.p24⟩
theorem S28.s4 (h : S28 W1 PW g X H ko kn kc no nb nc ao n c QC L x156 x157 x158 x159 x160 x161 x162 x163 x164 x165 x166 x167 x168 x169 x170 x171 x172 x173 x174 x175 x176 x177 x178 x179 x4 W) : S28 W1 PW g X H ko kn kc no nb nc ao n c QC (upd L 4) x156 x157 x158 x159 (.slice no nb nc) x161 x162 x163 x164 x165 x166 x167 x168 x169 x170 x171 x172 x173 x174 x175 x176 x177 x178 x179 x4 W :=
  ⟨h.x, h.p0, h.p1, h.p2, h.p3, fun _ => rfl, h.p5, h.p6, h.p7, h.p8, h.p9, h.p10, h.p11, h.p12, h.p13, h.p14, h.p15, h.p16, h.p17, h.p18, h.p19, h.p20, h.p21, h.p22, h.p23, h.p24⟩
theorem S28.s5 (h : S28 W1 PW g X H ko kn kc no nb nc ao n c QC L x156 x157 x158 x159 x160 x161 x162 x163 x164 x165 x166 x167 x168 x169 x170 x171 x172 x173 x174 x175 x176 x177 x178 x179 x4 W) : S28 W1 PW g X H ko kn kc no nb nc ao n c QC (upd L 5) x156 x157 x158 x159 x160 (.pointer (some ⟨g, 0, none⟩)) x162 x163 x164 x165 x166 x167 x168 x169 x170 x171 x172 x173 x174 x175 x176 x177 x178 x179 x4 W :=
  ⟨h.x, h.p0, h.p1, h.p2, h.p3, h.p4, fun _ => rfl, h.p6, h.p7, h.p8, h.p9, h.p10, h.p11, h.p12, h.p13, h.p14, h.p15, h.p16, h.p17, h.p18, h.p19, h.p20, h.p21, h.p22, h.p23, h.p24⟩
theorem S28.s6 (h : S28 W1 PW g X H ko kn kc no nb nc ao n c QC L x156 x157 x158 x159 x160 x161 x162 x163 x164 x165 x166 x167 x168 x169 x170 x171 x172 x173 x174 x175 x176 x177 x178 x179 x4 W) : S28 W1 PW g X H ko kn kc no nb nc ao n c QC (upd L 6) x156 x157 x158 x159 x160 x161 (.pointer (some ⟨g, 0, none⟩)) x163 x164 x165 x166 x167 x168 x169 x170 x171 x172 x173 x174 x175 x176 x177 x178 x179 x4 W :=
  ⟨h.x, h.p0, h.p1, h.p2, h.p3, h.p4, h.p5, fun _ => rfl, h.p7, h.p8, h.p9, h.p10, h.p11, h.p12, h.p13, h.p14, h.p15, h.p16, h.p17, h.p18, h.p19, h.p20, h.p21, h.p22, h.p23, h.p24⟩
theorem S28.s7 (h : S28 W1 PW g X H ko kn kc no nb nc ao n c QC L x156 x157 x158 x159 x160 x161 x162 x163 x164 x165 x166 x167 x168 x169 x170 x171 x172 x173 x174 x175 x176 x177 x178 x179 x4 W) : S28 W1 PW g X H ko kn kc no nb nc ao n c QC (upd L 7) x156 x157 x158 x159 x160 x161 x162 (.pointer (some ⟨g, 1, none⟩)) x164 x165 x166 x167 x168 x169 x170 x171 x172 x173 x174 x175 x176 x177 x178 x179 x4 W :=
  ⟨h.x, h.p0, h.p1, h.p2, h.p3, h.p4, h.p5, h.p6, fun _ => rfl, h.p8, h.p9, h.p10, h.p11, h.p12, h.p13, h.p14, h.p15, h.p16, h.p17, h.p18, h.p19, h.p20, h.p21, h.p22, h.p23, h.p24⟩
theorem S28.s8 (h : S28 W1 PW g X H ko kn kc no nb nc ao n c QC L x156 x157 x158 x159 x160 x161 x162 x163 x164 x165 x166 x167 x168 x169 x170 x171 x172 x173 x174 x175 x176 x177 x178 x179 x4 W) : S28 W1 PW g X H ko kn kc no nb nc ao n c QC (upd L 8) x156 x157 x158 x159 x160 x161 x162 x163 (.slice ao n c) x165 x166 x167 x168 x169 x170 x171 x172 x173 x174 x175 x176 x177 x178 x179 x4 W :=
  ⟨h.x, h.p0, h.p1, h.p2, h.p3, h.p4, h.p5, h.p6, h.p7, fun _ => rfl, h.p9, h.p10, h.p11, h.p12, h.p13, h.p14, h.p15, h.p16, h.p17, h.p18, h.p19, h.p20, h.p21, h.p22, h.p23, h.p24⟩
theorem S28.s9 (h : S28 W1 PW g X H ko kn kc no nb nc ao n c QC L x156 x157 x158 x159 x160 x161 x162 x163 x164 x165 x166 x167 x168 x169 x170 x171 x172 x173 x174 x175 x176 x177 x178 x179 x4 W) (hX : PW W2) : S28 W1 PW g X H ko kn kc no nb nc ao n c QC (upd L 9) x156 x157 x158 x159 x160 x161 x162 x163 x164 (.agg QC.toArray) x166 x167 x168 x169 x170 x171 x172 x173 x174 x175 x176 x177 x178 x179 x4 W2 :=
  ⟨hX, h.p0, h.p1, h.p2, h.p3, h.p4, h.p5, h.p6, h.p7, h.p8, fun _ => rfl, h.p10, h.p11, h.p12, h.p13, h.p14, h.p15, h.p16, h.p17, h.p18, h.p19, h.p20, h.p21, h.p22, h.p23, h.p24⟩
theorem S28.s10 (h : S28 W1 PW g X H ko kn kc no nb nc ao n c QC L x156 x157 x158 x159 x160 x161 x162 x163 x164 x165 x166 x167 x168 x169 x170 x171 x172 x173 x174 x175 x176 x177 x178 x179 x4 W) : S28 W1 PW g X H ko kn kc no nb nc ao n c QC (upd L 10) x156 x157 x158 x159 x160 x161 x162 x163 x164 x165 (.bool true) x167 x168 x169 x170 x171 x172 x173 x174 x175 x176 x177 x178 x179 x4 W :=
  ⟨h.x, h.p0, h.p1, h.p2, h.p3, h.p4, h.p5, h.p6, h.p7, h.p8, h.p9, fun _ => rfl, h.p11, h.p12, h.p13, h.p14, h.p15, h.p16, h.p17, h.p18, h.p19, h.p20, h.p21, h.p22, h.p23, h.p24⟩
theorem S28.s11 (h : S28 W1 PW g X H ko kn kc no nb nc ao n c QC L x156 x157 x158 x159 x160 x161 x162 x163 x164 x165 x166 x167 x168 x169 x170 x171 x172 x173 x174 x175 x176 x177 x178 x179 x4 W) : S28 W1 PW g X H ko kn kc no nb nc ao n c QC (upd L 11) x156 x157 x158 x159 x160 x161 x162 x163 x164 x165 x166 (.bool true) x168 x169 x170 x171 x172 x173 x174 x175 x176 x177 x178 x179 x4 W :=
  ⟨h.x, h.p0, h.p1, h.p2, h.p3, h.p4, h.p5, h.p6, h.p7, h.p8, h.p9, h.p10, fun _ => rfl, h.p12, h.p13, h.p14, h.p15, h.p16, h.p17, h.p18, h.p19, h.p20, h.p21, h.p22, h.p23, h.p24⟩
theorem S28.s12 (h : S28 W1 PW g X H ko kn kc no nb nc ao n c QC L x156 x157 x158 x159 x160 x161 x162 x163 x164 x165 x166 x167 x168 x169 x170 x171 x172 x173 x174 x175 x176 x177 x178 x179 x4 W) : S28 W1 PW g X H ko kn kc no nb nc ao n c QC (upd L 12) x156 x157 x158 x159 x160 x161 x162 x163 x164 x165 x166 x167 (.pointer (some ⟨X, 35, none⟩)) x169 x170 x171 x172 x173 x174 x175 x176 x177 x178 x179 x4 W :=
  ⟨h.x, h.p0, h.p1, h.p2, h.p3, h.p4, h.p5, h.p6, h.p7, h.p8, h.p9, h.p10, h.p11, fun _ => rfl, h.p13, h.p14, h.p15, h.p16, h.p17, h.p18, h.p19, h.p20, h.p21, h.p22, h.p23, h.p24⟩
theorem S28.s13 (h : S28 W1 PW g X H ko kn kc no nb nc ao n c QC L x156 x157 x158 x159 x160 x161 x162 x163 x164 x165 x166 x167 x168 x169 x170 x171 x172 x173 x174 x175 x176 x177 x178 x179 x4 W) : S28 W1 PW g X H ko kn kc no nb nc ao n c QC (upd L 13) x156 x157 x158 x159 x160 x161 x162 x163 x164 x165 x166 x167 x168 (.slice ko kn kc) x170 x171 x172 x173 x174 x175 x176 x177 x178 x179 x4 W :=
  ⟨h.x, h.p0, h.p1, h.p2, h.p3, h.p4, h.p5, h.p6, h.p7, h.p8, h.p9, h.p10, h.p11, h.p12, fun _ => rfl, h.p14, h.p15, h.p16, h.p17, h.p18, h.p19, h.p20, h.p21, h.p22, h.p23, h.p24⟩
theorem S28.s14 (h : S28 W1 PW g X H ko kn kc no nb nc ao n c QC L x156 x157 x158 x159 x160 x161 x162 x163 x164 x165 x166 x167 x168 x169 x170 x171 x172 x173 x174 x175 x176 x177 x178 x179 x4 W) : S28 W1 PW g X H ko kn kc no nb nc ao n c QC (upd L 14) x156 x157 x158 x159 x160 x161 x162 x163 x164 x165 x166 x167 x168 x169 (.pointer (some ⟨X, 36, none⟩)) x171 x172 x173 x174 x175 x176 x177 x178 x179 x4 W :=
  ⟨h.x, h.p0, h.p1, h.p2, h.p3, h.p4, h.p5, h.p6, h.p7, h.p8, h.p9, h.p10, h.p11, h.p12, h.p13, fun _ => rfl, h.p15, h.p16, h.p17, h.p18, h.p19, h.p20, h.p21, h.p22, h.p23, h.p24⟩
theorem S28.s15 (h : S28 W1 PW g X H ko kn kc no nb nc ao n c QC L x156 x157 x158 x159 x160 x161 x162 x163 x164 x165 x166 x167 x168 x169 x170 x171 x172 x173 x174 x175 x176 x177 x178 x179 x4 W) : S28 W1 PW g X H ko kn kc no nb nc ao n c QC (upd L 15) x156 x157 x158 x159 x160 x161 x162 x163 x164 x165 x166 x167 x168 x169 x170 (.slice no nb nc) x172 x173 x174 x175 x176 x177 x178 x179 x4 W :=
  ⟨h.x, h.p0, h.p1, h.p2, h.p3, h.p4, h.p5, h.p6, h.p7, h.p8, h.p9, h.p10, h.p11, h.p12, h.p13, h.p14, fun _ => rfl, h.p16, h.p17, h.p18, h.p19, h.p20, h.p21, h.p22, h.p23, h.p24⟩
theorem S28.s16 (h : S28 W1 PW g X H ko kn kc no nb nc ao n c QC L x156 x157 x158 x159 x160 x161 x162 x163 x164 x165 x166 x167 x168 x169 x170 x171 x172 x173 x174 x175 x176 x177 x178 x179 x4 W) : S28 W1 PW g X H ko kn kc no nb nc ao n c QC (upd L 16) x156 x157 x158 x159 x160 x161 x162 x163 x164 x165 x166 x167 x168 x169 x170 x171 (.pointer (some ⟨g, 0, none⟩)) x173 x174 x175 x176 x177 x178 x179 x4 W :=
  ⟨h.x, h.p0, h.p1, h.p2, h.p3, h.p4, h.p5, h.p6, h.p7, h.p8, h.p9, h.p10, h.p11, h.p12, h.p13, h.p14, h.p15, fun _ => rfl, h.p17, h.p18, h.p19, h.p20, h.p21, h.p22, h.p23, h.p24⟩
theorem S28.s17 (h : S28 W1 PW g X H ko kn kc no nb nc ao n c QC L x156 x157 x158 x159 x160 x161 x162 x163 x164 x165 x166 x167 x168 x169 x170 x171 x172 x173 x174 x175 x176 x177 x178 x179 x4 W) : S28 W1 PW g X H ko kn kc no nb nc ao n c QC (upd L 17) x156 x157 x158 x159 x160 x161 x162 x163 x164 x165 x166 x167 x168 x169 x170 x171 x172 (.pointer (some ⟨g, 0, none⟩)) x174 x175 x176 x177 x178 x179 x4 W :=
  ⟨h.x, h.p0, h.p1, h.p2, h.p3, h.p4, h.p5, h.p6, h.p7, h.p8, h.p9, h.p10, h.p11, h.p12, h.p13, h.p14, h.p15, h.p16, fun _ => rfl, h.p18, h.p19, h.p20, h.p21, h.p22, h.p23, h.p24⟩
theorem S28.s18 (h : S28 W1 PW g X H ko kn kc no nb nc ao n c QC L x156 x157 x158 x159 x160 x161 x162 x163 x164 x165 x166 x167 x168 x169 x170 x171 x172 x173 x174 x175 x176 x177 x178 x179 x4 W) : S28 W1 PW g X H ko kn kc no nb nc ao n c QC (upd L 18) x156 x157 x158 x159 x160 x161 x162 x163 x164 x165 x166 x167 x168 x169 x170 x171 x172 x173 (.pointer (some ⟨g, 1, none⟩)) x175 x176 x177 x178 x179 x4 W :=
  ⟨h.x, h.p0, h.p1, h.p2, h.p3, h.p4, h.p5, h.p6, h.p7, h.p8, h.p9, h.p10, h.p11, h.p12, h.p13, h.p14, h.p15, h.p16, h.p17, fun _ => rfl, h.p19, h.p20, h.p21, h.p22, h.p23, h.p24⟩
theorem S28.s19 (h : S28 W1 PW g X H ko kn kc no nb nc ao n c QC L x156 x157 x158 x159 x160 x161 x162 x163 x164 x165 x166 x167 x168 x169 x170 x171 x172 x173 x174 x175 x176 x177 x178 x179 x4 W) : S28 W1 PW g X H ko kn kc no nb nc ao n c QC (upd L 19) x156 x157 x158 x159 x160 x161 x162 x163 x164 x165 x166 x167 x168 x169 x170 x171 x172 x173 x174 (.slice ao n c) x176 x177 x178 x179 x4 W :=
  ⟨h.x, h.p0, h.p1, h.p2, h.p3, h.p4, h.p5, h.p6, h.p7, h.p8, h.p9, h.p10, h.p11, h.p12, h.p13, h.p14, h.p15, h.p16, h.p17, h.p18, fun _ => rfl, h.p20, h.p21, h.p22, h.p23, h.p24⟩
theorem S28.s20 (h : S28 W1 PW g X H ko kn kc no nb nc ao n c QC L x156 x157 x158 x159 x160 x161 x162 x163 x164 x165 x166 x167 x168 x169 x170 x171 x172 x173 x174 x175 x176 x177 x178 x179 x4 W) : S28 W1 PW g X H ko kn kc no nb nc ao n c QC (upd L 20) x156 x157 x158 x159 x160 x161 x162 x163 x164 x165 x166 x167 x168 x169 x170 x171 x172 x173 x174 x175 (.agg QC.toArray) x177 x178 x179 x4 W :=
  ⟨h.x, h.p0, h.p1, h.p2, h.p3, h.p4, h.p5, h.p6, h.p7, h.p8, h.p9, h.p10, h.p11, h.p12, h.p13, h.p14, h.p15, h.p16, h.p17, h.p18, h.p19, fun _ => rfl, h.p21, h.p22, h.p23, h.p24⟩
theorem S28.s21 (h : S28 W1 PW g X H ko kn kc no nb nc ao n c QC L x156 x157 x158 x159 x160 x161 x162 x163 x164 x165 x166 x167 x168 x169 x170 x171 x172 x173 x174 x175 x176 x177 x178 x179 x4 W) (hX : PW W2) : S28 W1 PW g X H ko kn kc no nb nc ao n c QC (upd L 21) x156 x157 x158 x159 x160 x161 x162 x163 x164 x165 x166 x167 x168 x169 x170 x171 x172 x173 x174 x175 x176 (.int .i64 0) x178 x179 x4 W2 :=
  ⟨hX, h.p0, h.p1, h.p2, h.p3, h.p4, h.p5, h.p6, h.p7, h.p8, h.p9, h.p10, h.p11, h.p12, h.p13, h.p14, h.p15, h.p16, h.p17, h.p18, h.p19, h.p20, fun _ => rfl, h.p22, h.p23, h.p24⟩
theorem S28.s22 (h : S28 W1 PW g X H ko kn kc no nb nc ao n c QC L x156 x157 x158 x159 x160 x161 x162 x163 x164 x165 x166 x167 x168 x169 x170 x171 x172 x173 x174 x175 x176 x177 x178 x179 x4 W) : S28 W1 PW g X H ko kn kc no nb nc ao n c QC (upd L 22) x156 x157 x158 x159 x160 x161 x162 x163 x164 x165 x166 x167 x168 x169 x170 x171 x172 x173 x174 x175 x176 x177 (.bool true) x179 x4 W :=
  ⟨h.x, h.p0, h.p1, h.p2, h.p3, h.p4, h.p5, h.p6, h.p7, h.p8, h.p9, h.p10, h.p11, h.p12, h.p13, h.p14, h.p15, h.p16, h.p17, h.p18, h.p19, h.p20, h.p21, fun _ => rfl, h.p23, h.p24⟩
theorem S28.s23 (h : S28 W1 PW g X H ko kn kc no nb nc ao n c QC L x156 x157 x158 x159 x160 x161 x162 x163 x164 x165 x166 x167 x168 x169 x170 x171 x172 x173 x174 x175 x176 x177 x178 x179 x4 W) : S28 W1 PW g X H ko kn kc no nb nc ao n c QC (upd L 23) x156 x157 x158 x159 x160 x161 x162 x163 x164 x165 x166 x167 x168 x169 x170 x171 x172 x173 x174 x175 x176 x177 x178 (.bool true) x4 W :=
  ⟨h.x, h.p0, h.p1, h.p2, h.p3, h.p4, h.p5, h.p6, h.p7, h.p8, h.p9, h.p10, h.p11, h.p12, h.p13, h.p14, h.p15, h.p16, h.p17, h.p18, h.p19, h.p20, h.p21, h.p22, fun _ => rfl, h.p24⟩
theorem S28.s24 (h : S28 W1 PW g X H ko kn kc no nb nc ao n c QC L x156 x157 x158 x159 x160 x161 x162 x163 x164 x165 x166 x167 x168 x169 x170 x171 x172 x173 x174 x175 x176 x177 x178 x179 x4 W) : S28 W1 PW g X H ko kn kc no nb nc ao n c QC (upd L 24) x156 x157 x158 x159 x160 x161 x162 x163 x164 x165 x166 x167 x168 x169 x170 x171 x172 x173 x174 x175 x176 x177 x178 x179 (.bool true) W :=
  ⟨h.x, h.p0, h.p1, h.p2, h.p3, h.p4, h.p5, h.p6, h.p7, h.p8, h.p9, h.p10, h.p11, h.p12, h.p13, h.p14, h.p15, h.p16, h.p17, h.p18, h.p19, h.p20, h.p21, h.p22, h.p23, fun _ => rfl⟩
end
@[reducible] def IS28 (W1 : World) (PW : World → Prop) (g X H : Nat) (ko : Option Addr) (kn kc : Nat) (no : Option Addr) (nb nc : Nat) (ao : Option Addr) (n c : Nat) (QC : List Value) (y0 y1 y2 y3 y5 y6 y7 y8 y9 y10 y11 y12 y13 y14 y15 y16 y17 y18 y19 y20 y21 y22 y23 y24 y25 y26 y27 y28 y29 y30 y31 y32 y33 y34 y35 y36 y37 y38 y39 y40 y41 y42 y43 y44 y45 y46 y47 y48 y49 y50 y51 y52 y53 y54 y55 y56 y57 y58 y59 y60 y61 y62 y63 y64 y65 y66 y67 y68 y69 y70 y71 y72 y73 y74 y75 y76 y77 y78 y79 y80 y81 y82 y83 y84 y85 y86 y87 y88 y89 y90 y91 y92 y93 y94 y95 y96 y97 y98 y99 y100 y101 y102 y103 y104 y105 y106 y107 y108 y109 y110 y111 y112 y113 y114 y115 y116 y117 y118 y119 y120 y121 y122 y123 y124 y125 y126 y127 y128 y129 y130 y131 y132 y133 y134 y135 y136 y137 y138 y139 y140 y141 y142 y143 y144 y145 y146 y147 y148 y149 y150 y151 y152 y153 y154 y155 : Value) : (Nat → Bool) → Act → World → Prop := fun L a W => ∃ x156 x157 x158 x159 x160 x161 x162 x163 x164 x165 x166 x167 x168 x169 x170 x171 x172 x173 x174 x175 x176 x177 x178 x179 x4, a = ⟨#[y0, y1, y2, y3, x4, y5, y6, y7, y8, y9, y10, y11, y12, y13, y14, y15, y16, y17, y18, y19, y20, y21, y22, y23, y24, y25, y26, y27, y28, y29, y30, y31, y32, y33, y34, y35, y36, y37, y38, y39, y40, y41, y42, y43, y44, y45, y46, y47, y48, y49, y50, y51, y52, y53, y54, y55, y56, y57, y58, y59, y60, y61, y62, y63, y64, y65, y66, y67, y68, y69, y70, y71, y72, y73, y74, y75, y76, y77, y78, y79, y80, y81, y82, y83, y84, y85, y86, y87, y88, y89, y90, y91, y92, y93, y94, y95, y96, y97, y98, y99, y100, y101, y102, y103, y104, y105, y106, y107, y108, y109, y110, y111, y112, y113, y114, y115, y116, y117, y118, y119, y120, y121, y122, y123, y124, y125, y126, y127, y128, y129, y130, y131, y132, y133, y134, y135, y136, y137, y138, y139, y140, y141, y142, y143, y144, y145, y146, y147, y148, y149, y150, y151, y152, y153, y154, y155, x156, x157, x158, x159, x160, x161, x162, x163, x164, x165, x166, x167, x168, x169, x170, x171, x172, x173, x174, x175, x176, x177, x178, x179], []⟩ ∧ S28 W1 PW g X H ko kn kc no nb nc ao n c QC L x156 x157 x158 x159 x160 x161 x162 x163 x164 x165 x166 x167 x168 x169 x170 x171 x172 x173 x174 x175 x176 x177 x178 x179 x4 W
theorem S28.step {W1 : World} {PW : World → Prop} {g X H : Nat} {ko : Option Addr} {kn kc : Nat} {no : Option Addr} {nb nc : Nat} {ao : Option Addr} {n c : Nat} {QC : List Value} {y0 y1 y2 y3 y5 y6 y7 y8 y9 y10 y11 y12 y13 y14 y15 y16 y17 y18 y19 y20 y21 y22 y23 y24 y25 y26 y27 y28 y29 y30 y31 y32 y33 y34 y35 y36 y37 y38 y39 y40 y41 y42 y43 y44 y45 y46 y47 y48 y49 y50 y51 y52 y53 y54 y55 y56 y57 y58 y59 y60 y61 y62 y63 y64 y65 y66 y67 y68 y69 y70 y71 y72 y73 y74 y75 y76 y77 y78 y79 y80 y81 y82 y83 y84 y85 y86 y87 y88 y89 y90 y91 y92 y93 y94 y95 y96 y97 y98 y99 y100 y101 y102 y103 y104 y105 y106 y107 y108 y109 y110 y111 y112 y113 y114 y115 y116 y117 y118 y119 y120 y121 y122 y123 y124 y125 y126 y127 y128 y129 y130 y131 y132 y133 y134 y135 y136 y137 y138 y139 y140 y141 y142 y143 y144 y145 y146 y147 y148 y149 y150 y151 y152 y153 y154 y155 : Value} {P : Program} {ops : Array Oper} {Q : Exit → Act → World → Prop} {i : Nat} {o : Oper} (hq : ∀ x156 x157 x158 x159 x160 x161 x162 x163 x164 x165 x166 x167 x168 x169 x170 x171 x172 x173 x174 x175 x176 x177 x178 x179 x4 (L : Nat → Bool) (W : World), S28 W1 PW g X H ko kn kc no nb nc ao n c QC L x156 x157 x158 x159 x160 x161 x162 x163 x164 x165 x166 x167 x168 x169 x170 x171 x172 x173 x174 x175 x176 x177 x178 x179 x4 W → L i = false → (∀ j ∈ onesOf o, L j = true) → ∀ K : Act → World → Prop, Shut (∀ a' w', IS28 W1 PW g X H ko kn kc no nb nc ao n c QC y0 y1 y2 y3 y5 y6 y7 y8 y9 y10 y11 y12 y13 y14 y15 y16 y17 y18 y19 y20 y21 y22 y23 y24 y25 y26 y27 y28 y29 y30 y31 y32 y33 y34 y35 y36 y37 y38 y39 y40 y41 y42 y43 y44 y45 y46 y47 y48 y49 y50 y51 y52 y53 y54 y55 y56 y57 y58 y59 y60 y61 y62 y63 y64 y65 y66 y67 y68 y69 y70 y71 y72 y73 y74 y75 y76 y77 y78 y79 y80 y81 y82 y83 y84 y85 y86 y87 y88 y89 y90 y91 y92 y93 y94 y95 y96 y97 y98 y99 y100 y101 y102 y103 y104 y105 y106 y107 y108 y109 y110 y111 y112 y113 y114 y115 y116 y117 y118 y119 y120 y121 y122 y123 y124 y125 y126 y127 y128 y129 y130 y131 y132 y133 y134 y135 y136 y137 y138 y139 y140 y141 y142 y143 y144 y145 y146 y147 y148 y149 y150 y151 y152 y153 y154 y155 (upd L i) a' w' → K a' w') → if Region.wanted o (yielded ops (⟨#[y0, y1, y2, y3, x4, y5, y6, y7, y8, y9, y10, y11, y12, y13, y14, y15, y16, y17, y18, y19, y20, y21, y22, y23, y24, y25, y26, y27, y28, y29, y30, y31, y32, y33, y34, y35, y36, y37, y38, y39, y40, y41, y42, y43, y44, y45, y46, y47, y48, y49, y50, y51, y52, y53, y54, y55, y56, y57, y58, y59, y60, y61, y62, y63, y64, y65, y66, y67, y68, y69, y70, y71, y72, y73, y74, y75, y76, y77, y78, y79, y80, y81, y82, y83, y84, y85, y86, y87, y88, y89, y90, y91, y92, y93, y94, y95, y96, y97, y98, y99, y100, y101, y102, y103, y104, y105, y106, y107, y108, y109, y110, y111, y112, y113, y114, y115, y116, y117, y118, y119, y120, y121, y122, y123, y124, y125, y126, y127, y128, y129, y130, y131, y132, y133, y134, y135, y136, y137, y138, y139, y140, y141, y142, y143, y144, y145, y146, y147, y148, y149, y150, y151, y152, y153, y154, y155, x156, x157, x158, x159, x160, x161, x162, x163, x164, x165, x166, x167, x168, x169, x170, x171, x172, x173, x174, x175, x176, x177, x178, x179], []⟩ : Act).tmps) = true then Oper.wp P o ⟨#[y0, y1, y2, y3, x4, y5, y6, y7, y8, y9, y10, y11, y12, y13, y14, y15, y16, y17, y18, y19, y20, y21, y22, y23, y24, y25, y26, y27, y28, y29, y30, y31, y32, y33, y34, y35, y36, y37, y38, y39, y40, y41, y42, y43, y44, y45, y46, y47, y48, y49, y50, y51, y52, y53, y54, y55, y56, y57, y58, y59, y60, y61, y62, y63, y64, y65, y66, y67, y68, y69, y70, y71, y72, y73, y74, y75, y76, y77, y78, y79, y80, y81, y82, y83, y84, y85, y86, y87, y88, y89, y90, y91, y92, y93, y94, y95, y96, y97, y98, y99, y100, y101, y102, y103, y104, y105, y106, y107, y108, y109, y110, y111, y112, y113, y114, y115, y116, y117, y118, y119, y120, y121, y122, y123, y124, y125, y126, y127, y128, y129, y130, y131, y132, y133, y134, y135, y136, y137, y138, y139, y140, y141, y142, y143, y144, y145, y146, y147, y148, y149, y150, y151, y152, y153, y154, y155, x156, x157, x158, x159, x160, x161, x162, x163, x164, x165, x166, x167, x168, x169, x170, x171, x172, x173, x174, x175, x176, x177, x178, x179], []⟩ W K Q else K ((⟨#[y0, y1, y2, y3, x4, y5, y6, y7, y8, y9, y10, y11, y12, y13, y14, y15, y16, y17, y18, y19, y20, y21, y22, y23, y24, y25, y26, y27, y28, y29, y30, y31, y32, y33, y34, y35, y36, y37, y38, y39, y40, y41, y42, y43, y44, y45, y46, y47, y48, y49, y50, y51, y52, y53, y54, y55, y56, y57, y58, y59, y60, y61, y62, y63, y64, y65, y66, y67, y68, y69, y70, y71, y72, y73, y74, y75, y76, y77, y78, y79, y80, y81, y82, y83, y84, y85, y86, y87, y88, y89, y90, y91, y92, y93, y94, y95, y96, y97, y98, y99, y100, y101, y102, y103, y104, y105, y106, y107, y108, y109, y110, y111, y112, y113, y114, y115, y116, y117, y118, y119, y120, y121, y122, y123, y124, y125, y126, y127, y128, y129, y130, y131, y132, y133, y134, y135, y136, y137, y138, y139, y140, y141, y142, y143, y144, y145, y146, y147, y148, y149, y150, y151, y152, y153, y154, y155, x156, x157, x158, x159, x160, x161, x162, x163, x164, x165, x166, x167, x168, x169, x170, x171, x172, x173, x174, x175, x176, x177, x178, x179], []⟩ : Act).put o.dst undef) W) : StepI P ops (IS28 W1 PW g X H ko kn kc no nb nc ao n c QC y0 y1 y2 y3 y5 y6 y7 y8 y9 y10 y11 y12 y13 y14 y15 y16 y17 y18 y19 y20 y21 y22 y23 y24 y25 y26 y27 y28 y29 y30 y31 y32 y33 y34 y35 y36 y37 y38 y39 y40 y41 y42 y43 y44 y45 y46 y47 y48 y49 y50 y51 y52 y53 y54 y55 y56 y57 y58 y59 y60 y61 y62 y63 y64 y65 y66 y67 y68 y69 y70 y71 y72 y73 y74 y75 y76 y77 y78 y79 y80 y81 y82 y83 y84 y85 y86 y87 y88 y89 y90 y91 y92 y93 y94 y95 y96 y97 y98 y99 y100 y101 y102 y103 y104 y105 y106 y107 y108 y109 y110 y111 y112 y113 y114 y115 y116 y117 y118 y119 y120 y121 y122 y123 y124 y125 y126 y127 y128 y129 y130 y131 y132 y133 y134 y135 y136 y137 y138 y139 y140 y141 y142 y143 y144 y145 y146 y147 y148 y149 y150 y151 y152 y153 y154 y155) Q i o := by
  rintro L a W ⟨x156, x157, x158, x159, x160, x161, x162, x163, x164, x165, x166, x167, x168, x169, x170, x171, x172, x173, x174, x175, x176, x177, x178, x179, x4, rfl, h⟩
  exact hq _ _ _ _ _ _ _ _ _ _ _ _ _ _ _ _ _ _ _ _ _ _ _ _ _ _ _ h
theorem S28.ends {W1 : World} {PW : World → Prop} {g X H : Nat} {ko : Option Addr} {kn kc : Nat} {no : Option Addr} {nb nc : Nat} {ao : Option Addr} {n c : Nat} {QC : List Value} {y0 y1 y2 y3 y5 y6 y7 y8 y9 y10 y11 y12 y13 y14 y15 y16 y17 y18 y19 y20 y21 y22 y23 y24 y25 y26 y27 y28 y29 y30 y31 y32 y33 y34 y35 y36 y37 y38 y39 y40 y41 y42 y43 y44 y45 y46 y47 y48 y49 y50 y51 y52 y53 y54 y55 y56 y57 y58 y59 y60 y61 y62 y63 y64 y65 y66 y67 y68 y69 y70 y71 y72 y73 y74 y75 y76 y77 y78 y79 y80 y81 y82 y83 y84 y85 y86 y87 y88 y89 y90 y91 y92 y93 y94 y95 y96 y97 y98 y99 y100 y101 y102 y103 y104 y105 y106 y107 y108 y109 y110 y111 y112 y113 y114 y115 y116 y117 y118 y119 y120 y121 y122 y123 y124 y125 y126 y127 y128 y129 y130 y131 y132 y133 y134 y135 y136 y137 y138 y139 y140 y141 y142 y143 y144 y145 y146 y147 y148 y149 y150 y151 y152 y153 y154 y155 : Value} {mm_ : Nat} {Q : Exit → Act → World → Prop} (hq : ∀ x156 x157 x158 x159 x160 x161 x162 x163 x164 x165 x166 x167 x168 x169 x170 x171 x172 x173 x174 x175 x176 x177 x178 x179 x4 (L : Nat → Bool) (W : World), (∀ j, j < mm_ → L j = true) → S28 W1 PW g X H ko kn kc no nb nc ao n c QC L x156 x157 x158 x159 x160 x161 x162 x163 x164 x165 x166 x167 x168 x169 x170 x171 x172 x173 x174 x175 x176 x177 x178 x179 x4 W → Q .normal ⟨#[y0, y1, y2, y3, x4, y5, y6, y7, y8, y9, y10, y11, y12, y13, y14, y15, y16, y17, y18, y19, y20, y21, y22, y23, y24, y25, y26, y27, y28, y29, y30, y31, y32, y33, y34, y35, y36, y37, y38, y39, y40, y41, y42, y43, y44, y45, y46, y47, y48, y49, y50, y51, y52, y53, y54, y55, y56, y57, y58, y59, y60, y61, y62, y63, y64, y65, y66, y67, y68, y69, y70, y71, y72, y73, y74, y75, y76, y77, y78, y79, y80, y81, y82, y83, y84, y85, y86, y87, y88, y89, y90, y91, y92, y93, y94, y95, y96, y97, y98, y99, y100, y101, y102, y103, y104, y105, y106, y107, y108, y109, y110, y111, y112, y113, y114, y115, y116, y117, y118, y119, y120, y121, y122, y123, y124, y125, y126, y127, y128, y129, y130, y131, y132, y133, y134, y135, y136, y137, y138, y139, y140, y141, y142, y143, y144, y145, y146, y147, y148, y149, y150, y151, y152, y153, y154, y155, x156, x157, x158, x159, x160, x161, x162, x163, x164, x165, x166, x167, x168, x169, x170, x171, x172, x173, x174, x175, x176, x177, x178, x179], []⟩ W) : ∀ L a' w', (∀ j, j < mm_ → L j = true) → IS28 W1 PW g X H ko kn kc no nb nc ao n c QC y0 y1 y2 y3 y5 y6 y7 y8 y9 y10 y11 y12 y13 y14 y15 y16 y17 y18 y19 y20 y21 y22 y23 y24 y25 y26 y27 y28 y29 y30 y31 y32 y33 y34 y35 y36 y37 y38 y39 y40 y41 y42 y43 y44 y45 y46 y47 y48 y49 y50 y51 y52 y53 y54 y55 y56 y57 y58 y59 y60 y61 y62 y63 y64 y65 y66 y67 y68 y69 y70 y71 y72 y73 y74 y75 y76 y77 y78 y79 y80 y81 y82 y83 y84 y85 y86 y87 y88 y89 y90 y91 y92 y93 y94 y95 y96 y97 y98 y99 y100 y101 y102 y103 y104 y105 y106 y107 y108 y109 y110 y111 y112 y113 y114 y115 y116 y117 y118 y119 y120 y121 y122 y123 y124 y125 y126 y127 y128 y129 y130 y131 y132 y133 y134 y135 y136 y137 y138 y139 y140 y141 y142 y143 y144 y145 y146 y147 y148 y149 y150 y151 y152 y153 y154 y155 L a' w' → Q .normal a' w' := by
  rintro L a W hall ⟨x156, x157, x158, x159, x160, x161, x162, x163, x164, x165, x166, x167, x168, x169, x170, x171, x172, x173, x174, x175, x176, x177, x178, x179, x4, rfl, h⟩
  exact hq _ _ _ _ _ _ _ _ _ _ _ _ _ _ _ _ _ _ _ _ _ _ _ _ _ _ _ hall h
structure S26 (W1 : World) (key nonce : List By) (gk ck gn cn X : Nat) (ko : Option Addr) (kc : Nat) (no : Option Addr) (nc : Nat) (SK SN : ByteArray) (L : Nat → Bool) (x136 x137 x138 x139 x140 x141 x142 x143 x144 x145 x146 x147 x148 x149 x150 x151 x152 x153 x154 x155 : Value) (W : World) : Prop where
  x : B26 W1.heap.size W1 key nonce 119#8 120#8 (L 4) (L 5) (L 6) (L 7) (L 14) (L 15) (L 16) x140 x141 x142 x150 x151 x152 W
  p0 : L 0 = true → x136 = .slice (some ⟨gk, 0, none⟩) (key.length + 1) ck
  p1 : L 1 = true → x137 = .string SK
  p2 : L 2 = true → x138 = .pointer (some ⟨X, 35, none⟩)
  p3 : L 3 = true → x139 = .slice ko key.length kc
  p7 : L 7 = true → x143 = .string SK
  p8 : L 8 = true → x144 = .bool false
  p9 : L 9 = true → x145 = .bool false
  p10 : L 10 = true → x146 = .slice (some ⟨gn, 0, none⟩) (nonce.length + 1) cn
  p11 : L 11 = true → x147 = .string SN
  p12 : L 12 = true → x148 = .pointer (some ⟨X, 36, none⟩)
  p13 : L 13 = true → x149 = .slice no nonce.length nc
  p17 : L 17 = true → x153 = .string SN
  p18 : L 18 = true → x154 = .bool false
  p19 : L 19 = true → x155 = .bool false
  c9_8 : L 9 = true → L 8 = true
  c8_7 : L 8 = true → L 7 = true
section
variable {W1 : World} {key nonce : List By} {gk ck gn cn X : Nat} {ko : Option Addr} {kc : Nat} {no : Option Addr} {nc : Nat} {SK SN : ByteArray} {L : Nat → Bool} {x136 x137 x138 x139 x140 x141 x142 x143 x144 x145 x146 x147 x148 x149 x150 x151 x152 x153 x154 x155 : Value} {W W2 : World}
theorem S26.s0 (h : S26 W1 key nonce gk ck gn cn X ko kc no nc SK SN L x136 x137 x138 x139 x140 x141 x142 x143 x144 x145 x146 x147 x148 x149 x150 x151 x152 x153 x154 x155 W) : S26 W1 key nonce gk ck gn cn X ko kc no nc SK SN (upd L 0) (.slice (some ⟨gk, 0, none⟩) (key.length + 1) ck) x137 x138 x139 x140 x141 x142 x143 x144 x145 x146 x147 x148 x149 x150 x151 x152 x153 x154 x155 W :=
  ⟨h.x, fun _ => rfl, h.p1, h.p2, h.p3, h.p7, h.p8, h.p9, h.p10, h.p11, h.p12, h.p13, h.p17, h.p18, h.p19, h.c9_8, h.c8_7⟩
theorem S26.s1 (h : S26 W1 key nonce gk ck gn cn X ko kc no nc SK SN L x136 x137 x138 x139 x140 x141 x142 x143 x144 x145 x146 x147 x148 x149 x150 x151 x152 x153 x154 x155 W) : S26 W1 key nonce gk ck gn cn X ko kc no nc SK SN (upd L 1) x136 (.string SK) x138 x139 x140 x141 x142 x143 x144 x145 x146 x147 x148 x149 x150 x151 x152 x153 x154 x155 W :=
  ⟨h.x, h.p0, fun _ => rfl, h.p2, h.p3, h.p7, h.p8, h.p9, h.p10, h.p11, h.p12, h.p13, h.p17, h.p18, h.p19, h.c9_8, h.c8_7⟩
theorem S26.s2 (h : S26 W1 key nonce gk ck gn cn X ko kc no nc SK SN L x136 x137 x138 x139 x140 x141 x142 x143 x144 x145 x146 x147 x148 x149 x150 x151 x152 x153 x154 x155 W) : S26 W1 key nonce gk ck gn cn X ko kc no nc SK SN (upd L 2) x136 x137 (.pointer (some ⟨X, 35, none⟩)) x139 x140 x141 x142 x143 x144 x145 x146 x147 x148 x149 x150 x151 x152 x153 x154 x155 W :=
  ⟨h.x, h.p0, h.p1, fun _ => rfl, h.p3, h.p7, h.p8, h.p9, h.p10, h.p11, h.p12, h.p13, h.p17, h.p18, h.p19, h.c9_8, h.c8_7⟩
theorem S26.s3 (h : S26 W1 key nonce gk ck gn cn X ko kc no nc SK SN L x136 x137 x138 x139 x140 x141 x142 x143 x144 x145 x146 x147 x148 x149 x150 x151 x152 x153 x154 x155 W) : S26 W1 key nonce gk ck gn cn X ko kc no nc SK SN (upd L 3) x136 x137 x138 (.slice ko key.length kc) x140 x141 x142 x143 x144 x145 x146 x147 x148 x149 x150 x151 x152 x153 x154 x155 W :=
  ⟨h.x, h.p0, h.p1, h.p2, fun _ => rfl, h.p7, h.p8, h.p9, h.p10, h.p11, h.p12, h.p13, h.p17, h.p18, h.p19, h.c9_8, h.c8_7⟩
theorem S26.s4 (h : S26 W1 key nonce gk ck gn cn X ko kc no nc SK SN L x136 x137 x138 x139 x140 x141 x142 x143 x144 x145 x146 x147 x148 x149 x150 x151 x152 x153 x154 x155 W) {v : Value} (hX : B26 W1.heap.size W1 key nonce 119#8 120#8 ((upd L 4) 4) ((upd L 4) 5) ((upd L 4) 6) ((upd L 4) 7) ((upd L 4) 14) ((upd L 4) 15) ((upd L 4) 16) v x141 x142 x150 x151 x152 W2) : S26 W1 key nonce gk ck gn cn X ko kc no nc SK SN (upd L 4) x136 x137 x138 x139 v x141 x142 x143 x144 x145 x146 x147 x148 x149 x150 x151 x152 x153 x154 x155 W2 :=
  ⟨hX, h.p0, h.p1, h.p2, h.p3, h.p7, h.p8, h.p9, h.p10, h.p11, h.p12, h.p13, h.p17, h.p18, h.p19, h.c9_8, h.c8_7⟩
theorem S26.s5 (h : S26 W1 key nonce gk ck gn cn X ko kc no nc SK SN L x136 x137 x138 x139 x140 x141 x142 x143 x144 x145 x146 x147 x148 x149 x150 x151 x152 x153 x154 x155 W) {v : Value} (hX : B26 W1.heap.size W1 key nonce 119#8 120#8 ((upd L 5) 4) ((upd L 5) 5) ((upd L 5) 6) ((upd L 5) 7) ((upd L 5) 14) ((upd L 5) 15) ((upd L 5) 16) x140 v x142 x150 x151 x152 W2) : S26 W1 key nonce gk ck gn cn X ko kc no nc SK SN (upd L 5) x136 x137 x138 x139 x140 v x142 x143 x144 x145 x146 x147 x148 x149 x150 x151 x152 x153 x154 x155 W2 :=
  ⟨hX, h.p0, h.p1, h.p2, h.p3, h.p7, h.p8, h.p9, h.p10, h.p11, h.p12, h.p13, h.p17, h.p18, h.p19, h.c9_8, h.c8_7⟩
theorem S26.s6 (h : S26 W1 key nonce gk ck gn cn X ko kc no nc SK SN L x136 x137 x138 x139 x140 x141 x142 x143 x144 x145 x146 x147 x148 x149 x150 x151 x152 x153 x154 x155 W) {v : Value} (hX : B26 W1.heap.size W1 key nonce 119#8 120#8 ((upd L 6) 4) ((upd L 6) 5) ((upd L 6) 6) ((upd L 6) 7) ((upd L 6) 14) ((upd L 6) 15) ((upd L 6) 16) x140 x141 v x150 x151 x152 W2) : S26 W1 key nonce gk ck gn cn X ko kc no nc SK SN (upd L 6) x136 x137 x138 x139 x140 x141 v x143 x144 x145 x146 x147 x148 x149 x150 x151 x152 x153 x154 x155 W2 :=
  ⟨hX, h.p0, h.p1, h.p2, h.p3, h.p7, h.p8, h.p9, h.p10, h.p11, h.p12, h.p13, h.p17, h.p18, h.p19, h.c9_8, h.c8_7⟩
theorem S26.s7 (h : S26 W1 key nonce gk ck gn cn X ko kc no nc SK SN L x136 x137 x138 x139 x140 x141 x142 x143 x144 x145 x146 x147 x148 x149 x150 x151 x152 x153 x154 x155 W) (hX : B26 W1.heap.size W1 key nonce 119#8 120#8 ((upd L 7) 4) ((upd L 7) 5) ((upd L 7) 6) ((upd L 7) 7) ((upd L 7) 14) ((upd L 7) 15) ((upd L 7) 16) x140 x141 x142 x150 x151 x152 W2) : S26 W1 key nonce gk ck gn cn X ko kc no nc SK SN (upd L 7) x136 x137 x138 x139 x140 x141 x142 (.string SK) x144 x145 x146 x147 x148 x149 x150 x151 x152 x153 x154 x155 W2 :=
  ⟨hX, h.p0, h.p1, h.p2, h.p3, fun _ => rfl, h.p8, h.p9, h.p10, h.p11, h.p12, h.p13, h.p17, h.p18, h.p19, h.c9_8, fun _ => rfl⟩
theorem S26.s8 (h : S26 W1 key nonce gk ck gn cn X ko kc no nc SK SN L x136 x137 x138 x139 x140 x141 x142 x143 x144 x145 x146 x147 x148 x149 x150 x151 x152 x153 x154 x155 W) (hc7 : L 7 = true) : S26 W1 key nonce gk ck gn cn X ko kc no nc SK SN (upd L 8) x136 x137 x138 x139 x140 x141 x142 x143 (.bool false) x145 x146 x147 x148 x149 x150 x151 x152 x153 x154 x155 W :=
  ⟨h.x, h.p0, h.p1, h.p2, h.p3, h.p7, fun _ => rfl, h.p9, h.p10, h.p11, h.p12, h.p13, h.p17, h.p18, h.p19, fun _ => rfl, fun _ => hc7⟩
theorem S26.s9 (h : S26 W1 key nonce gk ck gn cn X ko kc no nc SK SN L x136 x137 x138 x139 x140 x141 x142 x143 x144 x145 x146 x147 x148 x149 x150 x151 x152 x153 x154 x155 W) (hc8 : L 8 = true) : S26 W1 key nonce gk ck gn cn X ko kc no nc SK SN (upd L 9) x136 x137 x138 x139 x140 x141 x142 x143 x144 (.bool false) x146 x147 x148 x149 x150 x151 x152 x153 x154 x155 W :=
  ⟨h.x, h.p0, h.p1, h.p2, h.p3, h.p7, h.p8, fun _ => rfl, h.p10, h.p11, h.p12, h.p13, h.p17, h.p18, h.p19, fun _ => hc8, h.c8_7⟩
theorem S26.s10 (h : S26 W1 key nonce gk ck gn cn X ko kc no nc SK SN L x136 x137 x138 x139 x140 x141 x142 x143 x144 x145 x146 x147 x148 x149 x150 x151 x152 x153 x154 x155 W) : S26 W1 key nonce gk ck gn cn X ko kc no nc SK SN (upd L 10) x136 x137 x138 x139 x140 x141 x142 x143 x144 x145 (.slice (some ⟨gn, 0, none⟩) (nonce.length + 1) cn) x147 x148 x149 x150 x151 x152 x153 x154 x155 W :=
  ⟨h.x, h.p0, h.p1, h.p2, h.p3, h.p7, h.p8, h.p9, fun _ => rfl, h.p11, h.p12, h.p13, h.p17, h.p18, h.p19, h.c9_8, h.c8_7⟩
theorem S26.s11 (h : S26 W1 key nonce gk ck gn cn X ko kc no nc SK SN L x136 x137 x138 x139 x140 x141 x142 x143 x144 x145 x146 x147 x148 x149 x150 x151 x152 x153 x154 x155 W) : S26 W1 key nonce gk ck gn cn X ko kc no nc SK SN (upd L 11) x136 x137 x138 x139 x140 x141 x142 x143 x144 x145 x146 (.string SN) x148 x149 x150 x151 x152 x153 x154 x155 W :=
  ⟨h.x, h.p0, h.p1, h.p2, h.p3, h.p7, h.p8, h.p9, h.p10, fun _ => rfl, h.p12, h.p13, h.p17, h.p18, h.p19, h.c9_8, h.c8_7⟩
theorem S26.s12 (h : S26 W1 key nonce gk ck gn cn X ko kc no nc SK SN L x136 x137 x138 x139 x140 x141 x142 x143 x144 x145 x146 x147 x148 x149 x150 x151 x152 x153 x154 x155 W) : S26 W1 key nonce gk ck gn cn X ko kc no nc SK SN (upd L 12) x136 x137 x138 x139 x140 x141 x142 x143 x144 x145 x146 x147 (.pointer (some ⟨X, 36, none⟩)) x149 x150 x151 x152 x153 x154 x155 W :=
  ⟨h.x, h.p0, h.p1, h.p2, h.p3, h.p7, h.p8, h.p9, h.p10, h.p11, fun _ => rfl, h.p13, h.p17, h.p18, h.p19, h.c9_8, h.c8_7⟩
theorem S26.s13 (h : S26 W1 key nonce gk ck gn cn X ko kc no nc SK SN L x136 x137 x138 x139 x140 x141 x142 x143 x144 x145 x146 x147 x148 x149 x150 x151 x152 x153 x154 x155 W) : S26 W1 key nonce gk ck gn cn X ko kc no nc SK SN (upd L 13) x136 x137 x138 x139 x140 x141 x142 x143 x144 x145 x146 x147 x148 (.slice no nonce.length nc) x150 x151 x152 x153 x154 x155 W :=
  ⟨h.x, h.p0, h.p1, h.p2, h.p3, h.p7, h.p8, h.p9, h.p10, h.p11, h.p12, fun _ => rfl, h.p17, h.p18, h.p19, h.c9_8, h.c8_7⟩
theorem S26.s14 (h : S26 W1 key nonce gk ck gn cn X ko kc no nc SK SN L x136 x137 x138 x139 x140 x141 x142 x143 x144 x145 x146 x147 x148 x149 x150 x151 x152 x153 x154 x155 W) {v : Value} (hX : B26 W1.heap.size W1 key nonce 119#8 120#8 ((upd L 14) 4) ((upd L 14) 5) ((upd L 14) 6) ((upd L 14) 7) ((upd L 14) 14) ((upd L 14) 15) ((upd L 14) 16) x140 x141 x142 v x151 x152 W2) : S26 W1 key nonce gk ck gn cn X ko kc no nc SK SN (upd L 14) x136 x137 x138 x139 x140 x141 x142 x143 x144 x145 x146 x147 x148 x149 v x151 x152 x153 x154 x155 W2 :=
  ⟨hX, h.p0, h.p1, h.p2, h.p3, h.p7, h.p8, h.p9, h.p10, h.p11, h.p12, h.p13, h.p17, h.p18, h.p19, h.c9_8, h.c8_7⟩
theorem S26.s15 (h : S26 W1 key nonce gk ck gn cn X ko kc no nc SK SN L x136 x137 x138 x139 x140 x141 x142 x143 x144 x145 x146 x147 x148 x149 x150 x151 x152 x153 x154 x155 W) {v : Value} (hX : B26 W1.heap.size W1 key nonce 119#8 120#8 ((upd L 15) 4) ((upd L 15) 5) ((upd L 15) 6) ((upd L 15) 7) ((upd L 15) 14) ((upd L 15) 15) ((upd L 15) 16) x140 x141 x142 x150 v x152 W2) : S26 W1 key nonce gk ck gn cn X ko kc no nc SK SN (upd L 15) x136 x137 x138 x139 x140 x141 x142 x143 x144 x145 x146 x147 x148 x149 x150 v x152 x153 x154 x155 W2 :=
  ⟨hX, h.p0, h.p1, h.p2, h.p3, h.p7, h.p8, h.p9, h.p10, h.p11, h.p12, h.p13, h.p17, h.p18, h.p19, h.c9_8, h.c8_7⟩
theorem S26.s16 (h : S26 W1 key nonce gk ck gn cn X ko kc no nc SK SN L x136 x137 x138 x139 x140 x141 x142 x143 x144 x145 x146 x147 x148 x149 x150 x151 x152 x153 x154 x155 W) {v : Value} (hX : B26 W1.heap.size W1 key nonce 119#8 120#8 ((upd L 16) 4) ((upd L 16) 5) ((upd L 16) 6) ((upd L 16) 7) ((upd L 16) 14) ((upd L 16) 15) ((upd L 16) 16) x140 x141 x142 x150 x151 v W2) : S26 W1 key nonce gk ck gn cn X ko kc no nc SK SN (upd L 16) x136 x137 x138 x139 x140 x141 x142 x143 x144 x145 x146 x147 x148 x149 x150 x151 v x153 x154 x155 W2 :=
  ⟨hX, h.p0, h.p1, h.p2, h.p3, h.p7, h.p8, h.p9, h.p10, h.p11, h.p12, h.p13, h.p17, h.p18, h.p19, h.c9_8, h.c8_7⟩
theorem S26.s17 (h : S26 W1 key nonce gk ck gn cn X ko kc no nc SK SN L x136 x137 x138 x139 x140 x141 x142 x143 x144 x145 x146 x147 x148 x149 x150 x151 x152 x153 x154 x155 W) : S26 W1 key nonce gk ck gn cn X ko kc no nc SK SN (upd L 17) x136 x137 x138 x139 x140 x141 x142 x143 x144 x145 x146 x147 x148 x149 x150 x151 x152 (.string SN) x154 x155 W :=
  ⟨h.x, h.p0, h.p1, h.p2, h.p3, h.p7, h.p8, h.p9, h.p10, h.p11, h.p12, h.p13, fun _ => rfl, h.p18, h.p19, h.c9_8, h.c8_7⟩
theorem S26.s18 (h : S26 W1 key nonce gk ck gn cn X ko kc no nc SK SN L x136 x137 x138 x139 x140 x141 x142 x143 x144 x145 x146 x147 x148 x149 x150 x151 x152 x153 x154 x155 W) : S26 W1 key nonce gk ck gn cn X ko kc no nc SK SN (upd L 18) x136 x137 x138 x139 x140 x141 x142 x143 x144 x145 x146 x147 x148 x149 x150 x151 x152 x153 (.bool false) x155 W :=
  ⟨h.x, h.p0, h.p1, h.p2, h.p3, h.p7, h.p8, h.p9, h.p10, h.p11, h.p12, h.p13, h.p17, fun _ => rfl, h.p19, h.c9_8, h.c8_7⟩
theorem S26.s19 (h : S26 W1 key nonce gk ck gn cn X ko kc no nc SK SN L x136 x137 x138 x139 x140 x141 x142 x143 x144 x145 x146 x147 x148 x149 x150 x151 x152 x153 x154 x155 W) : S26 W1 key nonce gk ck gn cn X ko kc no nc SK SN (upd L 19) x136 x137 x138 x139 x140 x141 x142 x143 x144 x145 x146 x147 x148 x149 x150 x151 x152 x153 x154 (.bool false) W :=
  ⟨h.x, h.p0, h.p1, h.p2, h.p3, h.p7, h.p8, h.p9, h.p10, h.p11, h.p12, h.p13, h.p17, h.p18, fun _ => rfl, h.c9_8, h.c8_7⟩
end
@[reducible] def IS26 (W1 : World) (key nonce : List By) (gk ck gn cn X : Nat) (ko : Option Addr) (kc : Nat) (no : Option Addr) (nc : Nat) (SK SN : ByteArray) (y0 y1 y2 y3 y4 y5 y6 y7 y8 y9 y10 y11 y12 y13 y14 y15 y16 y17 y18 y19 y20 y21 y22 y23 y24 y25 y26 y27 y28 y29 y30 y31 y32 y33 y34 y35 y36 y37 y38 y39 y40 y41 y42 y43 y44 y45 y46 y47 y48 y49 y50 y51 y52 y53 y54 y55 y56 y57 y58 y59 y60 y61 y62 y63 y64 y65 y66 y67 y68 y69 y70 y71 y72 y73 y74 y75 y76 y77 y78 y79 y80 y81 y82 y83 y84 y85 y86 y87 y88 y89 y90 y91 y92 y93 y94 y95 y96 y97 y98 y99 y100 y101 y102 y103 y104 y105 y106 y107 y108 y109 y110 y111 y112 y113 y114 y115 y116 y117 y118 y119 y120 y121 y122 y123 y124 y125 y126 y127 y128 y129 y130 y131 y132 y133 y134 y135 y156 y157 y158 y159 y160 y161 y162 y163 y164 y165 y166 y167 y168 y169 y170 y171 y172 y173 y174 y175 y176 y177 y178 y179 : Value) : (Nat → Bool) → Act → World → Prop := fun L a W => ∃ x136 x137 x138 x139 x140 x141 x142 x143 x144 x145 x146 x147 x148 x149 x150 x151 x152 x153 x154 x155, a = ⟨#[y0, y1, y2, y3, y4, y5, y6, y7, y8, y9, y10, y11, y12, y13, y14, y15, y16, y17, y18, y19, y20, y21, y22, y23, y24, y25, y26, y27, y28, y29, y30, y31, y32, y33, y34, y35, y36, y37, y38, y39, y40, y41, y42, y43, y44, y45, y46, y47, y48, y49, y50, y51, y52, y53, y54, y55, y56, y57, y58, y59, y60, y61, y62, y63, y64, y65, y66, y67, y68, y69, y70, y71, y72, y73, y74, y75, y76, y77, y78, y79, y80, y81, y82, y83, y84, y85, y86, y87, y88, y89, y90, y91, y92, y93, y94, y95, y96, y97, y98, y99, y100, y101, y102, y103, y104, y105, y106, y107, y108, y109, y110, y111, y112, y113, y114, y115, y116, y117, y118, y119, y120, y121, y122, y123, y124, y125, y126, y127, y128, y129, y130, y131, y132, y133, y134, y135, x136, x137, x138, x139, x140, x141, x142, x143, x144, x145, x146, x147, x148, x149, x150, x151, x152, x153, x154, x155, y156, y157, y158, y159, y160, y161, y162, y163, y164, y165, y166, y167, y168, y169, y170, y171, y172, y173, y174, y175, y176, y177, y178, y179], []⟩ ∧ S26 W1 key nonce gk ck gn cn X ko kc no nc SK SN L x136 x137 x138 x139 x140 x141 x142 x143 x144 x145 x146 x147 x148 x149 x150 x151 x152 x153 x154 x155 W
theorem S26.step {W1 : World} {key nonce : List By} {gk ck gn cn X : Nat} {ko : Option Addr} {kc : Nat} {no : Option Addr} {nc : Nat} {SK SN : ByteArray} {y0 y1 y2 y3 y4 y5 y6 y7 y8 y9 y10 y11 y12 y13 y14 y15 y16 y17 y18 y19 y20 y21 y22 y23 y24 y25 y26 y27 y28 y29 y30 y31 y32 y33 y34 y35 y36 y37 y38 y39 y40 y41 y42 y43 y44 y45 y46 y47 y48 y49 y50 y51 y52 y53 y54 y55 y56 y57 y58 y59 y60 y61 y62 y63 y64 y65 y66 y67 y68 y69 y70 y71 y72 y73 y74 y75 y76 y77 y78 y79 y80 y81 y82 y83 y84 y85 y86 y87 y88 y89 y90 y91 y92 y93 y94 y95 y96 y97 y98 y99 y100 y101 y102 y103 y104 y105 y106 y107 y108 y109 y110 y111 y112 y113 y114 y115 y116 y117 y118 y119 y120 y121 y122 y123 y124 y125 y126 y127 y128 y129 y130 y131 y132 y133 y134 y135 y156 y157 y158 y159 y160 y161 y162 y163 y164 y165 y166 y167 y168 y169 y170 y171 y172 y173 y174 y175 y176 y177 y178 y179 : Value} {P : Program} {ops : Array Oper} {Q : Exit → Act → World → Prop} {i : Nat} {o : Oper} (hq : ∀ x136 x137 x138 x139 x140 x141 x142 x143 x144 x145 x146 x147 x148 x149 x150 x151 x152 x153 x154 x155 (L : Nat → Bool) (W : World), S26 W1 key nonce gk ck gn cn X ko kc no nc SK SN L x136 x137 x138 x139 x140 x141 x142 x143 x144 x145 x146 x147 x148 x149 x150 x151 x152 x153 x154 x155 W → L i = false → (∀ j ∈ onesOf o, L j = true) → ∀ K : Act → World → Prop, Shut (∀ a' w', IS26 W1 key nonce gk ck gn cn X ko kc no nc SK SN y0 y1 y2 y3 y4 y5 y6 y7 y8 y9 y10 y11 y12 y13 y14 y15 y16 y17 y18 y19 y20 y21 y22 y23 y24 y25 y26 y27 y28 y29 y30 y31 y32 y33 y34 y35 y36 y37 y38 y39 y40 y41 y42 y43 y44 y45 y46 y47 y48 y49 y50 y51 y52 y53 y54 y55 y56 y57 y58 y59 y60 y61 y62 y63 y64 y65 y66 y67 y68 y69 y70 y71 y72 y73 y74 y75 y76 y77 y78 y79 y80 y81 y82 y83 y84 y85 y86 y87 y88 y89 y90 y91 y92 y93 y94 y95 y96 y97 y98 y99 y100 y101 y102 y103 y104 y105 y106 y107 y108 y109 y110 y111 y112 y113 y114 y115 y116 y117 y118 y119 y120 y121 y122 y123 y124 y125 y126 y127 y128 y129 y130 y131 y132 y133 y134 y135 y156 y157 y158 y159 y160 y161 y162 y163 y164 y165 y166 y167 y168 y169 y170 y171 y172 y173 y174 y175 y176 y177 y178 y179 (upd L i) a' w' → K a' w') → if Region.wanted o (yielded ops (⟨#[y0, y1, y2, y3, y4, y5, y6, y7, y8, y9, y10, y11, y12, y13, y14, y15, y16, y17, y18, y19, y20, y21, y22, y23, y24, y25, y26, y27, y28, y29, y30, y31, y32, y33, y34, y35, y36, y37, y38, y39, y40, y41, y42, y43, y44, y45, y46, y47, y48, y49, y50, y51, y52, y53, y54, y55, y56, y57, y58, y59, y60, y61, y62, y63, y64, y65, y66, y67, y68, y69, y70, y71, y72, y73, y74, y75, y76, y77, y78, y79, y80, y81, y82, y83, y84, y85, y86, y87, y88, y89, y90, y91, y92, y93, y94, y95, y96, y97, y98, y99, y100, y101, y102, y103, y104, y105, y106, y107, y108, y109, y110, y111, y112, y113, y114, y115, y116, y117, y118, y119, y120, y121, y122, y123, y124, y125, y126, y127, y128, y129, y130, y131, y132, y133, y134, y135, x136, x137, x138, x139, x140, x141, x142, x143, x144, x145, x146, x147, x148, x149, x150, x151, x152, x153, x154, x155, y156, y157, y158, y159, y160, y161, y162, y163, y164, y165, y166, y167, y168, y169, y170, y171, y172, y173, y174, y175, y176, y177, y178, y179], []⟩ : Act).tmps) = true then Oper.wp P o ⟨#[y0, y1, y2, y3, y4, y5, y6, y7, y8, y9, y10, y11, y12, y13, y14, y15, y16, y17, y18, y19, y20, y21, y22, y23, y24, y25, y26, y27, y28, y29, y30, y31, y32, y33, y34, y35, y36, y37, y38, y39, y40, y41, y42, y43, y44, y45, y46, y47, y48, y49, y50, y51, y52, y53, y54, y55, y56, y57, y58, y59, y60, y61, y62, y63, y64, y65, y66, y67, y68, y69, y70, y71, y72, y73, y74, y75, y76, y77, y78, y79, y80, y81, y82, y83, y84, y85, y86, y87, y88, y89, y90, y91, y92, y93, y94, y95, y96, y97, y98, y99, y100, y101, y102, y103, y104, y105, y106, y107, y108, y109, y110, y111, y112, y113, y114, y115, y116, y117, y118, y119, y120, y121, y122, y123, y124, y125, y126, y127, y128, y129, y130, y131, y132, y133, y134, y135, x136, x137, x138, x139, x140, x141, x142, x143, x144, x145, x146, x147, x148, x149, x150, x151, x152, x153, x154, x155, y156, y157, y158, y159, y160, y161, y162, y163, y164, y165, y166, y167, y168, y169, y170, y171, y172, y173, y174, y175, y176, y177, y178, y179], []⟩ W K Q else K ((⟨#[y0, y1, y2, y3, y4, y5, y6, y7, y8, y9, y10, y11, y12, y13, y14, y15, y16, y17, y18, y19, y20, y21, y22, y23, y24, y25, y26, y27, y28, y29, y30, y31, y32, y33, y34, y35, y36, y37, y38, y39, y40, y41, y42, y43, y44, y45, y46, y47, y48, y49, y50, y51, y52, y53, y54, y55, y56, y57, y58, y59, y60, y61, y62, y63, y64, y65, y66, y67, y68, y69, y70, y71, y72, y73, y74, y75, y76, y77, y78, y79, y80, y81, y82, y83, y84, y85, y86, y87, y88, y89, y90, y91, y92, y93, y94, y95, y96, y97, y98, y99, y100, y101, y102, y103, y104, y105, y106, y107, y108, y109, y110, y111, y112, y113, y114, y115, y116, y117, y118, y119, y120, y121, y122, y123, y124, y125, y126, y127, y128, y129, y130, y131, y132, y133, y134, y135, x136, x137, x138, x139, x140, x141, x142, x143, x144, x145, x146, x147, x148, x149, x150, x151, x152, x153, x154, x155, y156, y157, y158, y159, y160, y161, y162, y163, y164, y165, y166, y167, y168, y169, y170, y171, y172, y173, y174, y175, y176, y177, y178, y179], []⟩ : Act).put o.dst undef) W) : StepI P ops (IS26 W1 key nonce gk ck gn cn X ko kc no nc SK SN y0 y1 y2 y3 y4 y5 y6 y7 y8 y9 y10 y11 y12 y13 y14 y15 y16 y17 y18 y19 y20 y21 y22 y23 y24 y25 y26 y27 y28 y29 y30 y31 y32 y33 y34 y35 y36 y37 y38 y39 y40 y41 y42 y43 y44 y45 y46 y47 y48 y49 y50 y51 y52 y53 y54 y55 y56 y57 y58 y59 y60 y61 y62 y63 y64 y65 y66 y67 y68 y69 y70 y71 y72 y73 y74 y75 y76 y77 y78 y79 y80 y81 y82 y83 y84 y85 y86 y87 y88 y89 y90 y91 y92 y93 y94 y95 y96 y97 y98 y99 y100 y101 y102 y103 y104 y105 y106 y107 y108 y109 y110 y111 y112 y113 y114 y115 y116 y117 y118 y119 y120 y121 y122 y123 y124 y125 y126 y127 y128 y129 y130 y131 y132 y133 y134 y135 y156 y157 y158 y159 y160 y161 y162 y163 y164 y165 y166 y167 y168 y169 y170 y171 y172 y173 y174 y175 y176 y177 y178 y179) Q i o := by
  rintro L a W ⟨x136, x137, x138, x139, x140, x141, x142, x143, x144, x145, x146, x147, x148, x149, x150, x151, x152, x153, x154, x155, rfl, h⟩
  exact hq _ _ _ _ _ _ _ _ _ _ _ _ _ _ _ _ _ _ _ _ _ _ h
theorem S26.ends {W1 : World} {key nonce : List By} {gk ck gn cn X : Nat} {ko : Option Addr} {kc : Nat} {no : Option Addr} {nc : Nat} {SK SN : ByteArray} {y0 y1 y2 y3 y4 y5 y6 y7 y8 y9 y10 y11 y12 y13 y14 y15 y16 y17 y18 y19 y20 y21 y22 y23 y24 y25 y26 y27 y28 y29 y30 y31 y32 y33 y34 y35 y36 y37 y38 y39 y40 y41 y42 y43 y44 y45 y46 y47 y48 y49 y50 y51 y52 y53 y54 y55 y56 y57 y58 y59 y60 y61 y62 y63 y64 y65 y66 y67 y68 y69 y70 y71 y72 y73 y74 y75 y76 y77 y78 y79 y80 y81 y82 y83 y84 y85 y86 y87 y88 y89 y90 y91 y92 y93 y94 y95 y96 y97 y98 y99 y100 y101 y102 y103 y104 y105 y106 y107 y108 y109 y110 y111 y112 y113 y114 y115 y116 y117 y118 y119 y120 y121 y122 y123 y124 y125 y126 y127 y128 y129 y130 y131 y132 y133 y134 y135 y156 y157 y158 y159 y160 y161 y162 y163 y164 y165 y166 y167 y168 y169 y170 y171 y172 y173 y174 y175 y176 y177 y178 y179 : Value} {mm_ : Nat} {Q : Exit → Act → World → Prop} (hq : ∀ x136 x137 x138 x139 x140 x141 x142 x143 x144 x145 x146 x147 x148 x149 x150 x151 x152 x153 x154 x155 (L : Nat → Bool) (W : World), (∀ j, j < mm_ → L j = true) → S26 W1 key nonce gk ck gn cn X ko kc no nc SK SN L x136 x137 x138 x139 x140 x141 x142 x143 x144 x145 x146 x147 x148 x149 x150 x151 x152 x153 x154 x155 W → Q .normal ⟨#[y0, y1, y2, y3, y4, y5, y6, y7, y8, y9, y10, y11, y12, y13, y14, y15, y16, y17, y18, y19, y20, y21, y22, y23, y24, y25, y26, y27, y28, y29, y30, y31, y32, y33, y34, y35, y36, y37, y38, y39, y40, y41, y42, y43, y44, y45, y46, y47, y48, y49, y50, y51, y52, y53, y54, y55, y56, y57, y58, y59, y60, y61, y62, y63, y64, y65, y66, y67, y68, y69, y70, y71, y72, y73, y74, y75, y76, y77, y78, y79, y80, y81, y82, y83, y84, y85, y86, y87, y88, y89, y90, y91, y92, y93, y94, y95, y96, y97, y98, y99, y100, y101, y102, y103, y104, y105, y106, y107, y108, y109, y110, y111, y112, y113, y114, y115, y116, y117, y118, y119, y120, y121, y122, y123, y124, y125, y126, y127, y128, y129, y130, y131, y132, y133, y134, y135, x136, x137, x138, x139, x140, x141, x142, x143, x144, x145, x146, x147, x148, x149, x150, x151, x152, x153, x154, x155, y156, y157, y158, y159, y160, y161, y162, y163, y164, y165, y166, y167, y168, y169, y170, y171, y172, y173, y174, y175, y176, y177, y178, y179], []⟩ W) : ∀ L a' w', (∀ j, j < mm_ → L j = true) → IS26 W1 key nonce gk ck gn cn X ko kc no nc SK SN y0 y1 y2 y3 y4 y5 y6 y7 y8 y9 y10 y11 y12 y13 y14 y15 y16 y17 y18 y19 y20 y21 y22 y23 y24 y25 y26 y27 y28 y29 y30 y31 y32 y33 y34 y35 y36 y37 y38 y39 y40 y41 y42 y43 y44 y45 y46 y47 y48 y49 y50 y51 y52 y53 y54 y55 y56 y57 y58 y59 y60 y61 y62 y63 y64 y65 y66 y67 y68 y69 y70 y71 y72 y73 y74 y75 y76 y77 y78 y79 y80 y81 y82 y83 y84 y85 y86 y87 y88 y89 y90 y91 y92 y93 y94 y95 y96 y97 y98 y99 y100 y101 y102 y103 y104 y105 y106 y107 y108 y109 y110 y111 y112 y113 y114 y115 y116 y117 y118 y119 y120 y121 y122 y123 y124 y125 y126 y127 y128 y129 y130 y131 y132 y133 y134 y135 y156 y157 y158 y159 y160 y161 y162 y163 y164 y165 y166 y167 y168 y169 y170 y171 y172 y173 y174 y175 y176 y177 y178 y179 L a' w' → Q .normal a' w' := by
  rintro L a W hall ⟨x136, x137, x138, x139, x140, x141, x142, x143, x144, x145, x146, x147, x148, x149, x150, x151, x152, x153, x154, x155, rfl, h⟩
  exact hq _ _ _ _ _ _ _ _ _ _ _ _ _ _ _ _ _ _ _ _ _ _ hall h
structure S25 (W1 : World) (Lg : (Nat → Prop) → World → Addr → List EvV → Prop) (F : Nat → Prop) (w : World) (lp : Addr) (xs : List EvV) (R : List (Nat × Obj)) (QC : List Value) (g X : Nat) (ko : Option Addr) (kn kc : Nat) (no : Option Addr) (nb nc gk ck gn cn : Nat) (L : Nat → Bool) (x121 x122 x123 x124 x125 x126 x127 x128 x129 x130 x131 x132 x133 x134 x135 x12 : Value) (W : World) : Prop where
  x : Q5 Lg F w lp xs R QC (L 15) (L 16) x12 W
  p0 : L 0 = true → x121 = .pointer (some ⟨g, 0, none⟩)
  p1 : L 1 = true → x122 = .pointer (some ⟨g, 0, none⟩)
  p2 : L 2 = true → x123 = .pointer (some ⟨g, 0, none⟩)
  p3 : L 3 = true → x124 = .pointer (some lp)
  p4 : L 4 = true → x125 = .slice (some ⟨gk, 0, none⟩) (kn + 1) ck
  p5 : L 5 = true → x126 = .pointer (some ⟨X, 35, none⟩)
  p6 : L 6 = true → x127 = .slice ko kn kc
  p7 : L 7 = true → x128 = .int .i64 (kn : Int)
  p8 : L 8 = true → x129 = .slice (some ⟨gk, 0, none⟩) kn ck
  p9 : L 9 = true → x130 = .slice (some ⟨gn, 0, none⟩) (nb + 1) cn
  p10 : L 10 = true → x131 = .pointer (some ⟨X, 36, none⟩)
  p11 : L 11 = true → x132 = .slice no nb nc
  p12 : L 12 = true → x133 = .int .i64 (nb : Int)
  p13 : L 13 = true → x134 = .slice (some ⟨gn, 0, none⟩) nb cn
  p14 : L 14 = true → x135 = .agg QC.toArray
section
variable {W1 : World} {Lg : (Nat → Prop) → World → Addr → List EvV → Prop} {F : Nat → Prop} {w : World} {lp : Addr} {xs : List EvV} {R : List (Nat × Obj)} {QC : List Value} {g X : Nat} {ko : Option Addr} {kn kc : Nat} {no : Option Addr} {nb nc gk ck gn cn : Nat} {L : Nat → Bool} {x121 x122 x123 x124 x125 x126 x127 x128 x129 x130 x131 x132 x133 x134 x135 x12 : Value} {W W2 : World}
theorem S25.s0 (h : S25 W1 Lg F w lp xs R QC g X ko kn kc no nb nc gk ck gn cn L x121 x122 x123 x124 x125 x126 x127 x128 x129 x130 x131 x132 x133 x134 x135 x12 W) : S25 W1 Lg F w lp xs R QC g X ko kn kc no nb nc gk ck gn cn (upd L 0) (.pointer (some ⟨g, 0, none⟩)) x122 x123 x124 x125 x126 x127 x128 x129 x130 x131 x132 x133 x134 x135 x12 W :=
  ⟨h.x, fun _ => rfl, h.p1, h.p2, h.p3, h.p4, h.p5, h.p6, h.p7, h.p8, h.p9, h.p10, h.p11, h.p12, h.p13, h.p14⟩
theorem S25.s1 (h : S25 W1 Lg F w lp xs R QC g X ko kn kc no nb nc gk ck gn cn L x121 x122 x123 x124 x125 x126 x127 x128 x129 x130 x131 x132 x133 x134 x135 x12 W) : S25 W1 Lg F w lp xs R QC g X ko kn kc no nb nc gk ck gn cn (upd L 1) x121 (.pointer (some ⟨g, 0, none⟩)) x123 x124 x125 x126 x127 x128 x129 x130 x131 x132 x133 x134 x135 x12 W :=
  ⟨h.x, h.p0, fun _ => rfl, h.p2, h.p3, h.p4, h.p5, h.p6, h.p7, h.p8, h.p9, h.p10, h.p11, h.p12, h.p13, h.p14⟩
theorem S25.s2 (h : S25 W1 Lg F w lp xs R QC g X ko kn kc no nb nc gk ck gn cn L x121 x122 x123 x124 x125 x126 x127 x128 x129 x130 x131 x132 x133 x134 x135 x12 W) : S25 W1 Lg F w lp xs R QC g X ko kn kc no nb nc gk ck gn cn (upd L 2) x121 x122 (.pointer (some ⟨g, 0, none⟩)) x124 x125 x126 x127 x128 x129 x130 x131 x132 x133 x134 x135 x12 W :=
  ⟨h.x, h.p0, h.p1, fun _ => rfl, h.p3, h.p4, h.p5, h.p6, h.p7, h.p8, h.p9, h.p10, h.p11, h.p12, h.p13, h.p14⟩
theorem S25.s3 (h : S25 W1 Lg F w lp xs R QC g X ko kn kc no nb nc gk ck gn cn L x121 x122 x123 x124 x125 x126 x127 x128 x129 x130 x131 x132 x133 x134 x135 x12 W) : S25 W1 Lg F w lp xs R QC g X ko kn kc no nb nc gk ck gn cn (upd L 3) x121 x122 x123 (.pointer (some lp)) x125 x126 x127 x128 x129 x130 x131 x132 x133 x134 x135 x12 W :=
  ⟨h.x, h.p0, h.p1, h.p2, fun _ => rfl, h.p4, h.p5, h.p6, h.p7, h.p8, h.p9, h.p10, h.p11, h.p12, h.p13, h.p14⟩
theorem S25.s4 (h : S25 W1 Lg F w lp xs R QC g X ko kn kc no nb nc gk ck gn cn L x121 x122 x123 x124 x125 x126 x127 x128 x129 x130 x131 x132 x133 x134 x135 x12 W) : S25 W1 Lg F w lp xs R QC g X ko kn kc no nb nc gk ck gn cn (upd L 4) x121 x122 x123 x124 (.slice (some ⟨gk, 0, none⟩) (kn + 1) ck) x126 x127 x128 x129 x130 x131 x132 x133 x134 x135 x12 W :=
  ⟨h.x, h.p0, h.p1, h.p2, h.p3, fun _ => rfl, h.p5, h.p6, h.p7, h.p8, h.p9, h.p10, h.p11, h.p12, h.p13, h.p14⟩
theorem S25.s5 (h : S25 W1 Lg F w lp xs R QC g X ko kn kc no nb nc gk ck gn cn L x121 x122 x123 x124 x125 x126 x127 x128 x129 x130 x131 x132 x133 x134 x135 x12 W) : S25 W1 Lg F w lp xs R QC g X ko kn kc no nb nc gk ck gn cn (upd L 5) x121 x122 x123 x124 x125 (.pointer (some ⟨X, 35, none⟩)) x127 x128 x129 x130 x131 x132 x133 x134 x135 x12 W :=
  ⟨h.x, h.p0, h.p1, h.p2, h.p3, h.p4, fun _ => rfl, h.p6, h.p7, h.p8, h.p9, h.p10, h.p11, h.p12, h.p13, h.p14⟩
theorem S25.s6 (h : S25 W1 Lg F w lp xs R QC g X ko kn kc no nb nc gk ck gn cn L x121 x122 x123 x124 x125 x126 x127 x128 x129 x130 x131 x132 x133 x134 x135 x12 W) : S25 W1 Lg F w lp xs R QC g X ko kn kc no nb nc gk ck gn cn (upd L 6) x121 x122 x123 x124 x125 x126 (.slice ko kn kc) x128 x129 x130 x131 x132 x133 x134 x135 x12 W :=
  ⟨h.x, h.p0, h.p1, h.p2, h.p3, h.p4, h.p5, fun _ => rfl, h.p7, h.p8, h.p9, h.p10, h.p11, h.p12, h.p13, h.p14⟩
theorem S25.s7 (h : S25 W1 Lg F w lp xs R QC g X ko kn kc no nb nc gk ck gn cn L x121 x122 x123 x124 x125 x126 x127 x128 x129 x130 x131 x132 x133 x134 x135 x12 W) : S25 W1 Lg F w lp xs R QC g X ko kn kc no nb nc gk ck gn cn (upd L 7) x121 x122 x123 x124 x125 x126 x127 (.int .i64 (kn : Int)) x129 x130 x131 x132 x133 x134 x135 x12 W :=
  ⟨h.x, h.p0, h.p1, h.p2, h.p3, h.p4, h.p5, h.p6, fun _ => rfl, h.p8, h.p9, h.p10, h.p11, h.p12, h.p13, h.p14⟩
theorem S25.s8 (h : S25 W1 Lg F w lp xs R QC g X ko kn kc no nb nc gk ck gn cn L x121 x122 x123 x124 x125 x126 x127 x128 x129 x130 x131 x132 x133 x134 x135 x12 W) : S25 W1 Lg F w lp xs R QC g X ko kn kc no nb nc gk ck gn cn (upd L 8) x121 x122 x123 x124 x125 x126 x127 x128 (.slice (some ⟨gk, 0, none⟩) kn ck) x130 x131 x132 x133 x134 x135 x12 W :=
  ⟨h.x, h.p0, h.p1, h.p2, h.p3, h.p4, h.p5, h.p6, h.p7, fun _ => rfl, h.p9, h.p10, h.p11, h.p12, h.p13, h.p14⟩
theorem S25.s9 (h : S25 W1 Lg F w lp xs R QC g X ko kn kc no nb nc gk ck gn cn L x121 x122 x123 x124 x125 x126 x127 x128 x129 x130 x131 x132 x133 x134 x135 x12 W) : S25 W1 Lg F w lp xs R QC g X ko kn kc no nb nc gk ck gn cn (upd L 9) x121 x122 x123 x124 x125 x126 x127 x128 x129 (.slice (some ⟨gn, 0, none⟩) (nb + 1) cn) x131 x132 x133 x134 x135 x12 W :=
  ⟨h.x, h.p0, h.p1, h.p2, h.p3, h.p4, h.p5, h.p6, h.p7, h.p8, fun _ => rfl, h.p10, h.p11, h.p12, h.p13, h.p14⟩
theorem S25.s10 (h : S25 W1 Lg F w lp xs R QC g X ko kn kc no nb nc gk ck gn cn L x121 x122 x123 x124 x125 x126 x127 x128 x129 x130 x131 x132 x133 x134 x135 x12 W) : S25 W1 Lg F w lp xs R QC g X ko kn kc no nb nc gk ck gn cn (upd L 10) x121 x122 x123 x124 x125 x126 x127 x128 x129 x130 (.pointer (some ⟨X, 36, none⟩)) x132 x133 x134 x135 x12 W :=
  ⟨h.x, h.p0, h.p1, h.p2, h.p3, h.p4, h.p5, h.p6, h.p7, h.p8, h.p9, fun _ => rfl, h.p11, h.p12, h.p13, h.p14⟩
theorem S25.s11 (h : S25 W1 Lg F w lp xs R QC g X ko kn kc no nb nc gk ck gn cn L x121 x122 x123 x124 x125 x126 x127 x128 x129 x130 x131 x132 x133 x134 x135 x12 W) : S25 W1 Lg F w lp xs R QC g X ko kn kc no nb nc gk ck gn cn (upd L 11) x121 x122 x123 x124 x125 x126 x127 x128 x129 x130 x131 (.slice no nb nc) x133 x134 x135 x12 W :=
  ⟨h.x, h.p0, h.p1, h.p2, h.p3, h.p4, h.p5, h.p6, h.p7, h.p8, h.p9, h.p10, fun _ => rfl, h.p12, h.p13, h.p14⟩
theorem S25.s12 (h : S25 W1 Lg F w lp xs R QC g X ko kn kc no nb nc gk ck gn cn L x121 x122 x123 x124 x125 x126 x127 x128 x129 x130 x131 x132 x133 x134 x135 x12 W) : S25 W1 Lg F w lp xs R QC g X ko kn kc no nb nc gk ck gn cn (upd L 12) x121 x122 x123 x124 x125 x126 x127 x128 x129 x130 x131 x132 (.int .i64 (nb : Int)) x134 x135 x12 W :=
  ⟨h.x, h.p0, h.p1, h.p2, h.p3, h.p4, h.p5, h.p6, h.p7, h.p8, h.p9, h.p10, h.p11, fun _ => rfl, h.p13, h.p14⟩
theorem S25.s13 (h : S25 W1 Lg F w lp xs R QC g X ko kn kc no nb nc gk ck gn cn L x121 x122 x123 x124 x125 x126 x127 x128 x129 x130 x131 x132 x133 x134 x135 x12 W) : S25 W1 Lg F w lp xs R QC g X ko kn kc no nb nc gk ck gn cn (upd L 13) x121 x122 x123 x124 x125 x126 x127 x128 x129 x130 x131 x132 x133 (.slice (some ⟨gn, 0, none⟩) nb cn) x135 x12 W :=
  ⟨h.x, h.p0, h.p1, h.p2, h.p3, h.p4, h.p5, h.p6, h.p7, h.p8, h.p9, h.p10, h.p11, h.p12, fun _ => rfl, h.p14⟩
theorem S25.s14 (h : S25 W1 Lg F w lp xs R QC g X ko kn kc no nb nc gk ck gn cn L x121 x122 x123 x124 x125 x126 x127 x128 x129 x130 x131 x132 x133 x134 x135 x12 W) (hX : Q5 Lg F w lp xs R QC ((upd L 14) 15) ((upd L 14) 16) x12 W2) : S25 W1 Lg F w lp xs R QC g X ko kn kc no nb nc gk ck gn cn (upd L 14) x121 x122 x123 x124 x125 x126 x127 x128 x129 x130 x131 x132 x133 x134 (.agg QC.toArray) x12 W2 :=
  ⟨hX, h.p0, h.p1, h.p2, h.p3, h.p4, h.p5, h.p6, h.p7, h.p8, h.p9, h.p10, h.p11, h.p12, h.p13, fun _ => rfl⟩
theorem S25.s15 (h : S25 W1 Lg F w lp xs R QC g X ko kn kc no nb nc gk ck gn cn L x121 x122 x123 x124 x125 x126 x127 x128 x129 x130 x131 x132 x133 x134 x135 x12 W) {v : Value} (hX : Q5 Lg F w lp xs R QC ((upd L 15) 15) ((upd L 15) 16) v W2) : S25 W1 Lg F w lp xs R QC g X ko kn kc no nb nc gk ck gn cn (upd L 15) x121 x122 x123 x124 x125 x126 x127 x128 x129 x130 x131 x132 x133 x134 x135 v W2 :=
  ⟨hX, h.p0, h.p1, h.p2, h.p3, h.p4, h.p5, h.p6, h.p7, h.p8, h.p9, h.p10, h.p11, h.p12, h.p13, h.p14⟩
theorem S25.s16 (h : S25 W1 Lg F w lp xs R QC g X ko kn kc no nb nc gk ck gn cn L x121 x122 x123 x124 x125 x126 x127 x128 x129 x130 x131 x132 x133 x134 x135 x12 W) (hX : Q5 Lg F w lp xs R QC ((upd L 16) 15) ((upd L 16) 16) x12 W2) : S25 W1 Lg F w lp xs R QC g X ko kn kc no nb nc gk ck gn cn (upd L 16) x121 x122 x123 x124 x125 x126 x127 x128 x129 x130 x131 x132 x133 x134 x135 x12 W2 :=
  ⟨hX, h.p0, h.p1, h.p2, h.p3, h.p4, h.p5, h.p6, h.p7, h.p8, h.p9, h.p10, h.p11, h.p12, h.p13, h.p14⟩
end
@[reducible] def IS25 (W1 : World) (Lg : (Nat → Prop) → World → Addr → List EvV → Prop) (F : Nat → Prop) (w : World) (lp : Addr) (xs : List EvV) (R : List (Nat × Obj)) (QC : List Value) (g X : Nat) (ko : Option Addr) (kn kc : Nat) (no : Option Addr) (nb nc gk ck gn cn : Nat) (y0 y1 y2 y3 y4 y5 y6 y7 y8 y9 y10 y11 y13 y14 y15 y16 y17 y18 y19 y20 y21 y22 y23 y24 y25 y26 y27 y28 y29 y30 y31 y32 y33 y34 y35 y36 y37 y38 y39 y40 y41 y42 y43 y44 y45 y46 y47 y48 y49 y50 y51 y52 y53 y54 y55 y56 y57 y58 y59 y60 y61 y62 y63 y64 y65 y66 y67 y68 y69 y70 y71 y72 y73 y74 y75 y76 y77 y78 y79 y80 y81 y82 y83 y84 y85 y86 y87 y88 y89 y90 y91 y92 y93 y94 y95 y96 y97 y98 y99 y100 y101 y102 y103 y104 y105 y106 y107 y108 y109 y110 y111 y112 y113 y114 y115 y116 y117 y118 y119 y120 y136 y137 y138 y139 y140 y141 y142 y143 y144 y145 y146 y147 y148 y149 y150 y151 y152 y153 y154 y155 y156 y157 y158 y159 y160 y161 y162 y163 y164 y165 y166 y167 y168 y169 y170 y171 y172 y173 y174 y175 y176 y177 y178 y179 : Value) : (Nat → Bool) → Act → World → Prop := fun L a W => ∃ x121 x122 x123 x124 x125 x126 x127 x128 x129 x130 x131 x132 x133 x134 x135 x12, a = ⟨#[y0, y1, y2, y3, y4, y5, y6, y7, y8, y9, y10, y11, x12, y13, y14, y15, y16, y17, y18, y19, y20, y21, y22, y23, y24, y25, y26, y27, y28, y29, y30, y31, y32, y33, y34, y35, y36, y37, y38, y39, y40, y41, y42, y43, y44, y45, y46, y47, y48, y49, y50, y51, y52, y53, y54, y55, y56, y57, y58, y59, y60, y61, y62, y63, y64, y65, y66, y67, y68, y69, y70, y71, y72, y73, y74, y75, y76, y77, y78, y79, y80, y81, y82, y83, y84, y85, y86, y87, y88, y89, y90, y91, y92, y93, y94, y95, y96, y97, y98, y99, y100, y101, y102, y103, y104, y105, y106, y107, y108, y109, y110, y111, y112, y113, y114, y115, y116, y117, y118, y119, y120, x121, x122, x123, x124, x125, x126, x127, x128, x129, x130, x131, x132, x133, x134, x135, y136, y137, y138, y139, y140, y141, y142, y143, y144, y145, y146, y147, y148, y149, y150, y151, y152, y153, y154, y155, y156, y157, y158, y159, y160, y161, y162, y163, y164, y165, y166, y167, y168, y169, y170, y171, y172, y173, y174, y175, y176, y177, y178, y179], []⟩ ∧ S25 W1 Lg F w lp xs R QC g X ko kn kc no nb nc gk ck gn cn L x121 x122 x123 x124 x125 x126 x127 x128 x129 x130 x131 x132 x133 x134 x135 x12 W
theorem S25.step {W1 : World} {Lg : (Nat → Prop) → World → Addr → List EvV → Prop} {F : Nat → Prop} {w : World} {lp : Addr} {xs : List EvV} {R : List (Nat × Obj)} {QC : List Value} {g X : Nat} {ko : Option Addr} {kn kc : Nat} {no : Option Addr} {nb nc gk ck gn cn : Nat} {y0 y1 y2 y3 y4 y5 y6 y7 y8 y9 y10 y11 y13 y14 y15 y16 y17 y18 y19 y20 y21 y22 y23 y24 y25 y26 y27 y28 y29 y30 y31 y32 y33 y34 y35 y36 y37 y38 y39 y40 y41 y42 y43 y44 y45 y46 y47 y48 y49 y50 y51 y52 y53 y54 y55 y56 y57 y58 y59 y60 y61 y62 y63 y64 y65 y66 y67 y68 y69 y70 y71 y72 y73 y74 y75 y76 y77 y78 y79 y80 y81 y82 y83 y84 y85 y86 y87 y88 y89 y90 y91 y92 y93 y94 y95 y96 y97 y98 y99 y100 y101 y102 y103 y104 y105 y106 y107 y108 y109 y110 y111 y112 y113 y114 y115 y116 y117 y118 y119 y120 y136 y137 y138 y139 y140 y141 y142 y143 y144 y145 y146 y147 y148 y149 y150 y151 y152 y153 y154 y155 y156 y157 y158 y159 y160 y161 y162 y163 y164 y165 y166 y167 y168 y169 y170 y171 y172 y173 y174 y175 y176 y177 y178 y179 : Value} {P : Program} {ops : Array Oper} {Q : Exit → Act → World → Prop} {i : Nat} {o : Oper} (hq : ∀ x121 x122 x123 x124 x125 x126 x127 x128 x129 x130 x131 x132 x133 x134 x135 x12 (L : Nat → Bool) (W : World), S25 W1 Lg F w lp xs R QC g X ko kn kc no nb nc gk ck gn cn L x121 x122 x123 x124 x125 x126 x127 x128 x129 x130 x131 x132 x133 x134 x135 x12 W → L i = false → (∀ j ∈ onesOf o, L j = true) → ∀ K : Act → World → Prop, Shut (∀ a' w', IS25 W1 Lg F w lp xs R QC g X ko kn kc no nb nc gk ck gn cn y0 y1 y2 y3 y4 y5 y6 y7 y8 y9 y10 y11 y13 y14 y15 y16 y17 y18 y19 y20 y21 y22 y23 y24 y25 y26 y27 y28 y29 y30 y31 y32 y33 y34 y35 y36 y37 y38 y39 y40 y41 y42 y43 y44 y45 y46 y47 y48 y49 y50 y51 y52 y53 y54 y55 y56 y57 y58 y59 y60 y61 y62 y63 y64 y65 y66 y67 y68 y69 y70 y71 y72 y73 y74 y75 y76 y77 y78 y79 y80 y81 y82 y83 y84 y85 y86 y87 y88 y89 y90 y91 y92 y93 y94 y95 y96 y97 y98 y99 y100 y101 y102 y103 y104 y105 y106 y107 y108 y109 y110 y111 y112 y113 y114 y115 y116 y117 y118 y119 y120 y136 y137 y138 y139 y140 y141 y142 y143 y144 y145 y146 y147 y148 y149 y150 y151 y152 y153 y154 y155 y156 y157 y158 y159 y160 y161 y162 y163 y164 y165 y166 y167 y168 y169 y170 y171 y172 y173 y174 y175 y176 y177 y178 y179 (upd L i) a' w' → K a' w') → if Region.wanted o (yielded ops (⟨#[y0, y1, y2, y3, y4, y5, y6, y7, y8, y9, y10, y11, x12, y13, y14, y15, y16, y17, y18, y19, y20, y21, y22, y23, y24, y25, y26, y27, y28, y29, y30, y31, y32, y33, y34, y35, y36, y37, y38, y39, y40, y41, y42, y43, y44, y45, y46, y47, y48, y49, y50, y51, y52, y53, y54, y55, y56, y57, y58, y59, y60, y61, y62, y63, y64, y65, y66, y67, y68, y69, y70, y71, y72, y73, y74, y75, y76, y77, y78, y79, y80, y81, y82, y83, y84, y85, y86, y87, y88, y89, y90, y91, y92, y93, y94, y95, y96, y97, y98, y99, y100, y101, y102, y103, y104, y105, y106, y107, y108, y109, y110, y111, y112, y113, y114, y115, y116, y117, y118, y119, y120, x121, x122, x123, x124, x125, x126, x127, x128, x129, x130, x131, x132, x133, x134, x135, y136, y137, y138, y139, y140, y141, y142, y143, y144, y145, y146, y147, y148, y149, y150, y151, y152, y153, y154, y155, y156, y157, y158, y159, y160, y161, y162, y163, y164, y165, y166, y167, y168, y169, y170, y171, y172, y173, y174, y175, y176, y177, y178, y179], []⟩ : Act).tmps) = true then Oper.wp P o ⟨#[y0, y1, y2, y3, y4, y5, y6, y7, y8, y9, y10, y11, x12, y13, y14, y15, y16, y17, y18, y19, y20, y21, y22, y23, y24, y25, y26, y27, y28, y29, y30, y31, y32, y33, y34, y35, y36, y37, y38, y39, y40, y41, y42, y43, y44, y45, y46, y47, y48, y49, y50, y51, y52, y53, y54, y55, y56, y57, y58, y59, y60, y61, y62, y63, y64, y65, y66, y67, y68, y69, y70, y71, y72, y73, y74, y75, y76, y77, y78, y79, y80, y81, y82, y83, y84, y85, y86, y87, y88, y89, y90, y91, y92, y93, y94, y95, y96, y97, y98, y99, y100, y101, y102, y103, y104, y105, y106, y107, y108, y109, y110, y111, y112, y113, y114, y115, y116, y117, y118, y119, y120, x121, x122, x123, x124, x125, x126, x127, x128, x129, x130, x131, x132, x133, x134, x135, y136, y137, y138, y139, y140, y141, y142, y143, y144, y145, y146, y147, y148, y149, y150, y151, y152, y153, y154, y155, y156, y157, y158, y159, y160, y161, y162, y163, y164, y165, y166, y167, y168, y169, y170, y171, y172, y173, y174, y175, y176, y177, y178, y179], []⟩ W K Q else K ((⟨#[y0, y1, y2, y3, y4, y5, y6, y7, y8, y9, y10, y11, x12, y13, y14, y15, y16, y17, y18, y19, y20, y21, y22, y23, y24, y25, y26, y27, y28, y29, y30, y31, y32, y33, y34, y35, y36, y37, y38, y39, y40, y41, y42, y43, y44, y45, y46, y47, y48, y49, y50, y51, y52, y53, y54, y55, y56, y57, y58, y59, y60, y61, y62, y63, y64, y65, y66, y67, y68, y69, y70, y71, y72, y73, y74, y75, y76, y77, y78, y79, y80, y81, y82, y83, y84, y85, y86, y87, y88, y89, y90, y91, y92, y93, y94, y95, y96, y97, y98, y99, y100, y101, y102, y103, y104, y105, y106, y107, y108, y109, y110, y111, y112, y113, y114, y115, y116, y117, y118, y119, y120, x121, x122, x123, x124, x125, x126, x127, x128, x129, x130, x131, x132, x133, x134, x135, y136, y137, y138, y139, y140, y141, y142, y143, y144, y145, y146, y147, y148, y149, y150, y151, y152, y153, y154, y155, y156, y157, y158, y159, y160, y161, y162, y163, y164, y165, y166, y167, y168, y169, y170, y171, y172, y173, y174, y175, y176, y177, y178, y179], []⟩ : Act).put o.dst undef) W) : StepI P ops (IS25 W1 Lg F w lp xs R QC g X ko kn kc no nb nc gk ck gn cn y0 y1 y2 y3 y4 y5 y6 y7 y8 y9 y10 y11 y13 y14 y15 y16 y17 y18 y19 y20 y21 y22 y23 y24 y25 y26 y27 y28 y29 y30 y31 y32 y33 y34 y35 y36 y37 y38 y39 y40 y41 y42 y43 y44 y45 y46 y47 y48 y49 y50 y51 y52 y53 y54 y55 y56 y57 y58 y59 y60 y61 y62 y63 y64 y65 y66 y67 y68 y69 y70 y71 y72 y73 y74 y75 y76 y77 y78 y79 y80 y81 y82 y83 y84 y85 y86 y87 y88 y89 y90 y91 y92 y93 y94 y95 y96 y97 y98 y99 y100 y101 y102 y103 y104 y105 y106 y107 y108 y109 y110 y111 y112 y113 y114 y115 y116 y117 y118 y119 y120 y136 y137 y138 y139 y140 y141 y142 y143 y144 y145 y146 y147 y148 y149 y150 y151 y152 y153 y154 y155 y156 y157 y158 y159 y160 y161 y162 y163 y164 y165 y166 y167 y168 y169 y170 y171 y172 y173 y174 y175 y176 y177 y178 y179) Q i o := by
  rintro L a W ⟨x121, x122, x123, x124, x125, x126, x127, x128, x129, x130, x131, x132, x133, x134, x135, x12, rfl, h⟩
  exact hq _ _ _ _ _ _ _ _ _ _ _ _ _ _ _ _ _ _ h
theorem S25.ends {W1 : World} {Lg : (Nat → Prop) → World → Addr → List EvV → Prop} {F : Nat → Prop} {w : World} {lp : Addr} {xs : List EvV} {R : List (Nat × Obj)} {QC : List Value} {g X : Nat} {ko : Option Addr} {kn kc : Nat} {no : Option Addr} {nb nc gk ck gn cn : Nat} {y0 y1 y2 y3 y4 y5 y6 y7 y8 y9 y10 y11 y13 y14 y15 y16 y17 y18 y19 y20 y21 y22 y23 y24 y25 y26 y27 y28 y29 y30 y31 y32 y33 y34 y35 y36 y37 y38 y39 y40 y41 y42 y43 y44 y45 y46 y47 y48 y49 y50 y51 y52 y53 y54 y55 y56 y57 y58 y59 y60 y61 y62 y63 y64 y65 y66 y67 y68 y69 y70 y71 y72 y73 y74 y75 y76 y77 y78 y79 y80 y81 y82 y83 y84 y85 y86 y87 y88 y89 y90 y91 y92 y93 y94 y95 y96 y97 y98 y99 y100 y101 y102 y103 y104 y105 y106 y107 y108 y109 y110 y111 y112 y113 y114 y115 y116 y117 y118 y119 y120 y136 y137 y138 y139 y140 y141 y142 y143 y144 y145 y146 y147 y148 y149 y150 y151 y152 y153 y154 y155 y156 y157 y158 y159 y160 y161 y162 y163 y164 y165 y166 y167 y168 y169 y170 y171 y172 y173 y174 y175 y176 y177 y178 y179 : Value} {mm_ : Nat} {Q : Exit → Act → World → Prop} (hq : ∀ x121 x122 x123 x124 x125 x126 x127 x128 x129 x130 x131 x132 x133 x134 x135 x12 (L : Nat → Bool) (W : World), (∀ j, j < mm_ → L j = true) → S25 W1 Lg F w lp xs R QC g X ko kn kc no nb nc gk ck gn cn L x121 x122 x123 x124 x125 x126 x127 x128 x129 x130 x131 x132 x133 x134 x135 x12 W → Q .normal ⟨#[y0, y1, y2, y3, y4, y5, y6, y7, y8, y9, y10, y11, x12, y13, y14, y15, y16, y17, y18, y19, y20, y21, y22, y23, y24, y25, y26, y27, y28, y29, y30, y31, y32, y33, y34, y35, y36, y37, y38, y39, y40, y41, y42, y43, y44, y45, y46, y47, y48, y49, y50, y51, y52, y53, y54, y55, y56, y57, y58, y59, y60, y61, y62, y63, y64, y65, y66, y67, y68, y69, y70, y71, y72, y73, y74, y75, y76, y77, y78, y79, y80, y81, y82, y83, y84, y85, y86, y87, y88, y89, y90, y91, y92, y93, y94, y95, y96, y97, y98, y99, y100, y101, y102, y103, y104, y105, y106, y107, y108, y109, y110, y111, y112, y113, y114, y115, y116, y117, y118, y119, y120, x121, x122, x123, x124, x125, x126, x127, x128, x129, x130, x131, x132, x133, x134, x135, y136, y137, y138, y139, y140, y141, y142, y143, y144, y145, y146, y147, y148, y149, y150, y151, y152, y153, y154, y155, y156, y157, y158, y159, y160, y161, y162, y163, y164, y165, y166, y167, y168, y169, y170, y171, y172, y173, y174, y175, y176, y177, y178, y179], []⟩ W) : ∀ L a' w', (∀ j, j < mm_ → L j = true) → IS25 W1 Lg F w lp xs R QC g X ko kn kc no nb nc gk ck gn cn y0 y1 y2 y3 y4 y5 y6 y7 y8 y9 y10 y11 y13 y14 y15 y16 y17 y18 y19 y20 y21 y22 y23 y24 y25 y26 y27 y28 y29 y30 y31 y32 y33 y34 y35 y36 y37 y38 y39 y40 y41 y42 y43 y44 y45 y46 y47 y48 y49 y50 y51 y52 y53 y54 y55 y56 y57 y58 y59 y60 y61 y62 y63 y64 y65 y66 y67 y68 y69 y70 y71 y72 y73 y74 y75 y76 y77 y78 y79 y80 y81 y82 y83 y84 y85 y86 y87 y88 y89 y90 y91 y92 y93 y94 y95 y96 y97 y98 y99 y100 y101 y102 y103 y104 y105 y106 y107 y108 y109 y110 y111 y112 y113 y114 y115 y116 y117 y118 y119 y120 y136 y137 y138 y139 y140 y141 y142 y143 y144 y145 y146 y147 y148 y149 y150 y151 y152 y153 y154 y155 y156 y157 y158 y159 y160 y161 y162 y163 y164 y165 y166 y167 y168 y169 y170 y171 y172 y173 y174 y175 y176 y177 y178 y179 L a' w' → Q .normal a' w' := by
  rintro L a W hall ⟨x121, x122, x123, x124, x125, x126, x127, x128, x129, x130, x131, x132, x133, x134, x135, x12, rfl, h⟩
  exact hq _ _ _ _ _ _ _ _ _ _ _ _ _ _ _ _ _ _ hall h
set_option maxHeartbeats 4000000 in
set_option maxRecDepth 1000000 in
theorem sq6 {Lg : (Nat → Prop) → World → Addr → List EvV → Prop} {F : Nat → Prop} {w : World} (PW : World → Prop) (g X H : Nat) (ko : Option Addr) (kn kc : Nat) (no : Option Addr) (nb nc : Nat) (ao : Option Addr) (n c : Nat) (q : List By) (lq : q.length = 32)
    (DR : Hid (∀ W, PW W → PW W.drew)) (CB : Hid (∀ W, PW W → W.cell? ⟨g, 1, none⟩ = some (.slice ao n c))) (CO : Hid (∀ W, PW W → W.cell? ⟨X, 35, none⟩ = some (.slice ko kn kc) ∧ W.cell? ⟨X, 36, none⟩ = some (.slice no nb nc)))
    (RH : Hid (∀ W, PW W → W.rangeAt H 0 (q.map B8))) (RQ : Hid (∀ W, PW W → Calls Try.prog 26 #[.slice ko kn kc, .slice no nb nc, .slice ao n c] W fun e w' => e = .returned (.agg (q.map B8).toArray) ∧ PW w'))
    (CH : Hid (∀ W, PW W → Calls Try.prog 15 #[.slice ko kn kc, .slice no nb nc, .slice ao n c, .agg (q.map B8).toArray] W fun e w' => e = .returned (.int .i64 0) ∧ PW w')) (FIN : Hid (∀ W, PW W → StP Lg F w g (.returned (.bool true)) W)) (W1 : World) (P0 : Hid (PW W1)) (c1 c2 c4 c5 c6 c7 c8 c9 c10 c11 c13 c14 c15 c16 c17 c18 c19 c20 c21 c22 c23 c24 c25 c26 c27 c28 c29 c30 c31 c32 c33 c34 c35 c36 c37 c38 c39 c40 c41 c42 c43 c44 c45 c46 c47 c48 c49 c50 c51 c52 c53 c54 c55 c56 c57 c58 c59 c60 c61 c62 c63 c64 c65 c66 c67 c68 c69 c70 c71 c72 c73 c74 c75 c76 c77 c78 c79 c80 c81 c82 c83 c84 c85 c86 c87 c88 c89 c90 c91 c92 c93 c94 c95 c96 c97 c98 c99 c100 c101 c102 c103 c104 c105 c106 c107 c108 c109 c110 c111 c112 c113 c114 c115 c116 c117 c118 c119 c120 c121 c122 c123 c124 c125 c126 c127 c128 c129 c130 c131 c132 c133 c134 c135 c136 c137 c138 c139 c140 c141 c142 c143 c144 c145 c146 c147 c148 c149 c150 c151 c152 c153 c154 c155 c156 c157 c158 c159 c160 c161 c162 c163 c164 c165 c166 c167 c168 c169 c170 c171 c172 c173 c174 c175 c176 c177 c178 c179 : Value) :
    Code.wp Try.prog (dropS 6 (Try.f10.body.getD .skip)) (bodyPost Try.prog Try.f10 (StP Lg F w g)) ⟨#[.pointer (some ⟨g, 0, none⟩), c1, c2, .pointer (some ⟨X, 0, none⟩), c4, c5, c6, c7, c8, c9, c10, c11, .pointer (some ⟨H, 0, none⟩), c13, c14, c15, c16, c17, c18, c19, c20, c21, c22, c23, c24, c25, c26, c27, c28, c29, c30, c31, c32, c33, c34, c35, c36, c37, c38, c39, c40, c41, c42, c43, c44, c45, c46, c47, c48, c49, c50, c51, c52, c53, c54, c55, c56, c57, c58, c59, c60, c61, c62, c63, c64, c65, c66, c67, c68, c69, c70, c71, c72, c73, c74, c75, c76, c77, c78, c79, c80, c81, c82, c83, c84, c85, c86, c87, c88, c89, c90, c91, c92, c93, c94, c95, c96, c97, c98, c99, c100, c101, c102, c103, c104, c105, c106, c107, c108, c109, c110, c111, c112, c113, c114, c115, c116, c117, c118, c119, c120, c121, c122, c123, c124, c125, c126, c127, c128, c129, c130, c131, c132, c133, c134, c135, c136, c137, c138, c139, c140, c141, c142, c143, c144, c145, c146, c147, c148, c149, c150, c151, c152, c153, c154, c155, c156, c157, c158, c159, c160, c161, c162, c163, c164, c165, c166, c167, c168, c169, c170, c171, c172, c173, c174, c175, c176, c177, c178, c179], []⟩ W1 := by
  have qe := eq_any q q lq lq true (by rw [decide_eq_true rfl])
  have lQ : (q.map B8).length = 32 := by rw [List.length_map, lq]
  generalize q.map B8 = QC at *
  conv => arg 2; whnf
  go_wp2_with fail
  refine wp_region_inv (IS28 W1 PW g X H ko kn kc no nb nc ao n c QC _ _ _ _ _ _ _ _ _ _ _ _ _ _ _ _ _ _ _ _ _ _ _ _ _ _ _ _ _ _ _ _ _ _ _ _ _ _ _ _ _ _ _ _ _ _ _ _ _ _ _ _ _ _ _ _ _ _ _ _ _ _ _ _ _ _ _ _ _ _ _ _ _ _ _ _ _ _ _ _ _ _ _ _ _ _ _ _ _ _ _ _ _ _ _ _ _ _ _ _ _ _ _ _ _ _ _ _ _ _ _ _ _ _ _ _ _ _ _ _ _ _ _ _ _ _ _ _ _ _ _ _ _ _ _ _ _ _ _ _ _ _ _ _ _ _ _ _ _ _ _ _ _ _ _) (by kernel_rfl) (by kernel_rfl) ⟨_, _, _, _, _, _, _, _, _, _, _, _, _, _, _, _, _, _, _, _, _, _, _, _, _, rfl, ⟨DR.out _ P0.out, fun k => (by cases k), fun k => (by cases k), fun k => (by cases k), fun k => (by cases k), fun k => (by cases k), fun k => (by cases k), fun k => (by cases k), fun k => (by cases k), fun k => (by cases k), fun k => (by cases k), fun k => (by cases k), fun k => (by cases k), fun k => (by cases k), fun k => (by cases k), fun k => (by cases k), fun k => (by cases k), fun k => (by cases k), fun k => (by cases k), fun k => (by cases k), fun k => (by cases k), fun k => (by cases k), fun k => (by cases k), fun k => (by cases k), fun k => (by cases k), fun k => (by cases k)⟩⟩ ?_ ?_
  · refine .cons ?_ (.cons ?_ (.cons ?_ (.cons ?_ (.cons ?_ (.cons ?_ (.cons ?_ (.cons ?_ (.cons ?_ (.cons ?_ (.cons ?_ (.cons ?_ (.cons ?_ (.cons ?_ (.cons ?_ (.cons ?_ (.cons ?_ (.cons ?_ (.cons ?_ (.cons ?_ (.cons ?_ (.cons ?_ (.cons ?_ (.cons ?_ (.cons ?_ .nil))))))))))))))))))))))))
    all_goals (refine S28.step ?_; intro x156 x157 x158 x159 x160 x161 x162 x163 x164 x165 x166 x167 x168 x169 x170 x171 x172 x173 x174 x175 x176 x177 x178 x179 x4 L W hI hL hd K hK)
    · refine step_load_rng rfl 32 _ rfl H 0 QC (RH.out _ hI.x) rfl _ Try.underlying32 rfl (by rw [lQ]; kernel_rfl) ?_
      exact hK.out _ _ ⟨_, _, _, _, _, _, _, _, _, _, _, _, _, _, _, _, _, _, _, _, _, _, _, _, _, rfl, hI.s0⟩
    · rw [if_pos (by rfl)]
      go_simp
      exact hK.out _ _ ⟨_, _, _, _, _, _, _, _, _, _, _, _, _, _, _, _, _, _, _, _, _, _, _, _, _, rfl, hI.s1⟩
    · have hx1 := hI.p1 (hd 1 (by decide))
      subst hx1
      rw [if_pos (by rfl)]
      have hc := (CO.out _ hI.x).1
      go_simp
      exact hK.out _ _ ⟨_, _, _, _, _, _, _, _, _, _, _, _, _, _, _, _, _, _, _, _, _, _, _, _, _, rfl, hI.s2⟩
    · rw [if_pos (by rfl)]
      go_simp
      exact hK.out _ _ ⟨_, _, _, _, _, _, _, _, _, _, _, _, _, _, _, _, _, _, _, _, _, _, _, _, _, rfl, hI.s3⟩
    · have hx3 := hI.p3 (hd 3 (by decide))
      subst hx3
      rw [if_pos (by rfl)]
      have hc := (CO.out _ hI.x).2
      go_simp
      exact hK.out _ _ ⟨_, _, _, _, _, _, _, _, _, _, _, _, _, _, _, _, _, _, _, _, _, _, _, _, _, rfl, hI.s4⟩
    · rw [if_pos (by rfl)]
      go_simp
      exact hK.out _ _ ⟨_, _, _, _, _, _, _, _, _, _, _, _, _, _, _, _, _, _, _, _, _, _, _, _, _, rfl, hI.s5⟩
    · have hx5 := hI.p5 (hd 5 (by decide))
      subst hx5
      rw [if_pos (by rfl)]
      go_simp
      exact hK.out _ _ ⟨_, _, _, _, _, _, _, _, _, _, _, _, _, _, _, _, _, _, _, _, _, _, _, _, _, rfl, hI.s6⟩
    · have hx6 := hI.p6 (hd 6 (by decide))
      subst hx6
      rw [if_pos (by rfl)]
      go_simp
      exact hK.out _ _ ⟨_, _, _, _, _, _, _, _, _, _, _, _, _, _, _, _, _, _, _, _, _, _, _, _, _, rfl, hI.s7⟩
    · have hx7 := hI.p7 (hd 7 (by decide))
      subst hx7
      rw [if_pos (by rfl)]
      have hc := CB.out _ hI.x
      go_simp
      exact hK.out _ _ ⟨_, _, _, _, _, _, _, _, _, _, _, _, _, _, _, _, _, _, _, _, _, _, _, _, _, rfl, hI.s8⟩
    · have hx2 := hI.p2 (hd 2 (by decide))
      subst hx2
      have hx4 := hI.p4 (hd 4 (by decide))
      subst hx4
      have hx8 := hI.p8 (hd 8 (by decide))
      subst hx8
      rw [if_pos (by rfl)]
      go_simp
      refine (RQ.out _ hI.x).mono ?_
      rintro e W2 ⟨rfl, hX⟩
      go_simp
      exact hK.out _ _ ⟨_, _, _, _, _, _, _, _, _, _, _, _, _, _, _, _, _, _, _, _, _, _, _, _, _, rfl, hI.s9 hX⟩
    · have hx0 := hI.p0 (hd 0 (by decide))
      subst hx0
      have hx9 := hI.p9 (hd 9 (by decide))
      subst hx9
      rw [if_pos (by rfl)]
      go_simp
      exact hK.out _ _ ⟨_, _, _, _, _, _, _, _, _, _, _, _, _, _, _, _, _, _, _, _, _, _, _, _, _, rfl, hI.s10⟩
    · have hx10 := hI.p10 (hd 10 (by decide))
      subst hx10
      rw [if_pos (by rfl)]
      go_simp
      exact hK.out _ _ ⟨_, _, _, _, _, _, _, _, _, _, _, _, _, _, _, _, _, _, _, _, _, _, _, _, _, rfl, hI.s11⟩
    · have hx11 := hI.p11 (hd 11 (by decide))
      subst hx11
      rw [if_pos (by rfl)]
      go_simp
      exact hK.out _ _ ⟨_, _, _, _, _, _, _, _, _, _, _, _, _, _, _, _, _, _, _, _, _, _, _, _, _, rfl, hI.s12⟩
    · have hx12 := hI.p12 (hd 12 (by decide))
      subst hx12
      have hx11 := hI.p11 (hd 11 (by decide))
      subst hx11
      rw [if_pos (by rfl)]
      have hc := (CO.out _ hI.x).1
      go_simp
      exact hK.out _ _ ⟨_, _, _, _, _, _, _, _, _, _, _, _, _, _, _, _, _, _, _, _, _, _, _, _, _, rfl, hI.s13⟩
    · have hx11 := hI.p11 (hd 11 (by decide))
      subst hx11
      rw [if_pos (by rfl)]
      go_simp
      exact hK.out _ _ ⟨_, _, _, _, _, _, _, _, _, _, _, _, _, _, _, _, _, _, _, _, _, _, _, _, _, rfl, hI.s14⟩
    · have hx14 := hI.p14 (hd 14 (by decide))
      subst hx14
      have hx11 := hI.p11 (hd 11 (by decide))
      subst hx11
      rw [if_pos (by rfl)]
      have hc := (CO.out _ hI.x).2
      go_simp
      exact hK.out _ _ ⟨_, _, _, _, _, _, _, _, _, _, _, _, _, _, _, _, _, _, _, _, _, _, _, _, _, rfl, hI.s15⟩
    · have hx11 := hI.p11 (hd 11 (by decide))
      subst hx11
      rw [if_pos (by rfl)]
      go_simp
      exact hK.out _ _ ⟨_, _, _, _, _, _, _, _, _, _, _, _, _, _, _, _, _, _, _, _, _, _, _, _, _, rfl, hI.s16⟩
    · have hx16 := hI.p16 (hd 16 (by decide))
      subst hx16
      have hx11 := hI.p11 (hd 11 (by decide))
      subst hx11
      rw [if_pos (by rfl)]
      go_simp
      exact hK.out _ _ ⟨_, _, _, _, _, _, _, _, _, _, _, _, _, _, _, _, _, _, _, _, _, _, _, _, _, rfl, hI.s17⟩
    · have hx17 := hI.p17 (hd 17 (by decide))
      subst hx17
      have hx11 := hI.p11 (hd 11 (by decide))
      subst hx11
      rw [if_pos (by rfl)]
      go_simp
      exact hK.out _ _ ⟨_, _, _, _, _, _, _, _, _, _, _, _, _, _, _, _, _, _, _, _, _, _, _, _, _, rfl, hI.s18⟩
    · have hx18 := hI.p18 (hd 18 (by decide))
      subst hx18
      have hx11 := hI.p11 (hd 11 (by decide))
      subst hx11
      rw [if_pos (by rfl)]
      have hc := CB.out _ hI.x
      go_simp
      exact hK.out _ _ ⟨_, _, _, _, _, _, _, _, _, _, _, _, _, _, _, _, _, _, _, _, _, _, _, _, _, rfl, hI.s19⟩
    · have hx11 := hI.p11 (hd 11 (by decide))
      subst hx11
      refine step_load_rng rfl 32 _ rfl H 0 QC (RH.out _ hI.x) rfl _ Try.underlying32 rfl (by rw [lQ]; kernel_rfl) ?_
      exact hK.out _ _ ⟨_, _, _, _, _, _, _, _, _, _, _, _, _, _, _, _, _, _, _, _, _, _, _, _, _, rfl, hI.s20⟩
    · have hx13 := hI.p13 (hd 13 (by decide))
      subst hx13
      have hx15 := hI.p15 (hd 15 (by decide))
      subst hx15
      have hx19 := hI.p19 (hd 19 (by decide))
      subst hx19
      have hx20 := hI.p20 (hd 20 (by decide))
      subst hx20
      have hx11 := hI.p11 (hd 11 (by decide))
      subst hx11
      rw [if_pos (by rfl)]
      go_simp
      refine (CH.out _ hI.x).mono ?_
      rintro e W2 ⟨rfl, hX⟩
      go_simp
      exact hK.out _ _ ⟨_, _, _, _, _, _, _, _, _, _, _, _, _, _, _, _, _, _, _, _, _, _, _, _, _, rfl, hI.s21 hX⟩
    · have hx21 := hI.p21 (hd 21 (by decide))
      subst hx21
      have hx11 := hI.p11 (hd 11 (by decide))
      subst hx11
      rw [if_pos (by rfl)]
      go_simp
      exact hK.out _ _ ⟨_, _, _, _, _, _, _, _, _, _, _, _, _, _, _, _, _, _, _, _, _, _, _, _, _, rfl, hI.s22⟩
    · have hx11 := hI.p11 (hd 11 (by decide))
      subst hx11
      have hx22 := hI.p22 (hd 22 (by decide))
      subst hx22
      rw [if_pos (by rfl)]
      go_simp
      exact hK.out _ _ ⟨_, _, _, _, _, _, _, _, _, _, _, _, _, _, _, _, _, _, _, _, _, _, _, _, _, rfl, hI.s23⟩
    · have hx23 := hI.p23 (hd 23 (by decide))
      subst hx23
      rw [if_pos (by rfl)]
      go_simp
      exact hK.out _ _ ⟨_, _, _, _, _, _, _, _, _, _, _, _, _, _, _, _, _, _, _, _, _, _, _, _, _, rfl, hI.s24⟩
  · refine S28.ends ?_; intro x156 x157 x158 x159 x160 x161 x162 x163 x164 x165 x166 x167 x168 x169 x170 x171 x172 x173 x174 x175 x176 x177 x178 x179 x4 L W hall hI
    have hx0 := hI.p0 (hall 0 (by decide))
    subst hx0
    have hx1 := hI.p1 (hall 1 (by decide))
    subst hx1
    have hx2 := hI.p2 (hall 2 (by decide))
    subst hx2
    have hx3 := hI.p3 (hall 3 (by decide))
    subst hx3
    have hx4 := hI.p4 (hall 4 (by decide))
    subst hx4
    have hx5 := hI.p5 (hall 5 (by decide))
    subst hx5
    have hx6 := hI.p6 (hall 6 (by decide))
    subst hx6
    have hx7 := hI.p7 (hall 7 (by decide))
    subst hx7
    have hx8 := hI.p8 (hall 8 (by decide))
    subst hx8
    have hx9 := hI.p9 (hall 9 (by decide))
    subst hx9
    have hx10 := hI.p10 (hall 10 (by decide))
    subst hx10
    have hx11 := hI.p11 (hall 11 (by decide))
    subst hx11
    have hx12 := hI.p12 (hall 12 (by decide))
    subst hx12
    have hx13 := hI.p13 (hall 13 (by decide))
    subst hx13
    have hx14 := hI.p14 (hall 14 (by decide))
    subst hx14
    have hx15 := hI.p15 (hall 15 (by decide))
    subst hx15
    have hx16 := hI.p16 (hall 16 (by decide))
    subst hx16
    have hx17 := hI.p17 (hall 17 (by decide))
    subst hx17
    have hx18 := hI.p18 (hall 18 (by decide))
    subst hx18
    have hx19 := hI.p19 (hall 19 (by decide))
    subst hx19
    have hx20 := hI.p20 (hall 20 (by decide))
    subst hx20
    have hx21 := hI.p21 (hall 21 (by decide))
    subst hx21
    have hx22 := hI.p22 (hall 22 (by decide))
    subst hx22
    have hx23 := hI.p23 (hall 23 (by decide))
    subst hx23
    have hx24 := hI.p24 (hall 24 (by decide))
    subst hx24
    have hXe := hI.x
    clear hI hall
    try dsimp only
    go_wp2
    go_ret
    exact FIN.out _ hXe

set_option maxHeartbeats 4000000 in
set_option maxRecDepth 1000000 in
theorem sq5 {Lg : (Nat → Prop) → World → Addr → List EvV → Prop} {F : Nat → Prop} {w : World} (PW : World → Prop) (g X H : Nat) (ko : Option Addr) (kn kc : Nat) (no : Option Addr) (nb nc gk ck gn cn : Nat) (key nonce : List By) (hkn : key.length = kn) (hnb : nonce.length = nb) (hkb : kn ≤ 140737488351232) (hbig : nb ≤ 140737488351232)
    (HK0 : Hid ((ko = none → kc = 0) ∧ kn ≤ kc)) (HN0 : Hid ((no = none → nc = 0) ∧ nb ≤ nc)) (W1 : World) (P0 : Hid (PW W1)) (PB : Hid (∀ W, Below W1.heap.size W1 W → PW W)) (CO : Hid (∀ W, PW W → W.cell? ⟨X, 35, none⟩ = some (.slice ko kn kc) ∧ W.cell? ⟨X, 36, none⟩ = some (.slice no nb nc)))
    (IB : Hid (∀ W, PW W → IsB W ko key ∧ IsB W no nonce ∧ IsB W (some ⟨gk, 0, none⟩) (key ++ [119#8]) ∧ IsB W (some ⟨gn, 0, none⟩) (nonce ++ [120#8])))
    (NX : Hid (∀ W, PW W → ∀ c1 c2 c4 c5 c6 c7 c8 c9 c10 c11 c13 c14 c15 c16 c17 c18 c19 c20 c21 c22 c23 c24 c25 c26 c27 c28 c29 c30 c31 c32 c33 c34 c35 c36 c37 c38 c39 c40 c41 c42 c43 c44 c45 c46 c47 c48 c49 c50 c51 c52 c53 c54 c55 c56 c57 c58 c59 c60 c61 c62 c63 c64 c65 c66 c67 c68 c69 c70 c71 c72 c73 c74 c75 c76 c77 c78 c79 c80 c81 c82 c83 c84 c85 c86 c87 c88 c89 c90 c91 c92 c93 c94 c95 c96 c97 c98 c99 c100 c101 c102 c103 c104 c105 c106 c107 c108 c109 c110 c111 c112 c113 c114 c115 c116 c117 c118 c119 c120 c121 c122 c123 c124 c125 c126 c127 c128 c129 c130 c131 c132 c133 c134 c135 c136 c137 c138 c139 c140 c141 c142 c143 c144 c145 c146 c147 c148 c149 c150 c151 c152 c153 c154 c155 c156 c157 c158 c159 c160 c161 c162 c163 c164 c165 c166 c167 c168 c169 c170 c171 c172 c173 c174 c175 c176 c177 c178 c179 : Value, Code.wp Try.prog (dropS 6 (Try.f10.body.getD .skip)) (bodyPost Try.prog Try.f10 (StP Lg F w g)) ⟨#[.pointer (some ⟨g, 0, none⟩), c1, c2, .pointer (some ⟨X, 0, none⟩), c4, c5, c6, c7, c8, c9, c10, c11, .pointer (some ⟨H, 0, none⟩), c13, c14, c15, c16, c17, c18, c19, c20, c21, c22, c23, c24, c25, c26, c27, c28, c29, c30, c31, c32, c33, c34, c35, c36, c37, c38, c39, c40, c41, c42, c43, c44, c45, c46, c47, c48, c49, c50, c51, c52, c53, c54, c55, c56, c57, c58, c59, c60, c61, c62, c63, c64, c65, c66, c67, c68, c69, c70, c71, c72, c73, c74, c75, c76, c77, c78, c79, c80, c81, c82, c83, c84, c85, c86, c87, c88, c89, c90, c91, c92, c93, c94, c95, c96, c97, c98, c99, c100, c101, c102, c103, c104, c105, c106, c107, c108, c109, c110, c111, c112, c113, c114, c115, c116, c117, c118, c119, c120, c121, c122, c123, c124, c125, c126, c127, c128, c129, c130, c131, c132, c133, c134, c135, c136, c137, c138, c139, c140, c141, c142, c143, c144, c145, c146, c147, c148, c149, c150, c151, c152, c153, c154, c155, c156, c157, c158, c159, c160, c161, c162, c163, c164, c165, c166, c167, c168, c169, c170, c171, c172, c173, c174, c175, c176, c177, c178, c179], []⟩ W)) (c1 c2 c4 c5 c6 c7 c8 c9 c13 c14 c15 c16 c17 c18 c19 c20 c21 c22 c23 c24 c25 c26 c27 c28 c29 c30 c31 c32 c33 c34 c35 c36 c37 c38 c39 c40 c41 c42 c43 c44 c45 c46 c47 c48 c49 c50 c51 c52 c53 c54 c55 c56 c57 c58 c59 c60 c61 c62 c63 c64 c65 c66 c67 c68 c69 c70 c71 c72 c73 c74 c75 c76 c77 c78 c79 c80 c81 c82 c83 c84 c85 c86 c87 c88 c89 c90 c91 c92 c93 c94 c95 c96 c97 c98 c99 c100 c101 c102 c103 c104 c105 c106 c107 c108 c109 c110 c111 c112 c113 c114 c115 c116 c117 c118 c119 c120 c121 c122 c123 c124 c125 c126 c127 c128 c129 c130 c131 c132 c133 c134 c135 c136 c137 c138 c139 c140 c141 c142 c143 c144 c145 c146 c147 c148 c149 c150 c151 c152 c153 c154 c155 c156 c157 c158 c159 c160 c161 c162 c163 c164 c165 c166 c167 c168 c169 c170 c171 c172 c173 c174 c175 c176 c177 c178 c179 : Value) :
    Code.wp Try.prog (dropS 5 (Try.f10.body.getD .skip)) (bodyPost Try.prog Try.f10 (StP Lg F w g)) ⟨#[.pointer (some ⟨g, 0, none⟩), c1, c2, .pointer (some ⟨X, 0, none⟩), c4, c5, c6, c7, c8, c9, .slice (some ⟨gk, 0, none⟩) (kn + 1) ck, .slice (some ⟨gn, 0, none⟩) (nb + 1) cn, .pointer (some ⟨H, 0, none⟩), c13, c14, c15, c16, c17, c18, c19, c20, c21, c22, c23, c24, c25, c26, c27, c28, c29, c30, c31, c32, c33, c34, c35, c36, c37, c38, c39, c40, c41, c42, c43, c44, c45, c46, c47, c48, c49, c50, c51, c52, c53, c54, c55, c56, c57, c58, c59, c60, c61, c62, c63, c64, c65, c66, c67, c68, c69, c70, c71, c72, c73, c74, c75, c76, c77, c78, c79, c80, c81, c82, c83, c84, c85, c86, c87, c88, c89, c90, c91, c92, c93, c94, c95, c96, c97, c98, c99, c100, c101, c102, c103, c104, c105, c106, c107, c108, c109, c110, c111, c112, c113, c114, c115, c116, c117, c118, c119, c120, c121, c122, c123, c124, c125, c126, c127, c128, c129, c130, c131, c132, c133, c134, c135, c136, c137, c138, c139, c140, c141, c142, c143, c144, c145, c146, c147, c148, c149, c150, c151, c152, c153, c154, c155, c156, c157, c158, c159, c160, c161, c162, c163, c164, c165, c166, c167, c168, c169, c170, c171, c172, c173, c174, c175, c176, c177, c178, c179], []⟩ W1 := by
  have HKN : Hid (key.length = kn) := hkn
  have HNB : Hid (nonce.length = nb) := hnb
  subst hkn hnb
  obtain ⟨SK, hSK⟩ : ∃ SK, SK = strOf (key ++ [119#8]) := ⟨_, rfl⟩
  obtain ⟨SN, hSN⟩ : ∃ SN, SN = strOf (nonce ++ [120#8]) := ⟨_, rfl⟩
  have CK : Hid (∀ W (bo : Option Addr) (cap : Nat), IsB W bo (key ++ [119#8]) → (convert 36 9 (.slice bo (key.length + 1) cap)).run Try.prog W = .ok (.string SK) W) := fun W bo cap h => by rw [hSK]; exact conv_bytes W bo _ cap _ (by simp) h
  have CN : Hid (∀ W (bo : Option Addr) (cap : Nat), IsB W bo (nonce ++ [120#8]) → (convert 36 9 (.slice bo (nonce.length + 1) cap)).run Try.prog W = .ok (.string SN) W) := fun W bo cap h => by rw [hSN]; exact conv_bytes W bo _ cap _ (by simp) h
  have sk : (SK.toList == SK.toList) = true := by rw [hSK]; exact strOf_beq (key ++ [119#8]) (key ++ [119#8]) true (decide_eq_true rfl).symm
  have sn : (SN.toList == SN.toList) = true := by rw [hSN]; exact strOf_beq (nonce ++ [120#8]) (nonce ++ [120#8]) true (decide_eq_true rfl).symm
  clear hSK hSN
  conv => arg 2; whnf
  refine wp_seq_k fun K hK => ?_
  have HKK : Hid _ := hK
  clear hK
  go_wp2_with fail
  refine wp_region_inv (IS26 W1 key nonce gk ck gn cn X ko kc no nc SK SN _ _ _ _ _ _ _ _ _ _ _ _ _ _ _ _ _ _ _ _ _ _ _ _ _ _ _ _ _ _ _ _ _ _ _ _ _ _ _ _ _ _ _ _ _ _ _ _ _ _ _ _ _ _ _ _ _ _ _ _ _ _ _ _ _ _ _ _ _ _ _ _ _ _ _ _ _ _ _ _ _ _ _ _ _ _ _ _ _ _ _ _ _ _ _ _ _ _ _ _ _ _ _ _ _ _ _ _ _ _ _ _ _ _ _ _ _ _ _ _ _ _ _ _ _ _ _ _ _ _ _ _ _ _ _ _ _ _ _ _ _ _ _ _ _ _ _ _ _ _ _ _ _ _ _ _ _ _ _ _) (by kernel_rfl) (by kernel_rfl) ⟨_, _, _, _, _, _, _, _, _, _, _, _, _, _, _, _, _, _, _, _, rfl, ⟨B26.zero _ _ _ _ _ _ _ _ _ _ _, fun k => (by cases k), fun k => (by cases k), fun k => (by cases k), fun k => (by cases k), fun k => (by cases k), fun k => (by cases k), fun k => (by cases k), fun k => (by cases k), fun k => (by cases k), fun k => (by cases k), fun k => (by cases k), fun k => (by cases k), fun k => (by cases k), fun k => (by cases k), fun k => (by cases k), fun k => (by cases k)⟩⟩ ?_ ?_
  · refine .cons ?_ (.cons ?_ (.cons ?_ (.cons ?_ (.cons ?_ (.cons ?_ (.cons ?_ (.cons ?_ (.cons ?_ (.cons ?_ (.cons ?_ (.cons ?_ (.cons ?_ (.cons ?_ (.cons ?_ (.cons ?_ (.cons ?_ (.cons ?_ (.cons ?_ (.cons ?_ .nil)))))))))))))))))))
    all_goals (refine S26.step ?_; intro x136 x137 x138 x139 x140 x141 x142 x143 x144 x145 x146 x147 x148 x149 x150 x151 x152 x153 x154 x155 L W hI hL hd K hK)
    · rw [if_pos (by rfl)]
      go_simp
      exact hK.out _ _ ⟨_, _, _, _, _, _, _, _, _, _, _, _, _, _, _, _, _, _, _, _, rfl, hI.s0⟩
    · have hx0 := hI.p0 (hd 0 (by decide))
      subst hx0
      rw [if_pos (by rfl)]
      have hcv := CK.out W (some ⟨gk, 0, none⟩) ck (IB.out _ (PB.out _ hI.x.bel)).2.2.1
      go_simp
      exact hK.out _ _ ⟨_, _, _, _, _, _, _, _, _, _, _, _, _, _, _, _, _, _, _, _, rfl, hI.s1⟩
    · rw [if_pos (by rfl)]
      go_simp
      exact hK.out _ _ ⟨_, _, _, _, _, _, _, _, _, _, _, _, _, _, _, _, _, _, _, _, rfl, hI.s2⟩
    · have hx2 := hI.p2 (hd 2 (by decide))
      subst hx2
      rw [if_pos (by rfl)]
      have hc := (CO.out _ (PB.out _ hI.x.bel)).1
      go_simp
      exact hK.out _ _ ⟨_, _, _, _, _, _, _, _, _, _, _, _, _, _, _, _, _, _, _, _, rfl, hI.s3⟩
    · have hx3 := hI.p3 (hd 3 (by decide))
      subst hx3
      have il := isL_of (IB.out _ (PB.out _ hI.x.bel)).1
      refine step_append_il el_bytes (by rfl) _ _ rfl W1.heap.size W1 none 0 0 [] rfl (World.ownsRow_nil W _ _ _) hI.x.sz hI.x.bel ko key.length kc (key.map B8) rfl (by simp) il (B8_one _) HK0.out.1 (by unfold maxLen; omega) (by omega) ?_
      intro ao8 c8 W2 q1 q2 q3 q4
      rw [Nat.zero_add] at q1
      rw [Nat.zero_add]
      have hX := hI.x.s4 hL (ao := ao8) (c := c8) q1 q2 q3 (fun k hk => q4 k hk (fun g h => by cases h))
      exact hK.out _ _ ⟨_, _, _, _, _, _, _, _, _, _, _, _, _, _, _, _, _, _, _, _, rfl, hI.s4 hX⟩
    · rw [if_pos (by rfl)]
      have hX := hI.x.s5 hL (y := 119) rfl
      go_simp
      exact hK.out _ _ ⟨_, _, _, _, _, _, _, _, _, _, _, _, _, _, _, _, _, _, _, _, rfl, hI.s5 hX⟩
    · have hA := hd 4 (by decide)
      have hB := hd 5 (by decide)
      obtain ⟨ao5, c5, e5, r5⟩ := hI.x.p4 hA hL
      obtain ⟨M, e8, r8⟩ := hI.x.p5 hB hL
      refine step_append_il el_bytes (by rfl) (.tmp 140) (.tmp 141) rfl W1.heap.size W1 ao5 key.length c5 (key.map B8) e5 r5 hI.x.sz hI.x.bel (some ⟨M, 0, none⟩) 1 1 [B8 119#8] e8 rfl (.inr ⟨M, 0, rfl, fun j u hu => by rw [Nat.zero_add]; exact r8.cell j u hu⟩) (by intro u hu; rw [List.mem_singleton] at hu; subst hu; rfl) (fun h => by cases h) (by unfold maxLen; omega) (by omega) ?_
      intro ao8 c8 W2 q1 q2 q3 q4
      have hX := hI.x.s6 hA hB hL (ao := ao8) (c := c8) q1 q2 q3
      exact hK.out _ _ ⟨_, _, _, _, _, _, _, _, _, _, _, _, _, _, _, _, _, _, _, _, rfl, hI.s6 hX⟩
    · rw [if_pos (by rfl)]
      obtain ⟨ao6, c6, e6, r6⟩ := hI.x.p6 (hd 6 (by decide)) hL
      have hcv := CK.out W ao6 c6 (ownsB (m := key ++ [119#8]) (by rw [List.map_append]; exact r6) (by simp)).1
      have hX := hI.x.s7 (hd 6 (by decide)) hL
      subst e6
      go_simp
      exact hK.out _ _ ⟨_, _, _, _, _, _, _, _, _, _, _, _, _, _, _, _, _, _, _, _, rfl, hI.s7 hX⟩
    · have hx1 := hI.p1 (hd 1 (by decide))
      subst hx1
      have hx7 := hI.p7 (hd 7 (by decide))
      subst hx7
      rw [if_pos (by rfl)]
      go_simp
      exact hK.out _ _ ⟨_, _, _, _, _, _, _, _, _, _, _, _, _, _, _, _, _, _, _, _, rfl, hI.s8 (hd 7 (by decide))⟩
    · have hx8 := hI.p8 (hd 8 (by decide))
      subst hx8
      rw [if_pos (by rfl)]
      go_simp
      exact hK.out _ _ ⟨_, _, _, _, _, _, _, _, _, _, _, _, _, _, _, _, _, _, _, _, rfl, hI.s9 (hd 8 (by decide))⟩
    · have hx9 := hI.p9 (hd 9 (by decide))
      subst hx9
      rw [if_pos (by rfl)]
      go_simp
      exact hK.out _ _ ⟨_, _, _, _, _, _, _, _, _, _, _, _, _, _, _, _, _, _, _, _, rfl, hI.s10⟩
    · have hx10 := hI.p10 (hd 10 (by decide))
      subst hx10
      have hx9 := hI.p9 (hd 9 (by decide))
      subst hx9
      rw [if_pos (by rfl)]
      have hcv := CN.out W (some ⟨gn, 0, none⟩) cn (IB.out _ (PB.out _ hI.x.bel)).2.2.2
      go_simp
      exact hK.out _ _ ⟨_, _, _, _, _, _, _, _, _, _, _, _, _, _, _, _, _, _, _, _, rfl, hI.s11⟩
    · have hx9 := hI.p9 (hd 9 (by decide))
      subst hx9
      rw [if_pos (by rfl)]
      go_simp
      exact hK.out _ _ ⟨_, _, _, _, _, _, _, _, _, _, _, _, _, _, _, _, _, _, _, _, rfl, hI.s12⟩
    · have hx12 := hI.p12 (hd 12 (by decide))
      subst hx12
      have hx9 := hI.p9 (hd 9 (by decide))
      subst hx9
      rw [if_pos (by rfl)]
      have hc := (CO.out _ (PB.out _ hI.x.bel)).2
      go_simp
      exact hK.out _ _ ⟨_, _, _, _, _, _, _, _, _, _, _, _, _, _, _, _, _, _, _, _, rfl, hI.s13⟩
    · have hx13 := hI.p13 (hd 13 (by decide))
      subst hx13
      have hx9 := hI.p9 (hd 9 (by decide))
      subst hx9
      have hL7 := (hI.c8_7 (hI.c9_8 (hd 9 (by decide))))
      have il := isL_of (IB.out _ (PB.out _ hI.x.bel)).2.1
      refine step_append_il el_bytes (by rfl) _ _ rfl W1.heap.size W1 none 0 0 [] rfl (World.ownsRow_nil W _ _ _) hI.x.sz hI.x.bel no nonce.length nc (nonce.map B8) rfl (by simp) il (B8_one _) HN0.out.1 (by unfold maxLen; omega) (by omega) ?_
      intro ao8 c8 W2 q1 q2 q3 q4
      rw [Nat.zero_add] at q1
      rw [Nat.zero_add]
      have hX := hI.x.s14 hL7 hL (ao := ao8) (c := c8) q1 q2 q3 (fun k hk => q4 k hk (fun g h => by cases h))
      exact hK.out _ _ ⟨_, _, _, _, _, _, _, _, _, _, _, _, _, _, _, _, _, _, _, _, rfl, hI.s14 hX⟩
    · have hx9 := hI.p9 (hd 9 (by decide))
      subst hx9
      have hL7 := (hI.c8_7 (hI.c9_8 (hd 9 (by decide))))
      rw [if_pos (by rfl)]
      have hX := hI.x.s15 hL7 hL (y := 120) rfl
      go_simp
      exact hK.out _ _ ⟨_, _, _, _, _, _, _, _, _, _, _, _, _, _, _, _, _, _, _, _, rfl, hI.s15 hX⟩
    · have hx9 := hI.p9 (hd 9 (by decide))
      subst hx9
      have hA := hd 14 (by decide)
      have hB := hd 15 (by decide)
      obtain ⟨ao5, c5, e5, r5⟩ := hI.x.p14 hA hL
      obtain ⟨M, e8, r8⟩ := hI.x.p15 hB hL
      refine step_append_il el_bytes (by rfl) (.tmp 150) (.tmp 151) rfl W1.heap.size W1 ao5 nonce.length c5 (nonce.map B8) e5 r5 hI.x.sz hI.x.bel (some ⟨M, 0, none⟩) 1 1 [B8 120#8] e8 rfl (.inr ⟨M, 0, rfl, fun j u hu => by rw [Nat.zero_add]; exact r8.cell j u hu⟩) (by intro u hu; rw [List.mem_singleton] at hu; subst hu; rfl) (fun h => by cases h) (by unfold maxLen; omega) (by omega) ?_
      intro ao8 c8 W2 q1 q2 q3 q4
      have hX := hI.x.s16 hA hB hL (ao := ao8) (c := c8) q1 q2 q3
      exact hK.out _ _ ⟨_, _, _, _, _, _, _, _, _, _, _, _, _, _, _, _, _, _, _, _, rfl, hI.s16 hX⟩
    · have hx9 := hI.p9 (hd 9 (by decide))
      subst hx9
      rw [if_pos (by rfl)]
      obtain ⟨ao6, c6, e6, r6⟩ := hI.x.p16 (hd 16 (by decide))
      have hcv := CN.out W ao6 c6 (ownsB (m := nonce ++ [120#8]) (by rw [List.map_append]; exact r6) (by simp)).1
      subst e6
      go_simp
      exact hK.out _ _ ⟨_, _, _, _, _, _, _, _, _, _, _, _, _, _, _, _, _, _, _, _, rfl, hI.s17⟩
    · have hx11 := hI.p11 (hd 11 (by decide))
      subst hx11
      have hx17 := hI.p17 (hd 17 (by decide))
      subst hx17
      have hx9 := hI.p9 (hd 9 (by decide))
      subst hx9
      rw [if_pos (by rfl)]
      go_simp
      exact hK.out _ _ ⟨_, _, _, _, _, _, _, _, _, _, _, _, _, _, _, _, _, _, _, _, rfl, hI.s18⟩
    · have hx9 := hI.p9 (hd 9 (by decide))
      subst hx9
      have hx18 := hI.p18 (hd 18 (by decide))
      subst hx18
      rw [if_pos (by rfl)]
      go_simp
      exact hK.out _ _ ⟨_, _, _, _, _, _, _, _, _, _, _, _, _, _, _, _, _, _, _, _, rfl, hI.s19⟩
  · refine S26.ends ?_; intro x136 x137 x138 x139 x140 x141 x142 x143 x144 x145 x146 x147 x148 x149 x150 x151 x152 x153 x154 x155 L W hall hI
    have hx0 := hI.p0 (hall 0 (by decide))
    subst hx0
    have hx1 := hI.p1 (hall 1 (by decide))
    subst hx1
    have hx2 := hI.p2 (hall 2 (by decide))
    subst hx2
    have hx3 := hI.p3 (hall 3 (by decide))
    subst hx3
    have hx7 := hI.p7 (hall 7 (by decide))
    subst hx7
    have hx8 := hI.p8 (hall 8 (by decide))
    subst hx8
    have hx9 := hI.p9 (hall 9 (by decide))
    subst hx9
    have hx10 := hI.p10 (hall 10 (by decide))
    subst hx10
    have hx11 := hI.p11 (hall 11 (by decide))
    subst hx11
    have hx12 := hI.p12 (hall 12 (by decide))
    subst hx12
    have hx13 := hI.p13 (hall 13 (by decide))
    subst hx13
    have hx17 := hI.p17 (hall 17 (by decide))
    subst hx17
    have hx18 := hI.p18 (hall 18 (by decide))
    subst hx18
    have hx19 := hI.p19 (hall 19 (by decide))
    subst hx19
    have hXe := hI.x
    rw [hall 4 (by decide)] at hXe
    rw [hall 5 (by decide)] at hXe
    rw [hall 6 (by decide)] at hXe
    rw [hall 7 (by decide)] at hXe
    rw [hall 14 (by decide)] at hXe
    rw [hall 15 (by decide)] at hXe
    rw [hall 16 (by decide)] at hXe
    clear hI hall
    try dsimp only
    have HXE : Hid (PW W) := PB.out _ hXe.bel
    clear hXe
    go_wp2
    refine HKK.out _ _ ?_
    exact NX.out _ HXE.out _ _ _ _ _ _ _ _ _ _ _ _ _ _ _ _ _ _ _ _ _ _ _ _ _ _ _ _ _ _ _ _ _ _ _ _ _ _ _ _ _ _ _ _ _ _ _ _ _ _ _ _ _ _ _ _ _ _ _ _ _ _ _ _ _ _ _ _ _ _ _ _ _ _ _ _ _ _ _ _ _ _ _ _ _ _ _ _ _ _ _ _ _ _ _ _ _ _ _ _ _ _ _ _ _ _ _ _ _ _ _ _ _ _ _ _ _ _ _ _ _ _ _ _ _ _ _ _ _ _ _ _ _ _ _ _ _ _ _ _ _ _ _ _ _ _ _ _ _ _ _ _ _ _ _ _ _ _ _ _ _ _ _ _ _ _ _ _ _ _ _ _ _ _ _ _ _

set_option maxHeartbeats 4000000 in
set_option maxRecDepth 1000000 in
theorem sq4 {Lg : (Nat → Prop) → World → Addr → List EvV → Prop} (C : Chn Lg) (F : Nat → Prop) (w : World) (lp : Addr) (xs : List EvV) (R : List (Nat × Obj)) (g X : Nat) (ko : Option Addr) (kn kc : Nat) (no : Option Addr) (nb nc gk ck gn cn : Nat) (key nonce : List By) (hkn : key.length = kn) (hnb : nonce.length = nb) (hkb : kn ≤ 140737488351232) (hbig : nb ≤ 140737488351232) (hck : kn ≤ ck) (hcn : nb ≤ cn)
    (W1 : World) (P0 : Hid (FB Lg F w lp xs R W1)) (CB : Hid (∀ W, FB Lg F w lp xs R W → W.cell? ⟨g, 0, none⟩ = some (.pointer (some lp)))) (CO : Hid (∀ W, FB Lg F w lp xs R W → W.cell? ⟨X, 35, none⟩ = some (.slice ko kn kc) ∧ W.cell? ⟨X, 36, none⟩ = some (.slice no nb nc)))
    (IB : Hid (∀ W, FB Lg F w lp xs R W → IsB W (some ⟨gk, 0, none⟩) key ∧ IsB W (some ⟨gn, 0, none⟩) nonce))
    (NX : Hid (∀ W H, FB Lg F w lp xs ((H, .cells ((quot key nonce xs).map B8).toArray 32 (0, 0)) :: R) W → ∀ c1 c2 c4 c5 c6 c7 c8 c9 c13 c14 c15 c16 c17 c18 c19 c20 c21 c22 c23 c24 c25 c26 c27 c28 c29 c30 c31 c32 c33 c34 c35 c36 c37 c38 c39 c40 c41 c42 c43 c44 c45 c46 c47 c48 c49 c50 c51 c52 c53 c54 c55 c56 c57 c58 c59 c60 c61 c62 c63 c64 c65 c66 c67 c68 c69 c70 c71 c72 c73 c74 c75 c76 c77 c78 c79 c80 c81 c82 c83 c84 c85 c86 c87 c88 c89 c90 c91 c92 c93 c94 c95 c96 c97 c98 c99 c100 c101 c102 c103 c104 c105 c106 c107 c108 c109 c110 c111 c112 c113 c114 c115 c116 c117 c118 c119 c120 c121 c122 c123 c124 c125 c126 c127 c128 c129 c130 c131 c132 c133 c134 c135 c136 c137 c138 c139 c140 c141 c142 c143 c144 c145 c146 c147 c148 c149 c150 c151 c152 c153 c154 c155 c156 c157 c158 c159 c160 c161 c162 c163 c164 c165 c166 c167 c168 c169 c170 c171 c172 c173 c174 c175 c176 c177 c178 c179 : Value, Code.wp Try.prog (dropS 5 (Try.f10.body.getD .skip)) (bodyPost Try.prog Try.f10 (StP Lg F w g)) ⟨#[.pointer (some ⟨g, 0, none⟩), c1, c2, .pointer (some ⟨X, 0, none⟩), c4, c5, c6, c7, c8, c9, .slice (some ⟨gk, 0, none⟩) (kn + 1) ck, .slice (some ⟨gn, 0, none⟩) (nb + 1) cn, .pointer (some ⟨H, 0, none⟩), c13, c14, c15, c16, c17, c18, c19, c20, c21, c22, c23, c24, c25, c26, c27, c28, c29, c30, c31, c32, c33, c34, c35, c36, c37, c38, c39, c40, c41, c42, c43, c44, c45, c46, c47, c48, c49, c50, c51, c52, c53, c54, c55, c56, c57, c58, c59, c60, c61, c62, c63, c64, c65, c66, c67, c68, c69, c70, c71, c72, c73, c74, c75, c76, c77, c78, c79, c80, c81, c82, c83, c84, c85, c86, c87, c88, c89, c90, c91, c92, c93, c94, c95, c96, c97, c98, c99, c100, c101, c102, c103, c104, c105, c106, c107, c108, c109, c110, c111, c112, c113, c114, c115, c116, c117, c118, c119, c120, c121, c122, c123, c124, c125, c126, c127, c128, c129, c130, c131, c132, c133, c134, c135, c136, c137, c138, c139, c140, c141, c142, c143, c144, c145, c146, c147, c148, c149, c150, c151, c152, c153, c154, c155, c156, c157, c158, c159, c160, c161, c162, c163, c164, c165, c166, c167, c168, c169, c170, c171, c172, c173, c174, c175, c176, c177, c178, c179], []⟩ W)) (c1 c2 c4 c5 c6 c7 c8 c9 c12 c13 c14 c15 c16 c17 c18 c19 c20 c21 c22 c23 c24 c25 c26 c27 c28 c29 c30 c31 c32 c33 c34 c35 c36 c37 c38 c39 c40 c41 c42 c43 c44 c45 c46 c47 c48 c49 c50 c51 c52 c53 c54 c55 c56 c57 c58 c59 c60 c61 c62 c63 c64 c65 c66 c67 c68 c69 c70 c71 c72 c73 c74 c75 c76 c77 c78 c79 c80 c81 c82 c83 c84 c85 c86 c87 c88 c89 c90 c91 c92 c93 c94 c95 c96 c97 c98 c99 c100 c101 c102 c103 c104 c105 c106 c107 c108 c109 c110 c111 c112 c113 c114 c115 c116 c117 c118 c119 c120 c121 c122 c123 c124 c125 c126 c127 c128 c129 c130 c131 c132 c133 c134 c135 c136 c137 c138 c139 c140 c141 c142 c143 c144 c145 c146 c147 c148 c149 c150 c151 c152 c153 c154 c155 c156 c157 c158 c159 c160 c161 c162 c163 c164 c165 c166 c167 c168 c169 c170 c171 c172 c173 c174 c175 c176 c177 c178 c179 : Value) :
    Code.wp Try.prog (dropS 4 (Try.f10.body.getD .skip)) (bodyPost Try.prog Try.f10 (StP Lg F w g)) ⟨#[.pointer (some ⟨g, 0, none⟩), c1, c2, .pointer (some ⟨X, 0, none⟩), c4, c5, c6, c7, c8, c9, .slice (some ⟨gk, 0, none⟩) (kn + 1) ck, .slice (some ⟨gn, 0, none⟩) (nb + 1) cn, c12, c13, c14, c15, c16, c17, c18, c19, c20, c21, c22, c23, c24, c25, c26, c27, c28, c29, c30, c31, c32, c33, c34, c35, c36, c37, c38, c39, c40, c41, c42, c43, c44, c45, c46, c47, c48, c49, c50, c51, c52, c53, c54, c55, c56, c57, c58, c59, c60, c61, c62, c63, c64, c65, c66, c67, c68, c69, c70, c71, c72, c73, c74, c75, c76, c77, c78, c79, c80, c81, c82, c83, c84, c85, c86, c87, c88, c89, c90, c91, c92, c93, c94, c95, c96, c97, c98, c99, c100, c101, c102, c103, c104, c105, c106, c107, c108, c109, c110, c111, c112, c113, c114, c115, c116, c117, c118, c119, c120, c121, c122, c123, c124, c125, c126, c127, c128, c129, c130, c131, c132, c133, c134, c135, c136, c137, c138, c139, c140, c141, c142, c143, c144, c145, c146, c147, c148, c149, c150, c151, c152, c153, c154, c155, c156, c157, c158, c159, c160, c161, c162, c163, c164, c165, c166, c167, c168, c169, c170, c171, c172, c173, c174, c175, c176, c177, c178, c179], []⟩ W1 := by
  have HC : Hid (Chn Lg) := C
  have HKN : Hid (key.length = kn) := hkn
  have HNB : Hid (nonce.length = nb) := hnb
  have lQ : ((quot key nonce xs).map B8).length = 32 := by rw [List.length_map]; exact shaLen _
  have oQ : Hid (∀ v ∈ (quot key nonce xs).map B8, v.oneCell' = true) := B8_one _
  have QT : Hid (∀ l15 l16 x12 W, Q5 Lg F w lp xs R ((quot key nonce xs).map B8) l15 l16 x12 W → Calls Try.prog 22 #[.pointer (some lp), .slice (some ⟨gk, 0, none⟩) kn ck, .slice (some ⟨gn, 0, none⟩) nb cn] W fun e w' => e = .returned (.agg ((quot key nonce xs).map B8).toArray) ∧ Q5 Lg F w lp xs R ((quot key nonce xs).map B8) l15 l16 x12 w') := fun l15 l16 x12 W h =>
    h.call C _ kn ck key hkn (IB.out W h.fb).1 ⟨fun h => (by cases h), hck⟩ hkb _ nb cn nonce hnb (IB.out W h.fb).2 ⟨fun h => (by cases h), hcn⟩ hbig
  clear C hkn hnb
  have i1 : (kn : Int) ≤ (ck : Int) := by omega
  have i2 : (nb : Int) ≤ (cn : Int) := by omega
  have i3 : (0 : Int) ≤ (kn : Int) := by omega
  have i4 : (0 : Int) ≤ (nb : Int) := by omega
  generalize (quot key nonce xs).map B8 = QC at *
  conv => arg 2; whnf
  refine wp_seq_k fun K hK => ?_
  have HKK : Hid _ := hK
  clear hK
  go_wp2_with fail
  refine wp_region_inv (IS25 W1 Lg F w lp xs R QC g X ko kn kc no nb nc gk ck gn cn _ _ _ _ _ _ _ _ _ _ _ _ _ _ _ _ _ _ _ _ _ _ _ _ _ _ _ _ _ _ _ _ _ _ _ _ _ _ _ _ _ _ _ _ _ _ _ _ _ _ _ _ _ _ _ _ _ _ _ _ _ _ _ _ _ _ _ _ _ _ _ _ _ _ _ _ _ _ _ _ _ _ _ _ _ _ _ _ _ _ _ _ _ _ _ _ _ _ _ _ _ _ _ _ _ _ _ _ _ _ _ _ _ _ _ _ _ _ _ _ _ _ _ _ _ _ _ _ _ _ _ _ _ _ _ _ _ _ _ _ _ _ _ _ _ _ _ _ _ _ _ _ _ _ _ _ _ _ _ _ _ _ _ _) (by kernel_rfl) (by kernel_rfl) ⟨_, _, _, _, _, _, _, _, _, _, _, _, _, _, _, _, rfl, ⟨Q5.zero (P0.out.drew HC.out) _, fun k => (by cases k), fun k => (by cases k), fun k => (by cases k), fun k => (by cases k), fun k => (by cases k), fun k => (by cases k), fun k => (by cases k), fun k => (by cases k), fun k => (by cases k), fun k => (by cases k), fun k => (by cases k), fun k => (by cases k), fun k => (by cases k), fun k => (by cases k), fun k => (by cases k)⟩⟩ ?_ ?_
  · refine .cons ?_ (.cons ?_ (.cons ?_ (.cons ?_ (.cons ?_ (.cons ?_ (.cons ?_ (.cons ?_ (.cons ?_ (.cons ?_ (.cons ?_ (.cons ?_ (.cons ?_ (.cons ?_ (.cons ?_ (.cons ?_ (.cons ?_ .nil))))))))))))))))
    all_goals (refine S25.step ?_; intro x121 x122 x123 x124 x125 x126 x127 x128 x129 x130 x131 x132 x133 x134 x135 x12 L W hI hL hd K hK)
    · rw [if_pos (by rfl)]
      go_simp
      exact hK.out _ _ ⟨_, _, _, _, _, _, _, _, _, _, _, _, _, _, _, _, rfl, hI.s0⟩
    · have hx0 := hI.p0 (hd 0 (by decide))
      subst hx0
      rw [if_pos (by rfl)]
      go_simp
      exact hK.out _ _ ⟨_, _, _, _, _, _, _, _, _, _, _, _, _, _, _, _, rfl, hI.s1⟩
    · have hx1 := hI.p1 (hd 1 (by decide))
      subst hx1
      rw [if_pos (by rfl)]
      go_simp
      exact hK.out _ _ ⟨_, _, _, _, _, _, _, _, _, _, _, _, _, _, _, _, rfl, hI.s2⟩
    · have hx2 := hI.p2 (hd 2 (by decide))
      subst hx2
      rw [if_pos (by rfl)]
      have hc := CB.out _ hI.x.fb
      go_simp
      exact hK.out _ _ ⟨_, _, _, _, _, _, _, _, _, _, _, _, _, _, _, _, rfl, hI.s3⟩
    · rw [if_pos (by rfl)]
      go_simp
      exact hK.out _ _ ⟨_, _, _, _, _, _, _, _, _, _, _, _, _, _, _, _, rfl, hI.s4⟩
    · rw [if_pos (by rfl)]
      go_simp
      exact hK.out _ _ ⟨_, _, _, _, _, _, _, _, _, _, _, _, _, _, _, _, rfl, hI.s5⟩
    · have hx5 := hI.p5 (hd 5 (by decide))
      subst hx5
      rw [if_pos (by rfl)]
      have hc := (CO.out _ hI.x.fb).1
      go_simp
      exact hK.out _ _ ⟨_, _, _, _, _, _, _, _, _, _, _, _, _, _, _, _, rfl, hI.s6⟩
    · have hx6 := hI.p6 (hd 6 (by decide))
      subst hx6
      rw [if_pos (by rfl)]
      go_simp
      exact hK.out _ _ ⟨_, _, _, _, _, _, _, _, _, _, _, _, _, _, _, _, rfl, hI.s7⟩
    · have hx4 := hI.p4 (hd 4 (by decide))
      subst hx4
      have hx7 := hI.p7 (hd 7 (by decide))
      subst hx7
      rw [if_pos (by rfl)]
      go_simp
      exact hK.out _ _ ⟨_, _, _, _, _, _, _, _, _, _, _, _, _, _, _, _, rfl, hI.s8⟩
    · rw [if_pos (by rfl)]
      go_simp
      exact hK.out _ _ ⟨_, _, _, _, _, _, _, _, _, _, _, _, _, _, _, _, rfl, hI.s9⟩
    · rw [if_pos (by rfl)]
      go_simp
      exact hK.out _ _ ⟨_, _, _, _, _, _, _, _, _, _, _, _, _, _, _, _, rfl, hI.s10⟩
    · have hx10 := hI.p10 (hd 10 (by decide))
      subst hx10
      rw [if_pos (by rfl)]
      have hc := (CO.out _ hI.x.fb).2
      go_simp
      exact hK.out _ _ ⟨_, _, _, _, _, _, _, _, _, _, _, _, _, _, _, _, rfl, hI.s11⟩
    · have hx11 := hI.p11 (hd 11 (by decide))
      subst hx11
      rw [if_pos (by rfl)]
      go_simp
      exact hK.out _ _ ⟨_, _, _, _, _, _, _, _, _, _, _, _, _, _, _, _, rfl, hI.s12⟩
    · have hx9 := hI.p9 (hd 9 (by decide))
      subst hx9
      have hx12 := hI.p12 (hd 12 (by decide))
      subst hx12
      rw [if_pos (by rfl)]
      go_simp
      exact hK.out _ _ ⟨_, _, _, _, _, _, _, _, _, _, _, _, _, _, _, _, rfl, hI.s13⟩
    · have hx3 := hI.p3 (hd 3 (by decide))
      subst hx3
      have hx8 := hI.p8 (hd 8 (by decide))
      subst hx8
      have hx13 := hI.p13 (hd 13 (by decide))
      subst hx13
      rw [if_pos (by rfl)]
      go_simp
      refine (QT.out _ _ _ _ hI.x).mono ?_
      rintro e W2 ⟨rfl, hX⟩
      go_simp
      exact hK.out _ _ ⟨_, _, _, _, _, _, _, _, _, _, _, _, _, _, _, _, rfl, hI.s14 hX⟩
    · rw [if_pos (by rfl)]
      have hX := hI.x.s15 HC.out hL
      go_simp
      exact hK.out _ _ ⟨_, _, _, _, _, _, _, _, _, _, _, _, _, _, _, _, rfl, hI.s15 hX⟩
    · have hx14 := hI.p14 (hd 14 (by decide))
      subst hx14
      obtain ⟨H, e12, r12⟩ := hI.x.row (hd 15 (by decide)) hL
      subst e12
      refine step_store_Row rfl 32 _ _ rfl H 32 z32 QC r12 (by rw [lQ]; rfl) rfl rfl (by rw [lQ]; kernel_rfl) oQ.out ?_
      intro W2 hr2 hs2
      have hX := hI.x.s16 HC.out (hd 15 (by decide)) hL hr2 hs2
      exact hK.out _ _ ⟨_, _, _, _, _, _, _, _, _, _, _, _, _, _, _, _, rfl, hI.s16 hX⟩
  · refine S25.ends ?_; intro x121 x122 x123 x124 x125 x126 x127 x128 x129 x130 x131 x132 x133 x134 x135 x12 L W hall hI
    have hx0 := hI.p0 (hall 0 (by decide))
    subst hx0
    have hx1 := hI.p1 (hall 1 (by decide))
    subst hx1
    have hx2 := hI.p2 (hall 2 (by decide))
    subst hx2
    have hx3 := hI.p3 (hall 3 (by decide))
    subst hx3
    have hx4 := hI.p4 (hall 4 (by decide))
    subst hx4
    have hx5 := hI.p5 (hall 5 (by decide))
    subst hx5
    have hx6 := hI.p6 (hall 6 (by decide))
    subst hx6
    have hx7 := hI.p7 (hall 7 (by decide))
    subst hx7
    have hx8 := hI.p8 (hall 8 (by decide))
    subst hx8
    have hx9 := hI.p9 (hall 9 (by decide))
    subst hx9
    have hx10 := hI.p10 (hall 10 (by decide))
    subst hx10
    have hx11 := hI.p11 (hall 11 (by decide))
    subst hx11
    have hx12 := hI.p12 (hall 12 (by decide))
    subst hx12
    have hx13 := hI.p13 (hall 13 (by decide))
    subst hx13
    have hx14 := hI.p14 (hall 14 (by decide))
    subst hx14
    have hXe := hI.x
    rw [hall 15 (by decide)] at hXe
    rw [hall 16 (by decide)] at hXe
    clear hI hall
    try dsimp only
    obtain ⟨H, rfl, _, h3, _⟩ := hXe.h15 rfl
    refine HKK.out _ _ ?_
    exact NX.out _ H h3 _ _ _ _ _ _ _ _ _ _ _ _ _ _ _ _ _ _ _ _ _ _ _ _ _ _ _ _ _ _ _ _ _ _ _ _ _ _ _ _ _ _ _ _ _ _ _ _ _ _ _ _ _ _ _ _ _ _ _ _ _ _ _ _ _ _ _ _ _ _ _ _ _ _ _ _ _ _ _ _ _ _ _ _ _ _ _ _ _ _ _ _ _ _ _ _ _ _ _ _ _ _ _ _ _ _ _ _ _ _ _ _ _ _ _ _ _ _ _ _ _ _ _ _ _ _ _ _ _ _ _ _ _ _ _ _ _ _ _ _ _ _ _ _ _ _ _ _ _ _ _ _ _ _ _ _ _ _ _ _ _ _ _ _ _ _ _ _ _ _ _ _ _ _ _
end Go.Proofs.Ythegfkcegmeklaa
