
import Derived.Test.YtjooabgjkjnhhaaGreatDoorT24Oa
/-! TokenOnly. (Printed by tools/gent24c.py.) -/
namespace Go.Proofs.YtjooabgjkjnhhaaGreatDoor
open Go.RowKit
set_option linter.unusedVariables false
set_option linter.unusedSimpArgs false
set_option maxRecDepth 100000

structure ON14 (W1 : World) (ta tb : Tk) (ga gb gx gy : Nat) (so : Option Addr) (ns sc : Nat) (io : Option Addr) (n1 ic : Nat) (jo : Option Addr) (n2 jc : Nat) (lo : Option Addr) (m1 lc : Nat) (mo : Option Addr) (m2 mc : Nat) (L : Nat → Bool) (x90 x91 x92 x93 x94 x95 x96 x97 x98 x99 x100 x101 x102 x103 x104 x105 x106 x107 x10 : Value) (W : World) : Prop where
  x : Below W1.heap.size W1 W
  p0 : L 0 = true → x90 = .pointer (some ⟨ga, 3, none⟩)
  p1 : L 1 = true → x91 = .agg (ta.tag.map B8).toArray
  p2 : L 2 = true → x92 = .slice so ns sc
  p3 : L 3 = true → x93 = .slice io n1 ic
  p4 : L 4 = true → x94 = .pointer (some ⟨gx, 2, none⟩)
  p5 : L 5 = true → x95 = .slice lo m1 lc
  p6 : L 6 = true → x96 = .agg (ta.tag.map B8).toArray
  p7 : L 7 = true → x97 = .bool true
  p8 : L 8 = true → x98 = .bool true
  p9 : L 9 = true → x99 = .pointer (some ⟨gb, 3, none⟩)
  p10 : L 10 = true → x100 = .agg (tb.tag.map B8).toArray
  p11 : L 11 = true → x101 = .slice so ns sc
  p12 : L 12 = true → x102 = .slice jo n2 jc
  p13 : L 13 = true → x103 = .pointer (some ⟨gy, 2, none⟩)
  p14 : L 14 = true → x104 = .slice mo m2 mc
  p15 : L 15 = true → x105 = .agg (tb.tag.map B8).toArray
  p16 : L 16 = true → x106 = .bool true
  p17 : L 17 = true → x107 = .bool true
  p18 : L 18 = true → x10 = .bool true
section
variable {W1 : World} {ta tb : Tk} {ga gb gx gy : Nat} {so : Option Addr} {ns sc : Nat} {io : Option Addr} {n1 ic : Nat} {jo : Option Addr} {n2 jc : Nat} {lo : Option Addr} {m1 lc : Nat} {mo : Option Addr} {m2 mc : Nat} {L : Nat → Bool} {x90 x91 x92 x93 x94 x95 x96 x97 x98 x99 x100 x101 x102 x103 x104 x105 x106 x107 x10 : Value} {W W2 : World}
theorem ON14.s0 (h : ON14 W1 ta tb ga gb gx gy so ns sc io n1 ic jo n2 jc lo m1 lc mo m2 mc L x90 x91 x92 x93 x94 x95 x96 x97 x98 x99 x100 x101 x102 x103 x104 x105 x106 x107 x10 W) : ON14 W1 ta tb ga gb gx gy so ns sc io n1 ic jo n2 jc lo m1 lc mo m2 mc (upd L 0) (.pointer (some ⟨ga, 3, none⟩)) x91 x92 x93 x94 x95 x96 x97 x98 x99 x100 x101 x102 x103 x104 x105 x106 x107 x10 W :=
  ⟨h.x, fun _ => rfl, h.p1, h.p2, h.p3, h.p4, h.p5, h.p6, h.p7, h.p8, h.p9, h.p10, h.p11, h.p12, h.p13, h.p14, h.p15, h.p16, h.p17, h.p18⟩
theorem ON14.s1 (h : ON14 W1 ta tb ga gb gx gy so ns sc io n1 ic jo n2 jc lo m1 lc mo m2 mc L x90 x91 x92 x93 x94 x95 x96 x97 x98 x99 x100 x101 x102 x103 x104 x105 x106 x107 x10 W) : ON14 W1 ta tb ga gb gx gy so ns sc io n1 ic jo n2 jc lo m1 lc mo m2 mc (upd L 1) x90 (.agg (ta.tag.map B8).toArray) x92 x93 x94 x95 x96 x97 x98 x99 x100 x101 x102 x103 x104 x105 x106 x107 x10 W :=
  ⟨h.x, h.p0, fun _ => rfl, h.p2, h.p3, h.p4, h.p5, h.p6, h.p7, h.p8, h.p9, h.p10, h.p11, h.p12, h.p13, h.p14, h.p15, h.p16, h.p17, h.p18⟩
end
@[reducible] def ION14 (W1 : World) (ta tb : Tk) (ga gb gx gy : Nat) (so : Option Addr) (ns sc : Nat) (io : Option Addr) (n1 ic : Nat) (jo : Option Addr) (n2 jc : Nat) (lo : Option Addr) (m1 lc : Nat) (mo : Option Addr) (m2 mc : Nat) (y0 y1 y2 y3 y4 y5 y6 y7 y8 y9 y11 y12 y13 y14 y15 y16 y17 y18 y19 y20 y21 y22 y23 y24 y25 y26 y27 y28 y29 y30 y31 y32 y33 y34 y35 y36 y37 y38 y39 y40 y41 y42 y43 y44 y45 y46 y47 y48 y49 y50 y51 y52 y53 y54 y55 y56 y57 y58 y59 y60 y61 y62 y63 y64 y65 y66 y67 y68 y69 y70 y71 y72 y73 y74 y75 y76 y77 y78 y79 y80 y81 y82 y83 y84 y85 y86 y87 y88 y89 y108 y109 y110 y111 y112 y113 y114 y115 y116 y117 y118 y119 y120 y121 y122 y123 : Value) : (Nat → Bool) → Act → World → Prop := fun L a W => ∃ x90 x91 x92 x93 x94 x95 x96 x97 x98 x99 x100 x101 x102 x103 x104 x105 x106 x107 x10, a = ⟨#[y0, y1, y2, y3, y4, y5, y6, y7, y8, y9, x10, y11, y12, y13, y14, y15, y16, y17, y18, y19, y20, y21, y22, y23, y24, y25, y26, y27, y28, y29, y30, y31, y32, y33, y34, y35, y36, y37, y38, y39, y40, y41, y42, y43, y44, y45, y46, y47, y48, y49, y50, y51, y52, y53, y54, y55, y56, y57, y58, y59, y60, y61, y62, y63, y64, y65, y66, y67, y68, y69, y70, y71, y72, y73, y74, y75, y76, y77, y78, y79, y80, y81, y82, y83, y84, y85, y86, y87, y88, y89, x90, x91, x92, x93, x94, x95, x96, x97, x98, x99, x100, x101, x102, x103, x104, x105, x106, x107, y108, y109, y110, y111, y112, y113, y114, y115, y116, y117, y118, y119, y120, y121, y122, y123], []⟩ ∧ ON14 W1 ta tb ga gb gx gy so ns sc io n1 ic jo n2 jc lo m1 lc mo m2 mc L x90 x91 x92 x93 x94 x95 x96 x97 x98 x99 x100 x101 x102 x103 x104 x105 x106 x107 x10 W
theorem ON14.step {W1 : World} {ta tb : Tk} {ga gb gx gy : Nat} {so : Option Addr} {ns sc : Nat} {io : Option Addr} {n1 ic : Nat} {jo : Option Addr} {n2 jc : Nat} {lo : Option Addr} {m1 lc : Nat} {mo : Option Addr} {m2 mc : Nat} {y0 y1 y2 y3 y4 y5 y6 y7 y8 y9 y11 y12 y13 y14 y15 y16 y17 y18 y19 y20 y21 y22 y23 y24 y25 y26 y27 y28 y29 y30 y31 y32 y33 y34 y35 y36 y37 y38 y39 y40 y41 y42 y43 y44 y45 y46 y47 y48 y49 y50 y51 y52 y53 y54 y55 y56 y57 y58 y59 y60 y61 y62 y63 y64 y65 y66 y67 y68 y69 y70 y71 y72 y73 y74 y75 y76 y77 y78 y79 y80 y81 y82 y83 y84 y85 y86 y87 y88 y89 y108 y109 y110 y111 y112 y113 y114 y115 y116 y117 y118 y119 y120 y121 y122 y123 : Value} {P : Program} {ops : Array Oper} {Q : Exit → Act → World → Prop} {i : Nat} {o : Oper} (hq : ∀ x90 x91 x92 x93 x94 x95 x96 x97 x98 x99 x100 x101 x102 x103 x104 x105 x106 x107 x10 (L : Nat → Bool) (W : World), ON14 W1 ta tb ga gb gx gy so ns sc io n1 ic jo n2 jc lo m1 lc mo m2 mc L x90 x91 x92 x93 x94 x95 x96 x97 x98 x99 x100 x101 x102 x103 x104 x105 x106 x107 x10 W → L i = false → (∀ j ∈ onesOf o, L j = true) → ∀ K : Act → World → Prop, Shut (∀ a' w', ION14 W1 ta tb ga gb gx gy so ns sc io n1 ic jo n2 jc lo m1 lc mo m2 mc y0 y1 y2 y3 y4 y5 y6 y7 y8 y9 y11 y12 y13 y14 y15 y16 y17 y18 y19 y20 y21 y22 y23 y24 y25 y26 y27 y28 y29 y30 y31 y32 y33 y34 y35 y36 y37 y38 y39 y40 y41 y42 y43 y44 y45 y46 y47 y48 y49 y50 y51 y52 y53 y54 y55 y56 y57 y58 y59 y60 y61 y62 y63 y64 y65 y66 y67 y68 y69 y70 y71 y72 y73 y74 y75 y76 y77 y78 y79 y80 y81 y82 y83 y84 y85 y86 y87 y88 y89 y108 y109 y110 y111 y112 y113 y114 y115 y116 y117 y118 y119 y120 y121 y122 y123 (upd L i) a' w' → K a' w') → if Region.wanted o (yielded ops (⟨#[y0, y1, y2, y3, y4, y5, y6, y7, y8, y9, x10, y11, y12, y13, y14, y15, y16, y17, y18, y19, y20, y21, y22, y23, y24, y25, y26, y27, y28, y29, y30, y31, y32, y33, y34, y35, y36, y37, y38, y39, y40, y41, y42, y43, y44, y45, y46, y47, y48, y49, y50, y51, y52, y53, y54, y55, y56, y57, y58, y59, y60, y61, y62, y63, y64, y65, y66, y67, y68, y69, y70, y71, y72, y73, y74, y75, y76, y77, y78, y79, y80, y81, y82, y83, y84, y85, y86, y87, y88, y89, x90, x91, x92, x93, x94, x95, x96, x97, x98, x99, x100, x101, x102, x103, x104, x105, x106, x107, y108, y109, y110, y111, y112, y113, y114, y115, y116, y117, y118, y119, y120, y121, y122, y123], []⟩ : Act).tmps) = true then Oper.wp P o ⟨#[y0, y1, y2, y3, y4, y5, y6, y7, y8, y9, x10, y11, y12, y13, y14, y15, y16, y17, y18, y19, y20, y21, y22, y23, y24, y25, y26, y27, y28, y29, y30, y31, y32, y33, y34, y35, y36, y37, y38, y39, y40, y41, y42, y43, y44, y45, y46, y47, y48, y49, y50, y51, y52, y53, y54, y55, y56, y57, y58, y59, y60, y61, y62, y63, y64, y65, y66, y67, y68, y69, y70, y71, y72, y73, y74, y75, y76, y77, y78, y79, y80, y81, y82, y83, y84, y85, y86, y87, y88, y89, x90, x91, x92, x93, x94, x95, x96, x97, x98, x99, x100, x101, x102, x103, x104, x105, x106, x107, y108, y109, y110, y111, y112, y113, y114, y115, y116, y117, y118, y119, y120, y121, y122, y123], []⟩ W K Q else K ((⟨#[y0, y1, y2, y3, y4, y5, y6, y7, y8, y9, x10, y11, y12, y13, y14, y15, y16, y17, y18, y19, y20, y21, y22, y23, y24, y25, y26, y27, y28, y29, y30, y31, y32, y33, y34, y35, y36, y37, y38, y39, y40, y41, y42, y43, y44, y45, y46, y47, y48, y49, y50, y51, y52, y53, y54, y55, y56, y57, y58, y59, y60, y61, y62, y63, y64, y65, y66, y67, y68, y69, y70, y71, y72, y73, y74, y75, y76, y77, y78, y79, y80, y81, y82, y83, y84, y85, y86, y87, y88, y89, x90, x91, x92, x93, x94, x95, x96, x97, x98, x99, x100, x101, x102, x103, x104, x105, x106, x107, y108, y109, y110, y111, y112, y113, y114, y115, y116, y117, y118, y119, y120, y121, y122, y123], []⟩ : Act).put o.dst undef) W) : StepI P ops (ION14 W1 ta tb ga gb gx gy so ns sc io n1 ic jo n2 jc lo m1 lc mo m2 mc y0 y1 y2 y3 y4 y5 y6 y7 y8 y9 y11 y12 y13 y14 y15 y16 y17 y18 y19 y20 y21 y22 y23 y24 y25 y26 y27 y28 y29 y30 y31 y32 y33 y34 y35 y36 y37 y38 y39 y40 y41 y42 y43 y44 y45 y46 y47 y48 y49 y50 y51 y52 y53 y54 y55 y56 y57 y58 y59 y60 y61 y62 y63 y64 y65 y66 y67 y68 y69 y70 y71 y72 y73 y74 y75 y76 y77 y78 y79 y80 y81 y82 y83 y84 y85 y86 y87 y88 y89 y108 y109 y110 y111 y112 y113 y114 y115 y116 y117 y118 y119 y120 y121 y122 y123) Q i o := by
  rintro L a W ⟨x90, x91, x92, x93, x94, x95, x96, x97, x98, x99, x100, x101, x102, x103, x104, x105, x106, x107, x10, rfl, h⟩
  exact hq _ _ _ _ _ _ _ _ _ _ _ _ _ _ _ _ _ _ _ _ _ h
structure ON15 (W1 : World) (L1 L2 : List (List By × List By × List By)) (ta tb : Tk) (ga gb gx gy : Nat) (so : Option Addr) (ns sc : Nat) (io : Option Addr) (n1 ic : Nat) (jo : Option Addr) (n2 jc : Nat) (lo : Option Addr) (m1 lc : Nat) (mo : Option Addr) (m2 mc : Nat) (L : Nat → Bool) (x108 x109 x110 x111 x112 x113 x114 x115 x116 x117 x118 x119 x120 x121 x122 x123 x10 : Value) (W : World) : Prop where
  x : P15 W1 L1 L2 (L 7) (L 12) (L 13) x115 x120 x121 W
  p0 : L 0 = true → x108 = .bool false
  p1 : L 1 = true → x109 = .bool true
  p2 : L 2 = true → x110 = .bool true
  p3 : L 3 = true → x111 = .slice so ns sc
  p4 : L 4 = true → x112 = .slice io n1 ic
  p5 : L 5 = true → x113 = .pointer (some ⟨gx, 2, none⟩)
  p6 : L 6 = true → x114 = .slice lo m1 lc
  p8 : L 8 = true → x116 = .slice so ns sc
  p9 : L 9 = true → x117 = .slice jo n2 jc
  p10 : L 10 = true → x118 = .pointer (some ⟨gy, 2, none⟩)
  p11 : L 11 = true → x119 = .slice mo m2 mc
  p14 : L 14 = true → x122 = .bool true
  p15 : L 15 = true → x123 = .bool true
  p16 : L 16 = true → x10 = .bool true
section
variable {W1 : World} {L1 L2 : List (List By × List By × List By)} {ta tb : Tk} {ga gb gx gy : Nat} {so : Option Addr} {ns sc : Nat} {io : Option Addr} {n1 ic : Nat} {jo : Option Addr} {n2 jc : Nat} {lo : Option Addr} {m1 lc : Nat} {mo : Option Addr} {m2 mc : Nat} {L : Nat → Bool} {x108 x109 x110 x111 x112 x113 x114 x115 x116 x117 x118 x119 x120 x121 x122 x123 x10 : Value} {W W2 : World}
theorem ON15.s0 (h : ON15 W1 L1 L2 ta tb ga gb gx gy so ns sc io n1 ic jo n2 jc lo m1 lc mo m2 mc L x108 x109 x110 x111 x112 x113 x114 x115 x116 x117 x118 x119 x120 x121 x122 x123 x10 W) : ON15 W1 L1 L2 ta tb ga gb gx gy so ns sc io n1 ic jo n2 jc lo m1 lc mo m2 mc (upd L 0) (.bool false) x109 x110 x111 x112 x113 x114 x115 x116 x117 x118 x119 x120 x121 x122 x123 x10 W :=
  ⟨h.x, fun _ => rfl, h.p1, h.p2, h.p3, h.p4, h.p5, h.p6, h.p8, h.p9, h.p10, h.p11, h.p14, h.p15, h.p16⟩
theorem ON15.s1 (h : ON15 W1 L1 L2 ta tb ga gb gx gy so ns sc io n1 ic jo n2 jc lo m1 lc mo m2 mc L x108 x109 x110 x111 x112 x113 x114 x115 x116 x117 x118 x119 x120 x121 x122 x123 x10 W) : ON15 W1 L1 L2 ta tb ga gb gx gy so ns sc io n1 ic jo n2 jc lo m1 lc mo m2 mc (upd L 1) x108 (.bool true) x110 x111 x112 x113 x114 x115 x116 x117 x118 x119 x120 x121 x122 x123 x10 W :=
  ⟨h.x, h.p0, fun _ => rfl, h.p2, h.p3, h.p4, h.p5, h.p6, h.p8, h.p9, h.p10, h.p11, h.p14, h.p15, h.p16⟩
theorem ON15.s7 (h : ON15 W1 L1 L2 ta tb ga gb gx gy so ns sc io n1 ic jo n2 jc lo m1 lc mo m2 mc L x108 x109 x110 x111 x112 x113 x114 x115 x116 x117 x118 x119 x120 x121 x122 x123 x10 W) {v : Value} (hX : P15 W1 L1 L2 ((upd L 7) 7) ((upd L 7) 12) ((upd L 7) 13) v x120 x121 W2) : ON15 W1 L1 L2 ta tb ga gb gx gy so ns sc io n1 ic jo n2 jc lo m1 lc mo m2 mc (upd L 7) x108 x109 x110 x111 x112 x113 x114 v x116 x117 x118 x119 x120 x121 x122 x123 x10 W2 :=
  ⟨hX, h.p0, h.p1, h.p2, h.p3, h.p4, h.p5, h.p6, h.p8, h.p9, h.p10, h.p11, h.p14, h.p15, h.p16⟩
theorem ON15.s12 (h : ON15 W1 L1 L2 ta tb ga gb gx gy so ns sc io n1 ic jo n2 jc lo m1 lc mo m2 mc L x108 x109 x110 x111 x112 x113 x114 x115 x116 x117 x118 x119 x120 x121 x122 x123 x10 W) {v : Value} (hX : P15 W1 L1 L2 ((upd L 12) 7) ((upd L 12) 12) ((upd L 12) 13) x115 v x121 W2) : ON15 W1 L1 L2 ta tb ga gb gx gy so ns sc io n1 ic jo n2 jc lo m1 lc mo m2 mc (upd L 12) x108 x109 x110 x111 x112 x113 x114 x115 x116 x117 x118 x119 v x121 x122 x123 x10 W2 :=
  ⟨hX, h.p0, h.p1, h.p2, h.p3, h.p4, h.p5, h.p6, h.p8, h.p9, h.p10, h.p11, h.p14, h.p15, h.p16⟩
theorem ON15.s13 (h : ON15 W1 L1 L2 ta tb ga gb gx gy so ns sc io n1 ic jo n2 jc lo m1 lc mo m2 mc L x108 x109 x110 x111 x112 x113 x114 x115 x116 x117 x118 x119 x120 x121 x122 x123 x10 W) {v : Value} (hX : P15 W1 L1 L2 ((upd L 13) 7) ((upd L 13) 12) ((upd L 13) 13) x115 x120 v W2) : ON15 W1 L1 L2 ta tb ga gb gx gy so ns sc io n1 ic jo n2 jc lo m1 lc mo m2 mc (upd L 13) x108 x109 x110 x111 x112 x113 x114 x115 x116 x117 x118 x119 x120 v x122 x123 x10 W2 :=
  ⟨hX, h.p0, h.p1, h.p2, h.p3, h.p4, h.p5, h.p6, h.p8, h.p9, h.p10, h.p11, h.p14, h.p15, h.p16⟩
end
@[reducible] def ION15 (W1 : World) (L1 L2 : List (List By × List By × List By)) (ta tb : Tk) (ga gb gx gy : Nat) (so : Option Addr) (ns sc : Nat) (io : Option Addr) (n1 ic : Nat) (jo : Option Addr) (n2 jc : Nat) (lo : Option Addr) (m1 lc : Nat) (mo : Option Addr) (m2 mc : Nat) (y0 y1 y2 y3 y4 y5 y6 y7 y8 y9 y11 y12 y13 y14 y15 y16 y17 y18 y19 y20 y21 y22 y23 y24 y25 y26 y27 y28 y29 y30 y31 y32 y33 y34 y35 y36 y37 y38 y39 y40 y41 y42 y43 y44 y45 y46 y47 y48 y49 y50 y51 y52 y53 y54 y55 y56 y57 y58 y59 y60 y61 y62 y63 y64 y65 y66 y67 y68 y69 y70 y71 y72 y73 y74 y75 y76 y77 y78 y79 y80 y81 y82 y83 y84 y85 y86 y87 y88 y89 y90 y91 y92 y93 y94 y95 y96 y97 y98 y99 y100 y101 y102 y103 y104 y105 y106 y107 : Value) : (Nat → Bool) → Act → World → Prop := fun L a W => ∃ x108 x109 x110 x111 x112 x113 x114 x115 x116 x117 x118 x119 x120 x121 x122 x123 x10, a = ⟨#[y0, y1, y2, y3, y4, y5, y6, y7, y8, y9, x10, y11, y12, y13, y14, y15, y16, y17, y18, y19, y20, y21, y22, y23, y24, y25, y26, y27, y28, y29, y30, y31, y32, y33, y34, y35, y36, y37, y38, y39, y40, y41, y42, y43, y44, y45, y46, y47, y48, y49, y50, y51, y52, y53, y54, y55, y56, y57, y58, y59, y60, y61, y62, y63, y64, y65, y66, y67, y68, y69, y70, y71, y72, y73, y74, y75, y76, y77, y78, y79, y80, y81, y82, y83, y84, y85, y86, y87, y88, y89, y90, y91, y92, y93, y94, y95, y96, y97, y98, y99, y100, y101, y102, y103, y104, y105, y106, y107, x108, x109, x110, x111, x112, x113, x114, x115, x116, x117, x118, x119, x120, x121, x122, x123], []⟩ ∧ ON15 W1 L1 L2 ta tb ga gb gx gy so ns sc io n1 ic jo n2 jc lo m1 lc mo m2 mc L x108 x109 x110 x111 x112 x113 x114 x115 x116 x117 x118 x119 x120 x121 x122 x123 x10 W
theorem ON15.step {W1 : World} {L1 L2 : List (List By × List By × List By)} {ta tb : Tk} {ga gb gx gy : Nat} {so : Option Addr} {ns sc : Nat} {io : Option Addr} {n1 ic : Nat} {jo : Option Addr} {n2 jc : Nat} {lo : Option Addr} {m1 lc : Nat} {mo : Option Addr} {m2 mc : Nat} {y0 y1 y2 y3 y4 y5 y6 y7 y8 y9 y11 y12 y13 y14 y15 y16 y17 y18 y19 y20 y21 y22 y23 y24 y25 y26 y27 y28 y29 y30 y31 y32 y33 y34 y35 y36 y37 y38 y39 y40 y41 y42 y43 y44 y45 y46 y47 y48 y49 y50 y51 y52 y53 y54 y55 y56 y57 y58 y59 y60 y61 y62 y63 y64 y65 y66 y67 y68 y69 y70 y71 y72 y73 y74 y75 y76 y77 y78 y79 y80 y81 y82 y83 y84 y85 y86 y87 y88 y89 y90 y91 y92 y93 y94 y95 y96 y97 y98 y99 y100 y101 y102 y103 y104 y105 y106 y107 : Value} {P : Program} {ops : Array Oper} {Q : Exit → Act → World → Prop} {i : Nat} {o : Oper} (hq : ∀ x108 x109 x110 x111 x112 x113 x114 x115 x116 x117 x118 x119 x120 x121 x122 x123 x10 (L : Nat → Bool) (W : World), ON15 W1 L1 L2 ta tb ga gb gx gy so ns sc io n1 ic jo n2 jc lo m1 lc mo m2 mc L x108 x109 x110 x111 x112 x113 x114 x115 x116 x117 x118 x119 x120 x121 x122 x123 x10 W → L i = false → (∀ j ∈ onesOf o, L j = true) → ∀ K : Act → World → Prop, Shut (∀ a' w', ION15 W1 L1 L2 ta tb ga gb gx gy so ns sc io n1 ic jo n2 jc lo m1 lc mo m2 mc y0 y1 y2 y3 y4 y5 y6 y7 y8 y9 y11 y12 y13 y14 y15 y16 y17 y18 y19 y20 y21 y22 y23 y24 y25 y26 y27 y28 y29 y30 y31 y32 y33 y34 y35 y36 y37 y38 y39 y40 y41 y42 y43 y44 y45 y46 y47 y48 y49 y50 y51 y52 y53 y54 y55 y56 y57 y58 y59 y60 y61 y62 y63 y64 y65 y66 y67 y68 y69 y70 y71 y72 y73 y74 y75 y76 y77 y78 y79 y80 y81 y82 y83 y84 y85 y86 y87 y88 y89 y90 y91 y92 y93 y94 y95 y96 y97 y98 y99 y100 y101 y102 y103 y104 y105 y106 y107 (upd L i) a' w' → K a' w') → if Region.wanted o (yielded ops (⟨#[y0, y1, y2, y3, y4, y5, y6, y7, y8, y9, x10, y11, y12, y13, y14, y15, y16, y17, y18, y19, y20, y21, y22, y23, y24, y25, y26, y27, y28, y29, y30, y31, y32, y33, y34, y35, y36, y37, y38, y39, y40, y41, y42, y43, y44, y45, y46, y47, y48, y49, y50, y51, y52, y53, y54, y55, y56, y57, y58, y59, y60, y61, y62, y63, y64, y65, y66, y67, y68, y69, y70, y71, y72, y73, y74, y75, y76, y77, y78, y79, y80, y81, y82, y83, y84, y85, y86, y87, y88, y89, y90, y91, y92, y93, y94, y95, y96, y97, y98, y99, y100, y101, y102, y103, y104, y105, y106, y107, x108, x109, x110, x111, x112, x113, x114, x115, x116, x117, x118, x119, x120, x121, x122, x123], []⟩ : Act).tmps) = true then Oper.wp P o ⟨#[y0, y1, y2, y3, y4, y5, y6, y7, y8, y9, x10, y11, y12, y13, y14, y15, y16, y17, y18, y19, y20, y21, y22, y23, y24, y25, y26, y27, y28, y29, y30, y31, y32, y33, y34, y35, y36, y37, y38, y39, y40, y41, y42, y43, y44, y45, y46, y47, y48, y49, y50, y51, y52, y53, y54, y55, y56, y57, y58, y59, y60, y61, y62, y63, y64, y65, y66, y67, y68, y69, y70, y71, y72, y73, y74, y75, y76, y77, y78, y79, y80, y81, y82, y83, y84, y85, y86, y87, y88, y89, y90, y91, y92, y93, y94, y95, y96, y97, y98, y99, y100, y101, y102, y103, y104, y105, y106, y107, x108, x109, x110, x111, x112, x113, x114, x115, x116, x117, x118, x119, x120, x121, x122, x123], []⟩ W K Q else K ((⟨#[y0, y1, y2, y3, y4, y5, y6, y7, y8, y9, x10, y11, y12, y13, y14, y15, y16, y17, y18, y19, y20, y21, y22, y23, y24, y25, y26, y27, y28, y29, y30, y31, y32, y33, y34, y35, y36, y37, y38, y39, y40, y41, y42, y43, y44, y45, y46, y47, y48, y49, y50, y51, y52, y53, y54, y55, y56, y57, y58, y59, y60, y61, y62, y63, y64, y65, y66, y67, y68, y69, y70, y71, y72, y73, y74, y75, y76, y77, y78, y79, y80, y81, y82, y83, y84, y85, y86, y87, y88, y89, y90, y91, y92, y93, y94, y95, y96, y97, y98, y99, y100, y101, y102, y103, y104, y105, y106, y107, x108, x109, x110, x111, x112, x113, x114, x115, x116, x117, x118, x119, x120, x121, x122, x123], []⟩ : Act).put o.dst undef) W) : StepI P ops (ION15 W1 L1 L2 ta tb ga gb gx gy so ns sc io n1 ic jo n2 jc lo m1 lc mo m2 mc y0 y1 y2 y3 y4 y5 y6 y7 y8 y9 y11 y12 y13 y14 y15 y16 y17 y18 y19 y20 y21 y22 y23 y24 y25 y26 y27 y28 y29 y30 y31 y32 y33 y34 y35 y36 y37 y38 y39 y40 y41 y42 y43 y44 y45 y46 y47 y48 y49 y50 y51 y52 y53 y54 y55 y56 y57 y58 y59 y60 y61 y62 y63 y64 y65 y66 y67 y68 y69 y70 y71 y72 y73 y74 y75 y76 y77 y78 y79 y80 y81 y82 y83 y84 y85 y86 y87 y88 y89 y90 y91 y92 y93 y94 y95 y96 y97 y98 y99 y100 y101 y102 y103 y104 y105 y106 y107) Q i o := by
  rintro L a W ⟨x108, x109, x110, x111, x112, x113, x114, x115, x116, x117, x118, x119, x120, x121, x122, x123, x10, rfl, h⟩
  exact hq _ _ _ _ _ _ _ _ _ _ _ _ _ _ _ _ _ _ _ h
set_option maxHeartbeats 4000000 in
/-- The last two statements. -/
theorem on10 (c3 c4 c5 c6 c7 c8 c9 c10 c11 c12 c13 c15 c17 c21 c22 c23 c24 c25 c26 c27 c28 c29 c30 c31 c32 c33 c34 c35 c36 c37 c38 c39 c40 c41 c42 c43 c44 c45 c46 c47 c48 c49 c50 c51 c52 c53 c54 c55 c56 c57 c58 c59 c60 c61 c62 c63 c64 c65 c66 c67 c68 c69 c70 c71 c72 c73 c74 c75 c76 c77 c78 c79 c80 c81 c82 c83 c84 c85 c86 c87 c88 c89 c90 c91 c92 c93 c94 c95 c96 c97 c98 c99 c100 c101 c102 c103 c104 c105 c106 c107 c108 c109 c110 c111 c112 c113 c114 c115 c116 c117 c118 c119 c120 c121 c122 c123 : Value) (w Wa : World) (s : List By) (so : Option Addr) (sc : Nat) (id : List By) (io : Option Addr) (ic : Nat) (id2 : List By) (jo : Option Addr) (jc : Nat) (ta tb : Tk) (ga gb gx gy : Nat) (CA CB CX CY : List Value) (lo : Option Addr) (lc : Nat) (mo : Option Addr) (mc : Nat) (O : OnM Wa s so sc id io ic id2 jo jc) (M : OnT Wa s id id2 ta tb ga gb gx gy CA CB CX CY lo lc mo mc) (sm : Bool) (hsm : sm = true ↔ (id = id2 ∧ ta.cs = tb.cs)) (hB : Below w.heap.size w Wa) : Code.wp Tryz.prog (dropS 10 (Tryz.f4.body.getD .skip)) (bodyPost Tryz.prog Tryz.f4 (OkP w)) ⟨#[.slice so s.length sc, .slice io id.length ic, .slice jo id2.length jc, c3, c4, c5, c6, c7, c8, c9, c10, c11, c12, c13, .pointer (some ⟨ga, 0, none⟩), c15, .pointer (some ⟨gb, 0, none⟩), c17, .pointer (some ⟨gx, 0, none⟩), .pointer (some ⟨gy, 0, none⟩), .bool sm, c21, c22, c23, c24, c25, c26, c27, c28, c29, c30, c31, c32, c33, c34, c35, c36, c37, c38, c39, c40, c41, c42, c43, c44, c45, c46, c47, c48, c49, c50, c51, c52, c53, c54, c55, c56, c57, c58, c59, c60, c61, c62, c63, c64, c65, c66, c67, c68, c69, c70, c71, c72, c73, c74, c75, c76, c77, c78, c79, c80, c81, c82, c83, c84, c85, c86, c87, c88, c89, c90, c91, c92, c93, c94, c95, c96, c97, c98, c99, c100, c101, c102, c103, c104, c105, c106, c107, c108, c109, c110, c111, c112, c113, c114, c115, c116, c117, c118, c119, c120, c121, c122, c123], []⟩ Wa := by
  have HO : Hid (OnM Wa s so sc id io ic id2 jo jc) := O
  have HT : Hid (OnT Wa s id id2 ta tb ga gb gx gy CA CB CX CY lo lc mo mc) := M
  have LA : Hid (ta.tag.length = 32) := by show _ = _; rw [M.ea]; exact rightT_len _ _ _
  have LB : Hid (tb.tag.length = 32) := by show _ = _; rw [M.eb]; exact rightT_len _ _ _
  have LA2 : Hid ((ta.tag.map B8).length = 32) := by show _ = _; rw [List.length_map, LA.out]
  have LB2 : Hid ((tb.tag.map B8).length = 32) := by show _ = _; rw [List.length_map, LB.out]
  obtain ⟨et, het⟩ : ∃ et : Bool, et = decide (ta.tag = tb.tag) := ⟨_, rfl⟩
  have EQT := fun W => eq_any ta.tag tb.tag LA.out LB.out et het W
  have EQA := fun W => eq_any ta.tag ta.tag LA.out LA.out true (by simp) W
  have EQB := fun W => eq_any tb.tag tb.tag LB.out LB.out true (by simp) W
  have HSM : Hid (sm = true → et = true) := fun h => by
    obtain ⟨h1, h2⟩ := hsm.1 h
    rw [het, decide_eq_true_iff, M.ea, M.eb, h1, h2]
  have RG1 : Hid (∀ W, Below Wa.heap.size Wa W → Calls Tryz.prog 19 #[.slice so s.length sc, .slice io id.length ic, .slice lo ta.cs.length lc] W fun e w' => e = .returned (.agg (ta.tag.map B8).toArray) ∧ Below W.heap.size W w') := fun W h => by
    rw [M.ea]
    exact r24Right_any so sc s io ic id lo lc ta.cs W (O.keep h).hs O.hsn (by have := O.hsb; omega) (O.keep h).hi O.hin O.hib (M.cx.keep h) (fun c hc => (M.oka c hc).1) M.la
  have RG2 : Hid (∀ W, Below Wa.heap.size Wa W → Calls Tryz.prog 19 #[.slice so s.length sc, .slice jo id2.length jc, .slice mo tb.cs.length mc] W fun e w' => e = .returned (.agg (tb.tag.map B8).toArray) ∧ Below W.heap.size W w') := fun W h => by
    rw [M.eb]
    exact r24Right_any so sc s jo jc id2 mo mc tb.cs W (O.keep h).hs O.hsn (by have := O.hsb; omega) (O.keep h).hj O.hjn O.hjb (M.cy.keep h) (fun c hc => (M.okb c hc).1) M.lb
  have PG1 : Hid (∀ W, Below Wa.heap.size Wa W → Calls Tryz.prog 21 #[.slice so s.length sc, .slice io id.length ic, .slice lo ta.cs.length lc] W (PrsP s id ta.cs W)) := fun W h => r24Pairs_any so sc s io ic id lo lc ta.cs W (O.keep h).hs O.hsn (by have := O.hsb; omega) (O.keep h).hi O.hin O.hib (M.cx.keep h) (fun c hc => (M.oka c hc).1) M.la
  have PG2 : Hid (∀ W, Below Wa.heap.size Wa W → Calls Tryz.prog 21 #[.slice so s.length sc, .slice jo id2.length jc, .slice mo tb.cs.length mc] W (PrsP s id2 tb.cs W)) := fun W h => r24Pairs_any so sc s jo jc id2 mo mc tb.cs W (O.keep h).hs O.hsn (by have := O.hsb; omega) (O.keep h).hj O.hjn O.hjb (M.cy.keep h) (fun c hc => (M.okb c hc).1) M.lb
  have CLS : Hid (et = true → sm = false → clashP (prs tag s id ta.cs ++ prs tag s id2 tb.cs)) := fun h1 h2 => by
    refine only24 tag s ta.cs.length id id2 ta.cs tb.cs (Nat.le_refl _) (fun c hc => ⟨(M.oka c hc).2, (M.oka c hc).1.z⟩) (fun c hc => ⟨(M.okb c hc).2, (M.okb c hc).1.z⟩) ?_ ?_
    · rw [← M.ea, ← M.eb]; rw [het] at h1; exact of_decide_eq_true h1
    · intro h3; rw [hsm.2 h3] at h2; cases h2
  have HB : Hid (Below w.heap.size w Wa) := hB
  have RA : Hid (∀ W, Below Wa.heap.size Wa W → Row W ga 40 CA) := fun W h => M.ra.below h M.ra.lt
  have RB : Hid (∀ W, Below Wa.heap.size Wa W → Row W gb 40 CB) := fun W h => M.rb.below h M.rb.lt
  have XC : Hid (∀ W, Below Wa.heap.size Wa W → W.cell? ⟨gx, 2, none⟩ = some (.slice lo ta.cs.length lc)) := fun W h => (M.rx.below h M.rx.lt).cell 2 _ M.x2
  have YC : Hid (∀ W, Below Wa.heap.size Wa W → W.cell? ⟨gy, 2, none⟩ = some (.slice mo tb.cs.length mc)) := fun W h => (M.ry.below h M.ry.lt).cell 2 _ M.y2
  have PA : Hid ((CA.drop 3).take 32 = ta.tag.map B8) := M.pa
  have PB : Hid ((CB.drop 3).take 32 = tb.tag.map B8) := M.pb
  have N1 : Hid (ta.cs.length + 1 = (prs tag s id ta.cs).length ∧ (prs tag s id ta.cs).length ≤ 33) := ⟨by rw [prs_len], by rw [prs_len]; have := M.la; omega⟩
  have N2 : Hid (tb.cs.length + 1 = (prs tag s id2 tb.cs).length ∧ (prs tag s id2 tb.cs).length ≤ 33) := ⟨by rw [prs_len], by rw [prs_len]; have := M.lb; omega⟩
  clear O M hsm hB het
  conv => arg 2; whnf
  go_upto_region 13 with fail
  have K1 : Hid True := trivial
  have K2 : Hid True := trivial
  have HIF : Hid (sm = et ∨ (sm = false ∧ et = true)) := by
    cases sm <;> cases et <;> first | exact .inl rfl | exact .inr ⟨rfl, rfl⟩ | exact absurd (HSM.out rfl) (by simp)
  clear HSM
  rcases HIF.out with he | ⟨he1, he2⟩
  · subst he
    have e1 : (sm == sm) = true := by simp
    clear HIF CLS PG1 PG2
    go_upto_region 14 with (first
      | (have hz := K1; clear hz; refine wpList_load_part24 rfl 26 (.tmp 83) rfl ga 3 40 32 CA (RA.out _ (Below.refl _ _)) rfl _ (ta.tag.map B8) PA.out LA2.out Tryz.underlying26 rfl (by kernel_rfl) ?_; clear K1)
      | (have hz := K2; clear hz; refine wpList_load_part24 rfl 26 (.tmp 85) rfl gb 3 40 32 CB (RB.out _ (Below.refl _ _)) rfl _ (tb.tag.map B8) PB.out LB2.out Tryz.underlying26 rfl (by kernel_rfl) ?_; clear K2))
    clear EQT
    generalize s.length = ns at *
    generalize id.length = n1 at *
    generalize id2.length = n2 at *
    generalize ta.cs.length = m1 at *
    generalize tb.cs.length = m2 at *
    refine wp_region_inv (ION14 Wa ta tb ga gb gx gy so ns sc io n1 ic jo n2 jc lo m1 lc mo m2 mc _ _ _ _ _ _ _ _ _ _ _ _ _ _ _ _ _ _ _ _ _ _ _ _ _ _ _ _ _ _ _ _ _ _ _ _ _ _ _ _ _ _ _ _ _ _ _ _ _ _ _ _ _ _ _ _ _ _ _ _ _ _ _ _ _ _ _ _ _ _ _ _ _ _ _ _ _ _ _ _ _ _ _ _ _ _ _ _ _ _ _ _ _ _ _ _ _ _ _ _ _ _ _ _ _) (by kernel_rfl) (by kernel_rfl) ⟨_, _, _, _, _, _, _, _, _, _, _, _, _, _, _, _, _, _, _, rfl, ⟨(Below.refl _ _).drew, fun k => (by cases k), fun k => (by cases k), fun k => (by cases k), fun k => (by cases k), fun k => (by cases k), fun k => (by cases k), fun k => (by cases k), fun k => (by cases k), fun k => (by cases k), fun k => (by cases k), fun k => (by cases k), fun k => (by cases k), fun k => (by cases k), fun k => (by cases k), fun k => (by cases k), fun k => (by cases k), fun k => (by cases k), fun k => (by cases k), fun k => (by cases k)⟩⟩ ?_ ?_
    · refine .cons ?_ (.cons ?_ (.cons ?_ (.cons ?_ (.cons ?_ (.cons ?_ (.cons ?_ (.cons ?_ (.cons ?_ (.cons ?_ (.cons ?_ (.cons ?_ (.cons ?_ (.cons ?_ (.cons ?_ (.cons ?_ (.cons ?_ (.cons ?_ (.cons ?_ .nil))))))))))))))))))
      all_goals (refine ON14.step ?_; intro x90 x91 x92 x93 x94 x95 x96 x97 x98 x99 x100 x101 x102 x103 x104 x105 x106 x107 x10 L W hI hL hd K hK)
      · rw [if_pos (by rfl)]
        go_simp
        exact hK.out _ _ ⟨_, _, _, _, _, _, _, _, _, _, _, _, _, _, _, _, _, _, _, rfl, { hI with p0 := fun _ => rfl }⟩
      · obtain rfl := hI.p0 (hd 0 (by decide))
        refine step_load_part (by rfl) 26 _ rfl ga 3 40 32 CA (RA.out W hI.x) rfl _ (ta.tag.map B8) PA.out LA2.out Tryz.underlying26 rfl (by kernel_rfl) ?_
        exact hK.out _ _ ⟨_, _, _, _, _, _, _, _, _, _, _, _, _, _, _, _, _, _, _, rfl, { hI with p1 := fun _ => rfl }⟩
      · rw [if_pos (by rfl)]
        go_simp
        exact hK.out _ _ ⟨_, _, _, _, _, _, _, _, _, _, _, _, _, _, _, _, _, _, _, rfl, { hI with p2 := fun _ => rfl }⟩
      · rw [if_pos (by rfl)]
        go_simp
        exact hK.out _ _ ⟨_, _, _, _, _, _, _, _, _, _, _, _, _, _, _, _, _, _, _, rfl, { hI with p3 := fun _ => rfl }⟩
      · rw [if_pos (by rfl)]
        go_simp
        exact hK.out _ _ ⟨_, _, _, _, _, _, _, _, _, _, _, _, _, _, _, _, _, _, _, rfl, { hI with p4 := fun _ => rfl }⟩
      · obtain rfl := hI.p4 (hd 4 (by decide))
        rw [if_pos (by rfl)]
        have hc := XC.out W hI.x
        go_simp
        exact hK.out _ _ ⟨_, _, _, _, _, _, _, _, _, _, _, _, _, _, _, _, _, _, _, rfl, { hI with p5 := fun _ => rfl }⟩
      · obtain rfl := hI.p2 (hd 2 (by decide))
        obtain rfl := hI.p3 (hd 3 (by decide))
        obtain rfl := hI.p5 (hd 5 (by decide))
        rw [if_pos (by rfl)]
        go_simp
        refine (RG1.out W hI.x).mono ?_
        rintro e W2 ⟨rfl, hb9⟩
        go_simp
        have hX := hI.x.trans (hb9.mono hI.x.size)
        exact hK.out _ _ ⟨_, _, _, _, _, _, _, _, _, _, _, _, _, _, _, _, _, _, _, rfl, { hI with x := hX, p6 := fun _ => rfl }⟩
      · obtain rfl := hI.p1 (hd 1 (by decide))
        obtain rfl := hI.p6 (hd 6 (by decide))
        rw [if_pos (by rfl)]
        have heq := EQA W
        go_simp
        exact hK.out _ _ ⟨_, _, _, _, _, _, _, _, _, _, _, _, _, _, _, _, _, _, _, rfl, { hI with p7 := fun _ => rfl }⟩
      · obtain rfl := hI.p7 (hd 7 (by decide))
        rw [if_pos (by rfl)]
        go_simp
        exact hK.out _ _ ⟨_, _, _, _, _, _, _, _, _, _, _, _, _, _, _, _, _, _, _, rfl, { hI with p8 := fun _ => rfl }⟩
      · obtain rfl := hI.p8 (hd 8 (by decide))
        rw [if_pos (by rfl)]
        go_simp
        exact hK.out _ _ ⟨_, _, _, _, _, _, _, _, _, _, _, _, _, _, _, _, _, _, _, rfl, { hI with p9 := fun _ => rfl }⟩
      · obtain rfl := hI.p9 (hd 9 (by decide))
        obtain rfl := hI.p8 (hd 8 (by decide))
        refine step_load_part (by rfl) 26 _ rfl gb 3 40 32 CB (RB.out W hI.x) rfl _ (tb.tag.map B8) PB.out LB2.out Tryz.underlying26 rfl (by kernel_rfl) ?_
        exact hK.out _ _ ⟨_, _, _, _, _, _, _, _, _, _, _, _, _, _, _, _, _, _, _, rfl, { hI with p10 := fun _ => rfl }⟩
      · obtain rfl := hI.p8 (hd 8 (by decide))
        rw [if_pos (by rfl)]
        go_simp
        exact hK.out _ _ ⟨_, _, _, _, _, _, _, _, _, _, _, _, _, _, _, _, _, _, _, rfl, { hI with p11 := fun _ => rfl }⟩
      · obtain rfl := hI.p8 (hd 8 (by decide))
        rw [if_pos (by rfl)]
        go_simp
        exact hK.out _ _ ⟨_, _, _, _, _, _, _, _, _, _, _, _, _, _, _, _, _, _, _, rfl, { hI with p12 := fun _ => rfl }⟩
      · obtain rfl := hI.p8 (hd 8 (by decide))
        rw [if_pos (by rfl)]
        go_simp
        exact hK.out _ _ ⟨_, _, _, _, _, _, _, _, _, _, _, _, _, _, _, _, _, _, _, rfl, { hI with p13 := fun _ => rfl }⟩
      · obtain rfl := hI.p13 (hd 13 (by decide))
        obtain rfl := hI.p8 (hd 8 (by decide))
        rw [if_pos (by rfl)]
        have hc := YC.out W hI.x
        go_simp
        exact hK.out _ _ ⟨_, _, _, _, _, _, _, _, _, _, _, _, _, _, _, _, _, _, _, rfl, { hI with p14 := fun _ => rfl }⟩
      · obtain rfl := hI.p11 (hd 11 (by decide))
        obtain rfl := hI.p12 (hd 12 (by decide))
        obtain rfl := hI.p14 (hd 14 (by decide))
        obtain rfl := hI.p8 (hd 8 (by decide))
        rw [if_pos (by rfl)]
        go_simp
        refine (RG2.out W hI.x).mono ?_
        rintro e W2 ⟨rfl, hb9⟩
        go_simp
        have hX := hI.x.trans (hb9.mono hI.x.size)
        exact hK.out _ _ ⟨_, _, _, _, _, _, _, _, _, _, _, _, _, _, _, _, _, _, _, rfl, { hI with x := hX, p15 := fun _ => rfl }⟩
      · obtain rfl := hI.p10 (hd 10 (by decide))
        obtain rfl := hI.p15 (hd 15 (by decide))
        obtain rfl := hI.p8 (hd 8 (by decide))
        rw [if_pos (by rfl)]
        have heq := EQB W
        go_simp
        exact hK.out _ _ ⟨_, _, _, _, _, _, _, _, _, _, _, _, _, _, _, _, _, _, _, rfl, { hI with p16 := fun _ => rfl }⟩
      · obtain rfl := hI.p8 (hd 8 (by decide))
        obtain rfl := hI.p16 (hd 16 (by decide))
        rw [if_pos (by rfl)]
        go_simp
        exact hK.out _ _ ⟨_, _, _, _, _, _, _, _, _, _, _, _, _, _, _, _, _, _, _, rfl, { hI with p17 := fun _ => rfl }⟩
      · obtain rfl := hI.p17 (hd 17 (by decide))
        rw [if_pos (by rfl)]
        go_simp
        exact hK.out _ _ ⟨_, _, _, _, _, _, _, _, _, _, _, _, _, _, _, _, _, _, _, rfl, { hI with p18 := fun _ => rfl }⟩
    · rintro L _ W hall ⟨x90, x91, x92, x93, x94, x95, x96, x97, x98, x99, x100, x101, x102, x103, x104, x105, x106, x107, x10, rfl, hI⟩
      obtain rfl := hI.p0 (hall 0 (by decide))
      obtain rfl := hI.p1 (hall 1 (by decide))
      obtain rfl := hI.p2 (hall 2 (by decide))
      obtain rfl := hI.p3 (hall 3 (by decide))
      obtain rfl := hI.p4 (hall 4 (by decide))
      obtain rfl := hI.p5 (hall 5 (by decide))
      obtain rfl := hI.p6 (hall 6 (by decide))
      obtain rfl := hI.p7 (hall 7 (by decide))
      obtain rfl := hI.p8 (hall 8 (by decide))
      obtain rfl := hI.p9 (hall 9 (by decide))
      obtain rfl := hI.p10 (hall 10 (by decide))
      obtain rfl := hI.p11 (hall 11 (by decide))
      obtain rfl := hI.p12 (hall 12 (by decide))
      obtain rfl := hI.p13 (hall 13 (by decide))
      obtain rfl := hI.p14 (hall 14 (by decide))
      obtain rfl := hI.p15 (hall 15 (by decide))
      obtain rfl := hI.p16 (hall 16 (by decide))
      obtain rfl := hI.p17 (hall 17 (by decide))
      obtain rfl := hI.p18 (hall 18 (by decide))
      have hXe := hI.x
      clear hI hall
      try dsimp only
      have HX : Hid (Below w.heap.size w W) := HB.out.trans (hXe.mono HB.out.size)
      clear hXe
      go_wp2
      go_ret
      exact ⟨rfl, HX.out⟩
  · subst he1; subst he2
    have CL := CLS.out rfl rfl
    clear HIF CLS RG1 RG2
    have CLC : Hid (∀ (W : World) (g c : Nat), PrIn W g 0 (prs tag s id ta.cs ++ prs tag s id2 tb.cs) → Calls Tryz.prog 20 #[.slice (some ⟨g, 0, none⟩) (prs tag s id ta.cs ++ prs tag s id2 tb.cs).length c] W fun e w' => e = .returned (.bool true) ∧ Below W.heap.size W w') := fun W g c h => r24Clash_any g 0 c _ W h (fun p hp => by rcases List.mem_append.1 hp with h | h; exact prs_tags _ _ _ _ h; exact prs_tags _ _ _ _ h) (by rw [List.length_append]; have := N1.out.2; have := N2.out.2; omega) true (by simp [CL])
    have TG : Hid (∀ p ∈ prs tag s id ta.cs ++ prs tag s id2 tb.cs, p.2.2.length = 32) := fun p hp => by rcases List.mem_append.1 hp with h | h; exact prs_tags _ _ _ _ h; exact prs_tags _ _ _ _ h
    have TG2 : Hid (((prs tag s id2 tb.cs).flatMap prC).length = (prs tag s id2 tb.cs).length * 34) := flP_len _ (prs_tags _ _ _)
    have PG3 : Hid (∀ W, Below Wa.heap.size Wa W → Calls Tryz.prog 21 #[.slice so s.length sc, .slice io id.length ic, .slice lo ta.cs.length lc] W fun e w' => ∃ ao c', e = .returned (.slice ao (prs tag s id ta.cs).length c') ∧ w'.ownsRow W.heap.size 98 34 (.slice ao (prs tag s id ta.cs).length c') (prs tag s id ta.cs).length ((prs tag s id ta.cs).flatMap prC) ∧ Below W.heap.size W w') := fun W h => by rw [← N1.out.1]; exact PG1.out W h
    have PG4 : Hid (∀ W, Below Wa.heap.size Wa W → Calls Tryz.prog 21 #[.slice so s.length sc, .slice jo id2.length jc, .slice mo tb.cs.length mc] W fun e w' => ∃ ao c', e = .returned (.slice ao (prs tag s id2 tb.cs).length c') ∧ w'.ownsRow W.heap.size 98 34 (.slice ao (prs tag s id2 tb.cs).length c') (prs tag s id2 tb.cs).length ((prs tag s id2 tb.cs).flatMap prC) ∧ Below W.heap.size W w') := fun W h => by rw [← N2.out.1]; exact PG2.out W h
    clear PG1 PG2 CL
    have NP1 : Hid (0 < (prs tag s id ta.cs).length) := by show 0 < _; have := N1.out.1; omega
    have NP2 : Hid (0 < (prs tag s id2 tb.cs).length) := by show 0 < _; have := N2.out.1; omega
    have B1 : Hid ((prs tag s id ta.cs).length ≤ 33) := N1.out.2
    have B2 : Hid ((prs tag s id2 tb.cs).length ≤ 33) := N2.out.2
    clear N1 N2
    generalize prs tag s id ta.cs = L1 at *
    generalize prs tag s id2 tb.cs = L2 at *
    go_upto_region 15 with (first
      | (have hz := K1; clear hz; refine wpList_load_part24 rfl 26 (.tmp 83) rfl ga 3 40 32 CA (RA.out _ (Below.refl _ _)) rfl _ (ta.tag.map B8) PA.out LA2.out Tryz.underlying26 rfl (by kernel_rfl) ?_; clear K1)
      | (have hz := K2; clear hz; refine wpList_load_part24 rfl 26 (.tmp 85) rfl gb 3 40 32 CB (RB.out _ (Below.refl _ _)) rfl _ (tb.tag.map B8) PB.out LB2.out Tryz.underlying26 rfl (by kernel_rfl) ?_; clear K2))
    clear EQT EQA EQB
    generalize s.length = ns at *
    generalize id.length = n1 at *
    generalize id2.length = n2 at *
    generalize ta.cs.length = m1 at *
    generalize tb.cs.length = m2 at *
    refine wp_region_inv (ION15 Wa L1 L2 ta tb ga gb gx gy so ns sc io n1 ic jo n2 jc lo m1 lc mo m2 mc _ _ _ _ _ _ _ _ _ _ _ _ _ _ _ _ _ _ _ _ _ _ _ _ _ _ _ _ _ _ _ _ _ _ _ _ _ _ _ _ _ _ _ _ _ _ _ _ _ _ _ _ _ _ _ _ _ _ _ _ _ _ _ _ _ _ _ _ _ _ _ _ _ _ _ _ _ _ _ _ _ _ _ _ _ _ _ _ _ _ _ _ _ _ _ _ _ _ _ _ _ _ _ _ _ _ _) (by kernel_rfl) (by kernel_rfl) ⟨_, _, _, _, _, _, _, _, _, _, _, _, _, _, _, _, _, rfl, ⟨P15.zero _ _ _ _ _ _, fun k => (by cases k), fun k => (by cases k), fun k => (by cases k), fun k => (by cases k), fun k => (by cases k), fun k => (by cases k), fun k => (by cases k), fun k => (by cases k), fun k => (by cases k), fun k => (by cases k), fun k => (by cases k), fun k => (by cases k), fun k => (by cases k), fun k => (by cases k)⟩⟩ ?_ ?_
    · refine .cons ?_ (.cons ?_ (.cons ?_ (.cons ?_ (.cons ?_ (.cons ?_ (.cons ?_ (.cons ?_ (.cons ?_ (.cons ?_ (.cons ?_ (.cons ?_ (.cons ?_ (.cons ?_ (.cons ?_ (.cons ?_ (.cons ?_ .nil))))))))))))))))
      all_goals (refine ON15.step ?_; intro x108 x109 x110 x111 x112 x113 x114 x115 x116 x117 x118 x119 x120 x121 x122 x123 x10 L W hI hL hd K hK)
      · rw [if_pos (by rfl)]
        go_simp
        exact hK.out _ _ ⟨_, _, _, _, _, _, _, _, _, _, _, _, _, _, _, _, _, rfl, { hI with p0 := fun _ => rfl }⟩
      · obtain rfl := hI.p0 (hd 0 (by decide))
        rw [if_pos (by rfl)]
        go_simp
        exact hK.out _ _ ⟨_, _, _, _, _, _, _, _, _, _, _, _, _, _, _, _, _, rfl, { hI with p1 := fun _ => rfl }⟩
      · obtain rfl := hI.p1 (hd 1 (by decide))
        rw [if_pos (by rfl)]
        go_simp
        exact hK.out _ _ ⟨_, _, _, _, _, _, _, _, _, _, _, _, _, _, _, _, _, rfl, { hI with p2 := fun _ => rfl }⟩
      · obtain rfl := hI.p2 (hd 2 (by decide))
        rw [if_pos (by rfl)]
        go_simp
        exact hK.out _ _ ⟨_, _, _, _, _, _, _, _, _, _, _, _, _, _, _, _, _, rfl, { hI with p3 := fun _ => rfl }⟩
      · obtain rfl := hI.p2 (hd 2 (by decide))
        rw [if_pos (by rfl)]
        go_simp
        exact hK.out _ _ ⟨_, _, _, _, _, _, _, _, _, _, _, _, _, _, _, _, _, rfl, { hI with p4 := fun _ => rfl }⟩
      · obtain rfl := hI.p2 (hd 2 (by decide))
        rw [if_pos (by rfl)]
        go_simp
        exact hK.out _ _ ⟨_, _, _, _, _, _, _, _, _, _, _, _, _, _, _, _, _, rfl, { hI with p5 := fun _ => rfl }⟩
      · obtain rfl := hI.p5 (hd 5 (by decide))
        obtain rfl := hI.p2 (hd 2 (by decide))
        rw [if_pos (by rfl)]
        have hc := XC.out W hI.x.bel
        go_simp
        exact hK.out _ _ ⟨_, _, _, _, _, _, _, _, _, _, _, _, _, _, _, _, _, rfl, { hI with p6 := fun _ => rfl }⟩
      · obtain rfl := hI.p3 (hd 3 (by decide))
        obtain rfl := hI.p4 (hd 4 (by decide))
        obtain rfl := hI.p6 (hd 6 (by decide))
        obtain rfl := hI.p2 (hd 2 (by decide))
        rw [if_pos (by rfl)]
        go_simp
        refine (PG3.out W hI.x.bel).mono ?_
        rintro e W2 ⟨ao9, c9, rfl, ho9, hb9⟩
        go_simp
        have hX := hI.x.s7 hL hb9 ho9 (q' := true) rfl
        exact hK.out _ _ ⟨_, _, _, _, _, _, _, _, _, _, _, _, _, _, _, _, _, rfl, { hI with x := hX }⟩
      · obtain rfl := hI.p2 (hd 2 (by decide))
        rw [if_pos (by rfl)]
        go_simp
        exact hK.out _ _ ⟨_, _, _, _, _, _, _, _, _, _, _, _, _, _, _, _, _, rfl, { hI with p8 := fun _ => rfl }⟩
      · obtain rfl := hI.p2 (hd 2 (by decide))
        rw [if_pos (by rfl)]
        go_simp
        exact hK.out _ _ ⟨_, _, _, _, _, _, _, _, _, _, _, _, _, _, _, _, _, rfl, { hI with p9 := fun _ => rfl }⟩
      · obtain rfl := hI.p2 (hd 2 (by decide))
        rw [if_pos (by rfl)]
        go_simp
        exact hK.out _ _ ⟨_, _, _, _, _, _, _, _, _, _, _, _, _, _, _, _, _, rfl, { hI with p10 := fun _ => rfl }⟩
      · obtain rfl := hI.p10 (hd 10 (by decide))
        obtain rfl := hI.p2 (hd 2 (by decide))
        rw [if_pos (by rfl)]
        have hc := YC.out W hI.x.bel
        go_simp
        exact hK.out _ _ ⟨_, _, _, _, _, _, _, _, _, _, _, _, _, _, _, _, _, rfl, { hI with p11 := fun _ => rfl }⟩
      · obtain rfl := hI.p8 (hd 8 (by decide))
        obtain rfl := hI.p9 (hd 9 (by decide))
        obtain rfl := hI.p11 (hd 11 (by decide))
        obtain rfl := hI.p2 (hd 2 (by decide))
        rw [if_pos (by rfl)]
        go_simp
        refine (PG4.out W hI.x.bel).mono ?_
        rintro e W2 ⟨ao9, c9, rfl, ho9, hb9⟩
        go_simp
        have hX := hI.x.s12 hL hb9 ho9 (q' := true) rfl
        exact hK.out _ _ ⟨_, _, _, _, _, _, _, _, _, _, _, _, _, _, _, _, _, rfl, { hI with x := hX }⟩
      · obtain rfl := hI.p2 (hd 2 (by decide))
        obtain ⟨ao7, c7, e7, ho7⟩ := hI.x.v7 (hd 7 (by decide)) hL
        obtain ⟨ao8, c8, e8, ho8⟩ := hI.x.v12 (hd 12 (by decide)) hL
        obtain ⟨g8, e9, isl8⟩ := own_isL ho8 NP2.out
        refine step_append_any el_pairs24 (by rfl) (.tmp 115) (.tmp 120) rfl Wa.heap.size ao7 L1.length c7 (L1.flatMap prC) e7 ho7 hI.x.bel.size ao8 L2.length c8 (L2.flatMap prC) e8 TG2.out isl8 (flP_one _) (fun h => (by rw [e9] at h; cases h)) (by have := B1.out; have := B2.out; unfold maxLen; omega) (by have := B1.out; have := B2.out; omega) ?_
        intro ao9 c9 W2 g1 g2 g3 g4
        have hX := hI.x.s13 (hd 7 (by decide)) (hd 12 (by decide)) g2 g1 (q' := true) rfl
        exact hK.out _ _ ⟨_, _, _, _, _, _, _, _, _, _, _, _, _, _, _, _, _, rfl, { hI with x := hX }⟩
      · obtain rfl := hI.p2 (hd 2 (by decide))
        rw [if_pos (by rfl)]
        go_simp
        obtain ⟨ao7, c7, e7, ho7⟩ := hI.x.v13 (hd 13 (by decide))
        obtain ⟨g8, e8, _⟩ := own_isL ho7 (by have := NP1.out; omega)
        subst e8
        subst e7
        have CC := CLC.out W g8 c7 (prIn_own ho7 TG.out)
        rw [List.length_append] at CC
        refine CC.mono ?_
        rintro e W2 ⟨rfl, hb9⟩
        go_simp
        have hX := hI.x.keep hb9
        exact hK.out _ _ ⟨_, _, _, _, _, _, _, _, _, _, _, _, _, _, _, _, _, rfl, { hI with x := hX, p14 := fun _ => rfl }⟩
      · obtain rfl := hI.p2 (hd 2 (by decide))
        obtain rfl := hI.p14 (hd 14 (by decide))
        rw [if_pos (by rfl)]
        go_simp
        exact hK.out _ _ ⟨_, _, _, _, _, _, _, _, _, _, _, _, _, _, _, _, _, rfl, { hI with p15 := fun _ => rfl }⟩
      · obtain rfl := hI.p15 (hd 15 (by decide))
        rw [if_pos (by rfl)]
        go_simp
        exact hK.out _ _ ⟨_, _, _, _, _, _, _, _, _, _, _, _, _, _, _, _, _, rfl, { hI with p16 := fun _ => rfl }⟩
    · rintro L _ W hall ⟨x108, x109, x110, x111, x112, x113, x114, x115, x116, x117, x118, x119, x120, x121, x122, x123, x10, rfl, hI⟩
      obtain rfl := hI.p0 (hall 0 (by decide))
      obtain rfl := hI.p1 (hall 1 (by decide))
      obtain rfl := hI.p2 (hall 2 (by decide))
      obtain rfl := hI.p3 (hall 3 (by decide))
      obtain rfl := hI.p4 (hall 4 (by decide))
      obtain rfl := hI.p5 (hall 5 (by decide))
      obtain rfl := hI.p6 (hall 6 (by decide))
      obtain rfl := hI.p8 (hall 8 (by decide))
      obtain rfl := hI.p9 (hall 9 (by decide))
      obtain rfl := hI.p10 (hall 10 (by decide))
      obtain rfl := hI.p11 (hall 11 (by decide))
      obtain rfl := hI.p14 (hall 14 (by decide))
      obtain rfl := hI.p15 (hall 15 (by decide))
      obtain rfl := hI.p16 (hall 16 (by decide))
      have hXe := hI.x
      rw [hall 7 (by decide)] at hXe
      rw [hall 12 (by decide)] at hXe
      rw [hall 13 (by decide)] at hXe
      clear hI hall
      try dsimp only
      have HX : Hid (Below w.heap.size w W) := HB.out.trans (hXe.bel.mono HB.out.size)
      clear hXe
      go_wp2
      go_ret
      exact ⟨rfl, HX.out⟩
end Go.Proofs.YtjooabgjkjnhhaaGreatDoor
