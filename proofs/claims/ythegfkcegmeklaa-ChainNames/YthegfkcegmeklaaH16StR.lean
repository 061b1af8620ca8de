
import Derived.Test.YthegfkcegmeklaaH16Bk
/-! The law's step: Register. (Printed by tools/genstep16.py.) -/
namespace Go.Proofs.Ythegfkcegmeklaa
open Go.RowKit
set_option linter.unusedVariables false

structure S9 (W1 : World) (PW : World → Prop) (g : Nat) (lp : Addr) (ao : Option Addr) (n c : Nat) (RC : List Value) (L : Nat → Bool) (x48 x49 x50 x51 x52 x53 x54 x55 x56 x57 x58 x4 : Value) (W : World) : Prop where
  x : PW W
  p0 : L 0 = true → x48 = .pointer (some ⟨g, 0, none⟩)
  p1 : L 1 = true → x49 = .pointer (some ⟨g, 0, none⟩)
  p2 : L 2 = true → x50 = .pointer (some ⟨g, 0, none⟩)
  p3 : L 3 = true → x51 = .pointer (some lp)
  p4 : L 4 = true → x52 = .agg RC.toArray
  p5 : L 5 = true → x53 = .pointer (some ⟨g, 0, none⟩)
  p6 : L 6 = true → x54 = .pointer (some ⟨g, 0, none⟩)
  p7 : L 7 = true → x55 = .pointer (some ⟨g, 1, none⟩)
  p8 : L 8 = true → x56 = .slice ao n c
  p9 : L 9 = true → x57 = .agg RC.toArray
  p10 : L 10 = true → x58 = .bool true
  p11 : L 11 = true → x4 = .bool true
section
variable {W1 : World} {PW : World → Prop} {g : Nat} {lp : Addr} {ao : Option Addr} {n c : Nat} {RC : List Value} {L : Nat → Bool} {x48 x49 x50 x51 x52 x53 x54 x55 x56 x57 x58 x4 : Value} {W W2 : World}
theorem S9.s0 (h : S9 W1 PW g lp ao n c RC L x48 x49 x50 x51 x52 x53 x54 x55 x56 x57 x58 x4 W) : S9 W1 PW g lp ao n c RC (upd L 0) (.pointer (some ⟨g, 0, none⟩)) x49 x50 x51 x52 x53 x54 x55 x56 x57 x58 x4 W :=
  ⟨h.x, fun _ => rfl, h.p1, h.p2, h.p3, h.p4, h.p5, h.p6, h.p7, h.p8, h.p9, h.p10, h.p11⟩
theorem S9.s1 (h : S9 W1 PW g lp ao n c RC L x48 x49 x50 x51 x52 x53 x54 x55 x56 x57 x58 x4 W) : S9 W1 PW g lp ao n c RC (upd L 1) x48 (.pointer (some ⟨g, 0, none⟩)) x50 x51 x52 x53 x54 x55 x56 x57 x58 x4 W :=
  ⟨h.x, h.p0, fun _ => rfl, h.p2, h.p3, h.p4, h.p5, h.p6, h.p7, h.p8, h.p9, h.p10, h.p11⟩
theorem S9.s2 (h : S9 W1 PW g lp ao n c RC L x48 x49 x50 x51 x52 x53 x54 x55 x56 x57 x58 x4 W) : S9 W1 PW g lp ao n c RC (upd L 2) x48 x49 (.pointer (some ⟨g, 0, none⟩)) x51 x52 x53 x54 x55 x56 x57 x58 x4 W :=
  ⟨h.x, h.p0, h.p1, fun _ => rfl, h.p3, h.p4, h.p5, h.p6, h.p7, h.p8, h.p9, h.p10, h.p11⟩
theorem S9.s3 (h : S9 W1 PW g lp ao n c RC L x48 x49 x50 x51 x52 x53 x54 x55 x56 x57 x58 x4 W) : S9 W1 PW g lp ao n c RC (upd L 3) x48 x49 x50 (.pointer (some lp)) x52 x53 x54 x55 x56 x57 x58 x4 W :=
  ⟨h.x, h.p0, h.p1, h.p2, fun _ => rfl, h.p4, h.p5, h.p6, h.p7, h.p8, h.p9, h.p10, h.p11⟩
theorem S9.s4 (h : S9 W1 PW g lp ao n c RC L x48 x49 x50 x51 x52 x53 x54 x55 x56 x57 x58 x4 W) (hX : PW W2) : S9 W1 PW g lp ao n c RC (upd L 4) x48 x49 x50 x51 (.agg RC.toArray) x53 x54 x55 x56 x57 x58 x4 W2 :=
  ⟨hX, h.p0, h.p1, h.p2, h.p3, fun _ => rfl, h.p5, h.p6, h.p7, h.p8, h.p9, h.p10, h.p11⟩
theorem S9.s5 (h : S9 W1 PW g lp ao n c RC L x48 x49 x50 x51 x52 x53 x54 x55 x56 x57 x58 x4 W) : S9 W1 PW g lp ao n c RC (upd L 5) x48 x49 x50 x51 x52 (.pointer (some ⟨g, 0, none⟩)) x54 x55 x56 x57 x58 x4 W :=
  ⟨h.x, h.p0, h.p1, h.p2, h.p3, h.p4, fun _ => rfl, h.p6, h.p7, h.p8, h.p9, h.p10, h.p11⟩
theorem S9.s6 (h : S9 W1 PW g lp ao n c RC L x48 x49 x50 x51 x52 x53 x54 x55 x56 x57 x58 x4 W) : S9 W1 PW g lp ao n c RC (upd L 6) x48 x49 x50 x51 x52 x53 (.pointer (some ⟨g, 0, none⟩)) x55 x56 x57 x58 x4 W :=
  ⟨h.x, h.p0, h.p1, h.p2, h.p3, h.p4, h.p5, fun _ => rfl, h.p7, h.p8, h.p9, h.p10, h.p11⟩
theorem S9.s7 (h : S9 W1 PW g lp ao n c RC L x48 x49 x50 x51 x52 x53 x54 x55 x56 x57 x58 x4 W) : S9 W1 PW g lp ao n c RC (upd L 7) x48 x49 x50 x51 x52 x53 x54 (.pointer (some ⟨g, 1, none⟩)) x56 x57 x58 x4 W :=
  ⟨h.x, h.p0, h.p1, h.p2, h.p3, h.p4, h.p5, h.p6, fun _ => rfl, h.p8, h.p9, h.p10, h.p11⟩
theorem S9.s8 (h : S9 W1 PW g lp ao n c RC L x48 x49 x50 x51 x52 x53 x54 x55 x56 x57 x58 x4 W) : S9 W1 PW g lp ao n c RC (upd L 8) x48 x49 x50 x51 x52 x53 x54 x55 (.slice ao n c) x57 x58 x4 W :=
  ⟨h.x, h.p0, h.p1, h.p2, h.p3, h.p4, h.p5, h.p6, h.p7, fun _ => rfl, h.p9, h.p10, h.p11⟩
theorem S9.s9 (h : S9 W1 PW g lp ao n c RC L x48 x49 x50 x51 x52 x53 x54 x55 x56 x57 x58 x4 W) (hX : PW W2) : S9 W1 PW g lp ao n c RC (upd L 9) x48 x49 x50 x51 x52 x53 x54 x55 x56 (.agg RC.toArray) x58 x4 W2 :=
  ⟨hX, h.p0, h.p1, h.p2, h.p3, h.p4, h.p5, h.p6, h.p7, h.p8, fun _ => rfl, h.p10, h.p11⟩
theorem S9.s10 (h : S9 W1 PW g lp ao n c RC L x48 x49 x50 x51 x52 x53 x54 x55 x56 x57 x58 x4 W) : S9 W1 PW g lp ao n c RC (upd L 10) x48 x49 x50 x51 x52 x53 x54 x55 x56 x57 (.bool true) x4 W :=
  ⟨h.x, h.p0, h.p1, h.p2, h.p3, h.p4, h.p5, h.p6, h.p7, h.p8, h.p9, fun _ => rfl, h.p11⟩
theorem S9.s11 (h : S9 W1 PW g lp ao n c RC L x48 x49 x50 x51 x52 x53 x54 x55 x56 x57 x58 x4 W) : S9 W1 PW g lp ao n c RC (upd L 11) x48 x49 x50 x51 x52 x53 x54 x55 x56 x57 x58 (.bool true) W :=
  ⟨h.x, h.p0, h.p1, h.p2, h.p3, h.p4, h.p5, h.p6, h.p7, h.p8, h.p9, h.p10, fun _ => rfl⟩
end
@[reducible] def IS9 (W1 : World) (PW : World → Prop) (g : Nat) (lp : Addr) (ao : Option Addr) (n c : Nat) (RC : List Value) (y0 y1 y2 y3 y5 y6 y7 y8 y9 y10 y11 y12 y13 y14 y15 y16 y17 y18 y19 y20 y21 y22 y23 y24 y25 y26 y27 y28 y29 y30 y31 y32 y33 y34 y35 y36 y37 y38 y39 y40 y41 y42 y43 y44 y45 y46 y47 y59 y60 y61 y62 y63 y64 y65 y66 y67 y68 y69 y70 y71 y72 y73 y74 y75 y76 y77 y78 y79 y80 y81 y82 y83 y84 y85 y86 y87 y88 y89 y90 y91 y92 y93 y94 y95 y96 y97 y98 y99 y100 y101 y102 y103 y104 y105 y106 y107 y108 y109 y110 y111 y112 y113 y114 y115 y116 y117 y118 y119 y120 y121 y122 y123 y124 y125 y126 y127 y128 y129 y130 y131 y132 y133 y134 y135 y136 y137 y138 y139 y140 y141 y142 y143 y144 y145 y146 y147 y148 y149 y150 y151 y152 y153 y154 y155 y156 y157 y158 y159 y160 y161 y162 y163 y164 y165 y166 y167 y168 y169 y170 y171 y172 y173 y174 y175 y176 y177 y178 y179 : Value) : (Nat → Bool) → Act → World → Prop := fun L a W => ∃ x48 x49 x50 x51 x52 x53 x54 x55 x56 x57 x58 x4, a = ⟨#[y0, y1, y2, y3, x4, y5, y6, y7, y8, y9, y10, y11, y12, y13, y14, y15, y16, y17, y18, y19, y20, y21, y22, y23, y24, y25, y26, y27, y28, y29, y30, y31, y32, y33, y34, y35, y36, y37, y38, y39, y40, y41, y42, y43, y44, y45, y46, y47, x48, x49, x50, x51, x52, x53, x54, x55, x56, x57, x58, y59, y60, y61, y62, y63, y64, y65, y66, y67, y68, y69, y70, y71, y72, y73, y74, y75, y76, y77, y78, y79, y80, y81, y82, y83, y84, y85, y86, y87, y88, y89, y90, y91, y92, y93, y94, y95, y96, y97, y98, y99, y100, y101, y102, y103, y104, y105, y106, y107, y108, y109, y110, y111, y112, y113, y114, y115, y116, y117, y118, y119, y120, y121, y122, y123, y124, y125, y126, y127, y128, y129, y130, y131, y132, y133, y134, y135, y136, y137, y138, y139, y140, y141, y142, y143, y144, y145, y146, y147, y148, y149, y150, y151, y152, y153, y154, y155, y156, y157, y158, y159, y160, y161, y162, y163, y164, y165, y166, y167, y168, y169, y170, y171, y172, y173, y174, y175, y176, y177, y178, y179], []⟩ ∧ S9 W1 PW g lp ao n c RC L x48 x49 x50 x51 x52 x53 x54 x55 x56 x57 x58 x4 W
theorem S9.step {W1 : World} {PW : World → Prop} {g : Nat} {lp : Addr} {ao : Option Addr} {n c : Nat} {RC : List Value} {y0 y1 y2 y3 y5 y6 y7 y8 y9 y10 y11 y12 y13 y14 y15 y16 y17 y18 y19 y20 y21 y22 y23 y24 y25 y26 y27 y28 y29 y30 y31 y32 y33 y34 y35 y36 y37 y38 y39 y40 y41 y42 y43 y44 y45 y46 y47 y59 y60 y61 y62 y63 y64 y65 y66 y67 y68 y69 y70 y71 y72 y73 y74 y75 y76 y77 y78 y79 y80 y81 y82 y83 y84 y85 y86 y87 y88 y89 y90 y91 y92 y93 y94 y95 y96 y97 y98 y99 y100 y101 y102 y103 y104 y105 y106 y107 y108 y109 y110 y111 y112 y113 y114 y115 y116 y117 y118 y119 y120 y121 y122 y123 y124 y125 y126 y127 y128 y129 y130 y131 y132 y133 y134 y135 y136 y137 y138 y139 y140 y141 y142 y143 y144 y145 y146 y147 y148 y149 y150 y151 y152 y153 y154 y155 y156 y157 y158 y159 y160 y161 y162 y163 y164 y165 y166 y167 y168 y169 y170 y171 y172 y173 y174 y175 y176 y177 y178 y179 : Value} {P : Program} {ops : Array Oper} {Q : Exit → Act → World → Prop} {i : Nat} {o : Oper} (hq : ∀ x48 x49 x50 x51 x52 x53 x54 x55 x56 x57 x58 x4 (L : Nat → Bool) (W : World), S9 W1 PW g lp ao n c RC L x48 x49 x50 x51 x52 x53 x54 x55 x56 x57 x58 x4 W → L i = false → (∀ j ∈ onesOf o, L j = true) → ∀ K : Act → World → Prop, Shut (∀ a' w', IS9 W1 PW g lp ao n c RC y0 y1 y2 y3 y5 y6 y7 y8 y9 y10 y11 y12 y13 y14 y15 y16 y17 y18 y19 y20 y21 y22 y23 y24 y25 y26 y27 y28 y29 y30 y31 y32 y33 y34 y35 y36 y37 y38 y39 y40 y41 y42 y43 y44 y45 y46 y47 y59 y60 y61 y62 y63 y64 y65 y66 y67 y68 y69 y70 y71 y72 y73 y74 y75 y76 y77 y78 y79 y80 y81 y82 y83 y84 y85 y86 y87 y88 y89 y90 y91 y92 y93 y94 y95 y96 y97 y98 y99 y100 y101 y102 y103 y104 y105 y106 y107 y108 y109 y110 y111 y112 y113 y114 y115 y116 y117 y118 y119 y120 y121 y122 y123 y124 y125 y126 y127 y128 y129 y130 y131 y132 y133 y134 y135 y136 y137 y138 y139 y140 y141 y142 y143 y144 y145 y146 y147 y148 y149 y150 y151 y152 y153 y154 y155 y156 y157 y158 y159 y160 y161 y162 y163 y164 y165 y166 y167 y168 y169 y170 y171 y172 y173 y174 y175 y176 y177 y178 y179 (upd L i) a' w' → K a' w') → if Region.wanted o (yielded ops (⟨#[y0, y1, y2, y3, x4, y5, y6, y7, y8, y9, y10, y11, y12, y13, y14, y15, y16, y17, y18, y19, y20, y21, y22, y23, y24, y25, y26, y27, y28, y29, y30, y31, y32, y33, y34, y35, y36, y37, y38, y39, y40, y41, y42, y43, y44, y45, y46, y47, x48, x49, x50, x51, x52, x53, x54, x55, x56, x57, x58, y59, y60, y61, y62, y63, y64, y65, y66, y67, y68, y69, y70, y71, y72, y73, y74, y75, y76, y77, y78, y79, y80, y81, y82, y83, y84, y85, y86, y87, y88, y89, y90, y91, y92, y93, y94, y95, y96, y97, y98, y99, y100, y101, y102, y103, y104, y105, y106, y107, y108, y109, y110, y111, y112, y113, y114, y115, y116, y117, y118, y119, y120, y121, y122, y123, y124, y125, y126, y127, y128, y129, y130, y131, y132, y133, y134, y135, y136, y137, y138, y139, y140, y141, y142, y143, y144, y145, y146, y147, y148, y149, y150, y151, y152, y153, y154, y155, y156, y157, y158, y159, y160, y161, y162, y163, y164, y165, y166, y167, y168, y169, y170, y171, y172, y173, y174, y175, y176, y177, y178, y179], []⟩ : Act).tmps) = true then Oper.wp P o ⟨#[y0, y1, y2, y3, x4, y5, y6, y7, y8, y9, y10, y11, y12, y13, y14, y15, y16, y17, y18, y19, y20, y21, y22, y23, y24, y25, y26, y27, y28, y29, y30, y31, y32, y33, y34, y35, y36, y37, y38, y39, y40, y41, y42, y43, y44, y45, y46, y47, x48, x49, x50, x51, x52, x53, x54, x55, x56, x57, x58, y59, y60, y61, y62, y63, y64, y65, y66, y67, y68, y69, y70, y71, y72, y73, y74, y75, y76, y77, y78, y79, y80, y81, y82, y83, y84, y85, y86, y87, y88, y89, y90, y91, y92, y93, y94, y95, y96, y97, y98, y99, y100, y101, y102, y103, y104, y105, y106, y107, y108, y109, y110, y111, y112, y113, y114, y115, y116, y117, y118, y119, y120, y121, y122, y123, y124, y125, y126, y127, y128, y129, y130, y131, y132, y133, y134, y135, y136, y137, y138, y139, y140, y141, y142, y143, y144, y145, y146, y147, y148, y149, y150, y151, y152, y153, y154, y155, y156, y157, y158, y159, y160, y161, y162, y163, y164, y165, y166, y167, y168, y169, y170, y171, y172, y173, y174, y175, y176, y177, y178, y179], []⟩ W K Q else K ((⟨#[y0, y1, y2, y3, x4, y5, y6, y7, y8, y9, y10, y11, y12, y13, y14, y15, y16, y17, y18, y19, y20, y21, y22, y23, y24, y25, y26, y27, y28, y29, y30, y31, y32, y33, y34, y35, y36, y37, y38, y39, y40, y41, y42, y43, y44, y45, y46, y47, x48, x49, x50, x51, x52, x53, x54, x55, x56, x57, x58, y59, y60, y61, y62, y63, y64, y65, y66, y67, y68, y69, y70, y71, y72, y73, y74, y75, y76, y77, y78, y79, y80, y81, y82, y83, y84, y85, y86, y87, y88, y89, y90, y91, y92, y93, y94, y95, y96, y97, y98, y99, y100, y101, y102, y103, y104, y105, y106, y107, y108, y109, y110, y111, y112, y113, y114, y115, y116, y117, y118, y119, y120, y121, y122, y123, y124, y125, y126, y127, y128, y129, y130, y131, y132, y133, y134, y135, y136, y137, y138, y139, y140, y141, y142, y143, y144, y145, y146, y147, y148, y149, y150, y151, y152, y153, y154, y155, y156, y157, y158, y159, y160, y161, y162, y163, y164, y165, y166, y167, y168, y169, y170, y171, y172, y173, y174, y175, y176, y177, y178, y179], []⟩ : Act).put o.dst undef) W) : StepI P ops (IS9 W1 PW g lp ao n c RC y0 y1 y2 y3 y5 y6 y7 y8 y9 y10 y11 y12 y13 y14 y15 y16 y17 y18 y19 y20 y21 y22 y23 y24 y25 y26 y27 y28 y29 y30 y31 y32 y33 y34 y35 y36 y37 y38 y39 y40 y41 y42 y43 y44 y45 y46 y47 y59 y60 y61 y62 y63 y64 y65 y66 y67 y68 y69 y70 y71 y72 y73 y74 y75 y76 y77 y78 y79 y80 y81 y82 y83 y84 y85 y86 y87 y88 y89 y90 y91 y92 y93 y94 y95 y96 y97 y98 y99 y100 y101 y102 y103 y104 y105 y106 y107 y108 y109 y110 y111 y112 y113 y114 y115 y116 y117 y118 y119 y120 y121 y122 y123 y124 y125 y126 y127 y128 y129 y130 y131 y132 y133 y134 y135 y136 y137 y138 y139 y140 y141 y142 y143 y144 y145 y146 y147 y148 y149 y150 y151 y152 y153 y154 y155 y156 y157 y158 y159 y160 y161 y162 y163 y164 y165 y166 y167 y168 y169 y170 y171 y172 y173 y174 y175 y176 y177 y178 y179) Q i o := by
  rintro L a W ⟨x48, x49, x50, x51, x52, x53, x54, x55, x56, x57, x58, x4, rfl, h⟩
  exact hq _ _ _ _ _ _ _ _ _ _ _ _ _ _ h
theorem S9.ends {W1 : World} {PW : World → Prop} {g : Nat} {lp : Addr} {ao : Option Addr} {n c : Nat} {RC : List Value} {y0 y1 y2 y3 y5 y6 y7 y8 y9 y10 y11 y12 y13 y14 y15 y16 y17 y18 y19 y20 y21 y22 y23 y24 y25 y26 y27 y28 y29 y30 y31 y32 y33 y34 y35 y36 y37 y38 y39 y40 y41 y42 y43 y44 y45 y46 y47 y59 y60 y61 y62 y63 y64 y65 y66 y67 y68 y69 y70 y71 y72 y73 y74 y75 y76 y77 y78 y79 y80 y81 y82 y83 y84 y85 y86 y87 y88 y89 y90 y91 y92 y93 y94 y95 y96 y97 y98 y99 y100 y101 y102 y103 y104 y105 y106 y107 y108 y109 y110 y111 y112 y113 y114 y115 y116 y117 y118 y119 y120 y121 y122 y123 y124 y125 y126 y127 y128 y129 y130 y131 y132 y133 y134 y135 y136 y137 y138 y139 y140 y141 y142 y143 y144 y145 y146 y147 y148 y149 y150 y151 y152 y153 y154 y155 y156 y157 y158 y159 y160 y161 y162 y163 y164 y165 y166 y167 y168 y169 y170 y171 y172 y173 y174 y175 y176 y177 y178 y179 : Value} {mm_ : Nat} {Q : Exit → Act → World → Prop} (hq : ∀ x48 x49 x50 x51 x52 x53 x54 x55 x56 x57 x58 x4 (L : Nat → Bool) (W : World), (∀ j, j < mm_ → L j = true) → S9 W1 PW g lp ao n c RC L x48 x49 x50 x51 x52 x53 x54 x55 x56 x57 x58 x4 W → Q .normal ⟨#[y0, y1, y2, y3, x4, y5, y6, y7, y8, y9, y10, y11, y12, y13, y14, y15, y16, y17, y18, y19, y20, y21, y22, y23, y24, y25, y26, y27, y28, y29, y30, y31, y32, y33, y34, y35, y36, y37, y38, y39, y40, y41, y42, y43, y44, y45, y46, y47, x48, x49, x50, x51, x52, x53, x54, x55, x56, x57, x58, y59, y60, y61, y62, y63, y64, y65, y66, y67, y68, y69, y70, y71, y72, y73, y74, y75, y76, y77, y78, y79, y80, y81, y82, y83, y84, y85, y86, y87, y88, y89, y90, y91, y92, y93, y94, y95, y96, y97, y98, y99, y100, y101, y102, y103, y104, y105, y106, y107, y108, y109, y110, y111, y112, y113, y114, y115, y116, y117, y118, y119, y120, y121, y122, y123, y124, y125, y126, y127, y128, y129, y130, y131, y132, y133, y134, y135, y136, y137, y138, y139, y140, y141, y142, y143, y144, y145, y146, y147, y148, y149, y150, y151, y152, y153, y154, y155, y156, y157, y158, y159, y160, y161, y162, y163, y164, y165, y166, y167, y168, y169, y170, y171, y172, y173, y174, y175, y176, y177, y178, y179], []⟩ W) : ∀ L a' w', (∀ j, j < mm_ → L j = true) → IS9 W1 PW g lp ao n c RC y0 y1 y2 y3 y5 y6 y7 y8 y9 y10 y11 y12 y13 y14 y15 y16 y17 y18 y19 y20 y21 y22 y23 y24 y25 y26 y27 y28 y29 y30 y31 y32 y33 y34 y35 y36 y37 y38 y39 y40 y41 y42 y43 y44 y45 y46 y47 y59 y60 y61 y62 y63 y64 y65 y66 y67 y68 y69 y70 y71 y72 y73 y74 y75 y76 y77 y78 y79 y80 y81 y82 y83 y84 y85 y86 y87 y88 y89 y90 y91 y92 y93 y94 y95 y96 y97 y98 y99 y100 y101 y102 y103 y104 y105 y106 y107 y108 y109 y110 y111 y112 y113 y114 y115 y116 y117 y118 y119 y120 y121 y122 y123 y124 y125 y126 y127 y128 y129 y130 y131 y132 y133 y134 y135 y136 y137 y138 y139 y140 y141 y142 y143 y144 y145 y146 y147 y148 y149 y150 y151 y152 y153 y154 y155 y156 y157 y158 y159 y160 y161 y162 y163 y164 y165 y166 y167 y168 y169 y170 y171 y172 y173 y174 y175 y176 y177 y178 y179 L a' w' → Q .normal a' w' := by
  rintro L a W hall ⟨x48, x49, x50, x51, x52, x53, x54, x55, x56, x57, x58, x4, rfl, h⟩
  exact hq _ _ _ _ _ _ _ _ _ _ _ _ _ _ hall h
set_option maxHeartbeats 4000000 in
set_option maxRecDepth 1000000 in
theorem step_reg {Lg : (Nat → Prop) → World → Addr → List EvV → Prop} (C : Chn Lg) (F : Nat → Prop) (w : World) (g : Nat) (xs : List EvV) (hk : Bk Lg F w g xs) (on : Int) (x : EvV) (ko : Option Addr) (kn kc : Nat) (no : Option Addr) (nb nc : Nat) :
    Calls Try.prog 10 #[.pointer (some ⟨g, 0, none⟩), .agg (opC 3 on x ko kn kc no nb nc).toArray] w (StP Lg F w g) := by
  obtain ⟨OC, hOC⟩ : ∃ OC, OC = opC 3 on x ko kn kc no nb nc := ⟨_, rfl⟩
  have hO0 : OC[0]? = some (.int .i64 3) := by rw [hOC]; rfl
  rw [← hOC]
  clear hOC
  obtain ⟨lp, ao, c, B, ob, hF, hFg, hFB, hgl, hBl, hao, hnil, hev⟩ := hk.start C OC
  obtain ⟨W1, hW1⟩ : ∃ W1, W1 = w.alloc (.cells OC.toArray 38) := ⟨_, rfl⟩
  rw [← hW1] at hF
  obtain ⟨PW, hP⟩ : ∃ PW : World → Prop, PW = FB Lg F w lp xs (bkR w.heap.size g OC lp ao xs.length c B ob) := ⟨_, rfl⟩
  have hn : xs.length ≤ 1024 := hF.len C
  have P0 : Hid (PW W1) := by show PW W1; rw [hP]; exact hF
  have DR : Hid (∀ W, PW W → PW W.drew) := by rw [hP]; exact fun W h => h.drew C
  have CB : Hid (∀ W, PW W → W.cell? ⟨g, 0, none⟩ = some (.pointer (some lp)) ∧ W.cell? ⟨g, 1, none⟩ = some (.slice ao xs.length c)) := by rw [hP]; exact fun W h => ⟨h.bk.cell 0 _ rfl, h.bk.cell 1 _ rfl⟩
  have CK : Hid (∀ W, PW W → W.cell? ⟨w.heap.size, 0, none⟩ = some (.int .i64 3)) := by rw [hP]; exact fun W h => h.op.cell 0 _ hO0
  have RG : Hid (∀ W, PW W → Calls Try.prog 11 #[.pointer (some lp)] W fun e w' => e = .returned (.agg ((reg xs).map B8).toArray) ∧ PW w') := by
    rw [hP]
    intro W h
    obtain ⟨S, hl, _, hN⟩ := h.out
    exact (C.register hl).mono fun e w' ⟨S', e1, k1, k2, k3⟩ => ⟨e1, hN S' w' xs k1 k2 k3⟩
  have RR : Hid (∀ W, PW W → Calls Try.prog 12 #[.slice ao xs.length c] W fun e w' => e = .returned (.agg ((reg xs).map B8).toArray) ∧ PW w') := by
    rw [hP]
    intro W h
    exact (rregister_any W ao xs.length c B 0 xs rfl (by omega) (fun h0 => (hao h0).1) (hev W h.ev)).mono fun e w' ⟨e1, k1⟩ => ⟨e1, h.below C k1⟩
  have FIN : Hid (∀ W, PW W → StP Lg F w g (.returned (.bool true)) W) := by rw [hP]; exact fun W h => h.endP C hFg hFB hao hnil hev
  have qe := eq_any (reg xs) (reg xs) (reg_len _) (reg_len _) true (by rw [decide_eq_true rfl])
  clear hP hF C hao hnil hev hFg hFB hO0 hk
  generalize (reg xs).map B8 = RC at *
  generalize xs.length = n at *
  generalize hX : w.heap.size = X at *
  go_enter Try.func10, Try.ntmps10
  refine wp_seq_k fun K hK => ?_
  have HKK : Hid _ := hK
  clear hK
  go_wp2_with fail
  refine HKK.out _ _ ?_
  clear HKK
  rw [← hW1]
  clear hW1
  have c0 := CK.out _ P0.out
  go_wp2_with fail
  clear c0
  refine wp_region_inv (IS9 W1 PW g lp ao n c RC _ _ _ _ _ _ _ _ _ _ _ _ _ _ _ _ _ _ _ _ _ _ _ _ _ _ _ _ _ _ _ _ _ _ _ _ _ _ _ _ _ _ _ _ _ _ _ _ _ _ _ _ _ _ _ _ _ _ _ _ _ _ _ _ _ _ _ _ _ _ _ _ _ _ _ _ _ _ _ _ _ _ _ _ _ _ _ _ _ _ _ _ _ _ _ _ _ _ _ _ _ _ _ _ _ _ _ _ _ _ _ _ _ _ _ _ _ _ _ _ _ _ _ _ _ _ _ _ _ _ _ _ _ _ _ _ _ _ _ _ _ _ _ _ _ _ _ _ _ _ _ _ _ _ _ _ _ _ _ _ _ _ _ _ _ _ _ _) (by kernel_rfl) (by kernel_rfl) ⟨_, _, _, _, _, _, _, _, _, _, _, _, rfl, ⟨DR.out _ P0.out, fun k => (by cases k), fun k => (by cases k), fun k => (by cases k), fun k => (by cases k), fun k => (by cases k), fun k => (by cases k), fun k => (by cases k), fun k => (by cases k), fun k => (by cases k), fun k => (by cases k), fun k => (by cases k), fun k => (by cases k)⟩⟩ ?_ ?_
  · refine .cons ?_ (.cons ?_ (.cons ?_ (.cons ?_ (.cons ?_ (.cons ?_ (.cons ?_ (.cons ?_ (.cons ?_ (.cons ?_ (.cons ?_ (.cons ?_ .nil)))))))))))
    all_goals (refine S9.step ?_; intro x48 x49 x50 x51 x52 x53 x54 x55 x56 x57 x58 x4 L W hI hL hd K hK)
    · rw [if_pos (by rfl)]
      go_simp
      exact hK.out _ _ ⟨_, _, _, _, _, _, _, _, _, _, _, _, rfl, hI.s0⟩
    · have hx0 := hI.p0 (hd 0 (by decide))
      subst hx0
      rw [if_pos (by rfl)]
      go_simp
      exact hK.out _ _ ⟨_, _, _, _, _, _, _, _, _, _, _, _, rfl, hI.s1⟩
    · have hx1 := hI.p1 (hd 1 (by decide))
      subst hx1
      rw [if_pos (by rfl)]
      go_simp
      exact hK.out _ _ ⟨_, _, _, _, _, _, _, _, _, _, _, _, rfl, hI.s2⟩
    · have hx2 := hI.p2 (hd 2 (by decide))
      subst hx2
      rw [if_pos (by rfl)]
      have hc := (CB.out _ hI.x).1
      go_simp
      exact hK.out _ _ ⟨_, _, _, _, _, _, _, _, _, _, _, _, rfl, hI.s3⟩
    · have hx3 := hI.p3 (hd 3 (by decide))
      subst hx3
      rw [if_pos (by rfl)]
      go_simp
      refine (RG.out _ hI.x).mono ?_
      rintro e W2 ⟨rfl, hX⟩
      go_simp
      exact hK.out _ _ ⟨_, _, _, _, _, _, _, _, _, _, _, _, rfl, hI.s4 hX⟩
    · rw [if_pos (by rfl)]
      go_simp
      exact hK.out _ _ ⟨_, _, _, _, _, _, _, _, _, _, _, _, rfl, hI.s5⟩
    · have hx5 := hI.p5 (hd 5 (by decide))
      subst hx5
      rw [if_pos (by rfl)]
      go_simp
      exact hK.out _ _ ⟨_, _, _, _, _, _, _, _, _, _, _, _, rfl, hI.s6⟩
    · have hx6 := hI.p6 (hd 6 (by decide))
      subst hx6
      rw [if_pos (by rfl)]
      go_simp
      exact hK.out _ _ ⟨_, _, _, _, _, _, _, _, _, _, _, _, rfl, hI.s7⟩
    · have hx7 := hI.p7 (hd 7 (by decide))
      subst hx7
      rw [if_pos (by rfl)]
      have hc := (CB.out _ hI.x).2
      go_simp
      exact hK.out _ _ ⟨_, _, _, _, _, _, _, _, _, _, _, _, rfl, hI.s8⟩
    · have hx8 := hI.p8 (hd 8 (by decide))
      subst hx8
      rw [if_pos (by rfl)]
      go_simp
      refine (RR.out _ hI.x).mono ?_
      rintro e W2 ⟨rfl, hX⟩
      go_simp
      exact hK.out _ _ ⟨_, _, _, _, _, _, _, _, _, _, _, _, rfl, hI.s9 hX⟩
    · have hx4 := hI.p4 (hd 4 (by decide))
      subst hx4
      have hx9 := hI.p9 (hd 9 (by decide))
      subst hx9
      rw [if_pos (by rfl)]
      go_simp
      exact hK.out _ _ ⟨_, _, _, _, _, _, _, _, _, _, _, _, rfl, hI.s10⟩
    · have hx10 := hI.p10 (hd 10 (by decide))
      subst hx10
      rw [if_pos (by rfl)]
      go_simp
      exact hK.out _ _ ⟨_, _, _, _, _, _, _, _, _, _, _, _, rfl, hI.s11⟩
  · refine S9.ends ?_; intro x48 x49 x50 x51 x52 x53 x54 x55 x56 x57 x58 x4 L W hall hI
    have hx0 := hI.p0 (hall 0 (by decide))
    subst hx0
    have hx1 := hI.p1 (hall 1 (by decide))
    subst hx1
    have hx2 := hI.p2 (hall 2 (by decide))
    subst hx2
    have hx3 := hI.p3 (hall 3 (by decide))
    subst hx3
    have hx4 := hI.p4 (hall 4 (by decide))
    subst hx4
    have hx5 := hI.p5 (hall 5 (by decide))
    subst hx5
    have hx6 := hI.p6 (hall 6 (by decide))
    subst hx6
    have hx7 := hI.p7 (hall 7 (by decide))
    subst hx7
    have hx8 := hI.p8 (hall 8 (by decide))
    subst hx8
    have hx9 := hI.p9 (hall 9 (by decide))
    subst hx9
    have hx10 := hI.p10 (hall 10 (by decide))
    subst hx10
    have hx11 := hI.p11 (hall 11 (by decide))
    subst hx11
    have hXe := hI.x
    clear hI hall
    try dsimp only
    go_wp2
    go_ret
    exact FIN.out _ hXe
end Go.Proofs.Ythegfkcegmeklaa
