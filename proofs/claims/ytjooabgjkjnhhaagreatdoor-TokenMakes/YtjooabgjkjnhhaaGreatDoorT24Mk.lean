
import Derived.Test.YtjooabgjkjnhhaaGreatDoorT24Ma
/-! TokenMakes: Narrow. (Printed by tools/gent24c.py.) -/
namespace Go.Proofs.YtjooabgjkjnhhaaGreatDoor
open Go.RowKit
set_option linter.unusedVariables false
set_option linter.unusedSimpArgs false
set_option maxRecDepth 100000

structure MK18 (W1 : World) (y : Tk) (Ev : Int) (X CC : List Value) (L : Nat → Bool) (x95 x96 x97 x98 x94 x99 x100 x24 x25 : Value) (W : World) : Prop where
  x : IQ W1 y Ev (L 3) (L 4) (L 5) (L 7) (L 8) x98 x94 x99 x24 W
  p0 : L 0 = true → x95 = .agg X.toArray
  p1 : L 1 = true → x96 = .agg CC.toArray
  p2 : L 2 = true → x97 = .agg CC.toArray
  p6 : L 6 = true → x100 = .int .i64 Ev
  p9 : L 9 = true → x25 = .int .i64 Ev
section
variable {W1 : World} {y : Tk} {Ev : Int} {X CC : List Value} {L : Nat → Bool} {x95 x96 x97 x98 x94 x99 x100 x24 x25 : Value} {W W2 : World}
theorem MK18.s0 (h : MK18 W1 y Ev X CC L x95 x96 x97 x98 x94 x99 x100 x24 x25 W) : MK18 W1 y Ev X CC (upd L 0) (.agg X.toArray) x96 x97 x98 x94 x99 x100 x24 x25 W :=
  ⟨h.x, fun _ => rfl, h.p1, h.p2, h.p6, h.p9⟩
theorem MK18.s1 (h : MK18 W1 y Ev X CC L x95 x96 x97 x98 x94 x99 x100 x24 x25 W) : MK18 W1 y Ev X CC (upd L 1) x95 (.agg CC.toArray) x97 x98 x94 x99 x100 x24 x25 W :=
  ⟨h.x, h.p0, fun _ => rfl, h.p2, h.p6, h.p9⟩
theorem MK18.s6 (h : MK18 W1 y Ev X CC L x95 x96 x97 x98 x94 x99 x100 x24 x25 W) : MK18 W1 y Ev X CC (upd L 6) x95 x96 x97 x98 x94 x99 (.int .i64 Ev) x24 x25 W :=
  ⟨h.x, h.p0, h.p1, h.p2, fun _ => rfl, h.p9⟩
theorem MK18.s7 (h : MK18 W1 y Ev X CC L x95 x96 x97 x98 x94 x99 x100 x24 x25 W) {v : Value} (hX : IQ W1 y Ev ((upd L 7) 3) ((upd L 7) 4) ((upd L 7) 5) ((upd L 7) 7) ((upd L 7) 8) x98 x94 x99 v W2) : MK18 W1 y Ev X CC (upd L 7) x95 x96 x97 x98 x94 x99 x100 v x25 W2 :=
  ⟨hX, h.p0, h.p1, h.p2, h.p6, h.p9⟩
theorem MK18.s8 (h : MK18 W1 y Ev X CC L x95 x96 x97 x98 x94 x99 x100 x24 x25 W) (hX : IQ W1 y Ev ((upd L 8) 3) ((upd L 8) 4) ((upd L 8) 5) ((upd L 8) 7) ((upd L 8) 8) x98 x94 x99 x24 W2) : MK18 W1 y Ev X CC (upd L 8) x95 x96 x97 x98 x94 x99 x100 x24 x25 W2 :=
  ⟨hX, h.p0, h.p1, h.p2, h.p6, h.p9⟩
end
@[reducible] def IMK18 (W1 : World) (y : Tk) (Ev : Int) (X CC : List Value) (y0 y1 y2 y3 y4 y5 y6 y7 y8 y9 y10 y11 y12 y13 y14 y15 y16 y17 y18 y19 y20 y21 y22 y23 y26 y27 y28 y29 y30 y31 y32 y33 y34 y35 y36 y37 y38 y39 y40 y41 y42 y43 y44 y45 y46 y47 y48 y49 y50 y51 y52 y53 y54 y55 y56 y57 y58 y59 y60 y61 y62 y63 y64 y65 y66 y67 y68 y69 y70 y71 y72 y73 y74 y75 y76 y77 y78 y79 y80 y81 y82 y83 y84 y85 y86 y87 y88 y89 y90 y91 y92 y93 y101 y102 y103 y104 y105 y106 y107 y108 y109 y110 y111 y112 y113 y114 y115 y116 y117 y118 y119 y120 y121 y122 y123 y124 y125 y126 y127 y128 : Value) : (Nat → Bool) → Act → World → Prop := fun L a W => ∃ x95 x96 x97 x98 x94 x99 x100 x24 x25, a = ⟨#[y0, y1, y2, y3, y4, y5, y6, y7, y8, y9, y10, y11, y12, y13, y14, y15, y16, y17, y18, y19, y20, y21, y22, y23, x24, x25, y26, y27, y28, y29, y30, y31, y32, y33, y34, y35, y36, y37, y38, y39, y40, y41, y42, y43, y44, y45, y46, y47, y48, y49, y50, y51, y52, y53, y54, y55, y56, y57, y58, y59, y60, y61, y62, y63, y64, y65, y66, y67, y68, y69, y70, y71, y72, y73, y74, y75, y76, y77, y78, y79, y80, y81, y82, y83, y84, y85, y86, y87, y88, y89, y90, y91, y92, y93, x94, x95, x96, x97, x98, x99, x100, y101, y102, y103, y104, y105, y106, y107, y108, y109, y110, y111, y112, y113, y114, y115, y116, y117, y118, y119, y120, y121, y122, y123, y124, y125, y126, y127, y128], []⟩ ∧ MK18 W1 y Ev X CC L x95 x96 x97 x98 x94 x99 x100 x24 x25 W
structure MK20 (W1 : World) (y : Tk) (ia : Option Addr) (ica : Nat) (T : Tk) (im : Option Addr) (icm : Nat) (Ev : Int) (CA CB X XT : List Value) (L : Nat → Bool) (x107 x108 x109 x110 x111 x112 x113 x114 x115 x116 x117 x118 x119 x120 x121 x122 x123 : Value) (W : World) : Prop where
  x : BS2 W1 y ia ica T im icm (L 5) (L 12) x112 x119 W
  p0 : L 0 = true → x107 = .int .i64 Ev
  p1 : L 1 = true → x108 = .int .i64 Ev
  p2 : L 2 = true → x109 = .bool false
  p3 : L 3 = true → x110 = .bool false
  p4 : L 4 = true → x111 = .agg CA.toArray
  p6 : L 6 = true → x113 = .agg CB.toArray
  p7 : L 7 = true → x114 = .bool true
  p8 : L 8 = true → x115 = .bool false
  p9 : L 9 = true → x116 = .bool false
  p10 : L 10 = true → x117 = .bool false
  p11 : L 11 = true → x118 = .agg X.toArray
  p13 : L 13 = true → x120 = .agg XT.toArray
  p14 : L 14 = true → x121 = .bool true
  p15 : L 15 = true → x122 = .bool false
  p16 : L 16 = true → x123 = .bool false
section
variable {W1 : World} {y : Tk} {ia : Option Addr} {ica : Nat} {T : Tk} {im : Option Addr} {icm : Nat} {Ev : Int} {CA CB X XT : List Value} {L : Nat → Bool} {x107 x108 x109 x110 x111 x112 x113 x114 x115 x116 x117 x118 x119 x120 x121 x122 x123 : Value} {W W2 : World}
theorem MK20.s0 (h : MK20 W1 y ia ica T im icm Ev CA CB X XT L x107 x108 x109 x110 x111 x112 x113 x114 x115 x116 x117 x118 x119 x120 x121 x122 x123 W) : MK20 W1 y ia ica T im icm Ev CA CB X XT (upd L 0) (.int .i64 Ev) x108 x109 x110 x111 x112 x113 x114 x115 x116 x117 x118 x119 x120 x121 x122 x123 W :=
  ⟨h.x, fun _ => rfl, h.p1, h.p2, h.p3, h.p4, h.p6, h.p7, h.p8, h.p9, h.p10, h.p11, h.p13, h.p14, h.p15, h.p16⟩
theorem MK20.s1 (h : MK20 W1 y ia ica T im icm Ev CA CB X XT L x107 x108 x109 x110 x111 x112 x113 x114 x115 x116 x117 x118 x119 x120 x121 x122 x123 W) : MK20 W1 y ia ica T im icm Ev CA CB X XT (upd L 1) x107 (.int .i64 Ev) x109 x110 x111 x112 x113 x114 x115 x116 x117 x118 x119 x120 x121 x122 x123 W :=
  ⟨h.x, h.p0, fun _ => rfl, h.p2, h.p3, h.p4, h.p6, h.p7, h.p8, h.p9, h.p10, h.p11, h.p13, h.p14, h.p15, h.p16⟩
end
@[reducible] def IMK20 (W1 : World) (y : Tk) (ia : Option Addr) (ica : Nat) (T : Tk) (im : Option Addr) (icm : Nat) (Ev : Int) (CA CB X XT : List Value) (y0 y1 y2 y3 y4 y5 y6 y7 y8 y9 y10 y11 y12 y13 y14 y15 y16 y17 y18 y19 y20 y21 y22 y23 y24 y25 y26 y27 y28 y29 y30 y31 y32 y33 y34 y35 y36 y37 y38 y39 y40 y41 y42 y43 y44 y45 y46 y47 y48 y49 y50 y51 y52 y53 y54 y55 y56 y57 y58 y59 y60 y61 y62 y63 y64 y65 y66 y67 y68 y69 y70 y71 y72 y73 y74 y75 y76 y77 y78 y79 y80 y81 y82 y83 y84 y85 y86 y87 y88 y89 y90 y91 y92 y93 y94 y95 y96 y97 y98 y99 y100 y101 y102 y103 y104 y105 y106 y124 y125 y126 y127 y128 : Value) : (Nat → Bool) → Act → World → Prop := fun L a W => ∃ x107 x108 x109 x110 x111 x112 x113 x114 x115 x116 x117 x118 x119 x120 x121 x122 x123, a = ⟨#[y0, y1, y2, y3, y4, y5, y6, y7, y8, y9, y10, y11, y12, y13, y14, y15, y16, y17, y18, y19, y20, y21, y22, y23, y24, y25, y26, y27, y28, y29, y30, y31, y32, y33, y34, y35, y36, y37, y38, y39, y40, y41, y42, y43, y44, y45, y46, y47, y48, y49, y50, y51, y52, y53, y54, y55, y56, y57, y58, y59, y60, y61, y62, y63, y64, y65, y66, y67, y68, y69, y70, y71, y72, y73, y74, y75, y76, y77, y78, y79, y80, y81, y82, y83, y84, y85, y86, y87, y88, y89, y90, y91, y92, y93, y94, y95, y96, y97, y98, y99, y100, y101, y102, y103, y104, y105, y106, x107, x108, x109, x110, x111, x112, x113, x114, x115, x116, x117, x118, x119, x120, x121, x122, x123, y124, y125, y126, y127, y128], []⟩ ∧ MK20 W1 y ia ica T im icm Ev CA CB X XT L x107 x108 x109 x110 x111 x112 x113 x114 x115 x116 x117 x118 x119 x120 x121 x122 x123 W
theorem MK20.step {W1 : World} {y : Tk} {ia : Option Addr} {ica : Nat} {T : Tk} {im : Option Addr} {icm : Nat} {Ev : Int} {CA CB X XT : List Value} {y0 y1 y2 y3 y4 y5 y6 y7 y8 y9 y10 y11 y12 y13 y14 y15 y16 y17 y18 y19 y20 y21 y22 y23 y24 y25 y26 y27 y28 y29 y30 y31 y32 y33 y34 y35 y36 y37 y38 y39 y40 y41 y42 y43 y44 y45 y46 y47 y48 y49 y50 y51 y52 y53 y54 y55 y56 y57 y58 y59 y60 y61 y62 y63 y64 y65 y66 y67 y68 y69 y70 y71 y72 y73 y74 y75 y76 y77 y78 y79 y80 y81 y82 y83 y84 y85 y86 y87 y88 y89 y90 y91 y92 y93 y94 y95 y96 y97 y98 y99 y100 y101 y102 y103 y104 y105 y106 y124 y125 y126 y127 y128 : Value} {P : Program} {ops : Array Oper} {Q : Exit → Act → World → Prop} {i : Nat} {o : Oper} (hq : ∀ x107 x108 x109 x110 x111 x112 x113 x114 x115 x116 x117 x118 x119 x120 x121 x122 x123 (L : Nat → Bool) (W : World), MK20 W1 y ia ica T im icm Ev CA CB X XT L x107 x108 x109 x110 x111 x112 x113 x114 x115 x116 x117 x118 x119 x120 x121 x122 x123 W → L i = false → (∀ j ∈ onesOf o, L j = true) → ∀ K : Act → World → Prop, Shut (∀ a' w', IMK20 W1 y ia ica T im icm Ev CA CB X XT y0 y1 y2 y3 y4 y5 y6 y7 y8 y9 y10 y11 y12 y13 y14 y15 y16 y17 y18 y19 y20 y21 y22 y23 y24 y25 y26 y27 y28 y29 y30 y31 y32 y33 y34 y35 y36 y37 y38 y39 y40 y41 y42 y43 y44 y45 y46 y47 y48 y49 y50 y51 y52 y53 y54 y55 y56 y57 y58 y59 y60 y61 y62 y63 y64 y65 y66 y67 y68 y69 y70 y71 y72 y73 y74 y75 y76 y77 y78 y79 y80 y81 y82 y83 y84 y85 y86 y87 y88 y89 y90 y91 y92 y93 y94 y95 y96 y97 y98 y99 y100 y101 y102 y103 y104 y105 y106 y124 y125 y126 y127 y128 (upd L i) a' w' → K a' w') → if Region.wanted o (yielded ops (⟨#[y0, y1, y2, y3, y4, y5, y6, y7, y8, y9, y10, y11, y12, y13, y14, y15, y16, y17, y18, y19, y20, y21, y22, y23, y24, y25, y26, y27, y28, y29, y30, y31, y32, y33, y34, y35, y36, y37, y38, y39, y40, y41, y42, y43, y44, y45, y46, y47, y48, y49, y50, y51, y52, y53, y54, y55, y56, y57, y58, y59, y60, y61, y62, y63, y64, y65, y66, y67, y68, y69, y70, y71, y72, y73, y74, y75, y76, y77, y78, y79, y80, y81, y82, y83, y84, y85, y86, y87, y88, y89, y90, y91, y92, y93, y94, y95, y96, y97, y98, y99, y100, y101, y102, y103, y104, y105, y106, x107, x108, x109, x110, x111, x112, x113, x114, x115, x116, x117, x118, x119, x120, x121, x122, x123, y124, y125, y126, y127, y128], []⟩ : Act).tmps) = true then Oper.wp P o ⟨#[y0, y1, y2, y3, y4, y5, y6, y7, y8, y9, y10, y11, y12, y13, y14, y15, y16, y17, y18, y19, y20, y21, y22, y23, y24, y25, y26, y27, y28, y29, y30, y31, y32, y33, y34, y35, y36, y37, y38, y39, y40, y41, y42, y43, y44, y45, y46, y47, y48, y49, y50, y51, y52, y53, y54, y55, y56, y57, y58, y59, y60, y61, y62, y63, y64, y65, y66, y67, y68, y69, y70, y71, y72, y73, y74, y75, y76, y77, y78, y79, y80, y81, y82, y83, y84, y85, y86, y87, y88, y89, y90, y91, y92, y93, y94, y95, y96, y97, y98, y99, y100, y101, y102, y103, y104, y105, y106, x107, x108, x109, x110, x111, x112, x113, x114, x115, x116, x117, x118, x119, x120, x121, x122, x123, y124, y125, y126, y127, y128], []⟩ W K Q else K ((⟨#[y0, y1, y2, y3, y4, y5, y6, y7, y8, y9, y10, y11, y12, y13, y14, y15, y16, y17, y18, y19, y20, y21, y22, y23, y24, y25, y26, y27, y28, y29, y30, y31, y32, y33, y34, y35, y36, y37, y38, y39, y40, y41, y42, y43, y44, y45, y46, y47, y48, y49, y50, y51, y52, y53, y54, y55, y56, y57, y58, y59, y60, y61, y62, y63, y64, y65, y66, y67, y68, y69, y70, y71, y72, y73, y74, y75, y76, y77, y78, y79, y80, y81, y82, y83, y84, y85, y86, y87, y88, y89, y90, y91, y92, y93, y94, y95, y96, y97, y98, y99, y100, y101, y102, y103, y104, y105, y106, x107, x108, x109, x110, x111, x112, x113, x114, x115, x116, x117, x118, x119, x120, x121, x122, x123, y124, y125, y126, y127, y128], []⟩ : Act).put o.dst undef) W) : StepI P ops (IMK20 W1 y ia ica T im icm Ev CA CB X XT y0 y1 y2 y3 y4 y5 y6 y7 y8 y9 y10 y11 y12 y13 y14 y15 y16 y17 y18 y19 y20 y21 y22 y23 y24 y25 y26 y27 y28 y29 y30 y31 y32 y33 y34 y35 y36 y37 y38 y39 y40 y41 y42 y43 y44 y45 y46 y47 y48 y49 y50 y51 y52 y53 y54 y55 y56 y57 y58 y59 y60 y61 y62 y63 y64 y65 y66 y67 y68 y69 y70 y71 y72 y73 y74 y75 y76 y77 y78 y79 y80 y81 y82 y83 y84 y85 y86 y87 y88 y89 y90 y91 y92 y93 y94 y95 y96 y97 y98 y99 y100 y101 y102 y103 y104 y105 y106 y124 y125 y126 y127 y128) Q i o := by
  rintro L a W ⟨x107, x108, x109, x110, x111, x112, x113, x114, x115, x116, x117, x118, x119, x120, x121, x122, x123, rfl, h⟩
  exact hq _ _ _ _ _ _ _ _ _ _ _ _ _ _ _ _ _ _ _ h
structure MK23 (W1 : World) (w : World) (gm g8 ga gb : Nat) (y : Tk) (ia : Option Addr) (ica : Nat) (la : Option Addr) (lca : Nat) (ib : Option Addr) (icb : Nat) (lb : Option Addr) (lcb : Nat) (X XT CA CB : List Value) (L : Nat → Bool) (x126 x127 : Value) (W : World) : Prop where
  x : M23 w gm g8 ga gb y ia ica la lca ib icb lb lcb X XT (L 2) (L 3) W
  p0 : L 0 = true → x126 = .agg CA.toArray
  p1 : L 1 = true → x127 = .agg CB.toArray
section
variable {W1 : World} {w : World} {gm g8 ga gb : Nat} {y : Tk} {ia : Option Addr} {ica : Nat} {la : Option Addr} {lca : Nat} {ib : Option Addr} {icb : Nat} {lb : Option Addr} {lcb : Nat} {X XT CA CB : List Value} {L : Nat → Bool} {x126 x127 : Value} {W W2 : World}
theorem MK23.s0 (h : MK23 W1 w gm g8 ga gb y ia ica la lca ib icb lb lcb X XT CA CB L x126 x127 W) : MK23 W1 w gm g8 ga gb y ia ica la lca ib icb lb lcb X XT CA CB (upd L 0) (.agg CA.toArray) x127 W :=
  ⟨h.x, fun _ => rfl, h.p1⟩
theorem MK23.s1 (h : MK23 W1 w gm g8 ga gb y ia ica la lca ib icb lb lcb X XT CA CB L x126 x127 W) : MK23 W1 w gm g8 ga gb y ia ica la lca ib icb lb lcb X XT CA CB (upd L 1) x126 (.agg CB.toArray) W :=
  ⟨h.x, h.p0, fun _ => rfl⟩
theorem MK23.s2 (h : MK23 W1 w gm g8 ga gb y ia ica la lca ib icb lb lcb X XT CA CB L x126 x127 W) (hX : M23 w gm g8 ga gb y ia ica la lca ib icb lb lcb X XT ((upd L 2) 2) ((upd L 2) 3) W2) : MK23 W1 w gm g8 ga gb y ia ica la lca ib icb lb lcb X XT CA CB (upd L 2) x126 x127 W2 :=
  ⟨hX, h.p0, h.p1⟩
theorem MK23.s3 (h : MK23 W1 w gm g8 ga gb y ia ica la lca ib icb lb lcb X XT CA CB L x126 x127 W) (hX : M23 w gm g8 ga gb y ia ica la lca ib icb lb lcb X XT ((upd L 3) 2) ((upd L 3) 3) W2) : MK23 W1 w gm g8 ga gb y ia ica la lca ib icb lb lcb X XT CA CB (upd L 3) x126 x127 W2 :=
  ⟨hX, h.p0, h.p1⟩
end
@[reducible] def IMK23 (W1 : World) (w : World) (gm g8 ga gb : Nat) (y : Tk) (ia : Option Addr) (ica : Nat) (la : Option Addr) (lca : Nat) (ib : Option Addr) (icb : Nat) (lb : Option Addr) (lcb : Nat) (X XT CA CB : List Value) (y0 y1 y2 y3 y4 y5 y6 y7 y8 y9 y10 y11 y12 y13 y14 y15 y16 y17 y18 y19 y20 y21 y22 y23 y24 y25 y26 y27 y28 y29 y30 y31 y32 y33 y34 y35 y36 y37 y38 y39 y40 y41 y42 y43 y44 y45 y46 y47 y48 y49 y50 y51 y52 y53 y54 y55 y56 y57 y58 y59 y60 y61 y62 y63 y64 y65 y66 y67 y68 y69 y70 y71 y72 y73 y74 y75 y76 y77 y78 y79 y80 y81 y82 y83 y84 y85 y86 y87 y88 y89 y90 y91 y92 y93 y94 y95 y96 y97 y98 y99 y100 y101 y102 y103 y104 y105 y106 y107 y108 y109 y110 y111 y112 y113 y114 y115 y116 y117 y118 y119 y120 y121 y122 y123 y124 y125 y128 : Value) : (Nat → Bool) → Act → World → Prop := fun L a W => ∃ x126 x127, a = ⟨#[y0, y1, y2, y3, y4, y5, y6, y7, y8, y9, y10, y11, y12, y13, y14, y15, y16, y17, y18, y19, y20, y21, y22, y23, y24, y25, y26, y27, y28, y29, y30, y31, y32, y33, y34, y35, y36, y37, y38, y39, y40, y41, y42, y43, y44, y45, y46, y47, y48, y49, y50, y51, y52, y53, y54, y55, y56, y57, y58, y59, y60, y61, y62, y63, y64, y65, y66, y67, y68, y69, y70, y71, y72, y73, y74, y75, y76, y77, y78, y79, y80, y81, y82, y83, y84, y85, y86, y87, y88, y89, y90, y91, y92, y93, y94, y95, y96, y97, y98, y99, y100, y101, y102, y103, y104, y105, y106, y107, y108, y109, y110, y111, y112, y113, y114, y115, y116, y117, y118, y119, y120, y121, y122, y123, y124, y125, x126, x127, y128], []⟩ ∧ MK23 W1 w gm g8 ga gb y ia ica la lca ib icb lb lcb X XT CA CB L x126 x127 W
set_option maxHeartbeats 4000000 in
theorem mk7 (c0 c1 c2 c3 c5 c6 c7 c9 c10 c11 c12 c13 c14 c15 c16 c17 c18 c19 c20 c21 c22 c23 c24 c25 c26 c27 c28 c29 c30 c31 c32 c33 c34 c35 c36 c37 c38 c39 c40 c41 c42 c43 c44 c45 c46 c47 c48 c49 c50 c51 c52 c53 c54 c55 c56 c57 c58 c59 c60 c61 c62 c63 c64 c65 c66 c67 c68 c69 c70 c71 c72 c73 c74 c75 c76 c77 c78 c79 c80 c81 c82 c83 c84 c85 c86 c87 c88 c89 c90 c91 c92 c93 c94 c95 c96 c97 c98 c99 c100 c101 c102 c103 c104 c105 c106 c107 c108 c109 c110 c111 c112 c113 c114 c115 c116 c117 c118 c119 c120 c121 c122 c123 c124 c125 c126 c127 c128 : Value) (C : Tok) (w Wa : World) (g8 : Nat) (t : Tk) (io : Option Addr) (ic : Nat) (lo : Option Addr) (lc : Nat) (hB : Below w.heap.size w Wa) (h8 : w.heap.size ≤ g8) (r8 : Row Wa g8 28 (tkCells t io ic lo lc)) (hv : TkV w t io ic lo lc) (hf : t.cs.length ≤ 65536) (no : Option Addr) (nc : Nat) (L : List Cv) (hL : CvsIn w no L) (hok : ∀ c ∈ L, c.ok) (hn : L.length ≤ 100) : Code.wp Tryz.prog (dropS 7 (Tryz.f3.body.getD .skip)) (bodyPost Tryz.prog Tryz.f3 (OkP w)) ⟨#[c0, c1, c2, c3, .slice no L.length nc, c5, c6, c7, .pointer (some ⟨g8, 0, none⟩), c9, c10, c11, c12, c13, c14, c15, c16, c17, c18, c19, c20, c21, c22, c23, c24, c25, c26, c27, c28, c29, c30, c31, c32, c33, c34, c35, c36, c37, c38, c39, c40, c41, c42, c43, c44, c45, c46, c47, c48, c49, c50, c51, c52, c53, c54, c55, c56, c57, c58, c59, c60, c61, c62, c63, c64, c65, c66, c67, c68, c69, c70, c71, c72, c73, c74, c75, c76, c77, c78, c79, c80, c81, c82, c83, c84, c85, c86, c87, c88, c89, c90, c91, c92, c93, c94, c95, c96, c97, c98, c99, c100, c101, c102, c103, c104, c105, c106, c107, c108, c109, c110, c111, c112, c113, c114, c115, c116, c117, c118, c119, c120, c121, c122, c123, c124, c125, c126, c127, c128], []⟩ Wa := by
  have HC : Hid Tok := C
  have OF := l24of_any t io ic lo lc Wa (hv.keep hB) hf
  have HCI : Hid (∀ W, Below w.heap.size w W → CvsIn W no L) := fun W h => hL.keep h
  have HOK : Hid (∀ c ∈ L, c.ok) := hok
  obtain ⟨m, hm⟩ : ∃ m, L.length = m := ⟨_, rfl⟩
  have HM : Hid (L.length = m ∧ m ≤ 100) := ⟨hm, by omega⟩
  have LT : Hid ((tkCells t io ic lo lc).length = 35) := tkC_len hv.tag
  have HV : Hid (TkV w t io ic lo lc ∧ t.cs.length ≤ 65536) := ⟨hv, hf⟩
  have H0 : Hid (Below w.heap.size w Wa ∧ w.heap.size ≤ g8 ∧ Row Wa g8 28 (tkCells t io ic lo lc)) := ⟨hB, h8, r8⟩
  rw [hm]
  clear C hL hok hn hm hB h8 hv hf
  conv => arg 2; whnf
  refine wp_seq_k fun K hK => ?_
  have HK : Hid _ := hK
  clear hK
  go_wp2_with (first
    | (have hz := r8; clear hz; refine wpList_load_Row rfl 28 (.tmp 8) rfl g8 28 (tkCells t io ic lo lc) r8 rfl _ Tryz.underlying28 rfl (by rw [LT.out]; kernel_rfl) ?_; clear r8))
  refine OF.mono ?_
  clear OF
  rintro e w4 ⟨G, c4, H, rfl, ho4, hr4, hH, hb4⟩
  dsimp only
  have HS5 : Hid (∀ w5, Row w5 w4.heap.size 40 (zTk.take 0 ++ tkCells t (some ⟨G, 0, none⟩) c4 (some ⟨H, 0, none⟩) (t.cs.length + 2) ++ zTk.drop (0 + (tkCells t (some ⟨G, 0, none⟩) c4 (some ⟨H, 0, none⟩) (t.cs.length + 2)).length)) → SameBut w4.heap.size (w4.alloc (.cells zTk.toArray 40)) w5 → MK w w4.heap.size g8 t (some ⟨G, 0, none⟩) c4 (some ⟨H, 0, none⟩) (t.cs.length + 2) io ic lo lc w5) := fun w5 hr hs => by
    have hb5 : Below w4.heap.size w4 w5 := hs.below ((Below.refl _ _).alloc (Nat.le_refl _) _) (Nat.le_refl _)
    have h1 := H0.out.2.2.lt
    have h2 := hb4.size
    have h3 := hr4.lt
    have h4 := H0.out.1.size
    have hG : Wa.heap.size + 2 ≤ G ∧ G < w4.heap.size := by
      rcases ho4.1.2 with ⟨_, e0⟩ | ⟨g, c', cur, e1, hg, hh, _⟩
      · simp [mk3] at e0
      · injection e1 with e1 _ _
        injection e1 with e1
        injection e1 with e1
        rw [e1]
        exact ⟨hg, (Array.getElem?_eq_some_iff.1 hh).1⟩
    have hvo := (of_tkv HV.out.1 ho4 hr4).keep hb5
    have hw5 : Below Wa.heap.size Wa w5 := hb4.trans (hb5.mono hb4.size)
    have hww : Below w.heap.size w w5 := H0.out.1.trans (hw5.mono H0.out.1.size)
    exact ⟨hww, by omega, H0.out.2.1, by omega, row_whole hr (by rw [tkCells_len HV.out.1.tag]; exact Nat.le_refl _), H0.out.2.2.below hw5 H0.out.2.2.lt, ⟨hvo, .inr ⟨G, 0, rfl, by omega, by omega⟩, .inr ⟨H, 0, rfl, by omega, by omega⟩⟩, (tkF_in HV.out.1 (by omega) H0.out.2.1).keep hww⟩
  have TG : Hid (t.tag.length = 32) := HV.out.1.tag
  clear ho4 hr4 hH hb4
  go_wp2_with (first
    | (have hz := HS5; clear hz; refine wpList_store_Row rfl 40 (.tmp 21) (.tmp 87) rfl w4.heap.size 40 0 zTk (tkCells t (some ⟨G, 0, none⟩) c4 (some ⟨H, 0, none⟩) (t.cs.length + 2)) (zRow w4) (by rw [tkCells_len TG.out]; exact Nat.le_refl _) rfl rfl (by rw [tkCells_len TG.out]; kernel_rfl) (tkCells_one _ _ _ _ _) ?_; intro w5 hr hs; have HK5 : Hid _ := HS5.out w5 hr hs; clear HS5 hr hs))
  refine HK.out _ _ ?_
  clear HK
  generalize w4.heap.size = gm at *
  go_wp2
  go_loopw [90] (fun iv wr => ∃ (i : Nat) (T : Tk) (io : Option Addr) (ic : Nat) (lo : Option Addr) (lc : Nat) (jo : Option Addr) (jc : Nat) (ko : Option Addr) (kc : Nat), i ≤ m ∧ iv = .int .i64 (i : Int) ∧ Hid (MK w gm g8 T io ic lo lc jo jc ko kc wr ∧ T.cs.length ≤ 65536 + i)) (fun iv _ => m - (intOf iv).toNat)
  case atStart => exact ⟨0, t, _, _, _, _, _, _, _, _, by omega, rfl, ⟨HK5.out, HV.out.2⟩⟩
  case round =>
    clear HK5 HV H0 TG LT
    obtain ⟨i, T, im, icm, lm, lcm, it, ict, lt, lct, hi, rfl, HI⟩ := hrel
    by_cases hlt : i < m
    · have y0 : (0 : Int) ≤ (i : Int) := by omega
      have y1 : (i : Int) < (m : Int) := by omega
      have z1 : IntKind.i64.wrap ((i : Int) + 1) = (i : Int) + 1 := i64_in _ (by omega) (by have := HM.out.2; omega)
      obtain ⟨c, hc⟩ : ∃ c, L[i]? = some c := ⟨_, List.getElem?_eq_getElem (by rw [HM.out.1]; exact hlt)⟩
      obtain ⟨B, off, hlo, hBs, hr⟩ := HCI.out wr HI.out.1.bel i c hc
      subst hlo
      have HCK : Hid (c.ok) := HOK.out c (List.mem_of_getElem? hc)
      have HLT : Hid (i < m) := hlt
      obtain ⟨CC, hCC⟩ : ∃ CC, CC = cvC c := ⟨_, rfl⟩
      have HCC : Hid (CC = cvC c) := hCC
      have LC5 : Hid (CC.length = 5) := by rw [hCC]; exact rfl
      have OC5 : Hid (∀ v ∈ CC, v.oneCell' = true) := by rw [hCC]; exact cvC_one c
      rw [← hCC] at hr
      have ZC : Hid (Row (wr.alloc (.cells zCv.toArray 50)) wr.heap.size 50 zCv) := Row.at wr _ _ _ _ rfl rfl
      clear hc hBs hi hlt hCC
      go_upto_region 18 with (first
        | (have hz := hr; clear hz; refine wpList_load_mid rfl 50 (.tmp 92) rfl B (off + i * 5) rfl CC _ hr Tryz.underlying50 rfl (by rw [LC5.out]; kernel_rfl) ?_; clear hr)
        | (have hz := ZC; clear hz; refine wpList_store_Row rfl 50 (.tmp 23) (.tmp 93) rfl wr.heap.size 50 0 zCv CC ZC.out (by rw [LC5.out]; exact Nat.le_refl _) rfl rfl (by rw [LC5.out]; kernel_rfl) OC5.out ?_; intro w6 hr6 hs6; have HR6 : Hid (Row w6 wr.heap.size 50 CC) := row_whole hr6 (by rw [LC5.out]; exact Nat.le_refl _); have HB6 : Hid (Below wr.heap.size wr w6) := hs6.below ((Below.refl _ _).alloc (Nat.le_refl _) _) (Nat.le_refl _); clear ZC hr6 hs6))
      have HI6 : Hid (MK w gm g8 T im icm lm lcm it ict lt lct w6) := HI.out.1.keep HB6.out
      have HLN : Hid (T.cs.length ≤ 65536 + i) := HI.out.2
      clear HI HB6
      generalize wr.heap.size = gc at *
      obtain ⟨y, hy⟩ : ∃ y, y = nrT T c := ⟨_, rfl⟩
      obtain ⟨Ev, hEv⟩ : ∃ Ev, Ev = nrE T c := ⟨_, rfl⟩
      have HY32 : Hid (y.tag.length = 32) := by rw [hy]; exact nrT_tag T c
      have HYL : Hid (y.cs.length ≤ 65536 + (i + 1)) := by show _ ≤ _; have := nrT_len T c; rw [← hy] at this; have := HLN.out; omega
      have NRC : Hid (∀ W, Below w6.heap.size w6 W → Calls Tryz.prog 15 #[.agg (tkCells T im icm lm lcm).toArray, .agg CC.toArray] W fun e w' => Below W.heap.size W w' ∧ TkA y (.int .i64 Ev) W e w') := fun W h => by rw [hy, hEv, HCC.out]; exact cnar_any HC.out T c im icm lm lcm W (HI6.out.keep h).mf.v (by have := HLN.out; have := HM.out.2; have := HLT.out; omega) HCK.out
      have RNC : Hid (∀ W, Below w6.heap.size w6 W → Calls Tryz.prog 17 #[.agg (tkCells T it ict lt lct).toArray, .agg CC.toArray] W fun e w' => Below W.heap.size W w' ∧ TkD y (.int .i64 Ev) W e w') := fun W h => by rw [hy, hEv, HCC.out]; exact rnar_any T c it ict lt lct W (HI6.out.keep h).tf.v HCK.out
      have CVC : Hid (∀ W, Calls Tryz.prog 16 #[.agg CC.toArray] W fun e w' => e = .returned (.agg CC.toArray) ∧ Below W.heap.size W w') := fun W => by rw [HCC.out]; exact l24caveat_any c W
      have RCC : Hid (∀ W, Below w6.heap.size w6 W → Row W gc 50 CC) := fun W h => HR6.out.below h HR6.out.lt
      have CW : Hid ((CC.drop 0).take 5 = CC) := by show _ = _; rw [List.drop_zero, List.take_of_length_le (by rw [LC5.out]; exact Nat.le_refl _)]
      obtain ⟨X, hX0⟩ : ∃ X, X = tkCells T im icm lm lcm := ⟨_, rfl⟩
      obtain ⟨XT, hXT⟩ : ∃ XT, XT = tkCells T it ict lt lct := ⟨_, rfl⟩
      have LX : Hid (X.length = 35) := by rw [hX0]; exact tkC_len HI6.out.mf.v.tag
      have LXT : Hid (XT.length = 35) := by rw [hXT]; exact tkC_len HI6.out.mf.v.tag
      have XP : Hid ((X.drop 0).take 35 = X) := by show _ = _; rw [List.drop_zero, List.take_of_length_le (by rw [LX.out]; exact Nat.le_refl _)]
      have XTP : Hid ((XT.drop 0).take 35 = XT) := by show _ = _; rw [List.drop_zero, List.take_of_length_le (by rw [LXT.out]; exact Nat.le_refl _)]
      have HX0 : Hid (X = tkCells T im icm lm lcm ∧ XT = tkCells T it ict lt lct) := ⟨hX0, hXT⟩
      have RX : Hid (∀ W, Below w6.heap.size w6 W → Row W gm 40 X) := fun W h => by rw [hX0]; exact (HI6.out.keep h).m
      have RXT : Hid (∀ W, Below w6.heap.size w6 W → Row W g8 28 XT) := fun W h => by rw [hXT]; exact (HI6.out.keep h).t
      rw [← hX0] at NRC
      rw [← hXT] at RNC
      have HZ0 : Hid (Ev = 0 → True) := fun _ => trivial
      clear hy hEv hX0 hXT HR6 HCC HCK
      refine wp_region_inv (IMK18 w6 y Ev X CC _ _ _ _ _ _ _ _ _ _ _ _ _ _ _ _ _ _ _ _ _ _ _ _ _ _ _ _ _ _ _ _ _ _ _ _ _ _ _ _ _ _ _ _ _ _ _ _ _ _ _ _ _ _ _ _ _ _ _ _ _ _ _ _ _ _ _ _ _ _ _ _ _ _ _ _ _ _ _ _ _ _ _ _ _ _ _ _ _ _ _ _ _ _ _ _ _ _ _ _ _ _ _ _ _ _ _ _ _ _ _ _ _ _ _ _ _ _ _ _) (by kernel_rfl) (by kernel_rfl) ⟨_, _, _, _, _, _, _, _, _, rfl, ⟨IQ.zero _ _ _ _ _ _ _, fun k => (by cases k), fun k => (by cases k), fun k => (by cases k), fun k => (by cases k), fun k => (by cases k)⟩⟩ ?_ ?_
      · refine .cons ?_ (.cons ?_ (.cons ?_ (.cons ?_ (.cons ?_ (.cons ?_ (.cons ?_ (.cons ?_ (.cons ?_ (.cons ?_ .nil)))))))))
        all_goals (rintro L _ W ⟨x95, x96, x97, x98, x94, x99, x100, x24, x25, rfl, hI⟩ hL hd K hK)
        · refine step_load_part (by rfl) 40 _ rfl gm 0 40 35 X (RX.out W hI.x.bel) rfl _ X XP.out LX.out Tryz.underlying40 rfl (by kernel_rfl) ?_
          exact hK.out _ _ ⟨_, _, _, _, _, _, _, _, _, rfl, { hI with p0 := fun _ => rfl }⟩
        · refine step_load_part (by rfl) 50 _ rfl gc 0 50 5 CC (RCC.out W hI.x.bel) rfl _ CC CW.out LC5.out Tryz.underlying50 rfl (by kernel_rfl) ?_
          exact hK.out _ _ ⟨_, _, _, _, _, _, _, _, _, rfl, { hI with p1 := fun _ => rfl }⟩
        · obtain rfl := hI.p1 (hd 1 (by decide))
          rw [if_pos (by rfl)]
          go_simp
          refine (CVC.out W).mono ?_
          rintro e W2 ⟨rfl, hb9⟩
          go_simp
          have hX := hI.x.keep hb9
          exact hK.out _ _ ⟨_, _, _, _, _, _, _, _, _, rfl, { hI with x := hX, p2 := fun _ => rfl }⟩
        · obtain rfl := hI.p0 (hd 0 (by decide))
          obtain rfl := hI.p2 (hd 2 (by decide))
          rw [if_pos (by rfl)]
          go_simp
          refine (NRC.out W hI.x.bel).mono ?_
          rintro e W2 ⟨hb9, io9, ic9, lo9, lc9, rfl, ho9⟩
          go_simp
          have hX := hI.x.s6 hL hb9 ho9 (q' := true) rfl
          exact hK.out _ _ ⟨_, _, _, _, _, _, _, _, _, rfl, { hI with x := hX }⟩
        · rw [if_pos (by rfl)]
          have hX := hI.x.s7 (hd 3 (by decide)) (q' := true) rfl
          go_simp
          exact hK.out _ _ ⟨_, _, _, _, _, _, _, _, _, rfl, { hI with x := hX }⟩
        · obtain ⟨io9, ic9, lo9, lc9, u1, u2, e32, u3⟩ := hI.x.v (hI.x.c7 (hd 4 (by decide)))
          have e33 := e32 (hd 4 (by decide))
          clear u1 u2 u3 e32
          have hX := hI.x.s8 (hd 4 (by decide)) e33 (q' := true) rfl
          subst e33
          rw [if_pos (by rfl)]
          go_simp
          exact hK.out _ _ ⟨_, _, _, _, _, _, _, _, _, rfl, { hI with x := hX }⟩
        · rw [if_pos (by rfl)]
          obtain ⟨io9, ic9, lo9, lc9, u1, u2, e32, u3⟩ := hI.x.v (hI.x.c7 (hd 4 (by decide)))
          have e33 := e32 (hd 4 (by decide))
          clear u1 u2 u3 e32
          subst e33
          go_simp
          exact hK.out _ _ ⟨_, _, _, _, _, _, _, _, _, rfl, { hI with p6 := fun _ => rfl }⟩
        · rw [if_pos (by rfl)]
          have hX := hI.x.s10 hL (q' := true) rfl
          go_simp
          exact hK.out _ _ ⟨_, _, _, _, _, _, _, _, _, rfl, { hI with x := hX }⟩
        · have h8x := hd 5 (by decide)
          have h10 := hd 7 (by decide)
          obtain ⟨io9, ic9, lo9, lc9, _, _, _, e40, _⟩ := hI.x.v (hI.x.c7 (hI.x.c8 h8x))
          have e41 := e40 h8x
          obtain ⟨g9, e11, hg9, hr9⟩ := hI.x.a h10 hL
          refine step_store_Row rfl 40 (.tmp 24) (.tmp 99) rfl g9 40 zTk (tkCells y io9 ic9 lo9 lc9) hr9 (by rw [tkCells_len HY32.out]; rfl) e11 e41 (by rw [tkCells_len HY32.out]; kernel_rfl) (tkCells_one _ _ _ _ _) ?_
          intro W2 hr2 hs2
          have hX := hI.x.s11 h8x h10 e41 e11 hg9 hr9 hr2 hs2 (q' := true) rfl
          exact hK.out _ _ ⟨_, _, _, _, _, _, _, _, _, rfl, { hI with x := hX }⟩
        · obtain rfl := hI.p6 (hd 6 (by decide))
          rw [if_pos (by rfl)]
          go_simp
          exact hK.out _ _ ⟨_, _, _, _, _, _, _, _, _, rfl, { hI with p9 := fun _ => rfl }⟩
      · rintro L _ W hall ⟨x95, x96, x97, x98, x94, x99, x100, x24, x25, rfl, hI⟩
        obtain rfl := hI.p0 (hall 0 (by decide))
        obtain rfl := hI.p1 (hall 1 (by decide))
        obtain rfl := hI.p2 (hall 2 (by decide))
        obtain rfl := hI.p6 (hall 6 (by decide))
        obtain rfl := hI.p9 (hall 9 (by decide))
        have hXe := hI.x
        rw [hall 3 (by decide)] at hXe
        rw [hall 4 (by decide)] at hXe
        rw [hall 5 (by decide)] at hXe
        rw [hall 7 (by decide)] at hXe
        rw [hall 8 (by decide)] at hXe
        clear hI hall
        try dsimp only
        obtain ⟨ia, ica, la, lca, ho7, _, _, h40, h11⟩ := hXe.v (hXe.c7 (hXe.c8 (hXe.c11 rfl).1))
        obtain ⟨ga, e11, hga, hra⟩ := h11 rfl
        have HB7 : Hid (Below w6.heap.size w6 W) := hXe.bel
        have HO7 : Hid (TkO 52 w6.heap.size W y ia ica la lca) := ho7
        have HR7 : Hid (Row W ga 40 (tkCells y ia ica la lca) ∧ w6.heap.size ≤ ga) := ⟨hra, hga⟩
        clear hXe h40 h11 ho7 hra hga NRC CVC
        subst e11
        have RT7 : Hid (Row W g8 28 XT) := RXT.out W HB7.out
        have RC7 : Hid (Row W gc 50 CC) := RCC.out W HB7.out
        have RN7 := RNC.out W HB7.out
        clear RNC RCC
        go_wp2_with (first
          | (have hz := RT7; clear hz; refine wpList_load_Row rfl 28 (.tmp 8) rfl g8 28 XT RT7.out rfl _ Tryz.underlying28 rfl (by rw [LXT.out]; kernel_rfl) ?_; clear RT7)
          | (have hz := RC7; clear hz; refine wpList_load_Row rfl 50 (.tmp 23) rfl gc 50 CC RC7.out rfl _ Tryz.underlying50 rfl (by rw [LC5.out]; kernel_rfl) ?_; clear RC7))
        refine RN7.mono ?_
        clear RN7
        rintro e w8 ⟨hb8, ib, icb, lb, lcb, rfl, hob⟩
        dsimp only
        have HB8 : Hid (Below w6.heap.size w6 w8) := HB7.out.trans (hb8.mono HB7.out.size)
        have HOA8 : Hid (TkO 52 w6.heap.size w8 y ia ica la lca) := HO7.out.keep hb8
        have HOB8 : Hid (TkO 50 w6.heap.size w8 y ib icb lb lcb) := hob.low HB7.out.size
        have HRA8 : Hid (Row w8 ga 40 (tkCells y ia ica la lca) ∧ w6.heap.size ≤ ga) := ⟨HR7.out.1.below hb8 HR7.out.1.lt, HR7.out.2⟩
        have Z8 : Hid (Row (w8.alloc (.cells zTk.toArray 28)) w8.heap.size 28 zTk) := Row.at w8 _ _ _ _ rfl rfl
        clear hb8 hob HB7 HO7 HR7
        go_upto_region 20 with (first
          | (have hz := Z8; clear hz; refine wpList_store_Row rfl 28 (.tmp 26) (.tmp 105) rfl w8.heap.size 28 0 zTk (tkCells y ib icb lb lcb) Z8.out (by rw [tkCells_len HY32.out]; exact Nat.le_refl _) rfl rfl (by rw [tkCells_len HY32.out]; kernel_rfl) (tkCells_one _ _ _ _ _) ?_; intro w9 hr9 hs9; have HR9 : Hid (Row w9 w8.heap.size 28 (tkCells y ib icb lb lcb)) := row_whole hr9 (by rw [tkCells_len HY32.out]; exact Nat.le_refl _); have HB9 : Hid (Below w8.heap.size w8 w9) := hs9.below ((Below.refl _ _).alloc (Nat.le_refl _) _) (Nat.le_refl _); clear Z8 hr9 hs9))
        have HW9 : Hid (Below w6.heap.size w6 w9) := HB8.out.trans (HB9.out.mono HB8.out.size)
        have HGB : Hid (w6.heap.size ≤ w8.heap.size) := HB8.out.size
        have HI9 : Hid (MK w gm g8 T im icm lm lcm it ict lt lct w9) := HI6.out.keep HW9.out
        have HGM : Hid (gm < w6.heap.size ∧ g8 < w6.heap.size) := ⟨HI6.out.m.lt, HI6.out.t.lt⟩
        have HAF : Hid (TkF gm g8 w9 y ia ica la lca) := (tkF_own HOA8.out HGM.out.1 HGM.out.2).keep HB9.out
        have HBF : Hid (TkF gm g8 w9 y ib icb lb lcb) := (tkF_own HOB8.out HGM.out.1 HGM.out.2).keep HB9.out
        have HRA : Hid (Row w9 ga 40 (tkCells y ia ica la lca) ∧ w6.heap.size ≤ ga) := ⟨HRA8.out.1.below HB9.out HRA8.out.1.lt, HRA8.out.2⟩
        clear HB8 HOA8 HOB8 HRA8 HI6 HB9
        generalize w8.heap.size = gb at *
        obtain ⟨CA, hCA⟩ : ∃ CA, CA = tkCells y ia ica la lca := ⟨_, rfl⟩
        obtain ⟨CB, hCB⟩ : ∃ CB, CB = tkCells y ib icb lb lcb := ⟨_, rfl⟩
        have LA : Hid (CA.length = 35) := by rw [hCA]; exact tkC_len HY32.out
        have LB : Hid (CB.length = 35) := by rw [hCB]; exact tkC_len HY32.out
        have AP : Hid ((CA.drop 0).take 35 = CA) := by show _ = _; rw [List.drop_zero, List.take_of_length_le (by rw [LA.out]; exact Nat.le_refl _)]
        have BP : Hid ((CB.drop 0).take 35 = CB) := by show _ = _; rw [List.drop_zero, List.take_of_length_le (by rw [LB.out]; exact Nat.le_refl _)]
        have RA : Hid (∀ W, Below w9.heap.size w9 W → Row W ga 40 CA) := fun W h => by rw [hCA]; exact HRA.out.1.below h HRA.out.1.lt
        have RB : Hid (∀ W, Below w9.heap.size w9 W → Row W gb 28 CB) := fun W h => by rw [hCB]; exact HR9.out.below h HR9.out.lt
        have RM : Hid (∀ W, Below w9.heap.size w9 W → Row W gm 40 X) := fun W h => RX.out W (HW9.out.trans (h.mono HW9.out.size))
        have RT : Hid (∀ W, Below w9.heap.size w9 W → Row W g8 28 XT) := fun W h => RXT.out W (HW9.out.trans (h.mono HW9.out.size))
        have BKA : Hid (∀ W, Below w9.heap.size w9 W → Calls Tryz.prog 13 #[.agg CA.toArray] W (BackP y ia ica W)) := fun W h => by rw [hCA]; exact l24back_any y ia ica la lca W (HAF.out.keep h).v (by have := HYL.out; have := HM.out.2; have := HLT.out; omega)
        have SMA : Hid (∀ W lo9 lc9, Below w9.heap.size w9 W → TkV W y ia ica lo9 lc9 → Calls Tryz.prog 12 #[.agg (tkCells y ia ica lo9 lc9).toArray, .agg CB.toArray] W fun e w' => e = .returned (.bool true) ∧ Below W.heap.size W w') := fun W lo9 lc9 h hv => by rw [hCB]; exact r24Same_any y y ia ica lo9 lc9 ib icb lb lcb W hv (HBF.out.keep h).v (by have := HYL.out; have := HM.out.2; have := HLT.out; omega) true (by simp)
        have BKM : Hid (∀ W, Below w9.heap.size w9 W → Calls Tryz.prog 13 #[.agg X.toArray] W (BackP T im icm W)) := fun W h => by rw [HX0.out.1]; exact l24back_any T im icm lm lcm W (HI9.out.keep h).mf.v (by have := HLN.out; have := HM.out.2; have := HLT.out; omega)
        have SMM : Hid (∀ W lo9 lc9, Below w9.heap.size w9 W → TkV W T im icm lo9 lc9 → Calls Tryz.prog 12 #[.agg (tkCells T im icm lo9 lc9).toArray, .agg XT.toArray] W fun e w' => e = .returned (.bool true) ∧ Below W.heap.size W w') := fun W lo9 lc9 h hv => by rw [HX0.out.2]; exact r24Same_any T T im icm lo9 lc9 it ict lt lct W hv (HI9.out.keep h).tf.v (by have := HLN.out; have := HM.out.2; have := HLT.out; omega) true (by simp)
        have e2 : (Ev == Ev) = true := by simp
        have e3 : (Ev != Ev) = false := by simp
        have HCAB : Hid (CA = tkCells y ia ica la lca ∧ CB = tkCells y ib icb lb lcb) := ⟨hCA, hCB⟩
        have HIE : Hid (MK w gm g8 T im icm lm lcm it ict lt lct w9) := HI9.out
        clear hCA hCB HW9 RX RXT
        refine wp_region_inv (IMK20 w9 y ia ica T im icm Ev CA CB X XT _ _ _ _ _ _ _ _ _ _ _ _ _ _ _ _ _ _ _ _ _ _ _ _ _ _ _ _ _ _ _ _ _ _ _ _ _ _ _ _ _ _ _ _ _ _ _ _ _ _ _ _ _ _ _ _ _ _ _ _ _ _ _ _ _ _ _ _ _ _ _ _ _ _ _ _ _ _ _ _ _ _ _ _ _ _ _ _ _ _ _ _ _ _ _ _ _ _ _ _ _ _ _ _ _ _ _ _ _ _ _ _) (by kernel_rfl) (by kernel_rfl) ⟨_, _, _, _, _, _, _, _, _, _, _, _, _, _, _, _, _, rfl, ⟨⟨BS.zero _ _ _ _ _, BS.zero _ _ _ _ _⟩, fun k => (by cases k), fun k => (by cases k), fun k => (by cases k), fun k => (by cases k), fun k => (by cases k), fun k => (by cases k), fun k => (by cases k), fun k => (by cases k), fun k => (by cases k), fun k => (by cases k), fun k => (by cases k), fun k => (by cases k), fun k => (by cases k), fun k => (by cases k), fun k => (by cases k)⟩⟩ ?_ ?_
        · refine .cons ?_ (.cons ?_ (.cons ?_ (.cons ?_ (.cons ?_ (.cons ?_ (.cons ?_ (.cons ?_ (.cons ?_ (.cons ?_ (.cons ?_ (.cons ?_ (.cons ?_ (.cons ?_ (.cons ?_ (.cons ?_ (.cons ?_ .nil))))))))))))))))
          all_goals (refine MK20.step ?_; intro x107 x108 x109 x110 x111 x112 x113 x114 x115 x116 x117 x118 x119 x120 x121 x122 x123 L W hI hL hd K hK)
          · rw [if_pos (by rfl)]
            go_simp
            exact hK.out _ _ ⟨_, _, _, _, _, _, _, _, _, _, _, _, _, _, _, _, _, rfl, { hI with p0 := fun _ => rfl }⟩
          · rw [if_pos (by rfl)]
            go_simp
            exact hK.out _ _ ⟨_, _, _, _, _, _, _, _, _, _, _, _, _, _, _, _, _, rfl, { hI with p1 := fun _ => rfl }⟩
          · obtain rfl := hI.p0 (hd 0 (by decide))
            obtain rfl := hI.p1 (hd 1 (by decide))
            rw [if_pos (by rfl)]
            go_simp
            exact hK.out _ _ ⟨_, _, _, _, _, _, _, _, _, _, _, _, _, _, _, _, _, rfl, { hI with p2 := fun _ => rfl }⟩
          · obtain rfl := hI.p2 (hd 2 (by decide))
            rw [if_pos (by rfl)]
            go_simp
            exact hK.out _ _ ⟨_, _, _, _, _, _, _, _, _, _, _, _, _, _, _, _, _, rfl, { hI with p3 := fun _ => rfl }⟩
          · obtain rfl := hI.p3 (hd 3 (by decide))
            refine step_load_part (by rfl) 40 _ rfl ga 0 40 35 CA (RA.out W hI.x.a.bel) rfl _ CA AP.out LA.out Tryz.underlying40 rfl (by kernel_rfl) ?_
            exact hK.out _ _ ⟨_, _, _, _, _, _, _, _, _, _, _, _, _, _, _, _, _, rfl, { hI with p4 := fun _ => rfl }⟩
          · obtain rfl := hI.p4 (hd 4 (by decide))
            obtain rfl := hI.p3 (hd 3 (by decide))
            rw [if_pos (by rfl)]
            go_simp
            refine (BKA.out W hI.x.a.bel).mono ?_
            rintro e W2 ⟨lo9, lc9, rfl, hv9, hb9⟩
            go_simp
            have hX := BS2.mk (hI.x.a.s hb9 hv9 (q' := true)) (hI.x.b.keep hb9)
            exact hK.out _ _ ⟨_, _, _, _, _, _, _, _, _, _, _, _, _, _, _, _, _, rfl, { hI with x := hX }⟩
          · obtain rfl := hI.p3 (hd 3 (by decide))
            refine step_load_part (by rfl) 28 _ rfl gb 0 28 35 CB (RB.out W hI.x.a.bel) rfl _ CB BP.out LB.out Tryz.underlying28 rfl (by kernel_rfl) ?_
            exact hK.out _ _ ⟨_, _, _, _, _, _, _, _, _, _, _, _, _, _, _, _, _, rfl, { hI with p6 := fun _ => rfl }⟩
          · obtain rfl := hI.p6 (hd 6 (by decide))
            obtain rfl := hI.p3 (hd 3 (by decide))
            rw [if_pos (by rfl)]
            go_simp
            obtain ⟨lo9, lc9, e9, hv9⟩ := hI.x.a.p (hd 5 (by decide))
            subst e9
            refine (SMA.out W lo9 lc9 hI.x.a.bel hv9).mono ?_
            rintro e W2 ⟨rfl, hb9⟩
            go_simp
            have hX := BS2.mk (hI.x.a.keep hb9) (hI.x.b.keep hb9)
            exact hK.out _ _ ⟨_, _, _, _, _, _, _, _, _, _, _, _, _, _, _, _, _, rfl, { hI with x := hX, p7 := fun _ => rfl }⟩
          · obtain rfl := hI.p7 (hd 7 (by decide))
            obtain rfl := hI.p3 (hd 3 (by decide))
            rw [if_pos (by rfl)]
            go_simp
            exact hK.out _ _ ⟨_, _, _, _, _, _, _, _, _, _, _, _, _, _, _, _, _, rfl, { hI with p8 := fun _ => rfl }⟩
          · obtain rfl := hI.p3 (hd 3 (by decide))
            obtain rfl := hI.p8 (hd 8 (by decide))
            rw [if_pos (by rfl)]
            go_simp
            exact hK.out _ _ ⟨_, _, _, _, _, _, _, _, _, _, _, _, _, _, _, _, _, rfl, { hI with p9 := fun _ => rfl }⟩
          · obtain rfl := hI.p9 (hd 9 (by decide))
            rw [if_pos (by rfl)]
            go_simp
            exact hK.out _ _ ⟨_, _, _, _, _, _, _, _, _, _, _, _, _, _, _, _, _, rfl, { hI with p10 := fun _ => rfl }⟩
          · obtain rfl := hI.p10 (hd 10 (by decide))
            refine step_load_part (by rfl) 40 _ rfl gm 0 40 35 X (RM.out W hI.x.a.bel) rfl _ X XP.out LX.out Tryz.underlying40 rfl (by kernel_rfl) ?_
            exact hK.out _ _ ⟨_, _, _, _, _, _, _, _, _, _, _, _, _, _, _, _, _, rfl, { hI with p11 := fun _ => rfl }⟩
          · obtain rfl := hI.p11 (hd 11 (by decide))
            obtain rfl := hI.p10 (hd 10 (by decide))
            rw [if_pos (by rfl)]
            go_simp
            refine (BKM.out W hI.x.a.bel).mono ?_
            rintro e W2 ⟨lo9, lc9, rfl, hv9, hb9⟩
            go_simp
            have hX := BS2.mk (hI.x.a.keep hb9) (hI.x.b.s hb9 hv9 (q' := true))
            exact hK.out _ _ ⟨_, _, _, _, _, _, _, _, _, _, _, _, _, _, _, _, _, rfl, { hI with x := hX }⟩
          · obtain rfl := hI.p10 (hd 10 (by decide))
            refine step_load_part (by rfl) 28 _ rfl g8 0 28 35 XT (RT.out W hI.x.a.bel) rfl _ XT XTP.out LXT.out Tryz.underlying28 rfl (by kernel_rfl) ?_
            exact hK.out _ _ ⟨_, _, _, _, _, _, _, _, _, _, _, _, _, _, _, _, _, rfl, { hI with p13 := fun _ => rfl }⟩
          · obtain rfl := hI.p13 (hd 13 (by decide))
            obtain rfl := hI.p10 (hd 10 (by decide))
            rw [if_pos (by rfl)]
            go_simp
            obtain ⟨lo9, lc9, e9, hv9⟩ := hI.x.b.p (hd 12 (by decide))
            subst e9
            refine (SMM.out W lo9 lc9 hI.x.a.bel hv9).mono ?_
            rintro e W2 ⟨rfl, hb9⟩
            go_simp
            have hX := BS2.mk (hI.x.a.keep hb9) (hI.x.b.keep hb9)
            exact hK.out _ _ ⟨_, _, _, _, _, _, _, _, _, _, _, _, _, _, _, _, _, rfl, { hI with x := hX, p14 := fun _ => rfl }⟩
          · obtain rfl := hI.p14 (hd 14 (by decide))
            obtain rfl := hI.p10 (hd 10 (by decide))
            rw [if_pos (by rfl)]
            go_simp
            exact hK.out _ _ ⟨_, _, _, _, _, _, _, _, _, _, _, _, _, _, _, _, _, rfl, { hI with p15 := fun _ => rfl }⟩
          · obtain rfl := hI.p10 (hd 10 (by decide))
            obtain rfl := hI.p15 (hd 15 (by decide))
            rw [if_pos (by rfl)]
            go_simp
            exact hK.out _ _ ⟨_, _, _, _, _, _, _, _, _, _, _, _, _, _, _, _, _, rfl, { hI with p16 := fun _ => rfl }⟩
        · rintro L _ W hall ⟨x107, x108, x109, x110, x111, x112, x113, x114, x115, x116, x117, x118, x119, x120, x121, x122, x123, rfl, hI⟩
          obtain rfl := hI.p0 (hall 0 (by decide))
          obtain rfl := hI.p1 (hall 1 (by decide))
          obtain rfl := hI.p2 (hall 2 (by decide))
          obtain rfl := hI.p3 (hall 3 (by decide))
          obtain rfl := hI.p4 (hall 4 (by decide))
          obtain rfl := hI.p6 (hall 6 (by decide))
          obtain rfl := hI.p7 (hall 7 (by decide))
          obtain rfl := hI.p8 (hall 8 (by decide))
          obtain rfl := hI.p9 (hall 9 (by decide))
          obtain rfl := hI.p10 (hall 10 (by decide))
          obtain rfl := hI.p11 (hall 11 (by decide))
          obtain rfl := hI.p13 (hall 13 (by decide))
          obtain rfl := hI.p14 (hall 14 (by decide))
          obtain rfl := hI.p15 (hall 15 (by decide))
          obtain rfl := hI.p16 (hall 16 (by decide))
          have hXe := hI.x
          rw [hall 5 (by decide)] at hXe
          rw [hall 12 (by decide)] at hXe
          clear hI hall
          try dsimp only
          have HBX : Hid (Below w9.heap.size w9 W) := hXe.a.bel
          have HIX : Hid (MK w gm g8 T im icm lm lcm it ict lt lct W) := HIE.out.keep hXe.a.bel
          clear hXe e2 e3 BKA SMA BKM SMM
          by_cases h9 : Ev = 0
          · subst h9
            have H23 : Hid (M23 w gm g8 ga gb y ia ica la lca ib icb lb lcb X XT false false W.drew) := by
              have hb : Below W.heap.size W W.drew := (Below.refl _ _).drew
              have k := HIX.out.keep hb
              have hb2 := HBX.out.trans (hb.mono HBX.out.size)
              have h1 := HGM.out; have h2 := HGB.out; have h3 := HRA.out.2
              exact ⟨k.bel, k.hm, k.h8, k.ne, by omega, by omega, LX.out, LXT.out, RM.out _ hb2, RT.out _ hb2, by rw [← HCAB.out.1]; exact RA.out _ hb2, by rw [← HCAB.out.2]; exact RB.out _ hb2, HAF.out.keep hb2, HBF.out.keep hb2⟩
            clear RA RB RM RT HAF HBF HRA HR9 HI9 HIE HGM HGB HIX
            go_upto_region 23 with fail
            refine wp_region_inv (IMK23 W w gm g8 ga gb y ia ica la lca ib icb lb lcb X XT CA CB _ _ _ _ _ _ _ _ _ _ _ _ _ _ _ _ _ _ _ _ _ _ _ _ _ _ _ _ _ _ _ _ _ _ _ _ _ _ _ _ _ _ _ _ _ _ _ _ _ _ _ _ _ _ _ _ _ _ _ _ _ _ _ _ _ _ _ _ _ _ _ _ _ _ _ _ _ _ _ _ _ _ _ _ _ _ _ _ _ _ _ _ _ _ _ _ _ _ _ _ _ _ _ _ _ _ _ _ _ _ _ _ _ _ _ _ _ _ _ _ _ _ _ _ _ _ _) (by kernel_rfl) (by kernel_rfl) ⟨_, _, rfl, ⟨H23.out, fun k => (by cases k), fun k => (by cases k)⟩⟩ ?_ ?_
            · refine .cons ?_ (.cons ?_ (.cons ?_ (.cons ?_ .nil)))
              all_goals (rintro L _ W ⟨x126, x127, rfl, hI⟩ hL hd K hK)
              · have hr9 : Row W ga 40 CA := (by rw [HCAB.out.1]; exact hI.x.a)
                refine step_load_part (by rfl) 40 _ rfl ga 0 40 35 CA hr9 rfl _ CA AP.out LA.out Tryz.underlying40 rfl (by kernel_rfl) ?_
                exact hK.out _ _ ⟨_, _, rfl, { hI with p0 := fun _ => rfl }⟩
              · have hr9 : Row W gb 28 CB := (by rw [HCAB.out.2]; exact hI.x.b)
                refine step_load_part (by rfl) 28 _ rfl gb 0 28 35 CB hr9 rfl _ CB BP.out LB.out Tryz.underlying28 rfl (by kernel_rfl) ?_
                exact hK.out _ _ ⟨_, _, rfl, { hI with p1 := fun _ => rfl }⟩
              · obtain rfl := hI.p0 (hd 0 (by decide))
                have hx0 := hI.x
                rw [hL] at hx0
                have hm0 : Row W gm 40 X := hx0.m
                refine step_store_Row rfl 40 (.tmp 21) (.tmp 126) rfl gm 40 X CA hm0 (by rw [LA.out, LX.out]) rfl rfl (by rw [LA.out]; kernel_rfl) (by rw [HCAB.out.1]; exact tkCells_one _ _ _ _ _) ?_
                intro W2 hr2 hs2
                rw [HCAB.out.1] at hr2
                have hX := hx0.s2 hr2 hs2 (q' := true) rfl
                exact hK.out _ _ ⟨_, _, rfl, { hI with x := hX }⟩
              · obtain rfl := hI.p1 (hd 1 (by decide))
                have hx0 := hI.x
                rw [hL] at hx0
                have hm0 : Row W g8 28 XT := hx0.t
                refine step_store_Row rfl 28 (.tmp 8) (.tmp 127) rfl g8 28 XT CB hm0 (by rw [LB.out, LXT.out]) rfl rfl (by rw [LB.out]; kernel_rfl) (by rw [HCAB.out.2]; exact tkCells_one _ _ _ _ _) ?_
                intro W2 hr2 hs2
                rw [HCAB.out.2] at hr2
                have hX := hx0.s3 hr2 hs2 (q' := true) rfl
                exact hK.out _ _ ⟨_, _, rfl, { hI with x := hX }⟩
            · rintro L _ W hall ⟨x126, x127, rfl, hI⟩
              obtain rfl := hI.p0 (hall 0 (by decide))
              obtain rfl := hI.p1 (hall 1 (by decide))
              have hXe := hI.x
              rw [hall 2 (by decide)] at hXe
              rw [hall 3 (by decide)] at hXe
              clear hI hall
              try dsimp only
              have HF : Hid (M23 w gm g8 ga gb y ia ica la lca ib icb lb lcb X XT true true W) := hXe
              clear hXe
              go_wp2
              exact ⟨⟨i + 1, y, ia, ica, la, lca, ib, icb, lb, lcb, HLT.out, by go_num, ⟨⟨HF.out.bel, HF.out.hm, HF.out.h8, HF.out.ne, HF.out.m, HF.out.t, HF.out.af, HF.out.bf⟩, HYL.out⟩⟩, by have := HLT.out; simp [intOf]; omega⟩
          · have e9 : (Ev == 0) = false := by rw [beq_eq_false_iff_ne]; exact h9
            have e8 : decide (Ev = 0) = false := decide_eq_false h9
            clear RA RB RM RT
            go_wp2
            exact ⟨⟨i + 1, T, im, icm, lm, lcm, it, ict, lt, lct, HLT.out, by go_num, ⟨HIX.out, by have := HLN.out; omega⟩⟩, by have := HLT.out; simp [intOf]; omega⟩
    · obtain rfl : i = m := by omega
      have y1 : ¬ ((i : Nat) : Int) < (i : Int) := by omega
      go_wp2
      go_ret
      exact ⟨rfl, HI.out.1.bel⟩
end Go.Proofs.YtjooabgjkjnhhaaGreatDoor
