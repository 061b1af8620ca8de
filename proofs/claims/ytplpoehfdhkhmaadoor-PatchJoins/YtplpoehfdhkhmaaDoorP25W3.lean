
import Derived.Test.YtplpoehfdhkhmaaDoorP25J1
/-! The law of layer 25: PatchJoins. (Printed by tools/genlw25.py.) -/
namespace Go.Proofs.YtplpoehfdhkhmaaDoor
open Go.RowKit
set_option linter.unusedVariables false

theorem zPx_len : zPx.length = 67 := by kernel_rfl
theorem joP_uni (J : List By -> List By -> List By) {w : World} {p q : List By} {e : Ending} {w' : World} (h : JoP w p q e w') : Below w.heap.size w w' /\ ∃ C D, e = .returned (.tuple #[.agg C.toArray, .agg D.toArray, .agg #[.int .i64 ((jT J p q).2.1 : Int), .int .i64 ((jT J p q).2.2 : Int)]]) /\ (C.length = 67 /\ D.length = 67) /\ ((∀ v ∈ C, v.oneCell' = true) /\ (∀ v ∈ D, v.oneCell' = true)) /\ ∀ x y, joinsR p q = .ok (x, y) -> PxV w.heap.size w' x C /\ PxV w.heap.size w' y D := by
  refine ⟨h.1, ?_⟩
  have h2 := h.2
  unfold jT
  cases hr : joinsR p q with
  | error ka =>
    rw [hr] at h2
    exact ⟨zPx, zPx, h2, ⟨zPx_len, zPx_len⟩, ⟨zPx_one, zPx_one⟩, fun x y h => by cases h⟩
  | ok xy =>
    obtain ⟨x, y⟩ := xy
    rw [hr] at h2
    obtain ⟨C, D, e1, h3, h4⟩ := h2
    refine ⟨C, D, e1, ⟨h3.len, h4.len⟩, ⟨?_, ?_⟩, fun x' y' h => ?_⟩
    · obtain ⟨lo, lc, hC, _⟩ := h3.eq
      rw [hC]; exact pxC_one _ _ _ _ _ _ _
    · obtain ⟨lo, lc, hC, _⟩ := h4.eq
      rw [hC]; exact pxC_one _ _ _ _ _ _ _
    · injection h with h
      injection h with e1 e2
      subst e1 e2
      exact ⟨h3, h4⟩
theorem joins_ok {p q : List By} {x y : PX} (h : joinsR p q = .ok (x, y)) : y.before = x.after := by
  unfold joinsR at h
  split at h
  · cases h
  · split at h
    · cases h
    · split at h
      · cases h
      · rename_i hn
        injection h with h
        injection h with e1 e2
        subst e1 e2
        exact Classical.byContradiction fun h => hn (.inr h)
structure JN10 (W1 : World) (gX n : Nat) (L : Nat -> Bool) (x79 x80 x81 x82 x83 x84 x85 x14 : Value) (W : World) : Prop where
  x : RGj W1 n (L 2) (L 5) (L 6) (L 7) x81 x84 x85 x14 W
  p0 : L 0 = true -> x79 = .pointer (some ⟨gX, 64, none⟩)
  p1 : L 1 = true -> x80 = .int .i64 (n : Int)
  p3 : L 3 = true -> x82 = .pointer (some ⟨gX, 64, none⟩)
  p4 : L 4 = true -> x83 = .int .i64 (n : Int)
section
variable {W1 : World} {gX n : Nat} {L : Nat -> Bool} {x79 x80 x81 x82 x83 x84 x85 x14 : Value} {W W2 : World}
theorem JN10.s2 (h : JN10 W1 gX n L x79 x80 x81 x82 x83 x84 x85 x14 W) {v : Value} (hX : RGj W1 n ((upd L 2) 2) ((upd L 2) 5) ((upd L 2) 6) ((upd L 2) 7) v x84 x85 x14 W2) : JN10 W1 gX n (upd L 2) x79 x80 v x82 x83 x84 x85 x14 W2 :=
  ⟨hX, h.p0, h.p1, h.p3, h.p4⟩
theorem JN10.s5 (h : JN10 W1 gX n L x79 x80 x81 x82 x83 x84 x85 x14 W) {v : Value} (hX : RGj W1 n ((upd L 5) 2) ((upd L 5) 5) ((upd L 5) 6) ((upd L 5) 7) x81 v x85 x14 W2) : JN10 W1 gX n (upd L 5) x79 x80 x81 x82 x83 v x85 x14 W2 :=
  ⟨hX, h.p0, h.p1, h.p3, h.p4⟩
theorem JN10.s6 (h : JN10 W1 gX n L x79 x80 x81 x82 x83 x84 x85 x14 W) {v : Value} (hX : RGj W1 n ((upd L 6) 2) ((upd L 6) 5) ((upd L 6) 6) ((upd L 6) 7) x81 x84 v x14 W2) : JN10 W1 gX n (upd L 6) x79 x80 x81 x82 x83 x84 v x14 W2 :=
  ⟨hX, h.p0, h.p1, h.p3, h.p4⟩
theorem JN10.s7 (h : JN10 W1 gX n L x79 x80 x81 x82 x83 x84 x85 x14 W) {v : Value} (hX : RGj W1 n ((upd L 7) 2) ((upd L 7) 5) ((upd L 7) 6) ((upd L 7) 7) x81 x84 x85 v W2) : JN10 W1 gX n (upd L 7) x79 x80 x81 x82 x83 x84 x85 v W2 :=
  ⟨hX, h.p0, h.p1, h.p3, h.p4⟩
end
@[reducible] def IJN10 (W1 : World) (gX n : Nat) (y0 y1 y2 y3 y4 y5 y6 y7 y8 y9 y10 y11 y12 y13 y15 y16 y17 y18 y19 y20 y21 y22 y23 y24 y25 y26 y27 y28 y29 y30 y31 y32 y33 y34 y35 y36 y37 y38 y39 y40 y41 y42 y43 y44 y45 y46 y47 y48 y49 y50 y51 y52 y53 y54 y55 y56 y57 y58 y59 y60 y61 y62 y63 y64 y65 y66 y67 y68 y69 y70 y71 y72 y73 y74 y75 y76 y77 y78 y86 y87 y88 y89 y90 y91 y92 y93 y94 y95 y96 y97 y98 y99 y100 y101 y102 y103 y104 y105 y106 y107 y108 y109 y110 y111 y112 y113 y114 y115 y116 y117 y118 y119 y120 y121 y122 y123 y124 y125 y126 y127 y128 y129 y130 y131 y132 y133 y134 y135 y136 y137 y138 y139 y140 y141 y142 y143 y144 : Value) : (Nat -> Bool) -> Act -> World -> Prop := fun L a W => ∃ x79 x80 x81 x82 x83 x84 x85 x14, a = ⟨#[y0, y1, y2, y3, y4, y5, y6, y7, y8, y9, y10, y11, y12, y13, x14, y15, y16, y17, y18, y19, y20, y21, y22, y23, y24, y25, y26, y27, y28, y29, y30, y31, y32, y33, y34, y35, y36, y37, y38, y39, y40, y41, y42, y43, y44, y45, y46, y47, y48, y49, y50, y51, y52, y53, y54, y55, y56, y57, y58, y59, y60, y61, y62, y63, y64, y65, y66, y67, y68, y69, y70, y71, y72, y73, y74, y75, y76, y77, y78, x79, x80, x81, x82, x83, x84, x85, y86, y87, y88, y89, y90, y91, y92, y93, y94, y95, y96, y97, y98, y99, y100, y101, y102, y103, y104, y105, y106, y107, y108, y109, y110, y111, y112, y113, y114, y115, y116, y117, y118, y119, y120, y121, y122, y123, y124, y125, y126, y127, y128, y129, y130, y131, y132, y133, y134, y135, y136, y137, y138, y139, y140, y141, y142, y143, y144], []⟩ /\ JN10 W1 gX n L x79 x80 x81 x82 x83 x84 x85 x14 W
structure JN21 (W1 : World) (gN kk rc kj n rd ya xa : Nat) (ro : Option Addr) (CC CD CE : List Value) (Lz Lx : List By) (S1 : ByteArray) (L : Nat -> Bool) (x127 x128 x129 x130 x131 x132 x133 x134 x135 x136 x137 x138 x139 x140 x141 x142 x143 : Value) (W : World) : Prop where
  x : Below W1.heap.size W1 W
  p0 : L 0 = true -> x127 = .agg CE.toArray
  p1 : L 1 = true -> x128 = .slice (some ⟨gN, 0, none⟩) kk rc
  p2 : L 2 = true -> x129 = .int .i64 (kj : Int)
  p3 : L 3 = true -> x130 = .pointer (some ⟨gN, kj, none⟩)
  p4 : L 4 = true -> x131 = .slice ro n rd
  p5 : L 5 = true -> ∃ ao c, x132 = .slice ao (ya) c /\ Own (W1.heap.size) W (.slice ao (ya) c) (Lz)
  p6 : L 6 = true -> x133 = .string S1
  p7 : L 7 = true -> x134 = .agg CD.toArray
  p8 : L 8 = true -> x135 = .agg CC.toArray
  p9 : L 9 = true -> x136 = .slice (some ⟨gN, 0, none⟩) kk rc
  p10 : L 10 = true -> x137 = .int .i64 (kj : Int)
  p11 : L 11 = true -> x138 = .pointer (some ⟨gN, kj, none⟩)
  p12 : L 12 = true -> x139 = .slice ro n rd
  p13 : L 13 = true -> ∃ ao c, x140 = .slice ao (xa) c /\ Own (W1.heap.size) W (.slice ao (xa) c) (Lx)
  p14 : L 14 = true -> ∃ ao c, x141 = .slice ao (ya) c /\ Own (W1.heap.size) W (.slice ao (ya) c) (Lz)
  p15 : L 15 = true -> x142 = .string S1
  p16 : L 16 = true -> x143 = .bool false
section
variable {W1 : World} {gN kk rc kj n rd ya xa : Nat} {ro : Option Addr} {CC CD CE : List Value} {Lz Lx : List By} {S1 : ByteArray} {L : Nat -> Bool} {x127 x128 x129 x130 x131 x132 x133 x134 x135 x136 x137 x138 x139 x140 x141 x142 x143 : Value} {W W2 : World}
end
@[reducible] def IJN21 (W1 : World) (gN kk rc kj n rd ya xa : Nat) (ro : Option Addr) (CC CD CE : List Value) (Lz Lx : List By) (S1 : ByteArray) (y0 y1 y2 y3 y4 y5 y6 y7 y8 y9 y10 y11 y12 y13 y14 y15 y16 y17 y18 y19 y20 y21 y22 y23 y24 y25 y26 y27 y28 y29 y30 y31 y32 y33 y34 y35 y36 y37 y38 y39 y40 y41 y42 y43 y44 y45 y46 y47 y48 y49 y50 y51 y52 y53 y54 y55 y56 y57 y58 y59 y60 y61 y62 y63 y64 y65 y66 y67 y68 y69 y70 y71 y72 y73 y74 y75 y76 y77 y78 y79 y80 y81 y82 y83 y84 y85 y86 y87 y88 y89 y90 y91 y92 y93 y94 y95 y96 y97 y98 y99 y100 y101 y102 y103 y104 y105 y106 y107 y108 y109 y110 y111 y112 y113 y114 y115 y116 y117 y118 y119 y120 y121 y122 y123 y124 y125 y126 y144 : Value) : (Nat -> Bool) -> Act -> World -> Prop := fun L a W => ∃ x127 x128 x129 x130 x131 x132 x133 x134 x135 x136 x137 x138 x139 x140 x141 x142 x143, a = ⟨#[y0, y1, y2, y3, y4, y5, y6, y7, y8, y9, y10, y11, y12, y13, y14, y15, y16, y17, y18, y19, y20, y21, y22, y23, y24, y25, y26, y27, y28, y29, y30, y31, y32, y33, y34, y35, y36, y37, y38, y39, y40, y41, y42, y43, y44, y45, y46, y47, y48, y49, y50, y51, y52, y53, y54, y55, y56, y57, y58, y59, y60, y61, y62, y63, y64, y65, y66, y67, y68, y69, y70, y71, y72, y73, y74, y75, y76, y77, y78, y79, y80, y81, y82, y83, y84, y85, y86, y87, y88, y89, y90, y91, y92, y93, y94, y95, y96, y97, y98, y99, y100, y101, y102, y103, y104, y105, y106, y107, y108, y109, y110, y111, y112, y113, y114, y115, y116, y117, y118, y119, y120, y121, y122, y123, y124, y125, y126, x127, x128, x129, x130, x131, x132, x133, x134, x135, x136, x137, x138, x139, x140, x141, x142, x143, y144], []⟩ /\ JN21 W1 gN kk rc kj n rd ya xa ro CC CD CE Lz Lx S1 L x127 x128 x129 x130 x131 x132 x133 x134 x135 x136 x137 x138 x139 x140 x141 x142 x143 W
theorem JN21.step {W1 : World} {gN kk rc kj n rd ya xa : Nat} {ro : Option Addr} {CC CD CE : List Value} {Lz Lx : List By} {S1 : ByteArray} {y0 y1 y2 y3 y4 y5 y6 y7 y8 y9 y10 y11 y12 y13 y14 y15 y16 y17 y18 y19 y20 y21 y22 y23 y24 y25 y26 y27 y28 y29 y30 y31 y32 y33 y34 y35 y36 y37 y38 y39 y40 y41 y42 y43 y44 y45 y46 y47 y48 y49 y50 y51 y52 y53 y54 y55 y56 y57 y58 y59 y60 y61 y62 y63 y64 y65 y66 y67 y68 y69 y70 y71 y72 y73 y74 y75 y76 y77 y78 y79 y80 y81 y82 y83 y84 y85 y86 y87 y88 y89 y90 y91 y92 y93 y94 y95 y96 y97 y98 y99 y100 y101 y102 y103 y104 y105 y106 y107 y108 y109 y110 y111 y112 y113 y114 y115 y116 y117 y118 y119 y120 y121 y122 y123 y124 y125 y126 y144 : Value} {P : Program} {ops : Array Oper} {Q : Exit -> Act -> World -> Prop} {i : Nat} {o : Oper} (hq : ∀ x127 x128 x129 x130 x131 x132 x133 x134 x135 x136 x137 x138 x139 x140 x141 x142 x143 (L : Nat -> Bool) (W : World), JN21 W1 gN kk rc kj n rd ya xa ro CC CD CE Lz Lx S1 L x127 x128 x129 x130 x131 x132 x133 x134 x135 x136 x137 x138 x139 x140 x141 x142 x143 W -> L i = false -> (∀ j ∈ onesOf o, L j = true) -> ∀ K : Act -> World -> Prop, Shut (∀ a' w', IJN21 W1 gN kk rc kj n rd ya xa ro CC CD CE Lz Lx S1 y0 y1 y2 y3 y4 y5 y6 y7 y8 y9 y10 y11 y12 y13 y14 y15 y16 y17 y18 y19 y20 y21 y22 y23 y24 y25 y26 y27 y28 y29 y30 y31 y32 y33 y34 y35 y36 y37 y38 y39 y40 y41 y42 y43 y44 y45 y46 y47 y48 y49 y50 y51 y52 y53 y54 y55 y56 y57 y58 y59 y60 y61 y62 y63 y64 y65 y66 y67 y68 y69 y70 y71 y72 y73 y74 y75 y76 y77 y78 y79 y80 y81 y82 y83 y84 y85 y86 y87 y88 y89 y90 y91 y92 y93 y94 y95 y96 y97 y98 y99 y100 y101 y102 y103 y104 y105 y106 y107 y108 y109 y110 y111 y112 y113 y114 y115 y116 y117 y118 y119 y120 y121 y122 y123 y124 y125 y126 y144 (upd L i) a' w' -> K a' w') -> if Region.wanted o (yielded ops (⟨#[y0, y1, y2, y3, y4, y5, y6, y7, y8, y9, y10, y11, y12, y13, y14, y15, y16, y17, y18, y19, y20, y21, y22, y23, y24, y25, y26, y27, y28, y29, y30, y31, y32, y33, y34, y35, y36, y37, y38, y39, y40, y41, y42, y43, y44, y45, y46, y47, y48, y49, y50, y51, y52, y53, y54, y55, y56, y57, y58, y59, y60, y61, y62, y63, y64, y65, y66, y67, y68, y69, y70, y71, y72, y73, y74, y75, y76, y77, y78, y79, y80, y81, y82, y83, y84, y85, y86, y87, y88, y89, y90, y91, y92, y93, y94, y95, y96, y97, y98, y99, y100, y101, y102, y103, y104, y105, y106, y107, y108, y109, y110, y111, y112, y113, y114, y115, y116, y117, y118, y119, y120, y121, y122, y123, y124, y125, y126, x127, x128, x129, x130, x131, x132, x133, x134, x135, x136, x137, x138, x139, x140, x141, x142, x143, y144], []⟩ : Act).tmps) = true then Oper.wp P o ⟨#[y0, y1, y2, y3, y4, y5, y6, y7, y8, y9, y10, y11, y12, y13, y14, y15, y16, y17, y18, y19, y20, y21, y22, y23, y24, y25, y26, y27, y28, y29, y30, y31, y32, y33, y34, y35, y36, y37, y38, y39, y40, y41, y42, y43, y44, y45, y46, y47, y48, y49, y50, y51, y52, y53, y54, y55, y56, y57, y58, y59, y60, y61, y62, y63, y64, y65, y66, y67, y68, y69, y70, y71, y72, y73, y74, y75, y76, y77, y78, y79, y80, y81, y82, y83, y84, y85, y86, y87, y88, y89, y90, y91, y92, y93, y94, y95, y96, y97, y98, y99, y100, y101, y102, y103, y104, y105, y106, y107, y108, y109, y110, y111, y112, y113, y114, y115, y116, y117, y118, y119, y120, y121, y122, y123, y124, y125, y126, x127, x128, x129, x130, x131, x132, x133, x134, x135, x136, x137, x138, x139, x140, x141, x142, x143, y144], []⟩ W K Q else K ((⟨#[y0, y1, y2, y3, y4, y5, y6, y7, y8, y9, y10, y11, y12, y13, y14, y15, y16, y17, y18, y19, y20, y21, y22, y23, y24, y25, y26, y27, y28, y29, y30, y31, y32, y33, y34, y35, y36, y37, y38, y39, y40, y41, y42, y43, y44, y45, y46, y47, y48, y49, y50, y51, y52, y53, y54, y55, y56, y57, y58, y59, y60, y61, y62, y63, y64, y65, y66, y67, y68, y69, y70, y71, y72, y73, y74, y75, y76, y77, y78, y79, y80, y81, y82, y83, y84, y85, y86, y87, y88, y89, y90, y91, y92, y93, y94, y95, y96, y97, y98, y99, y100, y101, y102, y103, y104, y105, y106, y107, y108, y109, y110, y111, y112, y113, y114, y115, y116, y117, y118, y119, y120, y121, y122, y123, y124, y125, y126, x127, x128, x129, x130, x131, x132, x133, x134, x135, x136, x137, x138, x139, x140, x141, x142, x143, y144], []⟩ : Act).put o.dst undef) W) : StepI P ops (IJN21 W1 gN kk rc kj n rd ya xa ro CC CD CE Lz Lx S1 y0 y1 y2 y3 y4 y5 y6 y7 y8 y9 y10 y11 y12 y13 y14 y15 y16 y17 y18 y19 y20 y21 y22 y23 y24 y25 y26 y27 y28 y29 y30 y31 y32 y33 y34 y35 y36 y37 y38 y39 y40 y41 y42 y43 y44 y45 y46 y47 y48 y49 y50 y51 y52 y53 y54 y55 y56 y57 y58 y59 y60 y61 y62 y63 y64 y65 y66 y67 y68 y69 y70 y71 y72 y73 y74 y75 y76 y77 y78 y79 y80 y81 y82 y83 y84 y85 y86 y87 y88 y89 y90 y91 y92 y93 y94 y95 y96 y97 y98 y99 y100 y101 y102 y103 y104 y105 y106 y107 y108 y109 y110 y111 y112 y113 y114 y115 y116 y117 y118 y119 y120 y121 y122 y123 y124 y125 y126 y144) Q i o := by
  rintro L a W ⟨x127, x128, x129, x130, x131, x132, x133, x134, x135, x136, x137, x138, x139, x140, x141, x142, x143, rfl, h⟩
  exact hq _ _ _ _ _ _ _ _ _ _ _ _ _ _ _ _ _ _ _ h

set_option maxHeartbeats 8000000 in
set_option maxRecDepth 100000 in
theorem joins25_any {M J : List By -> List By -> List By} (P : Pch M J) (w : World) (hg : HG w) (ao : Option Addr) (ac : Nat) (old : List By) (ho : RowIn w ao ac old) (po : Option Addr) (pc : Nat) (p : List By) (hp : RowIn w po pc p) (qo : Option Addr) (qc : Nat) (q : List By) (hq : RowIn w qo qc q) :
    Calls Tryd.prog 7 #[.slice ao old.length ac, .slice po p.length pc, .slice qo q.length qc] w fun e w' => e = .returned (.bool true) /\ Below w.heap.size w w' := by
  have HGB : Hid (∀ W, Below w.heap.size w W -> HG W) := fun W h => hg.below h hg.lt
  have KO : Hid (∀ W, Below w.heap.size w W -> RowIn W ao ac old) := fun W h => ho.keep h
  have KP : Hid (∀ W, Below w.heap.size w W -> RowIn W po pc p) := fun W h => hp.keep h
  have KQ : Hid (∀ W, Below w.heap.size w W -> RowIn W qo qc q) := fun W h => hq.keep h
  have FX : Hid (∀ W, Below w.heap.size w W -> Calls Tryd.prog 9 #[] W fun e w' => e = .returned (.bool true) /\ Below W.heap.size W w') := fun W h => fixed25_any P W (HGB.out W h)
  have HP : Hid (Pch M J) := P
  clear ho hp hq hg P
  go_enter Tryd.func7, Tryd.ntmps7
  go_wp2_with fail
  refine (HP.out.jo (HGB.out _ (Below.refl _ _)) (KP.out _ (Below.refl _ _)) (KQ.out _ (Below.refl _ _))).mono ?_
  intro e w2 he
  obtain ⟨hb2, jv, ev, rfl, hjv, her⟩ := cjo_uni he
  have B2 : Hid (Below w.heap.size w w2) := hb2
  have HJV : Hid (BV w2 jv (jT J p q).1) := hjv
  have HER : Hid (ErO w2 (jT J p q).2.1 (jT J p q).2.2 ev) := her
  obtain ⟨jo, jn, jc, rfl, hjn⟩ : ∃ jo jn jc, jv = .slice jo jn jc /\ jn = (jT J p q).1.length := by
    obtain ⟨a1, c1, e1, _⟩ := hjv.eq
    exact ⟨a1, _, c1, e1, rfl⟩
  have HJN : Hid (jn = (jT J p q).1.length) := hjn
  clear he hb2 hjv her hjn
  dsimp only
  go_wp2_with fail
  refine (r25Joins_any rdC_any w2 po _ pc p rfl (KP.out _ B2.out).len (KP.out _ B2.out).cap (KP.out _ B2.out).isb qo _ qc q rfl (KQ.out _ B2.out).len (KQ.out _ B2.out).cap (KQ.out _ B2.out).isb).mono ?_
  intro e w3 he
  obtain ⟨hb3, C, D, rfl, ⟨lC, lD⟩, ⟨hoC, hoD⟩, hpx⟩ := joP_uni J he
  have oC : Hid (∀ v ∈ C, v.oneCell' = true) := hoC
  have oD : Hid (∀ v ∈ D, v.oneCell' = true) := hoD
  have B3 : Hid (Below w.heap.size w w3) := B2.out.trans (hb3.mono B2.out.size)
  have HJV3 : Hid (BV w3 (.slice jo jn jc) (jT J p q).1) := HJV.out.keep hb3
  have HER3 : Hid (ErO w3 (jT J p q).2.1 (jT J p q).2.2 ev) := HER.out.keep hb3
  have PX3 : Hid (∀ x y, joinsR p q = .ok (x, y) -> PxV w2.heap.size w3 x C /\ PxV w2.heap.size w3 y D) := hpx
  generalize hN2 : w2.heap.size = N2 at *
  clear he hb3 hoC hoD hpx B2 HJV HER hN2
  dsimp only
  obtain ⟨k, hk⟩ : ∃ k, k = (jT J p q).2.1 := ⟨_, rfl⟩
  obtain ⟨ka, hka⟩ : ∃ ka, ka = (jT J p q).2.2 := ⟨_, rfl⟩
  rw [<- hk, <- hka] at HER3 ⊢
  have HK : Hid (k = (jT J p q).2.1 /\ ka = (jT J p q).2.2) := ⟨hk, hka⟩
  clear hk hka
  obtain ⟨G, hG⟩ : ∃ G, G = w3.heap.size := ⟨_, rfl⟩
  have Z9 : Hid (Row (((w3.alloc (.cells zPx.toArray 34)).alloc (.cells zPx.toArray 34)).alloc (.cells #[.int .i64 0, .int .i64 0] 37)) G 34 zPx) := ((Row.at w3 _ _ _ _ hG rfl).alloc _).alloc _
  have Z10 : Hid (Row (((w3.alloc (.cells zPx.toArray 34)).alloc (.cells zPx.toArray 34)).alloc (.cells #[.int .i64 0, .int .i64 0] 37)) (G + 1) 34 zPx) := (Row.at _ _ _ _ _ (by rw [hG]; simp) rfl).alloc _
  have Z11 : Hid (Row (((w3.alloc (.cells zPx.toArray 34)).alloc (.cells zPx.toArray 34)).alloc (.cells #[.int .i64 0, .int .i64 0] 37)) (G + 2) 37 [.int .i64 0, .int .i64 0]) := Row.at _ _ _ _ _ (by rw [hG]; simp) rfl
  have bz : Below w3.heap.size w3 (((w3.alloc (.cells zPx.toArray 34)).alloc (.cells zPx.toArray 34)).alloc (.cells #[.int .i64 0, .int .i64 0] 37)) := (((Below.refl _ _).alloc (Nat.le_refl _) _).alloc (by simp) _).alloc (by simp; omega) _
  have K5 : Hid (∀ wa wb wc, SameBut G (((w3.alloc (.cells zPx.toArray 34)).alloc (.cells zPx.toArray 34)).alloc (.cells #[.int .i64 0, .int .i64 0] 37)) wa -> SameBut (G + 1) wa wb -> SameBut (G + 2) wb wc -> Below w3.heap.size w3 wc) := fun wa wb wc h1 h2 h3 => h3.below (h2.below (h1.below bz (by omega)) (by omega)) (by omega)
  have HG : Hid (G = w3.heap.size) := hG
  clear hG bz
  go_wp2_with (first
    | (have hz := Z9; clear hz; rw [<- HG.out]; refine wpList_store_Row rfl 34 (.tmp 9) (.tmp 27) rfl G 34 0 zPx C Z9.out (by rw [lC]; exact Nat.le_refl _) rfl rfl (by rw [lC]; kernel_rfl) oC.out ?_; intro wa hra hsa; have h7 : Hid (Row wa (G + 1) 34 zPx /\ Row wa (G + 2) 37 [.int .i64 0, .int .i64 0] /\ Row wa G 34 C /\ SameBut G (((w3.alloc (.cells zPx.toArray 34)).alloc (.cells zPx.toArray 34)).alloc (.cells #[.int .i64 0, .int .i64 0] 37)) wa) := ⟨Z10.out.but hsa (by omega), Z11.out.but hsa (by omega), row_whole hra (by rw [lC]; exact Nat.le_refl _), hsa⟩; clear hra hsa Z9 Z10 Z11)
    | (have hz := h7; clear hz; refine wpList_store_Row rfl 34 (.tmp 10) (.tmp 28) rfl (G + 1) 34 0 zPx D h7.out.1 (by rw [lD]; exact Nat.le_refl _) rfl rfl (by rw [lD]; kernel_rfl) oD.out ?_; intro wb hrb hsb; have h8 : Hid (Row wb (G + 2) 37 [.int .i64 0, .int .i64 0] /\ Row wb G 34 C /\ Row wb (G + 1) 34 D /\ ∀ wc, SameBut (G + 2) wb wc -> Below w3.heap.size w3 wc) := ⟨h7.out.2.1.but hsb (by omega), h7.out.2.2.1.but hsb (by omega), row_whole hrb (by rw [lD]; exact Nat.le_refl _), fun wc hc => K5.out _ _ _ h7.out.2.2.2 hsb hc⟩; clear hrb hsb h7 K5)
    | (have hz := h8; clear hz; refine wpList_store_Row rfl 37 (.tmp 11) (.tmp 29) rfl (G + 2) 37 0 [.int .i64 0, .int .i64 0] [.int .i64 (k : Int), .int .i64 (ka : Int)] h8.out.1 (Nat.le_refl _) rfl rfl (by kernel_rfl) (wr2_one _ _) ?_; intro w5 hr5 hs5; have b45 := h8.out.2.2.2 _ hs5; have H5 : Hid (Row w5 G 34 C /\ Row w5 (G + 1) 34 D /\ Row w5 (G + 2) 37 [.int .i64 (k : Int), .int .i64 (ka : Int)] /\ BV w5 (.slice jo jn jc) (jT J p q).1 /\ ErO w5 k ka ev /\ ∀ x y, joinsR p q = .ok (x, y) -> PxV N2 w5 x C /\ PxV N2 w5 y D) := ⟨h8.out.2.1.but hs5 (by omega), h8.out.2.2.1.but hs5 (by omega), row_whole hr5 (Nat.le_refl _), HJV3.out.keep b45, HER3.out.keep b45, fun x y h => ⟨(PX3.out x y h).1.keep b45, (PX3.out x y h).2.keep b45⟩⟩; have B5 : Hid (Below w.heap.size w w5) := B3.out.trans (b45.mono B3.out.size); clear hr5 hs5 h8 b45 B3 HJV3 HER3 PX3; have L1 : Hid True := trivial)
    | (have hz := L1; clear hz L1; refine wpList_load_Row rfl 37 (.tmp 11) rfl (G + 2) 37 [.int .i64 (k : Int), .int .i64 (ka : Int)] H5.out.2.2.1 rfl _ Tryd.underlying37 rfl (by kernel_rfl) ?_))
  refine (is_any _ (HGB.out _ B5.out) k ka ev H5.out.2.2.2.2.1).mono ?_
  rintro e w6 ⟨rfl, hb6⟩
  have B6 : Hid (Below w.heap.size w w6) := B5.out.trans (hb6.mono B5.out.size)
  have H6 : Hid (Row w6 G 34 C /\ Row w6 (G + 1) 34 D /\ BV w6 (.slice jo jn jc) (jT J p q).1 /\ ∀ x y, joinsR p q = .ok (x, y) -> PxV N2 w6 x C /\ PxV N2 w6 y D) := ⟨H5.out.1.below hb6 H5.out.1.lt, H5.out.2.1.below hb6 H5.out.2.1.lt, H5.out.2.2.2.1.keep hb6, fun x y h => ⟨(H5.out.2.2.2.2.2 x y h).1.keep hb6, (H5.out.2.2.2.2.2 x y h).2.keep hb6⟩⟩
  have c110 := (H5.out.2.2.1.below hb6 H5.out.2.2.1.lt).cell 0 _ rfl
  clear hb6 B5 H5 HG
  dsimp only
  cases hjr : joinsR p q with
  | error kb =>
    have hjt : jT J p q = ([], kb.1, kb.2) := by unfold jT; rw [hjr]
    have hk := HK.out.1
    have hjn := HJN.out
    rw [hjt] at hk hjn
    dsimp only at hk hjn
    have hkb := joinsR_wrong (k := kb.1) (a := kb.2) hjr
    have y1 : ((k : Int) != 0) = true := by rw [bne_iff_ne]; omega
    have y2 : ((k : Int) == 0) = false := by rw [beq_eq_false_iff_ne]; omega
    have y3 : (k == 0) = false := by rw [beq_eq_false_iff_ne]; omega
    have y4 : (k != 0) = true := by rw [bne_iff_ne]; omega
    have hjn0 : jn = 0 := by rw [hjn]; rfl
    subst hjn0
    clear hjn hkb hjr hjt hk HK HJN H6
    go_wp2_with (have hz := B6; clear hz; go_at_call 9; refine (FX.out _ B6.out).mono ?_; rintro e wC ⟨rfl, hbC⟩; have BC : Hid (Below w.heap.size w wC) := B6.out.trans (hbC.mono B6.out.size); clear hbC B6 c110)
    go_ret
    exact ⟨rfl, BC.out⟩
  | ok xy =>
    obtain ⟨x, y⟩ := xy
    have hjt : jT J p q = (J p q, 0, 0) := by unfold jT; rw [hjr]
    have hk := HK.out.1
    have hjn := HJN.out
    have hbv := H6.out.2.2.1
    rw [hjt] at hk hjn hbv
    dsimp only at hk hjn hbv
    subst hk
    obtain ⟨z, hz, zo, zb, zn, za, zl, zt⟩ := HP.out.joined p q x y hjr
    have hyb := joins_ok hjr
    obtain ⟨px, py⟩ := H6.out.2.2.2 x y hjr
    have HRT : Hid (rT (J p q) = (z, 0, 0)) := by show _ = _; unfold rT; rw [hz]
    have HJD : Hid (∀ r : List By, r.length = x.before -> tells z.l r = tells y.l (tells x.l r)) := zt
    have HZ : Hid (z.old = x.old /\ z.before = x.before /\ z.new = y.new /\ z.after = y.after /\ y.before = x.after) := ⟨zo, zb, zn, za, hyb⟩
    have HJR : Hid (RowIn w6 jo jc (J p q)) := by
      obtain ⟨jo', jc', e1, hr⟩ := hbv.rowIn (by omega)
      injection e1 with e1 e2 e3
      subst e1 e3
      exact hr
    subst hjn
    have HX : Hid (Row w6 G 34 C /\ Row w6 (G + 1) 34 D /\ PxV N2 w6 x C /\ PxV N2 w6 y D) := ⟨H6.out.1, H6.out.2.1, px, py⟩
    clear hjr hjt hbv hz zo zb zn za zl zt hyb px py H6 HK HJN
    obtain ⟨jm, hjm⟩ : ∃ jm, jm = J p q := ⟨_, rfl⟩
    rw [<- hjm] at HRT HJR ⊢
    clear hjm
    go_wp2_with fail
    refine (rd_ref HJR.out).mono ?_
    intro e w7 he
    obtain ⟨hb7, E, rfl, hpz⟩ := rdp_uni he
    rw [HRT.out] at hpz ⊢
    dsimp only at hpz ⊢
    have lE := hpz.len
    have oE : Hid (∀ v ∈ E, v.oneCell' = true) := by
      obtain ⟨lo, lc, hE, _⟩ := hpz.eq
      rw [hE]; exact pxC_one _ _ _ _ _ _ _
    have B7 : Hid (Below w.heap.size w w7) := B6.out.trans (hb7.mono B6.out.size)
    have HX7 : Hid (Row w7 G 34 C /\ Row w7 (G + 1) 34 D /\ PxV N2 w7 x C /\ PxV N2 w7 y D /\ PxV w6.heap.size w7 z E) := ⟨HX.out.1.below hb7 HX.out.1.lt, HX.out.2.1.below hb7 HX.out.2.1.lt, HX.out.2.2.1.keep hb7, HX.out.2.2.2.keep hb7, hpz⟩
    generalize hN6 : w6.heap.size = N6 at *
    clear he hb7 hpz hN6 B6 HX HJR HRT c110
    obtain ⟨G7, hG⟩ : ∃ G7, G7 = w7.heap.size := ⟨_, rfl⟩
    have Z12 : Hid (Row ((w7.alloc (.cells zPx.toArray 34)).alloc (.cells #[.int .i64 0, .int .i64 0] 37)) G7 34 zPx) := (Row.at w7 _ _ _ _ hG rfl).alloc _
    have Z13 : Hid (Row ((w7.alloc (.cells zPx.toArray 34)).alloc (.cells #[.int .i64 0, .int .i64 0] 37)) (G7 + 1) 37 [.int .i64 0, .int .i64 0]) := Row.at _ _ _ _ _ (by rw [hG]; simp) rfl
    have bz : Below w7.heap.size w7 ((w7.alloc (.cells zPx.toArray 34)).alloc (.cells #[.int .i64 0, .int .i64 0] 37)) := ((Below.refl _ _).alloc (Nat.le_refl _) _).alloc (by simp) _
    have K8 : Hid (∀ wa wb, SameBut G7 ((w7.alloc (.cells zPx.toArray 34)).alloc (.cells #[.int .i64 0, .int .i64 0] 37)) wa -> SameBut (G7 + 1) wa wb -> Below w7.heap.size w7 wb) := fun wa wb h1 h2 => h2.below (h1.below bz (by omega)) (by omega)
    have HG : Hid (G7 = w7.heap.size) := hG
    clear hG bz
    go_upto_region 8 with (first
      | (have hz := Z12; clear hz; rw [<- HG.out]; refine wpList_store_Row rfl 34 (.tmp 12) (.tmp 46) rfl G7 34 0 zPx E Z12.out (by rw [lE]; exact Nat.le_refl _) rfl rfl (by rw [lE]; kernel_rfl) oE.out ?_; intro wa hra hsa; have h7 : Hid (Row wa (G7 + 1) 37 [.int .i64 0, .int .i64 0] /\ Row wa G7 34 E /\ SameBut G7 ((w7.alloc (.cells zPx.toArray 34)).alloc (.cells #[.int .i64 0, .int .i64 0] 37)) wa) := ⟨Z13.out.but hsa (by omega), row_whole hra (by rw [lE]; exact Nat.le_refl _), hsa⟩; clear hra hsa Z12 Z13)
      | (have hz := h7; clear hz; refine wpList_store_Row rfl 37 (.tmp 13) (.tmp 47) rfl (G7 + 1) 37 0 [.int .i64 0, .int .i64 0] [.int .i64 0, .int .i64 0] h7.out.1 (Nat.le_refl _) rfl rfl (by kernel_rfl) (wr2_one _ _) ?_; intro w9 hr9 hs9; have b79 := K8.out _ _ h7.out.2.2 hs9; have B9 : Hid (Below w.heap.size w w9) := B7.out.trans (b79.mono B7.out.size); have H9 : Hid (Row w9 G 34 C /\ Row w9 (G + 1) 34 D /\ Row w9 G7 34 E /\ PxV N2 w9 x C /\ PxV N2 w9 y D /\ PxV N6 w9 z E) := ⟨HX7.out.1.below b79 HX7.out.1.lt, HX7.out.2.1.below b79 HX7.out.2.1.lt, h7.out.2.1.but hs9 (by omega), HX7.out.2.2.1.keep b79, HX7.out.2.2.2.1.keep b79, HX7.out.2.2.2.2.keep b79⟩; have c130 := (row_whole hr9 (Nat.le_refl _)).cell 0 _ rfl; clear hr9 hs9 h7 b79 K8 B7 HX7))
    obtain ⟨rx, ry, rz, px, py, pz⟩ := H9.out
    obtain ⟨zo, zb, zn, za, hyb⟩ := HZ.out
    obtain ⟨xlo, xlc, hC, _⟩ := px.eq
    obtain ⟨ylo, ylc, hD, _⟩ := py.eq
    obtain ⟨zlo, zlc, hE, _⟩ := pz.eq
    obtain ⟨OH, hOH⟩ : ∃ OH, OH = x.old.map B8 := ⟨_, rfl⟩
    obtain ⟨NH, hNH⟩ : ∃ NH, NH = y.new.map B8 := ⟨_, rfl⟩
    have lOH : OH.length = 32 := by rw [hOH, List.length_map]; exact px.ok.lo
    have lNH : NH.length = 32 := by rw [hNH, List.length_map]; exact py.ok.ln
    have XO : Hid (w9.rangeAt G 0 OH) := by rw [hC] at rx; rw [hOH]; exact pxC_rngO rx px.ok.lo
    have ZO : Hid (w9.rangeAt G7 0 OH) := by rw [hE, zo] at rz; rw [hOH]; exact pxC_rngO rz px.ok.lo
    have YN : Hid (w9.rangeAt (G + 1) 32 NH) := by rw [hD] at ry; rw [hNH]; exact pxC_rngN ry py.ok.lo
    have ZN : Hid (w9.rangeAt G7 32 NH) := by rw [hE, zn] at rz; rw [hNH]; exact pxC_rngN rz pz.ok.lo
    have x64 : w9.cell? ⟨G, 64, none⟩ = some (.int .i64 (x.before : Int)) := rx.cell 64 _ (by rw [hC]; exact pxC_bef px.ok.lo px.ok.ln)
    have z64 : w9.cell? ⟨G7, 64, none⟩ = some (.int .i64 (x.before : Int)) := rz.cell 64 _ (by rw [hE, zb]; exact pxC_bef pz.ok.lo pz.ok.ln)
    have y65 : w9.cell? ⟨G + 1, 65, none⟩ = some (.int .i64 (y.after : Int)) := ry.cell 65 _ (by rw [hD]; exact pxC_aft py.ok.lo py.ok.ln)
    have z65 : w9.cell? ⟨G7, 65, none⟩ = some (.int .i64 (y.after : Int)) := rz.cell 65 _ (by rw [hE, za]; exact pxC_aft pz.ok.lo pz.ok.ln)
    have qO : ∀ w, (Op.equalIn 10000 25 (.agg OH.toArray) (.agg OH.toArray)).run Tryd.prog w = .ok true w := by rw [hOH]; exact eq_any x.old x.old px.ok.lo px.ok.lo true (by simp)
    have qN : ∀ w, (Op.equalIn 10000 25 (.agg NH.toArray) (.agg NH.toArray)).run Tryd.prog w = .ok true w := by rw [hNH]; exact eq_any y.new y.new py.ok.ln py.ok.ln true (by simp)
    have hn0 : x.before <= 524288 := px.ok.bef
    have RA : Hid (∀ W, Below w9.heap.size w9 W -> W.rangeAt G 0 C /\ W.rangeAt (G + 1) 0 D /\ W.rangeAt G7 0 E) := fun W h => by
      have h1 := (rx.below h rx.lt).range 0 C.length
      have h2 := (ry.below h ry.lt).range 0 D.length
      have h3 := (rz.below h rz.lt).range 0 E.length
      simp only [List.drop_zero, List.take_length] at h1 h2 h3
      exact ⟨h1, h2, h3⟩
    have X64 : Hid (∀ W, Below w9.heap.size w9 W -> W.cell? ⟨G, 64, none⟩ = some (.int .i64 (x.before : Int))) := fun W h => (rx.below h rx.lt).cell 64 _ (by rw [hC]; exact pxC_bef px.ok.lo px.ok.ln)
    have TL : Hid (∀ W, Below w9.heap.size w9 W -> ∀ (ro : Option Addr) (rd : Nat) (r : List By), r.length = x.before -> RowIn W ro rd r ->
        Calls Tryd.prog 21 #[.agg E.toArray, .slice ro x.before rd] W (fun e w' => ∃ ao' c', e = .returned (.slice ao' y.after c') /\ Own W.heap.size w' (.slice ao' y.after c') (tells z.l r) /\ Below W.heap.size W w')
        /\ Calls Tryd.prog 21 #[.agg C.toArray, .slice ro x.before rd] W (fun e w' => ∃ ao' c', e = .returned (.slice ao' x.after c') /\ Own W.heap.size w' (.slice ao' x.after c') (tells x.l r) /\ Below W.heap.size W w')) := fun W h ro rd r hr hi => by
      have h1 := r25Tells_any _ z E W (pz.keep h) ro x.before rd r hr hi.isb zb.symm (by rw [<- hr]; exact hi.cap)
      rw [za] at h1
      exact ⟨h1, r25Tells_any _ x C W (px.keep h) ro x.before rd r hr hi.isb rfl (by rw [<- hr]; exact hi.cap)⟩
    have TY : Hid (∀ W, Below w9.heap.size w9 W -> ∀ (N : Nat) (ro : Option Addr) (rd : Nat) (r : List By), r.length = x.before -> Own N W (.slice ro x.after rd) (tells x.l r) ->
        Calls Tryd.prog 21 #[.agg D.toArray, .slice ro x.after rd] W (fun e w' => ∃ ao' c', e = .returned (.slice ao' y.after c') /\ Own W.heap.size w' (.slice ao' y.after c') (tells z.l r) /\ Below W.heap.size W w')) := fun W h N ro rd r hr hi => by
      have hl := (own_isb hi).1
      have := r25Tells_any _ y D W (py.keep h) ro x.after rd (tells x.l r) hl (own_IsB hi) hyb.symm (by have := (own_isb hi).2.2.1; omega)
      rw [HJD.out r hr]
      exact this
    have TLN : Hid (∀ r : List By, r.length = x.before -> (tells z.l r).length = y.after) := fun r hr => by rw [tells_len pz.ok (by rw [hr, zb]) (fun u hu => hu), pz.ok.sum, za]
    have B9' : Hid (Below w.heap.size w w9) := B9.out
    clear rx ry rz px py pz zo zb zn za hyb hC hD hE hOH hNH H9 HZ HJD oC oD oE
    generalize x.before = n at *
    generalize x.after = xa at *
    generalize y.after = ya at *
    have L1 : Hid True := trivial
    have L2 : Hid True := trivial
    have L3 : Hid True := trivial
    have L4 : Hid True := trivial
    go_upto_region 10 with (first
      | (have hz := L1; clear hz L1; refine wpList_load_rng_g ?_ 25 (.tmp 52) rfl G7 0 32 OH ZO.out rfl _ lOH Tryd.underlying25 rfl (by kernel_rfl) ?_; · rfl)
      | (have hz := L2; clear hz L2; refine wpList_load_rng_g ?_ 25 (.tmp 54) rfl G 0 32 OH XO.out rfl _ lOH Tryd.underlying25 rfl (by kernel_rfl) ?_; · rfl)
      | (have hz := L3; clear hz L3; refine wpList_load_rng_g ?_ 25 (.tmp 66) rfl G7 32 32 NH ZN.out rfl _ lNH Tryd.underlying25 rfl (by kernel_rfl) ?_; · rfl)
      | (have hz := L4; clear hz L4; refine wpList_load_rng_g ?_ 25 (.tmp 68) rfl (G + 1) 32 32 NH YN.out rfl _ lNH Tryd.underlying25 rfl (by kernel_rfl) ?_; · rfl))
    clear XO ZO YN ZN x64 z64 y65 z65 qO qN c130 lOH lNH
    refine wp_region_inv (IJN10 w9 G n _ _ _ _ _ _ _ _ _ _ _ _ _ _ _ _ _ _ _ _ _ _ _ _ _ _ _ _ _ _ _ _ _ _ _ _ _ _ _ _ _ _ _ _ _ _ _ _ _ _ _ _ _ _ _ _ _ _ _ _ _ _ _ _ _ _ _ _ _ _ _ _ _ _ _ _ _ _ _ _ _ _ _ _ _ _ _ _ _ _ _ _ _ _ _ _ _ _ _ _ _ _ _ _ _ _ _ _ _ _ _ _ _ _ _ _ _ _ _ _ _ _ _ _ _ _ _ _ _ _ _ _ _ _ _ _ _) (by kernel_rfl) (by kernel_rfl) ⟨_, _, _, _, _, _, _, _, rfl, ⟨RGj.zero _ _ _ _ _ _, fun k => (by cases k), fun k => (by cases k), fun k => (by cases k), fun k => (by cases k)⟩⟩ ?_ ?_
    · refine .cons ?_ (.cons ?_ (.cons ?_ (.cons ?_ (.cons ?_ (.cons ?_ (.cons ?_ (.cons ?_ .nil)))))))
      all_goals (rintro L _ W ⟨x79, x80, x81, x82, x83, x84, x85, x14, rfl, hI⟩ hL hd K hK)
      · rw [if_pos (by rfl)]
        go_simp
        exact hK.out _ _ ⟨_, _, _, _, _, _, _, _, rfl, { hI with p0 := fun _ => rfl }⟩
      · obtain rfl := hI.p0 (hd 0 (by decide))
        rw [if_pos (by rfl)]
        have hc := X64.out _ hI.x.bel
        go_simp
        exact hK.out _ _ ⟨_, _, _, _, _, _, _, _, rfl, { hI with p1 := fun _ => rfl }⟩
      · obtain rfl := hI.p1 (hd 1 (by decide))
        refine step_make25 rfl (.tmp 80) rfl n rfl (by omega) ?_
        have hX := hI.x.s2
        exact hK.out _ _ ⟨_, _, _, _, _, _, _, _, rfl, { hI with x := hX }⟩
      · rw [if_pos (by rfl)]
        go_simp
        exact hK.out _ _ ⟨_, _, _, _, _, _, _, _, rfl, { hI with p3 := fun _ => rfl }⟩
      · obtain rfl := hI.p3 (hd 3 (by decide))
        rw [if_pos (by rfl)]
        have hc := X64.out _ hI.x.bel
        go_simp
        exact hK.out _ _ ⟨_, _, _, _, _, _, _, _, rfl, { hI with p4 := fun _ => rfl }⟩
      · obtain rfl := hI.p4 (hd 4 (by decide))
        refine step_make25 rfl (.tmp 83) rfl n rfl (by omega) ?_
        have hX := hI.x.s5
        exact hK.out _ _ ⟨_, _, _, _, _, _, _, _, rfl, { hI with x := hX }⟩
      · obtain ⟨gA, eA, la, rA⟩ := hI.x.f2 (hd 2 (by decide))
        subst eA
        obtain ⟨gB, eB, lb, rB⟩ := hI.x.f5 (hd 5 (by decide))
        subst eB
        rw [if_pos (by rfl)]
        go_simp
        have hX := hI.x.s6 hL la rA lb rB
        exact hK.out _ _ ⟨_, _, _, _, _, _, _, _, rfl, { hI with x := hX }⟩
      · rw [if_pos (by rfl)]
        go_simp
        have hX := hI.x.s7 (hd 6 (by decide))
        exact hK.out _ _ ⟨_, _, _, _, _, _, _, _, rfl, { hI with x := hX }⟩
    · rintro L _ W hall ⟨x79, x80, x81, x82, x83, x84, x85, x14, rfl, hI⟩
      obtain rfl := hI.p0 (hall 0 (by decide))
      obtain rfl := hI.p1 (hall 1 (by decide))
      obtain rfl := hI.p3 (hall 3 (by decide))
      obtain rfl := hI.p4 (hall 4 (by decide))
      have hXe := hI.x
      rw [hall 2 (by decide)] at hXe
      rw [hall 5 (by decide)] at hXe
      rw [hall 6 (by decide)] at hXe
      rw [hall 7 (by decide)] at hXe
      clear hI hall
      try dsimp only
      obtain ⟨gA, gB, gR, e85, hRL⟩ := hXe.f6 rfl
      obtain ⟨_, e14⟩ := hXe.f7 rfl
      subst e14
      subst e85
      have HR0 : Hid (RLj w9 n gA gB gR W) := hRL
      clear hXe hRL
      go_wp2_with fail
      go_loopw [15] (fun iv wr => ∃ i : Nat, i <= n /\ iv = .int .i64 i /\ Hid (RLj w9 n gA gB gR wr)) (fun iv _ => n - (intOf iv).toNat)
      case atStart => exact ⟨0, by omega, rfl, HR0⟩
      case round =>
        clear HR0
        obtain ⟨ki, hi, rfl, HR⟩ := hrel
        have c64 := X64.out _ HR.out.bel
        by_cases hlt : ki < n
        · have y0 : (0 : Int) <= (ki : Int) := by omega
          have y1 : (ki : Int) < (n : Int) := by omega
          have r0 := HR.out.rr.cell 0 _ rfl
          obtain ⟨⟨b0, cA⟩, fA⟩ := row_bytes HR.out.ra hlt
          go_upto_region 15 with fail
          have HW5 : Hid (RLj w9 n gA gB gR (wr.setCell ⟨gA, ki, none⟩ (.int .u8 ((ki : Int) % 256)))) := by rw [b8_mod]; exact HR.out.setA ki _
          obtain ⟨w5, hw5⟩ : ∃ w5, w5 = wr.setCell ⟨gA, ki, none⟩ (.int .u8 ((ki : Int) % 256)) := ⟨_, rfl⟩
          rw [<- hw5] at HW5 ⊢
          clear hw5 HR c64 r0 cA fA
          have r1 := HW5.out.rr.cell 1 _ rfl
          obtain ⟨⟨b1, cB⟩, fB⟩ := row_bytes HW5.out.rb hlt
          go_upto_region 13 with fail
          obtain ⟨b2, hb2⟩ : ∃ b : By, bits .xor .u8 (bits .xor .u8 ((ki : Int) / 256 % 256) ((ki : Int) / 65536)) 90 = (b.toNat : Int) := bits_xor_b _ _
          rw [hb2]
          have HF : Hid (RLj w9 n gA gB gR (w5.setCell ⟨gB, ki, none⟩ (.int .u8 (b2.toNat : Int)))) := HW5.out.setB ki b2
          obtain ⟨w6, hw6⟩ : ∃ w6, w6 = w5.setCell ⟨gB, ki, none⟩ (.int .u8 (b2.toNat : Int)) := ⟨_, rfl⟩
          rw [<- hw6] at HF ⊢
          have z1 : IntKind.i64.wrap ((ki : Int) + 1) = (ki : Int) + 1 := i64_in _ (by omega) (by omega)
          clear hw6 hb2 HW5 r1 cB fB
          go_wp2
          exact ⟨⟨ki + 1, by omega, by go_num, HF⟩, by simp [intOf]; omega⟩
        · obtain rfl : ki = n := by omega
          have y1 : ¬ (ki : Int) < (ki : Int) := by omega
          go_upto_if 116 with fail
          go_cut [14] (fun s14 wx => ∃ wz kk, wz = wx /\ Hid (Rws ki kk wz s14 /\ Below w9.heap.size w9 wz))
          case first =>
            by_cases hl : old.length = ki
            · subst hl
              go_wp2_with (at_builtin; have hz := HR; clear hz; refine wpList_appR25 rfl (.tmp 117) (.tmp 119) rfl w9 old.length gA gB gR HR.out (by omega) _ _ rfl ao ac old rfl (KO.out _ B9'.out) rfl rfl ?_; intro v14 w14 hrw hbw; have HF : Hid (Rws old.length 3 w14 v14 /\ Below w9.heap.size w9 w14) := ⟨hrw, hbw⟩; clear hrw hbw HR c64)
              go_meet
              case rel => exact ⟨_, 3, rfl, HF⟩
            · have y2 : ((old.length : Int) == (ki : Int)) = false := by rw [beq_eq_false_iff_ne]; omega
              have y3 : (old.length == ki) = false := by rw [beq_eq_false_iff_ne]; exact hl
              have y4 : decide (old.length = ki) = false := by rw [decide_eq_false_iff_not]; exact hl
              have HF : Hid (Rws ki 2 wr (.slice (some ⟨gR, 0, none⟩) 2 2) /\ Below w9.heap.size w9 wr) := ⟨HR.out.rws (by omega), HR.out.bel⟩
              clear HR
              go_wp2
              go_meet
              case rel => exact ⟨_, 2, rfl, HF⟩
          case rest =>
            obtain ⟨w10, kk, hw10, HRW⟩ := hcut
            subst hw10
            obtain ⟨gN, rc, rfl, hk3, _⟩ := HRW.out.1.eq
            clear HR c64 y1
            go_wp2_with fail
            go_loopw [16] (fun iv wr => ∃ i : Nat, i <= kk /\ iv = .int .i64 i /\ Hid (Below w10.heap.size w10 wr)) (fun iv _ => kk - (intOf iv).toNat)
            case atStart => exact ⟨0, by omega, rfl, Below.refl _ _⟩
            case round =>
              obtain ⟨kj, hj, rfl, HB⟩ := hrel
              by_cases hlt2 : kj < kk
              · have y0 : (0 : Int) <= (kj : Int) := by omega
                have y1 : (kj : Int) < (kk : Int) := by omega
                have z1 : IntKind.i64.wrap ((kj : Int) + 1) = (kj : Int) + 1 := i64_in _ (by omega) (by omega)
                obtain ⟨ro, rd, r, hr, hcell, hin⟩ := (HRW.out.1.keep HB.out).at hlt2
                have B9r : Below w9.heap.size w9 wr := HRW.out.2.trans (HB.out.mono HRW.out.2.size)
                have CR : Hid (∀ W, Below wr.heap.size wr W -> W.cell? ⟨gN, kj, none⟩ = some (.slice ro ki rd)) := fun W h => (h.cell (p := ⟨gN, kj, none⟩) (World.block_lt_of_cell? _ _ hcell)).trans hcell
                have TZ : Hid (∀ W, Below wr.heap.size wr W -> _) := fun W h => (TL.out W (B9r.trans (h.mono B9r.size)) ro rd r hr (hin.keep h)).1
                have TX : Hid (∀ W, Below wr.heap.size wr W -> _) := fun W h => (TL.out W (B9r.trans (h.mono B9r.size)) ro rd r hr (hin.keep h)).2
                have TY2 : Hid (∀ W, Below wr.heap.size wr W -> ∀ (N : Nat) (ro : Option Addr) (rd : Nat), Own N W (.slice ro xa rd) (tells x.l r) -> _) := fun W h N ro rd ho => TY.out W (B9r.trans (h.mono B9r.size)) N ro rd r hr ho
                have lLz : (tells z.l r).length = ya := TLN.out r hr
                have RA2 : Hid (∀ W, Below wr.heap.size wr W -> W.rangeAt G 0 C /\ W.rangeAt (G + 1) 0 D /\ W.rangeAt G7 0 E) := fun W h => RA.out W (B9r.trans (h.mono B9r.size))
                clear hr hcell hin B9r
                obtain ⟨Lz, hLz⟩ : ∃ Lz, Lz = tells z.l r := ⟨_, rfl⟩
                obtain ⟨Lx, hLx⟩ : ∃ Lx, Lx = tells x.l r := ⟨_, rfl⟩
                rw [<- hLz] at TZ TY2 lLz
                rw [<- hLx] at TX TY2
                clear hLz hLx
                go_upto_region 21 with fail
                refine wp_region_inv (IJN21 wr gN kk rc kj ki rd ya xa ro C D E Lz Lx (strOf Lz) _ _ _ _ _ _ _ _ _ _ _ _ _ _ _ _ _ _ _ _ _ _ _ _ _ _ _ _ _ _ _ _ _ _ _ _ _ _ _ _ _ _ _ _ _ _ _ _ _ _ _ _ _ _ _ _ _ _ _ _ _ _ _ _ _ _ _ _ _ _ _ _ _ _ _ _ _ _ _ _ _ _ _ _ _ _ _ _ _ _ _ _ _ _ _ _ _ _ _ _ _ _ _ _ _ _ _ _ _ _ _ _ _ _ _ _ _ _ _ _ _ _ _ _ _ _ _ _) (by kernel_rfl) (by kernel_rfl) ⟨_, _, _, _, _, _, _, _, _, _, _, _, _, _, _, _, _, rfl, ⟨(Below.refl _ _).drew, fun k => (by cases k), fun k => (by cases k), fun k => (by cases k), fun k => (by cases k), fun k => (by cases k), fun k => (by cases k), fun k => (by cases k), fun k => (by cases k), fun k => (by cases k), fun k => (by cases k), fun k => (by cases k), fun k => (by cases k), fun k => (by cases k), fun k => (by cases k), fun k => (by cases k), fun k => (by cases k), fun k => (by cases k)⟩⟩ ?_ ?_
                · refine .cons ?_ (.cons ?_ (.cons ?_ (.cons ?_ (.cons ?_ (.cons ?_ (.cons ?_ (.cons ?_ (.cons ?_ (.cons ?_ (.cons ?_ (.cons ?_ (.cons ?_ (.cons ?_ (.cons ?_ (.cons ?_ (.cons ?_ .nil))))))))))))))))
                  all_goals (refine JN21.step ?_; intro x127 x128 x129 x130 x131 x132 x133 x134 x135 x136 x137 x138 x139 x140 x141 x142 x143 L W hI hL hd K hK)
                  · refine step_load_rng25 (by rfl) 34 _ rfl G7 0 E (RA2.out _ hI.x).2.2 rfl _ Tryd.underlying34 rfl (by rw [lE]; kernel_rfl) ?_
                    exact hK.out _ _ ⟨_, _, _, _, _, _, _, _, _, _, _, _, _, _, _, _, _, rfl, { hI with p0 := fun _ => rfl }⟩
                  · rw [if_pos (by rfl)]
                    go_simp
                    exact hK.out _ _ ⟨_, _, _, _, _, _, _, _, _, _, _, _, _, _, _, _, _, rfl, { hI with p1 := fun _ => rfl }⟩
                  · rw [if_pos (by rfl)]
                    go_simp
                    exact hK.out _ _ ⟨_, _, _, _, _, _, _, _, _, _, _, _, _, _, _, _, _, rfl, { hI with p2 := fun _ => rfl }⟩
                  · obtain rfl := hI.p1 (hd 1 (by decide))
                    obtain rfl := hI.p2 (hd 2 (by decide))
                    rw [if_pos (by rfl)]
                    go_simp
                    exact hK.out _ _ ⟨_, _, _, _, _, _, _, _, _, _, _, _, _, _, _, _, _, rfl, { hI with p3 := fun _ => rfl }⟩
                  · obtain rfl := hI.p3 (hd 3 (by decide))
                    rw [if_pos (by rfl)]
                    have hc := CR.out _ hI.x
                    go_simp
                    exact hK.out _ _ ⟨_, _, _, _, _, _, _, _, _, _, _, _, _, _, _, _, _, rfl, { hI with p4 := fun _ => rfl }⟩
                  · obtain rfl := hI.p0 (hd 0 (by decide))
                    obtain rfl := hI.p4 (hd 4 (by decide))
                    rw [if_pos (by rfl)]
                    go_simp
                    refine (TZ.out _ hI.x).mono ?_
                    rintro e W2 ⟨ao3, c3, rfl, ho2, hb3⟩
                    go_simp
                    have hX := hI.x.trans (hb3.mono hI.x.size)
                    have ho3 : ∃ ao c, Value.slice ao3 ya c3 = .slice ao ya c /\ Own wr.heap.size W2 (.slice ao ya c) Lz := ⟨ao3, c3, rfl, own_le25 ho2 hI.x.size⟩
                    exact hK.out _ _ ⟨_, _, _, _, _, _, _, _, _, _, _, _, _, _, _, _, _, rfl, { hI with x := hX, p5 := fun _ => ho3, p13 := fun k => let ⟨ao, c, h1, h2⟩ := hI.p13 k; ⟨ao, c, h1, h2.keep hb3⟩, p14 := fun k => let ⟨ao, c, h1, h2⟩ := hI.p14 k; ⟨ao, c, h1, h2.keep hb3⟩ }⟩
                  · obtain ⟨ao5, c5, hx5, ho5⟩ := hI.p5 (hd 5 (by decide))
                    subst hx5
                    rw [if_pos (by rfl)]
                    have hc := conv_bytes W ao5 ya c5 Lz lLz (own_IsB ho5)
                    go_simp
                    exact hK.out _ _ ⟨_, _, _, _, _, _, _, _, _, _, _, _, _, _, _, _, _, rfl, { hI with p6 := fun _ => rfl }⟩
                  · refine step_load_rng25 (by rfl) 34 _ rfl (G + 1) 0 D (RA2.out _ hI.x).2.1 rfl _ Tryd.underlying34 rfl (by rw [lD]; kernel_rfl) ?_
                    exact hK.out _ _ ⟨_, _, _, _, _, _, _, _, _, _, _, _, _, _, _, _, _, rfl, { hI with p7 := fun _ => rfl }⟩
                  · refine step_load_rng25 (by rfl) 34 _ rfl G 0 C (RA2.out _ hI.x).1 rfl _ Tryd.underlying34 rfl (by rw [lC]; kernel_rfl) ?_
                    exact hK.out _ _ ⟨_, _, _, _, _, _, _, _, _, _, _, _, _, _, _, _, _, rfl, { hI with p8 := fun _ => rfl }⟩
                  · rw [if_pos (by rfl)]
                    go_simp
                    exact hK.out _ _ ⟨_, _, _, _, _, _, _, _, _, _, _, _, _, _, _, _, _, rfl, { hI with p9 := fun _ => rfl }⟩
                  · rw [if_pos (by rfl)]
                    go_simp
                    exact hK.out _ _ ⟨_, _, _, _, _, _, _, _, _, _, _, _, _, _, _, _, _, rfl, { hI with p10 := fun _ => rfl }⟩
                  · obtain rfl := hI.p9 (hd 9 (by decide))
                    obtain rfl := hI.p10 (hd 10 (by decide))
                    rw [if_pos (by rfl)]
                    go_simp
                    exact hK.out _ _ ⟨_, _, _, _, _, _, _, _, _, _, _, _, _, _, _, _, _, rfl, { hI with p11 := fun _ => rfl }⟩
                  · obtain rfl := hI.p11 (hd 11 (by decide))
                    rw [if_pos (by rfl)]
                    have hc := CR.out _ hI.x
                    go_simp
                    exact hK.out _ _ ⟨_, _, _, _, _, _, _, _, _, _, _, _, _, _, _, _, _, rfl, { hI with p12 := fun _ => rfl }⟩
                  · obtain rfl := hI.p8 (hd 8 (by decide))
                    obtain rfl := hI.p12 (hd 12 (by decide))
                    rw [if_pos (by rfl)]
                    go_simp
                    refine (TX.out _ hI.x).mono ?_
                    rintro e W2 ⟨ao3, c3, rfl, ho2, hb3⟩
                    go_simp
                    have hX := hI.x.trans (hb3.mono hI.x.size)
                    have ho3 : ∃ ao c, Value.slice ao3 xa c3 = .slice ao xa c /\ Own wr.heap.size W2 (.slice ao xa c) Lx := ⟨ao3, c3, rfl, own_le25 ho2 hI.x.size⟩
                    exact hK.out _ _ ⟨_, _, _, _, _, _, _, _, _, _, _, _, _, _, _, _, _, rfl, { hI with x := hX, p5 := fun k => let ⟨ao, c, h1, h2⟩ := hI.p5 k; ⟨ao, c, h1, h2.keep hb3⟩, p13 := fun _ => ho3, p14 := fun k => let ⟨ao, c, h1, h2⟩ := hI.p14 k; ⟨ao, c, h1, h2.keep hb3⟩ }⟩
                  · obtain rfl := hI.p7 (hd 7 (by decide))
                    obtain ⟨ao13, c13, hx13, ho13⟩ := hI.p13 (hd 13 (by decide))
                    subst hx13
                    rw [if_pos (by rfl)]
                    go_simp
                    refine (TY2.out _ hI.x _ _ _ ho13).mono ?_
                    rintro e W2 ⟨ao3, c3, rfl, ho2, hb3⟩
                    go_simp
                    have hX := hI.x.trans (hb3.mono hI.x.size)
                    have ho3 : ∃ ao c, Value.slice ao3 ya c3 = .slice ao ya c /\ Own wr.heap.size W2 (.slice ao ya c) Lz := ⟨ao3, c3, rfl, own_le25 ho2 hI.x.size⟩
                    exact hK.out _ _ ⟨_, _, _, _, _, _, _, _, _, _, _, _, _, _, _, _, _, rfl, { hI with x := hX, p5 := fun k => let ⟨ao, c, h1, h2⟩ := hI.p5 k; ⟨ao, c, h1, h2.keep hb3⟩, p13 := fun k => let ⟨ao, c, h1, h2⟩ := hI.p13 k; ⟨ao, c, h1, h2.keep hb3⟩, p14 := fun _ => ho3 }⟩
                  · obtain ⟨ao14, c14, hx14, ho14⟩ := hI.p14 (hd 14 (by decide))
                    subst hx14
                    rw [if_pos (by rfl)]
                    have hc := conv_bytes W ao14 ya c14 Lz lLz (own_IsB ho14)
                    go_simp
                    exact hK.out _ _ ⟨_, _, _, _, _, _, _, _, _, _, _, _, _, _, _, _, _, rfl, { hI with p15 := fun _ => rfl }⟩
                  · obtain rfl := hI.p6 (hd 6 (by decide))
                    obtain rfl := hI.p15 (hd 15 (by decide))
                    rw [if_pos (by rfl)]
                    go_simp
                    exact hK.out _ _ ⟨_, _, _, _, _, _, _, _, _, _, _, _, _, _, _, _, _, rfl, { hI with p16 := fun _ => rfl }⟩
                · rintro L _ W hall ⟨x127, x128, x129, x130, x131, x132, x133, x134, x135, x136, x137, x138, x139, x140, x141, x142, x143, rfl, hI⟩
                  obtain rfl := hI.p0 (hall 0 (by decide))
                  obtain rfl := hI.p1 (hall 1 (by decide))
                  obtain rfl := hI.p2 (hall 2 (by decide))
                  obtain rfl := hI.p3 (hall 3 (by decide))
                  obtain rfl := hI.p4 (hall 4 (by decide))
                  obtain ⟨ao5, c5, hx5, ho5⟩ := hI.p5 (hall 5 (by decide))
                  subst hx5
                  obtain rfl := hI.p6 (hall 6 (by decide))
                  obtain rfl := hI.p7 (hall 7 (by decide))
                  obtain rfl := hI.p8 (hall 8 (by decide))
                  obtain rfl := hI.p9 (hall 9 (by decide))
                  obtain rfl := hI.p10 (hall 10 (by decide))
                  obtain rfl := hI.p11 (hall 11 (by decide))
                  obtain rfl := hI.p12 (hall 12 (by decide))
                  obtain ⟨ao13, c13, hx13, ho13⟩ := hI.p13 (hall 13 (by decide))
                  subst hx13
                  obtain ⟨ao14, c14, hx14, ho14⟩ := hI.p14 (hall 14 (by decide))
                  subst hx14
                  obtain rfl := hI.p15 (hall 15 (by decide))
                  obtain rfl := hI.p16 (hall 16 (by decide))
                  have hXe := hI.x
                  clear hI hall
                  try dsimp only
                  have HF : Hid (Below w10.heap.size w10 W) := HB.out.trans (hXe.mono HB.out.size)
                  clear hXe CR TZ TX TY2 RA2
                  go_wp2
                  exact ⟨⟨kj + 1, by omega, by go_num, HF⟩, by simp [intOf]; omega⟩
              · obtain rfl : kj = kk := by omega
                have y1 : ¬ (kj : Int) < (kj : Int) := by omega
                have BB : Hid (Below w.heap.size w wr) := B9'.out.trans ((HRW.out.2.trans (HB.out.mono HRW.out.2.size)).mono B9'.out.size)
                clear HRW HB
                go_wp2_with (have hz := BB; clear hz; go_at_call 9; refine (FX.out _ BB.out).mono ?_; rintro e wC ⟨rfl, hbC⟩; have BC : Hid (Below w.heap.size w wC) := BB.out.trans (hbC.mono BB.out.size); clear hbC BB)
                go_ret
                exact ⟨rfl, BC.out⟩
end Go.Proofs.YtplpoehfdhkhmaaDoor
