
import Derived.Test.YtcpdanjbnijoiaaGreatDoorL4Open2
import Derived.Test.YtcpdanjbnijoiaaGreatDoorR4Lay
/-! AreaDoes, of any code with 'Are'. (Printed by tools/genar14.py.) -/
namespace Go.Proofs.YtcpdanjbnijoiaaGreatDoor
open Go.RowKit
set_option linter.unusedVariables false

structure Sz4 (W1 : World) (cells slots fuses step keys erases area AS : Int) (L : Nat → Bool) (x29 x30 x31 x32 x33 x12 : Value) (W : World) : Prop where
  x : Below W1.heap.size W1 W
  p0 : L 0 = true → x29 = .agg #[.int .i64 cells, .int .i64 slots, .int .i64 fuses, .int .i64 step, .int .i64 keys, .int .i64 erases, .int .i64 area]
  p1 : L 1 = true → x30 = .int .i64 AS
  p2 : L 2 = true → x31 = .agg #[.int .i64 cells, .int .i64 slots, .int .i64 fuses, .int .i64 step, .int .i64 keys, .int .i64 erases, .int .i64 area]
  p3 : L 3 = true → x32 = .int .i64 AS
  p4 : L 4 = true → x33 = .bool true
  p5 : L 5 = true → x12 = .bool true
section
variable {W1 : World} {cells slots fuses step keys erases area AS : Int} {L : Nat → Bool} {x29 x30 x31 x32 x33 x12 : Value} {W W2 : World}
theorem Sz4.s0 (h : Sz4 W1 cells slots fuses step keys erases area AS L x29 x30 x31 x32 x33 x12 W) : Sz4 W1 cells slots fuses step keys erases area AS (upd L 0) (.agg #[.int .i64 cells, .int .i64 slots, .int .i64 fuses, .int .i64 step, .int .i64 keys, .int .i64 erases, .int .i64 area]) x30 x31 x32 x33 x12 W :=
  ⟨h.x, fun _ => rfl, h.p1, h.p2, h.p3, h.p4, h.p5⟩
theorem Sz4.s1 (h : Sz4 W1 cells slots fuses step keys erases area AS L x29 x30 x31 x32 x33 x12 W) (hX : Below W1.heap.size W1 W2) : Sz4 W1 cells slots fuses step keys erases area AS (upd L 1) x29 (.int .i64 AS) x31 x32 x33 x12 W2 :=
  ⟨hX, h.p0, fun _ => rfl, h.p2, h.p3, h.p4, h.p5⟩
theorem Sz4.s2 (h : Sz4 W1 cells slots fuses step keys erases area AS L x29 x30 x31 x32 x33 x12 W) : Sz4 W1 cells slots fuses step keys erases area AS (upd L 2) x29 x30 (.agg #[.int .i64 cells, .int .i64 slots, .int .i64 fuses, .int .i64 step, .int .i64 keys, .int .i64 erases, .int .i64 area]) x32 x33 x12 W :=
  ⟨h.x, h.p0, h.p1, fun _ => rfl, h.p3, h.p4, h.p5⟩
theorem Sz4.s3 (h : Sz4 W1 cells slots fuses step keys erases area AS L x29 x30 x31 x32 x33 x12 W) (hX : Below W1.heap.size W1 W2) : Sz4 W1 cells slots fuses step keys erases area AS (upd L 3) x29 x30 x31 (.int .i64 AS) x33 x12 W2 :=
  ⟨hX, h.p0, h.p1, h.p2, fun _ => rfl, h.p4, h.p5⟩
theorem Sz4.s4 (h : Sz4 W1 cells slots fuses step keys erases area AS L x29 x30 x31 x32 x33 x12 W) : Sz4 W1 cells slots fuses step keys erases area AS (upd L 4) x29 x30 x31 x32 (.bool true) x12 W :=
  ⟨h.x, h.p0, h.p1, h.p2, h.p3, fun _ => rfl, h.p5⟩
theorem Sz4.s5 (h : Sz4 W1 cells slots fuses step keys erases area AS L x29 x30 x31 x32 x33 x12 W) : Sz4 W1 cells slots fuses step keys erases area AS (upd L 5) x29 x30 x31 x32 x33 (.bool true) W :=
  ⟨h.x, h.p0, h.p1, h.p2, h.p3, h.p4, fun _ => rfl⟩
end
@[reducible] def ISz4 (W1 : World) (cells slots fuses step keys erases area AS : Int) (y0 y1 y2 y3 y4 y5 y6 y7 y8 y9 y10 y11 y13 y14 y15 y16 y17 y18 y19 y20 y21 y22 y23 y24 y25 y26 y27 y28 y34 y35 y36 y37 y38 y39 y40 y41 y42 y43 y44 y45 y46 y47 y48 y49 y50 y51 y52 y53 y54 y55 y56 y57 y58 y59 y60 y61 y62 y63 y64 y65 y66 y67 y68 y69 y70 y71 y72 y73 y74 y75 y76 y77 y78 y79 y80 y81 y82 y83 y84 y85 y86 y87 y88 y89 y90 y91 y92 y93 y94 y95 y96 y97 y98 y99 : Value) : (Nat → Bool) → Act → World → Prop := fun L a W => ∃ x29 x30 x31 x32 x33 x12, a = ⟨#[y0, y1, y2, y3, y4, y5, y6, y7, y8, y9, y10, y11, x12, y13, y14, y15, y16, y17, y18, y19, y20, y21, y22, y23, y24, y25, y26, y27, y28, x29, x30, x31, x32, x33, y34, y35, y36, y37, y38, y39, y40, y41, y42, y43, y44, y45, y46, y47, y48, y49, y50, y51, y52, y53, y54, y55, y56, y57, y58, y59, y60, y61, y62, y63, y64, y65, y66, y67, y68, y69, y70, y71, y72, y73, y74, y75, y76, y77, y78, y79, y80, y81, y82, y83, y84, y85, y86, y87, y88, y89, y90, y91, y92, y93, y94, y95, y96, y97, y98, y99], []⟩ ∧ Sz4 W1 cells slots fuses step keys erases area AS L x29 x30 x31 x32 x33 x12 W
theorem Sz4.step {W1 : World} {cells slots fuses step keys erases area AS : Int} {y0 y1 y2 y3 y4 y5 y6 y7 y8 y9 y10 y11 y13 y14 y15 y16 y17 y18 y19 y20 y21 y22 y23 y24 y25 y26 y27 y28 y34 y35 y36 y37 y38 y39 y40 y41 y42 y43 y44 y45 y46 y47 y48 y49 y50 y51 y52 y53 y54 y55 y56 y57 y58 y59 y60 y61 y62 y63 y64 y65 y66 y67 y68 y69 y70 y71 y72 y73 y74 y75 y76 y77 y78 y79 y80 y81 y82 y83 y84 y85 y86 y87 y88 y89 y90 y91 y92 y93 y94 y95 y96 y97 y98 y99 : Value} {P : Program} {ops : Array Oper} {Q : Exit → Act → World → Prop} {i : Nat} {o : Oper} (hq : ∀ x29 x30 x31 x32 x33 x12 (L : Nat → Bool) (W : World), Sz4 W1 cells slots fuses step keys erases area AS L x29 x30 x31 x32 x33 x12 W → L i = false → (∀ j ∈ onesOf o, L j = true) → ∀ K : Act → World → Prop, Shut (∀ a' w', ISz4 W1 cells slots fuses step keys erases area AS y0 y1 y2 y3 y4 y5 y6 y7 y8 y9 y10 y11 y13 y14 y15 y16 y17 y18 y19 y20 y21 y22 y23 y24 y25 y26 y27 y28 y34 y35 y36 y37 y38 y39 y40 y41 y42 y43 y44 y45 y46 y47 y48 y49 y50 y51 y52 y53 y54 y55 y56 y57 y58 y59 y60 y61 y62 y63 y64 y65 y66 y67 y68 y69 y70 y71 y72 y73 y74 y75 y76 y77 y78 y79 y80 y81 y82 y83 y84 y85 y86 y87 y88 y89 y90 y91 y92 y93 y94 y95 y96 y97 y98 y99 (upd L i) a' w' → K a' w') → if Region.wanted o (yielded ops (⟨#[y0, y1, y2, y3, y4, y5, y6, y7, y8, y9, y10, y11, x12, y13, y14, y15, y16, y17, y18, y19, y20, y21, y22, y23, y24, y25, y26, y27, y28, x29, x30, x31, x32, x33, y34, y35, y36, y37, y38, y39, y40, y41, y42, y43, y44, y45, y46, y47, y48, y49, y50, y51, y52, y53, y54, y55, y56, y57, y58, y59, y60, y61, y62, y63, y64, y65, y66, y67, y68, y69, y70, y71, y72, y73, y74, y75, y76, y77, y78, y79, y80, y81, y82, y83, y84, y85, y86, y87, y88, y89, y90, y91, y92, y93, y94, y95, y96, y97, y98, y99], []⟩ : Act).tmps) = true then Oper.wp P o ⟨#[y0, y1, y2, y3, y4, y5, y6, y7, y8, y9, y10, y11, x12, y13, y14, y15, y16, y17, y18, y19, y20, y21, y22, y23, y24, y25, y26, y27, y28, x29, x30, x31, x32, x33, y34, y35, y36, y37, y38, y39, y40, y41, y42, y43, y44, y45, y46, y47, y48, y49, y50, y51, y52, y53, y54, y55, y56, y57, y58, y59, y60, y61, y62, y63, y64, y65, y66, y67, y68, y69, y70, y71, y72, y73, y74, y75, y76, y77, y78, y79, y80, y81, y82, y83, y84, y85, y86, y87, y88, y89, y90, y91, y92, y93, y94, y95, y96, y97, y98, y99], []⟩ W K Q else K ((⟨#[y0, y1, y2, y3, y4, y5, y6, y7, y8, y9, y10, y11, x12, y13, y14, y15, y16, y17, y18, y19, y20, y21, y22, y23, y24, y25, y26, y27, y28, x29, x30, x31, x32, x33, y34, y35, y36, y37, y38, y39, y40, y41, y42, y43, y44, y45, y46, y47, y48, y49, y50, y51, y52, y53, y54, y55, y56, y57, y58, y59, y60, y61, y62, y63, y64, y65, y66, y67, y68, y69, y70, y71, y72, y73, y74, y75, y76, y77, y78, y79, y80, y81, y82, y83, y84, y85, y86, y87, y88, y89, y90, y91, y92, y93, y94, y95, y96, y97, y98, y99], []⟩ : Act).put o.dst undef) W) : StepI P ops (ISz4 W1 cells slots fuses step keys erases area AS y0 y1 y2 y3 y4 y5 y6 y7 y8 y9 y10 y11 y13 y14 y15 y16 y17 y18 y19 y20 y21 y22 y23 y24 y25 y26 y27 y28 y34 y35 y36 y37 y38 y39 y40 y41 y42 y43 y44 y45 y46 y47 y48 y49 y50 y51 y52 y53 y54 y55 y56 y57 y58 y59 y60 y61 y62 y63 y64 y65 y66 y67 y68 y69 y70 y71 y72 y73 y74 y75 y76 y77 y78 y79 y80 y81 y82 y83 y84 y85 y86 y87 y88 y89 y90 y91 y92 y93 y94 y95 y96 y97 y98 y99) Q i o := by
  rintro L a W ⟨x29, x30, x31, x32, x33, x12, rfl, h⟩
  exact hq _ _ _ _ _ _ _ _ h
theorem Sz4.ends {W1 : World} {cells slots fuses step keys erases area AS : Int} {y0 y1 y2 y3 y4 y5 y6 y7 y8 y9 y10 y11 y13 y14 y15 y16 y17 y18 y19 y20 y21 y22 y23 y24 y25 y26 y27 y28 y34 y35 y36 y37 y38 y39 y40 y41 y42 y43 y44 y45 y46 y47 y48 y49 y50 y51 y52 y53 y54 y55 y56 y57 y58 y59 y60 y61 y62 y63 y64 y65 y66 y67 y68 y69 y70 y71 y72 y73 y74 y75 y76 y77 y78 y79 y80 y81 y82 y83 y84 y85 y86 y87 y88 y89 y90 y91 y92 y93 y94 y95 y96 y97 y98 y99 : Value} {mm_ : Nat} {Q : Exit → Act → World → Prop} (hq : ∀ x29 x30 x31 x32 x33 x12 (L : Nat → Bool) (W : World), (∀ j, j < mm_ → L j = true) → Sz4 W1 cells slots fuses step keys erases area AS L x29 x30 x31 x32 x33 x12 W → Q .normal ⟨#[y0, y1, y2, y3, y4, y5, y6, y7, y8, y9, y10, y11, x12, y13, y14, y15, y16, y17, y18, y19, y20, y21, y22, y23, y24, y25, y26, y27, y28, x29, x30, x31, x32, x33, y34, y35, y36, y37, y38, y39, y40, y41, y42, y43, y44, y45, y46, y47, y48, y49, y50, y51, y52, y53, y54, y55, y56, y57, y58, y59, y60, y61, y62, y63, y64, y65, y66, y67, y68, y69, y70, y71, y72, y73, y74, y75, y76, y77, y78, y79, y80, y81, y82, y83, y84, y85, y86, y87, y88, y89, y90, y91, y92, y93, y94, y95, y96, y97, y98, y99], []⟩ W) : ∀ L a' w', (∀ j, j < mm_ → L j = true) → ISz4 W1 cells slots fuses step keys erases area AS y0 y1 y2 y3 y4 y5 y6 y7 y8 y9 y10 y11 y13 y14 y15 y16 y17 y18 y19 y20 y21 y22 y23 y24 y25 y26 y27 y28 y34 y35 y36 y37 y38 y39 y40 y41 y42 y43 y44 y45 y46 y47 y48 y49 y50 y51 y52 y53 y54 y55 y56 y57 y58 y59 y60 y61 y62 y63 y64 y65 y66 y67 y68 y69 y70 y71 y72 y73 y74 y75 y76 y77 y78 y79 y80 y81 y82 y83 y84 y85 y86 y87 y88 y89 y90 y91 y92 y93 y94 y95 y96 y97 y98 y99 L a' w' → Q .normal a' w' := by
  rintro L a W hall ⟨x29, x30, x31, x32, x33, x12, rfl, h⟩
  exact hq _ _ _ _ _ _ _ _ hall h
structure S14I (W1 : World) (G F : RF) (s : RS) (L : Nat → Bool) (x69 x70 x71 x72 x73 x74 x75 x15 : Value) (W : World) : Prop where
  bel : Below W1.heap.size W1 W
  p0 : L 0 = true → x69 = .pointer (some ⟨G.g, 0, none⟩)
  p1 : L 1 = true → ∃ p e b ps, x70 = .agg #[.slice (some ⟨p, 0, none⟩) s.pages.length s.pages.length, .slice (some ⟨e, 0, none⟩) s.erases.length s.erases.length, .slice (some ⟨b, 0, none⟩) s.blown.length s.blown.length] ∧ OwnX W W1.heap.size s.st p e b ps
  p2 : L 2 = true → x71 = .pointer (some ⟨F.g, 0, none⟩)
  p3 : L 3 = true → x72 = .pointer (some ⟨F.g, 0, none⟩)
  p4 : L 4 = true → x73 = .pointer (some ⟨F.g, 7, none⟩)
  p5 : L 5 = true → x74 = .agg #[.slice (some ⟨F.pB, 0, none⟩) s.pages.length F.pcap, .slice (some ⟨F.eB, 0, none⟩) s.erases.length F.ecap, .slice (some ⟨F.bB, 0, none⟩) s.blown.length F.bcap]
  p6 : L 6 = true → x75 = .bool true
  p7 : L 7 = true → x15 = .bool true
section
variable {W1 : World} {G F : RF} {s : RS} {L : Nat → Bool} {x69 x70 x71 x72 x73 x74 x75 x15 : Value} {W W2 : World}
theorem S14I.zero (W1 : World) (G F : RF) (s : RS) (x69 x70 x71 x72 x73 x74 x75 x15 : Value) : S14I W1 G F s (fun _ => false) x69 x70 x71 x72 x73 x74 x75 x15 W1.drew := by
  constructor
  · exact (Below.refl _ _).drew
  all_goals (intro k; cases k)
theorem S14I.mono (h : S14I W1 G F s L x69 x70 x71 x72 x73 x74 x75 x15 W) (hb : Below W.heap.size W W2) : S14I W1 G F s L x69 x70 x71 x72 x73 x74 x75 x15 W2 :=
  ⟨h.bel.trans (hb.mono h.bel.size), h.p0, fun k => by obtain ⟨p, e, b, ps, h1, h2⟩ := h.p1 k; exact ⟨p, e, b, ps, h1, h2.below hb⟩, h.p2, h.p3, h.p4, h.p5, h.p6, h.p7⟩
theorem S14I.s0 (h : S14I W1 G F s L x69 x70 x71 x72 x73 x74 x75 x15 W) : S14I W1 G F s (upd L 0) (.pointer (some ⟨G.g, 0, none⟩)) x70 x71 x72 x73 x74 x75 x15 W :=
  ⟨h.bel, fun _ => rfl, h.p1, h.p2, h.p3, h.p4, h.p5, h.p6, h.p7⟩
theorem S14I.s1 (h : S14I W1 G F s L x69 x70 x71 x72 x73 x74 x75 x15 W) {p e b : Nat} {ps : List (Nat × Nat)} (ho : OwnX W W1.heap.size s.st p e b ps) : S14I W1 G F s (upd L 1) x69 (.agg #[.slice (some ⟨p, 0, none⟩) s.pages.length s.pages.length, .slice (some ⟨e, 0, none⟩) s.erases.length s.erases.length, .slice (some ⟨b, 0, none⟩) s.blown.length s.blown.length]) x71 x72 x73 x74 x75 x15 W :=
  ⟨h.bel, h.p0, fun _ => ⟨p, e, b, ps, rfl, ho⟩, h.p2, h.p3, h.p4, h.p5, h.p6, h.p7⟩
theorem S14I.s2 (h : S14I W1 G F s L x69 x70 x71 x72 x73 x74 x75 x15 W) : S14I W1 G F s (upd L 2) x69 x70 (.pointer (some ⟨F.g, 0, none⟩)) x72 x73 x74 x75 x15 W :=
  ⟨h.bel, h.p0, h.p1, fun _ => rfl, h.p3, h.p4, h.p5, h.p6, h.p7⟩
theorem S14I.s3 (h : S14I W1 G F s L x69 x70 x71 x72 x73 x74 x75 x15 W) : S14I W1 G F s (upd L 3) x69 x70 x71 (.pointer (some ⟨F.g, 0, none⟩)) x73 x74 x75 x15 W :=
  ⟨h.bel, h.p0, h.p1, h.p2, fun _ => rfl, h.p4, h.p5, h.p6, h.p7⟩
theorem S14I.s4 (h : S14I W1 G F s L x69 x70 x71 x72 x73 x74 x75 x15 W) : S14I W1 G F s (upd L 4) x69 x70 x71 x72 (.pointer (some ⟨F.g, 7, none⟩)) x74 x75 x15 W :=
  ⟨h.bel, h.p0, h.p1, h.p2, h.p3, fun _ => rfl, h.p5, h.p6, h.p7⟩
theorem S14I.s5 (h : S14I W1 G F s L x69 x70 x71 x72 x73 x74 x75 x15 W) : S14I W1 G F s (upd L 5) x69 x70 x71 x72 x73 (.agg #[.slice (some ⟨F.pB, 0, none⟩) s.pages.length F.pcap, .slice (some ⟨F.eB, 0, none⟩) s.erases.length F.ecap, .slice (some ⟨F.bB, 0, none⟩) s.blown.length F.bcap]) x75 x15 W :=
  ⟨h.bel, h.p0, h.p1, h.p2, h.p3, h.p4, fun _ => rfl, h.p6, h.p7⟩
theorem S14I.s6 (h : S14I W1 G F s L x69 x70 x71 x72 x73 x74 x75 x15 W) : S14I W1 G F s (upd L 6) x69 x70 x71 x72 x73 x74 (.bool true) x15 W :=
  ⟨h.bel, h.p0, h.p1, h.p2, h.p3, h.p4, h.p5, fun _ => rfl, h.p7⟩
theorem S14I.s7 (h : S14I W1 G F s L x69 x70 x71 x72 x73 x74 x75 x15 W) : S14I W1 G F s (upd L 7) x69 x70 x71 x72 x73 x74 x75 (.bool true) W :=
  ⟨h.bel, h.p0, h.p1, h.p2, h.p3, h.p4, h.p5, h.p6, fun _ => rfl⟩
end
@[reducible] def IS14I (W1 : World) (G F : RF) (s : RS) (y0 y1 y2 y3 y4 y5 y6 y7 y8 y9 y10 y11 y12 y13 y14 y16 y17 y18 y19 y20 y21 y22 y23 y24 y25 y26 y27 y28 y29 y30 y31 y32 y33 y34 y35 y36 y37 y38 y39 y40 y41 y42 y43 y44 y45 y46 y47 y48 y49 y50 y51 y52 y53 y54 y55 y56 y57 y58 y59 y60 y61 y62 y63 y64 y65 y66 y67 y68 y76 y77 y78 y79 y80 y81 y82 y83 y84 y85 y86 y87 y88 y89 y90 y91 y92 y93 y94 y95 y96 y97 y98 y99 : Value) : (Nat → Bool) → Act → World → Prop := fun L a W => ∃ x69 x70 x71 x72 x73 x74 x75 x15, a = ⟨#[y0, y1, y2, y3, y4, y5, y6, y7, y8, y9, y10, y11, y12, y13, y14, x15, y16, y17, y18, y19, y20, y21, y22, y23, y24, y25, y26, y27, y28, y29, y30, y31, y32, y33, y34, y35, y36, y37, y38, y39, y40, y41, y42, y43, y44, y45, y46, y47, y48, y49, y50, y51, y52, y53, y54, y55, y56, y57, y58, y59, y60, y61, y62, y63, y64, y65, y66, y67, y68, x69, x70, x71, x72, x73, x74, x75, y76, y77, y78, y79, y80, y81, y82, y83, y84, y85, y86, y87, y88, y89, y90, y91, y92, y93, y94, y95, y96, y97, y98, y99], []⟩ ∧ S14I W1 G F s L x69 x70 x71 x72 x73 x74 x75 x15 W

/-- A step of a script that came in. -/
def StepIn (w : World) (SB o : Nat) : Prop := ∃ k a n bo len cap b, n < 9223372036854775808 ∧ w.rangeAt SB o (stepC k a n bo len cap) ∧ b.length = len ∧ len ≤ 140737488351232 ∧ len ≤ cap ∧ (bo = none → cap = 0) ∧ IsB w bo b

structure D14 (w : World) (G : RF) (fg i : Nat) (W : World) (F : RF) (s : RS) : Prop where
  bel : Below w.heap.size w W
  p : PR W G F s
  ar : s.Ar
  g : F.g = fg
  n : s.n ≤ 20000 * (i : Int)
  lo : ∀ B, B ∈ G.blocks ∨ B ∈ F.blocks → w.heap.size ≤ B
theorem D14.below {w : World} {G : RF} {fg i : Nat} {W W2 : World} {F : RF} {s : RS} (h : D14 w G fg i W F s) (hb : Below W.heap.size W W2) : D14 w G fg i W2 F s :=
  ⟨h.bel.trans (hb.mono h.bel.size), h.p.below hb (Nat.le_refl _), h.ar, h.g, h.n, h.lo⟩
theorem D14.next {w : World} {G : RF} {fg i : Nat} {W W2 : World} {F : RF} {s : RS} (h : D14 w G fg i W F s) {e : Ending} (hs : StepPost14 G F s W e W2) : ∃ F2 s2, D14 w G fg (i + 1) W2 F2 s2 := by
  obtain ⟨_, F2, s2, hp, hf, hg, hbl, hn, kl⟩ := hs
  have h1 := h.n
  have h2 := h.bel.size
  refine ⟨F2, s2, below_kept h.bel kl (fun B hB => h.lo B (List.mem_append.1 hB)) h2, hp, hf, hg.trans h.g, by omega, ?_⟩
  rintro B (hB | hB)
  · exact h.lo B (.inl hB)
  · rcases hbl B hB with h3 | h3
    · exact h.lo B (.inr h3)
    · omega

set_option maxHeartbeats 4000000 in
set_option maxRecDepth 100000 in
theorem does14_any (A : Are) (AW : AreWorn) (c : Cfg) (v : SV) (t : St) (w : World) (hg : HG w) (hin : StIn w v t) (so : Option Addr) (n cap : Nat) (hn : n * 48 ≤ 140737488355328)
    (hso : ∀ j, j < n → ∃ SB off, so = some ⟨SB, off, none⟩ ∧ SB < w.heap.size ∧ StepIn w SB (off + j * 4)) :
    Calls Tryz.prog 3 #[.agg c.vals.toArray, .agg (v.vals t).toArray, .slice so n cap] w fun e w' => e = .returned (.bool true) ∧ Below w.heap.size w w' := by
  have z1 := hin.l1
  have z2 := hin.l2
  have z3 := hin.l3
  have z4 := hin.lp
  simp only [reachBytes] at z1 z2 z3 z4
  have hv := hin.view
  have h8 := hv.by8
  have hpl : ∀ p, p < t.pages.length → (t.pages.getD p []).length ≤ 4398046511104 := fun p hp => by
    have := z4 (t.pages.getD p []) (by rw [List.getD_eq_getElem?_getD, List.getElem?_eq_getElem hp]; exact List.getElem_mem hp)
    omega
  have sz : t.pages.length ≤ 140737488355328 ∧ t.erases.length ≤ 140737488355328 ∧ t.blown.length ≤ 140737488355328 ∧ ∀ p ∈ t.pages, p.length ≤ 140737488355328 := ⟨by omega, by omega, by omega, fun p hp => by have := z4 p hp; omega⟩
  have HHG : Hid (HG w) := hg
  clear hg
  have HFX : Hid (∀ W, HG W → Calls Tryz.prog 4 #[] W fun e w' => e = .returned (.bool true) ∧ Below W.heap.size W w') := fun W hgW => l14fixed_any A W hgW
  have HCL : Hid (∀ W, Below w.heap.size w W → Calls Tryz.prog 5 #[.agg c.vals.toArray, .agg #[.slice v.po t.pages.length v.pc, .slice v.eo t.erases.length v.ec, .slice v.bo t.blown.length v.bc]] W (CLayP (badK c) (c.may = 0 ∧ Fit c t) (layS c t) W)) := fun W hW =>
    (clay_any c v t W (hv.below hW (Nat.le_refl _)) sz.1 sz.2.1 sz.2.2.1 sz.2.2.2).mono fun e w' h => clayp h
  have HRL : Hid (∀ W, Below w.heap.size w W → Calls Tryz.prog 6 #[.agg c.vals.toArray, .agg #[.slice v.po t.pages.length v.pc, .slice v.eo t.erases.length v.ec, .slice v.bo t.blown.length v.bc]] W (RLayP (badK c) (c.may = 0 ∧ Fit c t) (layS c t) W)) := fun W hW =>
    (lay_any c v t W (hv.below hW (Nat.le_refl _)) hin.en hin.bn (by omega) (by omega) (by omega) hpl (pn_below hv hW hin.pn)).mono fun e w' ⟨h1, h2⟩ => by
      refine ⟨h1, ?_⟩
      rcases h2 with ⟨a, b⟩ | ⟨a, b, d⟩ | ⟨a, b, d⟩
      · exact .inl ⟨fun k => a k.1, by rw [b, badK, if_neg a]⟩
      · exact .inl ⟨fun k => b k.2, by rw [d, badK, if_pos a]⟩
      · exact .inr ⟨⟨a, b⟩, d⟩
  have HOKG : Hid ((c.may = 0 ∧ Fit c t) → (layS c t).Good ∧ (layS c t).Ar ∧ (layS c t).n = 0) := fun h => ⟨lay_good h.1 h.2, lay_ar h.1 h.2 h8, rfl⟩
  have HSO : Hid (∀ j, j < n → ∃ SB off, so = some ⟨SB, off, none⟩ ∧ SB < w.heap.size ∧ StepIn w SB (off + j * 4)) := hso
  have HSZ1 : Hid (∀ W, Calls Tryz.prog 7 #[.agg c.vals.toArray] W fun e w' => e = .returned (.int .i64 c.asize) ∧ Below W.heap.size W w') := fun W => A.size c W
  have HSZ2 : Hid (∀ W, Calls Tryz.prog 8 #[.agg c.vals.toArray] W fun e w' => e = .returned (.int .i64 c.asize) ∧ Below W.heap.size W w') := fun W => r14size_any c W
  generalize c.asize = AS at *
  clear hso hin hv h8 hpl sz z1 z2 z3 z4
  generalize badK c = K at *
  generalize layS c t = s0 at *
  obtain ⟨OK, hOK⟩ : ∃ OK : Prop, OK = (c.may = 0 ∧ Fit c t) := ⟨_, rfl⟩
  rw [← hOK] at HCL HRL HOKG
  clear hOK
  obtain ⟨cells, slots, fuses, step, keys, erases, area⟩ := c
  simp only [Cfg.vals, SV.vals] at *
  obtain ⟨W0, hW0⟩ : ∃ W0, W0 = (w.alloc (.cells #[.int .i64 cells, .int .i64 slots, .int .i64 fuses, .int .i64 step, .int .i64 keys, .int .i64 erases, .int .i64 area] 23)).alloc (.cells #[.slice v.po t.pages.length v.pc, .slice v.eo t.erases.length v.ec, .slice v.bo t.blown.length v.bc] 28) := ⟨_, rfl⟩
  have R0 : Hid (Row W0 w.heap.size 23 [.int .i64 cells, .int .i64 slots, .int .i64 fuses, .int .i64 step, .int .i64 keys, .int .i64 erases, .int .i64 area] ∧ Row W0 (w.heap.size + 1) 28 [.slice v.po t.pages.length v.pc, .slice v.eo t.erases.length v.ec, .slice v.bo t.blown.length v.bc] ∧ Below w.heap.size w W0 ∧ W0.heap.size = w.heap.size + 2) := by
    rw [hW0]
    exact ⟨(Row.at _ _ _ _ _ rfl rfl : Row (w.alloc _) _ _ _).alloc _, Row.at _ _ _ _ _ (by simp) rfl, ((Below.refl _ _).alloc (Nat.le_refl _) _).alloc (by simp) _, by simp⟩
  have nk : (K != K) = false := by simp
  generalize t.pages.length = PL at *
  generalize t.erases.length = EL at *
  generalize t.blown.length = BL at *
  go_enter Tryz.func3, Tryz.ntmps3
  go_wp2_with fail
  rw [← hW0]
  clear hW0
  refine (HFX.out _ (HHG.out.below R0.out.2.2.1 HHG.out.lt)).mono ?_
  rintro e w1 ⟨rfl, hb1⟩
  have c1 : Row w1 w.heap.size 23 _ := (hb1.block _ R0.out.1.lt).trans R0.out.1
  have s1 : Row w1 (w.heap.size + 1) 28 _ := (hb1.block _ R0.out.2.1.lt).trans R0.out.2.1
  have b1 : Below w.heap.size w w1 := R0.out.2.2.1.trans (hb1.mono (by have := R0.out.2.2.2; omega))
  clear R0 hb1
  have a0 := c1.cell 0 _ rfl
  have a1 := c1.cell 1 _ rfl
  have a2 := c1.cell 2 _ rfl
  have a3 := c1.cell 3 _ rfl
  have a4 := c1.cell 4 _ rfl
  have a5 := c1.cell 5 _ rfl
  have a6 := c1.cell 6 _ rfl
  have d0 := s1.cell 0 _ rfl
  have d1 := s1.cell 1 _ rfl
  have d2 := s1.cell 2 _ rfl
  go_wp2_with fail
  refine (HCL.out _ b1).mono ?_
  intro e w2 hp1
  obtain ⟨hb2, hp1⟩ := hp1
  have c2 : Row w2 w.heap.size 23 _ := (hb2.block _ c1.lt).trans c1
  have s2 : Row w2 (w.heap.size + 1) 28 _ := (hb2.block _ s1.lt).trans s1
  have b2 : Below w.heap.size w w2 := b1.trans (hb2.mono b1.size)
  have hz1 := b1.size
  clear a0 a1 a2 a3 a4 a5 a6 d0 d1 d2 c1 s1 b1 hb2 HCL
  have a0 := c2.cell 0 _ rfl
  have a1 := c2.cell 1 _ rfl
  have a2 := c2.cell 2 _ rfl
  have a3 := c2.cell 3 _ rfl
  have a4 := c2.cell 4 _ rfl
  have a5 := c2.cell 5 _ rfl
  have a6 := c2.cell 6 _ rfl
  have d0 := s2.cell 0 _ rfl
  have d1 := s2.cell 1 _ rfl
  have d2 := s2.cell 2 _ rfl
  have C2 : Hid (Row w2 w.heap.size 23 [.int .i64 cells, .int .i64 slots, .int .i64 fuses, .int .i64 step, .int .i64 keys, .int .i64 erases, .int .i64 area]) := c2
  clear c2 s2
  rcases hp1 with ⟨hno, rfl⟩ | ⟨hok, G, rfl, hG, hGb⟩
  · go_wp2_with fail
    refine (HRL.out _ b2).mono ?_
    intro e w3 hp2
    obtain ⟨hb3, hp2⟩ := hp2
    obtain rfl : e = .returned (.tuple #[.pointer none, .int .i64 K]) := by
      rcases hp2 with h | ⟨h, _⟩
      · exact h.2
      · exact absurd h hno
    have b3 : Below w.heap.size w w3 := b2.trans (hb3.mono b2.size)
    have HRC : Hid (∀ W, Below w3.heap.size w3 W → W.rangeAt w.heap.size 0 [.int .i64 cells, .int .i64 slots, .int .i64 fuses, .int .i64 step, .int .i64 keys, .int .i64 erases, .int .i64 area]) := fun W hW j v hv => by
      have r3 := C2.out.below hb3 C2.out.lt
      have := (r3.below hW r3.lt).cell j v hv
      simpa using this
    clear a0 a1 a2 a3 a4 a5 a6 d0 d1 d2 hp2 hb3 b2
    have eAS : (AS == AS) = true := by simp
    go_wp2_with fail
    refine wp_region_inv (ISz4 w3 cells slots fuses step keys erases area AS _ _ _ _ _ _ _ _ _ _ _ _ _ _ _ _ _ _ _ _ _ _ _ _ _ _ _ _ _ _ _ _ _ _ _ _ _ _ _ _ _ _ _ _ _ _ _ _ _ _ _ _ _ _ _ _ _ _ _ _ _ _ _ _ _ _ _ _ _ _ _ _ _ _ _ _ _ _ _ _ _ _ _ _ _ _ _ _ _ _ _ _ _ _) (by kernel_rfl) (by kernel_rfl) ⟨_, _, _, _, _, _, rfl, ⟨(Below.refl _ _).drew, fun k => (by cases k), fun k => (by cases k), fun k => (by cases k), fun k => (by cases k), fun k => (by cases k), fun k => (by cases k)⟩⟩ ?_ ?_
    · refine .cons ?_ (.cons ?_ (.cons ?_ (.cons ?_ (.cons ?_ (.cons ?_ .nil)))))
      all_goals (refine Sz4.step ?_; intro x29 x30 x31 x32 x33 x12 L W hI hL hd K hK)
      · refine step_load_rng rfl 23 _ rfl w.heap.size 0 _ (HRC.out W hI.x) rfl _ Tryz.underlying23 rfl (by kernel_rfl) ?_
        exact hK.out _ _ ⟨_, _, _, _, _, _, rfl, hI.s0⟩
      · have hx0 := hI.p0 (hd 0 (by decide))
        subst hx0
        rw [if_pos (by rfl)]
        go_simp
        refine (HSZ1.out W).mono ?_
        rintro e W2 ⟨rfl, hb3⟩
        go_simp
        exact hK.out _ _ ⟨_, _, _, _, _, _, rfl, hI.s1 (hI.x.trans (hb3.mono hI.x.size))⟩
      · refine step_load_rng rfl 23 _ rfl w.heap.size 0 _ (HRC.out W hI.x) rfl _ Tryz.underlying23 rfl (by kernel_rfl) ?_
        exact hK.out _ _ ⟨_, _, _, _, _, _, rfl, hI.s2⟩
      · have hx2 := hI.p2 (hd 2 (by decide))
        subst hx2
        rw [if_pos (by rfl)]
        go_simp
        refine (HSZ2.out W).mono ?_
        rintro e W2 ⟨rfl, hb3⟩
        go_simp
        exact hK.out _ _ ⟨_, _, _, _, _, _, rfl, hI.s3 (hI.x.trans (hb3.mono hI.x.size))⟩
      · have hx1 := hI.p1 (hd 1 (by decide))
        subst hx1
        have hx3 := hI.p3 (hd 3 (by decide))
        subst hx3
        rw [if_pos (by rfl)]
        go_simp
        exact hK.out _ _ ⟨_, _, _, _, _, _, rfl, hI.s4⟩
      · have hx4 := hI.p4 (hd 4 (by decide))
        subst hx4
        rw [if_pos (by rfl)]
        go_simp
        exact hK.out _ _ ⟨_, _, _, _, _, _, rfl, hI.s5⟩
    · refine Sz4.ends ?_; intro x29 x30 x31 x32 x33 x12 L W hall hI
      have hx0 := hI.p0 (hall 0 (by decide))
      subst hx0
      have hx1 := hI.p1 (hall 1 (by decide))
      subst hx1
      have hx2 := hI.p2 (hall 2 (by decide))
      subst hx2
      have hx3 := hI.p3 (hall 3 (by decide))
      subst hx3
      have hx4 := hI.p4 (hall 4 (by decide))
      subst hx4
      have hx5 := hI.p5 (hall 5 (by decide))
      subst hx5
      have hXe := hI.x
      clear hI hall
      try dsimp only
      have b4 : Below w.heap.size w W := b3.trans (hXe.mono b3.size)
      clear hXe b3
      by_cases hn0 : (0 : Int) < (n : Int)
      all_goals
        go_wp2
        go_loopw [13] (fun iv wr => iv = .int .i64 0 ∧ Hid (Below w.heap.size w wr)) (fun _ _ => 0)
        case atStart => exact ⟨rfl, b4⟩
        case round =>
          obtain ⟨rfl, hbb⟩ := hrel
          go_wp2
          go_ret
          exact ⟨rfl, hbb.out⟩
  · go_wp2_with fail
    refine (HRL.out _ b2).mono ?_
    intro e w3 hp2
    obtain ⟨hb3, hp2⟩ := hp2
    obtain ⟨F, rfl, hF, hFm, hFb⟩ : ∃ F, e = .returned (.tuple #[.pointer (some ⟨F.g, 0, none⟩), .int .i64 0]) ∧ RAt w3 F s0 ∧ (F.mo = none → F.mcap = 0) ∧ ∀ B ∈ F.blocks, w2.heap.size ≤ B := by
      rcases hp2 with h | ⟨_, h⟩
      · exact absurd hok h.1
      · exact h
    have b3 : Below w.heap.size w w3 := b2.trans (hb3.mono b2.size)
    have HD : Hid (D14 w G F.g 0 w3 F s0) := by
      have hz2 := b2.size
      obtain ⟨k1, k2, k3⟩ := HOKG.out hok
      refine ⟨b3, ⟨⟨_, hG.keep fun B hB => hb3.block B (hG.blt B hB)⟩, hF, fun B hB hm => ?_, k1, hFm⟩, k2, rfl, by omega, ?_⟩
      · have := hG.blt B hB; have := hFb B hm; omega
      · rintro B (hB | hB)
        · have := hGb B hB; omega
        · have := hFb B hB; omega
    generalize hfg : F.g = fg at *
    have HRC : Hid (∀ W, Below w3.heap.size w3 W → W.rangeAt w.heap.size 0 [.int .i64 cells, .int .i64 slots, .int .i64 fuses, .int .i64 step, .int .i64 keys, .int .i64 erases, .int .i64 area]) := fun W hW j v hv => by
      have r3 := C2.out.below hb3 C2.out.lt
      have := (r3.below hW r3.lt).cell j v hv
      simpa using this
    clear a0 a1 a2 a3 a4 a5 a6 d0 d1 d2 hp2 hb3 b2 hF hFm hFb hG hGb HRL HOKG b3 hfg
    have eAS : (AS == AS) = true := by simp
    go_wp2_with fail
    refine wp_region_inv (ISz4 w3 cells slots fuses step keys erases area AS _ _ _ _ _ _ _ _ _ _ _ _ _ _ _ _ _ _ _ _ _ _ _ _ _ _ _ _ _ _ _ _ _ _ _ _ _ _ _ _ _ _ _ _ _ _ _ _ _ _ _ _ _ _ _ _ _ _ _ _ _ _ _ _ _ _ _ _ _ _ _ _ _ _ _ _ _ _ _ _ _ _ _ _ _ _ _ _ _ _ _ _ _ _) (by kernel_rfl) (by kernel_rfl) ⟨_, _, _, _, _, _, rfl, ⟨(Below.refl _ _).drew, fun k => (by cases k), fun k => (by cases k), fun k => (by cases k), fun k => (by cases k), fun k => (by cases k), fun k => (by cases k)⟩⟩ ?_ ?_
    · refine .cons ?_ (.cons ?_ (.cons ?_ (.cons ?_ (.cons ?_ (.cons ?_ .nil)))))
      all_goals (refine Sz4.step ?_; intro x29 x30 x31 x32 x33 x12 L W hI hL hd K hK)
      · refine step_load_rng rfl 23 _ rfl w.heap.size 0 _ (HRC.out W hI.x) rfl _ Tryz.underlying23 rfl (by kernel_rfl) ?_
        exact hK.out _ _ ⟨_, _, _, _, _, _, rfl, hI.s0⟩
      · have hx0 := hI.p0 (hd 0 (by decide))
        subst hx0
        rw [if_pos (by rfl)]
        go_simp
        refine (HSZ1.out W).mono ?_
        rintro e W2 ⟨rfl, hb3⟩
        go_simp
        exact hK.out _ _ ⟨_, _, _, _, _, _, rfl, hI.s1 (hI.x.trans (hb3.mono hI.x.size))⟩
      · refine step_load_rng rfl 23 _ rfl w.heap.size 0 _ (HRC.out W hI.x) rfl _ Tryz.underlying23 rfl (by kernel_rfl) ?_
        exact hK.out _ _ ⟨_, _, _, _, _, _, rfl, hI.s2⟩
      · have hx2 := hI.p2 (hd 2 (by decide))
        subst hx2
        rw [if_pos (by rfl)]
        go_simp
        refine (HSZ2.out W).mono ?_
        rintro e W2 ⟨rfl, hb3⟩
        go_simp
        exact hK.out _ _ ⟨_, _, _, _, _, _, rfl, hI.s3 (hI.x.trans (hb3.mono hI.x.size))⟩
      · have hx1 := hI.p1 (hd 1 (by decide))
        subst hx1
        have hx3 := hI.p3 (hd 3 (by decide))
        subst hx3
        rw [if_pos (by rfl)]
        go_simp
        exact hK.out _ _ ⟨_, _, _, _, _, _, rfl, hI.s4⟩
      · have hx4 := hI.p4 (hd 4 (by decide))
        subst hx4
        rw [if_pos (by rfl)]
        go_simp
        exact hK.out _ _ ⟨_, _, _, _, _, _, rfl, hI.s5⟩
    · refine Sz4.ends ?_; intro x29 x30 x31 x32 x33 x12 L W hall hI
      have hx0 := hI.p0 (hall 0 (by decide))
      subst hx0
      have hx1 := hI.p1 (hall 1 (by decide))
      subst hx1
      have hx2 := hI.p2 (hall 2 (by decide))
      subst hx2
      have hx3 := hI.p3 (hall 3 (by decide))
      subst hx3
      have hx4 := hI.p4 (hall 4 (by decide))
      subst hx4
      have hx5 := hI.p5 (hall 5 (by decide))
      subst hx5
      have hXe := hI.x
      clear hI hall
      try dsimp only
      have HD4 : Hid (D14 w G fg 0 W F s0) := HD.out.below hXe
      clear hXe HD
      go_wp2
      go_loopw [13] (fun iv wr => ∃ i : Nat, i ≤ n ∧ iv = .int .i64 i ∧ Hid (∃ F s, D14 w G fg i wr F s)) (fun iv _ => n - (intOf iv).toNat)
      case atStart => exact ⟨0, by omega, rfl, ⟨F, s0, HD4.out⟩⟩
      case round =>
        clear HD4
        obtain ⟨i, hi, rfl, hdd⟩ := hrel
        obtain ⟨F1, s1, hd1⟩ := hdd.out
        clear hdd
        by_cases hlt : i < n
        · have y1 : (i : Int) < (n : Int) := by omega
          have y0 : (0 : Int) ≤ (i : Int) := by omega
          obtain ⟨SB, off, rfl, hSB, k, a, nn, bo, len, cp, b, hbb, hrg, hbl, hlen, hcp, hnil, hib⟩ := HSO.out i hlt
          have hce : ∀ j v, (stepC k a nn bo len cp)[j]? = some v → wr.cell? ⟨SB, off + i * 4 + j, none⟩ = some v := fun j v hj => (World.cell?_of_block (hd1.bel.block SB hSB)).trans (hrg j v hj)
          have e0 := hce 0 _ rfl
          rw [Nat.add_zero] at e0
          have e1 := hce 1 _ rfl
          have e2 := hce 2 _ rfl
          have e3 := hce 3 _ rfl
          have HST : Hid (Calls Tryz.prog 9 #[.pointer (some ⟨G.g, 0, none⟩), .pointer (some ⟨fg, 0, none⟩), .agg #[.int .i64 k, .int .i64 a, .int .i64 nn, .slice bo len cp]] wr (StepPost14 G F1 s1 wr)) := by
            have h1 := hd1.n
            rw [← hd1.g]
            refine l14step_any A AW wr (HHG.out.below hd1.bel HHG.out.lt) G F1 s1 hd1.p hd1.ar (by omega) k a nn hbb bo len cp b hbl hlen hcp hnil (hib.below hd1.bel (Nat.le_refl _)) ?_
            by_cases hne : b = []
            · exact .inl hne
            rcases hib with h2 | ⟨B', off', e5, hc⟩
            · exact .inl h2
            · refine .inr fun B off e6 => ?_
              rw [e5] at e6; injection e6 with e6; injection e6 with e6; subst e6
              have hB : B' < w.heap.size := by
                cases b with
                | nil => exact absurd rfl hne
                | cons x r => exact World.block_lt_of_cell? _ _ (hc 0 x rfl)
              exact ⟨fun hm => by have := hd1.lo B' (.inl hm); omega, fun hm => by have := hd1.lo B' (.inr hm); omega⟩
          have HD1 : Hid (D14 w G fg i wr F1 s1) := hd1
          clear hd1 hce hrg
          go_wp2_with fail
          refine HST.out.mono ?_
          intro e wa hpost
          obtain ⟨F2, s2, hd2⟩ := HD1.out.next hpost
          obtain ⟨rfl, _⟩ := hpost
          obtain rfl := hd2.g
          have HD2 : Hid (D14 w G F2.g (i + 1) wa F2 s2) := hd2
          have HPW : Hid (∀ W, Below wa.heap.size wa W → PR W G F2 s2) := fun W hW => hd2.p.below hW (Nat.le_refl _)
          have HSTA : Hid (∀ W, Below wa.heap.size wa W → Calls Tryz.prog 11 #[.pointer (some ⟨G.g, 0, none⟩)] W (AgainPost s2.st W)) := fun W hW => by
            obtain ⟨S, c⟩ := (HPW.out W hW).c
            exact cstate_any G s2 S W c
          have HSS : Hid (∀ W N p e b ps, Below wa.heap.size wa W → OwnX W N s2.st p e b ps → Calls Tryz.prog 10 #[.agg #[.slice (some ⟨p, 0, none⟩) s2.pages.length s2.pages.length, .slice (some ⟨e, 0, none⟩) s2.erases.length s2.erases.length, .slice (some ⟨b, 0, none⟩) s2.blown.length s2.blown.length], .agg #[.slice (some ⟨F2.pB, 0, none⟩) s2.pages.length F2.pcap, .slice (some ⟨F2.eB, 0, none⟩) s2.erases.length F2.ecap, .slice (some ⟨F2.bB, 0, none⟩) s2.blown.length F2.bcap]] W fun e w' => e = .returned (.bool true) ∧ Below W.heap.size W w') := by
            intro W N p e b ps hW ho
            obtain ⟨S, hc⟩ := hd2.p.c
            obtain ⟨m1, m2, m3, m4⟩ := hc.small
            have h8 : ∀ p ∈ s2.st.pages, ∀ x ∈ p, x.length = 32 := hc.ok.by8
            have m5 : ∀ p ∈ s2.st.pages, p.length ≤ 4096 := fun p hp => by
              have h1 := hc.ok.cl p hp
              have h2 := hc.ok.c2
              omega
            have sz : s2.st.pages.length ≤ 140737488355328 ∧ s2.st.erases.length ≤ 140737488355328 ∧ s2.st.blown.length ≤ 140737488355328 ∧ ∀ p ∈ s2.st.pages, p.length ≤ 140737488355328 := ⟨by omega, by omega, by omega, fun p hp => by have := m5 p hp; omega⟩
            exact same_any ⟨some ⟨p, 0, none⟩, s2.st.pages.length, some ⟨e, 0, none⟩, s2.st.erases.length, some ⟨b, 0, none⟩, s2.st.blown.length⟩ ⟨some ⟨F2.pB, 0, none⟩, F2.pcap, some ⟨F2.eB, 0, none⟩, F2.ecap, some ⟨F2.bB, 0, none⟩, F2.bcap⟩ s2.st s2.st W (ho.view h8) (HPW.out W hW).r.view sz sz true ⟨fun _ => rfl, fun _ => rfl⟩
          clear hd2 HD1 HST e0 e1 e2 e3
          go_wp2
          refine wp_region_inv (IS14I wa G F2 s2 _ _ _ _ _ _ _ _ _ _ _ _ _ _ _ _ _ _ _ _ _ _ _ _ _ _ _ _ _ _ _ _ _ _ _ _ _ _ _ _ _ _ _ _ _ _ _ _ _ _ _ _ _ _ _ _ _ _ _ _ _ _ _ _ _ _ _ _ _ _ _ _ _ _ _ _ _ _ _ _ _ _ _ _ _ _ _ _ _ _ _ _) (by kernel_rfl) (by kernel_rfl) ⟨_, _, _, _, _, _, _, _, rfl, S14I.zero wa G F2 s2 _ _ _ _ _ _ _ _⟩ ?_ ?_
          · refine .cons ?_ (.cons ?_ (.cons ?_ (.cons ?_ (.cons ?_ (.cons ?_ (.cons ?_ (.cons ?_ .nil)))))))
            all_goals (rintro L a W ⟨x69, x70, x71, x72, x73, x74, x75, x15, rfl, hI⟩ hL hd K hK)
            · rw [if_pos (by rfl)]
              go_simp
              exact hK.out _ _ ⟨_, _, _, _, _, _, _, _, rfl, hI.s0⟩
            · have hx0 := hI.p0 (hd 0 (by decide))
              subst hx0
              rw [if_pos (by rfl)]
              go_simp
              refine (HSTA.out _ hI.bel).mono ?_
              rintro e3 w3 ⟨p, e, b, ps, rfl, ox, hb3⟩
              exact hK.out _ _ ⟨_, _, _, _, _, _, _, _, rfl, (hI.mono hb3).s1 (ox.base hI.bel.size)⟩
            · rw [if_pos (by rfl)]
              go_simp
              exact hK.out _ _ ⟨_, _, _, _, _, _, _, _, rfl, hI.s2⟩
            · have hx2 := hI.p2 (hd 2 (by decide))
              subst hx2
              rw [if_pos (by rfl)]
              go_simp
              exact hK.out _ _ ⟨_, _, _, _, _, _, _, _, rfl, hI.s3⟩
            · have hx3 := hI.p3 (hd 3 (by decide))
              subst hx3
              rw [if_pos (by rfl)]
              go_simp
              exact hK.out _ _ ⟨_, _, _, _, _, _, _, _, rfl, hI.s4⟩
            · have hx4 := hI.p4 (hd 4 (by decide))
              subst hx4
              have rr : RAt W F2 s2 := (HPW.out W hI.bel).r
              have c7 := rr.cPages
              have c8 := rr.cEr
              have c9 := rr.cBl
              rw [if_pos (by rfl)]
              go_simp
              exact hK.out _ _ ⟨_, _, _, _, _, _, _, _, rfl, hI.s5⟩
            · obtain ⟨p, e, b, ps, hx1, ox⟩ := hI.p1 (hd 1 (by decide))
              subst hx1
              have hx5 := hI.p5 (hd 5 (by decide))
              subst hx5
              rw [if_pos (by rfl)]
              go_simp
              refine (HSS.out _ _ _ _ _ _ hI.bel ox).mono ?_
              rintro e3 w3 ⟨rfl, hb3⟩
              exact hK.out _ _ ⟨_, _, _, _, _, _, _, _, rfl, (hI.mono hb3).s6⟩
            · have hx6 := hI.p6 (hd 6 (by decide))
              subst hx6
              rw [if_pos (by rfl)]
              go_simp
              exact hK.out _ _ ⟨_, _, _, _, _, _, _, _, rfl, hI.s7⟩
          · rintro L a W hall ⟨x69, x70, x71, x72, x73, x74, x75, x15, rfl, hI⟩
            have hx0 := hI.p0 (hall 0 (by decide))
            subst hx0
            obtain ⟨p, e, b, ps, hx1, _⟩ := hI.p1 (hall 1 (by decide))
            subst hx1
            have hx2 := hI.p2 (hall 2 (by decide))
            subst hx2
            have hx3 := hI.p3 (hall 3 (by decide))
            subst hx3
            have hx4 := hI.p4 (hall 4 (by decide))
            subst hx4
            have hx5 := hI.p5 (hall 5 (by decide))
            subst hx5
            have hx6 := hI.p6 (hall 6 (by decide))
            subst hx6
            have hx7 := hI.p7 (hall 7 (by decide))
            subst hx7
            have hkp := hI.bel
            clear hI hall
            try dsimp only
            have HDW : Hid (D14 w G F2.g (i + 1) W F2 s2) := HD2.out.below hkp
            have HAC : Hid (∀ n, Calls Tryz.prog 12 #[.pointer (some ⟨G.g, 0, none⟩)] (W.drewN n) fun e w' => e = .returned (.int .i64 s2.n) ∧ w' = W.drewN n) := fun n => by
              obtain ⟨S, c⟩ := HDW.out.p.c
              exact cacts_any G s2 S _ (c.keep fun _ _ => rfl)
            have HOU : Hid (∀ n, Calls Tryz.prog 13 #[.pointer (some ⟨G.g, 0, none⟩)] (W.drewN n) fun e w' => e = .returned (.bool s2.gone) ∧ w' = W.drewN n) := fun n => by
              obtain ⟨S, c⟩ := HDW.out.p.c
              exact cout_any G s2 S _ (c.keep fun _ _ => rfl)
            have c10 := HDW.out.p.r.cN
            have c11 := HDW.out.p.r.cGone
            clear HPW HSTA HSS hkp HD2
            have g1 : (s2.n != s2.n) = false := by simp
            have g2 : (s2.gone != s2.gone) = false := by simp
            go_wp2
            go_quiet (first | (go_at_call 12; exact Calls.quiet_of_same (HAC.out _)) | (go_at_call 13; exact Calls.quiet_of_same (HOU.out _)))
            go_wp2
            exact ⟨⟨i + 1, by omega, by simp, ⟨F2, s2, HDW.out.below (Below_dr (Below.refl _ _) ⟨nq, rfl⟩)⟩⟩, by simp [intOf]; omega⟩
        · have y1 : ¬ (i : Int) < (n : Int) := by omega
          have HB : Hid (Below w.heap.size w wr) := hd1.bel
          clear hd1
          go_wp2
          go_ret
          exact ⟨rfl, HB.out⟩
end Go.Proofs.YtcpdanjbnijoiaaGreatDoor
