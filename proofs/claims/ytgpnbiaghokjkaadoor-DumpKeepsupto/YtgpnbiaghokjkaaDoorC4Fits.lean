
import Derived.Test.YtgpnbiaghokjkaaDoorC4May
/-! The code's chip: fits. (Printed by tools/genfits.py.) -/
namespace Go.Proofs.YtgpnbiaghokjkaaDoor
open Go.RowKit
set_option linter.unusedVariables false

structure FiA (W1 : World) (sB : Nat) (v : SV) (np ne nb : Nat) (cells slots fuses step keys erases area PGC FUC : Int) (b3 : Bool) (L : Nat → Bool) (x7 x8 x9 x10 x11 x12 x13 x14 x15 x16 x17 x18 x19 x20 x21 x22 x23 x24 x25 x26 x27 x28 : Value) (W : World) : Prop where
  bel : KeptL [] W1 W
  p0 : L 0 = true → x7 = .pointer (some ⟨sB, 0, none⟩)
  p1 : L 1 = true → x8 = .slice v.po np v.pc
  p2 : L 2 = true → x9 = .int .i64 (np : Int)
  p3 : L 3 = true → x10 = .agg #[.int .i64 cells, .int .i64 slots, .int .i64 fuses, .int .i64 step, .int .i64 keys, .int .i64 erases, .int .i64 area]
  p4 : L 4 = true → x11 = .int .i64 PGC
  p5 : L 5 = true → x12 = .bool true
  p6 : L 6 = true → x13 = .bool true
  p7 : L 7 = true → x14 = undef
  p8 : L 8 = true → x15 = undef
  p9 : L 9 = true → x16 = undef
  p10 : L 10 = true → x17 = undef
  p11 : L 11 = true → x18 = undef
  p12 : L 12 = true → x19 = undef
  p13 : L 13 = true → x20 = .bool true
  p14 : L 14 = true → x21 = .bool true
  p15 : L 15 = true → x22 = undef
  p16 : L 16 = true → x23 = undef
  p17 : L 17 = true → x24 = undef
  p18 : L 18 = true → x25 = undef
  p19 : L 19 = true → x26 = undef
  p20 : L 20 = true → x27 = undef
  p21 : L 21 = true → x28 = .bool true
section
variable {W1 : World} {sB : Nat} {v : SV} {np ne nb : Nat} {cells slots fuses step keys erases area PGC FUC : Int} {b3 : Bool} {L : Nat → Bool} {x7 x8 x9 x10 x11 x12 x13 x14 x15 x16 x17 x18 x19 x20 x21 x22 x23 x24 x25 x26 x27 x28 : Value} {W W2 : World}
theorem FiA.zero (W1 : World) (sB : Nat) (v : SV) (np ne nb : Nat) (cells slots fuses step keys erases area PGC FUC : Int) (b3 : Bool) (x7 x8 x9 x10 x11 x12 x13 x14 x15 x16 x17 x18 x19 x20 x21 x22 x23 x24 x25 x26 x27 x28 : Value) : FiA W1 sB v np ne nb cells slots fuses step keys erases area PGC FUC b3 (fun _ => false) x7 x8 x9 x10 x11 x12 x13 x14 x15 x16 x17 x18 x19 x20 x21 x22 x23 x24 x25 x26 x27 x28  W1.drew :=
  ⟨(KeptL.refl _ _).dr ⟨1, rfl⟩, fun k => (by cases k), fun k => (by cases k), fun k => (by cases k), fun k => (by cases k), fun k => (by cases k), fun k => (by cases k), fun k => (by cases k), fun k => (by cases k), fun k => (by cases k), fun k => (by cases k), fun k => (by cases k), fun k => (by cases k), fun k => (by cases k), fun k => (by cases k), fun k => (by cases k), fun k => (by cases k), fun k => (by cases k), fun k => (by cases k), fun k => (by cases k), fun k => (by cases k), fun k => (by cases k), fun k => (by cases k)⟩
theorem FiA.mono (h : FiA W1 sB v np ne nb cells slots fuses step keys erases area PGC FUC b3 L x7 x8 x9 x10 x11 x12 x13 x14 x15 x16 x17 x18 x19 x20 x21 x22 x23 x24 x25 x26 x27 x28  W) (hb : Below W.heap.size W W2) : FiA W1 sB v np ne nb cells slots fuses step keys erases area PGC FUC b3 L x7 x8 x9 x10 x11 x12 x13 x14 x15 x16 x17 x18 x19 x20 x21 x22 x23 x24 x25 x26 x27 x28  W2 :=
  ⟨h.bel.below hb h.bel.size, h.p0, h.p1, h.p2, h.p3, h.p4, h.p5, h.p6, h.p7, h.p8, h.p9, h.p10, h.p11, h.p12, h.p13, h.p14, h.p15, h.p16, h.p17, h.p18, h.p19, h.p20, h.p21⟩
theorem FiA.s4 (h : FiA W1 sB v np ne nb cells slots fuses step keys erases area PGC FUC b3 L x7 x8 x9 x10 x11 x12 x13 x14 x15 x16 x17 x18 x19 x20 x21 x22 x23 x24 x25 x26 x27 x28  W) : FiA W1 sB v np ne nb cells slots fuses step keys erases area PGC FUC b3 (upd L 4) x7 x8 x9 x10 (.int .i64 PGC) x12 x13 x14 x15 x16 x17 x18 x19 x20 x21 x22 x23 x24 x25 x26 x27 x28  W :=
  ⟨h.bel, h.p0, h.p1, h.p2, h.p3, fun _ => rfl, h.p5, h.p6, h.p7, h.p8, h.p9, h.p10, h.p11, h.p12, h.p13, h.p14, h.p15, h.p16, h.p17, h.p18, h.p19, h.p20, h.p21⟩
end
@[reducible] def IFiA (W1 : World) (sB : Nat) (v : SV) (np ne nb : Nat) (cells slots fuses step keys erases area PGC FUC : Int) (b3 : Bool) (y0 y1 y2 y3 y4 y5 y6 y29 y30 y31 y32 y33 y34 y35 y36 y37 y38 y39 y40 y41 y42 y43 y44 y45 y46 y47 y48 y49 y50 : Value) : (Nat → Bool) → Act → World → Prop := fun L a W => ∃ x7 x8 x9 x10 x11 x12 x13 x14 x15 x16 x17 x18 x19 x20 x21 x22 x23 x24 x25 x26 x27 x28, a = ⟨#[y0, y1, y2, y3, y4, y5, y6, x7, x8, x9, x10, x11, x12, x13, x14, x15, x16, x17, x18, x19, x20, x21, x22, x23, x24, x25, x26, x27, x28, y29, y30, y31, y32, y33, y34, y35, y36, y37, y38, y39, y40, y41, y42, y43, y44, y45, y46, y47, y48, y49, y50], []⟩ ∧ FiA W1 sB v np ne nb cells slots fuses step keys erases area PGC FUC b3 L x7 x8 x9 x10 x11 x12 x13 x14 x15 x16 x17 x18 x19 x20 x21 x22 x23 x24 x25 x26 x27 x28  W
structure FiB (W1 : World) (sB : Nat) (v : SV) (np ne nb : Nat) (cells slots fuses step keys erases area PGC FUC : Int) (b3 : Bool) (L : Nat → Bool) (x7 x8 x9 x10 x11 x12 x13 x14 x15 x16 x17 x18 x19 x20 x21 x22 x23 x24 x25 x26 x27 x28 : Value) (W : World) : Prop where
  bel : KeptL [] W1 W
  p0 : L 0 = true → x7 = .pointer (some ⟨sB, 0, none⟩)
  p1 : L 1 = true → x8 = .slice v.po np v.pc
  p2 : L 2 = true → x9 = .int .i64 (np : Int)
  p3 : L 3 = true → x10 = .agg #[.int .i64 cells, .int .i64 slots, .int .i64 fuses, .int .i64 step, .int .i64 keys, .int .i64 erases, .int .i64 area]
  p4 : L 4 = true → x11 = .int .i64 PGC
  p5 : L 5 = true → x12 = .bool false
  p6 : L 6 = true → x13 = .bool false
  p7 : L 7 = true → x14 = .pointer (some ⟨sB, 1, none⟩)
  p8 : L 8 = true → x15 = .slice v.eo ne v.ec
  p9 : L 9 = true → x16 = .int .i64 (ne : Int)
  p10 : L 10 = true → x17 = .agg #[.int .i64 cells, .int .i64 slots, .int .i64 fuses, .int .i64 step, .int .i64 keys, .int .i64 erases, .int .i64 area]
  p11 : L 11 = true → x18 = .int .i64 PGC
  p12 : L 12 = true → x19 = .bool true
  p13 : L 13 = true → x20 = .bool true
  p14 : L 14 = true → x21 = .bool true
  p15 : L 15 = true → x22 = undef
  p16 : L 16 = true → x23 = undef
  p17 : L 17 = true → x24 = undef
  p18 : L 18 = true → x25 = undef
  p19 : L 19 = true → x26 = undef
  p20 : L 20 = true → x27 = undef
  p21 : L 21 = true → x28 = .bool true
section
variable {W1 : World} {sB : Nat} {v : SV} {np ne nb : Nat} {cells slots fuses step keys erases area PGC FUC : Int} {b3 : Bool} {L : Nat → Bool} {x7 x8 x9 x10 x11 x12 x13 x14 x15 x16 x17 x18 x19 x20 x21 x22 x23 x24 x25 x26 x27 x28 : Value} {W W2 : World}
theorem FiB.zero (W1 : World) (sB : Nat) (v : SV) (np ne nb : Nat) (cells slots fuses step keys erases area PGC FUC : Int) (b3 : Bool) (x7 x8 x9 x10 x11 x12 x13 x14 x15 x16 x17 x18 x19 x20 x21 x22 x23 x24 x25 x26 x27 x28 : Value) : FiB W1 sB v np ne nb cells slots fuses step keys erases area PGC FUC b3 (fun _ => false) x7 x8 x9 x10 x11 x12 x13 x14 x15 x16 x17 x18 x19 x20 x21 x22 x23 x24 x25 x26 x27 x28  W1.drew :=
  ⟨(KeptL.refl _ _).dr ⟨1, rfl⟩, fun k => (by cases k), fun k => (by cases k), fun k => (by cases k), fun k => (by cases k), fun k => (by cases k), fun k => (by cases k), fun k => (by cases k), fun k => (by cases k), fun k => (by cases k), fun k => (by cases k), fun k => (by cases k), fun k => (by cases k), fun k => (by cases k), fun k => (by cases k), fun k => (by cases k), fun k => (by cases k), fun k => (by cases k), fun k => (by cases k), fun k => (by cases k), fun k => (by cases k), fun k => (by cases k), fun k => (by cases k)⟩
theorem FiB.mono (h : FiB W1 sB v np ne nb cells slots fuses step keys erases area PGC FUC b3 L x7 x8 x9 x10 x11 x12 x13 x14 x15 x16 x17 x18 x19 x20 x21 x22 x23 x24 x25 x26 x27 x28  W) (hb : Below W.heap.size W W2) : FiB W1 sB v np ne nb cells slots fuses step keys erases area PGC FUC b3 L x7 x8 x9 x10 x11 x12 x13 x14 x15 x16 x17 x18 x19 x20 x21 x22 x23 x24 x25 x26 x27 x28  W2 :=
  ⟨h.bel.below hb h.bel.size, h.p0, h.p1, h.p2, h.p3, h.p4, h.p5, h.p6, h.p7, h.p8, h.p9, h.p10, h.p11, h.p12, h.p13, h.p14, h.p15, h.p16, h.p17, h.p18, h.p19, h.p20, h.p21⟩
theorem FiB.s4 (h : FiB W1 sB v np ne nb cells slots fuses step keys erases area PGC FUC b3 L x7 x8 x9 x10 x11 x12 x13 x14 x15 x16 x17 x18 x19 x20 x21 x22 x23 x24 x25 x26 x27 x28  W) : FiB W1 sB v np ne nb cells slots fuses step keys erases area PGC FUC b3 (upd L 4) x7 x8 x9 x10 (.int .i64 PGC) x12 x13 x14 x15 x16 x17 x18 x19 x20 x21 x22 x23 x24 x25 x26 x27 x28  W :=
  ⟨h.bel, h.p0, h.p1, h.p2, h.p3, fun _ => rfl, h.p5, h.p6, h.p7, h.p8, h.p9, h.p10, h.p11, h.p12, h.p13, h.p14, h.p15, h.p16, h.p17, h.p18, h.p19, h.p20, h.p21⟩
theorem FiB.s11 (h : FiB W1 sB v np ne nb cells slots fuses step keys erases area PGC FUC b3 L x7 x8 x9 x10 x11 x12 x13 x14 x15 x16 x17 x18 x19 x20 x21 x22 x23 x24 x25 x26 x27 x28  W) : FiB W1 sB v np ne nb cells slots fuses step keys erases area PGC FUC b3 (upd L 11) x7 x8 x9 x10 x11 x12 x13 x14 x15 x16 x17 (.int .i64 PGC) x19 x20 x21 x22 x23 x24 x25 x26 x27 x28  W :=
  ⟨h.bel, h.p0, h.p1, h.p2, h.p3, h.p4, h.p5, h.p6, h.p7, h.p8, h.p9, h.p10, fun _ => rfl, h.p12, h.p13, h.p14, h.p15, h.p16, h.p17, h.p18, h.p19, h.p20, h.p21⟩
end
@[reducible] def IFiB (W1 : World) (sB : Nat) (v : SV) (np ne nb : Nat) (cells slots fuses step keys erases area PGC FUC : Int) (b3 : Bool) (y0 y1 y2 y3 y4 y5 y6 y29 y30 y31 y32 y33 y34 y35 y36 y37 y38 y39 y40 y41 y42 y43 y44 y45 y46 y47 y48 y49 y50 : Value) : (Nat → Bool) → Act → World → Prop := fun L a W => ∃ x7 x8 x9 x10 x11 x12 x13 x14 x15 x16 x17 x18 x19 x20 x21 x22 x23 x24 x25 x26 x27 x28, a = ⟨#[y0, y1, y2, y3, y4, y5, y6, x7, x8, x9, x10, x11, x12, x13, x14, x15, x16, x17, x18, x19, x20, x21, x22, x23, x24, x25, x26, x27, x28, y29, y30, y31, y32, y33, y34, y35, y36, y37, y38, y39, y40, y41, y42, y43, y44, y45, y46, y47, y48, y49, y50], []⟩ ∧ FiB W1 sB v np ne nb cells slots fuses step keys erases area PGC FUC b3 L x7 x8 x9 x10 x11 x12 x13 x14 x15 x16 x17 x18 x19 x20 x21 x22 x23 x24 x25 x26 x27 x28  W
structure FiC (W1 : World) (sB : Nat) (v : SV) (np ne nb : Nat) (cells slots fuses step keys erases area PGC FUC : Int) (b3 : Bool) (L : Nat → Bool) (x7 x8 x9 x10 x11 x12 x13 x14 x15 x16 x17 x18 x19 x20 x21 x22 x23 x24 x25 x26 x27 x28 : Value) (W : World) : Prop where
  bel : KeptL [] W1 W
  p0 : L 0 = true → x7 = .pointer (some ⟨sB, 0, none⟩)
  p1 : L 1 = true → x8 = .slice v.po np v.pc
  p2 : L 2 = true → x9 = .int .i64 (np : Int)
  p3 : L 3 = true → x10 = .agg #[.int .i64 cells, .int .i64 slots, .int .i64 fuses, .int .i64 step, .int .i64 keys, .int .i64 erases, .int .i64 area]
  p4 : L 4 = true → x11 = .int .i64 PGC
  p5 : L 5 = true → x12 = .bool false
  p6 : L 6 = true → x13 = .bool false
  p7 : L 7 = true → x14 = .pointer (some ⟨sB, 1, none⟩)
  p8 : L 8 = true → x15 = .slice v.eo ne v.ec
  p9 : L 9 = true → x16 = .int .i64 (ne : Int)
  p10 : L 10 = true → x17 = .agg #[.int .i64 cells, .int .i64 slots, .int .i64 fuses, .int .i64 step, .int .i64 keys, .int .i64 erases, .int .i64 area]
  p11 : L 11 = true → x18 = .int .i64 PGC
  p12 : L 12 = true → x19 = .bool false
  p13 : L 13 = true → x20 = .bool false
  p14 : L 14 = true → x21 = .bool false
  p15 : L 15 = true → x22 = .pointer (some ⟨sB, 2, none⟩)
  p16 : L 16 = true → x23 = .slice v.bo nb v.bc
  p17 : L 17 = true → x24 = .int .i64 (nb : Int)
  p18 : L 18 = true → x25 = .agg #[.int .i64 cells, .int .i64 slots, .int .i64 fuses, .int .i64 step, .int .i64 keys, .int .i64 erases, .int .i64 area]
  p19 : L 19 = true → x26 = .int .i64 FUC
  p20 : L 20 = true → x27 = .bool b3
  p21 : L 21 = true → x28 = .bool b3
section
variable {W1 : World} {sB : Nat} {v : SV} {np ne nb : Nat} {cells slots fuses step keys erases area PGC FUC : Int} {b3 : Bool} {L : Nat → Bool} {x7 x8 x9 x10 x11 x12 x13 x14 x15 x16 x17 x18 x19 x20 x21 x22 x23 x24 x25 x26 x27 x28 : Value} {W W2 : World}
theorem FiC.zero (W1 : World) (sB : Nat) (v : SV) (np ne nb : Nat) (cells slots fuses step keys erases area PGC FUC : Int) (b3 : Bool) (x7 x8 x9 x10 x11 x12 x13 x14 x15 x16 x17 x18 x19 x20 x21 x22 x23 x24 x25 x26 x27 x28 : Value) : FiC W1 sB v np ne nb cells slots fuses step keys erases area PGC FUC b3 (fun _ => false) x7 x8 x9 x10 x11 x12 x13 x14 x15 x16 x17 x18 x19 x20 x21 x22 x23 x24 x25 x26 x27 x28  W1.drew :=
  ⟨(KeptL.refl _ _).dr ⟨1, rfl⟩, fun k => (by cases k), fun k => (by cases k), fun k => (by cases k), fun k => (by cases k), fun k => (by cases k), fun k => (by cases k), fun k => (by cases k), fun k => (by cases k), fun k => (by cases k), fun k => (by cases k), fun k => (by cases k), fun k => (by cases k), fun k => (by cases k), fun k => (by cases k), fun k => (by cases k), fun k => (by cases k), fun k => (by cases k), fun k => (by cases k), fun k => (by cases k), fun k => (by cases k), fun k => (by cases k), fun k => (by cases k)⟩
theorem FiC.mono (h : FiC W1 sB v np ne nb cells slots fuses step keys erases area PGC FUC b3 L x7 x8 x9 x10 x11 x12 x13 x14 x15 x16 x17 x18 x19 x20 x21 x22 x23 x24 x25 x26 x27 x28  W) (hb : Below W.heap.size W W2) : FiC W1 sB v np ne nb cells slots fuses step keys erases area PGC FUC b3 L x7 x8 x9 x10 x11 x12 x13 x14 x15 x16 x17 x18 x19 x20 x21 x22 x23 x24 x25 x26 x27 x28  W2 :=
  ⟨h.bel.below hb h.bel.size, h.p0, h.p1, h.p2, h.p3, h.p4, h.p5, h.p6, h.p7, h.p8, h.p9, h.p10, h.p11, h.p12, h.p13, h.p14, h.p15, h.p16, h.p17, h.p18, h.p19, h.p20, h.p21⟩
theorem FiC.s4 (h : FiC W1 sB v np ne nb cells slots fuses step keys erases area PGC FUC b3 L x7 x8 x9 x10 x11 x12 x13 x14 x15 x16 x17 x18 x19 x20 x21 x22 x23 x24 x25 x26 x27 x28  W) : FiC W1 sB v np ne nb cells slots fuses step keys erases area PGC FUC b3 (upd L 4) x7 x8 x9 x10 (.int .i64 PGC) x12 x13 x14 x15 x16 x17 x18 x19 x20 x21 x22 x23 x24 x25 x26 x27 x28  W :=
  ⟨h.bel, h.p0, h.p1, h.p2, h.p3, fun _ => rfl, h.p5, h.p6, h.p7, h.p8, h.p9, h.p10, h.p11, h.p12, h.p13, h.p14, h.p15, h.p16, h.p17, h.p18, h.p19, h.p20, h.p21⟩
theorem FiC.s11 (h : FiC W1 sB v np ne nb cells slots fuses step keys erases area PGC FUC b3 L x7 x8 x9 x10 x11 x12 x13 x14 x15 x16 x17 x18 x19 x20 x21 x22 x23 x24 x25 x26 x27 x28  W) : FiC W1 sB v np ne nb cells slots fuses step keys erases area PGC FUC b3 (upd L 11) x7 x8 x9 x10 x11 x12 x13 x14 x15 x16 x17 (.int .i64 PGC) x19 x20 x21 x22 x23 x24 x25 x26 x27 x28  W :=
  ⟨h.bel, h.p0, h.p1, h.p2, h.p3, h.p4, h.p5, h.p6, h.p7, h.p8, h.p9, h.p10, fun _ => rfl, h.p12, h.p13, h.p14, h.p15, h.p16, h.p17, h.p18, h.p19, h.p20, h.p21⟩
theorem FiC.s19 (h : FiC W1 sB v np ne nb cells slots fuses step keys erases area PGC FUC b3 L x7 x8 x9 x10 x11 x12 x13 x14 x15 x16 x17 x18 x19 x20 x21 x22 x23 x24 x25 x26 x27 x28  W) : FiC W1 sB v np ne nb cells slots fuses step keys erases area PGC FUC b3 (upd L 19) x7 x8 x9 x10 x11 x12 x13 x14 x15 x16 x17 x18 x19 x20 x21 x22 x23 x24 x25 (.int .i64 FUC) x27 x28  W :=
  ⟨h.bel, h.p0, h.p1, h.p2, h.p3, h.p4, h.p5, h.p6, h.p7, h.p8, h.p9, h.p10, h.p11, h.p12, h.p13, h.p14, h.p15, h.p16, h.p17, h.p18, fun _ => rfl, h.p20, h.p21⟩
end
@[reducible] def IFiC (W1 : World) (sB : Nat) (v : SV) (np ne nb : Nat) (cells slots fuses step keys erases area PGC FUC : Int) (b3 : Bool) (y0 y1 y2 y3 y4 y5 y6 y29 y30 y31 y32 y33 y34 y35 y36 y37 y38 y39 y40 y41 y42 y43 y44 y45 y46 y47 y48 y49 y50 : Value) : (Nat → Bool) → Act → World → Prop := fun L a W => ∃ x7 x8 x9 x10 x11 x12 x13 x14 x15 x16 x17 x18 x19 x20 x21 x22 x23 x24 x25 x26 x27 x28, a = ⟨#[y0, y1, y2, y3, y4, y5, y6, x7, x8, x9, x10, x11, x12, x13, x14, x15, x16, x17, x18, x19, x20, x21, x22, x23, x24, x25, x26, x27, x28, y29, y30, y31, y32, y33, y34, y35, y36, y37, y38, y39, y40, y41, y42, y43, y44, y45, y46, y47, y48, y49, y50], []⟩ ∧ FiC W1 sB v np ne nb cells slots fuses step keys erases area PGC FUC b3 L x7 x8 x9 x10 x11 x12 x13 x14 x15 x16 x17 x18 x19 x20 x21 x22 x23 x24 x25 x26 x27 x28  W

theorem may_facts {c : Cfg} (hc : c.may = 0) : (1 ≤ c.slots ∧ c.slots ≤ 8) ∧ (c.slots + 3 ≤ c.cells ∧ c.cells ≤ 256) ∧ (1 ≤ c.fuses ∧ c.fuses ≤ 64) ∧ (1 ≤ c.keys ∧ c.keys ≤ 64) ∧ (0 ≤ c.area ∧ c.area ≤ 64) ∧ (1 ≤ c.slots * c.fuses ∧ c.slots * c.fuses ≤ 512) ∧ (0 ≤ c.erases ∧ c.erases ≤ 65536) := by
  unfold Cfg.may at hc
  split at hc
  · rename_i hh
    simp [Cfg.a, Cfg.b] at hh
    obtain ⟨⟨⟨s1, s2⟩, ⟨q1, q2⟩, ⟨f1, f2⟩, st⟩, ⟨k1, k2⟩, ⟨e1, e2⟩, ar1, ar2⟩ := hh
    have m1 : 1 ≤ c.slots * c.fuses := by have := Int.mul_le_mul s1 f1 (by omega) (by omega); omega
    have m2 : c.slots * c.fuses ≤ 512 := by have := Int.mul_le_mul s2 f2 (by omega) (by omega); omega
    exact ⟨⟨s1, s2⟩, ⟨q1, q2⟩, ⟨f1, f2⟩, ⟨k1, k2⟩, ⟨ar1, ar2⟩, ⟨m1, m2⟩, e1, e2⟩
  · omega

set_option maxHeartbeats 4000000 in
set_option maxRecDepth 100000 in
theorem cfits_any (c : Cfg) (v : SV) (t : St) (w : World) (h : StV w v t) (hc : c.may = 0) (l1 : t.pages.length ≤ 140737488355328) (l2 : t.erases.length ≤ 140737488355328) (l3 : t.blown.length ≤ 140737488355328) (hpl : ∀ p ∈ t.pages, p.length ≤ 140737488355328) (r : Bool) (hr : r = true ↔ Fit c t) :
    Calls Tryd.prog 35 #[.agg c.vals.toArray, .agg (v.vals t).toArray] w fun e w' => e = .returned (.bool r) ∧ Below w.heap.size w w' := by
  have HRF : Hid (¬ Fit c t → r = false) := fun hh => by cases hrr : r with | false => rfl | true => exact absurd (hr.1 hrr) hh
  have HRT : Hid (Fit c t → r = true) := fun hh => hr.2 hh
  obtain ⟨⟨s1, s2⟩, ⟨q1, q2⟩, ⟨f1, f2⟩, ⟨k1, k2⟩, ⟨ar1, ar2⟩, hmul, _⟩ := may_facts hc
  clear hr hc
  obtain ⟨cells, slots, fuses, step, keys, erases, area⟩ := c
  simp only [Cfg.vals, SV.vals] at *
  obtain ⟨PGC, hPGC⟩ : ∃ x : Int, x = 2 + 2 * area := ⟨_, rfl⟩
  obtain ⟨FUC, hFUC⟩ : ∃ x : Int, x = slots * fuses + keys := ⟨_, rfl⟩
  have HPG : Hid (∀ W, Calls Tryd.prog 51 #[.agg #[.int .i64 cells, .int .i64 slots, .int .i64 fuses, .int .i64 step, .int .i64 keys, .int .i64 erases, .int .i64 area]] W fun e w' => e = .returned (.int .i64 PGC) ∧ Below W.heap.size W w') := fun W => by rw [hPGC]; exact cpages_any cells slots fuses step keys erases area ar1 ar2 W
  have HFU : Hid (∀ W, Calls Tryd.prog 52 #[.agg #[.int .i64 cells, .int .i64 slots, .int .i64 fuses, .int .i64 step, .int .i64 keys, .int .i64 erases, .int .i64 area]] W fun e w' => e = .returned (.int .i64 FUC) ∧ Below W.heap.size W w') := fun W => by rw [hFUC]; exact cfuses_any cells slots fuses step keys erases area hmul k1 k2 W
  have HFIT : Hid (Fit ⟨cells, slots, fuses, step, keys, erases, area⟩ t ↔ ((t.pages.length : Int) = PGC ∧ (t.erases.length : Int) = PGC ∧ (t.blown.length : Int) = FUC ∧ ∀ p, p < t.pages.length → ((t.pages.getD p []).length : Int) = cells ∧ 0 ≤ t.erases.getD p 0)) := by rw [hPGC, hFUC]; exact Iff.rfl
  have hV : Hid (StV w v t) := h
  have HPLE : Hid (∀ p, p < t.pages.length → (t.pages.getD p []).length ≤ 140737488355328) := fun p hp => by
    refine hpl _ ?_
    rw [List.getD_eq_getElem?_getD, List.getElem?_eq_getElem hp]; exact List.getElem_mem hp
  obtain ⟨np, hnp⟩ : ∃ n, n = t.pages.length := ⟨_, rfl⟩
  obtain ⟨ne, hne⟩ : ∃ n, n = t.erases.length := ⟨_, rfl⟩
  obtain ⟨nb, hnb⟩ : ∃ n, n = t.blown.length := ⟨_, rfl⟩
  rw [← hnp] at l1 HFIT HPLE
  rw [← hne] at l2 HFIT
  rw [← hnb] at l3 HFIT
  rw [← hnp, ← hne, ← hnb]
  have HNP : Hid (np = t.pages.length) := hnp
  have HNE : Hid (ne = t.erases.length) := hne
  obtain ⟨W1, hW1⟩ : ∃ W1, W1 = (w.alloc (.cells #[.int .i64 cells, .int .i64 slots, .int .i64 fuses, .int .i64 step, .int .i64 keys, .int .i64 erases, .int .i64 area] 24)).alloc (.cells #[.slice v.po np v.pc, .slice v.eo ne v.ec, .slice v.bo nb v.bc] 29) := ⟨_, rfl⟩
  have HRC : Hid (Row W1 w.heap.size 24 [.int .i64 cells, .int .i64 slots, .int .i64 fuses, .int .i64 step, .int .i64 keys, .int .i64 erases, .int .i64 area]) := by rw [hW1]; exact (Row.at _ _ _ _ _ rfl rfl : Row (w.alloc _) _ _ _).alloc _
  have HRS : Hid (Row W1 (w.heap.size + 1) 29 [.slice v.po np v.pc, .slice v.eo ne v.ec, .slice v.bo nb v.bc]) := by rw [hW1]; exact Row.at _ _ _ _ _ (by simp) rfl
  have HB1 : Hid (Below w.heap.size w W1) := by rw [hW1]; exact ((Below.refl _ _).alloc (Nat.le_refl _) _).alloc (by simp) _
  obtain ⟨b3, hb3'⟩ : ∃ b, ((nb : Int) != FUC) = b := ⟨_, rfl⟩
  clear h hnp hne hnb hPGC hFUC hpl hmul s1 s2 q1 q2 f1 f2 k1 k2 ar1 ar2
  by_cases h1 : (np : Int) = PGC
  · have g1 : ((np : Int) != PGC) = false := by simp [h1]
    by_cases h2 : (ne : Int) = PGC
    · have g2 : ((ne : Int) != PGC) = false := by simp [h2]
      have H12 : Hid ((np : Int) = PGC ∧ (ne : Int) = PGC) := ⟨h1, h2⟩
      have HB3 : Hid (((nb : Int) != FUC) = b3) := hb3'
      have HNN : Hid (ne = np) := by show _ = _; omega
      clear h1 h2
      go_enter Tryd.func35, Tryd.ntmps35
      go_wp2
      rw [← hW1]
      clear hW1
      refine wp_region_inv (IFiC W1 (w.heap.size + 1) v np ne nb cells slots fuses step keys erases area PGC FUC b3 _ _ _ _ _ _ _ _ _ _ _ _ _ _ _ _ _ _ _ _ _ _ _ _ _ _ _ _ _) (by kernel_rfl) (by kernel_rfl) ⟨_, _, _, _, _, _, _, _, _, _, _, _, _, _, _, _, _, _, _, _, _, _, rfl, FiC.zero W1 (w.heap.size + 1) v np ne nb cells slots fuses step keys erases area PGC FUC b3 _ _ _ _ _ _ _ _ _ _ _ _ _ _ _ _ _ _ _ _ _ _⟩ ?_ ?_
      · refine .cons ?_ (.cons ?_ (.cons ?_ (.cons ?_ (.cons ?_ (.cons ?_ (.cons ?_ (.cons ?_ (.cons ?_ (.cons ?_ (.cons ?_ (.cons ?_ (.cons ?_ (.cons ?_ (.cons ?_ (.cons ?_ (.cons ?_ (.cons ?_ (.cons ?_ (.cons ?_ (.cons ?_ (.cons ?_ .nil)))))))))))))))))))))
        all_goals (rintro L a W ⟨x7, x8, x9, x10, x11, x12, x13, x14, x15, x16, x17, x18, x19, x20, x21, x22, x23, x24, x25, x26, x27, x28, rfl, hI⟩ hL hd K hK)
        · rw [if_pos (by rfl)]
          go_simp
          exact hK.out _ _ ⟨_, _, _, _, _, _, _, _, _, _, _, _, _, _, _, _, _, _, _, _, _, _, rfl, { hI with p0 := fun _ => rfl }⟩
        · obtain rfl := hI.p0 (hd 0 (by decide))
          have rs : Row W (w.heap.size + 1) 29 _ := (hI.bel.block _ HRS.out.lt (by simp)).trans HRS.out
          have c0 := rs.cell 0 _ rfl
          have c1 := rs.cell 1 _ rfl
          have c2 := rs.cell 2 _ rfl
          rw [if_pos (by rfl)]
          go_simp
          exact hK.out _ _ ⟨_, _, _, _, _, _, _, _, _, _, _, _, _, _, _, _, _, _, _, _, _, _, rfl, { hI with p1 := fun _ => rfl }⟩
        · obtain rfl := hI.p1 (hd 1 (by decide))
          rw [if_pos (by rfl)]
          go_simp
          exact hK.out _ _ ⟨_, _, _, _, _, _, _, _, _, _, _, _, _, _, _, _, _, _, _, _, _, _, rfl, { hI with p2 := fun _ => rfl }⟩
        · have rc : Row W w.heap.size 24 _ := (hI.bel.block _ HRC.out.lt (by simp)).trans HRC.out
          have c0 := rc.cell 0 _ rfl
          have c1 := rc.cell 1 _ rfl
          have c2 := rc.cell 2 _ rfl
          have c3 := rc.cell 3 _ rfl
          have c4 := rc.cell 4 _ rfl
          have c5 := rc.cell 5 _ rfl
          have c6 := rc.cell 6 _ rfl
          rw [if_pos (by rfl)]
          go_simp
          exact hK.out _ _ ⟨_, _, _, _, _, _, _, _, _, _, _, _, _, _, _, _, _, _, _, _, _, _, rfl, { hI with p3 := fun _ => rfl }⟩
        · obtain rfl := hI.p3 (hd 3 (by decide))
          rw [if_pos (by rfl)]
          go_simp
          refine (HPG.out _).mono ?_
          rintro e w3 ⟨rfl, hb3⟩
          exact hK.out _ _ ⟨_, _, _, _, _, _, _, _, _, _, _, _, _, _, _, _, _, _, _, _, _, _, rfl, (hI.mono hb3).s4⟩
        · obtain rfl := hI.p2 (hd 2 (by decide))
          obtain rfl := hI.p4 (hd 4 (by decide))
          rw [if_pos (by rfl)]
          go_simp
          exact hK.out _ _ ⟨_, _, _, _, _, _, _, _, _, _, _, _, _, _, _, _, _, _, _, _, _, _, rfl, { hI with p5 := fun _ => rfl }⟩
        · obtain rfl := hI.p5 (hd 5 (by decide))
          rw [if_pos (by rfl)]
          go_simp
          exact hK.out _ _ ⟨_, _, _, _, _, _, _, _, _, _, _, _, _, _, _, _, _, _, _, _, _, _, rfl, { hI with p6 := fun _ => rfl }⟩
        · obtain rfl := hI.p6 (hd 6 (by decide))
          rw [if_pos (by rfl)]
          go_simp
          exact hK.out _ _ ⟨_, _, _, _, _, _, _, _, _, _, _, _, _, _, _, _, _, _, _, _, _, _, rfl, { hI with p7 := fun _ => rfl }⟩
        · obtain rfl := hI.p7 (hd 7 (by decide))
          obtain rfl := hI.p6 (hd 6 (by decide))
          have rs : Row W (w.heap.size + 1) 29 _ := (hI.bel.block _ HRS.out.lt (by simp)).trans HRS.out
          have c0 := rs.cell 0 _ rfl
          have c1 := rs.cell 1 _ rfl
          have c2 := rs.cell 2 _ rfl
          rw [if_pos (by rfl)]
          go_simp
          exact hK.out _ _ ⟨_, _, _, _, _, _, _, _, _, _, _, _, _, _, _, _, _, _, _, _, _, _, rfl, { hI with p8 := fun _ => rfl }⟩
        · obtain rfl := hI.p8 (hd 8 (by decide))
          obtain rfl := hI.p6 (hd 6 (by decide))
          rw [if_pos (by rfl)]
          go_simp
          exact hK.out _ _ ⟨_, _, _, _, _, _, _, _, _, _, _, _, _, _, _, _, _, _, _, _, _, _, rfl, { hI with p9 := fun _ => rfl }⟩
        · obtain rfl := hI.p6 (hd 6 (by decide))
          have rc : Row W w.heap.size 24 _ := (hI.bel.block _ HRC.out.lt (by simp)).trans HRC.out
          have c0 := rc.cell 0 _ rfl
          have c1 := rc.cell 1 _ rfl
          have c2 := rc.cell 2 _ rfl
          have c3 := rc.cell 3 _ rfl
          have c4 := rc.cell 4 _ rfl
          have c5 := rc.cell 5 _ rfl
          have c6 := rc.cell 6 _ rfl
          rw [if_pos (by rfl)]
          go_simp
          exact hK.out _ _ ⟨_, _, _, _, _, _, _, _, _, _, _, _, _, _, _, _, _, _, _, _, _, _, rfl, { hI with p10 := fun _ => rfl }⟩
        · obtain rfl := hI.p10 (hd 10 (by decide))
          obtain rfl := hI.p6 (hd 6 (by decide))
          rw [if_pos (by rfl)]
          go_simp
          refine (HPG.out _).mono ?_
          rintro e w3 ⟨rfl, hb3⟩
          exact hK.out _ _ ⟨_, _, _, _, _, _, _, _, _, _, _, _, _, _, _, _, _, _, _, _, _, _, rfl, (hI.mono hb3).s11⟩
        · obtain rfl := hI.p9 (hd 9 (by decide))
          obtain rfl := hI.p11 (hd 11 (by decide))
          obtain rfl := hI.p6 (hd 6 (by decide))
          rw [if_pos (by rfl)]
          go_simp
          exact hK.out _ _ ⟨_, _, _, _, _, _, _, _, _, _, _, _, _, _, _, _, _, _, _, _, _, _, rfl, { hI with p12 := fun _ => rfl }⟩
        · obtain rfl := hI.p6 (hd 6 (by decide))
          obtain rfl := hI.p12 (hd 12 (by decide))
          rw [if_pos (by rfl)]
          go_simp
          exact hK.out _ _ ⟨_, _, _, _, _, _, _, _, _, _, _, _, _, _, _, _, _, _, _, _, _, _, rfl, { hI with p13 := fun _ => rfl }⟩
        · obtain rfl := hI.p13 (hd 13 (by decide))
          rw [if_pos (by rfl)]
          go_simp
          exact hK.out _ _ ⟨_, _, _, _, _, _, _, _, _, _, _, _, _, _, _, _, _, _, _, _, _, _, rfl, { hI with p14 := fun _ => rfl }⟩
        · obtain rfl := hI.p14 (hd 14 (by decide))
          rw [if_pos (by rfl)]
          go_simp
          exact hK.out _ _ ⟨_, _, _, _, _, _, _, _, _, _, _, _, _, _, _, _, _, _, _, _, _, _, rfl, { hI with p15 := fun _ => rfl }⟩
        · obtain rfl := hI.p15 (hd 15 (by decide))
          obtain rfl := hI.p14 (hd 14 (by decide))
          have rs : Row W (w.heap.size + 1) 29 _ := (hI.bel.block _ HRS.out.lt (by simp)).trans HRS.out
          have c0 := rs.cell 0 _ rfl
          have c1 := rs.cell 1 _ rfl
          have c2 := rs.cell 2 _ rfl
          rw [if_pos (by rfl)]
          go_simp
          exact hK.out _ _ ⟨_, _, _, _, _, _, _, _, _, _, _, _, _, _, _, _, _, _, _, _, _, _, rfl, { hI with p16 := fun _ => rfl }⟩
        · obtain rfl := hI.p16 (hd 16 (by decide))
          obtain rfl := hI.p14 (hd 14 (by decide))
          rw [if_pos (by rfl)]
          go_simp
          exact hK.out _ _ ⟨_, _, _, _, _, _, _, _, _, _, _, _, _, _, _, _, _, _, _, _, _, _, rfl, { hI with p17 := fun _ => rfl }⟩
        · obtain rfl := hI.p14 (hd 14 (by decide))
          have rc : Row W w.heap.size 24 _ := (hI.bel.block _ HRC.out.lt (by simp)).trans HRC.out
          have c0 := rc.cell 0 _ rfl
          have c1 := rc.cell 1 _ rfl
          have c2 := rc.cell 2 _ rfl
          have c3 := rc.cell 3 _ rfl
          have c4 := rc.cell 4 _ rfl
          have c5 := rc.cell 5 _ rfl
          have c6 := rc.cell 6 _ rfl
          rw [if_pos (by rfl)]
          go_simp
          exact hK.out _ _ ⟨_, _, _, _, _, _, _, _, _, _, _, _, _, _, _, _, _, _, _, _, _, _, rfl, { hI with p18 := fun _ => rfl }⟩
        · obtain rfl := hI.p18 (hd 18 (by decide))
          obtain rfl := hI.p14 (hd 14 (by decide))
          rw [if_pos (by rfl)]
          go_simp
          refine (HFU.out _).mono ?_
          rintro e w3 ⟨rfl, hb3⟩
          exact hK.out _ _ ⟨_, _, _, _, _, _, _, _, _, _, _, _, _, _, _, _, _, _, _, _, _, _, rfl, (hI.mono hb3).s19⟩
        · obtain rfl := hI.p17 (hd 17 (by decide))
          obtain rfl := hI.p19 (hd 19 (by decide))
          obtain rfl := hI.p14 (hd 14 (by decide))
          rw [if_pos (by rfl)]
          go_simp
          exact hK.out _ _ ⟨_, _, _, _, _, _, _, _, _, _, _, _, _, _, _, _, _, _, _, _, _, _, rfl, { hI with p20 := fun _ => rfl }⟩
        · obtain rfl := hI.p14 (hd 14 (by decide))
          obtain rfl := hI.p20 (hd 20 (by decide))
          rw [if_pos (by rfl)]
          go_simp
          exact hK.out _ _ ⟨_, _, _, _, _, _, _, _, _, _, _, _, _, _, _, _, _, _, _, _, _, _, rfl, { hI with p21 := fun _ => rfl }⟩
      · rintro L a W hall ⟨x7, x8, x9, x10, x11, x12, x13, x14, x15, x16, x17, x18, x19, x20, x21, x22, x23, x24, x25, x26, x27, x28, rfl, hI⟩
        have hx0 := hI.p0 (hall 0 (by decide))
        have hx1 := hI.p1 (hall 1 (by decide))
        have hx2 := hI.p2 (hall 2 (by decide))
        have hx3 := hI.p3 (hall 3 (by decide))
        have hx4 := hI.p4 (hall 4 (by decide))
        have hx5 := hI.p5 (hall 5 (by decide))
        have hx6 := hI.p6 (hall 6 (by decide))
        have hx7 := hI.p7 (hall 7 (by decide))
        have hx8 := hI.p8 (hall 8 (by decide))
        have hx9 := hI.p9 (hall 9 (by decide))
        have hx10 := hI.p10 (hall 10 (by decide))
        have hx11 := hI.p11 (hall 11 (by decide))
        have hx12 := hI.p12 (hall 12 (by decide))
        have hx13 := hI.p13 (hall 13 (by decide))
        have hx14 := hI.p14 (hall 14 (by decide))
        have hx15 := hI.p15 (hall 15 (by decide))
        have hx16 := hI.p16 (hall 16 (by decide))
        have hx17 := hI.p17 (hall 17 (by decide))
        have hx18 := hI.p18 (hall 18 (by decide))
        have hx19 := hI.p19 (hall 19 (by decide))
        have hx20 := hI.p20 (hall 20 (by decide))
        have hx21 := hI.p21 (hall 21 (by decide))
        subst hx0 hx1 hx2 hx3 hx4 hx5 hx6 hx7 hx8 hx9 hx10 hx11 hx12 hx13 hx14 hx15 hx16 hx17 hx18 hx19 hx20 hx21
        have hkp := hI.bel
        clear hI hall
        try dsimp only
        have HK : Hid (KeptL [] W1 W) := hkp
        have hbW : Below w.heap.size w W := HB1.out.trans ⟨hkp.os, hkp.tape, hkp.output, hkp.size, fun k hk => hkp.block k (by have := HB1.out.size; omega) (by simp)⟩
        have HBW : Hid (Below w.heap.size w W) := hbW
        have rs : Row W (w.heap.size + 1) 29 _ := (hkp.block _ HRS.out.lt (by simp)).trans HRS.out
        have rc : Row W w.heap.size 24 _ := (hkp.block _ HRC.out.lt (by simp)).trans HRC.out
        have c0 := rs.cell 0 _ rfl
        have c1 := rs.cell 1 _ rfl
        have cc := rc.cell 0 _ rfl
        clear hkp hbW rs rc HK g1 g2 hb3'
        cases b3
        · have h3 : (nb : Int) = FUC := by have := HB3.out; simpa using this
          have H3 : Hid ((nb : Int) = FUC) := h3
          clear h3
          go_wp2
          go_loopw [32] (fun iv wr => ∃ i : Nat, i ≤ np ∧ iv = .int .i64 i ∧ wr = W ∧ Hid (∀ p, p < i → ((t.pages.getD p []).length : Int) = cells ∧ 0 ≤ t.erases.getD p 0)) (fun iv _ => np - (intOf iv).toNat)
          case atStart => exact ⟨0, by omega, rfl, rfl, (fun p hp => absurd hp (by omega) : ∀ p, p < 0 → ((t.pages.getD p []).length : Int) = cells ∧ 0 ≤ t.erases.getD p 0)⟩
          case round =>
            obtain ⟨i, hi, rfl, rfl, hok⟩ := hrel
            by_cases hlt : i < np
            · have y0 : (0 : Int) ≤ (i : Int) := by omega
              have y1 : (i : Int) < (np : Int) := by omega
              have y2 : (i : Int) < (ne : Int) := by have := HNN.out; omega
              have hip : i < t.pages.length := by rw [← HNP.out]; exact hlt
              have hie : i < t.erases.length := by rw [← HNE.out]; have := HNN.out; omega
              obtain ⟨PB, poff, qo, qc, epo, cpg, _, _⟩ := hV.out.page i hip
              have cpg' : wr.cell? ⟨PB, poff + i, none⟩ = some (.slice qo (t.pages.getD i []).length qc) := by
                rw [HBW.out.cell (World.block_lt_of_cell? _ _ cpg)]; exact cpg
              obtain ⟨EB, eoff, eeo, ceg⟩ := hV.out.er.cell i (.int .i64 (t.erases.getD i 0)) (by rw [List.getElem?_map, List.getD_eq_getElem?_getD, List.getElem?_eq_getElem hie]; rfl)
              have ceg' : wr.cell? ⟨EB, eoff + i, none⟩ = some (.int .i64 (t.erases.getD i 0)) := by
                rw [HBW.out.cell (World.block_lt_of_cell? _ _ ceg)]; exact ceg
              have HNX : Hid (((t.pages.getD i []).length : Int) = cells → 0 ≤ t.erases.getD i 0 → ∀ p, p < i + 1 → ((t.pages.getD p []).length : Int) = cells ∧ 0 ≤ t.erases.getD p 0) := by
                intro e1 e2 p hp
                by_cases hpi : p = i
                · rw [hpi]; exact ⟨e1, e2⟩
                · exact hok.out p (by omega)
              have HNO : Hid (¬ (((t.pages.getD i []).length : Int) = cells ∧ 0 ≤ t.erases.getD i 0) → r = false) := by
                intro hno
                refine HRF.out fun hf => hno ?_
                exact (HFIT.out.1 hf).2.2.2 i hlt
              have hln := HPLE.out i hlt
              rw [epo] at c0 ⊢
              rw [eeo] at c1 ⊢
              clear cpg ceg hok
              generalize (t.pages.getD i []).length = n at *
              generalize t.erases.getD i 0 = E at *
              by_cases e1 : (n : Int) = cells
              · have g1 : ((n : Int) != cells) = false := by simp [e1]
                by_cases e2 : 0 ≤ E
                · have g2 : decide (E < 0) = false := by simpa using e2
                  have hnx : Hid (∀ p, p < i + 1 → ((t.pages.getD p []).length : Int) = cells ∧ 0 ≤ t.erases.getD p 0) := HNX.out e1 e2
                  clear e1 e2
                  go_wp2
                  exact ⟨⟨i + 1, by omega, by go_num, (by first | rfl | trivial), hnx⟩, by simp [intOf]; omega⟩
                · have g2 : decide (E < 0) = true := by simpa using e2
                  have hno := HNO.out (fun hh => e2 hh.2)
                  clear e1 e2
                  subst hno
                  go_wp2
                  go_ret
                  exact ⟨rfl, HBW.out⟩
              · have g1 : ((n : Int) != cells) = true := by simpa using e1
                have hno := HNO.out (fun hh => e1 hh.1)
                clear e1
                subst hno
                go_wp2
                go_ret
                exact ⟨rfl, HBW.out⟩
            · obtain rfl : i = np := by omega
              have y1 : ¬ (i : Int) < (i : Int) := by omega
              have hyes := HRT.out (HFIT.out.2 ⟨H12.out.1, H12.out.2, H3.out, hok.out⟩)
              subst hyes
              clear hlt hi hok
              go_wp2
              go_ret
              exact ⟨rfl, HBW.out⟩
        · have h3 : ¬ (nb : Int) = FUC := by have := HB3.out; simpa using this
          have hno := HRF.out (fun hf => h3 (HFIT.out.1 hf).2.2.1)
          subst hno
          clear h3
          go_wp2
          go_ret
          exact ⟨rfl, HBW.out⟩
    · have g2 : ((ne : Int) != PGC) = true := by simpa using h2
      have hno := HRF.out (fun hf => h2 (HFIT.out.1 hf).2.1)
      subst hno
      clear h2 h1
      go_enter Tryd.func35, Tryd.ntmps35
      go_wp2
      rw [← hW1]
      clear hW1
      refine wp_region_inv (IFiB W1 (w.heap.size + 1) v np ne nb cells slots fuses step keys erases area PGC FUC b3 _ _ _ _ _ _ _ _ _ _ _ _ _ _ _ _ _ _ _ _ _ _ _ _ _ _ _ _ _) (by kernel_rfl) (by kernel_rfl) ⟨_, _, _, _, _, _, _, _, _, _, _, _, _, _, _, _, _, _, _, _, _, _, rfl, FiB.zero W1 (w.heap.size + 1) v np ne nb cells slots fuses step keys erases area PGC FUC b3 _ _ _ _ _ _ _ _ _ _ _ _ _ _ _ _ _ _ _ _ _ _⟩ ?_ ?_
      · refine .cons ?_ (.cons ?_ (.cons ?_ (.cons ?_ (.cons ?_ (.cons ?_ (.cons ?_ (.cons ?_ (.cons ?_ (.cons ?_ (.cons ?_ (.cons ?_ (.cons ?_ (.cons ?_ (.cons ?_ (.cons ?_ (.cons ?_ (.cons ?_ (.cons ?_ (.cons ?_ (.cons ?_ (.cons ?_ .nil)))))))))))))))))))))
        all_goals (rintro L a W ⟨x7, x8, x9, x10, x11, x12, x13, x14, x15, x16, x17, x18, x19, x20, x21, x22, x23, x24, x25, x26, x27, x28, rfl, hI⟩ hL hd K hK)
        · rw [if_pos (by rfl)]
          go_simp
          exact hK.out _ _ ⟨_, _, _, _, _, _, _, _, _, _, _, _, _, _, _, _, _, _, _, _, _, _, rfl, { hI with p0 := fun _ => rfl }⟩
        · obtain rfl := hI.p0 (hd 0 (by decide))
          have rs : Row W (w.heap.size + 1) 29 _ := (hI.bel.block _ HRS.out.lt (by simp)).trans HRS.out
          have c0 := rs.cell 0 _ rfl
          have c1 := rs.cell 1 _ rfl
          have c2 := rs.cell 2 _ rfl
          rw [if_pos (by rfl)]
          go_simp
          exact hK.out _ _ ⟨_, _, _, _, _, _, _, _, _, _, _, _, _, _, _, _, _, _, _, _, _, _, rfl, { hI with p1 := fun _ => rfl }⟩
        · obtain rfl := hI.p1 (hd 1 (by decide))
          rw [if_pos (by rfl)]
          go_simp
          exact hK.out _ _ ⟨_, _, _, _, _, _, _, _, _, _, _, _, _, _, _, _, _, _, _, _, _, _, rfl, { hI with p2 := fun _ => rfl }⟩
        · have rc : Row W w.heap.size 24 _ := (hI.bel.block _ HRC.out.lt (by simp)).trans HRC.out
          have c0 := rc.cell 0 _ rfl
          have c1 := rc.cell 1 _ rfl
          have c2 := rc.cell 2 _ rfl
          have c3 := rc.cell 3 _ rfl
          have c4 := rc.cell 4 _ rfl
          have c5 := rc.cell 5 _ rfl
          have c6 := rc.cell 6 _ rfl
          rw [if_pos (by rfl)]
          go_simp
          exact hK.out _ _ ⟨_, _, _, _, _, _, _, _, _, _, _, _, _, _, _, _, _, _, _, _, _, _, rfl, { hI with p3 := fun _ => rfl }⟩
        · obtain rfl := hI.p3 (hd 3 (by decide))
          rw [if_pos (by rfl)]
          go_simp
          refine (HPG.out _).mono ?_
          rintro e w3 ⟨rfl, hb3⟩
          exact hK.out _ _ ⟨_, _, _, _, _, _, _, _, _, _, _, _, _, _, _, _, _, _, _, _, _, _, rfl, (hI.mono hb3).s4⟩
        · obtain rfl := hI.p2 (hd 2 (by decide))
          obtain rfl := hI.p4 (hd 4 (by decide))
          rw [if_pos (by rfl)]
          go_simp
          exact hK.out _ _ ⟨_, _, _, _, _, _, _, _, _, _, _, _, _, _, _, _, _, _, _, _, _, _, rfl, { hI with p5 := fun _ => rfl }⟩
        · obtain rfl := hI.p5 (hd 5 (by decide))
          rw [if_pos (by rfl)]
          go_simp
          exact hK.out _ _ ⟨_, _, _, _, _, _, _, _, _, _, _, _, _, _, _, _, _, _, _, _, _, _, rfl, { hI with p6 := fun _ => rfl }⟩
        · obtain rfl := hI.p6 (hd 6 (by decide))
          rw [if_pos (by rfl)]
          go_simp
          exact hK.out _ _ ⟨_, _, _, _, _, _, _, _, _, _, _, _, _, _, _, _, _, _, _, _, _, _, rfl, { hI with p7 := fun _ => rfl }⟩
        · obtain rfl := hI.p7 (hd 7 (by decide))
          obtain rfl := hI.p6 (hd 6 (by decide))
          have rs : Row W (w.heap.size + 1) 29 _ := (hI.bel.block _ HRS.out.lt (by simp)).trans HRS.out
          have c0 := rs.cell 0 _ rfl
          have c1 := rs.cell 1 _ rfl
          have c2 := rs.cell 2 _ rfl
          rw [if_pos (by rfl)]
          go_simp
          exact hK.out _ _ ⟨_, _, _, _, _, _, _, _, _, _, _, _, _, _, _, _, _, _, _, _, _, _, rfl, { hI with p8 := fun _ => rfl }⟩
        · obtain rfl := hI.p8 (hd 8 (by decide))
          obtain rfl := hI.p6 (hd 6 (by decide))
          rw [if_pos (by rfl)]
          go_simp
          exact hK.out _ _ ⟨_, _, _, _, _, _, _, _, _, _, _, _, _, _, _, _, _, _, _, _, _, _, rfl, { hI with p9 := fun _ => rfl }⟩
        · obtain rfl := hI.p6 (hd 6 (by decide))
          have rc : Row W w.heap.size 24 _ := (hI.bel.block _ HRC.out.lt (by simp)).trans HRC.out
          have c0 := rc.cell 0 _ rfl
          have c1 := rc.cell 1 _ rfl
          have c2 := rc.cell 2 _ rfl
          have c3 := rc.cell 3 _ rfl
          have c4 := rc.cell 4 _ rfl
          have c5 := rc.cell 5 _ rfl
          have c6 := rc.cell 6 _ rfl
          rw [if_pos (by rfl)]
          go_simp
          exact hK.out _ _ ⟨_, _, _, _, _, _, _, _, _, _, _, _, _, _, _, _, _, _, _, _, _, _, rfl, { hI with p10 := fun _ => rfl }⟩
        · obtain rfl := hI.p10 (hd 10 (by decide))
          obtain rfl := hI.p6 (hd 6 (by decide))
          rw [if_pos (by rfl)]
          go_simp
          refine (HPG.out _).mono ?_
          rintro e w3 ⟨rfl, hb3⟩
          exact hK.out _ _ ⟨_, _, _, _, _, _, _, _, _, _, _, _, _, _, _, _, _, _, _, _, _, _, rfl, (hI.mono hb3).s11⟩
        · obtain rfl := hI.p9 (hd 9 (by decide))
          obtain rfl := hI.p11 (hd 11 (by decide))
          obtain rfl := hI.p6 (hd 6 (by decide))
          rw [if_pos (by rfl)]
          go_simp
          exact hK.out _ _ ⟨_, _, _, _, _, _, _, _, _, _, _, _, _, _, _, _, _, _, _, _, _, _, rfl, { hI with p12 := fun _ => rfl }⟩
        · obtain rfl := hI.p6 (hd 6 (by decide))
          obtain rfl := hI.p12 (hd 12 (by decide))
          rw [if_pos (by rfl)]
          go_simp
          exact hK.out _ _ ⟨_, _, _, _, _, _, _, _, _, _, _, _, _, _, _, _, _, _, _, _, _, _, rfl, { hI with p13 := fun _ => rfl }⟩
        · obtain rfl := hI.p13 (hd 13 (by decide))
          rw [if_pos (by rfl)]
          go_simp
          exact hK.out _ _ ⟨_, _, _, _, _, _, _, _, _, _, _, _, _, _, _, _, _, _, _, _, _, _, rfl, { hI with p14 := fun _ => rfl }⟩
        · obtain rfl := hI.p14 (hd 14 (by decide))
          rw [if_neg (by intro hh; exact Bool.noConfusion hh)]
          exact hK.out _ _ ⟨_, _, _, _, _, _, _, _, _, _, _, _, _, _, _, _, _, _, _, _, _, _, rfl, { hI with p15 := fun _ => rfl }⟩
        · obtain rfl := hI.p14 (hd 14 (by decide))
          rw [if_neg (by intro hh; exact Bool.noConfusion hh)]
          exact hK.out _ _ ⟨_, _, _, _, _, _, _, _, _, _, _, _, _, _, _, _, _, _, _, _, _, _, rfl, { hI with p16 := fun _ => rfl }⟩
        · obtain rfl := hI.p14 (hd 14 (by decide))
          rw [if_neg (by intro hh; exact Bool.noConfusion hh)]
          exact hK.out _ _ ⟨_, _, _, _, _, _, _, _, _, _, _, _, _, _, _, _, _, _, _, _, _, _, rfl, { hI with p17 := fun _ => rfl }⟩
        · obtain rfl := hI.p14 (hd 14 (by decide))
          rw [if_neg (by intro hh; exact Bool.noConfusion hh)]
          exact hK.out _ _ ⟨_, _, _, _, _, _, _, _, _, _, _, _, _, _, _, _, _, _, _, _, _, _, rfl, { hI with p18 := fun _ => rfl }⟩
        · obtain rfl := hI.p14 (hd 14 (by decide))
          rw [if_neg (by intro hh; exact Bool.noConfusion hh)]
          exact hK.out _ _ ⟨_, _, _, _, _, _, _, _, _, _, _, _, _, _, _, _, _, _, _, _, _, _, rfl, { hI with p19 := fun _ => rfl }⟩
        · obtain rfl := hI.p14 (hd 14 (by decide))
          rw [if_neg (by intro hh; exact Bool.noConfusion hh)]
          exact hK.out _ _ ⟨_, _, _, _, _, _, _, _, _, _, _, _, _, _, _, _, _, _, _, _, _, _, rfl, { hI with p20 := fun _ => rfl }⟩
        · obtain rfl := hI.p14 (hd 14 (by decide))
          obtain rfl := hI.p20 (hd 20 (by decide))
          rw [if_pos (by rfl)]
          go_simp
          exact hK.out _ _ ⟨_, _, _, _, _, _, _, _, _, _, _, _, _, _, _, _, _, _, _, _, _, _, rfl, { hI with p21 := fun _ => rfl }⟩
      · rintro L a W hall ⟨x7, x8, x9, x10, x11, x12, x13, x14, x15, x16, x17, x18, x19, x20, x21, x22, x23, x24, x25, x26, x27, x28, rfl, hI⟩
        have hx0 := hI.p0 (hall 0 (by decide))
        have hx1 := hI.p1 (hall 1 (by decide))
        have hx2 := hI.p2 (hall 2 (by decide))
        have hx3 := hI.p3 (hall 3 (by decide))
        have hx4 := hI.p4 (hall 4 (by decide))
        have hx5 := hI.p5 (hall 5 (by decide))
        have hx6 := hI.p6 (hall 6 (by decide))
        have hx7 := hI.p7 (hall 7 (by decide))
        have hx8 := hI.p8 (hall 8 (by decide))
        have hx9 := hI.p9 (hall 9 (by decide))
        have hx10 := hI.p10 (hall 10 (by decide))
        have hx11 := hI.p11 (hall 11 (by decide))
        have hx12 := hI.p12 (hall 12 (by decide))
        have hx13 := hI.p13 (hall 13 (by decide))
        have hx14 := hI.p14 (hall 14 (by decide))
        have hx15 := hI.p15 (hall 15 (by decide))
        have hx16 := hI.p16 (hall 16 (by decide))
        have hx17 := hI.p17 (hall 17 (by decide))
        have hx18 := hI.p18 (hall 18 (by decide))
        have hx19 := hI.p19 (hall 19 (by decide))
        have hx20 := hI.p20 (hall 20 (by decide))
        have hx21 := hI.p21 (hall 21 (by decide))
        subst hx0 hx1 hx2 hx3 hx4 hx5 hx6 hx7 hx8 hx9 hx10 hx11 hx12 hx13 hx14 hx15 hx16 hx17 hx18 hx19 hx20 hx21
        have hkp := hI.bel
        clear hI hall
        try dsimp only
        have hbW : Below w.heap.size w W := HB1.out.trans ⟨hkp.os, hkp.tape, hkp.output, hkp.size, fun k hk => hkp.block k (by have := HB1.out.size; omega) (by simp)⟩
        clear hkp
        go_wp2
        go_ret
        exact ⟨rfl, hbW⟩
  · have g1 : ((np : Int) != PGC) = true := by simpa using h1
    have hno := HRF.out (fun hf => h1 (HFIT.out.1 hf).1)
    subst hno
    clear h1
    go_enter Tryd.func35, Tryd.ntmps35
    go_wp2
    rw [← hW1]
    clear hW1
    refine wp_region_inv (IFiA W1 (w.heap.size + 1) v np ne nb cells slots fuses step keys erases area PGC FUC b3 _ _ _ _ _ _ _ _ _ _ _ _ _ _ _ _ _ _ _ _ _ _ _ _ _ _ _ _ _) (by kernel_rfl) (by kernel_rfl) ⟨_, _, _, _, _, _, _, _, _, _, _, _, _, _, _, _, _, _, _, _, _, _, rfl, FiA.zero W1 (w.heap.size + 1) v np ne nb cells slots fuses step keys erases area PGC FUC b3 _ _ _ _ _ _ _ _ _ _ _ _ _ _ _ _ _ _ _ _ _ _⟩ ?_ ?_
    · refine .cons ?_ (.cons ?_ (.cons ?_ (.cons ?_ (.cons ?_ (.cons ?_ (.cons ?_ (.cons ?_ (.cons ?_ (.cons ?_ (.cons ?_ (.cons ?_ (.cons ?_ (.cons ?_ (.cons ?_ (.cons ?_ (.cons ?_ (.cons ?_ (.cons ?_ (.cons ?_ (.cons ?_ (.cons ?_ .nil)))))))))))))))))))))
      all_goals (rintro L a W ⟨x7, x8, x9, x10, x11, x12, x13, x14, x15, x16, x17, x18, x19, x20, x21, x22, x23, x24, x25, x26, x27, x28, rfl, hI⟩ hL hd K hK)
      · rw [if_pos (by rfl)]
        go_simp
        exact hK.out _ _ ⟨_, _, _, _, _, _, _, _, _, _, _, _, _, _, _, _, _, _, _, _, _, _, rfl, { hI with p0 := fun _ => rfl }⟩
      · obtain rfl := hI.p0 (hd 0 (by decide))
        have rs : Row W (w.heap.size + 1) 29 _ := (hI.bel.block _ HRS.out.lt (by simp)).trans HRS.out
        have c0 := rs.cell 0 _ rfl
        have c1 := rs.cell 1 _ rfl
        have c2 := rs.cell 2 _ rfl
        rw [if_pos (by rfl)]
        go_simp
        exact hK.out _ _ ⟨_, _, _, _, _, _, _, _, _, _, _, _, _, _, _, _, _, _, _, _, _, _, rfl, { hI with p1 := fun _ => rfl }⟩
      · obtain rfl := hI.p1 (hd 1 (by decide))
        rw [if_pos (by rfl)]
        go_simp
        exact hK.out _ _ ⟨_, _, _, _, _, _, _, _, _, _, _, _, _, _, _, _, _, _, _, _, _, _, rfl, { hI with p2 := fun _ => rfl }⟩
      · have rc : Row W w.heap.size 24 _ := (hI.bel.block _ HRC.out.lt (by simp)).trans HRC.out
        have c0 := rc.cell 0 _ rfl
        have c1 := rc.cell 1 _ rfl
        have c2 := rc.cell 2 _ rfl
        have c3 := rc.cell 3 _ rfl
        have c4 := rc.cell 4 _ rfl
        have c5 := rc.cell 5 _ rfl
        have c6 := rc.cell 6 _ rfl
        rw [if_pos (by rfl)]
        go_simp
        exact hK.out _ _ ⟨_, _, _, _, _, _, _, _, _, _, _, _, _, _, _, _, _, _, _, _, _, _, rfl, { hI with p3 := fun _ => rfl }⟩
      · obtain rfl := hI.p3 (hd 3 (by decide))
        rw [if_pos (by rfl)]
        go_simp
        refine (HPG.out _).mono ?_
        rintro e w3 ⟨rfl, hb3⟩
        exact hK.out _ _ ⟨_, _, _, _, _, _, _, _, _, _, _, _, _, _, _, _, _, _, _, _, _, _, rfl, (hI.mono hb3).s4⟩
      · obtain rfl := hI.p2 (hd 2 (by decide))
        obtain rfl := hI.p4 (hd 4 (by decide))
        rw [if_pos (by rfl)]
        go_simp
        exact hK.out _ _ ⟨_, _, _, _, _, _, _, _, _, _, _, _, _, _, _, _, _, _, _, _, _, _, rfl, { hI with p5 := fun _ => rfl }⟩
      · obtain rfl := hI.p5 (hd 5 (by decide))
        rw [if_pos (by rfl)]
        go_simp
        exact hK.out _ _ ⟨_, _, _, _, _, _, _, _, _, _, _, _, _, _, _, _, _, _, _, _, _, _, rfl, { hI with p6 := fun _ => rfl }⟩
      · obtain rfl := hI.p6 (hd 6 (by decide))
        rw [if_neg (by intro hh; exact Bool.noConfusion hh)]
        exact hK.out _ _ ⟨_, _, _, _, _, _, _, _, _, _, _, _, _, _, _, _, _, _, _, _, _, _, rfl, { hI with p7 := fun _ => rfl }⟩
      · obtain rfl := hI.p6 (hd 6 (by decide))
        rw [if_neg (by intro hh; exact Bool.noConfusion hh)]
        exact hK.out _ _ ⟨_, _, _, _, _, _, _, _, _, _, _, _, _, _, _, _, _, _, _, _, _, _, rfl, { hI with p8 := fun _ => rfl }⟩
      · obtain rfl := hI.p6 (hd 6 (by decide))
        rw [if_neg (by intro hh; exact Bool.noConfusion hh)]
        exact hK.out _ _ ⟨_, _, _, _, _, _, _, _, _, _, _, _, _, _, _, _, _, _, _, _, _, _, rfl, { hI with p9 := fun _ => rfl }⟩
      · obtain rfl := hI.p6 (hd 6 (by decide))
        rw [if_neg (by intro hh; exact Bool.noConfusion hh)]
        exact hK.out _ _ ⟨_, _, _, _, _, _, _, _, _, _, _, _, _, _, _, _, _, _, _, _, _, _, rfl, { hI with p10 := fun _ => rfl }⟩
      · obtain rfl := hI.p6 (hd 6 (by decide))
        rw [if_neg (by intro hh; exact Bool.noConfusion hh)]
        exact hK.out _ _ ⟨_, _, _, _, _, _, _, _, _, _, _, _, _, _, _, _, _, _, _, _, _, _, rfl, { hI with p11 := fun _ => rfl }⟩
      · obtain rfl := hI.p6 (hd 6 (by decide))
        rw [if_neg (by intro hh; exact Bool.noConfusion hh)]
        exact hK.out _ _ ⟨_, _, _, _, _, _, _, _, _, _, _, _, _, _, _, _, _, _, _, _, _, _, rfl, { hI with p12 := fun _ => rfl }⟩
      · obtain rfl := hI.p6 (hd 6 (by decide))
        obtain rfl := hI.p12 (hd 12 (by decide))
        rw [if_pos (by rfl)]
        go_simp
        exact hK.out _ _ ⟨_, _, _, _, _, _, _, _, _, _, _, _, _, _, _, _, _, _, _, _, _, _, rfl, { hI with p13 := fun _ => rfl }⟩
      · obtain rfl := hI.p13 (hd 13 (by decide))
        rw [if_pos (by rfl)]
        go_simp
        exact hK.out _ _ ⟨_, _, _, _, _, _, _, _, _, _, _, _, _, _, _, _, _, _, _, _, _, _, rfl, { hI with p14 := fun _ => rfl }⟩
      · obtain rfl := hI.p14 (hd 14 (by decide))
        rw [if_neg (by intro hh; exact Bool.noConfusion hh)]
        exact hK.out _ _ ⟨_, _, _, _, _, _, _, _, _, _, _, _, _, _, _, _, _, _, _, _, _, _, rfl, { hI with p15 := fun _ => rfl }⟩
      · obtain rfl := hI.p14 (hd 14 (by decide))
        rw [if_neg (by intro hh; exact Bool.noConfusion hh)]
        exact hK.out _ _ ⟨_, _, _, _, _, _, _, _, _, _, _, _, _, _, _, _, _, _, _, _, _, _, rfl, { hI with p16 := fun _ => rfl }⟩
      · obtain rfl := hI.p14 (hd 14 (by decide))
        rw [if_neg (by intro hh; exact Bool.noConfusion hh)]
        exact hK.out _ _ ⟨_, _, _, _, _, _, _, _, _, _, _, _, _, _, _, _, _, _, _, _, _, _, rfl, { hI with p17 := fun _ => rfl }⟩
      · obtain rfl := hI.p14 (hd 14 (by decide))
        rw [if_neg (by intro hh; exact Bool.noConfusion hh)]
        exact hK.out _ _ ⟨_, _, _, _, _, _, _, _, _, _, _, _, _, _, _, _, _, _, _, _, _, _, rfl, { hI with p18 := fun _ => rfl }⟩
      · obtain rfl := hI.p14 (hd 14 (by decide))
        rw [if_neg (by intro hh; exact Bool.noConfusion hh)]
        exact hK.out _ _ ⟨_, _, _, _, _, _, _, _, _, _, _, _, _, _, _, _, _, _, _, _, _, _, rfl, { hI with p19 := fun _ => rfl }⟩
      · obtain rfl := hI.p14 (hd 14 (by decide))
        rw [if_neg (by intro hh; exact Bool.noConfusion hh)]
        exact hK.out _ _ ⟨_, _, _, _, _, _, _, _, _, _, _, _, _, _, _, _, _, _, _, _, _, _, rfl, { hI with p20 := fun _ => rfl }⟩
      · obtain rfl := hI.p14 (hd 14 (by decide))
        obtain rfl := hI.p20 (hd 20 (by decide))
        rw [if_pos (by rfl)]
        go_simp
        exact hK.out _ _ ⟨_, _, _, _, _, _, _, _, _, _, _, _, _, _, _, _, _, _, _, _, _, _, rfl, { hI with p21 := fun _ => rfl }⟩
    · rintro L a W hall ⟨x7, x8, x9, x10, x11, x12, x13, x14, x15, x16, x17, x18, x19, x20, x21, x22, x23, x24, x25, x26, x27, x28, rfl, hI⟩
      have hx0 := hI.p0 (hall 0 (by decide))
      have hx1 := hI.p1 (hall 1 (by decide))
      have hx2 := hI.p2 (hall 2 (by decide))
      have hx3 := hI.p3 (hall 3 (by decide))
      have hx4 := hI.p4 (hall 4 (by decide))
      have hx5 := hI.p5 (hall 5 (by decide))
      have hx6 := hI.p6 (hall 6 (by decide))
      have hx7 := hI.p7 (hall 7 (by decide))
      have hx8 := hI.p8 (hall 8 (by decide))
      have hx9 := hI.p9 (hall 9 (by decide))
      have hx10 := hI.p10 (hall 10 (by decide))
      have hx11 := hI.p11 (hall 11 (by decide))
      have hx12 := hI.p12 (hall 12 (by decide))
      have hx13 := hI.p13 (hall 13 (by decide))
      have hx14 := hI.p14 (hall 14 (by decide))
      have hx15 := hI.p15 (hall 15 (by decide))
      have hx16 := hI.p16 (hall 16 (by decide))
      have hx17 := hI.p17 (hall 17 (by decide))
      have hx18 := hI.p18 (hall 18 (by decide))
      have hx19 := hI.p19 (hall 19 (by decide))
      have hx20 := hI.p20 (hall 20 (by decide))
      have hx21 := hI.p21 (hall 21 (by decide))
      subst hx0 hx1 hx2 hx3 hx4 hx5 hx6 hx7 hx8 hx9 hx10 hx11 hx12 hx13 hx14 hx15 hx16 hx17 hx18 hx19 hx20 hx21
      have hkp := hI.bel
      clear hI hall
      try dsimp only
      have hbW : Below w.heap.size w W := HB1.out.trans ⟨hkp.os, hkp.tape, hkp.output, hkp.size, fun k hk => hkp.block k (by have := HB1.out.size; omega) (by simp)⟩
      clear hkp
      go_wp2
      go_ret
      exact ⟨rfl, hbW⟩
end Go.Proofs.YtgpnbiaghokjkaaDoor
