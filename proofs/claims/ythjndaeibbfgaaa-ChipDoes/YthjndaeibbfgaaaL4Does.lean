import Derived.Test.YthjndaeibbfgaaaC4First
import Derived.Test.YthjndaeibbfgaaaR4CopyC
import Derived.Test.YthjndaeibbfgaaaC4New
import Derived.Test.YthjndaeibbfgaaaL4Game
import Derived.Test.YthjndaeibbfgaaaL4Fix
/-! The reference's chip: fresh. (Printed by tools/genrfirst.py.) -/
namespace Go.Proofs.Ythjndaeibbfgaaa
open Go.RowKit

structure Q1I (W1 : World) (C0 : Nat) (slots fuses keys area : Int) (np nb : Nat) (L : Nat → Bool) (x7 x8 x9 x10 x11 x12 x13 x14 x15 x16 x17 x18 x19 x20 x21 x3 : Value) (G4 G13 G15 : Nat) (W : World) : Prop where
  bel : KeptL [] W1 W
  b4 : L 4 = true → W1.heap.size ≤ G4 ∧ G4 < W.heap.size
  r4 : L 4 = true → Row W G4 3 (List.replicate (np * 1) (Value.int .i64 0))
  b13 : L 13 = true → W1.heap.size ≤ G13 ∧ G13 < W.heap.size
  r13 : L 13 = true → Row W G13 4 (List.replicate (nb * 1) (Value.bool false))
  b15 : L 15 = true → W1.heap.size ≤ G15 ∧ G15 < W.heap.size
  r15 : L 15 = true → L 16 = false → Row W G15 40 ([nilS, nilS, nilS])
  t15 : L 16 = true → Row W G15 40 ([nilS, .slice (some ⟨G4, 0, none⟩) np np, .slice (some ⟨G13, 0, none⟩) nb nb])
  d4_13 : L 4 = true → L 13 = true → G4 ≠ G13
  d4_15 : L 4 = true → L 15 = true → G4 ≠ G15
  d13_15 : L 13 = true → L 15 = true → G13 ≠ G15
  p0 : L 0 = true → x7 = .pointer (some ⟨C0, 6, none⟩)
  p1 : L 1 = true → x8 = .int .i64 area
  p2 : L 2 = true → x9 = .int .i64 (2 * area)
  p3 : L 3 = true → x10 = .int .i64 (np : Int)
  p4 : L 4 = true → x11 = .slice (some ⟨G4, 0, none⟩) np np
  p5 : L 5 = true → x12 = .pointer (some ⟨C0, 1, none⟩)
  p6 : L 6 = true → x13 = .int .i64 slots
  p7 : L 7 = true → x14 = .pointer (some ⟨C0, 2, none⟩)
  p8 : L 8 = true → x15 = .int .i64 fuses
  p9 : L 9 = true → x16 = .int .i64 (slots * fuses)
  p10 : L 10 = true → x17 = .pointer (some ⟨C0, 4, none⟩)
  p11 : L 11 = true → x18 = .int .i64 keys
  p12 : L 12 = true → x19 = .int .i64 (nb : Int)
  p13 : L 13 = true → x20 = .slice (some ⟨G13, 0, none⟩) nb nb
  p14 : L 14 = true → x21 = .agg #[nilS, .slice (some ⟨G4, 0, none⟩) np np, .slice (some ⟨G13, 0, none⟩) nb nb]
  p15 : L 15 = true → x3 = .pointer (some ⟨G15, 0, none⟩)
  l14_4 : L 14 = true → L 4 = true
  l14_13 : L 14 = true → L 13 = true
  l16_14 : L 16 = true → L 14 = true
  l16_15 : L 16 = true → L 15 = true
section
variable {W1 : World} {C0 : Nat} {slots fuses keys area : Int} {np nb : Nat} {L : Nat → Bool} {x7 x8 x9 x10 x11 x12 x13 x14 x15 x16 x17 x18 x19 x20 x21 x3 : Value} {G4 G13 G15 : Nat} {W W2 : World}
theorem Q1I.zero (W1 : World) (C0 : Nat) (slots fuses keys area : Int) (np nb : Nat) (x7 x8 x9 x10 x11 x12 x13 x14 x15 x16 x17 x18 x19 x20 x21 x3 : Value) : Q1I W1 C0 slots fuses keys area np nb (fun _ => false) x7 x8 x9 x10 x11 x12 x13 x14 x15 x16 x17 x18 x19 x20 x21 x3 0 0 0 W1.drew :=
  ⟨(KeptL.refl _ _).dr ⟨1, rfl⟩, fun k => (by cases k), fun k => (by cases k), fun k => (by cases k), fun k => (by cases k), fun k => (by cases k), fun k _ => (by cases k), fun k => (by cases k), fun k _ => (by cases k), fun k _ => (by cases k), fun k _ => (by cases k), fun k => (by cases k), fun k => (by cases k), fun k => (by cases k), fun k => (by cases k), fun k => (by cases k), fun k => (by cases k), fun k => (by cases k), fun k => (by cases k), fun k => (by cases k), fun k => (by cases k), fun k => (by cases k), fun k => (by cases k), fun k => (by cases k), fun k => (by cases k), fun k => (by cases k), fun k => (by cases k), fun k => (by cases k), fun k => (by cases k), fun k => (by cases k), fun k => (by cases k)⟩
theorem Q1I.mono (h : Q1I W1 C0 slots fuses keys area np nb L x7 x8 x9 x10 x11 x12 x13 x14 x15 x16 x17 x18 x19 x20 x21 x3 G4 G13 G15 W) (hb : Below W.heap.size W W2) : Q1I W1 C0 slots fuses keys area np nb L x7 x8 x9 x10 x11 x12 x13 x14 x15 x16 x17 x18 x19 x20 x21 x3 G4 G13 G15 W2 :=
  ⟨h.bel.below hb h.bel.size, fun k => ⟨(h.b4 k).1, Nat.lt_of_lt_of_le (h.b4 k).2 hb.size⟩, fun k => (hb.block _ (h.b4 k).2).trans (h.r4 k), fun k => ⟨(h.b13 k).1, Nat.lt_of_lt_of_le (h.b13 k).2 hb.size⟩, fun k => (hb.block _ (h.b13 k).2).trans (h.r13 k), fun k => ⟨(h.b15 k).1, Nat.lt_of_lt_of_le (h.b15 k).2 hb.size⟩, fun k k2 => (hb.block _ (h.b15 k).2).trans (h.r15 k k2), fun k => (hb.block _ (h.b15 ((fun k => h.l16_15 (k)) k)).2).trans (h.t15 k), h.d4_13, h.d4_15, h.d13_15, h.p0, h.p1, h.p2, h.p3, h.p4, h.p5, h.p6, h.p7, h.p8, h.p9, h.p10, h.p11, h.p12, h.p13, h.p14, h.p15, h.l14_4, h.l14_13, h.l16_14, h.l16_15⟩
theorem Q1I.s0 (h : Q1I W1 C0 slots fuses keys area np nb L x7 x8 x9 x10 x11 x12 x13 x14 x15 x16 x17 x18 x19 x20 x21 x3 G4 G13 G15 W) : Q1I W1 C0 slots fuses keys area np nb (upd L 0) (.pointer (some ⟨C0, 6, none⟩)) x8 x9 x10 x11 x12 x13 x14 x15 x16 x17 x18 x19 x20 x21 x3 G4 G13 G15 W :=
  ⟨h.bel, h.b4, h.r4, h.b13, h.r13, h.b15, h.r15, h.t15, h.d4_13, h.d4_15, h.d13_15, fun _ => rfl, h.p1, h.p2, h.p3, h.p4, h.p5, h.p6, h.p7, h.p8, h.p9, h.p10, h.p11, h.p12, h.p13, h.p14, h.p15, h.l14_4, h.l14_13, h.l16_14, h.l16_15⟩
theorem Q1I.s1 (h : Q1I W1 C0 slots fuses keys area np nb L x7 x8 x9 x10 x11 x12 x13 x14 x15 x16 x17 x18 x19 x20 x21 x3 G4 G13 G15 W) : Q1I W1 C0 slots fuses keys area np nb (upd L 1) x7 (.int .i64 area) x9 x10 x11 x12 x13 x14 x15 x16 x17 x18 x19 x20 x21 x3 G4 G13 G15 W :=
  ⟨h.bel, h.b4, h.r4, h.b13, h.r13, h.b15, h.r15, h.t15, h.d4_13, h.d4_15, h.d13_15, h.p0, fun _ => rfl, h.p2, h.p3, h.p4, h.p5, h.p6, h.p7, h.p8, h.p9, h.p10, h.p11, h.p12, h.p13, h.p14, h.p15, h.l14_4, h.l14_13, h.l16_14, h.l16_15⟩
theorem Q1I.s2 (h : Q1I W1 C0 slots fuses keys area np nb L x7 x8 x9 x10 x11 x12 x13 x14 x15 x16 x17 x18 x19 x20 x21 x3 G4 G13 G15 W) : Q1I W1 C0 slots fuses keys area np nb (upd L 2) x7 x8 (.int .i64 (2 * area)) x10 x11 x12 x13 x14 x15 x16 x17 x18 x19 x20 x21 x3 G4 G13 G15 W :=
  ⟨h.bel, h.b4, h.r4, h.b13, h.r13, h.b15, h.r15, h.t15, h.d4_13, h.d4_15, h.d13_15, h.p0, h.p1, fun _ => rfl, h.p3, h.p4, h.p5, h.p6, h.p7, h.p8, h.p9, h.p10, h.p11, h.p12, h.p13, h.p14, h.p15, h.l14_4, h.l14_13, h.l16_14, h.l16_15⟩
theorem Q1I.s3 (h : Q1I W1 C0 slots fuses keys area np nb L x7 x8 x9 x10 x11 x12 x13 x14 x15 x16 x17 x18 x19 x20 x21 x3 G4 G13 G15 W) : Q1I W1 C0 slots fuses keys area np nb (upd L 3) x7 x8 x9 (.int .i64 (np : Int)) x11 x12 x13 x14 x15 x16 x17 x18 x19 x20 x21 x3 G4 G13 G15 W :=
  ⟨h.bel, h.b4, h.r4, h.b13, h.r13, h.b15, h.r15, h.t15, h.d4_13, h.d4_15, h.d13_15, h.p0, h.p1, h.p2, fun _ => rfl, h.p4, h.p5, h.p6, h.p7, h.p8, h.p9, h.p10, h.p11, h.p12, h.p13, h.p14, h.p15, h.l14_4, h.l14_13, h.l16_14, h.l16_15⟩
theorem Q1I.s4 (h : Q1I W1 C0 slots fuses keys area np nb L x7 x8 x9 x10 x11 x12 x13 x14 x15 x16 x17 x18 x19 x20 x21 x3 G4 G13 G15 W) (hL : L 4 = false) : Q1I W1 C0 slots fuses keys area np nb (upd L 4) x7 x8 x9 x10 (.slice (some ⟨W.heap.size, 0, none⟩) np np) x12 x13 x14 x15 x16 x17 x18 x19 x20 x21 x3 W.heap.size G13 G15 (W.alloc (.cells (List.replicate (np * 1) (Value.int .i64 0)).toArray 3)) :=
  have m := h.mono (below_alloc W (.cells (List.replicate (np * 1) (Value.int .i64 0)).toArray 3))
  ⟨m.bel, fun _ => ⟨h.bel.size, by simp⟩, fun _ => heap_alloc_new W _, m.b13, m.r13, m.b15, m.r15, fun k => no_of (fun k => h.l14_4 (h.l16_14 (k))) hL k, fun _ k => (Nat.ne_of_lt (h.b13 k).2).symm, fun _ k => (Nat.ne_of_lt (h.b15 k).2).symm, m.d13_15, m.p0, m.p1, m.p2, m.p3, fun _ => rfl, m.p5, m.p6, m.p7, m.p8, m.p9, m.p10, m.p11, m.p12, m.p13, fun k => no_of (fun k => h.l14_4 (k)) hL k, m.p15, fun _ => rfl, m.l14_13, m.l16_14, m.l16_15⟩
theorem Q1I.s5 (h : Q1I W1 C0 slots fuses keys area np nb L x7 x8 x9 x10 x11 x12 x13 x14 x15 x16 x17 x18 x19 x20 x21 x3 G4 G13 G15 W) : Q1I W1 C0 slots fuses keys area np nb (upd L 5) x7 x8 x9 x10 x11 (.pointer (some ⟨C0, 1, none⟩)) x13 x14 x15 x16 x17 x18 x19 x20 x21 x3 G4 G13 G15 W :=
  ⟨h.bel, h.b4, h.r4, h.b13, h.r13, h.b15, h.r15, h.t15, h.d4_13, h.d4_15, h.d13_15, h.p0, h.p1, h.p2, h.p3, h.p4, fun _ => rfl, h.p6, h.p7, h.p8, h.p9, h.p10, h.p11, h.p12, h.p13, h.p14, h.p15, h.l14_4, h.l14_13, h.l16_14, h.l16_15⟩
theorem Q1I.s6 (h : Q1I W1 C0 slots fuses keys area np nb L x7 x8 x9 x10 x11 x12 x13 x14 x15 x16 x17 x18 x19 x20 x21 x3 G4 G13 G15 W) : Q1I W1 C0 slots fuses keys area np nb (upd L 6) x7 x8 x9 x10 x11 x12 (.int .i64 slots) x14 x15 x16 x17 x18 x19 x20 x21 x3 G4 G13 G15 W :=
  ⟨h.bel, h.b4, h.r4, h.b13, h.r13, h.b15, h.r15, h.t15, h.d4_13, h.d4_15, h.d13_15, h.p0, h.p1, h.p2, h.p3, h.p4, h.p5, fun _ => rfl, h.p7, h.p8, h.p9, h.p10, h.p11, h.p12, h.p13, h.p14, h.p15, h.l14_4, h.l14_13, h.l16_14, h.l16_15⟩
theorem Q1I.s7 (h : Q1I W1 C0 slots fuses keys area np nb L x7 x8 x9 x10 x11 x12 x13 x14 x15 x16 x17 x18 x19 x20 x21 x3 G4 G13 G15 W) : Q1I W1 C0 slots fuses keys area np nb (upd L 7) x7 x8 x9 x10 x11 x12 x13 (.pointer (some ⟨C0, 2, none⟩)) x15 x16 x17 x18 x19 x20 x21 x3 G4 G13 G15 W :=
  ⟨h.bel, h.b4, h.r4, h.b13, h.r13, h.b15, h.r15, h.t15, h.d4_13, h.d4_15, h.d13_15, h.p0, h.p1, h.p2, h.p3, h.p4, h.p5, h.p6, fun _ => rfl, h.p8, h.p9, h.p10, h.p11, h.p12, h.p13, h.p14, h.p15, h.l14_4, h.l14_13, h.l16_14, h.l16_15⟩
theorem Q1I.s8 (h : Q1I W1 C0 slots fuses keys area np nb L x7 x8 x9 x10 x11 x12 x13 x14 x15 x16 x17 x18 x19 x20 x21 x3 G4 G13 G15 W) : Q1I W1 C0 slots fuses keys area np nb (upd L 8) x7 x8 x9 x10 x11 x12 x13 x14 (.int .i64 fuses) x16 x17 x18 x19 x20 x21 x3 G4 G13 G15 W :=
  ⟨h.bel, h.b4, h.r4, h.b13, h.r13, h.b15, h.r15, h.t15, h.d4_13, h.d4_15, h.d13_15, h.p0, h.p1, h.p2, h.p3, h.p4, h.p5, h.p6, h.p7, fun _ => rfl, h.p9, h.p10, h.p11, h.p12, h.p13, h.p14, h.p15, h.l14_4, h.l14_13, h.l16_14, h.l16_15⟩
theorem Q1I.s9 (h : Q1I W1 C0 slots fuses keys area np nb L x7 x8 x9 x10 x11 x12 x13 x14 x15 x16 x17 x18 x19 x20 x21 x3 G4 G13 G15 W) : Q1I W1 C0 slots fuses keys area np nb (upd L 9) x7 x8 x9 x10 x11 x12 x13 x14 x15 (.int .i64 (slots * fuses)) x17 x18 x19 x20 x21 x3 G4 G13 G15 W :=
  ⟨h.bel, h.b4, h.r4, h.b13, h.r13, h.b15, h.r15, h.t15, h.d4_13, h.d4_15, h.d13_15, h.p0, h.p1, h.p2, h.p3, h.p4, h.p5, h.p6, h.p7, h.p8, fun _ => rfl, h.p10, h.p11, h.p12, h.p13, h.p14, h.p15, h.l14_4, h.l14_13, h.l16_14, h.l16_15⟩
theorem Q1I.s10 (h : Q1I W1 C0 slots fuses keys area np nb L x7 x8 x9 x10 x11 x12 x13 x14 x15 x16 x17 x18 x19 x20 x21 x3 G4 G13 G15 W) : Q1I W1 C0 slots fuses keys area np nb (upd L 10) x7 x8 x9 x10 x11 x12 x13 x14 x15 x16 (.pointer (some ⟨C0, 4, none⟩)) x18 x19 x20 x21 x3 G4 G13 G15 W :=
  ⟨h.bel, h.b4, h.r4, h.b13, h.r13, h.b15, h.r15, h.t15, h.d4_13, h.d4_15, h.d13_15, h.p0, h.p1, h.p2, h.p3, h.p4, h.p5, h.p6, h.p7, h.p8, h.p9, fun _ => rfl, h.p11, h.p12, h.p13, h.p14, h.p15, h.l14_4, h.l14_13, h.l16_14, h.l16_15⟩
theorem Q1I.s11 (h : Q1I W1 C0 slots fuses keys area np nb L x7 x8 x9 x10 x11 x12 x13 x14 x15 x16 x17 x18 x19 x20 x21 x3 G4 G13 G15 W) : Q1I W1 C0 slots fuses keys area np nb (upd L 11) x7 x8 x9 x10 x11 x12 x13 x14 x15 x16 x17 (.int .i64 keys) x19 x20 x21 x3 G4 G13 G15 W :=
  ⟨h.bel, h.b4, h.r4, h.b13, h.r13, h.b15, h.r15, h.t15, h.d4_13, h.d4_15, h.d13_15, h.p0, h.p1, h.p2, h.p3, h.p4, h.p5, h.p6, h.p7, h.p8, h.p9, h.p10, fun _ => rfl, h.p12, h.p13, h.p14, h.p15, h.l14_4, h.l14_13, h.l16_14, h.l16_15⟩
theorem Q1I.s12 (h : Q1I W1 C0 slots fuses keys area np nb L x7 x8 x9 x10 x11 x12 x13 x14 x15 x16 x17 x18 x19 x20 x21 x3 G4 G13 G15 W) : Q1I W1 C0 slots fuses keys area np nb (upd L 12) x7 x8 x9 x10 x11 x12 x13 x14 x15 x16 x17 x18 (.int .i64 (nb : Int)) x20 x21 x3 G4 G13 G15 W :=
  ⟨h.bel, h.b4, h.r4, h.b13, h.r13, h.b15, h.r15, h.t15, h.d4_13, h.d4_15, h.d13_15, h.p0, h.p1, h.p2, h.p3, h.p4, h.p5, h.p6, h.p7, h.p8, h.p9, h.p10, h.p11, fun _ => rfl, h.p13, h.p14, h.p15, h.l14_4, h.l14_13, h.l16_14, h.l16_15⟩
theorem Q1I.s13 (h : Q1I W1 C0 slots fuses keys area np nb L x7 x8 x9 x10 x11 x12 x13 x14 x15 x16 x17 x18 x19 x20 x21 x3 G4 G13 G15 W) (hL : L 13 = false) : Q1I W1 C0 slots fuses keys area np nb (upd L 13) x7 x8 x9 x10 x11 x12 x13 x14 x15 x16 x17 x18 x19 (.slice (some ⟨W.heap.size, 0, none⟩) nb nb) x21 x3 G4 W.heap.size G15 (W.alloc (.cells (List.replicate (nb * 1) (Value.bool false)).toArray 4)) :=
  have m := h.mono (below_alloc W (.cells (List.replicate (nb * 1) (Value.bool false)).toArray 4))
  ⟨m.bel, m.b4, m.r4, fun _ => ⟨h.bel.size, by simp⟩, fun _ => heap_alloc_new W _, m.b15, m.r15, fun k => no_of (fun k => h.l14_13 (h.l16_14 (k))) hL k, fun k _ => Nat.ne_of_lt (h.b4 k).2, m.d4_15, fun _ k => (Nat.ne_of_lt (h.b15 k).2).symm, m.p0, m.p1, m.p2, m.p3, m.p4, m.p5, m.p6, m.p7, m.p8, m.p9, m.p10, m.p11, m.p12, fun _ => rfl, fun k => no_of (fun k => h.l14_13 (k)) hL k, m.p15, m.l14_4, fun _ => rfl, m.l16_14, m.l16_15⟩
theorem Q1I.s14 (h : Q1I W1 C0 slots fuses keys area np nb L x7 x8 x9 x10 x11 x12 x13 x14 x15 x16 x17 x18 x19 x20 x21 x3 G4 G13 G15 W) (h4 : L 4 = true) (h13 : L 13 = true) : Q1I W1 C0 slots fuses keys area np nb (upd L 14) x7 x8 x9 x10 x11 x12 x13 x14 x15 x16 x17 x18 x19 x20 (.agg #[nilS, .slice (some ⟨G4, 0, none⟩) np np, .slice (some ⟨G13, 0, none⟩) nb nb]) x3 G4 G13 G15 W :=
  ⟨h.bel, h.b4, h.r4, h.b13, h.r13, h.b15, h.r15, h.t15, h.d4_13, h.d4_15, h.d13_15, h.p0, h.p1, h.p2, h.p3, h.p4, h.p5, h.p6, h.p7, h.p8, h.p9, h.p10, h.p11, h.p12, h.p13, fun _ => rfl, h.p15, fun _ => h4, fun _ => h13, fun _ => rfl, h.l16_15⟩
theorem Q1I.s15 (h : Q1I W1 C0 slots fuses keys area np nb L x7 x8 x9 x10 x11 x12 x13 x14 x15 x16 x17 x18 x19 x20 x21 x3 G4 G13 G15 W) (hL : L 15 = false) : Q1I W1 C0 slots fuses keys area np nb (upd L 15) x7 x8 x9 x10 x11 x12 x13 x14 x15 x16 x17 x18 x19 x20 x21 (.pointer (some ⟨W.heap.size, 0, none⟩)) G4 G13 W.heap.size (W.alloc (.cells #[.slice none 0 0, .slice none 0 0, .slice none 0 0] 40)) :=
  have m := h.mono (below_alloc W (.cells #[.slice none 0 0, .slice none 0 0, .slice none 0 0] 40))
  ⟨m.bel, m.b4, m.r4, m.b13, m.r13, fun _ => ⟨h.bel.size, by simp⟩, fun _ _ => heap_alloc_new W _, fun k => no_of (fun k => h.l16_15 (k)) hL k, m.d4_13, fun k _ => Nat.ne_of_lt (h.b4 k).2, fun k _ => Nat.ne_of_lt (h.b13 k).2, m.p0, m.p1, m.p2, m.p3, m.p4, m.p5, m.p6, m.p7, m.p8, m.p9, m.p10, m.p11, m.p12, m.p13, m.p14, fun _ => rfl, m.l14_4, m.l14_13, m.l16_14, fun _ => rfl⟩
theorem Q1I.s16 (h : Q1I W1 C0 slots fuses keys area np nb L x7 x8 x9 x10 x11 x12 x13 x14 x15 x16 x17 x18 x19 x20 x21 x3 G4 G13 G15 W) (h14 : L 14 = true) (h15 : L 15 = true) (hr : Row W2 G15 40 ([nilS, .slice (some ⟨G4, 0, none⟩) np np, .slice (some ⟨G13, 0, none⟩) nb nb])) (hs : SameBut G15 W W2) : Q1I W1 C0 slots fuses keys area np nb (upd L 16) x7 x8 x9 x10 x11 x12 x13 x14 x15 x16 x17 x18 x19 x20 x21 x3 G4 G13 G15 W2 :=
  ⟨h.bel.but hs (.inr (h.b15 h15).1), fun k => ⟨(h.b4 k).1, by rw [hs.size]; exact (h.b4 k).2⟩, fun k => (hs.block _ (h.d4_15 k h15)).trans (h.r4 k), fun k => ⟨(h.b13 k).1, by rw [hs.size]; exact (h.b13 k).2⟩, fun k => (hs.block _ (h.d13_15 k h15)).trans (h.r13 k), fun k => ⟨(h.b15 k).1, by rw [hs.size]; exact (h.b15 k).2⟩, fun _ k => (by cases k), fun _ => hr, h.d4_13, h.d4_15, h.d13_15, h.p0, h.p1, h.p2, h.p3, h.p4, h.p5, h.p6, h.p7, h.p8, h.p9, h.p10, h.p11, h.p12, h.p13, h.p14, h.p15, h.l14_4, h.l14_13, fun _ => h14, fun _ => h15⟩
end
@[reducible] def IQ1I (W1 : World) (C0 : Nat) (slots fuses keys area : Int) (np nb : Nat) (y0 y1 y2 y4 y5 y6 y22 y23 y24 y25 y26 y27 y28 y29 y30 y31 y32 y33 y34 y35 y36 y37 y38 y39 y40 y41 y42 y43 y44 y45 y46 y47 y48 y49 : Value) : (Nat → Bool) → Act → World → Prop := fun L a W => ∃ x7 x8 x9 x10 x11 x12 x13 x14 x15 x16 x17 x18 x19 x20 x21 x3 G4 G13 G15, a = ⟨#[y0, y1, y2, x3, y4, y5, y6, x7, x8, x9, x10, x11, x12, x13, x14, x15, x16, x17, x18, x19, x20, x21, y22, y23, y24, y25, y26, y27, y28, y29, y30, y31, y32, y33, y34, y35, y36, y37, y38, y39, y40, y41, y42, y43, y44, y45, y46, y47, y48, y49], []⟩ ∧ Q1I W1 C0 slots fuses keys area np nb L x7 x8 x9 x10 x11 x12 x13 x14 x15 x16 x17 x18 x19 x20 x21 x3 G4 G13 G15 W

theorem wpList_make {T e size bytes : Nat} {v : Value} (E : ElZ T e size bytes v) {ops : Array Oper} {rest : List Oper} {o : Oper} {a : Act} {w : World} {Q : Exit → Act → World → Prop} (hgd : o.guard = none) (x : Operand) (ho : o.op = .makeSlice T x x)
    (n : Nat) (hx : a.eval x = .int .i64 (n : Int)) (hb : bytes * n ≤ 281474976710656) (h63 : n ≤ 9223372036854775807)
    (h : wpList Try.prog ops Q rest (a.put o.dst (.slice (some ⟨w.heap.size, 0, none⟩) n n)) (w.alloc (.cells (List.replicate (n * size) v).toArray e))) : wpList Try.prog ops Q (o :: rest) a w := by
  refine wpList_plain hgd fun K hK => ?_
  unfold Oper.wp execOp
  simp only [ho, hx, run_make_same E n hb h63 w, Sem.run_bind, Result.andThen_ok, Sem.run_pure]
  exact hK _ _ h

theorem wpList_append_where {T e size bytes : Nat} {z : Value} (E : ElT T e size bytes z) {ops : Array Oper} {rest : List Oper} {o : Oper} {a : Act} {w : World} {Q : Exit → Act → World → Prop} (hgd : o.guard = none) (s x : Operand)
    (ho : o.op = .call { callee := .builtin .append, args := #[s, x], argTypes := #[T, T] })
    (N : Nat) (a0 : World) (aoD : Option Addr) (nD capD : Nat) (vs : List Value) (hs : a.eval s = .slice aoD nD capD) (hown : w.ownsRow N e size (.slice aoD nD capD) nD vs) (hN : N ≤ w.heap.size) (hbel : Below N a0 w)
    (B off n cap : Nat) (news : List Value) (hx : a.eval x = .slice (some ⟨B, off, none⟩) n cap) (hn : news.length = n * size) (hc : ∀ j u, news[j]? = some u → w.cell? ⟨B, off + j, none⟩ = some u) (hn0 : 0 < n) (h1 : ∀ u ∈ news, u.oneCell' = true) (hm : nD + n ≤ maxLen) (hl : (nD + n) * bytes ≤ 140737488355328)
    (h : ∀ ao' cap' w', w'.ownsRow N e size (.slice ao' (nD + n) cap') (nD + n) (vs ++ news) → Below N a0 w' → w.heap.size ≤ w'.heap.size → (∀ k, k < w.heap.size → (∀ g, aoD = some ⟨g, 0, none⟩ → k ≠ g) → w'.heap[k]? = w.heap[k]?) → (ao' = aoD ∨ ao' = some ⟨w.heap.size, 0, none⟩) → wpList Try.prog ops Q rest (a.put o.dst (.slice ao' (nD + n) cap')) w') : wpList Try.prog ops Q (o :: rest) a w := by
  refine wpList_plain hgd fun K hK => ?_
  obtain ⟨ao', cap', w', hrun, h2, h3, h4, h5⟩ := run_append_gen E N a0 w o.type aoD nD capD vs hown hN hbel (some ⟨B, off, none⟩) n cap news hn (.inr ⟨B, off, rfl, hc⟩) h1 (by simp) hm hl
  have hwh := append_where E N w o.type aoD nD capD vs hown ⟨B, off, none⟩ n cap news hn (fun j u hu => by rw [Addr.add_mid]; exact hc j u hu) h1 hn0 hm hl ao' _ cap' w' hrun
  unfold Oper.wp execOp
  simp only [ho, resolve, invoke, builtin, Sem.run_bind, Sem.run_pure, Result.andThen_ok, List.map_toArray, List.map_cons, List.map_nil, hs, hx, hrun]
  exact hK _ _ (h ao' cap' w' h2 h3 h4 h5 (hwh.imp (·.1) (·.1)))

theorem owns_made {W : World} {N g e size n : Nat} {xs : List Value} (hr : Row W g e xs) (hN : N ≤ g) (hl : xs.length = n * size) (hn : n ≤ maxLen) : W.ownsRow N e size (.slice (some ⟨g, 0, none⟩) n n) n xs :=
  ⟨hl, .inr ⟨g, n, xs.toArray, rfl, hN, hr, Nat.le_refl _, hn, by simp [hl], by simp [← hl]⟩⟩

/-- What stays while fresh makes pages. -/
structure FrI (W1 : World) (PG : List (List By)) (np nb g1 g2 g3 i : Nat) (po : Option Addr) (pc : Nat) (ps : List (Nat × Nat)) (wr : World) : Prop where
  os : OwnSt wr W1.heap.size (List.replicate i PG) (List.replicate np 0) (List.replicate nb false) po pc ps g1 np g2 nb
  r3 : Row wr g3 40 [.slice po i pc, .slice (some ⟨g1, 0, none⟩) np np, .slice (some ⟨g2, 0, none⟩) nb nb]
  n3 : g3 ∉ g1 :: g2 :: ps.map (·.1)
  p3 : ∀ g, po = some ⟨g, 0, none⟩ → g3 ≠ g
  g3N : W1.heap.size ≤ g3
  bel : Below W1.heap.size W1 wr

/-- One page more: made (in the block that was the next), filled, hung on. -/
theorem FrI.next {W1 wr wq W3 : World} {PG : List (List By)} {np nb g1 g2 g3 i : Nat} {po : Option Addr} {pc : Nat} {ps : List (Nat × Nat)} (h : FrI W1 PG np nb g1 g2 g3 i po pc ps wr) (h8 : ∀ x ∈ PG, x.length = 32) (hpl : PG.length ≤ maxLen)
    (hkq : KeptL [] wr wq) (hrq : Row wq wr.heap.size 49 (PG.flatten.map B8)) (W2 : World) (hW2 : Below wq.heap.size wq W2) (hz : W2.heap.size = wq.heap.size + 1)
    (ao' : Option Addr) (c' : Nat) (q1 : W3.ownsRow W1.heap.size 57 1 (.slice ao' (i + 1) c') (i + 1) (List.zipWith pgVal ps (List.replicate i PG) ++ [.slice (some ⟨wr.heap.size, 0, none⟩) PG.length PG.length])) (q2 : Below W1.heap.size W1 W3) (q4 : ∀ k, k < W2.heap.size → (∀ g, po = some ⟨g, 0, none⟩ → k ≠ g) → W3.heap[k]? = W2.heap[k]?) (q5 : ao' = po ∨ ao' = some ⟨W2.heap.size, 0, none⟩) :
    Row W3 g3 40 [.slice po i pc, .slice (some ⟨g1, 0, none⟩) np np, .slice (some ⟨g2, 0, none⟩) nb nb] ∧ ∀ W4, SameBut g3 W3 W4 → Row W4 g3 40 [.slice ao' (i + 1) c', .slice (some ⟨g1, 0, none⟩) np np, .slice (some ⟨g2, 0, none⟩) nb nb] → FrI W1 PG np nb g1 g2 g3 (i + 1) ao' c' (ps ++ [(wr.heap.size, PG.length)]) W4 := by
  have hql := hrq.lt
  have h3l := h.r3.lt
  have hpo : ∀ g, po = some ⟨g, 0, none⟩ → g < wr.heap.size := fun g hg => by have := h.os.pg; rw [hg] at this; exact (owns_lt this).2
  have keep : ∀ j, j < wr.heap.size → (∀ g, po = some ⟨g, 0, none⟩ → j ≠ g) → W3.heap[j]? = wr.heap[j]? := fun j hj hg =>
    (q4 j (by omega) hg).trans ((hW2.block j (by omega)).trans (hkq.block j hj (by simp)))
  refine ⟨(keep g3 h3l h.p3).trans h.r3, fun W4 hs hr4 => ?_⟩
  have hps := h.os.push (W := W4) g3 h.n3 h.p3 h3l (fun j hj k1 k2 => (hs.block j k2).trans (keep j hj k1)) wr.heap.size PG.length PG (Nat.le_refl _) ?_ ao' c' ?_ ?_
  · rw [← List.replicate_succ'] at hps
    exact ⟨hps.1, hr4, hps.2.1, hps.2.2, h.g3N, hs.below q2 h.g3N⟩
  · refine owns_made ?_ h.bel.size (by rw [List.length_map, flat_len _ h8, Nat.mul_comm]) hpl
    have k1 := q4 wr.heap.size (by omega) (fun g hg => by have := hpo g hg; omega)
    exact (hs.block _ (by omega)).trans (k1.trans ((hW2.block _ hql).trans hrq))
  · rw [List.length_replicate]
    refine owns_kept q1 fun g hg => hs.block g ?_
    rcases q5 with e | e
    · rw [e] at hg; exact fun e' => h.p3 g hg e'.symm
    · rw [e] at hg; injection hg with hg; injection hg with hg; omega
  · rcases q5 with e | e
    · exact .inl e
    · exact .inr ⟨_, e, by omega, by omega⟩

def FreshPost (t : St) (w : World) (e : Ending) (w' : World) : Prop := ∃ po pc ps eB ec bB bc, e = .returned (.agg #[.slice po t.pages.length pc, .slice (some ⟨eB, 0, none⟩) t.erases.length ec, .slice (some ⟨bB, 0, none⟩) t.blown.length bc]) ∧ OwnSt w' w.heap.size t.pages t.erases t.blown po pc ps eB ec bB bc ∧ Below w.heap.size w w'

set_option maxHeartbeats 4000000 in
set_option maxRecDepth 100000 in
theorem rfresh_any (cells slots fuses step keys erases area : Int) (np n nb : Nat) (hnp : (np : Int) = 2 + 2 * area) (hn : (n : Int) = cells) (hnb : (nb : Int) = slots * fuses + keys) (h1 : 0 ≤ area) (h2 : area ≤ 64) (h3 : n ≤ 256) (h4 : 1 ≤ slots * fuses ∧ slots * fuses ≤ 512) (h5 : 1 ≤ keys) (h6 : keys ≤ 64) (w : World) :
    Calls Try.prog 30 #[.agg #[.int .i64 cells, .int .i64 slots, .int .i64 fuses, .int .i64 step, .int .i64 keys, .int .i64 erases, .int .i64 area]] w (FreshPost (freshN np n nb) w) := by
  have hl1 : np ≤ 130 := by omega
  have hl2 : nb ≤ 576 := by omega
  obtain ⟨BL, hBL⟩ : ∃ BL : List By, BL = List.replicate 32 255#8 := ⟨_, rfl⟩
  have hBl : BL.length = 32 := by rw [hBL]; simp
  have HBK : Hid (∀ W, Calls Try.prog 49 #[] W fun e w' => e = .returned (.agg (BL.map B8).toArray) ∧ Below W.heap.size W w') := fun W => by rw [hBL]; exact blank_any W
  have j1 : IntKind.i64.wrap (2 * area) = 2 * area := i64_in _ (by omega) (by omega)
  have j2 : IntKind.i64.wrap (2 + 2 * area) = (np : Int) := by rw [hnp]; exact i64_in _ (by omega) (by omega)
  have j3 : IntKind.i64.wrap (slots * fuses) = slots * fuses := i64_in _ (by omega) (by omega)
  have j4 : IntKind.i64.wrap (slots * fuses + keys) = (nb : Int) := by rw [hnb]; exact i64_in _ (by omega) (by omega)
  have HT0 : Hid (freshN np n nb = ⟨List.replicate np (List.replicate n BL), List.replicate np 0, List.replicate nb false⟩) := by rw [hBL]; exact rfl
  have hcn : cells = (n : Int) := hn.symm
  subst hcn
  clear hBL hnp hn hnb h1 h2 h4 h5 h6
  obtain ⟨T0, hT0⟩ : ∃ T0, T0 = freshN np n nb := ⟨_, rfl⟩
  rw [← hT0] at HT0 ⊢
  clear hT0
  obtain ⟨W1, hW1⟩ : ∃ W1, W1 = (w.alloc (.cells #[.int .i64 (n : Int), .int .i64 slots, .int .i64 fuses, .int .i64 step, .int .i64 keys, .int .i64 erases, .int .i64 area] 23)).alloc (.cells #[.slice none 0 0, .slice none 0 0, .slice none 0 0] 40) := ⟨_, rfl⟩
  have HRC : Hid (Row W1 w.heap.size 23 [.int .i64 (n : Int), .int .i64 slots, .int .i64 fuses, .int .i64 step, .int .i64 keys, .int .i64 erases, .int .i64 area]) := by rw [hW1]; exact (Row.at _ _ _ _ _ rfl rfl : Row (w.alloc _) _ _ _).alloc _
  have HR2 : Hid (Row W1 (w.heap.size + 1) 40 [nilS, nilS, nilS]) := by rw [hW1]; exact Row.at _ _ _ _ _ (by simp) rfl
  have HB1 : Hid (Below w.heap.size w W1 ∧ W1.heap.size = w.heap.size + 2) := by rw [hW1]; exact ⟨((Below.refl _ _).alloc (Nat.le_refl _) _).alloc (by simp) _, by simp⟩
  go_enter Try.func30, Try.ntmps30
  go_wp2
  rw [← hW1]
  clear hW1
  refine wp_region_inv (IQ1I W1 w.heap.size slots fuses keys area np nb _ _ _ _ _ _ _ _ _ _ _ _ _ _ _ _ _ _ _ _ _ _ _ _ _ _ _ _ _ _ _ _ _ _) (by kernel_rfl) (by kernel_rfl) ⟨_, _, _, _, _, _, _, _, _, _, _, _, _, _, _, _, _, _, _, rfl, Q1I.zero W1 w.heap.size slots fuses keys area np nb _ _ _ _ _ _ _ _ _ _ _ _ _ _ _ _⟩ ?_ ?_
  · refine .cons ?_ (.cons ?_ (.cons ?_ (.cons ?_ (.cons ?_ (.cons ?_ (.cons ?_ (.cons ?_ (.cons ?_ (.cons ?_ (.cons ?_ (.cons ?_ (.cons ?_ (.cons ?_ (.cons ?_ (.cons ?_ (.cons ?_ .nil))))))))))))))))
    all_goals (rintro L a W ⟨x7, x8, x9, x10, x11, x12, x13, x14, x15, x16, x17, x18, x19, x20, x21, x3, G4, G13, G15, rfl, hI⟩ hL hd K hK)
    · rw [if_pos (by rfl)]
      go_simp
      exact hK.out _ _ ⟨_, _, _, _, _, _, _, _, _, _, _, _, _, _, _, _, _, _, _, rfl, hI.s0⟩
    · have hx0 := hI.p0 (hd 0 (by decide))
      subst hx0
      have rc : Row W w.heap.size 23 _ := (hI.bel.block _ HRC.out.lt (by simp)).trans HRC.out
      have c0 := rc.cell 0 _ rfl
      have c1 := rc.cell 1 _ rfl
      have c2 := rc.cell 2 _ rfl
      have c3 := rc.cell 3 _ rfl
      have c4 := rc.cell 4 _ rfl
      have c5 := rc.cell 5 _ rfl
      have c6 := rc.cell 6 _ rfl
      rw [if_pos (by rfl)]
      go_simp
      exact hK.out _ _ ⟨_, _, _, _, _, _, _, _, _, _, _, _, _, _, _, _, _, _, _, rfl, hI.s1⟩
    · have hx1 := hI.p1 (hd 1 (by decide))
      subst hx1
      rw [if_pos (by rfl)]
      go_simp
      exact hK.out _ _ ⟨_, _, _, _, _, _, _, _, _, _, _, _, _, _, _, _, _, _, _, rfl, hI.s2⟩
    · have hx2 := hI.p2 (hd 2 (by decide))
      subst hx2
      rw [if_pos (by rfl)]
      go_simp
      exact hK.out _ _ ⟨_, _, _, _, _, _, _, _, _, _, _, _, _, _, _, _, _, _, _, rfl, hI.s3⟩
    · have hx3 := hI.p3 (hd 3 (by decide))
      subst hx3
      refine step_make elz_ints rfl (.tmp 10) rfl np rfl (by omega) (by omega) ?_
      exact hK.out _ _ ⟨_, _, _, _, _, _, _, _, _, _, _, _, _, _, _, _, _, _, _, rfl, hI.s4 hL⟩
    · rw [if_pos (by rfl)]
      go_simp
      exact hK.out _ _ ⟨_, _, _, _, _, _, _, _, _, _, _, _, _, _, _, _, _, _, _, rfl, hI.s5⟩
    · have hx5 := hI.p5 (hd 5 (by decide))
      subst hx5
      have rc : Row W w.heap.size 23 _ := (hI.bel.block _ HRC.out.lt (by simp)).trans HRC.out
      have c0 := rc.cell 0 _ rfl
      have c1 := rc.cell 1 _ rfl
      have c2 := rc.cell 2 _ rfl
      have c3 := rc.cell 3 _ rfl
      have c4 := rc.cell 4 _ rfl
      have c5 := rc.cell 5 _ rfl
      have c6 := rc.cell 6 _ rfl
      rw [if_pos (by rfl)]
      go_simp
      exact hK.out _ _ ⟨_, _, _, _, _, _, _, _, _, _, _, _, _, _, _, _, _, _, _, rfl, hI.s6⟩
    · rw [if_pos (by rfl)]
      go_simp
      exact hK.out _ _ ⟨_, _, _, _, _, _, _, _, _, _, _, _, _, _, _, _, _, _, _, rfl, hI.s7⟩
    · have hx7 := hI.p7 (hd 7 (by decide))
      subst hx7
      have rc : Row W w.heap.size 23 _ := (hI.bel.block _ HRC.out.lt (by simp)).trans HRC.out
      have c0 := rc.cell 0 _ rfl
      have c1 := rc.cell 1 _ rfl
      have c2 := rc.cell 2 _ rfl
      have c3 := rc.cell 3 _ rfl
      have c4 := rc.cell 4 _ rfl
      have c5 := rc.cell 5 _ rfl
      have c6 := rc.cell 6 _ rfl
      rw [if_pos (by rfl)]
      go_simp
      exact hK.out _ _ ⟨_, _, _, _, _, _, _, _, _, _, _, _, _, _, _, _, _, _, _, rfl, hI.s8⟩
    · have hx6 := hI.p6 (hd 6 (by decide))
      subst hx6
      have hx8 := hI.p8 (hd 8 (by decide))
      subst hx8
      rw [if_pos (by rfl)]
      go_simp
      exact hK.out _ _ ⟨_, _, _, _, _, _, _, _, _, _, _, _, _, _, _, _, _, _, _, rfl, hI.s9⟩
    · rw [if_pos (by rfl)]
      go_simp
      exact hK.out _ _ ⟨_, _, _, _, _, _, _, _, _, _, _, _, _, _, _, _, _, _, _, rfl, hI.s10⟩
    · have hx10 := hI.p10 (hd 10 (by decide))
      subst hx10
      have rc : Row W w.heap.size 23 _ := (hI.bel.block _ HRC.out.lt (by simp)).trans HRC.out
      have c0 := rc.cell 0 _ rfl
      have c1 := rc.cell 1 _ rfl
      have c2 := rc.cell 2 _ rfl
      have c3 := rc.cell 3 _ rfl
      have c4 := rc.cell 4 _ rfl
      have c5 := rc.cell 5 _ rfl
      have c6 := rc.cell 6 _ rfl
      rw [if_pos (by rfl)]
      go_simp
      exact hK.out _ _ ⟨_, _, _, _, _, _, _, _, _, _, _, _, _, _, _, _, _, _, _, rfl, hI.s11⟩
    · have hx9 := hI.p9 (hd 9 (by decide))
      subst hx9
      have hx11 := hI.p11 (hd 11 (by decide))
      subst hx11
      rw [if_pos (by rfl)]
      go_simp
      exact hK.out _ _ ⟨_, _, _, _, _, _, _, _, _, _, _, _, _, _, _, _, _, _, _, rfl, hI.s12⟩
    · have hx12 := hI.p12 (hd 12 (by decide))
      subst hx12
      refine step_make elz_bools rfl (.tmp 19) rfl nb rfl (by omega) (by omega) ?_
      exact hK.out _ _ ⟨_, _, _, _, _, _, _, _, _, _, _, _, _, _, _, _, _, _, _, rfl, hI.s13 hL⟩
    · have hx4 := hI.p4 (hd 4 (by decide))
      subst hx4
      have hx13 := hI.p13 (hd 13 (by decide))
      subst hx13
      rw [if_pos (by rfl)]
      go_simp
      exact hK.out _ _ ⟨_, _, _, _, _, _, _, _, _, _, _, _, _, _, _, _, _, _, _, rfl, hI.s14 (hd 4 (by decide)) (hd 13 (by decide))⟩
    · rw [if_pos (by rfl)]
      go_simp
      exact hK.out _ _ ⟨_, _, _, _, _, _, _, _, _, _, _, _, _, _, _, _, _, _, _, rfl, hI.s15 hL⟩
    · have hx15 := hI.p15 (hd 15 (by decide))
      subst hx15
      have hx14 := hI.p14 (hd 14 (by decide))
      subst hx14
      refine step_store_Row rfl 40 (.tmp 3) (.tmp 21) rfl G15 40 _ [nilS, .slice (some ⟨G4, 0, none⟩) np np, .slice (some ⟨G13, 0, none⟩) nb nb] (hI.r15 (hd 15 (by decide)) hL) rfl rfl rfl (by kernel_rfl) (by simp [Value.oneCell', nilS]) ?_
      intro W2 hr2 hs2
      exact hK.out _ _ ⟨_, _, _, _, _, _, _, _, _, _, _, _, _, _, _, _, _, _, _, rfl, hI.s16 (hd 14 (by decide)) (hd 15 (by decide)) hr2 hs2⟩
  · rintro L a W hall ⟨x7, x8, x9, x10, x11, x12, x13, x14, x15, x16, x17, x18, x19, x20, x21, x3, G4, G13, G15, rfl, hI⟩
    have hx0 := hI.p0 (hall 0 (by decide))
    have hx1 := hI.p1 (hall 1 (by decide))
    have hx2 := hI.p2 (hall 2 (by decide))
    have hx3 := hI.p3 (hall 3 (by decide))
    have hx4 := hI.p4 (hall 4 (by decide))
    have hx5 := hI.p5 (hall 5 (by decide))
    have hx6 := hI.p6 (hall 6 (by decide))
    have hx7 := hI.p7 (hall 7 (by decide))
    have hx8 := hI.p8 (hall 8 (by decide))
    have hx9 := hI.p9 (hall 9 (by decide))
    have hx10 := hI.p10 (hall 10 (by decide))
    have hx11 := hI.p11 (hall 11 (by decide))
    have hx12 := hI.p12 (hall 12 (by decide))
    have hx13 := hI.p13 (hall 13 (by decide))
    have hx14 := hI.p14 (hall 14 (by decide))
    have hx15 := hI.p15 (hall 15 (by decide))
    subst hx0 hx1 hx2 hx3 hx4 hx5 hx6 hx7 hx8 hx9 hx10 hx11 hx12 hx13 hx14 hx15
    have hb4 := hI.b4 (hall 4 (by decide))
    have hr4 := hI.r4 (hall 4 (by decide))
    have hb13 := hI.b13 (hall 13 (by decide))
    have hr13 := hI.r13 (hall 13 (by decide))
    have hb15 := hI.b15 (hall 15 (by decide))
    have hr15 := hI.t15 (hall 16 (by decide))
    have hd4_13 := hI.d4_13 (hall 4 (by decide)) (hall 13 (by decide))
    have hd4_15 := hI.d4_15 (hall 4 (by decide)) (hall 15 (by decide))
    have hd13_15 := hI.d13_15 (hall 13 (by decide)) (hall 15 (by decide))
    have hkp := hI.bel
    clear hI hall
    try dsimp only
    have hsz := HB1.out.2
    have hbW : Below W1.heap.size W1 W := ⟨hkp.os, hkp.tape, hkp.output, hkp.size, fun k hk => hkp.block k hk (by simp)⟩
    have HI0 : Hid (FrI W1 (List.replicate n BL) np nb G4 G13 G15 0 none 0 [] W) := by
      refine ⟨⟨rfl, World.ownsRow_nil _ _ _ _, by simp, ?_, ?_, by simp [hd4_13], by simp⟩, hr15, by simp; exact ⟨fun e => hd4_15 e.symm, fun e => hd13_15 e.symm⟩, by simp, hb15.1, hbW⟩
      · rw [List.length_replicate, List.map_replicate]
        rw [Nat.mul_one] at hr4
        exact owns_made hr4 hb4.1 (by simp) (by unfold maxLen; omega)
      · rw [List.length_replicate, List.map_replicate]
        rw [Nat.mul_one] at hr13
        exact owns_made hr13 hb13.1 (by simp) (by unfold maxLen; omega)
    have HP8 : Hid ((∀ x ∈ List.replicate n BL, x.length = 32) ∧ (List.replicate n BL).length = n) := ⟨fun x hx => by rw [(List.mem_replicate.1 hx).2]; exact hBl, by simp⟩
    obtain ⟨PG, hPG⟩ : ∃ PG, PG = List.replicate n BL := ⟨_, rfl⟩
    rw [← hPG] at HI0 HP8 HT0
    have HPG : Hid (fillN BL n n = PG) := by show _ = _; rw [hPG]; simp [fillN]
    clear hPG hr4 hr13 hr15 hb4 hb13 hb15 hd4_13 hd4_15 hd13_15 hkp hbW
    go_wp2
    go_loopw [4] (fun iv wr => ∃ (i : Nat) (po : Option Addr) (pc : Nat) (ps : List (Nat × Nat)), i ≤ np ∧ iv = .int .i64 i ∧ Hid (FrI W1 PG np nb G4 G13 G15 i po pc ps wr)) (fun iv _ => np - (intOf iv).toNat)
    case atStart => exact ⟨0, none, 0, [], by omega, rfl, HI0⟩
    case round =>
      clear HI0
      obtain ⟨i, po, pc, ps, hi, rfl, hfi⟩ := hrel
      have rc : Row wr w.heap.size 23 _ := (hfi.out.bel.block _ HRC.out.lt).trans HRC.out
      have c0 := rc.cell 0 _ rfl
      have c6 := rc.cell 6 _ rfl
      by_cases hlt : i < np
      · have y0 : (0 : Int) ≤ (i : Int) := by omega
        have y1 : (i : Int) < (np : Int) := by omega
        have HRW : Hid (Row wr w.heap.size 23 [.int .i64 (n : Int), .int .i64 slots, .int .i64 fuses, .int .i64 step, .int .i64 keys, .int .i64 erases, .int .i64 area]) := rc
        clear rc
        go_wp2_with (refine wpList_make elz_cells rfl (.tmp 31) rfl n rfl (by omega) (by omega) ?_)
        have HA : Hid (Row (wr.alloc (.cells (Array.replicate (n * 32) (Value.int .u8 0)) 49)) wr.heap.size 49 ((fillN BL n 0).flatten.map B8)) := by
          have e : (fillN BL n 0).flatten.map B8 = List.replicate (n * 32) (Value.int .u8 0) := by
            unfold fillN
            rw [List.replicate_zero, List.nil_append, Nat.sub_zero]; exact flat_rep n
          rw [e]
          exact Row.at _ _ _ _ _ rfl (by simp)
        have HAK : Hid (KeptL [] wr (wr.alloc (.cells (Array.replicate (n * 32) (Value.int .u8 0)) 49))) := (KeptL.refl _ _).below (below_alloc wr _) (Nat.le_refl _)
        clear c0 c6
        obtain ⟨GP, hGP⟩ : ∃ x, x = wr.heap.size := ⟨_, rfl⟩
        rw [← hGP] at HA ⊢
        have HGP : Hid (GP = wr.heap.size) := hGP
        clear hGP
        generalize wr.alloc (.cells (Array.replicate (n * 32) (Value.int .u8 0)) 49) = WA at *
        go_wp2
        go_loopw [6] (fun jv wq => ∃ j : Nat, j ≤ n ∧ jv = .int .i64 j ∧ Hid (Row wq GP 49 ((fillN BL n j).flatten.map B8)) ∧ Hid (KeptL [] wr wq)) (fun jv _ => n - (intOf jv).toNat)
        case atStart => exact ⟨0, by omega, rfl, HA, HAK⟩
        case round =>
          clear HA HAK
          obtain ⟨j, hj, rfl, hrj, hkj⟩ := hrel
          have rq : Row wr w.heap.size 23 _ := (hkj.out.block _ HRW.out.lt (by simp)).trans HRW.out
          have c0 := rq.cell 0 _ rfl
          clear rq
          by_cases hjl : j < n
          · have z0 : (0 : Int) ≤ (j : Int) := by omega
            have z1 : (j : Int) < (n : Int) := by omega
            obtain ⟨OLD3, hOLD3⟩ : ∃ x, x = (fillN BL n j).flatten.map B8 := ⟨_, rfl⟩
            have HOLD : Hid (Row wr GP 49 OLD3) := by rw [hOLD3]; exact hrj.out
            have h8 := fillN_8 BL hBl n j
            have hfl : (fillN BL n j).length = n := by simp [fillN]; omega
            have HFIT : Hid (j * 32 + 32 ≤ OLD3.length) := by
              show _ ≤ _
              rw [hOLD3, List.length_map, flat_len _ h8, hfl]; omega
            have HNJ : Hid (∀ W2, Row W2 GP 49 (putAt OLD3 (j * 32) (BL.map B8)) → Row W2 GP 49 ((fillN BL n (j + 1)).flatten.map B8)) := by
              intro W2 q1
              have := putAt_cell (fillN BL n j) [] j BL h8 (by omega) hBl
              rw [List.append_nil, List.append_nil, ← hOLD3, fillN_set BL n j hjl] at this
              rw [← this]; exact q1
            clear hOLD3 hrj h8 hfl
            go_wp2_with fail
            refine (HBK.out _).mono ?_
            rintro e w3 ⟨rfl, hb3⟩
            have r3' : Row w3 GP 49 OLD3 := (hb3.block _ HOLD.out.lt).trans HOLD.out
            have hk3 := hkj.out.below hb3 hkj.out.size
            have hk3 := (show Hid _ from hk3)
            clear hb3 hkj HOLD c0
            go_wp2_with (refine wpList_store_Row rfl 49 _ _ rfl GP 49 (j * 32) OLD3 (BL.map B8) r3' (by rw [List.length_map, hBl]; exact HFIT.out) rfl rfl (by rw [List.length_map, hBl]; kernel_rfl) (B8_one _) ?_; intro w4 hr4 hs4; have HN1 := (show Hid _ from HNJ.out w4 hr4); have hk4 := (show Hid _ from hk3.out.but hs4 (.inr (Nat.le_of_eq HGP.out.symm))); clear hr4 hs4 r3' hk3)
            exact ⟨⟨j + 1, by omega, by go_num, HN1, hk4⟩, by simp [intOf]; omega⟩
          · obtain rfl : j = n := by omega
            have z1 : ¬ (j : Int) < (j : Int) := by omega
            have hrG : Row wr G15 40 _ := (hkj.out.block _ hfi.out.r3.lt (by simp)).trans hfi.out.r3
            have cg := hrG.cell 0 _ rfl
            have hql : GP < wr.heap.size := hrj.out.lt
            have HBEL : Hid (Below W1.heap.size W1 (wr.alloc (.cells #[.slice (some ⟨GP, 0, none⟩) j j] 57))) := by
              have h1 := hfi.out.bel
              have h2 : Below W1.heap.size W1 wr := h1.trans ⟨hkj.out.os, hkj.out.tape, hkj.out.output, hkj.out.size, fun k hk => hkj.out.block k (Nat.lt_of_lt_of_le hk h1.size) (by simp)⟩
              exact h2.alloc h2.size _
            have HOWN : Hid ((wr.alloc (.cells #[.slice (some ⟨GP, 0, none⟩) j j] 57)).ownsRow W1.heap.size 57 1 (.slice po i pc) i (List.zipWith pgVal ps (List.replicate i PG))) := by
              have h1 := hfi.out.os.pg
              rw [List.length_replicate] at h1
              refine owns_kept h1 fun g hg => ?_
              subst hg
              have hgl := (owns_lt h1).2
              exact (Below.heap_alloc wr _ g (Nat.lt_of_lt_of_le hgl hkj.out.size)).trans (hkj.out.block g hgl (by simp))
            have HCL : Hid (Row (wr.alloc (.cells #[.slice (some ⟨GP, 0, none⟩) j j] 57)) wr.heap.size 57 [.slice (some ⟨GP, 0, none⟩) j j]) := Row.at _ _ _ _ _ rfl rfl
            have HNX : Hid (∀ ao' c' W3, W3.ownsRow W1.heap.size 57 1 (.slice ao' (i + 1) c') (i + 1) (List.zipWith pgVal ps (List.replicate i PG) ++ [.slice (some ⟨GP, 0, none⟩) j j]) → Below W1.heap.size W1 W3 → (∀ k, k < (wr.alloc (.cells #[.slice (some ⟨GP, 0, none⟩) j j] 57)).heap.size → (∀ g, po = some ⟨g, 0, none⟩ → k ≠ g) → W3.heap[k]? = (wr.alloc (.cells #[.slice (some ⟨GP, 0, none⟩) j j] 57)).heap[k]?) → (ao' = po ∨ ao' = some ⟨(wr.alloc (.cells #[.slice (some ⟨GP, 0, none⟩) j j] 57)).heap.size, 0, none⟩) → Row W3 G15 40 [.slice po i pc, .slice (some ⟨G4, 0, none⟩) np np, .slice (some ⟨G13, 0, none⟩) nb nb] ∧ ∀ W4, SameBut G15 W3 W4 → Row W4 G15 40 [.slice ao' (i + 1) c', .slice (some ⟨G4, 0, none⟩) np np, .slice (some ⟨G13, 0, none⟩) nb nb] → FrI W1 PG np nb G4 G13 G15 (i + 1) ao' c' (ps ++ [(GP, j)]) W4) := by
              intro ao' c' W3 q1 q2 q4 q5
              have hr' := hrj.out
              rw [HPG.out] at hr'
              have hl := HP8.out.2
              have h8 := HP8.out.1
              have hg := HGP.out
              clear HP8 HPG HT0 HGP hrj HRW HBEL HOWN HCL cg hrG hql
              subst hg
              have := hfi.out.next h8 (by rw [hl]; unfold maxLen; omega) hkj.out hr' (wr.alloc _) (below_alloc wr _) (by simp) ao' c' (by rw [hl]; exact q1) q2 q4 q5
              rw [hl] at this
              exact this
            have hN2 : W1.heap.size ≤ (wr.alloc (.cells #[.slice (some ⟨GP, 0, none⟩) j j] 57)).heap.size := HBEL.out.size
            clear hrG hrj hkj hfi HRW
            go_wp2_with (refine wpList_append_where el_pages rfl (.tmp 44) (.tmp 46) rfl W1.heap.size W1 po i pc _ rfl HOWN.out hN2 HBEL.out wr.heap.size 0 1 1 [.slice (some ⟨GP, 0, none⟩) j j] rfl rfl (fun j u hu => by rw [Nat.zero_add]; exact HCL.out.cell j u hu) (by omega) (by simp [Value.oneCell']) (by unfold maxLen; omega) (by omega) ?_; intro ao' c' W' q1 q2 q3 q4 q5; obtain ⟨hx1, hx2⟩ := HNX.out ao' c' W' q1 q2 q4 q5; have cz := hx1.cell 0 _ rfl; have fz := hx1.frozen 0; have HF1 := (show Hid _ from hx2 _ (SameBut.setCell G15 0 (.slice ao' (i + 1) c') W') (hx1.set 0 (.slice ao' (i + 1) c'))); clear q1 q2 q3 q4 q5 hx1 hx2 HNX HOWN HBEL HCL hN2)
            exact ⟨⟨i + 1, ao', c', ps ++ [(GP, j)], by omega, by go_num, HF1⟩, by simp [intOf]; omega⟩
      · obtain rfl : i = np := by omega
        have y1 : ¬ (i : Int) < (i : Int) := by omega
        have hF := hfi.out
        have rz : Row wr (w.heap.size + 1) 40 [nilS, nilS, nilS] := (hF.bel.block _ HR2.out.lt).trans HR2.out
        have rt := hF.r3
        have HFIN : Hid (∀ W3, SameBut (w.heap.size + 1) wr W3 → FreshPost T0 w (.returned (.agg #[.slice po i pc, .slice (some ⟨G4, 0, none⟩) i i, .slice (some ⟨G13, 0, none⟩) nb nb])) W3) := by
          intro W3 q5
          have hsz := HB1.out.2
          rw [HT0.out]
          exact ⟨po, pc, ps, G4, i, G13, nb, by simp, (hF.os.but q5 (by omega)).base (by omega), q5.below (HB1.out.1.trans (hF.bel.mono (by omega))) (by omega)⟩
        clear hF hfi rc
        go_wp2_with (first
          | (refine wpList_load_Row rfl 40 _ rfl _ _ _ rt rfl _ Try.underlying40 rfl (by kernel_rfl) ?_)
          | (refine wpList_store_Row rfl 40 _ _ rfl _ _ 0 _ [.slice po i pc, .slice (some ⟨G4, 0, none⟩) i i, .slice (some ⟨G13, 0, none⟩) nb nb] rz (by simp) rfl rfl (by kernel_rfl) (by simp [Value.oneCell']) ?_; intro w9 hr9 hs9))
        have hr := row_whole hr9 (by simp)
        exact bodyPost_ret_by (results_Row Try.results30 _ w9 (w.heap.size + 1) 40 _ _ rfl hr Try.underlying40 rfl (by kernel_rfl)) rfl (HFIN.out w9 hs9)
end Go.Proofs.Ythjndaeibbfgaaa

/-! The reference's chip: New. -/
namespace Go.Proofs.Ythjndaeibbfgaaa
open Go.RowKit

@[reducible] def INw (w2 : World) (t : St) (cf sv : List Value) (y0 y1 y4 y5 y6 y7 y8 y9 : Value) : (Nat → Bool) → Act → World → Prop := fun L a W => ∃ x18 x19 x20 x21 x22 x4 x5 po pc ps eB ec bB bc g, a = ⟨#[y0, y1, x4, x5, y4, y5, y6, y7, y8, y9, x18, x19, x20, x21, x22], []⟩ ∧ LI w2 t cf sv L x18 x19 x20 x21 x22 x4 x5 po pc ps eB ec bB bc g W

def RNewPost (c : Cfg) (w : World) (e : Ending) (w' : World) : Prop := Below w.heap.size w w' ∧ ((c.may ≠ 0 ∧ e = .returned (.tuple #[.pointer none, .int .i64 c.may])) ∨ (c.may = 0 ∧ ∃ F, e = .returned (.tuple #[.pointer (some ⟨F.g, 0, none⟩), .int .i64 0]) ∧ RAt w' F (layS c (freshC c)) ∧ (F.mo = none → F.mcap = 0) ∧ ∀ B ∈ F.blocks, w.heap.size ≤ B))

set_option maxHeartbeats 4000000 in
set_option maxRecDepth 100000 in
theorem rnew_any (c : Cfg) (w : World) :
    Calls Try.prog 8 #[.agg c.vals.toArray] w (RNewPost c w) := by
  have HMAY : Hid (∀ W, Calls Try.prog 29 #[.agg c.vals.toArray] W fun e w' => e = .returned (.int .i64 c.may) ∧ Below W.heap.size W w') := fun W => may_any c W
  have HC0 : Hid (c.may = 0 → ∀ W, Calls Try.prog 30 #[.agg c.vals.toArray] W (FreshPost (freshC c) W)) := by
    intro hc W
    obtain ⟨_, ⟨q1, q2⟩, ⟨f1, f2⟩, ⟨k1, k2⟩, ⟨a1, a2⟩, ⟨m1, m2⟩, _⟩ := may_facts hc
    exact rfresh_any c.cells c.slots c.fuses c.step c.keys c.erases c.area (2 + 2 * c.area).toNat c.cells.toNat (c.slots * c.fuses + c.keys).toNat (by omega) (by omega) (by omega) a1 a2 (by omega) ⟨m1, m2⟩ k1 k2 W
  have HOK : Hid (c.may = 0 → (layS c (freshC c)).Ok) := fun h1 => fresh_ok h1
  have HPOS : Hid (c.may = 0 → 0 < (freshC c).pages.length) := fun h1 => by have := (may_parts h1).2.2.2.2; have := (fresh_fit h1).1; omega
  have r0 : Row (w.alloc (.cells c.vals.toArray 23)) w.heap.size 23 c.vals := Row.at _ _ _ _ _ rfl rfl
  have bb : Below w.heap.size w (w.alloc (.cells c.vals.toArray 23)) := (Below.refl _ _).alloc (Nat.le_refl _) _
  obtain ⟨T0, hT0⟩ : ∃ T0, T0 = freshC c := ⟨_, rfl⟩
  rw [← hT0] at HC0 HOK HPOS
  have HT0 : Hid (T0 = freshC c) := hT0
  clear hT0
  obtain ⟨cells, slots, fuses, step, keys, erases, area⟩ := c
  simp only [Cfg.vals] at HMAY HC0 r0 bb ⊢
  generalize hmv : Cfg.may ⟨cells, slots, fuses, step, keys, erases, area⟩ = mv at *
  have HMV : Hid (Cfg.may ⟨cells, slots, fuses, step, keys, erases, area⟩ = mv) := hmv
  clear hmv
  have c0 := r0.cell 0 _ rfl
  have c1 := r0.cell 1 _ rfl
  have c2 := r0.cell 2 _ rfl
  have c3 := r0.cell 3 _ rfl
  have c4 := r0.cell 4 _ rfl
  have c5 := r0.cell 5 _ rfl
  have c6 := r0.cell 6 _ rfl
  by_cases hm : mv = 0
  · subst hm
    have hm' : ((0 : Int) != 0) = false := rfl
    have HC : Hid (∀ W, Calls Try.prog 30 #[.agg [Value.int .i64 cells, .int .i64 slots, .int .i64 fuses, .int .i64 step, .int .i64 keys, .int .i64 erases, .int .i64 area].toArray] W (FreshPost T0 W)) := fun W => HC0.out rfl W
    have HOK2 : Hid ((layS ⟨cells, slots, fuses, step, keys, erases, area⟩ T0).Ok ∧ 0 < T0.pages.length) := ⟨HOK.out rfl, HPOS.out rfl⟩
    clear HC0 HOK HPOS
    go_enter Try.func8, Try.ntmps8
    go_wp2_with (refine (HMAY.out _).mono ?_; rintro e w2 ⟨rfl, hb1⟩; have r0 : Row w2 w.heap.size 23 _ := (hb1.block _ r0.lt).trans r0; have bb := bb.trans (hb1.mono bb.size); clear hb1; have c0 := r0.cell 0 _ rfl; have c1 := r0.cell 1 _ rfl; have c2 := r0.cell 2 _ rfl; have c3 := r0.cell 3 _ rfl; have c4 := r0.cell 4 _ rfl; have c5 := r0.cell 5 _ rfl; have c6 := r0.cell 6 _ rfl)
    refine wp_region_inv (INw w2 T0 [.int .i64 cells, .int .i64 slots, .int .i64 fuses, .int .i64 step, .int .i64 keys, .int .i64 erases, .int .i64 area] [.int .i64 cells, .int .i64 slots, .int .i64 fuses, .int .i64 step, .int .i64 keys, .int .i64 erases, .int .i64 area] _ _ _ _ _ _ _ _) (by kernel_rfl) (by kernel_rfl) ⟨_, _, _, _, _, _, _, _, _, _, _, _, _, _, _, rfl, LI.zero w2 T0 _ _ _ _ _ _ _ _ _⟩ ?_ ?_
    · refine .cons ?_ (.cons ?_ (.cons ?_ (.cons ?_ (.cons ?_ (.cons ?_ (.cons ?_ .nil))))))
      all_goals (rintro L a W ⟨x18, x19, x20, x21, x22, x4, x5, po, pc, ps, eB, ec, bB, bc, g, rfl, hI⟩ hL hd K hK)
      · have r0 : Row W w.heap.size 23 [.int .i64 cells, .int .i64 slots, .int .i64 fuses, .int .i64 step, .int .i64 keys, .int .i64 erases, .int .i64 area] := (hI.bel.block _ r0.lt).trans r0
        have c0 := r0.cell 0 _ rfl
        have c1 := r0.cell 1 _ rfl
        have c2 := r0.cell 2 _ rfl
        have c3 := r0.cell 3 _ rfl
        have c4 := r0.cell 4 _ rfl
        have c5 := r0.cell 5 _ rfl
        have c6 := r0.cell 6 _ rfl
        rw [if_pos (by rfl)]
        go_simp
        exact hK.out _ _ ⟨_, _, _, _, _, _, _, _, _, _, _, _, _, _, _, rfl, hI.s0⟩
      · have r0 : Row W w.heap.size 23 [.int .i64 cells, .int .i64 slots, .int .i64 fuses, .int .i64 step, .int .i64 keys, .int .i64 erases, .int .i64 area] := (hI.bel.block _ r0.lt).trans r0
        have c0 := r0.cell 0 _ rfl
        have c1 := r0.cell 1 _ rfl
        have c2 := r0.cell 2 _ rfl
        have c3 := r0.cell 3 _ rfl
        have c4 := r0.cell 4 _ rfl
        have c5 := r0.cell 5 _ rfl
        have c6 := r0.cell 6 _ rfl
        rw [if_pos (by rfl)]
        go_simp
        exact hK.out _ _ ⟨_, _, _, _, _, _, _, _, _, _, _, _, _, _, _, rfl, hI.s1⟩
      · have hx := hI.e1 (hd 1 (by decide))
        subst hx
        rw [if_pos (by rfl)]
        go_simp
        refine (HC.out _).mono ?_
        rintro e w3 ⟨po', pc', ps', eB', ec', bB', bc', rfl, hos, hb3⟩
        exact hK.out _ _ ⟨_, _, _, _, _, _, _, _, _, _, _, _, _, _, _, rfl, hI.s2 hL hos hb3⟩
      · have hx := hI.e0 (hd 0 (by decide))
        have hy := (hI.e2 (hd 2 (by decide))).1
        subst hx hy
        rw [if_pos (by rfl)]
        go_simp
        exact hK.out _ _ ⟨_, _, _, _, _, _, _, _, _, _, _, _, _, _, _, rfl, hI.s3 (hd 2 (by decide))⟩
      · have hx := hI.e3 (hd 3 (by decide))
        subst hx
        rw [if_pos (by rfl)]
        go_simp
        exact hK.out _ _ ⟨_, _, _, _, _, _, _, _, _, _, _, _, _, _, _, rfl, hI.s4 hL (hd 3 (by decide))⟩
      · have hx := (hI.e4 (hd 4 (by decide))).1
        subst hx
        rw [if_pos (by rfl)]
        go_simp
        exact hK.out _ _ ⟨_, _, _, _, _, _, _, _, _, _, _, _, _, _, _, rfl, hI.s5 (hd 4 (by decide))⟩
      · rw [if_pos (by rfl)]
        go_simp
        exact hK.out _ _ ⟨_, _, _, _, _, _, _, _, _, _, _, _, _, _, _, rfl, hI.s6⟩
    · rintro L a W hall ⟨x18, x19, x20, x21, x22, x4, x5, po, pc, ps, eB, ec, bB, bc, g, rfl, hI⟩
      have hx4 := hI.e5 (hall 5 (by decide))
      have hx5 := hI.e6 (hall 6 (by decide))
      obtain ⟨_, q1, q2, q3, q4, q5⟩ := hI.e4 (hall 4 (by decide))
      obtain ⟨_, hos⟩ := hI.e2 (hall 2 (by decide))
      have hbel := hI.bel
      subst hx4 hx5
      obtain ⟨pB, rfl, hpB, _⟩ := hos.hasB HOK2.out.2
      have hrat : RAt W ⟨g, pB, pc, eB, ec, bB, bc, ps, none, 0, none⟩ (layS ⟨cells, slots, fuses, step, keys, erases, area⟩ T0) := hos.rat ⟨cells, slots, fuses, step, keys, erases, area⟩ 0 false (-1) [] g none 0 none q1 HOK2.out.1 (by rw [List.mem_cons, not_or]; exact ⟨q5 pB rfl, q4⟩) (fun B hB => by cases hB) (.inl rfl)
      have hsz2 := bb.size
      have hblk : ∀ B ∈ (⟨g, pB, pc, eB, ec, bB, bc, ps, none, 0, none⟩ : RF).blocks, w.heap.size ≤ B := by
        intro B hB
        have hB' : B = g ∨ B = pB ∨ B ∈ eB :: bB :: ps.map (·.1) := by
          simp only [RF.blocks, List.mem_cons, Option.toList, List.append_nil] at hB ⊢
          exact hB
        rcases hB' with rfl | rfl | hm
        · omega
        · omega
        · have := (hos.lt B hm).1; omega
      have bbW := bb.trans (hbel.mono bb.size)
      have HR : Hid (RNewPost ⟨cells, slots, fuses, step, keys, erases, area⟩ w (.returned (.tuple #[.pointer (some ⟨g, 0, none⟩), .int .i64 0])) W) := ⟨bbW, .inr ⟨HMV.out, ⟨g, pB, pc, eB, ec, bB, bc, ps, none, 0, none⟩, rfl, by rw [← HT0.out]; exact hrat, fun _ => rfl, hblk⟩⟩
      clear hI hall hrat hblk q1
      try dsimp only
      go_wp2
      go_ret2
      exact HR.out
  · have hm' : (mv != 0) = true := by simpa using hm
    have HMN : Hid (¬ mv = 0) := hm
    go_enter Try.func8, Try.ntmps8
    go_wp2_with (refine (HMAY.out _).mono ?_; rintro e w2 ⟨rfl, hb1⟩; have bb := bb.trans (hb1.mono bb.size); clear hb1)
    go_ret2
    exact ⟨bb, .inl ⟨by rw [HMV.out]; exact HMN.out, by rw [HMV.out]; rfl⟩⟩
end Go.Proofs.Ythjndaeibbfgaaa

/-! ChipDoes: holds. -/
namespace Go.Proofs.Ythjndaeibbfgaaa
open Go.RowKit

theorem new_good {c : Cfg} (hc : c.may = 0) : (layS c (freshC c)).Good := by
  have hm := may_facts hc
  have hp := (may_parts hc).2.2.2.2
  have hf := (fresh_fit hc).1
  refine ⟨by show (0 : Int) ≤ 0; omega, by show (-1 : Int) < _; omega, ?_, ?_, by show (0 : Nat) ≤ _; omega, ?_⟩
  · exact hm.2.2.2.2.2.2.2
  · intro e he
    have he' : e ∈ List.replicate (2 + 2 * c.area).toNat (0 : Int) := he
    rw [(List.mem_replicate.1 he').2]; omega
  · show 0 < (freshC c).pages.length
    omega

set_option maxHeartbeats 4000000 in
set_option maxRecDepth 100000 in
theorem does_any (c : Cfg) (w : World) (so : Option Addr) (n cap : Nat) (hn : n ≤ 1152921504606846976)
    (hso : ∀ j, j < n → ∃ SB off o, so = some ⟨SB, off, none⟩ ∧ SB < w.heap.size ∧ SIOk w w.heap.size SB off j o) :
    Calls Try.prog 3 #[.agg c.vals.toArray, .slice so n cap] w fun e w' => e = .returned (.bool true) ∧ Below w.heap.size w w' := by
  have HFX : Hid (∀ W, Calls Try.prog 6 #[] W fun e w' => e = .returned (.bool true) ∧ Below W.heap.size W w') := fun W => fixed_any W
  have HN1 : Hid (∀ W, Calls Try.prog 7 #[.agg c.vals.toArray] W (NewPost c W)) := fun W => cnew_any c W
  have HN2 : Hid (∀ W, Calls Try.prog 8 #[.agg c.vals.toArray] W (RNewPost c W)) := fun W => rnew_any c W
  have HMY : Hid (∀ W, Calls Try.prog 9 #[.agg c.vals.toArray] W fun e w' => e = .returned (.int .i64 c.may) ∧ Below W.heap.size W w') := fun W => cmay_any c W
  have HGM : Hid (∀ W G F, Below w.heap.size w W → c.may = 0 → (∃ S, CAt W G (layS c (freshC c)) S) → RAt W F (layS c (freshC c)) → (F.mo = none → F.mcap = 0) → (∀ B ∈ G.blocks, B ∉ F.blocks) → (∀ B, B ∈ G.blocks ∨ B ∈ F.blocks → w.heap.size ≤ B) → Calls Try.prog 10 #[.pointer (some ⟨G.g, 0, none⟩), .pointer (some ⟨F.g, 0, none⟩), .slice so n cap] W fun e w' => e = .returned (.bool true) ∧ Below w.heap.size W w') := by
    intro W G F hb hc h1 h2 h3 h4 h5
    refine game_any W w.heap.size G F (layS c (freshC c)) ⟨h1, h2, h4, new_good hc, h3⟩ (by show (0 : Int) ≤ 0; omega) h5 hb.size so n cap hn ?_
    intro j hj
    obtain ⟨SB, off, o, e, hS, ho⟩ := hso j hj
    exact ⟨SB, off, o, e, hS, ho.below hb hS⟩
  have r0 : Row (w.alloc (.cells c.vals.toArray 23)) w.heap.size 23 c.vals := Row.at _ _ _ _ _ rfl rfl
  have bb : Below w.heap.size w (w.alloc (.cells c.vals.toArray 23)) := (Below.refl _ _).alloc (Nat.le_refl _) _
  clear hso hn
  obtain ⟨s0, hs0⟩ : ∃ s, s = layS c (freshC c) := ⟨_, rfl⟩
  have HS0 : Hid (s0 = layS c (freshC c)) := hs0
  have HNE : Hid (∀ W e w', NewPost c W e w' → Below W.heap.size W w' ∧ ((c.may ≠ 0 ∧ e = .returned (.tuple #[.pointer none, .int .i64 c.may])) ∨ (c.may = 0 ∧ ∃ F, e = .returned (.tuple #[.pointer (some ⟨F.g, 0, none⟩), .int .i64 0]) ∧ (∃ S, CAt w' F s0 S) ∧ ∀ B ∈ F.blocks, W.heap.size ≤ B))) := by
    rintro W e w' ⟨h1, h2⟩
    rw [hs0]
    refine ⟨h1, ?_⟩
    rcases h2 with h2 | ⟨h2, F, h3, h4, h5⟩
    · exact .inl h2
    · exact .inr ⟨h2, F, h3, ⟨_, h4⟩, h5⟩
  have HRE : Hid (∀ W e w', RNewPost c W e w' → Below W.heap.size W w' ∧ ((c.may ≠ 0 ∧ e = .returned (.tuple #[.pointer none, .int .i64 c.may])) ∨ (c.may = 0 ∧ ∃ F, e = .returned (.tuple #[.pointer (some ⟨F.g, 0, none⟩), .int .i64 0]) ∧ RAt w' F s0 ∧ (F.mo = none → F.mcap = 0) ∧ ∀ B ∈ F.blocks, W.heap.size ≤ B))) := by
    rintro W e w' h
    rw [hs0]
    exact h
  rw [← hs0] at HGM
  clear hs0 HS0
  obtain ⟨mv, hmv⟩ : ∃ mv, mv = c.may := ⟨_, rfl⟩
  rw [← hmv] at HMY HGM HNE HRE
  clear hmv
  obtain ⟨P1, hP1⟩ : ∃ P, P = NewPost c := ⟨_, rfl⟩
  obtain ⟨P2, hP2⟩ : ∃ P, P = RNewPost c := ⟨_, rfl⟩
  rw [← hP1] at HN1 HNE
  rw [← hP2] at HN2 HRE
  clear hP1 hP2
  obtain ⟨cells, slots, fuses, step, keys, erases, area⟩ := c
  simp only [Cfg.vals] at HN1 HN2 HMY r0 bb ⊢
  have ne0 : (mv != mv) = false := by simp
  have c0 := r0.cell 0 _ rfl
  have c1 := r0.cell 1 _ rfl
  have c2 := r0.cell 2 _ rfl
  have c3 := r0.cell 3 _ rfl
  have c4 := r0.cell 4 _ rfl
  have c5 := r0.cell 5 _ rfl
  have c6 := r0.cell 6 _ rfl
  go_enter Try.func3, Try.ntmps3
  go_wp2_with fail
  refine (HFX.out _).mono ?_
  rintro e w1 ⟨rfl, hb1⟩
  have r1 : Row w1 w.heap.size 23 _ := (hb1.block _ r0.lt).trans r0
  have bb1 := bb.trans (hb1.mono bb.size)
  clear hb1 c0 c1 c2 c3 c4 c5 c6 r0 bb
  have c0 := r1.cell 0 _ rfl
  have c1 := r1.cell 1 _ rfl
  have c2 := r1.cell 2 _ rfl
  have c3 := r1.cell 3 _ rfl
  have c4 := r1.cell 4 _ rfl
  have c5 := r1.cell 5 _ rfl
  have c6 := r1.cell 6 _ rfl
  go_wp2_with fail
  refine (HN1.out _).mono ?_
  intro e w2 hp1
  obtain ⟨hb2, hp1⟩ := HNE.out _ _ _ hp1
  have r2 : Row w2 w.heap.size 23 _ := (hb2.block _ r1.lt).trans r1
  have bb2 := bb1.trans (hb2.mono bb1.size)
  have hsz2 := bb1.size
  clear hb2 c0 c1 c2 c3 c4 c5 c6 r1 HNE
  have c0 := r2.cell 0 _ rfl
  have c1 := r2.cell 1 _ rfl
  have c2 := r2.cell 2 _ rfl
  have c3 := r2.cell 3 _ rfl
  have c4 := r2.cell 4 _ rfl
  have c5 := r2.cell 5 _ rfl
  have c6 := r2.cell 6 _ rfl
  rcases hp1 with ⟨hm, rfl⟩ | ⟨hm, G, rfl, hG, hGb⟩
  · go_wp2_with fail
    refine (HN2.out _).mono ?_
    intro e w3 hp2
    obtain ⟨hb3, hp2⟩ := HRE.out _ _ _ hp2
    obtain rfl : e = .returned (.tuple #[.pointer none, .int .i64 mv]) := by
      rcases hp2 with h | ⟨h, _⟩
      · exact h.2
      · exact absurd h hm
    have r3 : Row w3 w.heap.size 23 _ := (hb3.block _ r2.lt).trans r2
    have bb3 := bb2.trans (hb3.mono bb2.size)
    clear hb3 hp2 c0 c1 c2 c3 c4 c5 c6 r2
    have c0 := r3.cell 0 _ rfl
    have c1 := r3.cell 1 _ rfl
    have c2 := r3.cell 2 _ rfl
    have c3 := r3.cell 3 _ rfl
    have c4 := r3.cell 4 _ rfl
    have c5 := r3.cell 5 _ rfl
    have c6 := r3.cell 6 _ rfl
    go_wp2_with fail
    refine (HMY.out _).mono ?_
    rintro e w4 ⟨rfl, hb4⟩
    have bb4 := bb3.trans (hb4.mono bb3.size)
    clear hb4 c0 c1 c2 c3 c4 c5 c6 r3
    go_wp2
    go_ret
    exact ⟨rfl, bb4⟩
  · subst hm
    have HG2 : Hid (∃ S, CAt w2 G s0 S) := hG
    have HGB : Hid (∀ B ∈ G.blocks, w.heap.size ≤ B ∧ B < w2.heap.size) := by
      obtain ⟨S, h⟩ := hG
      exact fun B hB => ⟨Nat.le_trans hsz2 (hGb B hB), h.blt B hB⟩
    clear hG hGb
    go_wp2_with fail
    refine (HN2.out _).mono ?_
    intro e w3 hp2
    obtain ⟨hb3, hp2⟩ := HRE.out _ _ _ hp2
    obtain ⟨F, rfl, hF, hFm, hFb⟩ : ∃ F, e = .returned (.tuple #[.pointer (some ⟨F.g, 0, none⟩), .int .i64 0]) ∧ RAt w3 F s0 ∧ (F.mo = none → F.mcap = 0) ∧ ∀ B ∈ F.blocks, w2.heap.size ≤ B := by
      rcases hp2 with h | ⟨_, h⟩
      · exact absurd rfl h.1
      · exact h
    have r3 : Row w3 w.heap.size 23 _ := (hb3.block _ r2.lt).trans r2
    have bb3 := bb2.trans (hb3.mono bb2.size)
    have HG3 : Hid (∃ S, CAt w3 G s0 S) := by
      obtain ⟨S, h⟩ := HG2.out
      exact ⟨S, h.keep fun B hB => hb3.block B (h.blt B hB)⟩
    have HF3 : Hid (RAt w3 F s0 ∧ (F.mo = none → F.mcap = 0) ∧ ∀ B ∈ F.blocks, w2.heap.size ≤ B) := ⟨hF, hFm, hFb⟩
    have hbs := bb2.size
    clear hb3 hp2 c0 c1 c2 c3 c4 c5 c6 r2 hF hFm hFb HG2
    have c0 := r3.cell 0 _ rfl
    have c1 := r3.cell 1 _ rfl
    have c2 := r3.cell 2 _ rfl
    have c3 := r3.cell 3 _ rfl
    have c4 := r3.cell 4 _ rfl
    have c5 := r3.cell 5 _ rfl
    have c6 := r3.cell 6 _ rfl
    go_wp2_with fail
    refine (HMY.out _).mono ?_
    rintro e w4 ⟨rfl, hb4⟩
    have bb4 := bb3.trans (hb4.mono bb3.size)
    have HGC : Hid (Calls Try.prog 10 #[.pointer (some ⟨G.g, 0, none⟩), .pointer (some ⟨F.g, 0, none⟩), .slice so n cap] w4 fun e w' => e = .returned (.bool true) ∧ Below w.heap.size w4 w') := by
      obtain ⟨S, h⟩ := HG3.out
      obtain ⟨f1, f2, f3⟩ := HF3.out
      have g1 := HGB.out
      refine HGM.out w4 G F bb4 (by first | trivial | rfl) ⟨S, h.keep fun B hB => hb4.block B (h.blt B hB)⟩ (f1.keep fun B hB => hb4.block B (f1.blt B hB)) f2 (fun B k1 k2 => ?_) ?_
      · have := (g1 B k1).2; have := f3 B k2; omega
      · rintro B (k | k)
        · exact (g1 B k).1
        · have := f3 B k; omega
    clear hb4 c0 c1 c2 c3 c4 c5 c6 r3 HG3 HF3 HGB HGM
    go_wp2_with (refine HGC.out.mono ?_; rintro e w5 ⟨rfl, hb5⟩)
    go_ret
    exact ⟨rfl, bb4.trans hb5⟩
end Go.Proofs.Ythjndaeibbfgaaa
