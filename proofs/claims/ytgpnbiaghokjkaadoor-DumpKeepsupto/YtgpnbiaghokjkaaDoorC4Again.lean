
import Derived.Test.YtgpnbiaghokjkaaDoorC4Make
/-! The code's chip: again. (Printed by tools/genagain.py.) -/
namespace Go.Proofs.YtgpnbiaghokjkaaDoor
open Go.RowKit

/-- A state in memory of its own, each row just as long as what it holds. -/
structure OwnX (w : World) (N : Nat) (t : St) (pB eB bB : Nat) (ps : List (Nat × Nat)) : Prop where
  len : ps.length = t.pages.length
  pg : Row w pB 57 (List.zipWith pgVal ps t.pages)
  page : ∀ (i : Nat) (q : Nat × Nat) (p : List (List By)), ps[i]? = some q → t.pages[i]? = some p → Row w q.1 56 (p.flatten.map B8)
  er : Row w eB 3 (t.erases.map (Value.int .i64))
  bl : Row w bB 4 (t.blown.map Value.bool)
  nd : (pB :: eB :: bB :: ps.map (·.1)).Nodup
  lo : ∀ b ∈ pB :: eB :: bB :: ps.map (·.1), N ≤ b
  cap : ∀ (i : Nat) (q : Nat × Nat) (p : List (List By)), ps[i]? = some q → t.pages[i]? = some p → q.2 = p.length

def ownVals (t : St) (pB eB bB : Nat) : List Value := [.slice (some ⟨pB, 0, none⟩) t.pages.length t.pages.length, .slice (some ⟨eB, 0, none⟩) t.erases.length t.erases.length, .slice (some ⟨bB, 0, none⟩) t.blown.length t.blown.length]

structure AgI (W1 : World) (sz : Nat) (v : SV) (np ne nb : Nat) (L : Nat → Bool) (x6 x7 x8 x9 x10 x11 x12 x13 x14 x15 x16 x17 x18 x3 : Value) (G3 G7 G11 G13 : Nat) (W : World) : Prop where
  bel : KeptL [] W1 W
  b3 : L 3 = true → W1.heap.size ≤ G3 ∧ G3 < W.heap.size
  r3 : L 3 = true → Row W G3 57 (List.replicate (np * 1) (Value.slice none 0 0))
  b7 : L 7 = true → W1.heap.size ≤ G7 ∧ G7 < W.heap.size
  r7 : L 7 = true → Row W G7 3 (List.replicate (ne * 1) (Value.int .i64 0))
  b11 : L 11 = true → W1.heap.size ≤ G11 ∧ G11 < W.heap.size
  r11 : L 11 = true → Row W G11 4 (List.replicate (nb * 1) (Value.bool false))
  b13 : L 13 = true → W1.heap.size ≤ G13 ∧ G13 < W.heap.size
  r13 : L 13 = true → L 14 = false → Row W G13 29 ([nilS, nilS, nilS])
  t13 : L 14 = true → Row W G13 29 ([.slice (some ⟨G3, 0, none⟩) np np, .slice (some ⟨G7, 0, none⟩) ne ne, .slice (some ⟨G11, 0, none⟩) nb nb])
  d3_7 : L 3 = true → L 7 = true → G3 ≠ G7
  d3_11 : L 3 = true → L 11 = true → G3 ≠ G11
  d3_13 : L 3 = true → L 13 = true → G3 ≠ G13
  d7_11 : L 7 = true → L 11 = true → G7 ≠ G11
  d7_13 : L 7 = true → L 13 = true → G7 ≠ G13
  d11_13 : L 11 = true → L 13 = true → G11 ≠ G13
  p0 : L 0 = true → x6 = .pointer (some ⟨sz, 0, none⟩)
  p1 : L 1 = true → x7 = .slice v.po np v.pc
  p2 : L 2 = true → x8 = .int .i64 (np : Int)
  p3 : L 3 = true → x9 = .slice (some ⟨G3, 0, none⟩) np np
  p4 : L 4 = true → x10 = .pointer (some ⟨sz, 1, none⟩)
  p5 : L 5 = true → x11 = .slice v.eo ne v.ec
  p6 : L 6 = true → x12 = .int .i64 (ne : Int)
  p7 : L 7 = true → x13 = .slice (some ⟨G7, 0, none⟩) ne ne
  p8 : L 8 = true → x14 = .pointer (some ⟨sz, 2, none⟩)
  p9 : L 9 = true → x15 = .slice v.bo nb v.bc
  p10 : L 10 = true → x16 = .int .i64 (nb : Int)
  p11 : L 11 = true → x17 = .slice (some ⟨G11, 0, none⟩) nb nb
  p12 : L 12 = true → x18 = .agg #[.slice (some ⟨G3, 0, none⟩) np np, .slice (some ⟨G7, 0, none⟩) ne ne, .slice (some ⟨G11, 0, none⟩) nb nb]
  p13 : L 13 = true → x3 = .pointer (some ⟨G13, 0, none⟩)
  l12_3 : L 12 = true → L 3 = true
  l12_7 : L 12 = true → L 7 = true
  l12_11 : L 12 = true → L 11 = true
  l14_12 : L 14 = true → L 12 = true
  l14_13 : L 14 = true → L 13 = true
section
variable {W1 : World} {sz : Nat} {v : SV} {np ne nb : Nat} {L : Nat → Bool} {x6 x7 x8 x9 x10 x11 x12 x13 x14 x15 x16 x17 x18 x3 : Value} {G3 G7 G11 G13 : Nat} {W W2 : World}
theorem AgI.zero (W1 : World) (sz : Nat) (v : SV) (np ne nb : Nat) (x6 x7 x8 x9 x10 x11 x12 x13 x14 x15 x16 x17 x18 x3 : Value) : AgI W1 sz v np ne nb (fun _ => false) x6 x7 x8 x9 x10 x11 x12 x13 x14 x15 x16 x17 x18 x3 0 0 0 0 W1.drew :=
  ⟨(KeptL.refl _ _).dr ⟨1, rfl⟩, fun k => (by cases k), fun k => (by cases k), fun k => (by cases k), fun k => (by cases k), fun k => (by cases k), fun k => (by cases k), fun k => (by cases k), fun k _ => (by cases k), fun k => (by cases k), fun k _ => (by cases k), fun k _ => (by cases k), fun k _ => (by cases k), fun k _ => (by cases k), fun k _ => (by cases k), fun k _ => (by cases k), fun k => (by cases k), fun k => (by cases k), fun k => (by cases k), fun k => (by cases k), fun k => (by cases k), fun k => (by cases k), fun k => (by cases k), fun k => (by cases k), fun k => (by cases k), fun k => (by cases k), fun k => (by cases k), fun k => (by cases k), fun k => (by cases k), fun k => (by cases k), fun k => (by cases k), fun k => (by cases k), fun k => (by cases k), fun k => (by cases k), fun k => (by cases k)⟩
theorem AgI.mono (h : AgI W1 sz v np ne nb L x6 x7 x8 x9 x10 x11 x12 x13 x14 x15 x16 x17 x18 x3 G3 G7 G11 G13 W) (hb : Below W.heap.size W W2) : AgI W1 sz v np ne nb L x6 x7 x8 x9 x10 x11 x12 x13 x14 x15 x16 x17 x18 x3 G3 G7 G11 G13 W2 :=
  ⟨h.bel.below hb h.bel.size, fun k => ⟨(h.b3 k).1, Nat.lt_of_lt_of_le (h.b3 k).2 hb.size⟩, fun k => (hb.block _ (h.b3 k).2).trans (h.r3 k), fun k => ⟨(h.b7 k).1, Nat.lt_of_lt_of_le (h.b7 k).2 hb.size⟩, fun k => (hb.block _ (h.b7 k).2).trans (h.r7 k), fun k => ⟨(h.b11 k).1, Nat.lt_of_lt_of_le (h.b11 k).2 hb.size⟩, fun k => (hb.block _ (h.b11 k).2).trans (h.r11 k), fun k => ⟨(h.b13 k).1, Nat.lt_of_lt_of_le (h.b13 k).2 hb.size⟩, fun k k2 => (hb.block _ (h.b13 k).2).trans (h.r13 k k2), fun k => (hb.block _ (h.b13 ((fun k => h.l14_13 (k)) k)).2).trans (h.t13 k), h.d3_7, h.d3_11, h.d3_13, h.d7_11, h.d7_13, h.d11_13, h.p0, h.p1, h.p2, h.p3, h.p4, h.p5, h.p6, h.p7, h.p8, h.p9, h.p10, h.p11, h.p12, h.p13, h.l12_3, h.l12_7, h.l12_11, h.l14_12, h.l14_13⟩
theorem AgI.s3 (h : AgI W1 sz v np ne nb L x6 x7 x8 x9 x10 x11 x12 x13 x14 x15 x16 x17 x18 x3 G3 G7 G11 G13 W) (hL : L 3 = false) : AgI W1 sz v np ne nb (upd L 3) x6 x7 x8 (.slice (some ⟨W.heap.size, 0, none⟩) np np) x10 x11 x12 x13 x14 x15 x16 x17 x18 x3 W.heap.size G7 G11 G13 (W.alloc (.cells (List.replicate (np * 1) (Value.slice none 0 0)).toArray 57)) :=
  have m := h.mono (below_alloc W (.cells (List.replicate (np * 1) (Value.slice none 0 0)).toArray 57))
  ⟨m.bel, fun _ => ⟨h.bel.size, by simp⟩, fun _ => heap_alloc_new W _, m.b7, m.r7, m.b11, m.r11, m.b13, m.r13, fun k => no_of (fun k => h.l12_3 (h.l14_12 (k))) hL k, fun _ k => (Nat.ne_of_lt (h.b7 k).2).symm, fun _ k => (Nat.ne_of_lt (h.b11 k).2).symm, fun _ k => (Nat.ne_of_lt (h.b13 k).2).symm, m.d7_11, m.d7_13, m.d11_13, m.p0, m.p1, m.p2, fun _ => rfl, m.p4, m.p5, m.p6, m.p7, m.p8, m.p9, m.p10, m.p11, fun k => no_of (fun k => h.l12_3 (k)) hL k, m.p13, fun _ => rfl, m.l12_7, m.l12_11, m.l14_12, m.l14_13⟩
theorem AgI.s7 (h : AgI W1 sz v np ne nb L x6 x7 x8 x9 x10 x11 x12 x13 x14 x15 x16 x17 x18 x3 G3 G7 G11 G13 W) (hL : L 7 = false) : AgI W1 sz v np ne nb (upd L 7) x6 x7 x8 x9 x10 x11 x12 (.slice (some ⟨W.heap.size, 0, none⟩) ne ne) x14 x15 x16 x17 x18 x3 G3 W.heap.size G11 G13 (W.alloc (.cells (List.replicate (ne * 1) (Value.int .i64 0)).toArray 3)) :=
  have m := h.mono (below_alloc W (.cells (List.replicate (ne * 1) (Value.int .i64 0)).toArray 3))
  ⟨m.bel, m.b3, m.r3, fun _ => ⟨h.bel.size, by simp⟩, fun _ => heap_alloc_new W _, m.b11, m.r11, m.b13, m.r13, fun k => no_of (fun k => h.l12_7 (h.l14_12 (k))) hL k, fun k _ => Nat.ne_of_lt (h.b3 k).2, m.d3_11, m.d3_13, fun _ k => (Nat.ne_of_lt (h.b11 k).2).symm, fun _ k => (Nat.ne_of_lt (h.b13 k).2).symm, m.d11_13, m.p0, m.p1, m.p2, m.p3, m.p4, m.p5, m.p6, fun _ => rfl, m.p8, m.p9, m.p10, m.p11, fun k => no_of (fun k => h.l12_7 (k)) hL k, m.p13, m.l12_3, fun _ => rfl, m.l12_11, m.l14_12, m.l14_13⟩
theorem AgI.s11 (h : AgI W1 sz v np ne nb L x6 x7 x8 x9 x10 x11 x12 x13 x14 x15 x16 x17 x18 x3 G3 G7 G11 G13 W) (hL : L 11 = false) : AgI W1 sz v np ne nb (upd L 11) x6 x7 x8 x9 x10 x11 x12 x13 x14 x15 x16 (.slice (some ⟨W.heap.size, 0, none⟩) nb nb) x18 x3 G3 G7 W.heap.size G13 (W.alloc (.cells (List.replicate (nb * 1) (Value.bool false)).toArray 4)) :=
  have m := h.mono (below_alloc W (.cells (List.replicate (nb * 1) (Value.bool false)).toArray 4))
  ⟨m.bel, m.b3, m.r3, m.b7, m.r7, fun _ => ⟨h.bel.size, by simp⟩, fun _ => heap_alloc_new W _, m.b13, m.r13, fun k => no_of (fun k => h.l12_11 (h.l14_12 (k))) hL k, m.d3_7, fun k _ => Nat.ne_of_lt (h.b3 k).2, m.d3_13, fun k _ => Nat.ne_of_lt (h.b7 k).2, m.d7_13, fun _ k => (Nat.ne_of_lt (h.b13 k).2).symm, m.p0, m.p1, m.p2, m.p3, m.p4, m.p5, m.p6, m.p7, m.p8, m.p9, m.p10, fun _ => rfl, fun k => no_of (fun k => h.l12_11 (k)) hL k, m.p13, m.l12_3, m.l12_7, fun _ => rfl, m.l14_12, m.l14_13⟩
theorem AgI.s13 (h : AgI W1 sz v np ne nb L x6 x7 x8 x9 x10 x11 x12 x13 x14 x15 x16 x17 x18 x3 G3 G7 G11 G13 W) (hL : L 13 = false) : AgI W1 sz v np ne nb (upd L 13) x6 x7 x8 x9 x10 x11 x12 x13 x14 x15 x16 x17 x18 (.pointer (some ⟨W.heap.size, 0, none⟩)) G3 G7 G11 W.heap.size (W.alloc (.cells #[.slice none 0 0, .slice none 0 0, .slice none 0 0] 29)) :=
  have m := h.mono (below_alloc W (.cells #[.slice none 0 0, .slice none 0 0, .slice none 0 0] 29))
  ⟨m.bel, m.b3, m.r3, m.b7, m.r7, m.b11, m.r11, fun _ => ⟨h.bel.size, by simp⟩, fun _ _ => heap_alloc_new W _, fun k => no_of (fun k => h.l14_13 (k)) hL k, m.d3_7, m.d3_11, fun k _ => Nat.ne_of_lt (h.b3 k).2, m.d7_11, fun k _ => Nat.ne_of_lt (h.b7 k).2, fun k _ => Nat.ne_of_lt (h.b11 k).2, m.p0, m.p1, m.p2, m.p3, m.p4, m.p5, m.p6, m.p7, m.p8, m.p9, m.p10, m.p11, m.p12, fun _ => rfl, m.l12_3, m.l12_7, m.l12_11, m.l14_12, fun _ => rfl⟩
end
@[reducible] def IAgI (W1 : World) (sz : Nat) (v : SV) (np ne nb : Nat) (y0 y1 y2 y4 y5 y19 y20 y21 y22 y23 y24 y25 y26 y27 y28 y29 y30 y31 y32 y33 y34 y35 y36 y37 y38 y39 y40 y41 y42 y43 y44 y45 y46 y47 y48 y49 y50 y51 y52 : Value) : (Nat → Bool) → Act → World → Prop := fun L a W => ∃ x6 x7 x8 x9 x10 x11 x12 x13 x14 x15 x16 x17 x18 x3 G3 G7 G11 G13, a = ⟨#[y0, y1, y2, x3, y4, y5, x6, x7, x8, x9, x10, x11, x12, x13, x14, x15, x16, x17, x18, y19, y20, y21, y22, y23, y24, y25, y26, y27, y28, y29, y30, y31, y32, y33, y34, y35, y36, y37, y38, y39, y40, y41, y42, y43, y44, y45, y46, y47, y48, y49, y50, y51, y52], []⟩ ∧ AgI W1 sz v np ne nb L x6 x7 x8 x9 x10 x11 x12 x13 x14 x15 x16 x17 x18 x3 G3 G7 G11 G13 W

structure AhI (W1 : World) (gp tB np i n : Nat) (qo : Option Addr) (qc : Nat) (old : List Value) (L : Nat → Bool) (x27 x28 x29 x30 x31 x32 x33 : Value) (G5 : Nat) (W : World) : Prop where
  bel : KeptL [gp] W1 W
  og : gp < W1.heap.size
  o0 : L 7 = false → Row W gp 57 (old)
  o1 : L 7 = true → Row W gp 57 (old.set i (.slice (some ⟨G5, 0, none⟩) n n))
  b5 : L 5 = true → W1.heap.size ≤ G5 ∧ G5 < W.heap.size
  r5 : L 5 = true → Row W G5 56 (List.replicate (n * 32) (Value.int .u8 0))
  p0 : L 0 = true → x27 = .pointer (some ⟨tB, 0, none⟩)
  p1 : L 1 = true → x28 = .slice (some ⟨gp, 0, none⟩) np np
  p2 : L 2 = true → x29 = .int .i64 (i : Int)
  p3 : L 3 = true → x30 = .slice qo n qc
  p4 : L 4 = true → x31 = .int .i64 (n : Int)
  p5 : L 5 = true → x32 = .slice (some ⟨G5, 0, none⟩) n n
  p6 : L 6 = true → x33 = .pointer (some ⟨gp, i, none⟩)
  l7_5 : L 7 = true → L 5 = true
section
variable {W1 : World} {gp tB np i n : Nat} {qo : Option Addr} {qc : Nat} {old : List Value} {L : Nat → Bool} {x27 x28 x29 x30 x31 x32 x33 : Value} {G5 : Nat} {W W2 : World}
theorem AhI.zero (W1 : World) (gp tB np i n : Nat) (qo : Option Addr) (qc : Nat) (old : List Value) (x27 x28 x29 x30 x31 x32 x33 : Value) (hgp : gp < W1.heap.size) (ho : Row W1 gp 57 (old)) : AhI W1 gp tB np i n qo qc old (fun _ => false) x27 x28 x29 x30 x31 x32 x33 0 W1.drew :=
  ⟨(KeptL.refl _ _).dr ⟨1, rfl⟩, hgp, fun _ => ho, fun k => (by cases k), fun k => (by cases k), fun k => (by cases k), fun k => (by cases k), fun k => (by cases k), fun k => (by cases k), fun k => (by cases k), fun k => (by cases k), fun k => (by cases k), fun k => (by cases k), fun k => (by cases k)⟩
theorem AhI.mono (h : AhI W1 gp tB np i n qo qc old L x27 x28 x29 x30 x31 x32 x33 G5 W) (hb : Below W.heap.size W W2) : AhI W1 gp tB np i n qo qc old L x27 x28 x29 x30 x31 x32 x33 G5 W2 :=
  ⟨h.bel.below hb h.bel.size, h.og, fun k => (hb.block _ (Nat.lt_of_lt_of_le h.og h.bel.size)).trans (h.o0 k), fun k => (hb.block _ (Nat.lt_of_lt_of_le h.og h.bel.size)).trans (h.o1 k), fun k => ⟨(h.b5 k).1, Nat.lt_of_lt_of_le (h.b5 k).2 hb.size⟩, fun k => (hb.block _ (h.b5 k).2).trans (h.r5 k), h.p0, h.p1, h.p2, h.p3, h.p4, h.p5, h.p6, h.l7_5⟩
theorem AhI.s5 (h : AhI W1 gp tB np i n qo qc old L x27 x28 x29 x30 x31 x32 x33 G5 W) (hL : L 5 = false) : AhI W1 gp tB np i n qo qc old (upd L 5) x27 x28 x29 x30 x31 (.slice (some ⟨W.heap.size, 0, none⟩) n n) x33 W.heap.size (W.alloc (.cells (List.replicate (n * 32) (Value.int .u8 0)).toArray 56)) :=
  have m := h.mono (below_alloc W (.cells (List.replicate (n * 32) (Value.int .u8 0)).toArray 56))
  ⟨m.bel, m.og, m.o0, fun k => no_of (fun k => h.l7_5 (k)) hL k, fun _ => ⟨h.bel.size, by simp⟩, fun _ => heap_alloc_new W _, m.p0, m.p1, m.p2, m.p3, m.p4, fun _ => rfl, m.p6, fun _ => rfl⟩
end
@[reducible] def IAhI (W1 : World) (gp tB np i n : Nat) (qo : Option Addr) (qc : Nat) (old : List Value) (y0 y1 y2 y3 y4 y5 y6 y7 y8 y9 y10 y11 y12 y13 y14 y15 y16 y17 y18 y19 y20 y21 y22 y23 y24 y25 y26 y34 y35 y36 y37 y38 y39 y40 y41 y42 y43 y44 y45 y46 y47 y48 y49 y50 y51 y52 : Value) : (Nat → Bool) → Act → World → Prop := fun L a W => ∃ x27 x28 x29 x30 x31 x32 x33 G5, a = ⟨#[y0, y1, y2, y3, y4, y5, y6, y7, y8, y9, y10, y11, y12, y13, y14, y15, y16, y17, y18, y19, y20, y21, y22, y23, y24, y25, y26, x27, x28, x29, x30, x31, x32, x33, y34, y35, y36, y37, y38, y39, y40, y41, y42, y43, y44, y45, y46, y47, y48, y49, y50, y51, y52], []⟩ ∧ AhI W1 gp tB np i n qo qc old L x27 x28 x29 x30 x31 x32 x33 G5 W

/-- How far again has come: its first i pages. -/
structure AG (w : World) (TT : Nat) (vs : List Value) (t : St) (pB eB bB tB i : Nat) (ps : List (Nat × Nat)) (W : World) : Prop where
  bel : Below w.heap.size w W
  rs : Row W w.heap.size TT vs
  rz : Row W (w.heap.size + 1) 29 [nilS, nilS, nilS]
  rt : Row W tB 29 (ownVals t pB eB bB)
  rp : Row W pB 57 (List.zipWith pgVal ps (t.pages.take i) ++ List.replicate (t.pages.length - i) nilS)
  re : Row W eB 3 (List.replicate t.erases.length (.int .i64 0))
  rb : Row W bB 4 (List.replicate t.blown.length (.bool false))
  pgs : ∀ (j : Nat) (q : Nat × Nat) (p : List (List By)), ps[j]? = some q → t.pages[j]? = some p → Row W q.1 56 (p.flatten.map B8)
  len : ps.length = i
  nd : (tB :: pB :: eB :: bB :: ps.map (·.1)).Nodup
  lo : ∀ b ∈ tB :: pB :: eB :: bB :: ps.map (·.1), w.heap.size + 2 ≤ b ∧ b < W.heap.size
  cap : ∀ (j : Nat) (q : Nat × Nat) (p : List (List By)), ps[j]? = some q → t.pages[j]? = some p → q.2 = p.length

theorem AG.push {w : World} {TT : Nat} {vs : List Value} {t : St} {pB eB bB tB i : Nat} {ps : List (Nat × Nat)} {W W' : World} (h : AG w TT vs t pB eB bB tB i ps W) (hi : i < t.pages.length) (hk : KeptL [pB] W W') (G : Nat) (hG : W.heap.size ≤ G) (hG2 : G < W'.heap.size)
    (hp : Row W' pB 57 ((List.zipWith pgVal ps (t.pages.take i) ++ List.replicate (t.pages.length - i) nilS).set i (.slice (some ⟨G, 0, none⟩) (t.pages.getD i []).length (t.pages.getD i []).length))) (hr : Row W' G 56 ((t.pages.getD i []).flatten.map B8)) :
    AG w TT vs t pB eB bB tB (i + 1) (ps ++ [(G, (t.pages.getD i []).length)]) W' := by
  have hlo := h.lo
  have hnd := h.nd
  have hpp : t.pages[i]? = some (t.pages.getD i []) := by rw [List.getD_eq_getElem?_getD, List.getElem?_eq_getElem hi]; rfl
  have hbl : ∀ b ∈ tB :: pB :: eB :: bB :: ps.map (·.1), b ≠ pB → W'.heap[b]? = W.heap[b]? := fun b hb hne => hk.block b (hlo b hb).2 (by simpa using hne)
  simp only [List.nodup_cons, List.mem_cons, not_or] at hnd
  obtain ⟨⟨n1, n2, n3, n4⟩, ⟨m1, m2, m3⟩, ⟨o1, o2⟩, u1, hps⟩ := hnd
  have hpb := (hlo pB (by simp)).1
  refine ⟨⟨hk.os.trans h.bel.os, hk.tape.trans h.bel.tape, hk.output.trans h.bel.output, Nat.le_trans h.bel.size hk.size, fun k hk2 => (hk.block k (by have := h.bel.size; omega) (by simp; omega)).trans (h.bel.block k hk2)⟩, (hk.block _ h.rs.lt (by simp; omega)).trans h.rs, (hk.block _ h.rz.lt (by simp; omega)).trans h.rz, (hbl tB (by simp) n1).trans h.rt, ?_, (hbl eB (by simp) (Ne.symm m1)).trans h.re, (hbl bB (by simp) (Ne.symm m2)).trans h.rb, ?_, by rw [List.length_append, h.len]; rfl, ?_, ?_, ?_⟩
  · have e1 : (List.zipWith pgVal ps (t.pages.take i)).length = i := by rw [List.length_zipWith, h.len, List.length_take]; omega
    rw [List.set_append_right _ _ (by omega), e1, Nat.sub_self, show t.pages.length - i = (t.pages.length - (i + 1)) + 1 by omega, List.replicate_succ, List.set_cons_zero] at hp
    rw [List.take_add_one, hpp, Option.toList, List.zipWith_append (by rw [h.len, List.length_take]; omega), List.append_assoc]
    exact hp
  · intro j q p hq hp2
    by_cases hj : j < ps.length
    · rw [List.getElem?_append_left hj] at hq
      have hm : q.1 ∈ ps.map (·.1) := List.mem_map_of_mem (List.mem_of_getElem? hq)
      exact (hbl q.1 (by simp only [List.mem_cons]; exact .inr (.inr (.inr (.inr hm)))) (fun e => m3 (e ▸ hm))).trans (h.pgs j q p hq hp2)
    · have h1 := (List.getElem?_eq_some_iff.1 hq).1
      obtain rfl : j = ps.length := by simp at h1; omega
      rw [List.getElem?_append_right (Nat.le_refl _), Nat.sub_self] at hq
      simp at hq
      rw [h.len, hpp] at hp2
      injection hp2 with hp2
      subst hq hp2
      exact hr
  · have e : tB :: pB :: eB :: bB :: (ps ++ [(G, (t.pages.getD i []).length)]).map (·.1) = (tB :: pB :: eB :: bB :: ps.map (·.1)) ++ [G] := by simp
    rw [e]
    refine List.nodup_append.2 ⟨h.nd, by simp, ?_⟩
    intro a ha b hb e2
    simp at hb
    subst hb e2
    have := (hlo a ha).2
    omega
  · intro b hb
    have e : tB :: pB :: eB :: bB :: (ps ++ [(G, (t.pages.getD i []).length)]).map (·.1) = (tB :: pB :: eB :: bB :: ps.map (·.1)) ++ [G] := by simp
    rw [e] at hb
    rcases List.mem_append.1 hb with hb | hb
    · exact ⟨(hlo b hb).1, Nat.lt_of_lt_of_le (hlo b hb).2 hk.size⟩
    · simp at hb
      subst hb
      refine ⟨?_, hG2⟩
      have := (hlo pB (by simp)).2
      omega
  · intro j q p hq hp2
    by_cases hj : j < ps.length
    · rw [List.getElem?_append_left hj] at hq
      exact h.cap j q p hq hp2
    · have h1 := (List.getElem?_eq_some_iff.1 hq).1
      obtain rfl : j = ps.length := by simp at h1; omega
      rw [List.getElem?_append_right (Nat.le_refl _), Nat.sub_self] at hq
      simp at hq
      rw [h.len, hpp] at hp2
      injection hp2 with hp2
      subst hq hp2
      rfl

/-- The end: the numbers and the fuses copied, the answer told. -/
theorem AG.fin {w : World} {TT : Nat} {vs : List Value} {t : St} {pB eB bB tB : Nat} {ps : List (Nat × Nat)} {W W1 W2 W3 : World} (h : AG w TT vs t pB eB bB tB t.pages.length ps W) (h1 : Row W1 eB 3 (t.erases.map (Value.int .i64))) (s1 : SameBut eB W W1) (h2 : Row W2 bB 4 (t.blown.map Value.bool)) (s2 : SameBut bB W1 W2) (s3 : SameBut (w.heap.size + 1) W2 W3) :
    OwnX W3 w.heap.size t pB eB bB ps ∧ Below w.heap.size w W3 := by
  have hlo := h.lo
  have hnd := h.nd
  simp only [List.nodup_cons, List.mem_cons, not_or] at hnd
  obtain ⟨⟨n1, n2, n3, n4⟩, ⟨m1, m2, m3⟩, ⟨o1, o2⟩, u1, hps⟩ := hnd
  have hl : ∀ b ∈ tB :: pB :: eB :: bB :: ps.map (·.1), b ≠ w.heap.size + 1 := fun b hb e => by have := (hlo b hb).1; omega
  have keep : ∀ b ∈ tB :: pB :: eB :: bB :: ps.map (·.1), b ≠ eB → b ≠ bB → W3.heap[b]? = W.heap[b]? := fun b hb e1 e2 => (s3.block b (hl b hb)).trans ((s2.block b e2).trans (s1.block b e1))
  have hrp := h.rp
  rw [List.take_length, Nat.sub_self, List.replicate_zero, List.append_nil] at hrp
  refine ⟨⟨h.len, (keep pB (by simp) m1 m2).trans hrp, fun i q p hq hp => ?_, ((s3.block eB (hl eB (by simp))).trans (s2.block eB o1)).trans h1, (s3.block bB (hl bB (by simp))).trans h2, ?_, ?_, h.cap⟩, ?_⟩
  · have hm : q.1 ∈ ps.map (·.1) := List.mem_map_of_mem (List.mem_of_getElem? hq)
    exact (keep q.1 (by simp only [List.mem_cons]; exact .inr (.inr (.inr (.inr hm)))) (fun e => o2 (e ▸ hm)) (fun e => u1 (e ▸ hm))).trans (h.pgs i q p hq hp)
  · exact (List.nodup_cons.1 h.nd).2
  · intro b hb
    have := (hlo b (List.mem_cons_of_mem _ hb)).1
    omega
  · have g1 := (hlo eB (by simp)).1
    have g2 := (hlo bB (by simp)).1
    exact s3.below (s2.below (s1.below h.bel (by omega)) (by omega)) (by omega)

def AgainPost (t : St) (w : World) (e : Ending) (w' : World) : Prop := ∃ pB eB bB ps, e = .returned (.agg (ownVals t pB eB bB).toArray) ∧ OwnX w' w.heap.size t pB eB bB ps ∧ Below w.heap.size w w'

set_option maxHeartbeats 4000000 in
set_option maxRecDepth 100000 in
theorem cagain_any (v : SV) (t : St) (w : World) (h : StV w v t) (l1 : t.pages.length ≤ 4096) (l2 : t.erases.length ≤ 4096) (l3 : t.blown.length ≤ 4096) (hpl : ∀ p, p < t.pages.length → (t.pages.getD p []).length ≤ 4096) :
    Calls Tryd.prog 36 #[.agg (v.vals t).toArray] w (AgainPost t w) := by
  simp only [SV.vals]
  obtain ⟨np, hnp⟩ : ∃ n, n = t.pages.length := ⟨_, rfl⟩
  obtain ⟨ne, hne⟩ : ∃ n, n = t.erases.length := ⟨_, rfl⟩
  obtain ⟨nb, hnb⟩ : ∃ n, n = t.blown.length := ⟨_, rfl⟩
  rw [← hnp] at l1
  rw [← hne] at l2
  rw [← hnb] at l3
  rw [← hnp, ← hne, ← hnb]
  have HNP : Hid (np = t.pages.length) := hnp
  have HNE : Hid (ne = t.erases.length) := hne
  have HNB : Hid (nb = t.blown.length) := hnb
  have hz : ∀ w : World, (zeroValue 29).run Tryd.prog w = .ok (.agg #[.slice none 0 0, .slice none 0 0, .slice none 0 0]) w := fun _ => by kernel_rfl
  obtain ⟨W1, hW1⟩ : ∃ W1, W1 = (w.alloc (.cells #[.slice v.po np v.pc, .slice v.eo ne v.ec, .slice v.bo nb v.bc] 29)).alloc (.cells #[.slice none 0 0, .slice none 0 0, .slice none 0 0] 29) := ⟨_, rfl⟩
  have HR1 : Hid (Row W1 w.heap.size 29 [.slice v.po np v.pc, .slice v.eo ne v.ec, .slice v.bo nb v.bc]) := by rw [hW1]; exact (Row.at _ _ _ _ _ rfl rfl : Row (w.alloc _) _ _ _).alloc _
  have HR2 : Hid (Row W1 (w.heap.size + 1) 29 [nilS, nilS, nilS]) := by rw [hW1]; exact Row.at _ _ _ _ _ (by simp) rfl
  have HB1 : Hid (Below w.heap.size w W1 ∧ W1.heap.size = w.heap.size + 2) := by rw [hW1]; exact ⟨((Below.refl _ _).alloc (Nat.le_refl _) _).alloc (by simp) _, by simp⟩
  have hV : Hid (StV w v t) := h
  have HPL : Hid (∀ p, p < t.pages.length → (t.pages.getD p []).length ≤ 4096) := hpl
  clear hpl h hnp hne hnb
  go_enter Tryd.func36, Tryd.ntmps36
  go_wp2
  rw [← hW1]
  clear hW1
  refine wp_region_inv (IAgI W1 w.heap.size v np ne nb _ _ _ _ _ _ _ _ _ _ _ _ _ _ _ _ _ _ _ _ _ _ _ _ _ _ _ _ _ _ _ _ _ _ _ _ _ _ _) (by kernel_rfl) (by kernel_rfl) ⟨_, _, _, _, _, _, _, _, _, _, _, _, _, _, _, _, _, _, rfl, AgI.zero W1 w.heap.size v np ne nb _ _ _ _ _ _ _ _ _ _ _ _ _ _⟩ ?_ ?_
  · refine .cons ?_ (.cons ?_ (.cons ?_ (.cons ?_ (.cons ?_ (.cons ?_ (.cons ?_ (.cons ?_ (.cons ?_ (.cons ?_ (.cons ?_ (.cons ?_ (.cons ?_ (.cons ?_ (.cons ?_ .nil))))))))))))))
    all_goals (rintro L a W ⟨x6, x7, x8, x9, x10, x11, x12, x13, x14, x15, x16, x17, x18, x3, G3, G7, G11, G13, rfl, hI⟩ hL hd K hK)
    · rw [if_pos (by rfl)]
      go_simp
      exact hK.out _ _ ⟨_, _, _, _, _, _, _, _, _, _, _, _, _, _, _, _, _, _, rfl, { hI with p0 := fun _ => rfl }⟩
    · obtain rfl := hI.p0 (hd 0 (by decide))
      have r1 : Row W w.heap.size 29 [.slice v.po np v.pc, .slice v.eo ne v.ec, .slice v.bo nb v.bc] := (hI.bel.block _ HR1.out.lt (by simp)).trans HR1.out
      have c0 := r1.cell 0 _ rfl
      have c1 := r1.cell 1 _ rfl
      have c2 := r1.cell 2 _ rfl
      rw [if_pos (by rfl)]
      go_simp
      exact hK.out _ _ ⟨_, _, _, _, _, _, _, _, _, _, _, _, _, _, _, _, _, _, rfl, { hI with p1 := fun _ => rfl }⟩
    · obtain rfl := hI.p1 (hd 1 (by decide))
      rw [if_pos (by rfl)]
      go_simp
      exact hK.out _ _ ⟨_, _, _, _, _, _, _, _, _, _, _, _, _, _, _, _, _, _, rfl, { hI with p2 := fun _ => rfl }⟩
    · obtain rfl := hI.p2 (hd 2 (by decide))
      refine step_make elz_pages rfl (.tmp 8) rfl np rfl (by omega) (by omega) ?_
      exact hK.out _ _ ⟨_, _, _, _, _, _, _, _, _, _, _, _, _, _, _, _, _, _, rfl, hI.s3 hL⟩
    · rw [if_pos (by rfl)]
      go_simp
      exact hK.out _ _ ⟨_, _, _, _, _, _, _, _, _, _, _, _, _, _, _, _, _, _, rfl, { hI with p4 := fun _ => rfl }⟩
    · obtain rfl := hI.p4 (hd 4 (by decide))
      have r1 : Row W w.heap.size 29 [.slice v.po np v.pc, .slice v.eo ne v.ec, .slice v.bo nb v.bc] := (hI.bel.block _ HR1.out.lt (by simp)).trans HR1.out
      have c0 := r1.cell 0 _ rfl
      have c1 := r1.cell 1 _ rfl
      have c2 := r1.cell 2 _ rfl
      rw [if_pos (by rfl)]
      go_simp
      exact hK.out _ _ ⟨_, _, _, _, _, _, _, _, _, _, _, _, _, _, _, _, _, _, rfl, { hI with p5 := fun _ => rfl }⟩
    · obtain rfl := hI.p5 (hd 5 (by decide))
      rw [if_pos (by rfl)]
      go_simp
      exact hK.out _ _ ⟨_, _, _, _, _, _, _, _, _, _, _, _, _, _, _, _, _, _, rfl, { hI with p6 := fun _ => rfl }⟩
    · obtain rfl := hI.p6 (hd 6 (by decide))
      refine step_make elz_ints rfl (.tmp 12) rfl ne rfl (by omega) (by omega) ?_
      exact hK.out _ _ ⟨_, _, _, _, _, _, _, _, _, _, _, _, _, _, _, _, _, _, rfl, hI.s7 hL⟩
    · rw [if_pos (by rfl)]
      go_simp
      exact hK.out _ _ ⟨_, _, _, _, _, _, _, _, _, _, _, _, _, _, _, _, _, _, rfl, { hI with p8 := fun _ => rfl }⟩
    · obtain rfl := hI.p8 (hd 8 (by decide))
      have r1 : Row W w.heap.size 29 [.slice v.po np v.pc, .slice v.eo ne v.ec, .slice v.bo nb v.bc] := (hI.bel.block _ HR1.out.lt (by simp)).trans HR1.out
      have c0 := r1.cell 0 _ rfl
      have c1 := r1.cell 1 _ rfl
      have c2 := r1.cell 2 _ rfl
      rw [if_pos (by rfl)]
      go_simp
      exact hK.out _ _ ⟨_, _, _, _, _, _, _, _, _, _, _, _, _, _, _, _, _, _, rfl, { hI with p9 := fun _ => rfl }⟩
    · obtain rfl := hI.p9 (hd 9 (by decide))
      rw [if_pos (by rfl)]
      go_simp
      exact hK.out _ _ ⟨_, _, _, _, _, _, _, _, _, _, _, _, _, _, _, _, _, _, rfl, { hI with p10 := fun _ => rfl }⟩
    · obtain rfl := hI.p10 (hd 10 (by decide))
      refine step_make elz_bools rfl (.tmp 16) rfl nb rfl (by omega) (by omega) ?_
      exact hK.out _ _ ⟨_, _, _, _, _, _, _, _, _, _, _, _, _, _, _, _, _, _, rfl, hI.s11 hL⟩
    · obtain rfl := hI.p3 (hd 3 (by decide))
      obtain rfl := hI.p7 (hd 7 (by decide))
      obtain rfl := hI.p11 (hd 11 (by decide))
      rw [if_pos (by rfl)]
      go_simp
      exact hK.out _ _ ⟨_, _, _, _, _, _, _, _, _, _, _, _, _, _, _, _, _, _, rfl, { hI with p12 := fun _ => rfl, l12_3 := fun _ => (hd 3 (by decide)), l12_7 := fun _ => (hd 7 (by decide)), l12_11 := fun _ => (hd 11 (by decide)), l14_12 := fun _ => rfl }⟩
    · rw [if_pos (by rfl)]
      go_simp
      exact hK.out _ _ ⟨_, _, _, _, _, _, _, _, _, _, _, _, _, _, _, _, _, _, rfl, hI.s13 hL⟩
    · obtain rfl := hI.p13 (hd 13 (by decide))
      obtain rfl := hI.p12 (hd 12 (by decide))
      refine step_store_Row rfl 29 (.tmp 3) (.tmp 18) rfl G13 29 _ [.slice (some ⟨G3, 0, none⟩) np np, .slice (some ⟨G7, 0, none⟩) ne ne, .slice (some ⟨G11, 0, none⟩) nb nb] (hI.r13 (hd 13 (by decide)) hL) rfl rfl rfl (by kernel_rfl) (by simp [Value.oneCell']) ?_
      intro W2 hr2 hs2
      exact hK.out _ _ ⟨_, _, _, _, _, _, _, _, _, _, _, _, _, _, _, _, _, _, rfl, { hI with bel := hI.bel.but hs2 (.inr (hI.b13 (hd 13 (by decide))).1), b3 := fun k => ⟨(hI.b3 k).1, by rw [hs2.size]; exact (hI.b3 k).2⟩, r3 := fun k => (hs2.block _ (hI.d3_13 k (hd 13 (by decide)))).trans (hI.r3 k), b7 := fun k => ⟨(hI.b7 k).1, by rw [hs2.size]; exact (hI.b7 k).2⟩, r7 := fun k => (hs2.block _ (hI.d7_13 k (hd 13 (by decide)))).trans (hI.r7 k), b11 := fun k => ⟨(hI.b11 k).1, by rw [hs2.size]; exact (hI.b11 k).2⟩, r11 := fun k => (hs2.block _ (hI.d11_13 k (hd 13 (by decide)))).trans (hI.r11 k), b13 := fun k => ⟨(hI.b13 k).1, by rw [hs2.size]; exact (hI.b13 k).2⟩, r13 := fun _ k => (by cases k), t13 := fun _ => hr2, l14_12 := fun _ => (hd 12 (by decide)), l14_13 := fun _ => (hd 13 (by decide)) }⟩
  · rintro L a W hall ⟨x6, x7, x8, x9, x10, x11, x12, x13, x14, x15, x16, x17, x18, x3, G3, G7, G11, G13, rfl, hI⟩
    have hx0 := hI.p0 (hall 0 (by decide))
    have hx1 := hI.p1 (hall 1 (by decide))
    have hx2 := hI.p2 (hall 2 (by decide))
    have hx3 := hI.p3 (hall 3 (by decide))
    have hx4 := hI.p4 (hall 4 (by decide))
    have hx5 := hI.p5 (hall 5 (by decide))
    have hx6 := hI.p6 (hall 6 (by decide))
    have hx7 := hI.p7 (hall 7 (by decide))
    have hx8 := hI.p8 (hall 8 (by decide))
    have hx9 := hI.p9 (hall 9 (by decide))
    have hx10 := hI.p10 (hall 10 (by decide))
    have hx11 := hI.p11 (hall 11 (by decide))
    have hx12 := hI.p12 (hall 12 (by decide))
    have hx13 := hI.p13 (hall 13 (by decide))
    subst hx0 hx1 hx2 hx3 hx4 hx5 hx6 hx7 hx8 hx9 hx10 hx11 hx12 hx13
    have hb3 := hI.b3 (hall 3 (by decide))
    have hr3 := hI.r3 (hall 3 (by decide))
    have hb7 := hI.b7 (hall 7 (by decide))
    have hr7 := hI.r7 (hall 7 (by decide))
    have hb11 := hI.b11 (hall 11 (by decide))
    have hr11 := hI.r11 (hall 11 (by decide))
    have hb13 := hI.b13 (hall 13 (by decide))
    have hr13 := hI.t13 (hall 14 (by decide))
    have hd3_7 := hI.d3_7 (hall 3 (by decide)) (hall 7 (by decide))
    have hd3_11 := hI.d3_11 (hall 3 (by decide)) (hall 11 (by decide))
    have hd3_13 := hI.d3_13 (hall 3 (by decide)) (hall 13 (by decide))
    have hd7_11 := hI.d7_11 (hall 7 (by decide)) (hall 11 (by decide))
    have hd7_13 := hI.d7_13 (hall 7 (by decide)) (hall 13 (by decide))
    have hd11_13 := hI.d11_13 (hall 11 (by decide)) (hall 13 (by decide))
    have hkp := hI.bel
    clear hI hall
    try dsimp only
    have hsz := HB1.out.2
    have hag0 : AG w 29 [.slice v.po np v.pc, .slice v.eo ne v.ec, .slice v.bo nb v.bc] t G3 G7 G11 G13 0 [] W := by
      refine ⟨(HB1.out.1.trans ⟨hkp.os, hkp.tape, hkp.output, hkp.size, fun k hk => hkp.block k (by omega) (by simp)⟩), (hkp.block _ HR1.out.lt (by simp)).trans HR1.out, (hkp.block _ HR2.out.lt (by simp)).trans HR2.out, ?_, ?_, ?_, ?_, fun j q p hq => by simp at hq, rfl, ?_, ?_, fun j q p hq => by simp at hq⟩
      · unfold ownVals; rw [← HNP.out, ← HNE.out, ← HNB.out]; exact hr13
      · rw [List.zipWith_nil_left, List.nil_append, Nat.sub_zero, ← HNP.out, ← Nat.mul_one np]; exact hr3
      · rw [← HNE.out, ← Nat.mul_one ne]; exact hr7
      · rw [← HNB.out, ← Nat.mul_one nb]; exact hr11
      · simp only [List.map_nil, List.nodup_cons, List.mem_cons, List.not_mem_nil, or_false, not_or, List.nodup_nil, not_false_eq_true, and_true]
        exact ⟨⟨fun e => hd3_13 e.symm, fun e => hd7_13 e.symm, fun e => hd11_13 e.symm⟩, ⟨hd3_7, hd3_11⟩, hd7_11⟩
      · intro b hb
        simp at hb
        rcases hb with rfl | rfl | rfl | rfl <;> omega
    have HAG0 : Hid (AG w 29 [.slice v.po np v.pc, .slice v.eo ne v.ec, .slice v.bo nb v.bc] t G3 G7 G11 G13 0 [] W) := hag0
    have cs0 := hag0.rs.cell 0 _ rfl
    clear hag0 hr3 hr7 hr11 hr13 hd3_7 hd3_11 hd3_13 hd7_11 hd7_13 hd11_13 hkp HR1 HR2 HB1 hb3 hb7 hb11 hb13 hsz
    go_wp2
    go_loopw [22] (fun iv wr => ∃ (i : Nat) (ps : List (Nat × Nat)), i ≤ np ∧ iv = .int .i64 i ∧ Hid (AG w 29 [.slice v.po np v.pc, .slice v.eo ne v.ec, .slice v.bo nb v.bc] t G3 G7 G11 G13 i ps wr)) (fun iv _ => np - (intOf iv).toNat)
    case atStart => exact ⟨0, [], by omega, rfl, HAG0⟩
    case round =>
      clear HAG0 cs0
      obtain ⟨i, ps, hi, rfl, hag⟩ := hrel
      by_cases hlt : i < np
      · have y0 : (0 : Int) ≤ (i : Int) := by omega
        have y1 : (i : Int) < (np : Int) := by omega
        have hip : i < t.pages.length := by rw [← HNP.out]; exact hlt
        obtain ⟨PB, poff, qo, qc, epo, cpg, hsrc0, h32⟩ := hV.out.page i hip
        have cpg' : wr.cell? ⟨PB, poff + i, none⟩ = some (.slice qo (t.pages.getD i []).length qc) := by
          rw [hag.out.bel.cell (World.block_lt_of_cell? _ _ cpg)]; exact cpg
        have hsrc : Hid (IsL w qo ((t.pages.getD i []).flatten.map B8)) := hsrc0
        have hfl := flat_len _ h32
        have hnl := HPL.out i hip
        have HCL : Hid (((t.pages.getD i []).flatten.map B8).length = (t.pages.getD i []).length * 32) := by rw [List.length_map, hfl]; exact Nat.mul_comm _ _
        obtain ⟨OLD, hOLD⟩ : ∃ OLD, OLD = List.zipWith pgVal ps (t.pages.take i) ++ List.replicate (t.pages.length - i) nilS := ⟨_, rfl⟩
        have HOLD : Row wr G3 57 OLD := by rw [hOLD]; exact hag.out.rp
        have HGP : G3 < wr.heap.size := HOLD.lt
        have hndT : G13 ≠ G3 := by
          have := hag.out.nd
          simp only [List.nodup_cons, List.mem_cons, not_or] at this
          exact this.1.1
        have HTP : Hid (G13 ≠ G3) := hndT
        have hrt0 := hag.out.rt
        unfold ownVals at hrt0
        rw [← HNP.out, ← HNE.out, ← HNB.out] at hrt0
        have HRT : Hid (Row wr G13 29 [.slice (some ⟨G3, 0, none⟩) np np, .slice (some ⟨G7, 0, none⟩) ne ne, .slice (some ⟨G11, 0, none⟩) nb nb]) := hrt0
        have HIO : Hid (OLD[i]? = some nilS) := by
          show _ = _
          have e1 : (List.zipWith pgVal ps (t.pages.take i)).length = i := by rw [List.length_zipWith, hag.out.len, List.length_take]; omega
          rw [hOLD, List.getElem?_append_right (by omega), e1, Nat.sub_self, List.getElem?_replicate, if_pos (by omega)]
        have HNX : Hid (∀ (W W' : World) (G : Nat), KeptL [G3] wr W → wr.heap.size ≤ G → G < W.heap.size → Row W G3 57 (OLD.set i (.slice (some ⟨G, 0, none⟩) (t.pages.getD i []).length (t.pages.getD i []).length)) → Row W' G 56 ((t.pages.getD i []).flatten.map B8) → SameBut G W W' → AG w 29 [.slice v.po np v.pc, .slice v.eo ne v.ec, .slice v.bo nb v.bc] t G3 G7 G11 G13 (i + 1) (ps ++ [(G, (t.pages.getD i []).length)]) W') := by
          intro W W' G k1 k2 k3 k4 k5 k6
          rw [hOLD] at k4
          exact hag.out.push hip (k1.but k6 (.inr k2)) G k2 (by rw [k6.size]; exact k3) ((k6.block _ (by have := HGP; omega)).trans k4) k5
        have HSR : Hid (∀ W, KeptL [G3] wr W → IsL W qo ((t.pages.getD i []).flatten.map B8)) := by
          intro W k1
          have hG3 := (hag.out.lo G3 (by simp)).1
          rcases hsrc.out with e | ⟨B, off, rfl, hc⟩
          · exact .inl e
          · refine .inr ⟨B, off, rfl, fun j u hu => ?_⟩
            have hcell := hc j u hu
            have hBl := World.block_lt_of_cell? _ _ hcell
            rw [← hcell]
            refine World.cell?_of_block ?_
            have hBl' : B < w.heap.size := hBl
            exact (k1.block B (by have := hag.out.bel.size; omega) (by simp; omega)).trans (hag.out.bel.block B hBl')
        have HONE : Hid (∀ u ∈ (t.pages.getD i []).flatten.map B8, u.oneCell' = true) := B8_one _
        rw [epo] at hag ⊢
        clear cpg hsrc0 h32 hfl hOLD hsrc hndT hrt0
        generalize (t.pages.getD i []).flatten.map B8 = CS at *
        generalize (t.pages.getD i []).length = n at *
        go_wp2
        refine wp_region_inv (IAhI wr G3 G13 np i n qo qc OLD _ _ _ _ _ _ _ _ _ _ _ _ _ _ _ _ _ _ _ _ _ _ _ _ _ _ _ _ _ _ _ _ _ _ _ _ _ _ _ _ _ _ _ _ _ _) (by kernel_rfl) (by kernel_rfl) ⟨_, _, _, _, _, _, _, _, rfl, AhI.zero wr G3 G13 np i n qo qc OLD _ _ _ _ _ _ _ HGP HOLD⟩ ?_ ?_
        · refine .cons ?_ (.cons ?_ (.cons ?_ (.cons ?_ (.cons ?_ (.cons ?_ (.cons ?_ (.cons ?_ .nil)))))))
          all_goals (rintro L a W ⟨x27, x28, x29, x30, x31, x32, x33, G5, rfl, hI⟩ hL hd K hK)
          · rw [if_pos (by rfl)]
            go_simp
            exact hK.out _ _ ⟨_, _, _, _, _, _, _, _, rfl, { hI with p0 := fun _ => rfl }⟩
          · obtain rfl := hI.p0 (hd 0 (by decide))
            have hrt : Row W G13 29 _ := (hI.bel.block _ HRT.out.lt (by simpa using HTP.out)).trans HRT.out
            have c0 := hrt.cell 0 _ rfl
            rw [if_pos (by rfl)]
            go_simp
            exact hK.out _ _ ⟨_, _, _, _, _, _, _, _, rfl, { hI with p1 := fun _ => rfl }⟩
          · rw [if_pos (by rfl)]
            go_simp
            exact hK.out _ _ ⟨_, _, _, _, _, _, _, _, rfl, { hI with p2 := fun _ => rfl }⟩
          · rw [if_pos (by rfl)]
            go_simp
            exact hK.out _ _ ⟨_, _, _, _, _, _, _, _, rfl, { hI with p3 := fun _ => rfl }⟩
          · obtain rfl := hI.p3 (hd 3 (by decide))
            rw [if_pos (by rfl)]
            go_simp
            exact hK.out _ _ ⟨_, _, _, _, _, _, _, _, rfl, { hI with p4 := fun _ => rfl }⟩
          · obtain rfl := hI.p4 (hd 4 (by decide))
            refine step_make elz_cells rfl (.tmp 31) rfl n rfl (by omega) (by omega) ?_
            exact hK.out _ _ ⟨_, _, _, _, _, _, _, _, rfl, hI.s5 hL⟩
          · obtain rfl := hI.p1 (hd 1 (by decide))
            obtain rfl := hI.p2 (hd 2 (by decide))
            rw [if_pos (by rfl)]
            go_simp
            exact hK.out _ _ ⟨_, _, _, _, _, _, _, _, rfl, { hI with p6 := fun _ => rfl }⟩
          · obtain rfl := hI.p6 (hd 6 (by decide))
            obtain rfl := hI.p5 (hd 5 (by decide))
            have ho := hI.o0 hL
            have co := ho.cell i _ HIO.out
            have fo := ho.frozen i
            rw [if_pos (by rfl)]
            go_simp
            have hr2 := ho.set i (.slice (some ⟨G5, 0, none⟩) n n)
            have hs2 := SameBut.setCell G3 i (.slice (some ⟨G5, 0, none⟩) n n) W
            exact hK.out _ _ ⟨_, _, _, _, _, _, _, _, rfl, { hI with bel := hI.bel.but hs2 (.inl (by simp)), o0 := fun k => (by cases k), o1 := fun _ => hr2, b5 := fun k => ⟨(hI.b5 k).1, by rw [hs2.size]; exact (hI.b5 k).2⟩, r5 := fun k => (hs2.block _ (by have := (hI.b5 k).1; have := hI.og; omega)).trans (hI.r5 k), l7_5 := fun _ => (hd 5 (by decide)) }⟩
        · rintro L a W hall ⟨x27, x28, x29, x30, x31, x32, x33, G5, rfl, hI⟩
          have hx0 := hI.p0 (hall 0 (by decide))
          have hx1 := hI.p1 (hall 1 (by decide))
          have hx2 := hI.p2 (hall 2 (by decide))
          have hx3 := hI.p3 (hall 3 (by decide))
          have hx4 := hI.p4 (hall 4 (by decide))
          have hx5 := hI.p5 (hall 5 (by decide))
          have hx6 := hI.p6 (hall 6 (by decide))
          subst hx0 hx1 hx2 hx3 hx4 hx5 hx6
          have hb5 := hI.b5 (hall 5 (by decide))
          have hr5 := hI.r5 (hall 5 (by decide))
          have hro := hI.o1 (hall 7 (by decide))
          have hkp := hI.bel
          clear hI hall
          try dsimp only
          have HK : Hid (KeptL [G3] wr W) := hkp
          have hrt2 : Row W G13 29 [.slice (some ⟨G3, 0, none⟩) np np, .slice (some ⟨G7, 0, none⟩) ne ne, .slice (some ⟨G11, 0, none⟩) nb nb] := (hkp.block _ HRT.out.lt (by simpa using HTP.out)).trans HRT.out
          have e0 := hrt2.cell 0 _ rfl
          have hlO : i < OLD.length := (List.getElem?_eq_some_iff.1 HIO.out).1
          have e1 := hro.cell i _ (List.getElem?_set_self hlO)
          have HRO : Hid (Row W G3 57 (OLD.set i (.slice (some ⟨G5, 0, none⟩) n n))) := hro
          clear hkp hro
          go_wp2_with (refine wpList_copy_whole rfl (.tmp 38) (.tmp 39) 57 57 56 32 rfl Tryd.underlying57 (by kernel_rfl) (by omega) G5 n n qo qc rfl rfl _ CS 56 hr5 (by rw [List.length_replicate]; exact HCL.out.symm) HCL.out (HSR.out W HK.out) HONE.out ?_; intro w5 hr6 hs6)
          have hnx : Hid (AG w 29 [.slice (some ⟨PB, poff, none⟩) np v.pc, .slice v.eo ne v.ec, .slice v.bo nb v.bc] t G3 G7 G11 G13 (i + 1) (ps ++ [(G5, n)]) w5) := by
            have h9 := HNX.out W w5 G5 HK.out hb5.1 hb5.2 HRO.out hr6 hs6
            rw [epo] at h9
            exact h9
          exact ⟨⟨i + 1, ps ++ [(G5, n)], by omega, by go_num, hnx⟩, by simp [intOf]; omega⟩
      · obtain rfl : i = np := by omega
        have y1 : ¬ (i : Int) < (i : Int) := by omega
        have hA := hag.out
        have hnd := hA.nd
        simp only [List.nodup_cons, List.mem_cons, not_or] at hnd
        obtain ⟨⟨n1, n2, n3, n4⟩, ⟨m1, m2, m3⟩, ⟨o1, o2⟩, u1, hps⟩ := hnd
        have lo1 := (hA.lo G7 (by simp)).1
        have lo2 := (hA.lo G11 (by simp)).1
        have lo3 := (hA.lo G13 (by simp)).1
        have rs := hA.rs
        have rt := hA.rt
        unfold ownVals at rt
        rw [← HNP.out, ← HNE.out, ← HNB.out] at rt
        have re := hA.re
        have rb := hA.rb
        have rz := hA.rz
        have HFIN : Hid (∀ W1 W2 W3, Row W1 G7 3 (t.erases.map (Value.int .i64)) → SameBut G7 wr W1 → Row W2 G11 4 (t.blown.map Value.bool) → SameBut G11 W1 W2 → SameBut (w.heap.size + 1) W2 W3 → AgainPost t w (.returned (.agg #[.slice (some ⟨G3, 0, none⟩) i i, .slice (some ⟨G7, 0, none⟩) ne ne, .slice (some ⟨G11, 0, none⟩) nb nb])) W3) := by
          intro W1 W2 W3 q1 q2 q3 q4 q5
          have hA' := hA
          rw [HNP.out] at hA'
          obtain ⟨f1, f2⟩ := hA'.fin q1 q2 q3 q4 q5
          refine ⟨G3, G7, G11, ps, ?_, f1, f2⟩
          unfold ownVals
          rw [← HNP.out, ← HNE.out, ← HNB.out]
        have se : Hid (∀ W, SameBut G7 wr W → False ∨ True) := fun _ _ => .inr trivial
        have HSE : Hid (IsL wr v.eo (t.erases.map (Value.int .i64))) := hV.out.er.below hA.bel (Nat.le_refl _)
        have HSB : Hid (∀ W, SameBut G7 wr W → IsL W v.bo (t.blown.map Value.bool)) := fun W sb => hV.out.bl.below (sb.below hA.bel (by omega)) (Nat.le_refl _)
        have HLE : Hid ((t.erases.map (Value.int .i64)).length = ne * 1) := by show _ = _; rw [List.length_map, ← HNE.out, Nat.mul_one]
        have HLB : Hid ((t.blown.map Value.bool).length = nb * 1) := by show _ = _; rw [List.length_map, ← HNB.out, Nat.mul_one]
        have HOE : Hid (∀ u ∈ t.erases.map (Value.int .i64), u.oneCell' = true) := ints_one _
        have HOB : Hid (∀ u ∈ t.blown.map Value.bool, u.oneCell' = true) := bools_one _
        rw [← HNE.out] at re
        rw [← HNB.out] at rb
        have RE : Hid (Row wr G7 3 (List.replicate ne (.int .i64 0))) := re
        have RB : Hid (Row wr G11 4 (List.replicate nb (.bool false))) := rb
        have RZ : Hid (Row wr (w.heap.size + 1) 29 [nilS, nilS, nilS]) := rz
        have RS' : Hid (Row wr w.heap.size 29 [.slice v.po i v.pc, .slice v.eo ne v.ec, .slice v.bo nb v.bc]) := rs
        have RT : Hid (Row wr G13 29 [.slice (some ⟨G3, 0, none⟩) i i, .slice (some ⟨G7, 0, none⟩) ne ne, .slice (some ⟨G11, 0, none⟩) nb nb]) := rt
        have a1 := rs.cell 1 _ rfl
        have a2 := rs.cell 2 _ rfl
        have b1 := rt.cell 1 _ rfl
        have b2 := rt.cell 2 _ rfl
        generalize t.erases.map (Value.int .i64) = ES at *
        generalize t.blown.map Value.bool = BS at *
        clear hA hag rs rt re rb rz hps u1 o2 m3 n4 se
        go_wp2_with (first
          | (refine wpList_copy_whole rfl (.tmp 43) (.tmp 45) 26 26 3 1 rfl Tryd.underlying26 (by kernel_rfl) (by omega) G7 ne ne v.eo v.ec rfl rfl _ ES 3 RE.out (by rw [List.length_replicate, HLE.out, Nat.mul_one]) HLE.out HSE.out HOE.out ?_; intro w5 hr5 hs5; have a2 := (RS'.out.but hs5 (by omega)).cell 2 _ rfl; have b2 := (RT.out.but hs5 n2).cell 2 _ rfl)
          | (refine wpList_copy_whole rfl (.tmp 48) (.tmp 50) 27 27 4 1 rfl Tryd.underlying27 (by kernel_rfl) (by omega) G11 nb nb v.bo v.bc rfl rfl _ BS 4 (RB.out.but hs5 (fun e => o1 e.symm)) (by rw [List.length_replicate, HLB.out, Nat.mul_one]) HLB.out (HSB.out _ hs5) HOB.out ?_; intro w6 hr6 hs6)
          | (refine wpList_load_Row rfl 29 _ rfl _ _ _ ((RT.out.but hs5 n2).but hs6 n3) rfl _ Tryd.underlying29 rfl (by kernel_rfl) ?_)
          | (refine wpList_store_Row rfl 29 _ _ rfl _ _ 0 _ [.slice (some ⟨G3, 0, none⟩) i i, .slice (some ⟨G7, 0, none⟩) ne ne, .slice (some ⟨G11, 0, none⟩) nb nb] ((RZ.out.but hs5 (by omega)).but hs6 (by omega)) (by simp) rfl rfl (by kernel_rfl) (by simp [Value.oneCell']) ?_; intro w9 hr9 hs9))
        have hr := row_whole hr9 (by simp)
        exact bodyPost_ret_by (results_Row Tryd.results36 _ w9 (w.heap.size + 1) 29 _ _ rfl hr Tryd.underlying29 rfl (by kernel_rfl)) rfl (HFIN.out w5 w6 w9 hr5 hs5 hr6 hs6 hs9)
end Go.Proofs.YtgpnbiaghokjkaaDoor
