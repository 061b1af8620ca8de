import Derived.Test.YthjndaeibbfgaaaR4Lay
/-! The reference's Copy. -/
namespace Go.Proofs.Ythjndaeibbfgaaa
open Go.RowKit

/-- The cells of a copy. -/
def cpCells (s : RS) (po : Option Addr) (pc eB ec bB bc gm mc : Nat) : List Value := s.c.vals ++ [.slice po s.pages.length pc, .slice (some ⟨eB, 0, none⟩) s.erases.length ec, .slice (some ⟨bB, 0, none⟩) s.blown.length bc, .int .i64 s.n, .bool s.gone, .int .i64 s.wait, .slice (some ⟨gm, 0, none⟩) s.mask.length mc]

/-- What has come up of '&Chip{C: c.C, S: CopyState(c.S), N: c.N, Gone: c.Gone, Wait: c.Wait, Mask: append([]byte{}, c.Mask...)}'. -/
structure KI (w : World) (F : RF) (s : RS) (L : Nat → Bool) (x3 x4 x5 x6 x7 x8 x9 x10 x11 x12 x13 x14 x15 x16 x17 x18 x19 x20 x21 x22 x23 x24 x25 x26 x27 x28 x29 x30 x31 x2 : Value) (po : Option Addr) (pc : Nat) (ps : List (Nat × Nat)) (eB ec bB bc gm mc g : Nat) (W : World) : Prop where
  bel : Below w.heap.size w W
  p0 : L 0 = true → x3 = .pointer (some ⟨F.g, 0, none⟩)
  p1 : L 1 = true → x4 = .pointer (some ⟨F.g, 0, none⟩)
  p2 : L 2 = true → x5 = .pointer (some ⟨F.g, 0, none⟩)
  p3 : L 3 = true → x6 = .agg s.c.vals.toArray
  p4 : L 4 = true → x7 = .pointer (some ⟨F.g, 0, none⟩)
  p5 : L 5 = true → x8 = .pointer (some ⟨F.g, 0, none⟩)
  p6 : L 6 = true → x9 = .pointer (some ⟨F.g, 7, none⟩)
  p7 : L 7 = true → x10 = .agg #[.slice (some ⟨F.pB, 0, none⟩) s.pages.length F.pcap, .slice (some ⟨F.eB, 0, none⟩) s.erases.length F.ecap, .slice (some ⟨F.bB, 0, none⟩) s.blown.length F.bcap]
  p9 : L 9 = true → x12 = .pointer (some ⟨F.g, 0, none⟩)
  p10 : L 10 = true → x13 = .pointer (some ⟨F.g, 0, none⟩)
  p11 : L 11 = true → x14 = .pointer (some ⟨F.g, 10, none⟩)
  p12 : L 12 = true → x15 = .int .i64 s.n
  p13 : L 13 = true → x16 = .pointer (some ⟨F.g, 0, none⟩)
  p14 : L 14 = true → x17 = .pointer (some ⟨F.g, 0, none⟩)
  p15 : L 15 = true → x18 = .pointer (some ⟨F.g, 11, none⟩)
  p16 : L 16 = true → x19 = .bool s.gone
  p17 : L 17 = true → x20 = .pointer (some ⟨F.g, 0, none⟩)
  p18 : L 18 = true → x21 = .pointer (some ⟨F.g, 0, none⟩)
  p19 : L 19 = true → x22 = .pointer (some ⟨F.g, 12, none⟩)
  p20 : L 20 = true → x23 = .int .i64 s.wait
  p22 : L 22 = true → x25 = .pointer (some ⟨F.g, 0, none⟩)
  p23 : L 23 = true → x26 = .pointer (some ⟨F.g, 0, none⟩)
  p24 : L 24 = true → x27 = .pointer (some ⟨F.g, 13, none⟩)
  p25 : L 25 = true → x28 = .slice F.mo s.mask.length F.mcap
  e8 : L 8 = true → x11 = .agg #[.slice po s.pages.length pc, .slice (some ⟨eB, 0, none⟩) s.erases.length ec, .slice (some ⟨bB, 0, none⟩) s.blown.length bc] ∧ OwnSt W w.heap.size s.pages s.erases s.blown po pc ps eB ec bB bc
  bm : L 21 = true → w.heap.size ≤ gm ∧ gm < W.heap.size
  e21 : L 21 = true → L 26 = false → x24 = .slice (some ⟨gm, 0, none⟩) 0 0 ∧ W.heap[gm]? = some (.cells #[] 5)
  e26 : L 26 = true → x29 = .slice (some ⟨gm, 0, none⟩) s.mask.length mc ∧ W.ownsRow w.heap.size 5 1 (.slice (some ⟨gm, 0, none⟩) s.mask.length mc) s.mask.length (s.mask.map B8)
  sep : L 8 = true → L 21 = true → gm ∉ eB :: bB :: ps.map (·.1) ∧ ∀ b, po = some ⟨b, 0, none⟩ → gm ≠ b
  e27 : L 27 = true → x30 = .agg (cpCells s po pc eB ec bB bc gm mc).toArray
  e28 : L 28 = true → x31 = .pointer (some ⟨g, 0, none⟩) ∧ Row W g 73 (cpCells s po pc eB ec bB bc gm mc) ∧ w.heap.size ≤ g ∧ g < W.heap.size ∧ g ≠ gm ∧ g ∉ eB :: bB :: ps.map (·.1) ∧ ∀ b, po = some ⟨b, 0, none⟩ → g ≠ b
  e29 : L 29 = true → x2 = .pointer (some ⟨g, 0, none⟩)
  l2621 : L 26 = true → L 21 = true
  l278 : L 27 = true → L 8 = true
  l2726 : L 27 = true → L 26 = true
  l2827 : L 28 = true → L 27 = true
  l2928 : L 29 = true → L 28 = true

section
variable {w : World} {F : RF} {s : RS} {L : Nat → Bool} {x3 x4 x5 x6 x7 x8 x9 x10 x11 x12 x13 x14 x15 x16 x17 x18 x19 x20 x21 x22 x23 x24 x25 x26 x27 x28 x29 x30 x31 x2 : Value} {po : Option Addr} {pc : Nat} {ps : List (Nat × Nat)} {eB ec bB bc gm mc g : Nat} {W W' : World}

theorem KI.zero (w : World) (F : RF) (s : RS) (x3 x4 x5 x6 x7 x8 x9 x10 x11 x12 x13 x14 x15 x16 x17 x18 x19 x20 x21 x22 x23 x24 x25 x26 x27 x28 x29 x30 x31 x2 : Value) : KI w F s (fun _ => false) x3 x4 x5 x6 x7 x8 x9 x10 x11 x12 x13 x14 x15 x16 x17 x18 x19 x20 x21 x22 x23 x24 x25 x26 x27 x28 x29 x30 x31 x2 none 0 [] 0 0 0 0 0 0 0 w.drew := by
  constructor <;> first | exact (Below.refl _ _).drew | (intros; contradiction)
theorem KI.mono (h : KI w F s L x3 x4 x5 x6 x7 x8 x9 x10 x11 x12 x13 x14 x15 x16 x17 x18 x19 x20 x21 x22 x23 x24 x25 x26 x27 x28 x29 x30 x31 x2 po pc ps eB ec bB bc gm mc g W) (hb : Below W.heap.size W W') : KI w F s L x3 x4 x5 x6 x7 x8 x9 x10 x11 x12 x13 x14 x15 x16 x17 x18 x19 x20 x21 x22 x23 x24 x25 x26 x27 x28 x29 x30 x31 x2 po pc ps eB ec bB bc gm mc g W' :=
  ⟨h.bel.trans (hb.mono h.bel.size), h.p0, h.p1, h.p2, h.p3, h.p4, h.p5, h.p6, h.p7, h.p9, h.p10, h.p11, h.p12, h.p13, h.p14, h.p15, h.p16, h.p17, h.p18, h.p19, h.p20, h.p22, h.p23, h.p24, h.p25, fun k => ⟨(h.e8 k).1, (h.e8 k).2.below hb⟩, fun k => ⟨(h.bm k).1, Nat.lt_of_lt_of_le (h.bm k).2 hb.size⟩, fun k k2 => ⟨(h.e21 k k2).1, (hb.block _ (h.bm k).2).trans (h.e21 k k2).2⟩, fun k => ⟨(h.e26 k).1, owns_kept (h.e26 k).2 fun b hb2 => by injection hb2 with hb2; injection hb2 with hb2; subst hb2; exact hb.block _ (h.bm (h.l2621 k)).2⟩, h.sep, h.e27, fun k => ⟨(h.e28 k).1, (hb.block _ (h.e28 k).2.2.2.1).trans (h.e28 k).2.1, (h.e28 k).2.2.1, Nat.lt_of_lt_of_le (h.e28 k).2.2.2.1 hb.size, (h.e28 k).2.2.2.2⟩, h.e29, h.l2621, h.l278, h.l2726, h.l2827, h.l2928⟩
theorem KI.s0 (h : KI w F s L x3 x4 x5 x6 x7 x8 x9 x10 x11 x12 x13 x14 x15 x16 x17 x18 x19 x20 x21 x22 x23 x24 x25 x26 x27 x28 x29 x30 x31 x2 po pc ps eB ec bB bc gm mc g W) : KI w F s (upd L 0) (.pointer (some ⟨F.g, 0, none⟩)) x4 x5 x6 x7 x8 x9 x10 x11 x12 x13 x14 x15 x16 x17 x18 x19 x20 x21 x22 x23 x24 x25 x26 x27 x28 x29 x30 x31 x2 po pc ps eB ec bB bc gm mc g W :=
  ⟨h.bel, fun _ => rfl, h.p1, h.p2, h.p3, h.p4, h.p5, h.p6, h.p7, h.p9, h.p10, h.p11, h.p12, h.p13, h.p14, h.p15, h.p16, h.p17, h.p18, h.p19, h.p20, h.p22, h.p23, h.p24, h.p25, h.e8, h.bm, h.e21, h.e26, h.sep, h.e27, h.e28, h.e29, h.l2621, h.l278, h.l2726, h.l2827, h.l2928⟩
theorem KI.s1 (h : KI w F s L x3 x4 x5 x6 x7 x8 x9 x10 x11 x12 x13 x14 x15 x16 x17 x18 x19 x20 x21 x22 x23 x24 x25 x26 x27 x28 x29 x30 x31 x2 po pc ps eB ec bB bc gm mc g W) : KI w F s (upd L 1) x3 (.pointer (some ⟨F.g, 0, none⟩)) x5 x6 x7 x8 x9 x10 x11 x12 x13 x14 x15 x16 x17 x18 x19 x20 x21 x22 x23 x24 x25 x26 x27 x28 x29 x30 x31 x2 po pc ps eB ec bB bc gm mc g W :=
  ⟨h.bel, h.p0, fun _ => rfl, h.p2, h.p3, h.p4, h.p5, h.p6, h.p7, h.p9, h.p10, h.p11, h.p12, h.p13, h.p14, h.p15, h.p16, h.p17, h.p18, h.p19, h.p20, h.p22, h.p23, h.p24, h.p25, h.e8, h.bm, h.e21, h.e26, h.sep, h.e27, h.e28, h.e29, h.l2621, h.l278, h.l2726, h.l2827, h.l2928⟩
theorem KI.s2 (h : KI w F s L x3 x4 x5 x6 x7 x8 x9 x10 x11 x12 x13 x14 x15 x16 x17 x18 x19 x20 x21 x22 x23 x24 x25 x26 x27 x28 x29 x30 x31 x2 po pc ps eB ec bB bc gm mc g W) : KI w F s (upd L 2) x3 x4 (.pointer (some ⟨F.g, 0, none⟩)) x6 x7 x8 x9 x10 x11 x12 x13 x14 x15 x16 x17 x18 x19 x20 x21 x22 x23 x24 x25 x26 x27 x28 x29 x30 x31 x2 po pc ps eB ec bB bc gm mc g W :=
  ⟨h.bel, h.p0, h.p1, fun _ => rfl, h.p3, h.p4, h.p5, h.p6, h.p7, h.p9, h.p10, h.p11, h.p12, h.p13, h.p14, h.p15, h.p16, h.p17, h.p18, h.p19, h.p20, h.p22, h.p23, h.p24, h.p25, h.e8, h.bm, h.e21, h.e26, h.sep, h.e27, h.e28, h.e29, h.l2621, h.l278, h.l2726, h.l2827, h.l2928⟩
theorem KI.s3 (h : KI w F s L x3 x4 x5 x6 x7 x8 x9 x10 x11 x12 x13 x14 x15 x16 x17 x18 x19 x20 x21 x22 x23 x24 x25 x26 x27 x28 x29 x30 x31 x2 po pc ps eB ec bB bc gm mc g W) : KI w F s (upd L 3) x3 x4 x5 (.agg s.c.vals.toArray) x7 x8 x9 x10 x11 x12 x13 x14 x15 x16 x17 x18 x19 x20 x21 x22 x23 x24 x25 x26 x27 x28 x29 x30 x31 x2 po pc ps eB ec bB bc gm mc g W :=
  ⟨h.bel, h.p0, h.p1, h.p2, fun _ => rfl, h.p4, h.p5, h.p6, h.p7, h.p9, h.p10, h.p11, h.p12, h.p13, h.p14, h.p15, h.p16, h.p17, h.p18, h.p19, h.p20, h.p22, h.p23, h.p24, h.p25, h.e8, h.bm, h.e21, h.e26, h.sep, h.e27, h.e28, h.e29, h.l2621, h.l278, h.l2726, h.l2827, h.l2928⟩
theorem KI.s4 (h : KI w F s L x3 x4 x5 x6 x7 x8 x9 x10 x11 x12 x13 x14 x15 x16 x17 x18 x19 x20 x21 x22 x23 x24 x25 x26 x27 x28 x29 x30 x31 x2 po pc ps eB ec bB bc gm mc g W) : KI w F s (upd L 4) x3 x4 x5 x6 (.pointer (some ⟨F.g, 0, none⟩)) x8 x9 x10 x11 x12 x13 x14 x15 x16 x17 x18 x19 x20 x21 x22 x23 x24 x25 x26 x27 x28 x29 x30 x31 x2 po pc ps eB ec bB bc gm mc g W :=
  ⟨h.bel, h.p0, h.p1, h.p2, h.p3, fun _ => rfl, h.p5, h.p6, h.p7, h.p9, h.p10, h.p11, h.p12, h.p13, h.p14, h.p15, h.p16, h.p17, h.p18, h.p19, h.p20, h.p22, h.p23, h.p24, h.p25, h.e8, h.bm, h.e21, h.e26, h.sep, h.e27, h.e28, h.e29, h.l2621, h.l278, h.l2726, h.l2827, h.l2928⟩
theorem KI.s5 (h : KI w F s L x3 x4 x5 x6 x7 x8 x9 x10 x11 x12 x13 x14 x15 x16 x17 x18 x19 x20 x21 x22 x23 x24 x25 x26 x27 x28 x29 x30 x31 x2 po pc ps eB ec bB bc gm mc g W) : KI w F s (upd L 5) x3 x4 x5 x6 x7 (.pointer (some ⟨F.g, 0, none⟩)) x9 x10 x11 x12 x13 x14 x15 x16 x17 x18 x19 x20 x21 x22 x23 x24 x25 x26 x27 x28 x29 x30 x31 x2 po pc ps eB ec bB bc gm mc g W :=
  ⟨h.bel, h.p0, h.p1, h.p2, h.p3, h.p4, fun _ => rfl, h.p6, h.p7, h.p9, h.p10, h.p11, h.p12, h.p13, h.p14, h.p15, h.p16, h.p17, h.p18, h.p19, h.p20, h.p22, h.p23, h.p24, h.p25, h.e8, h.bm, h.e21, h.e26, h.sep, h.e27, h.e28, h.e29, h.l2621, h.l278, h.l2726, h.l2827, h.l2928⟩
theorem KI.s6 (h : KI w F s L x3 x4 x5 x6 x7 x8 x9 x10 x11 x12 x13 x14 x15 x16 x17 x18 x19 x20 x21 x22 x23 x24 x25 x26 x27 x28 x29 x30 x31 x2 po pc ps eB ec bB bc gm mc g W) : KI w F s (upd L 6) x3 x4 x5 x6 x7 x8 (.pointer (some ⟨F.g, 7, none⟩)) x10 x11 x12 x13 x14 x15 x16 x17 x18 x19 x20 x21 x22 x23 x24 x25 x26 x27 x28 x29 x30 x31 x2 po pc ps eB ec bB bc gm mc g W :=
  ⟨h.bel, h.p0, h.p1, h.p2, h.p3, h.p4, h.p5, fun _ => rfl, h.p7, h.p9, h.p10, h.p11, h.p12, h.p13, h.p14, h.p15, h.p16, h.p17, h.p18, h.p19, h.p20, h.p22, h.p23, h.p24, h.p25, h.e8, h.bm, h.e21, h.e26, h.sep, h.e27, h.e28, h.e29, h.l2621, h.l278, h.l2726, h.l2827, h.l2928⟩
theorem KI.s7 (h : KI w F s L x3 x4 x5 x6 x7 x8 x9 x10 x11 x12 x13 x14 x15 x16 x17 x18 x19 x20 x21 x22 x23 x24 x25 x26 x27 x28 x29 x30 x31 x2 po pc ps eB ec bB bc gm mc g W) : KI w F s (upd L 7) x3 x4 x5 x6 x7 x8 x9 (.agg #[.slice (some ⟨F.pB, 0, none⟩) s.pages.length F.pcap, .slice (some ⟨F.eB, 0, none⟩) s.erases.length F.ecap, .slice (some ⟨F.bB, 0, none⟩) s.blown.length F.bcap]) x11 x12 x13 x14 x15 x16 x17 x18 x19 x20 x21 x22 x23 x24 x25 x26 x27 x28 x29 x30 x31 x2 po pc ps eB ec bB bc gm mc g W :=
  ⟨h.bel, h.p0, h.p1, h.p2, h.p3, h.p4, h.p5, h.p6, fun _ => rfl, h.p9, h.p10, h.p11, h.p12, h.p13, h.p14, h.p15, h.p16, h.p17, h.p18, h.p19, h.p20, h.p22, h.p23, h.p24, h.p25, h.e8, h.bm, h.e21, h.e26, h.sep, h.e27, h.e28, h.e29, h.l2621, h.l278, h.l2726, h.l2827, h.l2928⟩
theorem KI.s9 (h : KI w F s L x3 x4 x5 x6 x7 x8 x9 x10 x11 x12 x13 x14 x15 x16 x17 x18 x19 x20 x21 x22 x23 x24 x25 x26 x27 x28 x29 x30 x31 x2 po pc ps eB ec bB bc gm mc g W) : KI w F s (upd L 9) x3 x4 x5 x6 x7 x8 x9 x10 x11 (.pointer (some ⟨F.g, 0, none⟩)) x13 x14 x15 x16 x17 x18 x19 x20 x21 x22 x23 x24 x25 x26 x27 x28 x29 x30 x31 x2 po pc ps eB ec bB bc gm mc g W :=
  ⟨h.bel, h.p0, h.p1, h.p2, h.p3, h.p4, h.p5, h.p6, h.p7, fun _ => rfl, h.p10, h.p11, h.p12, h.p13, h.p14, h.p15, h.p16, h.p17, h.p18, h.p19, h.p20, h.p22, h.p23, h.p24, h.p25, h.e8, h.bm, h.e21, h.e26, h.sep, h.e27, h.e28, h.e29, h.l2621, h.l278, h.l2726, h.l2827, h.l2928⟩
theorem KI.s10 (h : KI w F s L x3 x4 x5 x6 x7 x8 x9 x10 x11 x12 x13 x14 x15 x16 x17 x18 x19 x20 x21 x22 x23 x24 x25 x26 x27 x28 x29 x30 x31 x2 po pc ps eB ec bB bc gm mc g W) : KI w F s (upd L 10) x3 x4 x5 x6 x7 x8 x9 x10 x11 x12 (.pointer (some ⟨F.g, 0, none⟩)) x14 x15 x16 x17 x18 x19 x20 x21 x22 x23 x24 x25 x26 x27 x28 x29 x30 x31 x2 po pc ps eB ec bB bc gm mc g W :=
  ⟨h.bel, h.p0, h.p1, h.p2, h.p3, h.p4, h.p5, h.p6, h.p7, h.p9, fun _ => rfl, h.p11, h.p12, h.p13, h.p14, h.p15, h.p16, h.p17, h.p18, h.p19, h.p20, h.p22, h.p23, h.p24, h.p25, h.e8, h.bm, h.e21, h.e26, h.sep, h.e27, h.e28, h.e29, h.l2621, h.l278, h.l2726, h.l2827, h.l2928⟩
theorem KI.s11 (h : KI w F s L x3 x4 x5 x6 x7 x8 x9 x10 x11 x12 x13 x14 x15 x16 x17 x18 x19 x20 x21 x22 x23 x24 x25 x26 x27 x28 x29 x30 x31 x2 po pc ps eB ec bB bc gm mc g W) : KI w F s (upd L 11) x3 x4 x5 x6 x7 x8 x9 x10 x11 x12 x13 (.pointer (some ⟨F.g, 10, none⟩)) x15 x16 x17 x18 x19 x20 x21 x22 x23 x24 x25 x26 x27 x28 x29 x30 x31 x2 po pc ps eB ec bB bc gm mc g W :=
  ⟨h.bel, h.p0, h.p1, h.p2, h.p3, h.p4, h.p5, h.p6, h.p7, h.p9, h.p10, fun _ => rfl, h.p12, h.p13, h.p14, h.p15, h.p16, h.p17, h.p18, h.p19, h.p20, h.p22, h.p23, h.p24, h.p25, h.e8, h.bm, h.e21, h.e26, h.sep, h.e27, h.e28, h.e29, h.l2621, h.l278, h.l2726, h.l2827, h.l2928⟩
theorem KI.s12 (h : KI w F s L x3 x4 x5 x6 x7 x8 x9 x10 x11 x12 x13 x14 x15 x16 x17 x18 x19 x20 x21 x22 x23 x24 x25 x26 x27 x28 x29 x30 x31 x2 po pc ps eB ec bB bc gm mc g W) : KI w F s (upd L 12) x3 x4 x5 x6 x7 x8 x9 x10 x11 x12 x13 x14 (.int .i64 s.n) x16 x17 x18 x19 x20 x21 x22 x23 x24 x25 x26 x27 x28 x29 x30 x31 x2 po pc ps eB ec bB bc gm mc g W :=
  ⟨h.bel, h.p0, h.p1, h.p2, h.p3, h.p4, h.p5, h.p6, h.p7, h.p9, h.p10, h.p11, fun _ => rfl, h.p13, h.p14, h.p15, h.p16, h.p17, h.p18, h.p19, h.p20, h.p22, h.p23, h.p24, h.p25, h.e8, h.bm, h.e21, h.e26, h.sep, h.e27, h.e28, h.e29, h.l2621, h.l278, h.l2726, h.l2827, h.l2928⟩
theorem KI.s13 (h : KI w F s L x3 x4 x5 x6 x7 x8 x9 x10 x11 x12 x13 x14 x15 x16 x17 x18 x19 x20 x21 x22 x23 x24 x25 x26 x27 x28 x29 x30 x31 x2 po pc ps eB ec bB bc gm mc g W) : KI w F s (upd L 13) x3 x4 x5 x6 x7 x8 x9 x10 x11 x12 x13 x14 x15 (.pointer (some ⟨F.g, 0, none⟩)) x17 x18 x19 x20 x21 x22 x23 x24 x25 x26 x27 x28 x29 x30 x31 x2 po pc ps eB ec bB bc gm mc g W :=
  ⟨h.bel, h.p0, h.p1, h.p2, h.p3, h.p4, h.p5, h.p6, h.p7, h.p9, h.p10, h.p11, h.p12, fun _ => rfl, h.p14, h.p15, h.p16, h.p17, h.p18, h.p19, h.p20, h.p22, h.p23, h.p24, h.p25, h.e8, h.bm, h.e21, h.e26, h.sep, h.e27, h.e28, h.e29, h.l2621, h.l278, h.l2726, h.l2827, h.l2928⟩
theorem KI.s14 (h : KI w F s L x3 x4 x5 x6 x7 x8 x9 x10 x11 x12 x13 x14 x15 x16 x17 x18 x19 x20 x21 x22 x23 x24 x25 x26 x27 x28 x29 x30 x31 x2 po pc ps eB ec bB bc gm mc g W) : KI w F s (upd L 14) x3 x4 x5 x6 x7 x8 x9 x10 x11 x12 x13 x14 x15 x16 (.pointer (some ⟨F.g, 0, none⟩)) x18 x19 x20 x21 x22 x23 x24 x25 x26 x27 x28 x29 x30 x31 x2 po pc ps eB ec bB bc gm mc g W :=
  ⟨h.bel, h.p0, h.p1, h.p2, h.p3, h.p4, h.p5, h.p6, h.p7, h.p9, h.p10, h.p11, h.p12, h.p13, fun _ => rfl, h.p15, h.p16, h.p17, h.p18, h.p19, h.p20, h.p22, h.p23, h.p24, h.p25, h.e8, h.bm, h.e21, h.e26, h.sep, h.e27, h.e28, h.e29, h.l2621, h.l278, h.l2726, h.l2827, h.l2928⟩
theorem KI.s15 (h : KI w F s L x3 x4 x5 x6 x7 x8 x9 x10 x11 x12 x13 x14 x15 x16 x17 x18 x19 x20 x21 x22 x23 x24 x25 x26 x27 x28 x29 x30 x31 x2 po pc ps eB ec bB bc gm mc g W) : KI w F s (upd L 15) x3 x4 x5 x6 x7 x8 x9 x10 x11 x12 x13 x14 x15 x16 x17 (.pointer (some ⟨F.g, 11, none⟩)) x19 x20 x21 x22 x23 x24 x25 x26 x27 x28 x29 x30 x31 x2 po pc ps eB ec bB bc gm mc g W :=
  ⟨h.bel, h.p0, h.p1, h.p2, h.p3, h.p4, h.p5, h.p6, h.p7, h.p9, h.p10, h.p11, h.p12, h.p13, h.p14, fun _ => rfl, h.p16, h.p17, h.p18, h.p19, h.p20, h.p22, h.p23, h.p24, h.p25, h.e8, h.bm, h.e21, h.e26, h.sep, h.e27, h.e28, h.e29, h.l2621, h.l278, h.l2726, h.l2827, h.l2928⟩
theorem KI.s16 (h : KI w F s L x3 x4 x5 x6 x7 x8 x9 x10 x11 x12 x13 x14 x15 x16 x17 x18 x19 x20 x21 x22 x23 x24 x25 x26 x27 x28 x29 x30 x31 x2 po pc ps eB ec bB bc gm mc g W) : KI w F s (upd L 16) x3 x4 x5 x6 x7 x8 x9 x10 x11 x12 x13 x14 x15 x16 x17 x18 (.bool s.gone) x20 x21 x22 x23 x24 x25 x26 x27 x28 x29 x30 x31 x2 po pc ps eB ec bB bc gm mc g W :=
  ⟨h.bel, h.p0, h.p1, h.p2, h.p3, h.p4, h.p5, h.p6, h.p7, h.p9, h.p10, h.p11, h.p12, h.p13, h.p14, h.p15, fun _ => rfl, h.p17, h.p18, h.p19, h.p20, h.p22, h.p23, h.p24, h.p25, h.e8, h.bm, h.e21, h.e26, h.sep, h.e27, h.e28, h.e29, h.l2621, h.l278, h.l2726, h.l2827, h.l2928⟩
theorem KI.s17 (h : KI w F s L x3 x4 x5 x6 x7 x8 x9 x10 x11 x12 x13 x14 x15 x16 x17 x18 x19 x20 x21 x22 x23 x24 x25 x26 x27 x28 x29 x30 x31 x2 po pc ps eB ec bB bc gm mc g W) : KI w F s (upd L 17) x3 x4 x5 x6 x7 x8 x9 x10 x11 x12 x13 x14 x15 x16 x17 x18 x19 (.pointer (some ⟨F.g, 0, none⟩)) x21 x22 x23 x24 x25 x26 x27 x28 x29 x30 x31 x2 po pc ps eB ec bB bc gm mc g W :=
  ⟨h.bel, h.p0, h.p1, h.p2, h.p3, h.p4, h.p5, h.p6, h.p7, h.p9, h.p10, h.p11, h.p12, h.p13, h.p14, h.p15, h.p16, fun _ => rfl, h.p18, h.p19, h.p20, h.p22, h.p23, h.p24, h.p25, h.e8, h.bm, h.e21, h.e26, h.sep, h.e27, h.e28, h.e29, h.l2621, h.l278, h.l2726, h.l2827, h.l2928⟩
theorem KI.s18 (h : KI w F s L x3 x4 x5 x6 x7 x8 x9 x10 x11 x12 x13 x14 x15 x16 x17 x18 x19 x20 x21 x22 x23 x24 x25 x26 x27 x28 x29 x30 x31 x2 po pc ps eB ec bB bc gm mc g W) : KI w F s (upd L 18) x3 x4 x5 x6 x7 x8 x9 x10 x11 x12 x13 x14 x15 x16 x17 x18 x19 x20 (.pointer (some ⟨F.g, 0, none⟩)) x22 x23 x24 x25 x26 x27 x28 x29 x30 x31 x2 po pc ps eB ec bB bc gm mc g W :=
  ⟨h.bel, h.p0, h.p1, h.p2, h.p3, h.p4, h.p5, h.p6, h.p7, h.p9, h.p10, h.p11, h.p12, h.p13, h.p14, h.p15, h.p16, h.p17, fun _ => rfl, h.p19, h.p20, h.p22, h.p23, h.p24, h.p25, h.e8, h.bm, h.e21, h.e26, h.sep, h.e27, h.e28, h.e29, h.l2621, h.l278, h.l2726, h.l2827, h.l2928⟩
theorem KI.s19 (h : KI w F s L x3 x4 x5 x6 x7 x8 x9 x10 x11 x12 x13 x14 x15 x16 x17 x18 x19 x20 x21 x22 x23 x24 x25 x26 x27 x28 x29 x30 x31 x2 po pc ps eB ec bB bc gm mc g W) : KI w F s (upd L 19) x3 x4 x5 x6 x7 x8 x9 x10 x11 x12 x13 x14 x15 x16 x17 x18 x19 x20 x21 (.pointer (some ⟨F.g, 12, none⟩)) x23 x24 x25 x26 x27 x28 x29 x30 x31 x2 po pc ps eB ec bB bc gm mc g W :=
  ⟨h.bel, h.p0, h.p1, h.p2, h.p3, h.p4, h.p5, h.p6, h.p7, h.p9, h.p10, h.p11, h.p12, h.p13, h.p14, h.p15, h.p16, h.p17, h.p18, fun _ => rfl, h.p20, h.p22, h.p23, h.p24, h.p25, h.e8, h.bm, h.e21, h.e26, h.sep, h.e27, h.e28, h.e29, h.l2621, h.l278, h.l2726, h.l2827, h.l2928⟩
theorem KI.s20 (h : KI w F s L x3 x4 x5 x6 x7 x8 x9 x10 x11 x12 x13 x14 x15 x16 x17 x18 x19 x20 x21 x22 x23 x24 x25 x26 x27 x28 x29 x30 x31 x2 po pc ps eB ec bB bc gm mc g W) : KI w F s (upd L 20) x3 x4 x5 x6 x7 x8 x9 x10 x11 x12 x13 x14 x15 x16 x17 x18 x19 x20 x21 x22 (.int .i64 s.wait) x24 x25 x26 x27 x28 x29 x30 x31 x2 po pc ps eB ec bB bc gm mc g W :=
  ⟨h.bel, h.p0, h.p1, h.p2, h.p3, h.p4, h.p5, h.p6, h.p7, h.p9, h.p10, h.p11, h.p12, h.p13, h.p14, h.p15, h.p16, h.p17, h.p18, h.p19, fun _ => rfl, h.p22, h.p23, h.p24, h.p25, h.e8, h.bm, h.e21, h.e26, h.sep, h.e27, h.e28, h.e29, h.l2621, h.l278, h.l2726, h.l2827, h.l2928⟩
theorem KI.s22 (h : KI w F s L x3 x4 x5 x6 x7 x8 x9 x10 x11 x12 x13 x14 x15 x16 x17 x18 x19 x20 x21 x22 x23 x24 x25 x26 x27 x28 x29 x30 x31 x2 po pc ps eB ec bB bc gm mc g W) : KI w F s (upd L 22) x3 x4 x5 x6 x7 x8 x9 x10 x11 x12 x13 x14 x15 x16 x17 x18 x19 x20 x21 x22 x23 x24 (.pointer (some ⟨F.g, 0, none⟩)) x26 x27 x28 x29 x30 x31 x2 po pc ps eB ec bB bc gm mc g W :=
  ⟨h.bel, h.p0, h.p1, h.p2, h.p3, h.p4, h.p5, h.p6, h.p7, h.p9, h.p10, h.p11, h.p12, h.p13, h.p14, h.p15, h.p16, h.p17, h.p18, h.p19, h.p20, fun _ => rfl, h.p23, h.p24, h.p25, h.e8, h.bm, h.e21, h.e26, h.sep, h.e27, h.e28, h.e29, h.l2621, h.l278, h.l2726, h.l2827, h.l2928⟩
theorem KI.s23 (h : KI w F s L x3 x4 x5 x6 x7 x8 x9 x10 x11 x12 x13 x14 x15 x16 x17 x18 x19 x20 x21 x22 x23 x24 x25 x26 x27 x28 x29 x30 x31 x2 po pc ps eB ec bB bc gm mc g W) : KI w F s (upd L 23) x3 x4 x5 x6 x7 x8 x9 x10 x11 x12 x13 x14 x15 x16 x17 x18 x19 x20 x21 x22 x23 x24 x25 (.pointer (some ⟨F.g, 0, none⟩)) x27 x28 x29 x30 x31 x2 po pc ps eB ec bB bc gm mc g W :=
  ⟨h.bel, h.p0, h.p1, h.p2, h.p3, h.p4, h.p5, h.p6, h.p7, h.p9, h.p10, h.p11, h.p12, h.p13, h.p14, h.p15, h.p16, h.p17, h.p18, h.p19, h.p20, h.p22, fun _ => rfl, h.p24, h.p25, h.e8, h.bm, h.e21, h.e26, h.sep, h.e27, h.e28, h.e29, h.l2621, h.l278, h.l2726, h.l2827, h.l2928⟩
theorem KI.s24 (h : KI w F s L x3 x4 x5 x6 x7 x8 x9 x10 x11 x12 x13 x14 x15 x16 x17 x18 x19 x20 x21 x22 x23 x24 x25 x26 x27 x28 x29 x30 x31 x2 po pc ps eB ec bB bc gm mc g W) : KI w F s (upd L 24) x3 x4 x5 x6 x7 x8 x9 x10 x11 x12 x13 x14 x15 x16 x17 x18 x19 x20 x21 x22 x23 x24 x25 x26 (.pointer (some ⟨F.g, 13, none⟩)) x28 x29 x30 x31 x2 po pc ps eB ec bB bc gm mc g W :=
  ⟨h.bel, h.p0, h.p1, h.p2, h.p3, h.p4, h.p5, h.p6, h.p7, h.p9, h.p10, h.p11, h.p12, h.p13, h.p14, h.p15, h.p16, h.p17, h.p18, h.p19, h.p20, h.p22, h.p23, fun _ => rfl, h.p25, h.e8, h.bm, h.e21, h.e26, h.sep, h.e27, h.e28, h.e29, h.l2621, h.l278, h.l2726, h.l2827, h.l2928⟩
theorem KI.s25 (h : KI w F s L x3 x4 x5 x6 x7 x8 x9 x10 x11 x12 x13 x14 x15 x16 x17 x18 x19 x20 x21 x22 x23 x24 x25 x26 x27 x28 x29 x30 x31 x2 po pc ps eB ec bB bc gm mc g W) : KI w F s (upd L 25) x3 x4 x5 x6 x7 x8 x9 x10 x11 x12 x13 x14 x15 x16 x17 x18 x19 x20 x21 x22 x23 x24 x25 x26 x27 (.slice F.mo s.mask.length F.mcap) x29 x30 x31 x2 po pc ps eB ec bB bc gm mc g W :=
  ⟨h.bel, h.p0, h.p1, h.p2, h.p3, h.p4, h.p5, h.p6, h.p7, h.p9, h.p10, h.p11, h.p12, h.p13, h.p14, h.p15, h.p16, h.p17, h.p18, h.p19, h.p20, h.p22, h.p23, h.p24, fun _ => rfl, h.e8, h.bm, h.e21, h.e26, h.sep, h.e27, h.e28, h.e29, h.l2621, h.l278, h.l2726, h.l2827, h.l2928⟩
theorem KI.s8 (h : KI w F s L x3 x4 x5 x6 x7 x8 x9 x10 x11 x12 x13 x14 x15 x16 x17 x18 x19 x20 x21 x22 x23 x24 x25 x26 x27 x28 x29 x30 x31 x2 po pc ps eB ec bB bc gm mc g W) (hL : L 8 = false) {po' : Option Addr} {pc' : Nat} {ps' : List (Nat × Nat)} {eB' ec' bB' bc' : Nat} (ho : OwnSt W' W.heap.size s.pages s.erases s.blown po' pc' ps' eB' ec' bB' bc') (hb : Below W.heap.size W W') : KI w F s (upd L 8) x3 x4 x5 x6 x7 x8 x9 x10 (.agg #[.slice po' s.pages.length pc', .slice (some ⟨eB', 0, none⟩) s.erases.length ec', .slice (some ⟨bB', 0, none⟩) s.blown.length bc']) x12 x13 x14 x15 x16 x17 x18 x19 x20 x21 x22 x23 x24 x25 x26 x27 x28 x29 x30 x31 x2 po' pc' ps' eB' ec' bB' bc' gm mc g W' :=
  have h27 : L 27 = false := by cases q : L 27 with | false => rfl | true => exact no_of h.l278 hL q
  have h28 : L 28 = false := by cases q : L 28 with | false => rfl | true => exact no_of h.l2827 h27 q
  have m := h.mono hb
  ⟨m.bel, m.p0, m.p1, m.p2, m.p3, m.p4, m.p5, m.p6, m.p7, m.p9, m.p10, m.p11, m.p12, m.p13, m.p14, m.p15, m.p16, m.p17, m.p18, m.p19, m.p20, m.p22, m.p23, m.p24, m.p25, fun _ => ⟨rfl, ho.base h.bel.size⟩, m.bm, m.e21, m.e26, fun _ k => ⟨fun hm => Nat.lt_irrefl _ (Nat.lt_of_lt_of_le (h.bm k).2 (ho.lt _ hm).1), fun b hb2 e => (by have hp := ho.pg; rw [hb2] at hp; have h1 := (owns_lt hp).1; have h2 := (h.bm k).2; omega)⟩, fun k => no_of h.l278 hL k, fun k => no_of h.l2827 h27 k, m.e29, m.l2621, fun _ => rfl, m.l2726, m.l2827, m.l2928⟩
theorem KI.s21 (h : KI w F s L x3 x4 x5 x6 x7 x8 x9 x10 x11 x12 x13 x14 x15 x16 x17 x18 x19 x20 x21 x22 x23 x24 x25 x26 x27 x28 x29 x30 x31 x2 po pc ps eB ec bB bc gm mc g W) (hL : L 21 = false) : KI w F s (upd L 21) x3 x4 x5 x6 x7 x8 x9 x10 x11 x12 x13 x14 x15 x16 x17 x18 x19 x20 x21 x22 x23 (.slice (some ⟨W.heap.size, 0, none⟩) 0 0) x25 x26 x27 x28 x29 x30 x31 x2 po pc ps eB ec bB bc W.heap.size mc g (W.alloc (.cells #[] 5)) :=
  have h26 : L 26 = false := by cases q : L 26 with | false => rfl | true => exact no_of h.l2621 hL q
  have h27 : L 27 = false := by cases q : L 27 with | false => rfl | true => exact no_of h.l2726 h26 q
  have m := h.mono (below_alloc W (.cells #[] 5))
  ⟨m.bel, m.p0, m.p1, m.p2, m.p3, m.p4, m.p5, m.p6, m.p7, m.p9, m.p10, m.p11, m.p12, m.p13, m.p14, m.p15, m.p16, m.p17, m.p18, m.p19, m.p20, m.p22, m.p23, m.p24, m.p25, m.e8, fun _ => ⟨h.bel.size, by simp⟩, fun _ _ => ⟨rfl, heap_alloc_new W _⟩, fun k => no_of h.l2621 hL k, fun k _ => ⟨fun hm => Nat.lt_irrefl _ ((h.e8 k).2.lt _ hm).2, fun b hb2 e => (by have hp := (h.e8 k).2.pg; rw [hb2] at hp; have h1 := (owns_lt hp).2; omega)⟩, fun k => no_of h.l2726 h26 k, fun k => no_of h.l2827 h27 k, m.e29, fun _ => rfl, m.l278, m.l2726, m.l2827, m.l2928⟩
theorem KI.s26 (h : KI w F s L x3 x4 x5 x6 x7 x8 x9 x10 x11 x12 x13 x14 x15 x16 x17 x18 x19 x20 x21 x22 x23 x24 x25 x26 x27 x28 x29 x30 x31 x2 po pc ps eB ec bB bc gm mc g W) (hL : L 26 = false) (h21 : L 21 = true) {gm' mc' : Nat} (ho : W'.ownsRow w.heap.size 5 1 (.slice (some ⟨gm', 0, none⟩) s.mask.length mc') s.mask.length (s.mask.map B8)) (hb : Below W.heap.size W W') (hg : gm' = gm ∨ gm' = W.heap.size) (hN : w.heap.size ≤ gm') (hlt : gm' < W'.heap.size) : KI w F s (upd L 26) x3 x4 x5 x6 x7 x8 x9 x10 x11 x12 x13 x14 x15 x16 x17 x18 x19 x20 x21 x22 x23 x24 x25 x26 x27 x28 (.slice (some ⟨gm', 0, none⟩) s.mask.length mc') x30 x31 x2 po pc ps eB ec bB bc gm' mc' g W' :=
  have h27 : L 27 = false := by cases q : L 27 with | false => rfl | true => exact no_of h.l2726 hL q
  have m := h.mono hb
  ⟨m.bel, m.p0, m.p1, m.p2, m.p3, m.p4, m.p5, m.p6, m.p7, m.p9, m.p10, m.p11, m.p12, m.p13, m.p14, m.p15, m.p16, m.p17, m.p18, m.p19, m.p20, m.p22, m.p23, m.p24, m.p25, m.e8, fun _ => ⟨hN, hlt⟩, fun _ k => (by cases k), fun _ => ⟨rfl, ho⟩, fun k _ => (by rcases hg with rfl | rfl; exact h.sep k h21; exact ⟨fun hm => Nat.lt_irrefl _ ((h.e8 k).2.lt _ hm).2, fun b hb2 e => (by have hp := (h.e8 k).2.pg; rw [hb2] at hp; have h1 := (owns_lt hp).2; omega)⟩), fun k => no_of h.l2726 hL k, fun k => no_of h.l2827 h27 k, m.e29, fun _ => h21, m.l278, fun _ => rfl, m.l2827, m.l2928⟩
theorem KI.s27 (h : KI w F s L x3 x4 x5 x6 x7 x8 x9 x10 x11 x12 x13 x14 x15 x16 x17 x18 x19 x20 x21 x22 x23 x24 x25 x26 x27 x28 x29 x30 x31 x2 po pc ps eB ec bB bc gm mc g W) (h8 : L 8 = true) (h26 : L 26 = true) : KI w F s (upd L 27) x3 x4 x5 x6 x7 x8 x9 x10 x11 x12 x13 x14 x15 x16 x17 x18 x19 x20 x21 x22 x23 x24 x25 x26 x27 x28 x29 (.agg (cpCells s po pc eB ec bB bc gm mc).toArray) x31 x2 po pc ps eB ec bB bc gm mc g W :=
  ⟨h.bel, h.p0, h.p1, h.p2, h.p3, h.p4, h.p5, h.p6, h.p7, h.p9, h.p10, h.p11, h.p12, h.p13, h.p14, h.p15, h.p16, h.p17, h.p18, h.p19, h.p20, h.p22, h.p23, h.p24, h.p25, h.e8, h.bm, h.e21, h.e26, h.sep, fun _ => rfl, h.e28, h.e29, h.l2621, fun _ => h8, fun _ => h26, fun _ => rfl, h.l2928⟩
theorem KI.s28 (h : KI w F s L x3 x4 x5 x6 x7 x8 x9 x10 x11 x12 x13 x14 x15 x16 x17 x18 x19 x20 x21 x22 x23 x24 x25 x26 x27 x28 x29 x30 x31 x2 po pc ps eB ec bB bc gm mc g W) (hL : L 28 = false) (h27 : L 27 = true) : KI w F s (upd L 28) x3 x4 x5 x6 x7 x8 x9 x10 x11 x12 x13 x14 x15 x16 x17 x18 x19 x20 x21 x22 x23 x24 x25 x26 x27 x28 x29 x30 (.pointer (some ⟨W.heap.size, 0, none⟩)) x2 po pc ps eB ec bB bc gm mc W.heap.size (W.alloc (.cells (cpCells s po pc eB ec bB bc gm mc).toArray 73)) :=
  have h29 : L 29 = false := by cases q : L 29 with | false => rfl | true => exact no_of h.l2928 hL q
  have m := h.mono (below_alloc W (.cells (cpCells s po pc eB ec bB bc gm mc).toArray 73))
  have hos := (h.e8 (h.l278 h27)).2
  have hgm := (h.bm (h.l2621 (h.l2726 h27))).2
  ⟨m.bel, m.p0, m.p1, m.p2, m.p3, m.p4, m.p5, m.p6, m.p7, m.p9, m.p10, m.p11, m.p12, m.p13, m.p14, m.p15, m.p16, m.p17, m.p18, m.p19, m.p20, m.p22, m.p23, m.p24, m.p25, m.e8, m.bm, m.e21, m.e26, m.sep, m.e27, fun _ => ⟨rfl, heap_alloc_new W _, h.bel.size, by simp, by omega, fun hm => Nat.lt_irrefl _ (hos.lt _ hm).2, fun b hb2 e => (by have hp := hos.pg; rw [hb2] at hp; have h1 := (owns_lt hp).2; omega)⟩, fun k => no_of h.l2928 hL k, m.l2621, m.l278, m.l2726, fun _ => h27, fun _ => rfl⟩
theorem KI.s29 (h : KI w F s L x3 x4 x5 x6 x7 x8 x9 x10 x11 x12 x13 x14 x15 x16 x17 x18 x19 x20 x21 x22 x23 x24 x25 x26 x27 x28 x29 x30 x31 x2 po pc ps eB ec bB bc gm mc g W) (h28 : L 28 = true) : KI w F s (upd L 29) x3 x4 x5 x6 x7 x8 x9 x10 x11 x12 x13 x14 x15 x16 x17 x18 x19 x20 x21 x22 x23 x24 x25 x26 x27 x28 x29 x30 x31 (.pointer (some ⟨g, 0, none⟩)) po pc ps eB ec bB bc gm mc g W :=
  ⟨h.bel, h.p0, h.p1, h.p2, h.p3, h.p4, h.p5, h.p6, h.p7, h.p9, h.p10, h.p11, h.p12, h.p13, h.p14, h.p15, h.p16, h.p17, h.p18, h.p19, h.p20, h.p22, h.p23, h.p24, h.p25, h.e8, h.bm, h.e21, h.e26, h.sep, h.e27, h.e28, fun _ => rfl, h.l2621, h.l278, h.l2726, h.l2827, fun _ => h28⟩
end

@[reducible] def IK (w : World) (F : RF) (s : RS) (y0 y1 : Value) : (Nat → Bool) → Act → World → Prop := fun L a W => ∃ x3 x4 x5 x6 x7 x8 x9 x10 x11 x12 x13 x14 x15 x16 x17 x18 x19 x20 x21 x22 x23 x24 x25 x26 x27 x28 x29 x30 x31 x2 po pc ps eB ec bB bc gm mc g, a = ⟨#[y0, y1, x2, x3, x4, x5, x6, x7, x8, x9, x10, x11, x12, x13, x14, x15, x16, x17, x18, x19, x20, x21, x22, x23, x24, x25, x26, x27, x28, x29, x30, x31], []⟩ ∧ KI w F s L x3 x4 x5 x6 x7 x8 x9 x10 x11 x12 x13 x14 x15 x16 x17 x18 x19 x20 x21 x22 x23 x24 x25 x26 x27 x28 x29 x30 x31 x2 po pc ps eB ec bB bc gm mc g W

theorem el_bytes : ElT 50 5 1 1 (.int .u8 0) := ⟨Try.underlying50, by kernel_rfl, rfl, by omega⟩

set_option maxHeartbeats 2000000 in
set_option maxRecDepth 100000 in
theorem copy_any (F : RF) (s : RS) (w : World) (h : RAt w F s) (hpos : 0 < s.pages.length) (hmn : F.mo = none → F.mcap = 0) (hml : s.mask.length ≤ 140737488355328) :
    Calls Try.prog 32 #[.pointer (some ⟨F.g, 0, none⟩)] w fun e w' => ∃ F', e = .returned (.pointer (some ⟨F'.g, 0, none⟩)) ∧ RAt w' F' s ∧ (∀ B ∈ F'.blocks, w.heap.size ≤ B) ∧ (F'.mo = none → F'.mcap = 0) ∧ Below w.heap.size w w' := by
  have hlP : ∀ p, p < s.pages.length → (s.pages.getD p []).length ≤ 4398046511104 := fun p hp => by
    have := (h.ok.pgLen p hp).1; have := h.ok.c2; omega
  have hnp : ∀ W, Below w.heap.size w W → ∀ B off p n qc, some (⟨F.pB, 0, none⟩ : Addr) = some ⟨B, off, none⟩ → p < s.pages.length → W.cell? ⟨B, off + p, none⟩ = some (.slice none n qc) → qc = 0 := by
    intro W hW B off p n qc e1 e2 e3
    injection e1 with e1
    injection e1 with e4 e5
    subst e4 e5
    obtain ⟨q, _, e6, _⟩ := h.pageAt p e2
    rw [Nat.zero_add, hW.cell (World.block_lt_of_cell? _ _ e6), e6] at e3
    injection e3 with e3
    injection e3 with e3
    cases e3
  have ho := h.ok
  have HC : Hid (∀ W, Below w.heap.size w W → Calls Try.prog 11 #[.agg #[.slice (some ⟨F.pB, 0, none⟩) s.pages.length F.pcap, .slice (some ⟨F.eB, 0, none⟩) s.erases.length F.ecap, .slice (some ⟨F.bB, 0, none⟩) s.blown.length F.bcap]] W fun e w' => ∃ po pc ps eB ec bB bc, e = .returned (.agg #[.slice po s.pages.length pc, .slice (some ⟨eB, 0, none⟩) s.erases.length ec, .slice (some ⟨bB, 0, none⟩) s.blown.length bc]) ∧ OwnSt w' W.heap.size s.pages s.erases s.blown po pc ps eB ec bB bc ∧ Below W.heap.size W w') := fun W hW =>
    copyState_any ⟨some ⟨F.pB, 0, none⟩, F.pcap, some ⟨F.eB, 0, none⟩, F.ecap, some ⟨F.bB, 0, none⟩, F.bcap⟩ s.st W (h.view.below hW (Nat.le_refl _)) (fun e => by cases e) (fun e => by cases e) (by show s.erases.length ≤ _; have := ho.er; have := ho.pg; omega) (by show s.blown.length ≤ _; have := ho.bl; omega) (by show s.pages.length ≤ _; have := ho.pg; omega) hlP (hnp W hW)
  have hrow : Row w F.g 73 (s.cellsOf F) := h.row
  have hsrc : IsL w F.mo (s.mask.map B8) := by
    rcases h.msk with e | ⟨B, e1, e2, e3⟩
    · exact .inl (by rw [e]; rfl)
    · exact .inr ⟨B, 0, e2, fun j u hu => by rw [Nat.zero_add]; exact e3.cell j u hu⟩
  have hmx : s.mask.length ≤ maxLen := by unfold maxLen; omega
  have HH : Hid (RAt w F s) := h
  clear h
  go_enter Try.func32, Try.ntmps32
  go_wp2
  refine wp_region_inv (IK w F s _ _) (by kernel_rfl) (by kernel_rfl) ⟨_, _, _, _, _, _, _, _, _, _, _, _, _, _, _, _, _, _, _, _, _, _, _, _, _, _, _, _, _, _, _, _, _, _, _, _, _, _, _, _, rfl,  KI.zero w F s _ _ _ _ _ _ _ _ _ _ _ _ _ _ _ _ _ _ _ _ _ _ _ _ _ _ _ _ _ _⟩ ?_ ?_
  · refine .cons ?_ (.cons ?_ (.cons ?_ (.cons ?_ (.cons ?_ (.cons ?_ (.cons ?_ (.cons ?_ (.cons ?_ (.cons ?_ (.cons ?_ (.cons ?_ (.cons ?_ (.cons ?_ (.cons ?_ (.cons ?_ (.cons ?_ (.cons ?_ (.cons ?_ (.cons ?_ (.cons ?_ (.cons ?_ (.cons ?_ (.cons ?_ (.cons ?_ (.cons ?_ (.cons ?_ (.cons ?_ (.cons ?_ (.cons ?_ .nil)))))))))))))))))))))))))))))
    all_goals (rintro L a W ⟨x3, x4, x5, x6, x7, x8, x9, x10, x11, x12, x13, x14, x15, x16, x17, x18, x19, x20, x21, x22, x23, x24, x25, x26, x27, x28, x29, x30, x31, x2, po, pc, ps, eB, ec, bB, bc, gm, mc, g, rfl, hI⟩ hL hd K hK)
    · rw [if_pos (by rfl)]
      go_simp
      exact hK.out _ _ ⟨_, _, _, _, _, _, _, _, _, _, _, _, _, _, _, _, _, _, _, _, _, _, _, _, _, _, _, _, _, _, _, _, _, _, _, _, _, _, _, _, rfl,  hI.s0⟩
    · have hx := hI.p0 (hd 0 (by decide))
      subst hx
      rw [if_pos (by rfl)]
      go_simp
      exact hK.out _ _ ⟨_, _, _, _, _, _, _, _, _, _, _, _, _, _, _, _, _, _, _, _, _, _, _, _, _, _, _, _, _, _, _, _, _, _, _, _, _, _, _, _, rfl,  hI.s1⟩
    · have hx := hI.p1 (hd 1 (by decide))
      subst hx
      rw [if_pos (by rfl)]
      go_simp
      exact hK.out _ _ ⟨_, _, _, _, _, _, _, _, _, _, _, _, _, _, _, _, _, _, _, _, _, _, _, _, _, _, _, _, _, _, _, _, _, _, _, _, _, _, _, _, rfl,  hI.s2⟩
    · have hx := hI.p2 (hd 2 (by decide))
      subst hx
      have hr : Row W F.g 73 (s.cellsOf F) := (hI.bel.block _ hrow.lt).trans hrow
      have c0 := hr.cell 0 _ rfl
      have c1 := hr.cell 1 _ rfl
      have c2 := hr.cell 2 _ rfl
      have c3 := hr.cell 3 _ rfl
      have c4 := hr.cell 4 _ rfl
      have c5 := hr.cell 5 _ rfl
      have c6 := hr.cell 6 _ rfl
      rw [if_pos (by rfl)]
      go_simp
      exact hK.out _ _ ⟨_, _, _, _, _, _, _, _, _, _, _, _, _, _, _, _, _, _, _, _, _, _, _, _, _, _, _, _, _, _, _, _, _, _, _, _, _, _, _, _, rfl,  hI.s3⟩
    · rw [if_pos (by rfl)]
      go_simp
      exact hK.out _ _ ⟨_, _, _, _, _, _, _, _, _, _, _, _, _, _, _, _, _, _, _, _, _, _, _, _, _, _, _, _, _, _, _, _, _, _, _, _, _, _, _, _, rfl,  hI.s4⟩
    · have hx := hI.p4 (hd 4 (by decide))
      subst hx
      rw [if_pos (by rfl)]
      go_simp
      exact hK.out _ _ ⟨_, _, _, _, _, _, _, _, _, _, _, _, _, _, _, _, _, _, _, _, _, _, _, _, _, _, _, _, _, _, _, _, _, _, _, _, _, _, _, _, rfl,  hI.s5⟩
    · have hx := hI.p5 (hd 5 (by decide))
      subst hx
      rw [if_pos (by rfl)]
      go_simp
      exact hK.out _ _ ⟨_, _, _, _, _, _, _, _, _, _, _, _, _, _, _, _, _, _, _, _, _, _, _, _, _, _, _, _, _, _, _, _, _, _, _, _, _, _, _, _, rfl,  hI.s6⟩
    · have hx := hI.p6 (hd 6 (by decide))
      subst hx
      have hr : Row W F.g 73 (s.cellsOf F) := (hI.bel.block _ hrow.lt).trans hrow
      have c7 := hr.cell 7 _ rfl
      have c8 := hr.cell 8 _ rfl
      have c9 := hr.cell 9 _ rfl
      rw [if_pos (by rfl)]
      go_simp
      exact hK.out _ _ ⟨_, _, _, _, _, _, _, _, _, _, _, _, _, _, _, _, _, _, _, _, _, _, _, _, _, _, _, _, _, _, _, _, _, _, _, _, _, _, _, _, rfl,  hI.s7⟩
    · have hx := hI.p7 (hd 7 (by decide))
      subst hx
      rw [if_pos (by rfl)]
      go_simp
      refine (HC.out _ hI.bel).mono ?_
      rintro e w3 ⟨po', pc', ps', eB', ec', bB', bc', rfl, hos, hb3⟩
      exact hK.out _ _ ⟨_, _, _, _, _, _, _, _, _, _, _, _, _, _, _, _, _, _, _, _, _, _, _, _, _, _, _, _, _, _, _, _, _, _, _, _, _, _, _, _, rfl,  hI.s8 hL hos hb3⟩
    · rw [if_pos (by rfl)]
      go_simp
      exact hK.out _ _ ⟨_, _, _, _, _, _, _, _, _, _, _, _, _, _, _, _, _, _, _, _, _, _, _, _, _, _, _, _, _, _, _, _, _, _, _, _, _, _, _, _, rfl,  hI.s9⟩
    · have hx := hI.p9 (hd 9 (by decide))
      subst hx
      rw [if_pos (by rfl)]
      go_simp
      exact hK.out _ _ ⟨_, _, _, _, _, _, _, _, _, _, _, _, _, _, _, _, _, _, _, _, _, _, _, _, _, _, _, _, _, _, _, _, _, _, _, _, _, _, _, _, rfl,  hI.s10⟩
    · have hx := hI.p10 (hd 10 (by decide))
      subst hx
      rw [if_pos (by rfl)]
      go_simp
      exact hK.out _ _ ⟨_, _, _, _, _, _, _, _, _, _, _, _, _, _, _, _, _, _, _, _, _, _, _, _, _, _, _, _, _, _, _, _, _, _, _, _, _, _, _, _, rfl,  hI.s11⟩
    · have hx := hI.p11 (hd 11 (by decide))
      subst hx
      have hr : Row W F.g 73 (s.cellsOf F) := (hI.bel.block _ hrow.lt).trans hrow
      have c10 := hr.cell 10 _ rfl
      rw [if_pos (by rfl)]
      go_simp
      exact hK.out _ _ ⟨_, _, _, _, _, _, _, _, _, _, _, _, _, _, _, _, _, _, _, _, _, _, _, _, _, _, _, _, _, _, _, _, _, _, _, _, _, _, _, _, rfl,  hI.s12⟩
    · rw [if_pos (by rfl)]
      go_simp
      exact hK.out _ _ ⟨_, _, _, _, _, _, _, _, _, _, _, _, _, _, _, _, _, _, _, _, _, _, _, _, _, _, _, _, _, _, _, _, _, _, _, _, _, _, _, _, rfl,  hI.s13⟩
    · have hx := hI.p13 (hd 13 (by decide))
      subst hx
      rw [if_pos (by rfl)]
      go_simp
      exact hK.out _ _ ⟨_, _, _, _, _, _, _, _, _, _, _, _, _, _, _, _, _, _, _, _, _, _, _, _, _, _, _, _, _, _, _, _, _, _, _, _, _, _, _, _, rfl,  hI.s14⟩
    · have hx := hI.p14 (hd 14 (by decide))
      subst hx
      rw [if_pos (by rfl)]
      go_simp
      exact hK.out _ _ ⟨_, _, _, _, _, _, _, _, _, _, _, _, _, _, _, _, _, _, _, _, _, _, _, _, _, _, _, _, _, _, _, _, _, _, _, _, _, _, _, _, rfl,  hI.s15⟩
    · have hx := hI.p15 (hd 15 (by decide))
      subst hx
      have hr : Row W F.g 73 (s.cellsOf F) := (hI.bel.block _ hrow.lt).trans hrow
      have c11 := hr.cell 11 _ rfl
      rw [if_pos (by rfl)]
      go_simp
      exact hK.out _ _ ⟨_, _, _, _, _, _, _, _, _, _, _, _, _, _, _, _, _, _, _, _, _, _, _, _, _, _, _, _, _, _, _, _, _, _, _, _, _, _, _, _, rfl,  hI.s16⟩
    · rw [if_pos (by rfl)]
      go_simp
      exact hK.out _ _ ⟨_, _, _, _, _, _, _, _, _, _, _, _, _, _, _, _, _, _, _, _, _, _, _, _, _, _, _, _, _, _, _, _, _, _, _, _, _, _, _, _, rfl,  hI.s17⟩
    · have hx := hI.p17 (hd 17 (by decide))
      subst hx
      rw [if_pos (by rfl)]
      go_simp
      exact hK.out _ _ ⟨_, _, _, _, _, _, _, _, _, _, _, _, _, _, _, _, _, _, _, _, _, _, _, _, _, _, _, _, _, _, _, _, _, _, _, _, _, _, _, _, rfl,  hI.s18⟩
    · have hx := hI.p18 (hd 18 (by decide))
      subst hx
      rw [if_pos (by rfl)]
      go_simp
      exact hK.out _ _ ⟨_, _, _, _, _, _, _, _, _, _, _, _, _, _, _, _, _, _, _, _, _, _, _, _, _, _, _, _, _, _, _, _, _, _, _, _, _, _, _, _, rfl,  hI.s19⟩
    · have hx := hI.p19 (hd 19 (by decide))
      subst hx
      have hr : Row W F.g 73 (s.cellsOf F) := (hI.bel.block _ hrow.lt).trans hrow
      have c12 := hr.cell 12 _ rfl
      rw [if_pos (by rfl)]
      go_simp
      exact hK.out _ _ ⟨_, _, _, _, _, _, _, _, _, _, _, _, _, _, _, _, _, _, _, _, _, _, _, _, _, _, _, _, _, _, _, _, _, _, _, _, _, _, _, _, rfl,  hI.s20⟩
    · rw [if_pos (by rfl)]
      go_simp
      exact hK.out _ _ ⟨_, _, _, _, _, _, _, _, _, _, _, _, _, _, _, _, _, _, _, _, _, _, _, _, _, _, _, _, _, _, _, _, _, _, _, _, _, _, _, _, rfl,  hI.s21 hL⟩
    · rw [if_pos (by rfl)]
      go_simp
      exact hK.out _ _ ⟨_, _, _, _, _, _, _, _, _, _, _, _, _, _, _, _, _, _, _, _, _, _, _, _, _, _, _, _, _, _, _, _, _, _, _, _, _, _, _, _, rfl,  hI.s22⟩
    · have hx := hI.p22 (hd 22 (by decide))
      subst hx
      rw [if_pos (by rfl)]
      go_simp
      exact hK.out _ _ ⟨_, _, _, _, _, _, _, _, _, _, _, _, _, _, _, _, _, _, _, _, _, _, _, _, _, _, _, _, _, _, _, _, _, _, _, _, _, _, _, _, rfl,  hI.s23⟩
    · have hx := hI.p23 (hd 23 (by decide))
      subst hx
      rw [if_pos (by rfl)]
      go_simp
      exact hK.out _ _ ⟨_, _, _, _, _, _, _, _, _, _, _, _, _, _, _, _, _, _, _, _, _, _, _, _, _, _, _, _, _, _, _, _, _, _, _, _, _, _, _, _, rfl,  hI.s24⟩
    · have hx := hI.p24 (hd 24 (by decide))
      subst hx
      have hr : Row W F.g 73 (s.cellsOf F) := (hI.bel.block _ hrow.lt).trans hrow
      have c13 := hr.cell 13 _ rfl
      rw [if_pos (by rfl)]
      go_simp
      exact hK.out _ _ ⟨_, _, _, _, _, _, _, _, _, _, _, _, _, _, _, _, _, _, _, _, _, _, _, _, _, _, _, _, _, _, _, _, _, _, _, _, _, _, _, _, rfl,  hI.s25⟩
    · have hx := hI.p25 (hd 25 (by decide))
      obtain ⟨hy, hg⟩ := hI.e21 (hd 21 (by decide)) hL
      subst hx hy
      refine step_append_fresh el_bytes rfl (.tmp 24) (.tmp 28) rfl w.heap.size gm rfl hg (hI.bm (hd 21 (by decide))).1 F.mo s.mask.length F.mcap _ rfl (by simp) (hsrc.below hI.bel (Nat.le_refl _)) (B8_one _) hmn hmx (by omega) ?_
      intro g' c' W' q1 q2 q3 q4 q5
      exact hK.out _ _ ⟨_, _, _, _, _, _, _, _, _, _, _, _, _, _, _, _, _, _, _, _, _, _, _, _, _, _, _, _, _, _, _, _, _, _, _, _, _, _, _, _, rfl,  hI.s26 hL (hd 21 (by decide)) q1 q2 q3 q4 q5⟩
    · have v1 := hI.p3 (hd 3 (by decide))
      have v2 := (hI.e8 (hd 8 (by decide))).1
      have v3 := hI.p12 (hd 12 (by decide))
      have v4 := hI.p16 (hd 16 (by decide))
      have v5 := hI.p20 (hd 20 (by decide))
      have v6 := (hI.e26 (hd 26 (by decide))).1
      subst v1 v2 v3 v4 v5 v6
      rw [if_pos (by rfl)]
      simp only [Cfg.vals]
      go_simp
      exact hK.out _ _ ⟨_, _, _, _, _, _, _, _, _, _, _, _, _, _, _, _, _, _, _, _, _, _, _, _, _, _, _, _, _, _, _, _, _, _, _, _, _, _, _, _, rfl,  hI.s27 (hd 8 (by decide)) (hd 26 (by decide))⟩
    · have hx := hI.e27 (hd 27 (by decide))
      subst hx
      rw [if_pos (by rfl)]
      simp only [cpCells, Cfg.vals]
      go_simp
      exact hK.out _ _ ⟨_, _, _, _, _, _, _, _, _, _, _, _, _, _, _, _, _, _, _, _, _, _, _, _, _, _, _, _, _, _, _, _, _, _, _, _, _, _, _, _, rfl,  hI.s28 hL (hd 27 (by decide))⟩
    · have hx := (hI.e28 (hd 28 (by decide))).1
      subst hx
      rw [if_pos (by rfl)]
      go_simp
      exact hK.out _ _ ⟨_, _, _, _, _, _, _, _, _, _, _, _, _, _, _, _, _, _, _, _, _, _, _, _, _, _, _, _, _, _, _, _, _, _, _, _, _, _, _, _, rfl,  hI.s29 (hd 28 (by decide))⟩
  · rintro L a W hall ⟨x3, x4, x5, x6, x7, x8, x9, x10, x11, x12, x13, x14, x15, x16, x17, x18, x19, x20, x21, x22, x23, x24, x25, x26, x27, x28, x29, x30, x31, x2, po, pc, ps, eB, ec, bB, bc, gm, mc, g, rfl, hI⟩
    have hx2 := hI.e29 (hall 29 (by decide))
    obtain ⟨_, q1, q2, q3, q4, q5, q6⟩ := hI.e28 (hall 28 (by decide))
    obtain ⟨_, hos⟩ := hI.e8 (hall 8 (by decide))
    obtain ⟨_, hmk⟩ := hI.e26 (hall 26 (by decide))
    obtain ⟨z1, z2⟩ := hI.sep (hall 8 (by decide)) (hall 21 (by decide))
    have hgm := hI.bm (hall 21 (by decide))
    have hbel := hI.bel
    subst hx2
    obtain ⟨pB, rfl, hpB, hpl⟩ := hos.hasB hpos
    have hrat : RAt W ⟨g, pB, pc, eB, ec, bB, bc, ps, some ⟨gm, 0, none⟩, mc, some gm⟩ s := hos.rat s.c s.n s.gone s.wait s.mask g _ mc (some gm) q1 ho (by rw [List.mem_cons, not_or]; exact ⟨q6 pB rfl, q5⟩) (fun B hB => by injection hB with hB; subst hB; refine ⟨?_, hgm.2⟩; rw [List.mem_cons, not_or, List.mem_cons, not_or]; exact ⟨fun e => q4 e.symm, z2 pB rfl, z1⟩) (.inr ⟨gm, rfl, rfl, owns_pre hmk⟩)
    have hblk : ∀ B ∈ (⟨g, pB, pc, eB, ec, bB, bc, ps, some ⟨gm, 0, none⟩, mc, some gm⟩ : RF).blocks, w.heap.size ≤ B := by
      intro B hB
      simp only [RF.blocks, List.mem_cons, List.mem_append, Option.toList, List.not_mem_nil, or_false] at hB
      have hl := hos.lt
      simp only [List.mem_cons] at hl
      rcases hB with rfl | rfl | rfl | rfl | hm | rfl
      · exact q2
      · exact hpB
      · exact (hl _ (.inl rfl)).1
      · exact (hl _ (.inr (.inl rfl))).1
      · exact (hl _ (.inr (.inr hm))).1
      · exact hgm.1
    have HR : Hid (RAt W ⟨g, pB, pc, eB, ec, bB, bc, ps, some ⟨gm, 0, none⟩, mc, some gm⟩ s ∧ (∀ B ∈ (⟨g, pB, pc, eB, ec, bB, bc, ps, some ⟨gm, 0, none⟩, mc, some gm⟩ : RF).blocks, w.heap.size ≤ B) ∧ Below w.heap.size w W) := ⟨hrat, hblk, hbel⟩
    clear hI hall hrat hblk q1 hos hmk
    try dsimp only
    go_wp2
    go_ret
    exact ⟨⟨g, pB, pc, eB, ec, bB, bc, ps, some ⟨gm, 0, none⟩, mc, some gm⟩, rfl, HR.out.1, HR.out.2.1, (fun e => by cases e), HR.out.2.2⟩
end Go.Proofs.Ythjndaeibbfgaaa
