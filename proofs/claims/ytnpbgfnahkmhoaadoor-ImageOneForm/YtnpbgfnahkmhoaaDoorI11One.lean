
import Derived.Test.YtnpbgfnahkmhoaaDoorI11Laws
/-! The law's own walk: ImageOneForm. (Printed by tools/genone11.py.) -/
namespace Go.Proofs.YtnpbgfnahkmhoaaDoor
open Go.RowKit

structure E8 (W1 : World) (gc m cc B off cap G5 : Nat) (CV TG : List By) (L : Nat → Bool) (x49 x50 x51 x52 x53 x54 x55 x56 x57 x58 x59 x60 x61 x62 x63 x64 x65 x66 x67 x68 x69 x70 x71 x72 x73 x74 x75 x76 x77 x78 x4 : Value) (W : World) : Prop where
  x : Below W1.heap.size W1 W
  p0 : L 0 = true → x49 = .int .i64 0
  p1 : L 1 = true → x50 = .bool true
  p2 : L 2 = true → x51 = .bool true
  p3 : L 3 = true → x52 = .slice (some ⟨gc, 0, none⟩) (m + 48) cc
  p4 : L 4 = true → x53 = .int .i64 ((m : Int) + 48)
  p5 : L 5 = true → x54 = .slice (some ⟨B, off, none⟩) (m + 48) cap
  p6 : L 6 = true → x55 = .int .i64 ((m : Int) + 48)
  p7 : L 7 = true → x56 = .bool true
  p8 : L 8 = true → x57 = .bool true
  p9 : L 9 = true → x58 = .bool true
  p10 : L 10 = true → x59 = .slice (some ⟨gc, 0, none⟩) (m + 48) cc
  p11 : L 11 = true → ∃ ao c, x60 = .slice ao (m + 16) c ∧ Own (W1.heap.size) W (.slice ao (m + 16) c) (CV)
  p12 : L 12 = true → x61 = .string (strOf CV)
  p13 : L 13 = true → x62 = .slice (some ⟨B, off, none⟩) (m + 48) cap
  p14 : L 14 = true → ∃ ao c, x63 = .slice ao (m + 16) c ∧ Own (W1.heap.size) W (.slice ao (m + 16) c) (CV)
  p15 : L 15 = true → x64 = .string (strOf CV)
  p16 : L 16 = true → x65 = .bool true
  p17 : L 17 = true → x66 = .bool true
  p18 : L 18 = true → x67 = .bool true
  p19 : L 19 = true → x68 = .slice (some ⟨B, off, none⟩) (m + 48) cap
  p20 : L 20 = true → x69 = .slice (some ⟨B, off, none⟩) (m + 48) cap
  p21 : L 21 = true → x70 = .int .i64 ((m : Int) + 48)
  p22 : L 22 = true → x71 = .int .i64 ((m : Int) + 16)
  p23 : L 23 = true → x72 = .slice (some ⟨B, off + (m + 16), none⟩) 32 (cap - (m + 16))
  p24 : L 24 = true → x73 = .string (strOf TG)
  p25 : L 25 = true → x74 = .pointer (some ⟨G5, 4, none⟩)
  p26 : L 26 = true → x75 = .slice (some ⟨G5, 4, none⟩) 32 32
  p27 : L 27 = true → x76 = .string (strOf TG)
  p28 : L 28 = true → x77 = .bool true
  p29 : L 29 = true → x78 = .bool true
  p30 : L 30 = true → x4 = .bool true
section
variable {W1 : World} {gc m cc B off cap G5 : Nat} {CV TG : List By} {L : Nat → Bool} {x49 x50 x51 x52 x53 x54 x55 x56 x57 x58 x59 x60 x61 x62 x63 x64 x65 x66 x67 x68 x69 x70 x71 x72 x73 x74 x75 x76 x77 x78 x4 : Value} {W W2 : World}
theorem E8.s0 (h : E8 W1 gc m cc B off cap G5 CV TG L x49 x50 x51 x52 x53 x54 x55 x56 x57 x58 x59 x60 x61 x62 x63 x64 x65 x66 x67 x68 x69 x70 x71 x72 x73 x74 x75 x76 x77 x78 x4 W) : E8 W1 gc m cc B off cap G5 CV TG (upd L 0) (.int .i64 0) x50 x51 x52 x53 x54 x55 x56 x57 x58 x59 x60 x61 x62 x63 x64 x65 x66 x67 x68 x69 x70 x71 x72 x73 x74 x75 x76 x77 x78 x4 W :=
  ⟨h.x, fun _ => rfl, h.p1, h.p2, h.p3, h.p4, h.p5, h.p6, h.p7, h.p8, h.p9, h.p10, h.p11, h.p12, h.p13, h.p14, h.p15, h.p16, h.p17, h.p18, h.p19, h.p20, h.p21, h.p22, h.p23, h.p24, h.p25, h.p26, h.p27, h.p28, h.p29, h.p30⟩
theorem E8.s1 (h : E8 W1 gc m cc B off cap G5 CV TG L x49 x50 x51 x52 x53 x54 x55 x56 x57 x58 x59 x60 x61 x62 x63 x64 x65 x66 x67 x68 x69 x70 x71 x72 x73 x74 x75 x76 x77 x78 x4 W) : E8 W1 gc m cc B off cap G5 CV TG (upd L 1) x49 (.bool true) x51 x52 x53 x54 x55 x56 x57 x58 x59 x60 x61 x62 x63 x64 x65 x66 x67 x68 x69 x70 x71 x72 x73 x74 x75 x76 x77 x78 x4 W :=
  ⟨h.x, h.p0, fun _ => rfl, h.p2, h.p3, h.p4, h.p5, h.p6, h.p7, h.p8, h.p9, h.p10, h.p11, h.p12, h.p13, h.p14, h.p15, h.p16, h.p17, h.p18, h.p19, h.p20, h.p21, h.p22, h.p23, h.p24, h.p25, h.p26, h.p27, h.p28, h.p29, h.p30⟩
theorem E8.s2 (h : E8 W1 gc m cc B off cap G5 CV TG L x49 x50 x51 x52 x53 x54 x55 x56 x57 x58 x59 x60 x61 x62 x63 x64 x65 x66 x67 x68 x69 x70 x71 x72 x73 x74 x75 x76 x77 x78 x4 W) : E8 W1 gc m cc B off cap G5 CV TG (upd L 2) x49 x50 (.bool true) x52 x53 x54 x55 x56 x57 x58 x59 x60 x61 x62 x63 x64 x65 x66 x67 x68 x69 x70 x71 x72 x73 x74 x75 x76 x77 x78 x4 W :=
  ⟨h.x, h.p0, h.p1, fun _ => rfl, h.p3, h.p4, h.p5, h.p6, h.p7, h.p8, h.p9, h.p10, h.p11, h.p12, h.p13, h.p14, h.p15, h.p16, h.p17, h.p18, h.p19, h.p20, h.p21, h.p22, h.p23, h.p24, h.p25, h.p26, h.p27, h.p28, h.p29, h.p30⟩
theorem E8.s3 (h : E8 W1 gc m cc B off cap G5 CV TG L x49 x50 x51 x52 x53 x54 x55 x56 x57 x58 x59 x60 x61 x62 x63 x64 x65 x66 x67 x68 x69 x70 x71 x72 x73 x74 x75 x76 x77 x78 x4 W) : E8 W1 gc m cc B off cap G5 CV TG (upd L 3) x49 x50 x51 (.slice (some ⟨gc, 0, none⟩) (m + 48) cc) x53 x54 x55 x56 x57 x58 x59 x60 x61 x62 x63 x64 x65 x66 x67 x68 x69 x70 x71 x72 x73 x74 x75 x76 x77 x78 x4 W :=
  ⟨h.x, h.p0, h.p1, h.p2, fun _ => rfl, h.p4, h.p5, h.p6, h.p7, h.p8, h.p9, h.p10, h.p11, h.p12, h.p13, h.p14, h.p15, h.p16, h.p17, h.p18, h.p19, h.p20, h.p21, h.p22, h.p23, h.p24, h.p25, h.p26, h.p27, h.p28, h.p29, h.p30⟩
theorem E8.s4 (h : E8 W1 gc m cc B off cap G5 CV TG L x49 x50 x51 x52 x53 x54 x55 x56 x57 x58 x59 x60 x61 x62 x63 x64 x65 x66 x67 x68 x69 x70 x71 x72 x73 x74 x75 x76 x77 x78 x4 W) : E8 W1 gc m cc B off cap G5 CV TG (upd L 4) x49 x50 x51 x52 (.int .i64 ((m : Int) + 48)) x54 x55 x56 x57 x58 x59 x60 x61 x62 x63 x64 x65 x66 x67 x68 x69 x70 x71 x72 x73 x74 x75 x76 x77 x78 x4 W :=
  ⟨h.x, h.p0, h.p1, h.p2, h.p3, fun _ => rfl, h.p5, h.p6, h.p7, h.p8, h.p9, h.p10, h.p11, h.p12, h.p13, h.p14, h.p15, h.p16, h.p17, h.p18, h.p19, h.p20, h.p21, h.p22, h.p23, h.p24, h.p25, h.p26, h.p27, h.p28, h.p29, h.p30⟩
theorem E8.s5 (h : E8 W1 gc m cc B off cap G5 CV TG L x49 x50 x51 x52 x53 x54 x55 x56 x57 x58 x59 x60 x61 x62 x63 x64 x65 x66 x67 x68 x69 x70 x71 x72 x73 x74 x75 x76 x77 x78 x4 W) : E8 W1 gc m cc B off cap G5 CV TG (upd L 5) x49 x50 x51 x52 x53 (.slice (some ⟨B, off, none⟩) (m + 48) cap) x55 x56 x57 x58 x59 x60 x61 x62 x63 x64 x65 x66 x67 x68 x69 x70 x71 x72 x73 x74 x75 x76 x77 x78 x4 W :=
  ⟨h.x, h.p0, h.p1, h.p2, h.p3, h.p4, fun _ => rfl, h.p6, h.p7, h.p8, h.p9, h.p10, h.p11, h.p12, h.p13, h.p14, h.p15, h.p16, h.p17, h.p18, h.p19, h.p20, h.p21, h.p22, h.p23, h.p24, h.p25, h.p26, h.p27, h.p28, h.p29, h.p30⟩
theorem E8.s6 (h : E8 W1 gc m cc B off cap G5 CV TG L x49 x50 x51 x52 x53 x54 x55 x56 x57 x58 x59 x60 x61 x62 x63 x64 x65 x66 x67 x68 x69 x70 x71 x72 x73 x74 x75 x76 x77 x78 x4 W) : E8 W1 gc m cc B off cap G5 CV TG (upd L 6) x49 x50 x51 x52 x53 x54 (.int .i64 ((m : Int) + 48)) x56 x57 x58 x59 x60 x61 x62 x63 x64 x65 x66 x67 x68 x69 x70 x71 x72 x73 x74 x75 x76 x77 x78 x4 W :=
  ⟨h.x, h.p0, h.p1, h.p2, h.p3, h.p4, h.p5, fun _ => rfl, h.p7, h.p8, h.p9, h.p10, h.p11, h.p12, h.p13, h.p14, h.p15, h.p16, h.p17, h.p18, h.p19, h.p20, h.p21, h.p22, h.p23, h.p24, h.p25, h.p26, h.p27, h.p28, h.p29, h.p30⟩
theorem E8.s7 (h : E8 W1 gc m cc B off cap G5 CV TG L x49 x50 x51 x52 x53 x54 x55 x56 x57 x58 x59 x60 x61 x62 x63 x64 x65 x66 x67 x68 x69 x70 x71 x72 x73 x74 x75 x76 x77 x78 x4 W) : E8 W1 gc m cc B off cap G5 CV TG (upd L 7) x49 x50 x51 x52 x53 x54 x55 (.bool true) x57 x58 x59 x60 x61 x62 x63 x64 x65 x66 x67 x68 x69 x70 x71 x72 x73 x74 x75 x76 x77 x78 x4 W :=
  ⟨h.x, h.p0, h.p1, h.p2, h.p3, h.p4, h.p5, h.p6, fun _ => rfl, h.p8, h.p9, h.p10, h.p11, h.p12, h.p13, h.p14, h.p15, h.p16, h.p17, h.p18, h.p19, h.p20, h.p21, h.p22, h.p23, h.p24, h.p25, h.p26, h.p27, h.p28, h.p29, h.p30⟩
theorem E8.s8 (h : E8 W1 gc m cc B off cap G5 CV TG L x49 x50 x51 x52 x53 x54 x55 x56 x57 x58 x59 x60 x61 x62 x63 x64 x65 x66 x67 x68 x69 x70 x71 x72 x73 x74 x75 x76 x77 x78 x4 W) : E8 W1 gc m cc B off cap G5 CV TG (upd L 8) x49 x50 x51 x52 x53 x54 x55 x56 (.bool true) x58 x59 x60 x61 x62 x63 x64 x65 x66 x67 x68 x69 x70 x71 x72 x73 x74 x75 x76 x77 x78 x4 W :=
  ⟨h.x, h.p0, h.p1, h.p2, h.p3, h.p4, h.p5, h.p6, h.p7, fun _ => rfl, h.p9, h.p10, h.p11, h.p12, h.p13, h.p14, h.p15, h.p16, h.p17, h.p18, h.p19, h.p20, h.p21, h.p22, h.p23, h.p24, h.p25, h.p26, h.p27, h.p28, h.p29, h.p30⟩
theorem E8.s9 (h : E8 W1 gc m cc B off cap G5 CV TG L x49 x50 x51 x52 x53 x54 x55 x56 x57 x58 x59 x60 x61 x62 x63 x64 x65 x66 x67 x68 x69 x70 x71 x72 x73 x74 x75 x76 x77 x78 x4 W) : E8 W1 gc m cc B off cap G5 CV TG (upd L 9) x49 x50 x51 x52 x53 x54 x55 x56 x57 (.bool true) x59 x60 x61 x62 x63 x64 x65 x66 x67 x68 x69 x70 x71 x72 x73 x74 x75 x76 x77 x78 x4 W :=
  ⟨h.x, h.p0, h.p1, h.p2, h.p3, h.p4, h.p5, h.p6, h.p7, h.p8, fun _ => rfl, h.p10, h.p11, h.p12, h.p13, h.p14, h.p15, h.p16, h.p17, h.p18, h.p19, h.p20, h.p21, h.p22, h.p23, h.p24, h.p25, h.p26, h.p27, h.p28, h.p29, h.p30⟩
theorem E8.s10 (h : E8 W1 gc m cc B off cap G5 CV TG L x49 x50 x51 x52 x53 x54 x55 x56 x57 x58 x59 x60 x61 x62 x63 x64 x65 x66 x67 x68 x69 x70 x71 x72 x73 x74 x75 x76 x77 x78 x4 W) : E8 W1 gc m cc B off cap G5 CV TG (upd L 10) x49 x50 x51 x52 x53 x54 x55 x56 x57 x58 (.slice (some ⟨gc, 0, none⟩) (m + 48) cc) x60 x61 x62 x63 x64 x65 x66 x67 x68 x69 x70 x71 x72 x73 x74 x75 x76 x77 x78 x4 W :=
  ⟨h.x, h.p0, h.p1, h.p2, h.p3, h.p4, h.p5, h.p6, h.p7, h.p8, h.p9, fun _ => rfl, h.p11, h.p12, h.p13, h.p14, h.p15, h.p16, h.p17, h.p18, h.p19, h.p20, h.p21, h.p22, h.p23, h.p24, h.p25, h.p26, h.p27, h.p28, h.p29, h.p30⟩
theorem E8.s11 (h : E8 W1 gc m cc B off cap G5 CV TG L x49 x50 x51 x52 x53 x54 x55 x56 x57 x58 x59 x60 x61 x62 x63 x64 x65 x66 x67 x68 x69 x70 x71 x72 x73 x74 x75 x76 x77 x78 x4 W) {v : Value} (hX : Below W1.heap.size W1 W2) (hb3 : Below W.heap.size W W2) (ho : ∃ ao c, v = .slice ao (m + 16) c ∧ Own (W1.heap.size) W2 (.slice ao (m + 16) c) (CV)) : E8 W1 gc m cc B off cap G5 CV TG (upd L 11) x49 x50 x51 x52 x53 x54 x55 x56 x57 x58 x59 v x61 x62 x63 x64 x65 x66 x67 x68 x69 x70 x71 x72 x73 x74 x75 x76 x77 x78 x4 W2 :=
  ⟨hX, h.p0, h.p1, h.p2, h.p3, h.p4, h.p5, h.p6, h.p7, h.p8, h.p9, h.p10, fun _ => ho, h.p12, h.p13, fun k => let ⟨ao, c, h1, h2⟩ := h.p14 k; ⟨ao, c, h1, h2.keep hb3⟩, h.p15, h.p16, h.p17, h.p18, h.p19, h.p20, h.p21, h.p22, h.p23, h.p24, h.p25, h.p26, h.p27, h.p28, h.p29, h.p30⟩
theorem E8.s12 (h : E8 W1 gc m cc B off cap G5 CV TG L x49 x50 x51 x52 x53 x54 x55 x56 x57 x58 x59 x60 x61 x62 x63 x64 x65 x66 x67 x68 x69 x70 x71 x72 x73 x74 x75 x76 x77 x78 x4 W) : E8 W1 gc m cc B off cap G5 CV TG (upd L 12) x49 x50 x51 x52 x53 x54 x55 x56 x57 x58 x59 x60 (.string (strOf CV)) x62 x63 x64 x65 x66 x67 x68 x69 x70 x71 x72 x73 x74 x75 x76 x77 x78 x4 W :=
  ⟨h.x, h.p0, h.p1, h.p2, h.p3, h.p4, h.p5, h.p6, h.p7, h.p8, h.p9, h.p10, h.p11, fun _ => rfl, h.p13, h.p14, h.p15, h.p16, h.p17, h.p18, h.p19, h.p20, h.p21, h.p22, h.p23, h.p24, h.p25, h.p26, h.p27, h.p28, h.p29, h.p30⟩
theorem E8.s13 (h : E8 W1 gc m cc B off cap G5 CV TG L x49 x50 x51 x52 x53 x54 x55 x56 x57 x58 x59 x60 x61 x62 x63 x64 x65 x66 x67 x68 x69 x70 x71 x72 x73 x74 x75 x76 x77 x78 x4 W) : E8 W1 gc m cc B off cap G5 CV TG (upd L 13) x49 x50 x51 x52 x53 x54 x55 x56 x57 x58 x59 x60 x61 (.slice (some ⟨B, off, none⟩) (m + 48) cap) x63 x64 x65 x66 x67 x68 x69 x70 x71 x72 x73 x74 x75 x76 x77 x78 x4 W :=
  ⟨h.x, h.p0, h.p1, h.p2, h.p3, h.p4, h.p5, h.p6, h.p7, h.p8, h.p9, h.p10, h.p11, h.p12, fun _ => rfl, h.p14, h.p15, h.p16, h.p17, h.p18, h.p19, h.p20, h.p21, h.p22, h.p23, h.p24, h.p25, h.p26, h.p27, h.p28, h.p29, h.p30⟩
theorem E8.s14 (h : E8 W1 gc m cc B off cap G5 CV TG L x49 x50 x51 x52 x53 x54 x55 x56 x57 x58 x59 x60 x61 x62 x63 x64 x65 x66 x67 x68 x69 x70 x71 x72 x73 x74 x75 x76 x77 x78 x4 W) {v : Value} (hX : Below W1.heap.size W1 W2) (hb3 : Below W.heap.size W W2) (ho : ∃ ao c, v = .slice ao (m + 16) c ∧ Own (W1.heap.size) W2 (.slice ao (m + 16) c) (CV)) : E8 W1 gc m cc B off cap G5 CV TG (upd L 14) x49 x50 x51 x52 x53 x54 x55 x56 x57 x58 x59 x60 x61 x62 v x64 x65 x66 x67 x68 x69 x70 x71 x72 x73 x74 x75 x76 x77 x78 x4 W2 :=
  ⟨hX, h.p0, h.p1, h.p2, h.p3, h.p4, h.p5, h.p6, h.p7, h.p8, h.p9, h.p10, fun k => let ⟨ao, c, h1, h2⟩ := h.p11 k; ⟨ao, c, h1, h2.keep hb3⟩, h.p12, h.p13, fun _ => ho, h.p15, h.p16, h.p17, h.p18, h.p19, h.p20, h.p21, h.p22, h.p23, h.p24, h.p25, h.p26, h.p27, h.p28, h.p29, h.p30⟩
theorem E8.s15 (h : E8 W1 gc m cc B off cap G5 CV TG L x49 x50 x51 x52 x53 x54 x55 x56 x57 x58 x59 x60 x61 x62 x63 x64 x65 x66 x67 x68 x69 x70 x71 x72 x73 x74 x75 x76 x77 x78 x4 W) : E8 W1 gc m cc B off cap G5 CV TG (upd L 15) x49 x50 x51 x52 x53 x54 x55 x56 x57 x58 x59 x60 x61 x62 x63 (.string (strOf CV)) x65 x66 x67 x68 x69 x70 x71 x72 x73 x74 x75 x76 x77 x78 x4 W :=
  ⟨h.x, h.p0, h.p1, h.p2, h.p3, h.p4, h.p5, h.p6, h.p7, h.p8, h.p9, h.p10, h.p11, h.p12, h.p13, h.p14, fun _ => rfl, h.p16, h.p17, h.p18, h.p19, h.p20, h.p21, h.p22, h.p23, h.p24, h.p25, h.p26, h.p27, h.p28, h.p29, h.p30⟩
theorem E8.s16 (h : E8 W1 gc m cc B off cap G5 CV TG L x49 x50 x51 x52 x53 x54 x55 x56 x57 x58 x59 x60 x61 x62 x63 x64 x65 x66 x67 x68 x69 x70 x71 x72 x73 x74 x75 x76 x77 x78 x4 W) : E8 W1 gc m cc B off cap G5 CV TG (upd L 16) x49 x50 x51 x52 x53 x54 x55 x56 x57 x58 x59 x60 x61 x62 x63 x64 (.bool true) x66 x67 x68 x69 x70 x71 x72 x73 x74 x75 x76 x77 x78 x4 W :=
  ⟨h.x, h.p0, h.p1, h.p2, h.p3, h.p4, h.p5, h.p6, h.p7, h.p8, h.p9, h.p10, h.p11, h.p12, h.p13, h.p14, h.p15, fun _ => rfl, h.p17, h.p18, h.p19, h.p20, h.p21, h.p22, h.p23, h.p24, h.p25, h.p26, h.p27, h.p28, h.p29, h.p30⟩
theorem E8.s17 (h : E8 W1 gc m cc B off cap G5 CV TG L x49 x50 x51 x52 x53 x54 x55 x56 x57 x58 x59 x60 x61 x62 x63 x64 x65 x66 x67 x68 x69 x70 x71 x72 x73 x74 x75 x76 x77 x78 x4 W) : E8 W1 gc m cc B off cap G5 CV TG (upd L 17) x49 x50 x51 x52 x53 x54 x55 x56 x57 x58 x59 x60 x61 x62 x63 x64 x65 (.bool true) x67 x68 x69 x70 x71 x72 x73 x74 x75 x76 x77 x78 x4 W :=
  ⟨h.x, h.p0, h.p1, h.p2, h.p3, h.p4, h.p5, h.p6, h.p7, h.p8, h.p9, h.p10, h.p11, h.p12, h.p13, h.p14, h.p15, h.p16, fun _ => rfl, h.p18, h.p19, h.p20, h.p21, h.p22, h.p23, h.p24, h.p25, h.p26, h.p27, h.p28, h.p29, h.p30⟩
theorem E8.s18 (h : E8 W1 gc m cc B off cap G5 CV TG L x49 x50 x51 x52 x53 x54 x55 x56 x57 x58 x59 x60 x61 x62 x63 x64 x65 x66 x67 x68 x69 x70 x71 x72 x73 x74 x75 x76 x77 x78 x4 W) : E8 W1 gc m cc B off cap G5 CV TG (upd L 18) x49 x50 x51 x52 x53 x54 x55 x56 x57 x58 x59 x60 x61 x62 x63 x64 x65 x66 (.bool true) x68 x69 x70 x71 x72 x73 x74 x75 x76 x77 x78 x4 W :=
  ⟨h.x, h.p0, h.p1, h.p2, h.p3, h.p4, h.p5, h.p6, h.p7, h.p8, h.p9, h.p10, h.p11, h.p12, h.p13, h.p14, h.p15, h.p16, h.p17, fun _ => rfl, h.p19, h.p20, h.p21, h.p22, h.p23, h.p24, h.p25, h.p26, h.p27, h.p28, h.p29, h.p30⟩
theorem E8.s19 (h : E8 W1 gc m cc B off cap G5 CV TG L x49 x50 x51 x52 x53 x54 x55 x56 x57 x58 x59 x60 x61 x62 x63 x64 x65 x66 x67 x68 x69 x70 x71 x72 x73 x74 x75 x76 x77 x78 x4 W) : E8 W1 gc m cc B off cap G5 CV TG (upd L 19) x49 x50 x51 x52 x53 x54 x55 x56 x57 x58 x59 x60 x61 x62 x63 x64 x65 x66 x67 (.slice (some ⟨B, off, none⟩) (m + 48) cap) x69 x70 x71 x72 x73 x74 x75 x76 x77 x78 x4 W :=
  ⟨h.x, h.p0, h.p1, h.p2, h.p3, h.p4, h.p5, h.p6, h.p7, h.p8, h.p9, h.p10, h.p11, h.p12, h.p13, h.p14, h.p15, h.p16, h.p17, h.p18, fun _ => rfl, h.p20, h.p21, h.p22, h.p23, h.p24, h.p25, h.p26, h.p27, h.p28, h.p29, h.p30⟩
theorem E8.s20 (h : E8 W1 gc m cc B off cap G5 CV TG L x49 x50 x51 x52 x53 x54 x55 x56 x57 x58 x59 x60 x61 x62 x63 x64 x65 x66 x67 x68 x69 x70 x71 x72 x73 x74 x75 x76 x77 x78 x4 W) : E8 W1 gc m cc B off cap G5 CV TG (upd L 20) x49 x50 x51 x52 x53 x54 x55 x56 x57 x58 x59 x60 x61 x62 x63 x64 x65 x66 x67 x68 (.slice (some ⟨B, off, none⟩) (m + 48) cap) x70 x71 x72 x73 x74 x75 x76 x77 x78 x4 W :=
  ⟨h.x, h.p0, h.p1, h.p2, h.p3, h.p4, h.p5, h.p6, h.p7, h.p8, h.p9, h.p10, h.p11, h.p12, h.p13, h.p14, h.p15, h.p16, h.p17, h.p18, h.p19, fun _ => rfl, h.p21, h.p22, h.p23, h.p24, h.p25, h.p26, h.p27, h.p28, h.p29, h.p30⟩
theorem E8.s21 (h : E8 W1 gc m cc B off cap G5 CV TG L x49 x50 x51 x52 x53 x54 x55 x56 x57 x58 x59 x60 x61 x62 x63 x64 x65 x66 x67 x68 x69 x70 x71 x72 x73 x74 x75 x76 x77 x78 x4 W) : E8 W1 gc m cc B off cap G5 CV TG (upd L 21) x49 x50 x51 x52 x53 x54 x55 x56 x57 x58 x59 x60 x61 x62 x63 x64 x65 x66 x67 x68 x69 (.int .i64 ((m : Int) + 48)) x71 x72 x73 x74 x75 x76 x77 x78 x4 W :=
  ⟨h.x, h.p0, h.p1, h.p2, h.p3, h.p4, h.p5, h.p6, h.p7, h.p8, h.p9, h.p10, h.p11, h.p12, h.p13, h.p14, h.p15, h.p16, h.p17, h.p18, h.p19, h.p20, fun _ => rfl, h.p22, h.p23, h.p24, h.p25, h.p26, h.p27, h.p28, h.p29, h.p30⟩
theorem E8.s22 (h : E8 W1 gc m cc B off cap G5 CV TG L x49 x50 x51 x52 x53 x54 x55 x56 x57 x58 x59 x60 x61 x62 x63 x64 x65 x66 x67 x68 x69 x70 x71 x72 x73 x74 x75 x76 x77 x78 x4 W) : E8 W1 gc m cc B off cap G5 CV TG (upd L 22) x49 x50 x51 x52 x53 x54 x55 x56 x57 x58 x59 x60 x61 x62 x63 x64 x65 x66 x67 x68 x69 x70 (.int .i64 ((m : Int) + 16)) x72 x73 x74 x75 x76 x77 x78 x4 W :=
  ⟨h.x, h.p0, h.p1, h.p2, h.p3, h.p4, h.p5, h.p6, h.p7, h.p8, h.p9, h.p10, h.p11, h.p12, h.p13, h.p14, h.p15, h.p16, h.p17, h.p18, h.p19, h.p20, h.p21, fun _ => rfl, h.p23, h.p24, h.p25, h.p26, h.p27, h.p28, h.p29, h.p30⟩
theorem E8.s23 (h : E8 W1 gc m cc B off cap G5 CV TG L x49 x50 x51 x52 x53 x54 x55 x56 x57 x58 x59 x60 x61 x62 x63 x64 x65 x66 x67 x68 x69 x70 x71 x72 x73 x74 x75 x76 x77 x78 x4 W) : E8 W1 gc m cc B off cap G5 CV TG (upd L 23) x49 x50 x51 x52 x53 x54 x55 x56 x57 x58 x59 x60 x61 x62 x63 x64 x65 x66 x67 x68 x69 x70 x71 (.slice (some ⟨B, off + (m + 16), none⟩) 32 (cap - (m + 16))) x73 x74 x75 x76 x77 x78 x4 W :=
  ⟨h.x, h.p0, h.p1, h.p2, h.p3, h.p4, h.p5, h.p6, h.p7, h.p8, h.p9, h.p10, h.p11, h.p12, h.p13, h.p14, h.p15, h.p16, h.p17, h.p18, h.p19, h.p20, h.p21, h.p22, fun _ => rfl, h.p24, h.p25, h.p26, h.p27, h.p28, h.p29, h.p30⟩
theorem E8.s24 (h : E8 W1 gc m cc B off cap G5 CV TG L x49 x50 x51 x52 x53 x54 x55 x56 x57 x58 x59 x60 x61 x62 x63 x64 x65 x66 x67 x68 x69 x70 x71 x72 x73 x74 x75 x76 x77 x78 x4 W) : E8 W1 gc m cc B off cap G5 CV TG (upd L 24) x49 x50 x51 x52 x53 x54 x55 x56 x57 x58 x59 x60 x61 x62 x63 x64 x65 x66 x67 x68 x69 x70 x71 x72 (.string (strOf TG)) x74 x75 x76 x77 x78 x4 W :=
  ⟨h.x, h.p0, h.p1, h.p2, h.p3, h.p4, h.p5, h.p6, h.p7, h.p8, h.p9, h.p10, h.p11, h.p12, h.p13, h.p14, h.p15, h.p16, h.p17, h.p18, h.p19, h.p20, h.p21, h.p22, h.p23, fun _ => rfl, h.p25, h.p26, h.p27, h.p28, h.p29, h.p30⟩
theorem E8.s25 (h : E8 W1 gc m cc B off cap G5 CV TG L x49 x50 x51 x52 x53 x54 x55 x56 x57 x58 x59 x60 x61 x62 x63 x64 x65 x66 x67 x68 x69 x70 x71 x72 x73 x74 x75 x76 x77 x78 x4 W) : E8 W1 gc m cc B off cap G5 CV TG (upd L 25) x49 x50 x51 x52 x53 x54 x55 x56 x57 x58 x59 x60 x61 x62 x63 x64 x65 x66 x67 x68 x69 x70 x71 x72 x73 (.pointer (some ⟨G5, 4, none⟩)) x75 x76 x77 x78 x4 W :=
  ⟨h.x, h.p0, h.p1, h.p2, h.p3, h.p4, h.p5, h.p6, h.p7, h.p8, h.p9, h.p10, h.p11, h.p12, h.p13, h.p14, h.p15, h.p16, h.p17, h.p18, h.p19, h.p20, h.p21, h.p22, h.p23, h.p24, fun _ => rfl, h.p26, h.p27, h.p28, h.p29, h.p30⟩
theorem E8.s26 (h : E8 W1 gc m cc B off cap G5 CV TG L x49 x50 x51 x52 x53 x54 x55 x56 x57 x58 x59 x60 x61 x62 x63 x64 x65 x66 x67 x68 x69 x70 x71 x72 x73 x74 x75 x76 x77 x78 x4 W) : E8 W1 gc m cc B off cap G5 CV TG (upd L 26) x49 x50 x51 x52 x53 x54 x55 x56 x57 x58 x59 x60 x61 x62 x63 x64 x65 x66 x67 x68 x69 x70 x71 x72 x73 x74 (.slice (some ⟨G5, 4, none⟩) 32 32) x76 x77 x78 x4 W :=
  ⟨h.x, h.p0, h.p1, h.p2, h.p3, h.p4, h.p5, h.p6, h.p7, h.p8, h.p9, h.p10, h.p11, h.p12, h.p13, h.p14, h.p15, h.p16, h.p17, h.p18, h.p19, h.p20, h.p21, h.p22, h.p23, h.p24, h.p25, fun _ => rfl, h.p27, h.p28, h.p29, h.p30⟩
theorem E8.s27 (h : E8 W1 gc m cc B off cap G5 CV TG L x49 x50 x51 x52 x53 x54 x55 x56 x57 x58 x59 x60 x61 x62 x63 x64 x65 x66 x67 x68 x69 x70 x71 x72 x73 x74 x75 x76 x77 x78 x4 W) : E8 W1 gc m cc B off cap G5 CV TG (upd L 27) x49 x50 x51 x52 x53 x54 x55 x56 x57 x58 x59 x60 x61 x62 x63 x64 x65 x66 x67 x68 x69 x70 x71 x72 x73 x74 x75 (.string (strOf TG)) x77 x78 x4 W :=
  ⟨h.x, h.p0, h.p1, h.p2, h.p3, h.p4, h.p5, h.p6, h.p7, h.p8, h.p9, h.p10, h.p11, h.p12, h.p13, h.p14, h.p15, h.p16, h.p17, h.p18, h.p19, h.p20, h.p21, h.p22, h.p23, h.p24, h.p25, h.p26, fun _ => rfl, h.p28, h.p29, h.p30⟩
theorem E8.s28 (h : E8 W1 gc m cc B off cap G5 CV TG L x49 x50 x51 x52 x53 x54 x55 x56 x57 x58 x59 x60 x61 x62 x63 x64 x65 x66 x67 x68 x69 x70 x71 x72 x73 x74 x75 x76 x77 x78 x4 W) : E8 W1 gc m cc B off cap G5 CV TG (upd L 28) x49 x50 x51 x52 x53 x54 x55 x56 x57 x58 x59 x60 x61 x62 x63 x64 x65 x66 x67 x68 x69 x70 x71 x72 x73 x74 x75 x76 (.bool true) x78 x4 W :=
  ⟨h.x, h.p0, h.p1, h.p2, h.p3, h.p4, h.p5, h.p6, h.p7, h.p8, h.p9, h.p10, h.p11, h.p12, h.p13, h.p14, h.p15, h.p16, h.p17, h.p18, h.p19, h.p20, h.p21, h.p22, h.p23, h.p24, h.p25, h.p26, h.p27, fun _ => rfl, h.p29, h.p30⟩
theorem E8.s29 (h : E8 W1 gc m cc B off cap G5 CV TG L x49 x50 x51 x52 x53 x54 x55 x56 x57 x58 x59 x60 x61 x62 x63 x64 x65 x66 x67 x68 x69 x70 x71 x72 x73 x74 x75 x76 x77 x78 x4 W) : E8 W1 gc m cc B off cap G5 CV TG (upd L 29) x49 x50 x51 x52 x53 x54 x55 x56 x57 x58 x59 x60 x61 x62 x63 x64 x65 x66 x67 x68 x69 x70 x71 x72 x73 x74 x75 x76 x77 (.bool true) x4 W :=
  ⟨h.x, h.p0, h.p1, h.p2, h.p3, h.p4, h.p5, h.p6, h.p7, h.p8, h.p9, h.p10, h.p11, h.p12, h.p13, h.p14, h.p15, h.p16, h.p17, h.p18, h.p19, h.p20, h.p21, h.p22, h.p23, h.p24, h.p25, h.p26, h.p27, h.p28, fun _ => rfl, h.p30⟩
theorem E8.s30 (h : E8 W1 gc m cc B off cap G5 CV TG L x49 x50 x51 x52 x53 x54 x55 x56 x57 x58 x59 x60 x61 x62 x63 x64 x65 x66 x67 x68 x69 x70 x71 x72 x73 x74 x75 x76 x77 x78 x4 W) : E8 W1 gc m cc B off cap G5 CV TG (upd L 30) x49 x50 x51 x52 x53 x54 x55 x56 x57 x58 x59 x60 x61 x62 x63 x64 x65 x66 x67 x68 x69 x70 x71 x72 x73 x74 x75 x76 x77 x78 (.bool true) W :=
  ⟨h.x, h.p0, h.p1, h.p2, h.p3, h.p4, h.p5, h.p6, h.p7, h.p8, h.p9, h.p10, h.p11, h.p12, h.p13, h.p14, h.p15, h.p16, h.p17, h.p18, h.p19, h.p20, h.p21, h.p22, h.p23, h.p24, h.p25, h.p26, h.p27, h.p28, h.p29, fun _ => rfl⟩
end
@[reducible] def IE8 (W1 : World) (gc m cc B off cap G5 : Nat) (CV TG : List By) (y0 y1 y2 y3 y5 y6 y7 y8 y9 y10 y11 y12 y13 y14 y15 y16 y17 y18 y19 y20 y21 y22 y23 y24 y25 y26 y27 y28 y29 y30 y31 y32 y33 y34 y35 y36 y37 y38 y39 y40 y41 y42 y43 y44 y45 y46 y47 y48 : Value) : (Nat → Bool) → Act → World → Prop := fun L a W => ∃ x49 x50 x51 x52 x53 x54 x55 x56 x57 x58 x59 x60 x61 x62 x63 x64 x65 x66 x67 x68 x69 x70 x71 x72 x73 x74 x75 x76 x77 x78 x4, a = ⟨#[y0, y1, y2, y3, x4, y5, y6, y7, y8, y9, y10, y11, y12, y13, y14, y15, y16, y17, y18, y19, y20, y21, y22, y23, y24, y25, y26, y27, y28, y29, y30, y31, y32, y33, y34, y35, y36, y37, y38, y39, y40, y41, y42, y43, y44, y45, y46, y47, y48, x49, x50, x51, x52, x53, x54, x55, x56, x57, x58, x59, x60, x61, x62, x63, x64, x65, x66, x67, x68, x69, x70, x71, x72, x73, x74, x75, x76, x77, x78], []⟩ ∧ E8 W1 gc m cc B off cap G5 CV TG L x49 x50 x51 x52 x53 x54 x55 x56 x57 x58 x59 x60 x61 x62 x63 x64 x65 x66 x67 x68 x69 x70 x71 x72 x73 x74 x75 x76 x77 x78 x4 W
theorem E8.step {W1 : World} {gc m cc B off cap G5 : Nat} {CV TG : List By} {y0 y1 y2 y3 y5 y6 y7 y8 y9 y10 y11 y12 y13 y14 y15 y16 y17 y18 y19 y20 y21 y22 y23 y24 y25 y26 y27 y28 y29 y30 y31 y32 y33 y34 y35 y36 y37 y38 y39 y40 y41 y42 y43 y44 y45 y46 y47 y48 : Value} {P : Program} {ops : Array Oper} {Q : Exit → Act → World → Prop} {i : Nat} {o : Oper} (hq : ∀ x49 x50 x51 x52 x53 x54 x55 x56 x57 x58 x59 x60 x61 x62 x63 x64 x65 x66 x67 x68 x69 x70 x71 x72 x73 x74 x75 x76 x77 x78 x4 (L : Nat → Bool) (W : World), E8 W1 gc m cc B off cap G5 CV TG L x49 x50 x51 x52 x53 x54 x55 x56 x57 x58 x59 x60 x61 x62 x63 x64 x65 x66 x67 x68 x69 x70 x71 x72 x73 x74 x75 x76 x77 x78 x4 W → L i = false → (∀ j ∈ onesOf o, L j = true) → ∀ K : Act → World → Prop, Shut (∀ a' w', IE8 W1 gc m cc B off cap G5 CV TG y0 y1 y2 y3 y5 y6 y7 y8 y9 y10 y11 y12 y13 y14 y15 y16 y17 y18 y19 y20 y21 y22 y23 y24 y25 y26 y27 y28 y29 y30 y31 y32 y33 y34 y35 y36 y37 y38 y39 y40 y41 y42 y43 y44 y45 y46 y47 y48 (upd L i) a' w' → K a' w') → if Region.wanted o (yielded ops (⟨#[y0, y1, y2, y3, x4, y5, y6, y7, y8, y9, y10, y11, y12, y13, y14, y15, y16, y17, y18, y19, y20, y21, y22, y23, y24, y25, y26, y27, y28, y29, y30, y31, y32, y33, y34, y35, y36, y37, y38, y39, y40, y41, y42, y43, y44, y45, y46, y47, y48, x49, x50, x51, x52, x53, x54, x55, x56, x57, x58, x59, x60, x61, x62, x63, x64, x65, x66, x67, x68, x69, x70, x71, x72, x73, x74, x75, x76, x77, x78], []⟩ : Act).tmps) = true then Oper.wp P o ⟨#[y0, y1, y2, y3, x4, y5, y6, y7, y8, y9, y10, y11, y12, y13, y14, y15, y16, y17, y18, y19, y20, y21, y22, y23, y24, y25, y26, y27, y28, y29, y30, y31, y32, y33, y34, y35, y36, y37, y38, y39, y40, y41, y42, y43, y44, y45, y46, y47, y48, x49, x50, x51, x52, x53, x54, x55, x56, x57, x58, x59, x60, x61, x62, x63, x64, x65, x66, x67, x68, x69, x70, x71, x72, x73, x74, x75, x76, x77, x78], []⟩ W K Q else K ((⟨#[y0, y1, y2, y3, x4, y5, y6, y7, y8, y9, y10, y11, y12, y13, y14, y15, y16, y17, y18, y19, y20, y21, y22, y23, y24, y25, y26, y27, y28, y29, y30, y31, y32, y33, y34, y35, y36, y37, y38, y39, y40, y41, y42, y43, y44, y45, y46, y47, y48, x49, x50, x51, x52, x53, x54, x55, x56, x57, x58, x59, x60, x61, x62, x63, x64, x65, x66, x67, x68, x69, x70, x71, x72, x73, x74, x75, x76, x77, x78], []⟩ : Act).put o.dst undef) W) : StepI P ops (IE8 W1 gc m cc B off cap G5 CV TG y0 y1 y2 y3 y5 y6 y7 y8 y9 y10 y11 y12 y13 y14 y15 y16 y17 y18 y19 y20 y21 y22 y23 y24 y25 y26 y27 y28 y29 y30 y31 y32 y33 y34 y35 y36 y37 y38 y39 y40 y41 y42 y43 y44 y45 y46 y47 y48) Q i o := by
  rintro L a W ⟨x49, x50, x51, x52, x53, x54, x55, x56, x57, x58, x59, x60, x61, x62, x63, x64, x65, x66, x67, x68, x69, x70, x71, x72, x73, x74, x75, x76, x77, x78, x4, rfl, h⟩
  exact hq _ _ _ _ _ _ _ _ _ _ _ _ _ _ _ _ _ _ _ _ _ _ _ _ _ _ _ _ _ _ _ _ _ h
theorem E8.ends {W1 : World} {gc m cc B off cap G5 : Nat} {CV TG : List By} {y0 y1 y2 y3 y5 y6 y7 y8 y9 y10 y11 y12 y13 y14 y15 y16 y17 y18 y19 y20 y21 y22 y23 y24 y25 y26 y27 y28 y29 y30 y31 y32 y33 y34 y35 y36 y37 y38 y39 y40 y41 y42 y43 y44 y45 y46 y47 y48 : Value} {mm_ : Nat} {Q : Exit → Act → World → Prop} (hq : ∀ x49 x50 x51 x52 x53 x54 x55 x56 x57 x58 x59 x60 x61 x62 x63 x64 x65 x66 x67 x68 x69 x70 x71 x72 x73 x74 x75 x76 x77 x78 x4 (L : Nat → Bool) (W : World), (∀ j, j < mm_ → L j = true) → E8 W1 gc m cc B off cap G5 CV TG L x49 x50 x51 x52 x53 x54 x55 x56 x57 x58 x59 x60 x61 x62 x63 x64 x65 x66 x67 x68 x69 x70 x71 x72 x73 x74 x75 x76 x77 x78 x4 W → Q .normal ⟨#[y0, y1, y2, y3, x4, y5, y6, y7, y8, y9, y10, y11, y12, y13, y14, y15, y16, y17, y18, y19, y20, y21, y22, y23, y24, y25, y26, y27, y28, y29, y30, y31, y32, y33, y34, y35, y36, y37, y38, y39, y40, y41, y42, y43, y44, y45, y46, y47, y48, x49, x50, x51, x52, x53, x54, x55, x56, x57, x58, x59, x60, x61, x62, x63, x64, x65, x66, x67, x68, x69, x70, x71, x72, x73, x74, x75, x76, x77, x78], []⟩ W) : ∀ L a' w', (∀ j, j < mm_ → L j = true) → IE8 W1 gc m cc B off cap G5 CV TG y0 y1 y2 y3 y5 y6 y7 y8 y9 y10 y11 y12 y13 y14 y15 y16 y17 y18 y19 y20 y21 y22 y23 y24 y25 y26 y27 y28 y29 y30 y31 y32 y33 y34 y35 y36 y37 y38 y39 y40 y41 y42 y43 y44 y45 y46 y47 y48 L a' w' → Q .normal a' w' := by
  rintro L a W hall ⟨x49, x50, x51, x52, x53, x54, x55, x56, x57, x58, x59, x60, x61, x62, x63, x64, x65, x66, x67, x68, x69, x70, x71, x72, x73, x74, x75, x76, x77, x78, x4, rfl, h⟩
  exact hq _ _ _ _ _ _ _ _ _ _ _ _ _ _ _ _ _ _ _ _ _ _ _ _ _ _ _ _ _ _ _ _ _ hall h
set_option maxHeartbeats 2000000 in
set_option maxRecDepth 100000 in
theorem oneForm_any (so : Option Addr) (sn sc : Nat) (sec : List By) (hsec : sec.length = sn) (ao : Option Addr) (n cap : Nat) (b : List By) (hb0 : b.length = n) (w : World) (hg : HG w)
    (hsb : IsB w so sec) (hsn : so = none → sc = 0) (hsc : sn ≤ sc) (hsl : sn ≤ 140737488351232) (hb : IsB w ao b) (hnil : ao = none → cap = 0) (hcap : n ≤ cap) (hl : n ≤ 140737488351232) :
    Calls Tryd.prog 7 #[.slice so sn sc, .slice ao n cap] w fun e w' => e = .returned (.bool true) ∧ Below w.heap.size w w' := by
  have AW := awake_any w hg
  have HGW : Hid (HG w) := hg
  have SB : Hid (∀ W, Below w.heap.size w W → IsB W so sec) := fun W h => hsb.below h (Nat.le_refl _)
  have PB : Hid (∀ W, Below w.heap.size w W → IsB W ao b) := fun W h => hb.below h (Nat.le_refl _)
  cases hpr : parse b with
  | error ea =>
    obtain ⟨e0, a0⟩ := ea
    obtain ⟨he1, he2, ha⟩ := parse_wrong hpr
    rw [hb0] at ha
    have C1 : Hid (∀ W, Below w.heap.size w W → Calls Tryd.prog 13 #[.slice ao n cap] W fun e w' => ∃ ao' c' g, e = .returned (.tuple #[.agg (imgC 0 0 0 (.slice ao' 0 c') (List.replicate 32 0)).toArray, .iface 54 (.pointer (some ⟨g, 0, none⟩))]) ∧ Own W.heap.size w' (.slice ao' 0 c') [] ∧ W.heap.size ≤ g ∧ Row w' g 62 [.int .i64 e0, .int .i64 a0] ∧ Below W.heap.size W w') :=
      fun W h => cparse_wrong ao n cap b hb0 W (PB.out W h) hnil hcap hl e0 a0 hpr
    have i1 : (0 : Int) ≤ (a0 : Int) := by omega
    have i2 : (a0 : Int) ≤ (n : Int) := by omega
    have hE : ¬ (e0 : Int) = 0 := by omega
    clear hsb hb hsn hsc hsl hnil hcap hl hsec hb0 hpr he1 he2 ha
    go_enter Tryd.func7, Tryd.ntmps7
    go_wp2_with fail
    refine AW.mono ?_
    rintro e w2 ⟨rfl, bb2⟩
    clear AW
    go_wp2_with fail
    refine (C1.out _ bb2).mono ?_
    rintro e w3 ⟨ao3, c3, ge, rfl, ho3, hge, re, hb3⟩
    have bb3 := bb2.trans (hb3.mono bb2.size)
    have hil := imgC_len 0 0 0 (.slice ao3 0 c3) (List.replicate 32 0) rfl
    have h1 := imgC_one 0 0 0 ao3 0 c3 (List.replicate 32 0)
    have SM : Hid (∀ W, IsB W ao3 [] → Calls Tryd.prog 16 #[.agg (imgC 0 0 0 (.slice ao3 0 c3) (List.replicate 32 0)).toArray, .agg zImg.toArray] W fun e w' => e = .returned (.bool true) ∧ Below W.heap.size W w') := fun W h => same_eq 0 0 0 ao3 none 0 c3 0 [] (List.replicate 32 0) rfl rfl W h (.inl rfl)
    generalize imgC 0 0 0 (.slice ao3 0 c3) (List.replicate 32 0) = IM at *
    clear hb3 C1 ho3
    have hge3 := re.lt
    generalize hG5 : w3.heap.size = G5 at *
    have rz := Row.at w3 27 zImg zImg.toArray G5 hG5.symm rfl
    have b5 : Below w.heap.size w (w3.alloc (.cells zImg.toArray 27)) := bb3.alloc (by have := bb3.size; omega) _
    replace re := re.alloc (.cells zImg.toArray 27)
    go_wp2_with (refine wpList_store_Row rfl 27 _ _ rfl G5 27 0 zImg IM rz (by rw [hil]; exact Nat.le_refl _) rfl rfl (by rw [hil]; kernel_rfl) h1 ?_; intro w5 hr5 hs5)
    have r5 := row_whole hr5 (by rw [hil]; exact Nat.le_of_eq zImg_len)
    have e5 := re.but hs5 (by omega)
    have bb5 := hs5.below b5 (by have := bb3.size; omega)
    clear hr5 hs5 rz b5 re bb3 hG5
    refine (told_wrong ge e0 a0 w5 (HGW.out.below bb5 HGW.out.lt) e5 hE).mono ?_
    rintro e w7 ⟨rfl, hb7⟩
    replace r5 := r5.below hb7 r5.lt
    have bb7 := bb5.trans (hb7.mono bb5.size)
    have r8 := r5.alloc (.cells #[.int .i64 e0, .int .i64 a0] 39)
    have bb8 : Below w.heap.size w (w7.alloc (.cells #[.int .i64 e0, .int .i64 a0] 39)) := bb7.alloc bb7.size _
    have h36 := take_all36 hil
    clear hb7 e5 bb5 bb7 r5
    go_wp2_with (first | (refine wpList_load_part_g ?_ 27 (.tmp 5) rfl G5 0 27 36 IM r8 rfl _ IM h36 hil Tryd.underlying27 rfl (by kernel_rfl) ?_; · rfl) | (go_at_call 16; refine (SM.out _ (.inl rfl)).mono ?_; rintro e w9 ⟨rfl, hb9⟩))
    go_ret
    exact ⟨rfl, bb8.trans (hb9.mono bb8.size)⟩
  | ok qq =>
    obtain ⟨s, k, v, p, t⟩ := qq
    obtain ⟨hs, hk, hv, hp, ht, hbl, hbe⟩ := parse_img hpr
    obtain ⟨m, hm⟩ : ∃ m, p.length = m := ⟨_, rfl⟩
    rw [hm] at hp hbl
    obtain rfl : n = m + 48 := by omega
    obtain ⟨B, off, rfl, _⟩ : ∃ B off, ao = some ⟨B, off, none⟩ ∧ True := by
      rcases hb with h | ⟨B, off, h, _⟩
      · rw [h] at hbl; simp at hbl
      · exact ⟨B, off, h, trivial⟩
    have C1 : Hid (∀ W, Below w.heap.size w W → Calls Tryd.prog 13 #[.slice (some ⟨B, off, none⟩) (m + 48) cap] W fun e w' => ∃ ao' c', e = .returned (.tuple #[.agg (imgC s k v (.slice ao' m c') t).toArray, .nilIface]) ∧ Own W.heap.size w' (.slice ao' m c') p ∧ Below W.heap.size W w') := fun W h => by
      have := cparse_img (some ⟨B, off, none⟩) (m + 48) cap b hb0 W (PB.out W h) hnil hcap s k v p t hpr
      rw [hm] at this; exact this
    have HCL : Hid ((cover s k v p).length = m + 16) := by show _ = _; rw [cover_len, hm]
    have C2 : Hid (∀ a1 c1 W, Below w.heap.size w W → IsB W a1 p → (a1 = none → c1 = 0) → m ≤ c1 → Calls Tryd.prog 10 #[.slice so sn sc, .agg (imgC s k v (.slice a1 m c1) t).toArray] W fun e w' => ∃ ao' c', e = .returned (.tuple #[.slice ao' (m + 48) c', .int .i64 0]) ∧ Own W.heap.size w' (.slice ao' (m + 48) c') (cover s k v p ++ tag sec (cover s k v p)) ∧ Below W.heap.size W w') :=
      fun a1 c1 W h h1 h2 h3 => cmake_ok so sn sc sec hsec s k v a1 m c1 p t hm ht W (SB.out W h) hsn hsc hsl h1 h2 h3 hs hk hv hp
    have HTA : Hid ((tag sec (cover s k v p)).length = 32) := tag_len _ _
    have HB2' : Hid (∀ W, Below w.heap.size w W → Calls Tryd.prog 17 #[.slice (some ⟨B, off, none⟩) (m + 48) cap] W fun e w' => ∃ ao' c', e = .returned (.slice ao' (m + 16) c') ∧ Own W.heap.size w' (.slice ao' (m + 16) c') (cover s k v p) ∧ Below W.heap.size W w') := fun W h => by
      have := cbody_any (some ⟨B, off, none⟩) (m + 48) cap b hb0 W (PB.out W h) (fun h => by cases h) hcap (by omega)
      rw [show m + 48 - 32 = m + 16 by omega, show b.take (m + 16) = cover s k v p by rw [hbe, List.take_left' HCL.out]] at this
      exact this
    have HVB : Hid (∀ W, Below w.heap.size w W → (convert 23 9 (.slice (some ⟨B, off + (m + 16), none⟩) 32 (cap - (m + 16)))).run Tryd.prog W = .ok (.string (strOf t)) W) := fun W h => by
      refine conv_bytes W _ 32 _ t ht (.inr ⟨B, off + (m + 16), rfl, fun j v' hj => ?_⟩)
      rcases PB.out W h with hc | ⟨B', off', e1, hc⟩
      · exfalso; rw [hc] at hbl; simp at hbl
      · injection e1 with e1; injection e1 with e1 e2; subst e1 e2
        have := hc (m + 16 + j) v' (by rw [hbe, List.getElem?_append_right (by rw [HCL.out]; omega), HCL.out, Nat.add_sub_cancel_left]; exact hj)
        rw [Nat.add_assoc]; exact this
    generalize tag sec (cover s k v p) = TA at *
    generalize cover s k v p = CV at *
    have HT : Hid (t.length = 32) := ht
    have HP : Hid (p.length = m) := hm
    have z1 : IntKind.i64.wrap ((m : Int) + 48 - 32) = (m : Int) + 16 := by rw [i64_in _ (by omega) (by omega)]; omega
    have hc16 : ¬ cap = m + 16 := by omega
    have i16 : (0 : Int) ≤ (m : Int) + 16 := by omega
    have i48 : (m : Int) + 16 ≤ (m : Int) + 48 := by omega
    clear hsb hb hsn hsc hsl hnil hl hsec hb0 hpr hbe hs hk hv hbl ht hm
    go_enter Tryd.func7, Tryd.ntmps7
    go_wp2_with fail
    refine AW.mono ?_
    rintro e w2 ⟨rfl, bb2⟩
    clear AW
    go_wp2_with fail
    refine (C1.out _ bb2).mono ?_
    rintro e w3 ⟨ao3, c3, rfl, ho3, hb3⟩
    have bb3 := bb2.trans (hb3.mono bb2.size)
    have hil := imgC_len s k v (.slice ao3 m c3) t HT.out
    have h1 := imgC_one s k v ao3 m c3 t
    obtain ⟨_, n3, k3, _⟩ := own_isb ho3
    have C2' : Hid (∀ W, Below w.heap.size w W → IsB W ao3 p → Calls Tryd.prog 10 #[.slice so sn sc, .agg (imgC s k v (.slice ao3 m c3) t).toArray] W fun e w' => ∃ ao' c', e = .returned (.tuple #[.slice ao' (m + 48) c', .int .i64 0]) ∧ Own W.heap.size w' (.slice ao' (m + 48) c') (CV ++ TA) ∧ Below W.heap.size W w') := fun W h hi => C2.out ao3 c3 W h hi n3 (by rw [← HP.out]; exact k3)
    have HTD : Hid (∀ j, j < 32 → (imgC s k v (.slice ao3 m c3) t)[4 + j]? = some (.int .u8 ((t.getD j 0).toNat : Int))) := fun j hj => imgC_tag s k v _ t j (by rw [HT.out]; exact hj)
    generalize imgC s k v (.slice ao3 m c3) t = IM at *
    clear hb3 C1 C2 n3 k3
    generalize hG5 : w3.heap.size = G5 at *
    have hne3 : ao3 ≠ some ⟨G5, 0, none⟩ := fun h => by subst h; have := ho3.lt.2; omega
    have rz := Row.at w3 27 zImg zImg.toArray G5 hG5.symm rfl
    have b5 : Below w.heap.size w (w3.alloc (.cells zImg.toArray 27)) := bb3.alloc (by have := bb3.size; omega) _
    have o4 := ho3.keep ((Below.refl w3.heap.size w3).alloc (Nat.le_refl _) (.cells zImg.toArray 27))
    go_wp2_with (first | (refine wpList_store_Row rfl 27 _ _ rfl G5 27 0 zImg IM rz (by rw [hil]; exact Nat.le_refl _) rfl rfl (by rw [hil]; kernel_rfl) h1 ?_; intro w5 hr5 hs5; have r5 := row_whole hr5 (by rw [hil]; exact Nat.le_of_eq zImg_len)) | (refine wpList_load_Row rfl 27 _ rfl _ _ IM r5 rfl _ Tryd.underlying27 rfl (by rw [hil]; kernel_rfl) ?_))
    have o5 := o4.but hs5 hne3
    have bb5 := hs5.below b5 (by have := bb3.size; omega)
    clear hr5 hs5 rz b5 bb3 hG5 ho3 o4
    refine (C2'.out _ bb5 (own_IsB o5)).mono ?_
    rintro e W1 ⟨ao6, cc, rfl, ho6, hb6⟩
    have bbW := bb5.trans (hb6.mono bb5.size)
    replace r5 := r5.below hb6 r5.lt
    obtain ⟨l6, n6, k6, _⟩ := own_isb ho6
    obtain ⟨gc, rfl, _, _⟩ := ho6.at (by omega)
    have HB1 : Hid (∀ W, Below W1.heap.size W1 W → Calls Tryd.prog 17 #[.slice (some ⟨gc, 0, none⟩) (m + 48) cc] W fun e w' => ∃ ao' c', e = .returned (.slice ao' (m + 16) c') ∧ Own W.heap.size w' (.slice ao' (m + 16) c') CV ∧ Below W.heap.size W w') := fun W h => by
      have := cbody_any (some ⟨gc, 0, none⟩) (m + 48) cc (CV ++ TA) l6 W ((own_IsB ho6).below h (Nat.le_refl _)) (fun h => by cases h) (by omega) (by omega)
      rw [show m + 48 - 32 = m + 16 by omega, List.take_left' HCL.out] at this
      exact this
    have HB2 : Hid (∀ W, Below W1.heap.size W1 W → Calls Tryd.prog 17 #[.slice (some ⟨B, off, none⟩) (m + 48) cap] W fun e w' => ∃ ao' c', e = .returned (.slice ao' (m + 16) c') ∧ Own W.heap.size w' (.slice ao' (m + 16) c') CV ∧ Below W.heap.size W w') := fun W h => HB2'.out W (bbW.trans (h.mono bbW.size))
    have HV1 : Hid (∀ W, Below W1.heap.size W1 W → (convert 23 9 (.slice (some ⟨B, off + (m + 16), none⟩) 32 (cap - (m + 16)))).run Tryd.prog W = .ok (.string (strOf t)) W) := fun W h => HVB.out W (bbW.trans (h.mono bbW.size))
    have HV2 : Hid (∀ W, Below W1.heap.size W1 W → (convert 23 9 (.slice (some ⟨G5, 4, none⟩) 32 32)).run Tryd.prog W = .ok (.string (strOf t)) W) := fun W h => by
      refine conv_bytes W _ 32 _ t HT.out (.inr ⟨G5, 4, rfl, fun j v' hj => ?_⟩)
      have hjl : j < 32 := by rw [← HT.out]; exact (List.getElem?_eq_some_iff.1 hj).1
      have := (r5.below h r5.lt).cell (4 + j) _ (HTD.out j hjl)
      rw [this, List.getD_eq_getElem?_getD, hj]; rfl
    obtain ⟨TG, hTG⟩ : ∃ TG, t = TG := ⟨_, rfl⟩
    rw [hTG] at HV1 HV2
    clear r5 ho6 hb6 HB2' HVB HTD o5 C2' SB PB HT hTG
    go_wp2_with fail
    refine wp_region_inv (IE8 W1 gc m cc B off cap G5 CV TG _ _ _ _ _ _ _ _ _ _ _ _ _ _ _ _ _ _ _ _ _ _ _ _ _ _ _ _ _ _ _ _ _ _ _ _ _ _ _ _ _ _ _ _ _ _ _ _) (by kernel_rfl) (by kernel_rfl) ⟨_, _, _, _, _, _, _, _, _, _, _, _, _, _, _, _, _, _, _, _, _, _, _, _, _, _, _, _, _, _, _, rfl, ⟨(Below.refl _ _).drew, fun k => (by cases k), fun k => (by cases k), fun k => (by cases k), fun k => (by cases k), fun k => (by cases k), fun k => (by cases k), fun k => (by cases k), fun k => (by cases k), fun k => (by cases k), fun k => (by cases k), fun k => (by cases k), fun k => (by cases k), fun k => (by cases k), fun k => (by cases k), fun k => (by cases k), fun k => (by cases k), fun k => (by cases k), fun k => (by cases k), fun k => (by cases k), fun k => (by cases k), fun k => (by cases k), fun k => (by cases k), fun k => (by cases k), fun k => (by cases k), fun k => (by cases k), fun k => (by cases k), fun k => (by cases k), fun k => (by cases k), fun k => (by cases k), fun k => (by cases k), fun k => (by cases k)⟩⟩ ?_ ?_
    · refine .cons ?_ (.cons ?_ (.cons ?_ (.cons ?_ (.cons ?_ (.cons ?_ (.cons ?_ (.cons ?_ (.cons ?_ (.cons ?_ (.cons ?_ (.cons ?_ (.cons ?_ (.cons ?_ (.cons ?_ (.cons ?_ (.cons ?_ (.cons ?_ (.cons ?_ (.cons ?_ (.cons ?_ (.cons ?_ (.cons ?_ (.cons ?_ (.cons ?_ (.cons ?_ (.cons ?_ (.cons ?_ (.cons ?_ (.cons ?_ (.cons ?_ .nil))))))))))))))))))))))))))))))
      all_goals (refine E8.step ?_; intro x49 x50 x51 x52 x53 x54 x55 x56 x57 x58 x59 x60 x61 x62 x63 x64 x65 x66 x67 x68 x69 x70 x71 x72 x73 x74 x75 x76 x77 x78 x4 L W hI hL hd K hK)
      · rw [if_pos (by rfl)]
        go_simp
        exact hK.out _ _ ⟨_, _, _, _, _, _, _, _, _, _, _, _, _, _, _, _, _, _, _, _, _, _, _, _, _, _, _, _, _, _, _, rfl, hI.s0⟩
      · have hx0 := hI.p0 (hd 0 (by decide))
        subst hx0
        rw [if_pos (by rfl)]
        go_simp
        exact hK.out _ _ ⟨_, _, _, _, _, _, _, _, _, _, _, _, _, _, _, _, _, _, _, _, _, _, _, _, _, _, _, _, _, _, _, rfl, hI.s1⟩
      · have hx1 := hI.p1 (hd 1 (by decide))
        subst hx1
        rw [if_pos (by rfl)]
        go_simp
        exact hK.out _ _ ⟨_, _, _, _, _, _, _, _, _, _, _, _, _, _, _, _, _, _, _, _, _, _, _, _, _, _, _, _, _, _, _, rfl, hI.s2⟩
      · have hx2 := hI.p2 (hd 2 (by decide))
        subst hx2
        rw [if_pos (by rfl)]
        go_simp
        exact hK.out _ _ ⟨_, _, _, _, _, _, _, _, _, _, _, _, _, _, _, _, _, _, _, _, _, _, _, _, _, _, _, _, _, _, _, rfl, hI.s3⟩
      · have hx3 := hI.p3 (hd 3 (by decide))
        subst hx3
        have hx2 := hI.p2 (hd 2 (by decide))
        subst hx2
        rw [if_pos (by rfl)]
        go_simp
        exact hK.out _ _ ⟨_, _, _, _, _, _, _, _, _, _, _, _, _, _, _, _, _, _, _, _, _, _, _, _, _, _, _, _, _, _, _, rfl, hI.s4⟩
      · have hx2 := hI.p2 (hd 2 (by decide))
        subst hx2
        rw [if_pos (by rfl)]
        go_simp
        exact hK.out _ _ ⟨_, _, _, _, _, _, _, _, _, _, _, _, _, _, _, _, _, _, _, _, _, _, _, _, _, _, _, _, _, _, _, rfl, hI.s5⟩
      · have hx5 := hI.p5 (hd 5 (by decide))
        subst hx5
        have hx2 := hI.p2 (hd 2 (by decide))
        subst hx2
        rw [if_pos (by rfl)]
        go_simp
        exact hK.out _ _ ⟨_, _, _, _, _, _, _, _, _, _, _, _, _, _, _, _, _, _, _, _, _, _, _, _, _, _, _, _, _, _, _, rfl, hI.s6⟩
      · have hx4 := hI.p4 (hd 4 (by decide))
        subst hx4
        have hx6 := hI.p6 (hd 6 (by decide))
        subst hx6
        have hx2 := hI.p2 (hd 2 (by decide))
        subst hx2
        rw [if_pos (by rfl)]
        go_simp
        exact hK.out _ _ ⟨_, _, _, _, _, _, _, _, _, _, _, _, _, _, _, _, _, _, _, _, _, _, _, _, _, _, _, _, _, _, _, rfl, hI.s7⟩
      · have hx2 := hI.p2 (hd 2 (by decide))
        subst hx2
        have hx7 := hI.p7 (hd 7 (by decide))
        subst hx7
        rw [if_pos (by rfl)]
        go_simp
        exact hK.out _ _ ⟨_, _, _, _, _, _, _, _, _, _, _, _, _, _, _, _, _, _, _, _, _, _, _, _, _, _, _, _, _, _, _, rfl, hI.s8⟩
      · have hx8 := hI.p8 (hd 8 (by decide))
        subst hx8
        rw [if_pos (by rfl)]
        go_simp
        exact hK.out _ _ ⟨_, _, _, _, _, _, _, _, _, _, _, _, _, _, _, _, _, _, _, _, _, _, _, _, _, _, _, _, _, _, _, rfl, hI.s9⟩
      · have hx9 := hI.p9 (hd 9 (by decide))
        subst hx9
        rw [if_pos (by rfl)]
        go_simp
        exact hK.out _ _ ⟨_, _, _, _, _, _, _, _, _, _, _, _, _, _, _, _, _, _, _, _, _, _, _, _, _, _, _, _, _, _, _, rfl, hI.s10⟩
      · have hx10 := hI.p10 (hd 10 (by decide))
        subst hx10
        have hx9 := hI.p9 (hd 9 (by decide))
        subst hx9
        rw [if_pos (by rfl)]
        go_simp
        refine (HB1.out W hI.x).mono ?_
        rintro e W2 ⟨ao3, c3, rfl, ho3, hb3⟩
        replace ho3 : ∃ ao c, Value.slice ao3 (m + 16) c3 = .slice ao (m + 16) c ∧ Own W1.heap.size W2 (.slice ao (m + 16) c) CV := ⟨_, _, rfl, own_le ho3 hI.x.size⟩
        go_simp
        exact hK.out _ _ ⟨_, _, _, _, _, _, _, _, _, _, _, _, _, _, _, _, _, _, _, _, _, _, _, _, _, _, _, _, _, _, _, rfl, hI.s11 (hI.x.trans (hb3.mono hI.x.size)) hb3 ho3⟩
      · obtain ⟨ao11, c11, hx11, ho11⟩ := hI.p11 (hd 11 (by decide))
        subst hx11
        have hx9 := hI.p9 (hd 9 (by decide))
        subst hx9
        rw [if_pos (by rfl)]
        have cv := conv_bytes W ao11 _ c11 CV HCL.out (own_IsB ho11)
        go_simp
        exact hK.out _ _ ⟨_, _, _, _, _, _, _, _, _, _, _, _, _, _, _, _, _, _, _, _, _, _, _, _, _, _, _, _, _, _, _, rfl, hI.s12⟩
      · have hx9 := hI.p9 (hd 9 (by decide))
        subst hx9
        rw [if_pos (by rfl)]
        go_simp
        exact hK.out _ _ ⟨_, _, _, _, _, _, _, _, _, _, _, _, _, _, _, _, _, _, _, _, _, _, _, _, _, _, _, _, _, _, _, rfl, hI.s13⟩
      · have hx13 := hI.p13 (hd 13 (by decide))
        subst hx13
        have hx9 := hI.p9 (hd 9 (by decide))
        subst hx9
        rw [if_pos (by rfl)]
        go_simp
        refine (HB2.out W hI.x).mono ?_
        rintro e W2 ⟨ao3, c3, rfl, ho3, hb3⟩
        replace ho3 : ∃ ao c, Value.slice ao3 (m + 16) c3 = .slice ao (m + 16) c ∧ Own W1.heap.size W2 (.slice ao (m + 16) c) CV := ⟨_, _, rfl, own_le ho3 hI.x.size⟩
        go_simp
        exact hK.out _ _ ⟨_, _, _, _, _, _, _, _, _, _, _, _, _, _, _, _, _, _, _, _, _, _, _, _, _, _, _, _, _, _, _, rfl, hI.s14 (hI.x.trans (hb3.mono hI.x.size)) hb3 ho3⟩
      · obtain ⟨ao14, c14, hx14, ho14⟩ := hI.p14 (hd 14 (by decide))
        subst hx14
        have hx9 := hI.p9 (hd 9 (by decide))
        subst hx9
        rw [if_pos (by rfl)]
        have cv := conv_bytes W ao14 _ c14 CV HCL.out (own_IsB ho14)
        go_simp
        exact hK.out _ _ ⟨_, _, _, _, _, _, _, _, _, _, _, _, _, _, _, _, _, _, _, _, _, _, _, _, _, _, _, _, _, _, _, rfl, hI.s15⟩
      · have hx12 := hI.p12 (hd 12 (by decide))
        subst hx12
        have hx15 := hI.p15 (hd 15 (by decide))
        subst hx15
        have hx9 := hI.p9 (hd 9 (by decide))
        subst hx9
        rw [if_pos (by rfl)]
        go_simp
        exact hK.out _ _ ⟨_, _, _, _, _, _, _, _, _, _, _, _, _, _, _, _, _, _, _, _, _, _, _, _, _, _, _, _, _, _, _, rfl, hI.s16⟩
      · have hx9 := hI.p9 (hd 9 (by decide))
        subst hx9
        have hx16 := hI.p16 (hd 16 (by decide))
        subst hx16
        rw [if_pos (by rfl)]
        go_simp
        exact hK.out _ _ ⟨_, _, _, _, _, _, _, _, _, _, _, _, _, _, _, _, _, _, _, _, _, _, _, _, _, _, _, _, _, _, _, rfl, hI.s17⟩
      · have hx17 := hI.p17 (hd 17 (by decide))
        subst hx17
        rw [if_pos (by rfl)]
        go_simp
        exact hK.out _ _ ⟨_, _, _, _, _, _, _, _, _, _, _, _, _, _, _, _, _, _, _, _, _, _, _, _, _, _, _, _, _, _, _, rfl, hI.s18⟩
      · have hx18 := hI.p18 (hd 18 (by decide))
        subst hx18
        rw [if_pos (by rfl)]
        go_simp
        exact hK.out _ _ ⟨_, _, _, _, _, _, _, _, _, _, _, _, _, _, _, _, _, _, _, _, _, _, _, _, _, _, _, _, _, _, _, rfl, hI.s19⟩
      · have hx18 := hI.p18 (hd 18 (by decide))
        subst hx18
        rw [if_pos (by rfl)]
        go_simp
        exact hK.out _ _ ⟨_, _, _, _, _, _, _, _, _, _, _, _, _, _, _, _, _, _, _, _, _, _, _, _, _, _, _, _, _, _, _, rfl, hI.s20⟩
      · have hx20 := hI.p20 (hd 20 (by decide))
        subst hx20
        have hx18 := hI.p18 (hd 18 (by decide))
        subst hx18
        rw [if_pos (by rfl)]
        go_simp
        exact hK.out _ _ ⟨_, _, _, _, _, _, _, _, _, _, _, _, _, _, _, _, _, _, _, _, _, _, _, _, _, _, _, _, _, _, _, rfl, hI.s21⟩
      · have hx21 := hI.p21 (hd 21 (by decide))
        subst hx21
        have hx18 := hI.p18 (hd 18 (by decide))
        subst hx18
        rw [if_pos (by rfl)]
        go_simp
        exact hK.out _ _ ⟨_, _, _, _, _, _, _, _, _, _, _, _, _, _, _, _, _, _, _, _, _, _, _, _, _, _, _, _, _, _, _, rfl, hI.s22⟩
      · have hx19 := hI.p19 (hd 19 (by decide))
        subst hx19
        have hx22 := hI.p22 (hd 22 (by decide))
        subst hx22
        have hx18 := hI.p18 (hd 18 (by decide))
        subst hx18
        rw [if_pos (by rfl)]
        have tn1 : ((m : Int) + 16).toNat = m + 16 := by omega
        have tn2 : m + 48 - (m + 16) = 32 := by omega
        go_simp
        exact hK.out _ _ ⟨_, _, _, _, _, _, _, _, _, _, _, _, _, _, _, _, _, _, _, _, _, _, _, _, _, _, _, _, _, _, _, rfl, hI.s23⟩
      · have hx23 := hI.p23 (hd 23 (by decide))
        subst hx23
        have hx18 := hI.p18 (hd 18 (by decide))
        subst hx18
        rw [if_pos (by rfl)]
        have cv := HV1.out W hI.x
        go_simp
        exact hK.out _ _ ⟨_, _, _, _, _, _, _, _, _, _, _, _, _, _, _, _, _, _, _, _, _, _, _, _, _, _, _, _, _, _, _, rfl, hI.s24⟩
      · have hx18 := hI.p18 (hd 18 (by decide))
        subst hx18
        rw [if_pos (by rfl)]
        go_simp
        exact hK.out _ _ ⟨_, _, _, _, _, _, _, _, _, _, _, _, _, _, _, _, _, _, _, _, _, _, _, _, _, _, _, _, _, _, _, rfl, hI.s25⟩
      · have hx25 := hI.p25 (hd 25 (by decide))
        subst hx25
        have hx18 := hI.p18 (hd 18 (by decide))
        subst hx18
        rw [if_pos (by rfl)]
        go_simp
        exact hK.out _ _ ⟨_, _, _, _, _, _, _, _, _, _, _, _, _, _, _, _, _, _, _, _, _, _, _, _, _, _, _, _, _, _, _, rfl, hI.s26⟩
      · have hx26 := hI.p26 (hd 26 (by decide))
        subst hx26
        have hx18 := hI.p18 (hd 18 (by decide))
        subst hx18
        rw [if_pos (by rfl)]
        have cv := HV2.out W hI.x
        go_simp
        exact hK.out _ _ ⟨_, _, _, _, _, _, _, _, _, _, _, _, _, _, _, _, _, _, _, _, _, _, _, _, _, _, _, _, _, _, _, rfl, hI.s27⟩
      · have hx24 := hI.p24 (hd 24 (by decide))
        subst hx24
        have hx27 := hI.p27 (hd 27 (by decide))
        subst hx27
        have hx18 := hI.p18 (hd 18 (by decide))
        subst hx18
        rw [if_pos (by rfl)]
        go_simp
        exact hK.out _ _ ⟨_, _, _, _, _, _, _, _, _, _, _, _, _, _, _, _, _, _, _, _, _, _, _, _, _, _, _, _, _, _, _, rfl, hI.s28⟩
      · have hx18 := hI.p18 (hd 18 (by decide))
        subst hx18
        have hx28 := hI.p28 (hd 28 (by decide))
        subst hx28
        rw [if_pos (by rfl)]
        go_simp
        exact hK.out _ _ ⟨_, _, _, _, _, _, _, _, _, _, _, _, _, _, _, _, _, _, _, _, _, _, _, _, _, _, _, _, _, _, _, rfl, hI.s29⟩
      · have hx29 := hI.p29 (hd 29 (by decide))
        subst hx29
        rw [if_pos (by rfl)]
        go_simp
        exact hK.out _ _ ⟨_, _, _, _, _, _, _, _, _, _, _, _, _, _, _, _, _, _, _, _, _, _, _, _, _, _, _, _, _, _, _, rfl, hI.s30⟩
    · refine E8.ends ?_; intro x49 x50 x51 x52 x53 x54 x55 x56 x57 x58 x59 x60 x61 x62 x63 x64 x65 x66 x67 x68 x69 x70 x71 x72 x73 x74 x75 x76 x77 x78 x4 L W hall hI
      have hx0 := hI.p0 (hall 0 (by decide))
      subst hx0
      have hx1 := hI.p1 (hall 1 (by decide))
      subst hx1
      have hx2 := hI.p2 (hall 2 (by decide))
      subst hx2
      have hx3 := hI.p3 (hall 3 (by decide))
      subst hx3
      have hx4 := hI.p4 (hall 4 (by decide))
      subst hx4
      have hx5 := hI.p5 (hall 5 (by decide))
      subst hx5
      have hx6 := hI.p6 (hall 6 (by decide))
      subst hx6
      have hx7 := hI.p7 (hall 7 (by decide))
      subst hx7
      have hx8 := hI.p8 (hall 8 (by decide))
      subst hx8
      have hx9 := hI.p9 (hall 9 (by decide))
      subst hx9
      have hx10 := hI.p10 (hall 10 (by decide))
      subst hx10
      obtain ⟨ao11, c11, hx11, ho11⟩ := hI.p11 (hall 11 (by decide))
      subst hx11
      have hx12 := hI.p12 (hall 12 (by decide))
      subst hx12
      have hx13 := hI.p13 (hall 13 (by decide))
      subst hx13
      obtain ⟨ao14, c14, hx14, ho14⟩ := hI.p14 (hall 14 (by decide))
      subst hx14
      have hx15 := hI.p15 (hall 15 (by decide))
      subst hx15
      have hx16 := hI.p16 (hall 16 (by decide))
      subst hx16
      have hx17 := hI.p17 (hall 17 (by decide))
      subst hx17
      have hx18 := hI.p18 (hall 18 (by decide))
      subst hx18
      have hx19 := hI.p19 (hall 19 (by decide))
      subst hx19
      have hx20 := hI.p20 (hall 20 (by decide))
      subst hx20
      have hx21 := hI.p21 (hall 21 (by decide))
      subst hx21
      have hx22 := hI.p22 (hall 22 (by decide))
      subst hx22
      have hx23 := hI.p23 (hall 23 (by decide))
      subst hx23
      have hx24 := hI.p24 (hall 24 (by decide))
      subst hx24
      have hx25 := hI.p25 (hall 25 (by decide))
      subst hx25
      have hx26 := hI.p26 (hall 26 (by decide))
      subst hx26
      have hx27 := hI.p27 (hall 27 (by decide))
      subst hx27
      have hx28 := hI.p28 (hall 28 (by decide))
      subst hx28
      have hx29 := hI.p29 (hall 29 (by decide))
      subst hx29
      have hx30 := hI.p30 (hall 30 (by decide))
      subst hx30
      have hXe := hI.x
      clear hI hall
      try dsimp only
      go_wp2
      go_ret
      exact ⟨rfl, bbW.trans (hXe.mono bbW.size)⟩
end Go.Proofs.YtnpbgfnahkmhoaaDoor
