
import Derived.Test.YtnpbgfnahkmhoaaDoorI11Laws
/-! The law's own walk: ImageReturns. (Printed by tools/genret11.py.) -/
namespace Go.Proofs.YtnpbgfnahkmhoaaDoor
open Go.RowKit

structure E10 (W1 : World) (so aob ao : Option Addr) (sn sc n cbd gb cb G7 G3 cap : Nat) (TG : List By) (L : Nat → Bool) (x70 x71 x72 x73 x74 x75 x76 x77 x78 x79 x80 x81 x82 x83 x84 x85 x86 x87 x88 x89 x90 x91 x92 x93 x94 x95 x96 x97 x98 x99 x100 x101 x102 x103 x104 x105 x106 x107 x108 x109 x110 x111 x112 x4 : Value) (W : World) : Prop where
  x : Below W1.heap.size W1 W
  p0 : L 0 = true → x70 = .pointer (some ⟨G7, 4, none⟩)
  p1 : L 1 = true → x71 = .agg (TG.map B8).toArray
  p2 : L 2 = true → x72 = .slice so sn sc
  p3 : L 3 = true → x73 = .slice aob (n + 16) cbd
  p4 : L 4 = true → x74 = .agg (TG.map B8).toArray
  p5 : L 5 = true → x75 = .bool true
  p6 : L 6 = true → x76 = .bool true
  p7 : L 7 = true → x77 = .pointer (some ⟨G7, 4, none⟩)
  p8 : L 8 = true → x78 = .agg (TG.map B8).toArray
  p9 : L 9 = true → x79 = .slice so sn sc
  p10 : L 10 = true → x80 = .slice aob (n + 16) cbd
  p11 : L 11 = true → x81 = .agg (TG.map B8).toArray
  p12 : L 12 = true → x82 = .bool true
  p13 : L 13 = true → x83 = .bool true
  p14 : L 14 = true → x84 = .bool true
  p15 : L 15 = true → x85 = .slice (some ⟨gb, 0, none⟩) (n + 48) cb
  p16 : L 16 = true → x86 = .int .i64 ((n : Int) + 48)
  p17 : L 17 = true → x87 = .pointer (some ⟨G3, 3, none⟩)
  p18 : L 18 = true → x88 = .slice ao n cap
  p19 : L 19 = true → x89 = .int .i64 (n : Int)
  p20 : L 20 = true → x90 = .int .i64 ((n : Int) + 48)
  p21 : L 21 = true → x91 = .bool true
  p22 : L 22 = true → x92 = .bool true
  p23 : L 23 = true → x93 = .bool true
  p24 : L 24 = true → x94 = .slice aob (n + 16) cbd
  p25 : L 25 = true → x95 = .int .i64 ((n : Int) + 16)
  p26 : L 26 = true → x96 = .slice (some ⟨gb, 0, none⟩) (n + 48) cb
  p27 : L 27 = true → x97 = .int .i64 ((n : Int) + 48)
  p28 : L 28 = true → x98 = .int .i64 ((n : Int) + 16)
  p29 : L 29 = true → x99 = .bool true
  p30 : L 30 = true → x100 = .bool true
  p31 : L 31 = true → x101 = .bool true
  p32 : L 32 = true → x102 = .slice (some ⟨gb, 0, none⟩) (n + 48) cb
  p33 : L 33 = true → x103 = .slice (some ⟨gb, 0, none⟩) (n + 48) cb
  p34 : L 34 = true → x104 = .int .i64 ((n : Int) + 48)
  p35 : L 35 = true → x105 = .int .i64 ((n : Int) + 16)
  p36 : L 36 = true → x106 = .slice (some ⟨gb, n + 16, none⟩) 32 (cb - (n + 16))
  p37 : L 37 = true → x107 = .string (strOf TG)
  p38 : L 38 = true → x108 = .pointer (some ⟨G7, 4, none⟩)
  p39 : L 39 = true → x109 = .slice (some ⟨G7, 4, none⟩) 32 32
  p40 : L 40 = true → x110 = .string (strOf TG)
  p41 : L 41 = true → x111 = .bool true
  p42 : L 42 = true → x112 = .bool true
  p43 : L 43 = true → x4 = .bool true
section
variable {W1 : World} {so aob ao : Option Addr} {sn sc n cbd gb cb G7 G3 cap : Nat} {TG : List By} {L : Nat → Bool} {x70 x71 x72 x73 x74 x75 x76 x77 x78 x79 x80 x81 x82 x83 x84 x85 x86 x87 x88 x89 x90 x91 x92 x93 x94 x95 x96 x97 x98 x99 x100 x101 x102 x103 x104 x105 x106 x107 x108 x109 x110 x111 x112 x4 : Value} {W W2 : World}
theorem E10.s0 (h : E10 W1 so aob ao sn sc n cbd gb cb G7 G3 cap TG L x70 x71 x72 x73 x74 x75 x76 x77 x78 x79 x80 x81 x82 x83 x84 x85 x86 x87 x88 x89 x90 x91 x92 x93 x94 x95 x96 x97 x98 x99 x100 x101 x102 x103 x104 x105 x106 x107 x108 x109 x110 x111 x112 x4 W) : E10 W1 so aob ao sn sc n cbd gb cb G7 G3 cap TG (upd L 0) (.pointer (some ⟨G7, 4, none⟩)) x71 x72 x73 x74 x75 x76 x77 x78 x79 x80 x81 x82 x83 x84 x85 x86 x87 x88 x89 x90 x91 x92 x93 x94 x95 x96 x97 x98 x99 x100 x101 x102 x103 x104 x105 x106 x107 x108 x109 x110 x111 x112 x4 W :=
  ⟨h.x, fun _ => rfl, h.p1, h.p2, h.p3, h.p4, h.p5, h.p6, h.p7, h.p8, h.p9, h.p10, h.p11, h.p12, h.p13, h.p14, h.p15, h.p16, h.p17, h.p18, h.p19, h.p20, h.p21, h.p22, h.p23, h.p24, h.p25, h.p26, h.p27, h.p28, h.p29, h.p30, h.p31, h.p32, h.p33, h.p34, h.p35, h.p36, h.p37, h.p38, h.p39, h.p40, h.p41, h.p42, h.p43⟩
theorem E10.s1 (h : E10 W1 so aob ao sn sc n cbd gb cb G7 G3 cap TG L x70 x71 x72 x73 x74 x75 x76 x77 x78 x79 x80 x81 x82 x83 x84 x85 x86 x87 x88 x89 x90 x91 x92 x93 x94 x95 x96 x97 x98 x99 x100 x101 x102 x103 x104 x105 x106 x107 x108 x109 x110 x111 x112 x4 W) : E10 W1 so aob ao sn sc n cbd gb cb G7 G3 cap TG (upd L 1) x70 (.agg (TG.map B8).toArray) x72 x73 x74 x75 x76 x77 x78 x79 x80 x81 x82 x83 x84 x85 x86 x87 x88 x89 x90 x91 x92 x93 x94 x95 x96 x97 x98 x99 x100 x101 x102 x103 x104 x105 x106 x107 x108 x109 x110 x111 x112 x4 W :=
  ⟨h.x, h.p0, fun _ => rfl, h.p2, h.p3, h.p4, h.p5, h.p6, h.p7, h.p8, h.p9, h.p10, h.p11, h.p12, h.p13, h.p14, h.p15, h.p16, h.p17, h.p18, h.p19, h.p20, h.p21, h.p22, h.p23, h.p24, h.p25, h.p26, h.p27, h.p28, h.p29, h.p30, h.p31, h.p32, h.p33, h.p34, h.p35, h.p36, h.p37, h.p38, h.p39, h.p40, h.p41, h.p42, h.p43⟩
theorem E10.s2 (h : E10 W1 so aob ao sn sc n cbd gb cb G7 G3 cap TG L x70 x71 x72 x73 x74 x75 x76 x77 x78 x79 x80 x81 x82 x83 x84 x85 x86 x87 x88 x89 x90 x91 x92 x93 x94 x95 x96 x97 x98 x99 x100 x101 x102 x103 x104 x105 x106 x107 x108 x109 x110 x111 x112 x4 W) : E10 W1 so aob ao sn sc n cbd gb cb G7 G3 cap TG (upd L 2) x70 x71 (.slice so sn sc) x73 x74 x75 x76 x77 x78 x79 x80 x81 x82 x83 x84 x85 x86 x87 x88 x89 x90 x91 x92 x93 x94 x95 x96 x97 x98 x99 x100 x101 x102 x103 x104 x105 x106 x107 x108 x109 x110 x111 x112 x4 W :=
  ⟨h.x, h.p0, h.p1, fun _ => rfl, h.p3, h.p4, h.p5, h.p6, h.p7, h.p8, h.p9, h.p10, h.p11, h.p12, h.p13, h.p14, h.p15, h.p16, h.p17, h.p18, h.p19, h.p20, h.p21, h.p22, h.p23, h.p24, h.p25, h.p26, h.p27, h.p28, h.p29, h.p30, h.p31, h.p32, h.p33, h.p34, h.p35, h.p36, h.p37, h.p38, h.p39, h.p40, h.p41, h.p42, h.p43⟩
theorem E10.s3 (h : E10 W1 so aob ao sn sc n cbd gb cb G7 G3 cap TG L x70 x71 x72 x73 x74 x75 x76 x77 x78 x79 x80 x81 x82 x83 x84 x85 x86 x87 x88 x89 x90 x91 x92 x93 x94 x95 x96 x97 x98 x99 x100 x101 x102 x103 x104 x105 x106 x107 x108 x109 x110 x111 x112 x4 W) : E10 W1 so aob ao sn sc n cbd gb cb G7 G3 cap TG (upd L 3) x70 x71 x72 (.slice aob (n + 16) cbd) x74 x75 x76 x77 x78 x79 x80 x81 x82 x83 x84 x85 x86 x87 x88 x89 x90 x91 x92 x93 x94 x95 x96 x97 x98 x99 x100 x101 x102 x103 x104 x105 x106 x107 x108 x109 x110 x111 x112 x4 W :=
  ⟨h.x, h.p0, h.p1, h.p2, fun _ => rfl, h.p4, h.p5, h.p6, h.p7, h.p8, h.p9, h.p10, h.p11, h.p12, h.p13, h.p14, h.p15, h.p16, h.p17, h.p18, h.p19, h.p20, h.p21, h.p22, h.p23, h.p24, h.p25, h.p26, h.p27, h.p28, h.p29, h.p30, h.p31, h.p32, h.p33, h.p34, h.p35, h.p36, h.p37, h.p38, h.p39, h.p40, h.p41, h.p42, h.p43⟩
theorem E10.s4 (h : E10 W1 so aob ao sn sc n cbd gb cb G7 G3 cap TG L x70 x71 x72 x73 x74 x75 x76 x77 x78 x79 x80 x81 x82 x83 x84 x85 x86 x87 x88 x89 x90 x91 x92 x93 x94 x95 x96 x97 x98 x99 x100 x101 x102 x103 x104 x105 x106 x107 x108 x109 x110 x111 x112 x4 W) (hX : Below W1.heap.size W1 W2) : E10 W1 so aob ao sn sc n cbd gb cb G7 G3 cap TG (upd L 4) x70 x71 x72 x73 (.agg (TG.map B8).toArray) x75 x76 x77 x78 x79 x80 x81 x82 x83 x84 x85 x86 x87 x88 x89 x90 x91 x92 x93 x94 x95 x96 x97 x98 x99 x100 x101 x102 x103 x104 x105 x106 x107 x108 x109 x110 x111 x112 x4 W2 :=
  ⟨hX, h.p0, h.p1, h.p2, h.p3, fun _ => rfl, h.p5, h.p6, h.p7, h.p8, h.p9, h.p10, h.p11, h.p12, h.p13, h.p14, h.p15, h.p16, h.p17, h.p18, h.p19, h.p20, h.p21, h.p22, h.p23, h.p24, h.p25, h.p26, h.p27, h.p28, h.p29, h.p30, h.p31, h.p32, h.p33, h.p34, h.p35, h.p36, h.p37, h.p38, h.p39, h.p40, h.p41, h.p42, h.p43⟩
theorem E10.s5 (h : E10 W1 so aob ao sn sc n cbd gb cb G7 G3 cap TG L x70 x71 x72 x73 x74 x75 x76 x77 x78 x79 x80 x81 x82 x83 x84 x85 x86 x87 x88 x89 x90 x91 x92 x93 x94 x95 x96 x97 x98 x99 x100 x101 x102 x103 x104 x105 x106 x107 x108 x109 x110 x111 x112 x4 W) : E10 W1 so aob ao sn sc n cbd gb cb G7 G3 cap TG (upd L 5) x70 x71 x72 x73 x74 (.bool true) x76 x77 x78 x79 x80 x81 x82 x83 x84 x85 x86 x87 x88 x89 x90 x91 x92 x93 x94 x95 x96 x97 x98 x99 x100 x101 x102 x103 x104 x105 x106 x107 x108 x109 x110 x111 x112 x4 W :=
  ⟨h.x, h.p0, h.p1, h.p2, h.p3, h.p4, fun _ => rfl, h.p6, h.p7, h.p8, h.p9, h.p10, h.p11, h.p12, h.p13, h.p14, h.p15, h.p16, h.p17, h.p18, h.p19, h.p20, h.p21, h.p22, h.p23, h.p24, h.p25, h.p26, h.p27, h.p28, h.p29, h.p30, h.p31, h.p32, h.p33, h.p34, h.p35, h.p36, h.p37, h.p38, h.p39, h.p40, h.p41, h.p42, h.p43⟩
theorem E10.s6 (h : E10 W1 so aob ao sn sc n cbd gb cb G7 G3 cap TG L x70 x71 x72 x73 x74 x75 x76 x77 x78 x79 x80 x81 x82 x83 x84 x85 x86 x87 x88 x89 x90 x91 x92 x93 x94 x95 x96 x97 x98 x99 x100 x101 x102 x103 x104 x105 x106 x107 x108 x109 x110 x111 x112 x4 W) : E10 W1 so aob ao sn sc n cbd gb cb G7 G3 cap TG (upd L 6) x70 x71 x72 x73 x74 x75 (.bool true) x77 x78 x79 x80 x81 x82 x83 x84 x85 x86 x87 x88 x89 x90 x91 x92 x93 x94 x95 x96 x97 x98 x99 x100 x101 x102 x103 x104 x105 x106 x107 x108 x109 x110 x111 x112 x4 W :=
  ⟨h.x, h.p0, h.p1, h.p2, h.p3, h.p4, h.p5, fun _ => rfl, h.p7, h.p8, h.p9, h.p10, h.p11, h.p12, h.p13, h.p14, h.p15, h.p16, h.p17, h.p18, h.p19, h.p20, h.p21, h.p22, h.p23, h.p24, h.p25, h.p26, h.p27, h.p28, h.p29, h.p30, h.p31, h.p32, h.p33, h.p34, h.p35, h.p36, h.p37, h.p38, h.p39, h.p40, h.p41, h.p42, h.p43⟩
theorem E10.s7 (h : E10 W1 so aob ao sn sc n cbd gb cb G7 G3 cap TG L x70 x71 x72 x73 x74 x75 x76 x77 x78 x79 x80 x81 x82 x83 x84 x85 x86 x87 x88 x89 x90 x91 x92 x93 x94 x95 x96 x97 x98 x99 x100 x101 x102 x103 x104 x105 x106 x107 x108 x109 x110 x111 x112 x4 W) : E10 W1 so aob ao sn sc n cbd gb cb G7 G3 cap TG (upd L 7) x70 x71 x72 x73 x74 x75 x76 (.pointer (some ⟨G7, 4, none⟩)) x78 x79 x80 x81 x82 x83 x84 x85 x86 x87 x88 x89 x90 x91 x92 x93 x94 x95 x96 x97 x98 x99 x100 x101 x102 x103 x104 x105 x106 x107 x108 x109 x110 x111 x112 x4 W :=
  ⟨h.x, h.p0, h.p1, h.p2, h.p3, h.p4, h.p5, h.p6, fun _ => rfl, h.p8, h.p9, h.p10, h.p11, h.p12, h.p13, h.p14, h.p15, h.p16, h.p17, h.p18, h.p19, h.p20, h.p21, h.p22, h.p23, h.p24, h.p25, h.p26, h.p27, h.p28, h.p29, h.p30, h.p31, h.p32, h.p33, h.p34, h.p35, h.p36, h.p37, h.p38, h.p39, h.p40, h.p41, h.p42, h.p43⟩
theorem E10.s8 (h : E10 W1 so aob ao sn sc n cbd gb cb G7 G3 cap TG L x70 x71 x72 x73 x74 x75 x76 x77 x78 x79 x80 x81 x82 x83 x84 x85 x86 x87 x88 x89 x90 x91 x92 x93 x94 x95 x96 x97 x98 x99 x100 x101 x102 x103 x104 x105 x106 x107 x108 x109 x110 x111 x112 x4 W) : E10 W1 so aob ao sn sc n cbd gb cb G7 G3 cap TG (upd L 8) x70 x71 x72 x73 x74 x75 x76 x77 (.agg (TG.map B8).toArray) x79 x80 x81 x82 x83 x84 x85 x86 x87 x88 x89 x90 x91 x92 x93 x94 x95 x96 x97 x98 x99 x100 x101 x102 x103 x104 x105 x106 x107 x108 x109 x110 x111 x112 x4 W :=
  ⟨h.x, h.p0, h.p1, h.p2, h.p3, h.p4, h.p5, h.p6, h.p7, fun _ => rfl, h.p9, h.p10, h.p11, h.p12, h.p13, h.p14, h.p15, h.p16, h.p17, h.p18, h.p19, h.p20, h.p21, h.p22, h.p23, h.p24, h.p25, h.p26, h.p27, h.p28, h.p29, h.p30, h.p31, h.p32, h.p33, h.p34, h.p35, h.p36, h.p37, h.p38, h.p39, h.p40, h.p41, h.p42, h.p43⟩
theorem E10.s9 (h : E10 W1 so aob ao sn sc n cbd gb cb G7 G3 cap TG L x70 x71 x72 x73 x74 x75 x76 x77 x78 x79 x80 x81 x82 x83 x84 x85 x86 x87 x88 x89 x90 x91 x92 x93 x94 x95 x96 x97 x98 x99 x100 x101 x102 x103 x104 x105 x106 x107 x108 x109 x110 x111 x112 x4 W) : E10 W1 so aob ao sn sc n cbd gb cb G7 G3 cap TG (upd L 9) x70 x71 x72 x73 x74 x75 x76 x77 x78 (.slice so sn sc) x80 x81 x82 x83 x84 x85 x86 x87 x88 x89 x90 x91 x92 x93 x94 x95 x96 x97 x98 x99 x100 x101 x102 x103 x104 x105 x106 x107 x108 x109 x110 x111 x112 x4 W :=
  ⟨h.x, h.p0, h.p1, h.p2, h.p3, h.p4, h.p5, h.p6, h.p7, h.p8, fun _ => rfl, h.p10, h.p11, h.p12, h.p13, h.p14, h.p15, h.p16, h.p17, h.p18, h.p19, h.p20, h.p21, h.p22, h.p23, h.p24, h.p25, h.p26, h.p27, h.p28, h.p29, h.p30, h.p31, h.p32, h.p33, h.p34, h.p35, h.p36, h.p37, h.p38, h.p39, h.p40, h.p41, h.p42, h.p43⟩
theorem E10.s10 (h : E10 W1 so aob ao sn sc n cbd gb cb G7 G3 cap TG L x70 x71 x72 x73 x74 x75 x76 x77 x78 x79 x80 x81 x82 x83 x84 x85 x86 x87 x88 x89 x90 x91 x92 x93 x94 x95 x96 x97 x98 x99 x100 x101 x102 x103 x104 x105 x106 x107 x108 x109 x110 x111 x112 x4 W) : E10 W1 so aob ao sn sc n cbd gb cb G7 G3 cap TG (upd L 10) x70 x71 x72 x73 x74 x75 x76 x77 x78 x79 (.slice aob (n + 16) cbd) x81 x82 x83 x84 x85 x86 x87 x88 x89 x90 x91 x92 x93 x94 x95 x96 x97 x98 x99 x100 x101 x102 x103 x104 x105 x106 x107 x108 x109 x110 x111 x112 x4 W :=
  ⟨h.x, h.p0, h.p1, h.p2, h.p3, h.p4, h.p5, h.p6, h.p7, h.p8, h.p9, fun _ => rfl, h.p11, h.p12, h.p13, h.p14, h.p15, h.p16, h.p17, h.p18, h.p19, h.p20, h.p21, h.p22, h.p23, h.p24, h.p25, h.p26, h.p27, h.p28, h.p29, h.p30, h.p31, h.p32, h.p33, h.p34, h.p35, h.p36, h.p37, h.p38, h.p39, h.p40, h.p41, h.p42, h.p43⟩
theorem E10.s11 (h : E10 W1 so aob ao sn sc n cbd gb cb G7 G3 cap TG L x70 x71 x72 x73 x74 x75 x76 x77 x78 x79 x80 x81 x82 x83 x84 x85 x86 x87 x88 x89 x90 x91 x92 x93 x94 x95 x96 x97 x98 x99 x100 x101 x102 x103 x104 x105 x106 x107 x108 x109 x110 x111 x112 x4 W) (hX : Below W1.heap.size W1 W2) : E10 W1 so aob ao sn sc n cbd gb cb G7 G3 cap TG (upd L 11) x70 x71 x72 x73 x74 x75 x76 x77 x78 x79 x80 (.agg (TG.map B8).toArray) x82 x83 x84 x85 x86 x87 x88 x89 x90 x91 x92 x93 x94 x95 x96 x97 x98 x99 x100 x101 x102 x103 x104 x105 x106 x107 x108 x109 x110 x111 x112 x4 W2 :=
  ⟨hX, h.p0, h.p1, h.p2, h.p3, h.p4, h.p5, h.p6, h.p7, h.p8, h.p9, h.p10, fun _ => rfl, h.p12, h.p13, h.p14, h.p15, h.p16, h.p17, h.p18, h.p19, h.p20, h.p21, h.p22, h.p23, h.p24, h.p25, h.p26, h.p27, h.p28, h.p29, h.p30, h.p31, h.p32, h.p33, h.p34, h.p35, h.p36, h.p37, h.p38, h.p39, h.p40, h.p41, h.p42, h.p43⟩
theorem E10.s12 (h : E10 W1 so aob ao sn sc n cbd gb cb G7 G3 cap TG L x70 x71 x72 x73 x74 x75 x76 x77 x78 x79 x80 x81 x82 x83 x84 x85 x86 x87 x88 x89 x90 x91 x92 x93 x94 x95 x96 x97 x98 x99 x100 x101 x102 x103 x104 x105 x106 x107 x108 x109 x110 x111 x112 x4 W) : E10 W1 so aob ao sn sc n cbd gb cb G7 G3 cap TG (upd L 12) x70 x71 x72 x73 x74 x75 x76 x77 x78 x79 x80 x81 (.bool true) x83 x84 x85 x86 x87 x88 x89 x90 x91 x92 x93 x94 x95 x96 x97 x98 x99 x100 x101 x102 x103 x104 x105 x106 x107 x108 x109 x110 x111 x112 x4 W :=
  ⟨h.x, h.p0, h.p1, h.p2, h.p3, h.p4, h.p5, h.p6, h.p7, h.p8, h.p9, h.p10, h.p11, fun _ => rfl, h.p13, h.p14, h.p15, h.p16, h.p17, h.p18, h.p19, h.p20, h.p21, h.p22, h.p23, h.p24, h.p25, h.p26, h.p27, h.p28, h.p29, h.p30, h.p31, h.p32, h.p33, h.p34, h.p35, h.p36, h.p37, h.p38, h.p39, h.p40, h.p41, h.p42, h.p43⟩
theorem E10.s13 (h : E10 W1 so aob ao sn sc n cbd gb cb G7 G3 cap TG L x70 x71 x72 x73 x74 x75 x76 x77 x78 x79 x80 x81 x82 x83 x84 x85 x86 x87 x88 x89 x90 x91 x92 x93 x94 x95 x96 x97 x98 x99 x100 x101 x102 x103 x104 x105 x106 x107 x108 x109 x110 x111 x112 x4 W) : E10 W1 so aob ao sn sc n cbd gb cb G7 G3 cap TG (upd L 13) x70 x71 x72 x73 x74 x75 x76 x77 x78 x79 x80 x81 x82 (.bool true) x84 x85 x86 x87 x88 x89 x90 x91 x92 x93 x94 x95 x96 x97 x98 x99 x100 x101 x102 x103 x104 x105 x106 x107 x108 x109 x110 x111 x112 x4 W :=
  ⟨h.x, h.p0, h.p1, h.p2, h.p3, h.p4, h.p5, h.p6, h.p7, h.p8, h.p9, h.p10, h.p11, h.p12, fun _ => rfl, h.p14, h.p15, h.p16, h.p17, h.p18, h.p19, h.p20, h.p21, h.p22, h.p23, h.p24, h.p25, h.p26, h.p27, h.p28, h.p29, h.p30, h.p31, h.p32, h.p33, h.p34, h.p35, h.p36, h.p37, h.p38, h.p39, h.p40, h.p41, h.p42, h.p43⟩
theorem E10.s14 (h : E10 W1 so aob ao sn sc n cbd gb cb G7 G3 cap TG L x70 x71 x72 x73 x74 x75 x76 x77 x78 x79 x80 x81 x82 x83 x84 x85 x86 x87 x88 x89 x90 x91 x92 x93 x94 x95 x96 x97 x98 x99 x100 x101 x102 x103 x104 x105 x106 x107 x108 x109 x110 x111 x112 x4 W) : E10 W1 so aob ao sn sc n cbd gb cb G7 G3 cap TG (upd L 14) x70 x71 x72 x73 x74 x75 x76 x77 x78 x79 x80 x81 x82 x83 (.bool true) x85 x86 x87 x88 x89 x90 x91 x92 x93 x94 x95 x96 x97 x98 x99 x100 x101 x102 x103 x104 x105 x106 x107 x108 x109 x110 x111 x112 x4 W :=
  ⟨h.x, h.p0, h.p1, h.p2, h.p3, h.p4, h.p5, h.p6, h.p7, h.p8, h.p9, h.p10, h.p11, h.p12, h.p13, fun _ => rfl, h.p15, h.p16, h.p17, h.p18, h.p19, h.p20, h.p21, h.p22, h.p23, h.p24, h.p25, h.p26, h.p27, h.p28, h.p29, h.p30, h.p31, h.p32, h.p33, h.p34, h.p35, h.p36, h.p37, h.p38, h.p39, h.p40, h.p41, h.p42, h.p43⟩
theorem E10.s15 (h : E10 W1 so aob ao sn sc n cbd gb cb G7 G3 cap TG L x70 x71 x72 x73 x74 x75 x76 x77 x78 x79 x80 x81 x82 x83 x84 x85 x86 x87 x88 x89 x90 x91 x92 x93 x94 x95 x96 x97 x98 x99 x100 x101 x102 x103 x104 x105 x106 x107 x108 x109 x110 x111 x112 x4 W) : E10 W1 so aob ao sn sc n cbd gb cb G7 G3 cap TG (upd L 15) x70 x71 x72 x73 x74 x75 x76 x77 x78 x79 x80 x81 x82 x83 x84 (.slice (some ⟨gb, 0, none⟩) (n + 48) cb) x86 x87 x88 x89 x90 x91 x92 x93 x94 x95 x96 x97 x98 x99 x100 x101 x102 x103 x104 x105 x106 x107 x108 x109 x110 x111 x112 x4 W :=
  ⟨h.x, h.p0, h.p1, h.p2, h.p3, h.p4, h.p5, h.p6, h.p7, h.p8, h.p9, h.p10, h.p11, h.p12, h.p13, h.p14, fun _ => rfl, h.p16, h.p17, h.p18, h.p19, h.p20, h.p21, h.p22, h.p23, h.p24, h.p25, h.p26, h.p27, h.p28, h.p29, h.p30, h.p31, h.p32, h.p33, h.p34, h.p35, h.p36, h.p37, h.p38, h.p39, h.p40, h.p41, h.p42, h.p43⟩
theorem E10.s16 (h : E10 W1 so aob ao sn sc n cbd gb cb G7 G3 cap TG L x70 x71 x72 x73 x74 x75 x76 x77 x78 x79 x80 x81 x82 x83 x84 x85 x86 x87 x88 x89 x90 x91 x92 x93 x94 x95 x96 x97 x98 x99 x100 x101 x102 x103 x104 x105 x106 x107 x108 x109 x110 x111 x112 x4 W) : E10 W1 so aob ao sn sc n cbd gb cb G7 G3 cap TG (upd L 16) x70 x71 x72 x73 x74 x75 x76 x77 x78 x79 x80 x81 x82 x83 x84 x85 (.int .i64 ((n : Int) + 48)) x87 x88 x89 x90 x91 x92 x93 x94 x95 x96 x97 x98 x99 x100 x101 x102 x103 x104 x105 x106 x107 x108 x109 x110 x111 x112 x4 W :=
  ⟨h.x, h.p0, h.p1, h.p2, h.p3, h.p4, h.p5, h.p6, h.p7, h.p8, h.p9, h.p10, h.p11, h.p12, h.p13, h.p14, h.p15, fun _ => rfl, h.p17, h.p18, h.p19, h.p20, h.p21, h.p22, h.p23, h.p24, h.p25, h.p26, h.p27, h.p28, h.p29, h.p30, h.p31, h.p32, h.p33, h.p34, h.p35, h.p36, h.p37, h.p38, h.p39, h.p40, h.p41, h.p42, h.p43⟩
theorem E10.s17 (h : E10 W1 so aob ao sn sc n cbd gb cb G7 G3 cap TG L x70 x71 x72 x73 x74 x75 x76 x77 x78 x79 x80 x81 x82 x83 x84 x85 x86 x87 x88 x89 x90 x91 x92 x93 x94 x95 x96 x97 x98 x99 x100 x101 x102 x103 x104 x105 x106 x107 x108 x109 x110 x111 x112 x4 W) : E10 W1 so aob ao sn sc n cbd gb cb G7 G3 cap TG (upd L 17) x70 x71 x72 x73 x74 x75 x76 x77 x78 x79 x80 x81 x82 x83 x84 x85 x86 (.pointer (some ⟨G3, 3, none⟩)) x88 x89 x90 x91 x92 x93 x94 x95 x96 x97 x98 x99 x100 x101 x102 x103 x104 x105 x106 x107 x108 x109 x110 x111 x112 x4 W :=
  ⟨h.x, h.p0, h.p1, h.p2, h.p3, h.p4, h.p5, h.p6, h.p7, h.p8, h.p9, h.p10, h.p11, h.p12, h.p13, h.p14, h.p15, h.p16, fun _ => rfl, h.p18, h.p19, h.p20, h.p21, h.p22, h.p23, h.p24, h.p25, h.p26, h.p27, h.p28, h.p29, h.p30, h.p31, h.p32, h.p33, h.p34, h.p35, h.p36, h.p37, h.p38, h.p39, h.p40, h.p41, h.p42, h.p43⟩
theorem E10.s18 (h : E10 W1 so aob ao sn sc n cbd gb cb G7 G3 cap TG L x70 x71 x72 x73 x74 x75 x76 x77 x78 x79 x80 x81 x82 x83 x84 x85 x86 x87 x88 x89 x90 x91 x92 x93 x94 x95 x96 x97 x98 x99 x100 x101 x102 x103 x104 x105 x106 x107 x108 x109 x110 x111 x112 x4 W) : E10 W1 so aob ao sn sc n cbd gb cb G7 G3 cap TG (upd L 18) x70 x71 x72 x73 x74 x75 x76 x77 x78 x79 x80 x81 x82 x83 x84 x85 x86 x87 (.slice ao n cap) x89 x90 x91 x92 x93 x94 x95 x96 x97 x98 x99 x100 x101 x102 x103 x104 x105 x106 x107 x108 x109 x110 x111 x112 x4 W :=
  ⟨h.x, h.p0, h.p1, h.p2, h.p3, h.p4, h.p5, h.p6, h.p7, h.p8, h.p9, h.p10, h.p11, h.p12, h.p13, h.p14, h.p15, h.p16, h.p17, fun _ => rfl, h.p19, h.p20, h.p21, h.p22, h.p23, h.p24, h.p25, h.p26, h.p27, h.p28, h.p29, h.p30, h.p31, h.p32, h.p33, h.p34, h.p35, h.p36, h.p37, h.p38, h.p39, h.p40, h.p41, h.p42, h.p43⟩
theorem E10.s19 (h : E10 W1 so aob ao sn sc n cbd gb cb G7 G3 cap TG L x70 x71 x72 x73 x74 x75 x76 x77 x78 x79 x80 x81 x82 x83 x84 x85 x86 x87 x88 x89 x90 x91 x92 x93 x94 x95 x96 x97 x98 x99 x100 x101 x102 x103 x104 x105 x106 x107 x108 x109 x110 x111 x112 x4 W) : E10 W1 so aob ao sn sc n cbd gb cb G7 G3 cap TG (upd L 19) x70 x71 x72 x73 x74 x75 x76 x77 x78 x79 x80 x81 x82 x83 x84 x85 x86 x87 x88 (.int .i64 (n : Int)) x90 x91 x92 x93 x94 x95 x96 x97 x98 x99 x100 x101 x102 x103 x104 x105 x106 x107 x108 x109 x110 x111 x112 x4 W :=
  ⟨h.x, h.p0, h.p1, h.p2, h.p3, h.p4, h.p5, h.p6, h.p7, h.p8, h.p9, h.p10, h.p11, h.p12, h.p13, h.p14, h.p15, h.p16, h.p17, h.p18, fun _ => rfl, h.p20, h.p21, h.p22, h.p23, h.p24, h.p25, h.p26, h.p27, h.p28, h.p29, h.p30, h.p31, h.p32, h.p33, h.p34, h.p35, h.p36, h.p37, h.p38, h.p39, h.p40, h.p41, h.p42, h.p43⟩
theorem E10.s20 (h : E10 W1 so aob ao sn sc n cbd gb cb G7 G3 cap TG L x70 x71 x72 x73 x74 x75 x76 x77 x78 x79 x80 x81 x82 x83 x84 x85 x86 x87 x88 x89 x90 x91 x92 x93 x94 x95 x96 x97 x98 x99 x100 x101 x102 x103 x104 x105 x106 x107 x108 x109 x110 x111 x112 x4 W) : E10 W1 so aob ao sn sc n cbd gb cb G7 G3 cap TG (upd L 20) x70 x71 x72 x73 x74 x75 x76 x77 x78 x79 x80 x81 x82 x83 x84 x85 x86 x87 x88 x89 (.int .i64 ((n : Int) + 48)) x91 x92 x93 x94 x95 x96 x97 x98 x99 x100 x101 x102 x103 x104 x105 x106 x107 x108 x109 x110 x111 x112 x4 W :=
  ⟨h.x, h.p0, h.p1, h.p2, h.p3, h.p4, h.p5, h.p6, h.p7, h.p8, h.p9, h.p10, h.p11, h.p12, h.p13, h.p14, h.p15, h.p16, h.p17, h.p18, h.p19, fun _ => rfl, h.p21, h.p22, h.p23, h.p24, h.p25, h.p26, h.p27, h.p28, h.p29, h.p30, h.p31, h.p32, h.p33, h.p34, h.p35, h.p36, h.p37, h.p38, h.p39, h.p40, h.p41, h.p42, h.p43⟩
theorem E10.s21 (h : E10 W1 so aob ao sn sc n cbd gb cb G7 G3 cap TG L x70 x71 x72 x73 x74 x75 x76 x77 x78 x79 x80 x81 x82 x83 x84 x85 x86 x87 x88 x89 x90 x91 x92 x93 x94 x95 x96 x97 x98 x99 x100 x101 x102 x103 x104 x105 x106 x107 x108 x109 x110 x111 x112 x4 W) : E10 W1 so aob ao sn sc n cbd gb cb G7 G3 cap TG (upd L 21) x70 x71 x72 x73 x74 x75 x76 x77 x78 x79 x80 x81 x82 x83 x84 x85 x86 x87 x88 x89 x90 (.bool true) x92 x93 x94 x95 x96 x97 x98 x99 x100 x101 x102 x103 x104 x105 x106 x107 x108 x109 x110 x111 x112 x4 W :=
  ⟨h.x, h.p0, h.p1, h.p2, h.p3, h.p4, h.p5, h.p6, h.p7, h.p8, h.p9, h.p10, h.p11, h.p12, h.p13, h.p14, h.p15, h.p16, h.p17, h.p18, h.p19, h.p20, fun _ => rfl, h.p22, h.p23, h.p24, h.p25, h.p26, h.p27, h.p28, h.p29, h.p30, h.p31, h.p32, h.p33, h.p34, h.p35, h.p36, h.p37, h.p38, h.p39, h.p40, h.p41, h.p42, h.p43⟩
theorem E10.s22 (h : E10 W1 so aob ao sn sc n cbd gb cb G7 G3 cap TG L x70 x71 x72 x73 x74 x75 x76 x77 x78 x79 x80 x81 x82 x83 x84 x85 x86 x87 x88 x89 x90 x91 x92 x93 x94 x95 x96 x97 x98 x99 x100 x101 x102 x103 x104 x105 x106 x107 x108 x109 x110 x111 x112 x4 W) : E10 W1 so aob ao sn sc n cbd gb cb G7 G3 cap TG (upd L 22) x70 x71 x72 x73 x74 x75 x76 x77 x78 x79 x80 x81 x82 x83 x84 x85 x86 x87 x88 x89 x90 x91 (.bool true) x93 x94 x95 x96 x97 x98 x99 x100 x101 x102 x103 x104 x105 x106 x107 x108 x109 x110 x111 x112 x4 W :=
  ⟨h.x, h.p0, h.p1, h.p2, h.p3, h.p4, h.p5, h.p6, h.p7, h.p8, h.p9, h.p10, h.p11, h.p12, h.p13, h.p14, h.p15, h.p16, h.p17, h.p18, h.p19, h.p20, h.p21, fun _ => rfl, h.p23, h.p24, h.p25, h.p26, h.p27, h.p28, h.p29, h.p30, h.p31, h.p32, h.p33, h.p34, h.p35, h.p36, h.p37, h.p38, h.p39, h.p40, h.p41, h.p42, h.p43⟩
theorem E10.s23 (h : E10 W1 so aob ao sn sc n cbd gb cb G7 G3 cap TG L x70 x71 x72 x73 x74 x75 x76 x77 x78 x79 x80 x81 x82 x83 x84 x85 x86 x87 x88 x89 x90 x91 x92 x93 x94 x95 x96 x97 x98 x99 x100 x101 x102 x103 x104 x105 x106 x107 x108 x109 x110 x111 x112 x4 W) : E10 W1 so aob ao sn sc n cbd gb cb G7 G3 cap TG (upd L 23) x70 x71 x72 x73 x74 x75 x76 x77 x78 x79 x80 x81 x82 x83 x84 x85 x86 x87 x88 x89 x90 x91 x92 (.bool true) x94 x95 x96 x97 x98 x99 x100 x101 x102 x103 x104 x105 x106 x107 x108 x109 x110 x111 x112 x4 W :=
  ⟨h.x, h.p0, h.p1, h.p2, h.p3, h.p4, h.p5, h.p6, h.p7, h.p8, h.p9, h.p10, h.p11, h.p12, h.p13, h.p14, h.p15, h.p16, h.p17, h.p18, h.p19, h.p20, h.p21, h.p22, fun _ => rfl, h.p24, h.p25, h.p26, h.p27, h.p28, h.p29, h.p30, h.p31, h.p32, h.p33, h.p34, h.p35, h.p36, h.p37, h.p38, h.p39, h.p40, h.p41, h.p42, h.p43⟩
theorem E10.s24 (h : E10 W1 so aob ao sn sc n cbd gb cb G7 G3 cap TG L x70 x71 x72 x73 x74 x75 x76 x77 x78 x79 x80 x81 x82 x83 x84 x85 x86 x87 x88 x89 x90 x91 x92 x93 x94 x95 x96 x97 x98 x99 x100 x101 x102 x103 x104 x105 x106 x107 x108 x109 x110 x111 x112 x4 W) : E10 W1 so aob ao sn sc n cbd gb cb G7 G3 cap TG (upd L 24) x70 x71 x72 x73 x74 x75 x76 x77 x78 x79 x80 x81 x82 x83 x84 x85 x86 x87 x88 x89 x90 x91 x92 x93 (.slice aob (n + 16) cbd) x95 x96 x97 x98 x99 x100 x101 x102 x103 x104 x105 x106 x107 x108 x109 x110 x111 x112 x4 W :=
  ⟨h.x, h.p0, h.p1, h.p2, h.p3, h.p4, h.p5, h.p6, h.p7, h.p8, h.p9, h.p10, h.p11, h.p12, h.p13, h.p14, h.p15, h.p16, h.p17, h.p18, h.p19, h.p20, h.p21, h.p22, h.p23, fun _ => rfl, h.p25, h.p26, h.p27, h.p28, h.p29, h.p30, h.p31, h.p32, h.p33, h.p34, h.p35, h.p36, h.p37, h.p38, h.p39, h.p40, h.p41, h.p42, h.p43⟩
theorem E10.s25 (h : E10 W1 so aob ao sn sc n cbd gb cb G7 G3 cap TG L x70 x71 x72 x73 x74 x75 x76 x77 x78 x79 x80 x81 x82 x83 x84 x85 x86 x87 x88 x89 x90 x91 x92 x93 x94 x95 x96 x97 x98 x99 x100 x101 x102 x103 x104 x105 x106 x107 x108 x109 x110 x111 x112 x4 W) : E10 W1 so aob ao sn sc n cbd gb cb G7 G3 cap TG (upd L 25) x70 x71 x72 x73 x74 x75 x76 x77 x78 x79 x80 x81 x82 x83 x84 x85 x86 x87 x88 x89 x90 x91 x92 x93 x94 (.int .i64 ((n : Int) + 16)) x96 x97 x98 x99 x100 x101 x102 x103 x104 x105 x106 x107 x108 x109 x110 x111 x112 x4 W :=
  ⟨h.x, h.p0, h.p1, h.p2, h.p3, h.p4, h.p5, h.p6, h.p7, h.p8, h.p9, h.p10, h.p11, h.p12, h.p13, h.p14, h.p15, h.p16, h.p17, h.p18, h.p19, h.p20, h.p21, h.p22, h.p23, h.p24, fun _ => rfl, h.p26, h.p27, h.p28, h.p29, h.p30, h.p31, h.p32, h.p33, h.p34, h.p35, h.p36, h.p37, h.p38, h.p39, h.p40, h.p41, h.p42, h.p43⟩
theorem E10.s26 (h : E10 W1 so aob ao sn sc n cbd gb cb G7 G3 cap TG L x70 x71 x72 x73 x74 x75 x76 x77 x78 x79 x80 x81 x82 x83 x84 x85 x86 x87 x88 x89 x90 x91 x92 x93 x94 x95 x96 x97 x98 x99 x100 x101 x102 x103 x104 x105 x106 x107 x108 x109 x110 x111 x112 x4 W) : E10 W1 so aob ao sn sc n cbd gb cb G7 G3 cap TG (upd L 26) x70 x71 x72 x73 x74 x75 x76 x77 x78 x79 x80 x81 x82 x83 x84 x85 x86 x87 x88 x89 x90 x91 x92 x93 x94 x95 (.slice (some ⟨gb, 0, none⟩) (n + 48) cb) x97 x98 x99 x100 x101 x102 x103 x104 x105 x106 x107 x108 x109 x110 x111 x112 x4 W :=
  ⟨h.x, h.p0, h.p1, h.p2, h.p3, h.p4, h.p5, h.p6, h.p7, h.p8, h.p9, h.p10, h.p11, h.p12, h.p13, h.p14, h.p15, h.p16, h.p17, h.p18, h.p19, h.p20, h.p21, h.p22, h.p23, h.p24, h.p25, fun _ => rfl, h.p27, h.p28, h.p29, h.p30, h.p31, h.p32, h.p33, h.p34, h.p35, h.p36, h.p37, h.p38, h.p39, h.p40, h.p41, h.p42, h.p43⟩
theorem E10.s27 (h : E10 W1 so aob ao sn sc n cbd gb cb G7 G3 cap TG L x70 x71 x72 x73 x74 x75 x76 x77 x78 x79 x80 x81 x82 x83 x84 x85 x86 x87 x88 x89 x90 x91 x92 x93 x94 x95 x96 x97 x98 x99 x100 x101 x102 x103 x104 x105 x106 x107 x108 x109 x110 x111 x112 x4 W) : E10 W1 so aob ao sn sc n cbd gb cb G7 G3 cap TG (upd L 27) x70 x71 x72 x73 x74 x75 x76 x77 x78 x79 x80 x81 x82 x83 x84 x85 x86 x87 x88 x89 x90 x91 x92 x93 x94 x95 x96 (.int .i64 ((n : Int) + 48)) x98 x99 x100 x101 x102 x103 x104 x105 x106 x107 x108 x109 x110 x111 x112 x4 W :=
  ⟨h.x, h.p0, h.p1, h.p2, h.p3, h.p4, h.p5, h.p6, h.p7, h.p8, h.p9, h.p10, h.p11, h.p12, h.p13, h.p14, h.p15, h.p16, h.p17, h.p18, h.p19, h.p20, h.p21, h.p22, h.p23, h.p24, h.p25, h.p26, fun _ => rfl, h.p28, h.p29, h.p30, h.p31, h.p32, h.p33, h.p34, h.p35, h.p36, h.p37, h.p38, h.p39, h.p40, h.p41, h.p42, h.p43⟩
theorem E10.s28 (h : E10 W1 so aob ao sn sc n cbd gb cb G7 G3 cap TG L x70 x71 x72 x73 x74 x75 x76 x77 x78 x79 x80 x81 x82 x83 x84 x85 x86 x87 x88 x89 x90 x91 x92 x93 x94 x95 x96 x97 x98 x99 x100 x101 x102 x103 x104 x105 x106 x107 x108 x109 x110 x111 x112 x4 W) : E10 W1 so aob ao sn sc n cbd gb cb G7 G3 cap TG (upd L 28) x70 x71 x72 x73 x74 x75 x76 x77 x78 x79 x80 x81 x82 x83 x84 x85 x86 x87 x88 x89 x90 x91 x92 x93 x94 x95 x96 x97 (.int .i64 ((n : Int) + 16)) x99 x100 x101 x102 x103 x104 x105 x106 x107 x108 x109 x110 x111 x112 x4 W :=
  ⟨h.x, h.p0, h.p1, h.p2, h.p3, h.p4, h.p5, h.p6, h.p7, h.p8, h.p9, h.p10, h.p11, h.p12, h.p13, h.p14, h.p15, h.p16, h.p17, h.p18, h.p19, h.p20, h.p21, h.p22, h.p23, h.p24, h.p25, h.p26, h.p27, fun _ => rfl, h.p29, h.p30, h.p31, h.p32, h.p33, h.p34, h.p35, h.p36, h.p37, h.p38, h.p39, h.p40, h.p41, h.p42, h.p43⟩
theorem E10.s29 (h : E10 W1 so aob ao sn sc n cbd gb cb G7 G3 cap TG L x70 x71 x72 x73 x74 x75 x76 x77 x78 x79 x80 x81 x82 x83 x84 x85 x86 x87 x88 x89 x90 x91 x92 x93 x94 x95 x96 x97 x98 x99 x100 x101 x102 x103 x104 x105 x106 x107 x108 x109 x110 x111 x112 x4 W) : E10 W1 so aob ao sn sc n cbd gb cb G7 G3 cap TG (upd L 29) x70 x71 x72 x73 x74 x75 x76 x77 x78 x79 x80 x81 x82 x83 x84 x85 x86 x87 x88 x89 x90 x91 x92 x93 x94 x95 x96 x97 x98 (.bool true) x100 x101 x102 x103 x104 x105 x106 x107 x108 x109 x110 x111 x112 x4 W :=
  ⟨h.x, h.p0, h.p1, h.p2, h.p3, h.p4, h.p5, h.p6, h.p7, h.p8, h.p9, h.p10, h.p11, h.p12, h.p13, h.p14, h.p15, h.p16, h.p17, h.p18, h.p19, h.p20, h.p21, h.p22, h.p23, h.p24, h.p25, h.p26, h.p27, h.p28, fun _ => rfl, h.p30, h.p31, h.p32, h.p33, h.p34, h.p35, h.p36, h.p37, h.p38, h.p39, h.p40, h.p41, h.p42, h.p43⟩
theorem E10.s30 (h : E10 W1 so aob ao sn sc n cbd gb cb G7 G3 cap TG L x70 x71 x72 x73 x74 x75 x76 x77 x78 x79 x80 x81 x82 x83 x84 x85 x86 x87 x88 x89 x90 x91 x92 x93 x94 x95 x96 x97 x98 x99 x100 x101 x102 x103 x104 x105 x106 x107 x108 x109 x110 x111 x112 x4 W) : E10 W1 so aob ao sn sc n cbd gb cb G7 G3 cap TG (upd L 30) x70 x71 x72 x73 x74 x75 x76 x77 x78 x79 x80 x81 x82 x83 x84 x85 x86 x87 x88 x89 x90 x91 x92 x93 x94 x95 x96 x97 x98 x99 (.bool true) x101 x102 x103 x104 x105 x106 x107 x108 x109 x110 x111 x112 x4 W :=
  ⟨h.x, h.p0, h.p1, h.p2, h.p3, h.p4, h.p5, h.p6, h.p7, h.p8, h.p9, h.p10, h.p11, h.p12, h.p13, h.p14, h.p15, h.p16, h.p17, h.p18, h.p19, h.p20, h.p21, h.p22, h.p23, h.p24, h.p25, h.p26, h.p27, h.p28, h.p29, fun _ => rfl, h.p31, h.p32, h.p33, h.p34, h.p35, h.p36, h.p37, h.p38, h.p39, h.p40, h.p41, h.p42, h.p43⟩
theorem E10.s31 (h : E10 W1 so aob ao sn sc n cbd gb cb G7 G3 cap TG L x70 x71 x72 x73 x74 x75 x76 x77 x78 x79 x80 x81 x82 x83 x84 x85 x86 x87 x88 x89 x90 x91 x92 x93 x94 x95 x96 x97 x98 x99 x100 x101 x102 x103 x104 x105 x106 x107 x108 x109 x110 x111 x112 x4 W) : E10 W1 so aob ao sn sc n cbd gb cb G7 G3 cap TG (upd L 31) x70 x71 x72 x73 x74 x75 x76 x77 x78 x79 x80 x81 x82 x83 x84 x85 x86 x87 x88 x89 x90 x91 x92 x93 x94 x95 x96 x97 x98 x99 x100 (.bool true) x102 x103 x104 x105 x106 x107 x108 x109 x110 x111 x112 x4 W :=
  ⟨h.x, h.p0, h.p1, h.p2, h.p3, h.p4, h.p5, h.p6, h.p7, h.p8, h.p9, h.p10, h.p11, h.p12, h.p13, h.p14, h.p15, h.p16, h.p17, h.p18, h.p19, h.p20, h.p21, h.p22, h.p23, h.p24, h.p25, h.p26, h.p27, h.p28, h.p29, h.p30, fun _ => rfl, h.p32, h.p33, h.p34, h.p35, h.p36, h.p37, h.p38, h.p39, h.p40, h.p41, h.p42, h.p43⟩
theorem E10.s32 (h : E10 W1 so aob ao sn sc n cbd gb cb G7 G3 cap TG L x70 x71 x72 x73 x74 x75 x76 x77 x78 x79 x80 x81 x82 x83 x84 x85 x86 x87 x88 x89 x90 x91 x92 x93 x94 x95 x96 x97 x98 x99 x100 x101 x102 x103 x104 x105 x106 x107 x108 x109 x110 x111 x112 x4 W) : E10 W1 so aob ao sn sc n cbd gb cb G7 G3 cap TG (upd L 32) x70 x71 x72 x73 x74 x75 x76 x77 x78 x79 x80 x81 x82 x83 x84 x85 x86 x87 x88 x89 x90 x91 x92 x93 x94 x95 x96 x97 x98 x99 x100 x101 (.slice (some ⟨gb, 0, none⟩) (n + 48) cb) x103 x104 x105 x106 x107 x108 x109 x110 x111 x112 x4 W :=
  ⟨h.x, h.p0, h.p1, h.p2, h.p3, h.p4, h.p5, h.p6, h.p7, h.p8, h.p9, h.p10, h.p11, h.p12, h.p13, h.p14, h.p15, h.p16, h.p17, h.p18, h.p19, h.p20, h.p21, h.p22, h.p23, h.p24, h.p25, h.p26, h.p27, h.p28, h.p29, h.p30, h.p31, fun _ => rfl, h.p33, h.p34, h.p35, h.p36, h.p37, h.p38, h.p39, h.p40, h.p41, h.p42, h.p43⟩
theorem E10.s33 (h : E10 W1 so aob ao sn sc n cbd gb cb G7 G3 cap TG L x70 x71 x72 x73 x74 x75 x76 x77 x78 x79 x80 x81 x82 x83 x84 x85 x86 x87 x88 x89 x90 x91 x92 x93 x94 x95 x96 x97 x98 x99 x100 x101 x102 x103 x104 x105 x106 x107 x108 x109 x110 x111 x112 x4 W) : E10 W1 so aob ao sn sc n cbd gb cb G7 G3 cap TG (upd L 33) x70 x71 x72 x73 x74 x75 x76 x77 x78 x79 x80 x81 x82 x83 x84 x85 x86 x87 x88 x89 x90 x91 x92 x93 x94 x95 x96 x97 x98 x99 x100 x101 x102 (.slice (some ⟨gb, 0, none⟩) (n + 48) cb) x104 x105 x106 x107 x108 x109 x110 x111 x112 x4 W :=
  ⟨h.x, h.p0, h.p1, h.p2, h.p3, h.p4, h.p5, h.p6, h.p7, h.p8, h.p9, h.p10, h.p11, h.p12, h.p13, h.p14, h.p15, h.p16, h.p17, h.p18, h.p19, h.p20, h.p21, h.p22, h.p23, h.p24, h.p25, h.p26, h.p27, h.p28, h.p29, h.p30, h.p31, h.p32, fun _ => rfl, h.p34, h.p35, h.p36, h.p37, h.p38, h.p39, h.p40, h.p41, h.p42, h.p43⟩
theorem E10.s34 (h : E10 W1 so aob ao sn sc n cbd gb cb G7 G3 cap TG L x70 x71 x72 x73 x74 x75 x76 x77 x78 x79 x80 x81 x82 x83 x84 x85 x86 x87 x88 x89 x90 x91 x92 x93 x94 x95 x96 x97 x98 x99 x100 x101 x102 x103 x104 x105 x106 x107 x108 x109 x110 x111 x112 x4 W) : E10 W1 so aob ao sn sc n cbd gb cb G7 G3 cap TG (upd L 34) x70 x71 x72 x73 x74 x75 x76 x77 x78 x79 x80 x81 x82 x83 x84 x85 x86 x87 x88 x89 x90 x91 x92 x93 x94 x95 x96 x97 x98 x99 x100 x101 x102 x103 (.int .i64 ((n : Int) + 48)) x105 x106 x107 x108 x109 x110 x111 x112 x4 W :=
  ⟨h.x, h.p0, h.p1, h.p2, h.p3, h.p4, h.p5, h.p6, h.p7, h.p8, h.p9, h.p10, h.p11, h.p12, h.p13, h.p14, h.p15, h.p16, h.p17, h.p18, h.p19, h.p20, h.p21, h.p22, h.p23, h.p24, h.p25, h.p26, h.p27, h.p28, h.p29, h.p30, h.p31, h.p32, h.p33, fun _ => rfl, h.p35, h.p36, h.p37, h.p38, h.p39, h.p40, h.p41, h.p42, h.p43⟩
theorem E10.s35 (h : E10 W1 so aob ao sn sc n cbd gb cb G7 G3 cap TG L x70 x71 x72 x73 x74 x75 x76 x77 x78 x79 x80 x81 x82 x83 x84 x85 x86 x87 x88 x89 x90 x91 x92 x93 x94 x95 x96 x97 x98 x99 x100 x101 x102 x103 x104 x105 x106 x107 x108 x109 x110 x111 x112 x4 W) : E10 W1 so aob ao sn sc n cbd gb cb G7 G3 cap TG (upd L 35) x70 x71 x72 x73 x74 x75 x76 x77 x78 x79 x80 x81 x82 x83 x84 x85 x86 x87 x88 x89 x90 x91 x92 x93 x94 x95 x96 x97 x98 x99 x100 x101 x102 x103 x104 (.int .i64 ((n : Int) + 16)) x106 x107 x108 x109 x110 x111 x112 x4 W :=
  ⟨h.x, h.p0, h.p1, h.p2, h.p3, h.p4, h.p5, h.p6, h.p7, h.p8, h.p9, h.p10, h.p11, h.p12, h.p13, h.p14, h.p15, h.p16, h.p17, h.p18, h.p19, h.p20, h.p21, h.p22, h.p23, h.p24, h.p25, h.p26, h.p27, h.p28, h.p29, h.p30, h.p31, h.p32, h.p33, h.p34, fun _ => rfl, h.p36, h.p37, h.p38, h.p39, h.p40, h.p41, h.p42, h.p43⟩
theorem E10.s36 (h : E10 W1 so aob ao sn sc n cbd gb cb G7 G3 cap TG L x70 x71 x72 x73 x74 x75 x76 x77 x78 x79 x80 x81 x82 x83 x84 x85 x86 x87 x88 x89 x90 x91 x92 x93 x94 x95 x96 x97 x98 x99 x100 x101 x102 x103 x104 x105 x106 x107 x108 x109 x110 x111 x112 x4 W) : E10 W1 so aob ao sn sc n cbd gb cb G7 G3 cap TG (upd L 36) x70 x71 x72 x73 x74 x75 x76 x77 x78 x79 x80 x81 x82 x83 x84 x85 x86 x87 x88 x89 x90 x91 x92 x93 x94 x95 x96 x97 x98 x99 x100 x101 x102 x103 x104 x105 (.slice (some ⟨gb, n + 16, none⟩) 32 (cb - (n + 16))) x107 x108 x109 x110 x111 x112 x4 W :=
  ⟨h.x, h.p0, h.p1, h.p2, h.p3, h.p4, h.p5, h.p6, h.p7, h.p8, h.p9, h.p10, h.p11, h.p12, h.p13, h.p14, h.p15, h.p16, h.p17, h.p18, h.p19, h.p20, h.p21, h.p22, h.p23, h.p24, h.p25, h.p26, h.p27, h.p28, h.p29, h.p30, h.p31, h.p32, h.p33, h.p34, h.p35, fun _ => rfl, h.p37, h.p38, h.p39, h.p40, h.p41, h.p42, h.p43⟩
theorem E10.s37 (h : E10 W1 so aob ao sn sc n cbd gb cb G7 G3 cap TG L x70 x71 x72 x73 x74 x75 x76 x77 x78 x79 x80 x81 x82 x83 x84 x85 x86 x87 x88 x89 x90 x91 x92 x93 x94 x95 x96 x97 x98 x99 x100 x101 x102 x103 x104 x105 x106 x107 x108 x109 x110 x111 x112 x4 W) : E10 W1 so aob ao sn sc n cbd gb cb G7 G3 cap TG (upd L 37) x70 x71 x72 x73 x74 x75 x76 x77 x78 x79 x80 x81 x82 x83 x84 x85 x86 x87 x88 x89 x90 x91 x92 x93 x94 x95 x96 x97 x98 x99 x100 x101 x102 x103 x104 x105 x106 (.string (strOf TG)) x108 x109 x110 x111 x112 x4 W :=
  ⟨h.x, h.p0, h.p1, h.p2, h.p3, h.p4, h.p5, h.p6, h.p7, h.p8, h.p9, h.p10, h.p11, h.p12, h.p13, h.p14, h.p15, h.p16, h.p17, h.p18, h.p19, h.p20, h.p21, h.p22, h.p23, h.p24, h.p25, h.p26, h.p27, h.p28, h.p29, h.p30, h.p31, h.p32, h.p33, h.p34, h.p35, h.p36, fun _ => rfl, h.p38, h.p39, h.p40, h.p41, h.p42, h.p43⟩
theorem E10.s38 (h : E10 W1 so aob ao sn sc n cbd gb cb G7 G3 cap TG L x70 x71 x72 x73 x74 x75 x76 x77 x78 x79 x80 x81 x82 x83 x84 x85 x86 x87 x88 x89 x90 x91 x92 x93 x94 x95 x96 x97 x98 x99 x100 x101 x102 x103 x104 x105 x106 x107 x108 x109 x110 x111 x112 x4 W) : E10 W1 so aob ao sn sc n cbd gb cb G7 G3 cap TG (upd L 38) x70 x71 x72 x73 x74 x75 x76 x77 x78 x79 x80 x81 x82 x83 x84 x85 x86 x87 x88 x89 x90 x91 x92 x93 x94 x95 x96 x97 x98 x99 x100 x101 x102 x103 x104 x105 x106 x107 (.pointer (some ⟨G7, 4, none⟩)) x109 x110 x111 x112 x4 W :=
  ⟨h.x, h.p0, h.p1, h.p2, h.p3, h.p4, h.p5, h.p6, h.p7, h.p8, h.p9, h.p10, h.p11, h.p12, h.p13, h.p14, h.p15, h.p16, h.p17, h.p18, h.p19, h.p20, h.p21, h.p22, h.p23, h.p24, h.p25, h.p26, h.p27, h.p28, h.p29, h.p30, h.p31, h.p32, h.p33, h.p34, h.p35, h.p36, h.p37, fun _ => rfl, h.p39, h.p40, h.p41, h.p42, h.p43⟩
theorem E10.s39 (h : E10 W1 so aob ao sn sc n cbd gb cb G7 G3 cap TG L x70 x71 x72 x73 x74 x75 x76 x77 x78 x79 x80 x81 x82 x83 x84 x85 x86 x87 x88 x89 x90 x91 x92 x93 x94 x95 x96 x97 x98 x99 x100 x101 x102 x103 x104 x105 x106 x107 x108 x109 x110 x111 x112 x4 W) : E10 W1 so aob ao sn sc n cbd gb cb G7 G3 cap TG (upd L 39) x70 x71 x72 x73 x74 x75 x76 x77 x78 x79 x80 x81 x82 x83 x84 x85 x86 x87 x88 x89 x90 x91 x92 x93 x94 x95 x96 x97 x98 x99 x100 x101 x102 x103 x104 x105 x106 x107 x108 (.slice (some ⟨G7, 4, none⟩) 32 32) x110 x111 x112 x4 W :=
  ⟨h.x, h.p0, h.p1, h.p2, h.p3, h.p4, h.p5, h.p6, h.p7, h.p8, h.p9, h.p10, h.p11, h.p12, h.p13, h.p14, h.p15, h.p16, h.p17, h.p18, h.p19, h.p20, h.p21, h.p22, h.p23, h.p24, h.p25, h.p26, h.p27, h.p28, h.p29, h.p30, h.p31, h.p32, h.p33, h.p34, h.p35, h.p36, h.p37, h.p38, fun _ => rfl, h.p40, h.p41, h.p42, h.p43⟩
theorem E10.s40 (h : E10 W1 so aob ao sn sc n cbd gb cb G7 G3 cap TG L x70 x71 x72 x73 x74 x75 x76 x77 x78 x79 x80 x81 x82 x83 x84 x85 x86 x87 x88 x89 x90 x91 x92 x93 x94 x95 x96 x97 x98 x99 x100 x101 x102 x103 x104 x105 x106 x107 x108 x109 x110 x111 x112 x4 W) : E10 W1 so aob ao sn sc n cbd gb cb G7 G3 cap TG (upd L 40) x70 x71 x72 x73 x74 x75 x76 x77 x78 x79 x80 x81 x82 x83 x84 x85 x86 x87 x88 x89 x90 x91 x92 x93 x94 x95 x96 x97 x98 x99 x100 x101 x102 x103 x104 x105 x106 x107 x108 x109 (.string (strOf TG)) x111 x112 x4 W :=
  ⟨h.x, h.p0, h.p1, h.p2, h.p3, h.p4, h.p5, h.p6, h.p7, h.p8, h.p9, h.p10, h.p11, h.p12, h.p13, h.p14, h.p15, h.p16, h.p17, h.p18, h.p19, h.p20, h.p21, h.p22, h.p23, h.p24, h.p25, h.p26, h.p27, h.p28, h.p29, h.p30, h.p31, h.p32, h.p33, h.p34, h.p35, h.p36, h.p37, h.p38, h.p39, fun _ => rfl, h.p41, h.p42, h.p43⟩
theorem E10.s41 (h : E10 W1 so aob ao sn sc n cbd gb cb G7 G3 cap TG L x70 x71 x72 x73 x74 x75 x76 x77 x78 x79 x80 x81 x82 x83 x84 x85 x86 x87 x88 x89 x90 x91 x92 x93 x94 x95 x96 x97 x98 x99 x100 x101 x102 x103 x104 x105 x106 x107 x108 x109 x110 x111 x112 x4 W) : E10 W1 so aob ao sn sc n cbd gb cb G7 G3 cap TG (upd L 41) x70 x71 x72 x73 x74 x75 x76 x77 x78 x79 x80 x81 x82 x83 x84 x85 x86 x87 x88 x89 x90 x91 x92 x93 x94 x95 x96 x97 x98 x99 x100 x101 x102 x103 x104 x105 x106 x107 x108 x109 x110 (.bool true) x112 x4 W :=
  ⟨h.x, h.p0, h.p1, h.p2, h.p3, h.p4, h.p5, h.p6, h.p7, h.p8, h.p9, h.p10, h.p11, h.p12, h.p13, h.p14, h.p15, h.p16, h.p17, h.p18, h.p19, h.p20, h.p21, h.p22, h.p23, h.p24, h.p25, h.p26, h.p27, h.p28, h.p29, h.p30, h.p31, h.p32, h.p33, h.p34, h.p35, h.p36, h.p37, h.p38, h.p39, h.p40, fun _ => rfl, h.p42, h.p43⟩
theorem E10.s42 (h : E10 W1 so aob ao sn sc n cbd gb cb G7 G3 cap TG L x70 x71 x72 x73 x74 x75 x76 x77 x78 x79 x80 x81 x82 x83 x84 x85 x86 x87 x88 x89 x90 x91 x92 x93 x94 x95 x96 x97 x98 x99 x100 x101 x102 x103 x104 x105 x106 x107 x108 x109 x110 x111 x112 x4 W) : E10 W1 so aob ao sn sc n cbd gb cb G7 G3 cap TG (upd L 42) x70 x71 x72 x73 x74 x75 x76 x77 x78 x79 x80 x81 x82 x83 x84 x85 x86 x87 x88 x89 x90 x91 x92 x93 x94 x95 x96 x97 x98 x99 x100 x101 x102 x103 x104 x105 x106 x107 x108 x109 x110 x111 (.bool true) x4 W :=
  ⟨h.x, h.p0, h.p1, h.p2, h.p3, h.p4, h.p5, h.p6, h.p7, h.p8, h.p9, h.p10, h.p11, h.p12, h.p13, h.p14, h.p15, h.p16, h.p17, h.p18, h.p19, h.p20, h.p21, h.p22, h.p23, h.p24, h.p25, h.p26, h.p27, h.p28, h.p29, h.p30, h.p31, h.p32, h.p33, h.p34, h.p35, h.p36, h.p37, h.p38, h.p39, h.p40, h.p41, fun _ => rfl, h.p43⟩
theorem E10.s43 (h : E10 W1 so aob ao sn sc n cbd gb cb G7 G3 cap TG L x70 x71 x72 x73 x74 x75 x76 x77 x78 x79 x80 x81 x82 x83 x84 x85 x86 x87 x88 x89 x90 x91 x92 x93 x94 x95 x96 x97 x98 x99 x100 x101 x102 x103 x104 x105 x106 x107 x108 x109 x110 x111 x112 x4 W) : E10 W1 so aob ao sn sc n cbd gb cb G7 G3 cap TG (upd L 43) x70 x71 x72 x73 x74 x75 x76 x77 x78 x79 x80 x81 x82 x83 x84 x85 x86 x87 x88 x89 x90 x91 x92 x93 x94 x95 x96 x97 x98 x99 x100 x101 x102 x103 x104 x105 x106 x107 x108 x109 x110 x111 x112 (.bool true) W :=
  ⟨h.x, h.p0, h.p1, h.p2, h.p3, h.p4, h.p5, h.p6, h.p7, h.p8, h.p9, h.p10, h.p11, h.p12, h.p13, h.p14, h.p15, h.p16, h.p17, h.p18, h.p19, h.p20, h.p21, h.p22, h.p23, h.p24, h.p25, h.p26, h.p27, h.p28, h.p29, h.p30, h.p31, h.p32, h.p33, h.p34, h.p35, h.p36, h.p37, h.p38, h.p39, h.p40, h.p41, h.p42, fun _ => rfl⟩
end
@[reducible] def IE10 (W1 : World) (so aob ao : Option Addr) (sn sc n cbd gb cb G7 G3 cap : Nat) (TG : List By) (y0 y1 y2 y3 y5 y6 y7 y8 y9 y10 y11 y12 y13 y14 y15 y16 y17 y18 y19 y20 y21 y22 y23 y24 y25 y26 y27 y28 y29 y30 y31 y32 y33 y34 y35 y36 y37 y38 y39 y40 y41 y42 y43 y44 y45 y46 y47 y48 y49 y50 y51 y52 y53 y54 y55 y56 y57 y58 y59 y60 y61 y62 y63 y64 y65 y66 y67 y68 y69 : Value) : (Nat → Bool) → Act → World → Prop := fun L a W => ∃ x70 x71 x72 x73 x74 x75 x76 x77 x78 x79 x80 x81 x82 x83 x84 x85 x86 x87 x88 x89 x90 x91 x92 x93 x94 x95 x96 x97 x98 x99 x100 x101 x102 x103 x104 x105 x106 x107 x108 x109 x110 x111 x112 x4, a = ⟨#[y0, y1, y2, y3, x4, y5, y6, y7, y8, y9, y10, y11, y12, y13, y14, y15, y16, y17, y18, y19, y20, y21, y22, y23, y24, y25, y26, y27, y28, y29, y30, y31, y32, y33, y34, y35, y36, y37, y38, y39, y40, y41, y42, y43, y44, y45, y46, y47, y48, y49, y50, y51, y52, y53, y54, y55, y56, y57, y58, y59, y60, y61, y62, y63, y64, y65, y66, y67, y68, y69, x70, x71, x72, x73, x74, x75, x76, x77, x78, x79, x80, x81, x82, x83, x84, x85, x86, x87, x88, x89, x90, x91, x92, x93, x94, x95, x96, x97, x98, x99, x100, x101, x102, x103, x104, x105, x106, x107, x108, x109, x110, x111, x112], []⟩ ∧ E10 W1 so aob ao sn sc n cbd gb cb G7 G3 cap TG L x70 x71 x72 x73 x74 x75 x76 x77 x78 x79 x80 x81 x82 x83 x84 x85 x86 x87 x88 x89 x90 x91 x92 x93 x94 x95 x96 x97 x98 x99 x100 x101 x102 x103 x104 x105 x106 x107 x108 x109 x110 x111 x112 x4 W
theorem E10.step {W1 : World} {so aob ao : Option Addr} {sn sc n cbd gb cb G7 G3 cap : Nat} {TG : List By} {y0 y1 y2 y3 y5 y6 y7 y8 y9 y10 y11 y12 y13 y14 y15 y16 y17 y18 y19 y20 y21 y22 y23 y24 y25 y26 y27 y28 y29 y30 y31 y32 y33 y34 y35 y36 y37 y38 y39 y40 y41 y42 y43 y44 y45 y46 y47 y48 y49 y50 y51 y52 y53 y54 y55 y56 y57 y58 y59 y60 y61 y62 y63 y64 y65 y66 y67 y68 y69 : Value} {P : Program} {ops : Array Oper} {Q : Exit → Act → World → Prop} {i : Nat} {o : Oper} (hq : ∀ x70 x71 x72 x73 x74 x75 x76 x77 x78 x79 x80 x81 x82 x83 x84 x85 x86 x87 x88 x89 x90 x91 x92 x93 x94 x95 x96 x97 x98 x99 x100 x101 x102 x103 x104 x105 x106 x107 x108 x109 x110 x111 x112 x4 (L : Nat → Bool) (W : World), E10 W1 so aob ao sn sc n cbd gb cb G7 G3 cap TG L x70 x71 x72 x73 x74 x75 x76 x77 x78 x79 x80 x81 x82 x83 x84 x85 x86 x87 x88 x89 x90 x91 x92 x93 x94 x95 x96 x97 x98 x99 x100 x101 x102 x103 x104 x105 x106 x107 x108 x109 x110 x111 x112 x4 W → L i = false → (∀ j ∈ onesOf o, L j = true) → ∀ K : Act → World → Prop, Shut (∀ a' w', IE10 W1 so aob ao sn sc n cbd gb cb G7 G3 cap TG y0 y1 y2 y3 y5 y6 y7 y8 y9 y10 y11 y12 y13 y14 y15 y16 y17 y18 y19 y20 y21 y22 y23 y24 y25 y26 y27 y28 y29 y30 y31 y32 y33 y34 y35 y36 y37 y38 y39 y40 y41 y42 y43 y44 y45 y46 y47 y48 y49 y50 y51 y52 y53 y54 y55 y56 y57 y58 y59 y60 y61 y62 y63 y64 y65 y66 y67 y68 y69 (upd L i) a' w' → K a' w') → if Region.wanted o (yielded ops (⟨#[y0, y1, y2, y3, x4, y5, y6, y7, y8, y9, y10, y11, y12, y13, y14, y15, y16, y17, y18, y19, y20, y21, y22, y23, y24, y25, y26, y27, y28, y29, y30, y31, y32, y33, y34, y35, y36, y37, y38, y39, y40, y41, y42, y43, y44, y45, y46, y47, y48, y49, y50, y51, y52, y53, y54, y55, y56, y57, y58, y59, y60, y61, y62, y63, y64, y65, y66, y67, y68, y69, x70, x71, x72, x73, x74, x75, x76, x77, x78, x79, x80, x81, x82, x83, x84, x85, x86, x87, x88, x89, x90, x91, x92, x93, x94, x95, x96, x97, x98, x99, x100, x101, x102, x103, x104, x105, x106, x107, x108, x109, x110, x111, x112], []⟩ : Act).tmps) = true then Oper.wp P o ⟨#[y0, y1, y2, y3, x4, y5, y6, y7, y8, y9, y10, y11, y12, y13, y14, y15, y16, y17, y18, y19, y20, y21, y22, y23, y24, y25, y26, y27, y28, y29, y30, y31, y32, y33, y34, y35, y36, y37, y38, y39, y40, y41, y42, y43, y44, y45, y46, y47, y48, y49, y50, y51, y52, y53, y54, y55, y56, y57, y58, y59, y60, y61, y62, y63, y64, y65, y66, y67, y68, y69, x70, x71, x72, x73, x74, x75, x76, x77, x78, x79, x80, x81, x82, x83, x84, x85, x86, x87, x88, x89, x90, x91, x92, x93, x94, x95, x96, x97, x98, x99, x100, x101, x102, x103, x104, x105, x106, x107, x108, x109, x110, x111, x112], []⟩ W K Q else K ((⟨#[y0, y1, y2, y3, x4, y5, y6, y7, y8, y9, y10, y11, y12, y13, y14, y15, y16, y17, y18, y19, y20, y21, y22, y23, y24, y25, y26, y27, y28, y29, y30, y31, y32, y33, y34, y35, y36, y37, y38, y39, y40, y41, y42, y43, y44, y45, y46, y47, y48, y49, y50, y51, y52, y53, y54, y55, y56, y57, y58, y59, y60, y61, y62, y63, y64, y65, y66, y67, y68, y69, x70, x71, x72, x73, x74, x75, x76, x77, x78, x79, x80, x81, x82, x83, x84, x85, x86, x87, x88, x89, x90, x91, x92, x93, x94, x95, x96, x97, x98, x99, x100, x101, x102, x103, x104, x105, x106, x107, x108, x109, x110, x111, x112], []⟩ : Act).put o.dst undef) W) : StepI P ops (IE10 W1 so aob ao sn sc n cbd gb cb G7 G3 cap TG y0 y1 y2 y3 y5 y6 y7 y8 y9 y10 y11 y12 y13 y14 y15 y16 y17 y18 y19 y20 y21 y22 y23 y24 y25 y26 y27 y28 y29 y30 y31 y32 y33 y34 y35 y36 y37 y38 y39 y40 y41 y42 y43 y44 y45 y46 y47 y48 y49 y50 y51 y52 y53 y54 y55 y56 y57 y58 y59 y60 y61 y62 y63 y64 y65 y66 y67 y68 y69) Q i o := by
  rintro L a W ⟨x70, x71, x72, x73, x74, x75, x76, x77, x78, x79, x80, x81, x82, x83, x84, x85, x86, x87, x88, x89, x90, x91, x92, x93, x94, x95, x96, x97, x98, x99, x100, x101, x102, x103, x104, x105, x106, x107, x108, x109, x110, x111, x112, x4, rfl, h⟩
  exact hq _ _ _ _ _ _ _ _ _ _ _ _ _ _ _ _ _ _ _ _ _ _ _ _ _ _ _ _ _ _ _ _ _ _ _ _ _ _ _ _ _ _ _ _ _ _ h
theorem E10.ends {W1 : World} {so aob ao : Option Addr} {sn sc n cbd gb cb G7 G3 cap : Nat} {TG : List By} {y0 y1 y2 y3 y5 y6 y7 y8 y9 y10 y11 y12 y13 y14 y15 y16 y17 y18 y19 y20 y21 y22 y23 y24 y25 y26 y27 y28 y29 y30 y31 y32 y33 y34 y35 y36 y37 y38 y39 y40 y41 y42 y43 y44 y45 y46 y47 y48 y49 y50 y51 y52 y53 y54 y55 y56 y57 y58 y59 y60 y61 y62 y63 y64 y65 y66 y67 y68 y69 : Value} {mm_ : Nat} {Q : Exit → Act → World → Prop} (hq : ∀ x70 x71 x72 x73 x74 x75 x76 x77 x78 x79 x80 x81 x82 x83 x84 x85 x86 x87 x88 x89 x90 x91 x92 x93 x94 x95 x96 x97 x98 x99 x100 x101 x102 x103 x104 x105 x106 x107 x108 x109 x110 x111 x112 x4 (L : Nat → Bool) (W : World), (∀ j, j < mm_ → L j = true) → E10 W1 so aob ao sn sc n cbd gb cb G7 G3 cap TG L x70 x71 x72 x73 x74 x75 x76 x77 x78 x79 x80 x81 x82 x83 x84 x85 x86 x87 x88 x89 x90 x91 x92 x93 x94 x95 x96 x97 x98 x99 x100 x101 x102 x103 x104 x105 x106 x107 x108 x109 x110 x111 x112 x4 W → Q .normal ⟨#[y0, y1, y2, y3, x4, y5, y6, y7, y8, y9, y10, y11, y12, y13, y14, y15, y16, y17, y18, y19, y20, y21, y22, y23, y24, y25, y26, y27, y28, y29, y30, y31, y32, y33, y34, y35, y36, y37, y38, y39, y40, y41, y42, y43, y44, y45, y46, y47, y48, y49, y50, y51, y52, y53, y54, y55, y56, y57, y58, y59, y60, y61, y62, y63, y64, y65, y66, y67, y68, y69, x70, x71, x72, x73, x74, x75, x76, x77, x78, x79, x80, x81, x82, x83, x84, x85, x86, x87, x88, x89, x90, x91, x92, x93, x94, x95, x96, x97, x98, x99, x100, x101, x102, x103, x104, x105, x106, x107, x108, x109, x110, x111, x112], []⟩ W) : ∀ L a' w', (∀ j, j < mm_ → L j = true) → IE10 W1 so aob ao sn sc n cbd gb cb G7 G3 cap TG y0 y1 y2 y3 y5 y6 y7 y8 y9 y10 y11 y12 y13 y14 y15 y16 y17 y18 y19 y20 y21 y22 y23 y24 y25 y26 y27 y28 y29 y30 y31 y32 y33 y34 y35 y36 y37 y38 y39 y40 y41 y42 y43 y44 y45 y46 y47 y48 y49 y50 y51 y52 y53 y54 y55 y56 y57 y58 y59 y60 y61 y62 y63 y64 y65 y66 y67 y68 y69 L a' w' → Q .normal a' w' := by
  rintro L a W hall ⟨x70, x71, x72, x73, x74, x75, x76, x77, x78, x79, x80, x81, x82, x83, x84, x85, x86, x87, x88, x89, x90, x91, x92, x93, x94, x95, x96, x97, x98, x99, x100, x101, x102, x103, x104, x105, x106, x107, x108, x109, x110, x111, x112, x4, rfl, h⟩
  exact hq _ _ _ _ _ _ _ _ _ _ _ _ _ _ _ _ _ _ _ _ _ _ _ _ _ _ _ _ _ _ _ _ _ _ _ _ _ _ _ _ _ _ _ _ _ _ hall h
set_option maxHeartbeats 2000000 in
set_option maxRecDepth 100000 in
theorem returns_any (so : Option Addr) (sn sc : Nat) (sec : List By) (hsec : sec.length = sn) (s k v : Int) (ao : Option Addr) (n cap : Nat) (p t : List By) (hp : p.length = n) (ht : t.length = 32) (w : World) (hg : HG w)
    (hsb : IsB w so sec) (hsn : so = none → sc = 0) (hsc : sn ≤ sc) (hsl : sn ≤ 140737488351232) (hb : IsB w ao p) (hnil : ao = none → cap = 0) (hcap : n ≤ cap) (hl : n ≤ 140737488351232) :
    Calls Tryd.prog 6 #[.slice so sn sc, .agg (imgC s k v (.slice ao n cap) t).toArray] w fun e w' => e = .returned (.bool true) ∧ Below w.heap.size w w' := by
  have b1 : Below w.heap.size w (w.alloc (.cells (imgC s k v (.slice ao n cap) t).toArray 27)) := (Below.refl _ _).alloc (Nat.le_refl _) _
  have r0 := Row.at w 27 (imgC s k v (.slice ao n cap) t) _ _ rfl rfl
  have hil := imgC_len s k v (.slice ao n cap) t ht
  have AW := awake_any _ (hg.below b1 hg.lt)
  have SB : Hid (∀ W, Below w.heap.size w W → IsB W so sec) := fun W h => hsb.below h (Nat.le_refl _)
  have PB : Hid (∀ W, Below w.heap.size w W → IsB W ao p) := fun W h => hb.below h (Nat.le_refl _)
  by_cases hm : may s k v n = 0
  · obtain ⟨a, b, c, rfl, rfl, rfl, ha, hb', hc, hn⟩ := may_zero hm
    have C1 : Hid (∀ W, Below w.heap.size w W → Calls Tryd.prog 10 #[.slice so sn sc, .agg (imgC a b c (.slice ao n cap) t).toArray] W fun e w' => ∃ ao' c', e = .returned (.tuple #[.slice ao' (n + 48) c', .int .i64 0]) ∧ Own W.heap.size w' (.slice ao' (n + 48) c') (cover a b c p ++ tag sec (cover a b c p)) ∧ Below W.heap.size W w') :=
      fun W h => cmake_ok so sn sc sec hsec a b c ao n cap p t hp ht W (SB.out W h) hsn hsc hsl (PB.out W h) hnil hcap ha hb' hc hn
    have HCL : Hid ((cover a b c p).length = n + 16) := by show _ = _; rw [cover_len, hp]
    have HTL0 := tag_len sec (cover a b c p)
    have HPA : Hid (parse (cover a b c p ++ tag sec (cover a b c p)) = .img a b c p (tag sec (cover a b c p))) := parse_cover a b c p _ ha hb' hc (by rw [hp]; exact hn) HTL0
    have HM1' : Hid (∀ bo cb W, Below w.heap.size w W → IsB W bo (cover a b c p) → n + 16 ≤ cb → Calls Tryd.prog 19 #[.slice so sn sc, .slice bo (n + 16) cb] W fun e w' => e = .returned (.agg ((tag sec (cover a b c p)).map B8).toArray) ∧ Below W.heap.size W w') :=
      fun bo cb W h hi hcb => mac_any so bo sn sc (n + 16) cb sec (cover a b c p) hsec HCL.out W (SB.out W h) hi hsc hcb (by omega) (by omega)
    have HM2' : Hid (∀ bo cb W, Below w.heap.size w W → IsB W bo (cover a b c p) → (bo = none → cb = 0) → Calls Tryd.prog 20 #[.slice so sn sc, .slice bo (n + 16) cb] W fun e w' => e = .returned (.agg ((tag sec (cover a b c p)).map B8).toArray) ∧ Below W.heap.size W w') :=
      fun bo cb W h hi hcb => refMac_any so bo sn sc (n + 16) cb sec (cover a b c p) hsec HCL.out W (SB.out W h) hi hsn hcb (by omega) (by omega)
    have HX0 : Hid ((imgC a b c (.slice ao n cap) t)[0]? = some (.int .i64 a)) := rfl
    have HX1 : Hid ((imgC a b c (.slice ao n cap) t)[1]? = some (.int .i64 b)) := rfl
    have HX2 : Hid ((imgC a b c (.slice ao n cap) t)[2]? = some (.int .i64 c)) := rfl
    have HX3 : Hid ((imgC a b c (.slice ao n cap) t)[3]? = some (.slice ao n cap)) := rfl
    generalize tag sec (cover a b c p) = TG at *
    generalize cover a b c p = CV at *
    generalize imgC a b c (.slice ao n cap) t = IM at *
    have HP : Hid (p.length = n) := hp
    clear hm hsb hb hsn hsc hsl hnil hcap hl hp ht hsec ha hb' hc
    go_enter Tryd.func6, Tryd.ntmps6
    go_wp2_with fail
    refine AW.mono ?_
    rintro e w2 ⟨rfl, hb2⟩
    have bb2 := b1.trans (hb2.mono (by simp))
    replace r0 := r0.below hb2 (by simp)
    clear hb2 b1 AW
    go_wp2_with (refine wpList_load_Row rfl 27 _ rfl _ _ IM r0 rfl _ Tryd.underlying27 rfl (by rw [hil]; kernel_rfl) ?_)
    refine (C1.out _ bb2).mono ?_
    rintro e w3 ⟨ao3, c3, rfl, ho3, hb3⟩
    have bb3 := bb2.trans (hb3.mono bb2.size)
    replace r0 := r0.below hb3 r0.lt
    clear hb3
    obtain ⟨l3, n3, k3, _⟩ := own_isb ho3
    obtain ⟨gb, rfl, hgb, _⟩ := ho3.at (by omega)
    have PA := cparse_img (some ⟨gb, 0, none⟩) (n + 48) c3 (CV ++ TG) l3 w3 (own_IsB ho3) n3 (by omega) a b c p TG HPA.out
    rw [HP.out] at PA
    clear n3 HPA
    go_wp2_with fail
    refine PA.mono ?_
    clear PA
    rintro e w4 ⟨ao4, c4, rfl, ho4, hb4⟩
    have bb4 := bb3.trans (hb4.mono bb3.size)
    replace r0 := r0.below hb4 r0.lt
    replace ho3 := ho3.keep hb4
    have hil7 := imgC_len a b c (.slice ao4 n c4) TG HTL0
    have h17 := imgC_one a b c ao4 n c4 TG
    have HY0 : Hid ((imgC a b c (.slice ao4 n c4) TG)[0]? = some (.int .i64 a)) := rfl
    have HY1 : Hid ((imgC a b c (.slice ao4 n c4) TG)[1]? = some (.int .i64 b)) := rfl
    have HY2 : Hid ((imgC a b c (.slice ao4 n c4) TG)[2]? = some (.int .i64 c)) := rfl
    have HY3 : Hid ((imgC a b c (.slice ao4 n c4) TG)[3]? = some (.slice ao4 n c4)) := rfl
    have HTP : Hid (((imgC a b c (.slice ao4 n c4) TG).drop 4).take 32 = TG.map B8) := imgC_tagpart a b c _ TG HTL0
    have HTD : Hid (∀ j, j < 32 → (imgC a b c (.slice ao4 n c4) TG)[4 + j]? = some (.int .u8 ((TG.getD j 0).toNat : Int))) := fun j hj => imgC_tag a b c _ TG j (by rw [HTL0]; exact hj)
    generalize imgC a b c (.slice ao4 n c4) TG = IM7 at *
    clear hb4
    generalize hG7 : w4.heap.size = G7 at *
    have hlt0 := r0.lt
    have hlt3 := ho3.lt.2
    have hne4 : ao4 ≠ some ⟨G7, 0, none⟩ := fun h => by subst h; have := ho4.lt.2; omega
    have rz := Row.at w4 27 zImg zImg.toArray G7 hG7.symm rfl
    have b5 : Below w.heap.size w (w4.alloc (.cells zImg.toArray 27)) := bb4.alloc (by have := bb4.size; omega) _
    have al := (Below.refl w4.heap.size w4).alloc (Nat.le_refl _) (.cells zImg.toArray 27)
    replace r0 := r0.alloc (.cells zImg.toArray 27)
    replace ho3 := ho3.keep al
    replace ho4 := ho4.keep al
    go_wp2_with (refine wpList_store_Row rfl 27 _ _ rfl G7 27 0 zImg IM7 rz (by rw [hil7]; exact Nat.le_refl _) rfl rfl (by rw [hil7]; kernel_rfl) h17 ?_; intro w5 hr5 hs5; have r5 := row_whole hr5 (by rw [hil7]; exact Nat.le_of_eq zImg_len); have q0 := r0.but hs5 (by omega); have x0 := q0.cell 0 _ HX0.out; have x1 := q0.cell 1 _ HX1.out; have x2 := q0.cell 2 _ HX2.out; have x3 := q0.cell 3 _ HX3.out; have y0 := r5.cell 0 _ HY0.out; have y1 := r5.cell 1 _ HY1.out; have y2 := r5.cell 2 _ HY2.out; have y3 := r5.cell 3 _ HY3.out; have bb5 := hs5.below b5 (by have := bb4.size; omega); have cvx := conv_bytes w5 ao n cap p HP.out (PB.out _ bb5); have o4 := ho4.but hs5 hne4; have cvy := conv_bytes w5 ao4 n c4 p HP.out (own_IsB o4))
    have o3 := ho3.but hs5 (fun h => by injection h with h; injection h with h; omega)
    have hg0 : w.heap.size < w5.heap.size := q0.lt
    clear r0 ho3 ho4 rz b5 al hr5 hs5 o4 cvx cvy x0 x1 x2 x3 y0 y1 y2 y3 hlt0 hlt3 hne4 hG7
    have BO := cbody_any (some ⟨gb, 0, none⟩) (n + 48) c3 (CV ++ TG) l3 w5 (own_IsB o3) (fun h => by cases h) (by omega) (by omega)
    rw [show n + 48 - 32 = n + 16 by omega, List.take_left' HCL.out] at BO
    go_wp2_with fail
    refine BO.mono ?_
    clear BO
    rintro e W1 ⟨aob, cbd, rfl, hob, hbo⟩
    have bbW := bb5.trans (hbo.mono bb5.size)
    replace q0 := q0.below hbo q0.lt
    replace r5 := r5.below hbo r5.lt
    replace o3 := o3.keep hbo
    obtain ⟨lb, nb, kb', _⟩ := own_isb hob
    have HM1 : Hid (∀ W, Below W1.heap.size W1 W → Calls Tryd.prog 19 #[.slice so sn sc, .slice aob (n + 16) cbd] W fun e w' => e = .returned (.agg (TG.map B8).toArray) ∧ Below W.heap.size W w') :=
      fun W h => HM1'.out aob cbd W (bbW.trans (h.mono bbW.size)) ((own_IsB hob).below h (Nat.le_refl _)) (by omega)
    have HM2 : Hid (∀ W, Below W1.heap.size W1 W → Calls Tryd.prog 20 #[.slice so sn sc, .slice aob (n + 16) cbd] W fun e w' => e = .returned (.agg (TG.map B8).toArray) ∧ Below W.heap.size W w') :=
      fun W h => HM2'.out aob cbd W (bbW.trans (h.mono bbW.size)) ((own_IsB hob).below h (Nat.le_refl _)) nb
    have HR7 : Hid (∀ W, Below W1.heap.size W1 W → Row W G7 27 IM7) := fun W h => r5.below h r5.lt
    have HC3 : Hid (∀ W, Below W1.heap.size W1 W → W.cell? ⟨w.heap.size, 3, none⟩ = some (.slice ao n cap)) := fun W h => (q0.below h q0.lt).cell 3 _ HX3.out
    have HTL : Hid ((TG.map B8).length = 32) := by show _ = _; rw [List.length_map, HTL0]
    have HEQ : Hid (∀ w : World, (Op.equalIn 10000 25 (.agg (TG.map B8).toArray) (.agg (TG.map B8).toArray)).run Tryd.prog w = .ok true w) := eq_self TG HTL0
    have HV1 : Hid (∀ W, Below W1.heap.size W1 W → (convert 23 9 (.slice (some ⟨gb, n + 16, none⟩) 32 (c3 - (n + 16)))).run Tryd.prog W = .ok (.string (strOf TG)) W) := fun W h => by
      refine conv_bytes W _ 32 _ TG HTL0 (.inr ⟨gb, n + 16, rfl, fun j v hj => ?_⟩)
      have hc := (own_IsB (o3.keep h))
      rcases hc with hc | ⟨B, off, e1, hc⟩
      · exfalso; rw [hc] at l3; simp at l3
      · injection e1 with e1; injection e1 with e1 e2; subst e1 e2
        have := hc (n + 16 + j) v (by rw [List.getElem?_append_right (by rw [HCL.out]; omega), HCL.out, Nat.add_sub_cancel_left]; exact hj)
        rw [Nat.zero_add] at this; exact this
    have HV2 : Hid (∀ W, Below W1.heap.size W1 W → (convert 23 9 (.slice (some ⟨G7, 4, none⟩) 32 32)).run Tryd.prog W = .ok (.string (strOf TG)) W) := fun W h => by
      refine conv_bytes W _ 32 _ TG HTL0 (.inr ⟨G7, 4, rfl, fun j v hj => ?_⟩)
      have hjl : j < 32 := by rw [← HTL0]; exact (List.getElem?_eq_some_iff.1 hj).1
      have := (r5.below h r5.lt).cell (4 + j) _ (HTD.out j hjl)
      rw [this, List.getD_eq_getElem?_getD, hj]; rfl
    have z1 : IntKind.i64.wrap ((n : Int) + 48) = (n : Int) + 48 := i64_in _ (by omega) (by omega)
    have z2 : IntKind.i64.wrap ((n : Int) + 48 - 32) = (n : Int) + 16 := by rw [i64_in _ (by omega) (by omega)]; omega
    have hc16 : ¬ c3 = n + 16 := by omega
    have i16 : (0 : Int) ≤ (n : Int) + 16 := by omega
    have i48 : (n : Int) + 16 ≤ (n : Int) + 48 := by omega
    clear q0 r5 o3 hob hbo HM1' HM2' C1 SB PB HX0 HX1 HX2 HX3 HY0 HY1 HY2 HY3 HTD
    go_wp2_with fail
    refine wp_region_inv (IE10 W1 so aob ao sn sc n cbd gb c3 G7 w.heap.size cap TG _ _ _ _ _ _ _ _ _ _ _ _ _ _ _ _ _ _ _ _ _ _ _ _ _ _ _ _ _ _ _ _ _ _ _ _ _ _ _ _ _ _ _ _ _ _ _ _ _ _ _ _ _ _ _ _ _ _ _ _ _ _ _ _ _ _ _ _ _) (by kernel_rfl) (by kernel_rfl) ⟨_, _, _, _, _, _, _, _, _, _, _, _, _, _, _, _, _, _, _, _, _, _, _, _, _, _, _, _, _, _, _, _, _, _, _, _, _, _, _, _, _, _, _, _, rfl, ⟨(Below.refl _ _).drew, fun k => (by cases k), fun k => (by cases k), fun k => (by cases k), fun k => (by cases k), fun k => (by cases k), fun k => (by cases k), fun k => (by cases k), fun k => (by cases k), fun k => (by cases k), fun k => (by cases k), fun k => (by cases k), fun k => (by cases k), fun k => (by cases k), fun k => (by cases k), fun k => (by cases k), fun k => (by cases k), fun k => (by cases k), fun k => (by cases k), fun k => (by cases k), fun k => (by cases k), fun k => (by cases k), fun k => (by cases k), fun k => (by cases k), fun k => (by cases k), fun k => (by cases k), fun k => (by cases k), fun k => (by cases k), fun k => (by cases k), fun k => (by cases k), fun k => (by cases k), fun k => (by cases k), fun k => (by cases k), fun k => (by cases k), fun k => (by cases k), fun k => (by cases k), fun k => (by cases k), fun k => (by cases k), fun k => (by cases k), fun k => (by cases k), fun k => (by cases k), fun k => (by cases k), fun k => (by cases k), fun k => (by cases k), fun k => (by cases k)⟩⟩ ?_ ?_
    · refine .cons ?_ (.cons ?_ (.cons ?_ (.cons ?_ (.cons ?_ (.cons ?_ (.cons ?_ (.cons ?_ (.cons ?_ (.cons ?_ (.cons ?_ (.cons ?_ (.cons ?_ (.cons ?_ (.cons ?_ (.cons ?_ (.cons ?_ (.cons ?_ (.cons ?_ (.cons ?_ (.cons ?_ (.cons ?_ (.cons ?_ (.cons ?_ (.cons ?_ (.cons ?_ (.cons ?_ (.cons ?_ (.cons ?_ (.cons ?_ (.cons ?_ (.cons ?_ (.cons ?_ (.cons ?_ (.cons ?_ (.cons ?_ (.cons ?_ (.cons ?_ (.cons ?_ (.cons ?_ (.cons ?_ (.cons ?_ (.cons ?_ (.cons ?_ .nil)))))))))))))))))))))))))))))))))))))))))))
      all_goals (refine E10.step ?_; intro x70 x71 x72 x73 x74 x75 x76 x77 x78 x79 x80 x81 x82 x83 x84 x85 x86 x87 x88 x89 x90 x91 x92 x93 x94 x95 x96 x97 x98 x99 x100 x101 x102 x103 x104 x105 x106 x107 x108 x109 x110 x111 x112 x4 L W hI hL hd K hK)
      · rw [if_pos (by rfl)]
        go_simp
        exact hK.out _ _ ⟨_, _, _, _, _, _, _, _, _, _, _, _, _, _, _, _, _, _, _, _, _, _, _, _, _, _, _, _, _, _, _, _, _, _, _, _, _, _, _, _, _, _, _, _, rfl, hI.s0⟩
      · have hx0 := hI.p0 (hd 0 (by decide))
        subst hx0
        refine step_load_part ?_ 25 (.tmp 70) rfl G7 4 27 32 _ (HR7.out W hI.x) rfl _ (TG.map B8) HTP.out HTL.out Tryd.underlying25 rfl (by kernel_rfl) ?_
        · rfl
        exact hK.out _ _ ⟨_, _, _, _, _, _, _, _, _, _, _, _, _, _, _, _, _, _, _, _, _, _, _, _, _, _, _, _, _, _, _, _, _, _, _, _, _, _, _, _, _, _, _, _, rfl, hI.s1⟩
      · rw [if_pos (by rfl)]
        go_simp
        exact hK.out _ _ ⟨_, _, _, _, _, _, _, _, _, _, _, _, _, _, _, _, _, _, _, _, _, _, _, _, _, _, _, _, _, _, _, _, _, _, _, _, _, _, _, _, _, _, _, _, rfl, hI.s2⟩
      · rw [if_pos (by rfl)]
        go_simp
        exact hK.out _ _ ⟨_, _, _, _, _, _, _, _, _, _, _, _, _, _, _, _, _, _, _, _, _, _, _, _, _, _, _, _, _, _, _, _, _, _, _, _, _, _, _, _, _, _, _, _, rfl, hI.s3⟩
      · have hx2 := hI.p2 (hd 2 (by decide))
        subst hx2
        have hx3 := hI.p3 (hd 3 (by decide))
        subst hx3
        rw [if_pos (by rfl)]
        go_simp
        refine (HM1.out W hI.x).mono ?_
        rintro e W2 ⟨rfl, hb3⟩
        go_simp
        exact hK.out _ _ ⟨_, _, _, _, _, _, _, _, _, _, _, _, _, _, _, _, _, _, _, _, _, _, _, _, _, _, _, _, _, _, _, _, _, _, _, _, _, _, _, _, _, _, _, _, rfl, hI.s4 (hI.x.trans (hb3.mono hI.x.size))⟩
      · have hx1 := hI.p1 (hd 1 (by decide))
        subst hx1
        have hx4 := hI.p4 (hd 4 (by decide))
        subst hx4
        rw [if_pos (by rfl)]
        have q1 := HEQ.out
        go_simp
        exact hK.out _ _ ⟨_, _, _, _, _, _, _, _, _, _, _, _, _, _, _, _, _, _, _, _, _, _, _, _, _, _, _, _, _, _, _, _, _, _, _, _, _, _, _, _, _, _, _, _, rfl, hI.s5⟩
      · have hx5 := hI.p5 (hd 5 (by decide))
        subst hx5
        rw [if_pos (by rfl)]
        go_simp
        exact hK.out _ _ ⟨_, _, _, _, _, _, _, _, _, _, _, _, _, _, _, _, _, _, _, _, _, _, _, _, _, _, _, _, _, _, _, _, _, _, _, _, _, _, _, _, _, _, _, _, rfl, hI.s6⟩
      · have hx6 := hI.p6 (hd 6 (by decide))
        subst hx6
        rw [if_pos (by rfl)]
        go_simp
        exact hK.out _ _ ⟨_, _, _, _, _, _, _, _, _, _, _, _, _, _, _, _, _, _, _, _, _, _, _, _, _, _, _, _, _, _, _, _, _, _, _, _, _, _, _, _, _, _, _, _, rfl, hI.s7⟩
      · have hx7 := hI.p7 (hd 7 (by decide))
        subst hx7
        have hx6 := hI.p6 (hd 6 (by decide))
        subst hx6
        refine step_load_part ?_ 25 (.tmp 77) rfl G7 4 27 32 _ (HR7.out W hI.x) rfl _ (TG.map B8) HTP.out HTL.out Tryd.underlying25 rfl (by kernel_rfl) ?_
        · rfl
        exact hK.out _ _ ⟨_, _, _, _, _, _, _, _, _, _, _, _, _, _, _, _, _, _, _, _, _, _, _, _, _, _, _, _, _, _, _, _, _, _, _, _, _, _, _, _, _, _, _, _, rfl, hI.s8⟩
      · have hx6 := hI.p6 (hd 6 (by decide))
        subst hx6
        rw [if_pos (by rfl)]
        go_simp
        exact hK.out _ _ ⟨_, _, _, _, _, _, _, _, _, _, _, _, _, _, _, _, _, _, _, _, _, _, _, _, _, _, _, _, _, _, _, _, _, _, _, _, _, _, _, _, _, _, _, _, rfl, hI.s9⟩
      · have hx6 := hI.p6 (hd 6 (by decide))
        subst hx6
        rw [if_pos (by rfl)]
        go_simp
        exact hK.out _ _ ⟨_, _, _, _, _, _, _, _, _, _, _, _, _, _, _, _, _, _, _, _, _, _, _, _, _, _, _, _, _, _, _, _, _, _, _, _, _, _, _, _, _, _, _, _, rfl, hI.s10⟩
      · have hx9 := hI.p9 (hd 9 (by decide))
        subst hx9
        have hx10 := hI.p10 (hd 10 (by decide))
        subst hx10
        have hx6 := hI.p6 (hd 6 (by decide))
        subst hx6
        rw [if_pos (by rfl)]
        go_simp
        refine (HM2.out W hI.x).mono ?_
        rintro e W2 ⟨rfl, hb3⟩
        go_simp
        exact hK.out _ _ ⟨_, _, _, _, _, _, _, _, _, _, _, _, _, _, _, _, _, _, _, _, _, _, _, _, _, _, _, _, _, _, _, _, _, _, _, _, _, _, _, _, _, _, _, _, rfl, hI.s11 (hI.x.trans (hb3.mono hI.x.size))⟩
      · have hx8 := hI.p8 (hd 8 (by decide))
        subst hx8
        have hx11 := hI.p11 (hd 11 (by decide))
        subst hx11
        have hx6 := hI.p6 (hd 6 (by decide))
        subst hx6
        rw [if_pos (by rfl)]
        have q1 := HEQ.out
        go_simp
        exact hK.out _ _ ⟨_, _, _, _, _, _, _, _, _, _, _, _, _, _, _, _, _, _, _, _, _, _, _, _, _, _, _, _, _, _, _, _, _, _, _, _, _, _, _, _, _, _, _, _, rfl, hI.s12⟩
      · have hx6 := hI.p6 (hd 6 (by decide))
        subst hx6
        have hx12 := hI.p12 (hd 12 (by decide))
        subst hx12
        rw [if_pos (by rfl)]
        go_simp
        exact hK.out _ _ ⟨_, _, _, _, _, _, _, _, _, _, _, _, _, _, _, _, _, _, _, _, _, _, _, _, _, _, _, _, _, _, _, _, _, _, _, _, _, _, _, _, _, _, _, _, rfl, hI.s13⟩
      · have hx13 := hI.p13 (hd 13 (by decide))
        subst hx13
        rw [if_pos (by rfl)]
        go_simp
        exact hK.out _ _ ⟨_, _, _, _, _, _, _, _, _, _, _, _, _, _, _, _, _, _, _, _, _, _, _, _, _, _, _, _, _, _, _, _, _, _, _, _, _, _, _, _, _, _, _, _, rfl, hI.s14⟩
      · have hx14 := hI.p14 (hd 14 (by decide))
        subst hx14
        rw [if_pos (by rfl)]
        go_simp
        exact hK.out _ _ ⟨_, _, _, _, _, _, _, _, _, _, _, _, _, _, _, _, _, _, _, _, _, _, _, _, _, _, _, _, _, _, _, _, _, _, _, _, _, _, _, _, _, _, _, _, rfl, hI.s15⟩
      · have hx15 := hI.p15 (hd 15 (by decide))
        subst hx15
        have hx14 := hI.p14 (hd 14 (by decide))
        subst hx14
        rw [if_pos (by rfl)]
        go_simp
        exact hK.out _ _ ⟨_, _, _, _, _, _, _, _, _, _, _, _, _, _, _, _, _, _, _, _, _, _, _, _, _, _, _, _, _, _, _, _, _, _, _, _, _, _, _, _, _, _, _, _, rfl, hI.s16⟩
      · have hx14 := hI.p14 (hd 14 (by decide))
        subst hx14
        rw [if_pos (by rfl)]
        go_simp
        exact hK.out _ _ ⟨_, _, _, _, _, _, _, _, _, _, _, _, _, _, _, _, _, _, _, _, _, _, _, _, _, _, _, _, _, _, _, _, _, _, _, _, _, _, _, _, _, _, _, _, rfl, hI.s17⟩
      · have hx17 := hI.p17 (hd 17 (by decide))
        subst hx17
        have hx14 := hI.p14 (hd 14 (by decide))
        subst hx14
        rw [if_pos (by rfl)]
        have c3 := HC3.out W hI.x
        go_simp
        exact hK.out _ _ ⟨_, _, _, _, _, _, _, _, _, _, _, _, _, _, _, _, _, _, _, _, _, _, _, _, _, _, _, _, _, _, _, _, _, _, _, _, _, _, _, _, _, _, _, _, rfl, hI.s18⟩
      · have hx18 := hI.p18 (hd 18 (by decide))
        subst hx18
        have hx14 := hI.p14 (hd 14 (by decide))
        subst hx14
        rw [if_pos (by rfl)]
        go_simp
        exact hK.out _ _ ⟨_, _, _, _, _, _, _, _, _, _, _, _, _, _, _, _, _, _, _, _, _, _, _, _, _, _, _, _, _, _, _, _, _, _, _, _, _, _, _, _, _, _, _, _, rfl, hI.s19⟩
      · have hx19 := hI.p19 (hd 19 (by decide))
        subst hx19
        have hx14 := hI.p14 (hd 14 (by decide))
        subst hx14
        rw [if_pos (by rfl)]
        go_simp
        exact hK.out _ _ ⟨_, _, _, _, _, _, _, _, _, _, _, _, _, _, _, _, _, _, _, _, _, _, _, _, _, _, _, _, _, _, _, _, _, _, _, _, _, _, _, _, _, _, _, _, rfl, hI.s20⟩
      · have hx16 := hI.p16 (hd 16 (by decide))
        subst hx16
        have hx20 := hI.p20 (hd 20 (by decide))
        subst hx20
        have hx14 := hI.p14 (hd 14 (by decide))
        subst hx14
        rw [if_pos (by rfl)]
        go_simp
        exact hK.out _ _ ⟨_, _, _, _, _, _, _, _, _, _, _, _, _, _, _, _, _, _, _, _, _, _, _, _, _, _, _, _, _, _, _, _, _, _, _, _, _, _, _, _, _, _, _, _, rfl, hI.s21⟩
      · have hx14 := hI.p14 (hd 14 (by decide))
        subst hx14
        have hx21 := hI.p21 (hd 21 (by decide))
        subst hx21
        rw [if_pos (by rfl)]
        go_simp
        exact hK.out _ _ ⟨_, _, _, _, _, _, _, _, _, _, _, _, _, _, _, _, _, _, _, _, _, _, _, _, _, _, _, _, _, _, _, _, _, _, _, _, _, _, _, _, _, _, _, _, rfl, hI.s22⟩
      · have hx22 := hI.p22 (hd 22 (by decide))
        subst hx22
        rw [if_pos (by rfl)]
        go_simp
        exact hK.out _ _ ⟨_, _, _, _, _, _, _, _, _, _, _, _, _, _, _, _, _, _, _, _, _, _, _, _, _, _, _, _, _, _, _, _, _, _, _, _, _, _, _, _, _, _, _, _, rfl, hI.s23⟩
      · have hx23 := hI.p23 (hd 23 (by decide))
        subst hx23
        rw [if_pos (by rfl)]
        go_simp
        exact hK.out _ _ ⟨_, _, _, _, _, _, _, _, _, _, _, _, _, _, _, _, _, _, _, _, _, _, _, _, _, _, _, _, _, _, _, _, _, _, _, _, _, _, _, _, _, _, _, _, rfl, hI.s24⟩
      · have hx24 := hI.p24 (hd 24 (by decide))
        subst hx24
        have hx23 := hI.p23 (hd 23 (by decide))
        subst hx23
        rw [if_pos (by rfl)]
        go_simp
        exact hK.out _ _ ⟨_, _, _, _, _, _, _, _, _, _, _, _, _, _, _, _, _, _, _, _, _, _, _, _, _, _, _, _, _, _, _, _, _, _, _, _, _, _, _, _, _, _, _, _, rfl, hI.s25⟩
      · have hx23 := hI.p23 (hd 23 (by decide))
        subst hx23
        rw [if_pos (by rfl)]
        go_simp
        exact hK.out _ _ ⟨_, _, _, _, _, _, _, _, _, _, _, _, _, _, _, _, _, _, _, _, _, _, _, _, _, _, _, _, _, _, _, _, _, _, _, _, _, _, _, _, _, _, _, _, rfl, hI.s26⟩
      · have hx26 := hI.p26 (hd 26 (by decide))
        subst hx26
        have hx23 := hI.p23 (hd 23 (by decide))
        subst hx23
        rw [if_pos (by rfl)]
        go_simp
        exact hK.out _ _ ⟨_, _, _, _, _, _, _, _, _, _, _, _, _, _, _, _, _, _, _, _, _, _, _, _, _, _, _, _, _, _, _, _, _, _, _, _, _, _, _, _, _, _, _, _, rfl, hI.s27⟩
      · have hx27 := hI.p27 (hd 27 (by decide))
        subst hx27
        have hx23 := hI.p23 (hd 23 (by decide))
        subst hx23
        rw [if_pos (by rfl)]
        go_simp
        exact hK.out _ _ ⟨_, _, _, _, _, _, _, _, _, _, _, _, _, _, _, _, _, _, _, _, _, _, _, _, _, _, _, _, _, _, _, _, _, _, _, _, _, _, _, _, _, _, _, _, rfl, hI.s28⟩
      · have hx25 := hI.p25 (hd 25 (by decide))
        subst hx25
        have hx28 := hI.p28 (hd 28 (by decide))
        subst hx28
        have hx23 := hI.p23 (hd 23 (by decide))
        subst hx23
        rw [if_pos (by rfl)]
        go_simp
        exact hK.out _ _ ⟨_, _, _, _, _, _, _, _, _, _, _, _, _, _, _, _, _, _, _, _, _, _, _, _, _, _, _, _, _, _, _, _, _, _, _, _, _, _, _, _, _, _, _, _, rfl, hI.s29⟩
      · have hx23 := hI.p23 (hd 23 (by decide))
        subst hx23
        have hx29 := hI.p29 (hd 29 (by decide))
        subst hx29
        rw [if_pos (by rfl)]
        go_simp
        exact hK.out _ _ ⟨_, _, _, _, _, _, _, _, _, _, _, _, _, _, _, _, _, _, _, _, _, _, _, _, _, _, _, _, _, _, _, _, _, _, _, _, _, _, _, _, _, _, _, _, rfl, hI.s30⟩
      · have hx30 := hI.p30 (hd 30 (by decide))
        subst hx30
        rw [if_pos (by rfl)]
        go_simp
        exact hK.out _ _ ⟨_, _, _, _, _, _, _, _, _, _, _, _, _, _, _, _, _, _, _, _, _, _, _, _, _, _, _, _, _, _, _, _, _, _, _, _, _, _, _, _, _, _, _, _, rfl, hI.s31⟩
      · have hx31 := hI.p31 (hd 31 (by decide))
        subst hx31
        rw [if_pos (by rfl)]
        go_simp
        exact hK.out _ _ ⟨_, _, _, _, _, _, _, _, _, _, _, _, _, _, _, _, _, _, _, _, _, _, _, _, _, _, _, _, _, _, _, _, _, _, _, _, _, _, _, _, _, _, _, _, rfl, hI.s32⟩
      · have hx31 := hI.p31 (hd 31 (by decide))
        subst hx31
        rw [if_pos (by rfl)]
        go_simp
        exact hK.out _ _ ⟨_, _, _, _, _, _, _, _, _, _, _, _, _, _, _, _, _, _, _, _, _, _, _, _, _, _, _, _, _, _, _, _, _, _, _, _, _, _, _, _, _, _, _, _, rfl, hI.s33⟩
      · have hx33 := hI.p33 (hd 33 (by decide))
        subst hx33
        have hx31 := hI.p31 (hd 31 (by decide))
        subst hx31
        rw [if_pos (by rfl)]
        go_simp
        exact hK.out _ _ ⟨_, _, _, _, _, _, _, _, _, _, _, _, _, _, _, _, _, _, _, _, _, _, _, _, _, _, _, _, _, _, _, _, _, _, _, _, _, _, _, _, _, _, _, _, rfl, hI.s34⟩
      · have hx34 := hI.p34 (hd 34 (by decide))
        subst hx34
        have hx31 := hI.p31 (hd 31 (by decide))
        subst hx31
        rw [if_pos (by rfl)]
        go_simp
        exact hK.out _ _ ⟨_, _, _, _, _, _, _, _, _, _, _, _, _, _, _, _, _, _, _, _, _, _, _, _, _, _, _, _, _, _, _, _, _, _, _, _, _, _, _, _, _, _, _, _, rfl, hI.s35⟩
      · have hx32 := hI.p32 (hd 32 (by decide))
        subst hx32
        have hx35 := hI.p35 (hd 35 (by decide))
        subst hx35
        have hx31 := hI.p31 (hd 31 (by decide))
        subst hx31
        rw [if_pos (by rfl)]
        have tn1 : ((n : Int) + 16).toNat = n + 16 := by omega
        have tn2 : n + 48 - (n + 16) = 32 := by omega
        go_simp
        exact hK.out _ _ ⟨_, _, _, _, _, _, _, _, _, _, _, _, _, _, _, _, _, _, _, _, _, _, _, _, _, _, _, _, _, _, _, _, _, _, _, _, _, _, _, _, _, _, _, _, rfl, hI.s36⟩
      · have hx36 := hI.p36 (hd 36 (by decide))
        subst hx36
        have hx31 := hI.p31 (hd 31 (by decide))
        subst hx31
        rw [if_pos (by rfl)]
        have cv := HV1.out W hI.x
        go_simp
        exact hK.out _ _ ⟨_, _, _, _, _, _, _, _, _, _, _, _, _, _, _, _, _, _, _, _, _, _, _, _, _, _, _, _, _, _, _, _, _, _, _, _, _, _, _, _, _, _, _, _, rfl, hI.s37⟩
      · have hx31 := hI.p31 (hd 31 (by decide))
        subst hx31
        rw [if_pos (by rfl)]
        go_simp
        exact hK.out _ _ ⟨_, _, _, _, _, _, _, _, _, _, _, _, _, _, _, _, _, _, _, _, _, _, _, _, _, _, _, _, _, _, _, _, _, _, _, _, _, _, _, _, _, _, _, _, rfl, hI.s38⟩
      · have hx38 := hI.p38 (hd 38 (by decide))
        subst hx38
        have hx31 := hI.p31 (hd 31 (by decide))
        subst hx31
        rw [if_pos (by rfl)]
        go_simp
        exact hK.out _ _ ⟨_, _, _, _, _, _, _, _, _, _, _, _, _, _, _, _, _, _, _, _, _, _, _, _, _, _, _, _, _, _, _, _, _, _, _, _, _, _, _, _, _, _, _, _, rfl, hI.s39⟩
      · have hx39 := hI.p39 (hd 39 (by decide))
        subst hx39
        have hx31 := hI.p31 (hd 31 (by decide))
        subst hx31
        rw [if_pos (by rfl)]
        have cv := HV2.out W hI.x
        go_simp
        exact hK.out _ _ ⟨_, _, _, _, _, _, _, _, _, _, _, _, _, _, _, _, _, _, _, _, _, _, _, _, _, _, _, _, _, _, _, _, _, _, _, _, _, _, _, _, _, _, _, _, rfl, hI.s40⟩
      · have hx37 := hI.p37 (hd 37 (by decide))
        subst hx37
        have hx40 := hI.p40 (hd 40 (by decide))
        subst hx40
        have hx31 := hI.p31 (hd 31 (by decide))
        subst hx31
        rw [if_pos (by rfl)]
        go_simp
        exact hK.out _ _ ⟨_, _, _, _, _, _, _, _, _, _, _, _, _, _, _, _, _, _, _, _, _, _, _, _, _, _, _, _, _, _, _, _, _, _, _, _, _, _, _, _, _, _, _, _, rfl, hI.s41⟩
      · have hx31 := hI.p31 (hd 31 (by decide))
        subst hx31
        have hx41 := hI.p41 (hd 41 (by decide))
        subst hx41
        rw [if_pos (by rfl)]
        go_simp
        exact hK.out _ _ ⟨_, _, _, _, _, _, _, _, _, _, _, _, _, _, _, _, _, _, _, _, _, _, _, _, _, _, _, _, _, _, _, _, _, _, _, _, _, _, _, _, _, _, _, _, rfl, hI.s42⟩
      · have hx42 := hI.p42 (hd 42 (by decide))
        subst hx42
        rw [if_pos (by rfl)]
        go_simp
        exact hK.out _ _ ⟨_, _, _, _, _, _, _, _, _, _, _, _, _, _, _, _, _, _, _, _, _, _, _, _, _, _, _, _, _, _, _, _, _, _, _, _, _, _, _, _, _, _, _, _, rfl, hI.s43⟩
    · refine E10.ends ?_; intro x70 x71 x72 x73 x74 x75 x76 x77 x78 x79 x80 x81 x82 x83 x84 x85 x86 x87 x88 x89 x90 x91 x92 x93 x94 x95 x96 x97 x98 x99 x100 x101 x102 x103 x104 x105 x106 x107 x108 x109 x110 x111 x112 x4 L W hall hI
      have hx0 := hI.p0 (hall 0 (by decide))
      subst hx0
      have hx1 := hI.p1 (hall 1 (by decide))
      subst hx1
      have hx2 := hI.p2 (hall 2 (by decide))
      subst hx2
      have hx3 := hI.p3 (hall 3 (by decide))
      subst hx3
      have hx4 := hI.p4 (hall 4 (by decide))
      subst hx4
      have hx5 := hI.p5 (hall 5 (by decide))
      subst hx5
      have hx6 := hI.p6 (hall 6 (by decide))
      subst hx6
      have hx7 := hI.p7 (hall 7 (by decide))
      subst hx7
      have hx8 := hI.p8 (hall 8 (by decide))
      subst hx8
      have hx9 := hI.p9 (hall 9 (by decide))
      subst hx9
      have hx10 := hI.p10 (hall 10 (by decide))
      subst hx10
      have hx11 := hI.p11 (hall 11 (by decide))
      subst hx11
      have hx12 := hI.p12 (hall 12 (by decide))
      subst hx12
      have hx13 := hI.p13 (hall 13 (by decide))
      subst hx13
      have hx14 := hI.p14 (hall 14 (by decide))
      subst hx14
      have hx15 := hI.p15 (hall 15 (by decide))
      subst hx15
      have hx16 := hI.p16 (hall 16 (by decide))
      subst hx16
      have hx17 := hI.p17 (hall 17 (by decide))
      subst hx17
      have hx18 := hI.p18 (hall 18 (by decide))
      subst hx18
      have hx19 := hI.p19 (hall 19 (by decide))
      subst hx19
      have hx20 := hI.p20 (hall 20 (by decide))
      subst hx20
      have hx21 := hI.p21 (hall 21 (by decide))
      subst hx21
      have hx22 := hI.p22 (hall 22 (by decide))
      subst hx22
      have hx23 := hI.p23 (hall 23 (by decide))
      subst hx23
      have hx24 := hI.p24 (hall 24 (by decide))
      subst hx24
      have hx25 := hI.p25 (hall 25 (by decide))
      subst hx25
      have hx26 := hI.p26 (hall 26 (by decide))
      subst hx26
      have hx27 := hI.p27 (hall 27 (by decide))
      subst hx27
      have hx28 := hI.p28 (hall 28 (by decide))
      subst hx28
      have hx29 := hI.p29 (hall 29 (by decide))
      subst hx29
      have hx30 := hI.p30 (hall 30 (by decide))
      subst hx30
      have hx31 := hI.p31 (hall 31 (by decide))
      subst hx31
      have hx32 := hI.p32 (hall 32 (by decide))
      subst hx32
      have hx33 := hI.p33 (hall 33 (by decide))
      subst hx33
      have hx34 := hI.p34 (hall 34 (by decide))
      subst hx34
      have hx35 := hI.p35 (hall 35 (by decide))
      subst hx35
      have hx36 := hI.p36 (hall 36 (by decide))
      subst hx36
      have hx37 := hI.p37 (hall 37 (by decide))
      subst hx37
      have hx38 := hI.p38 (hall 38 (by decide))
      subst hx38
      have hx39 := hI.p39 (hall 39 (by decide))
      subst hx39
      have hx40 := hI.p40 (hall 40 (by decide))
      subst hx40
      have hx41 := hI.p41 (hall 41 (by decide))
      subst hx41
      have hx42 := hI.p42 (hall 42 (by decide))
      subst hx42
      have hx43 := hI.p43 (hall 43 (by decide))
      subst hx43
      have hXe := hI.x
      clear hI hall
      try dsimp only
      go_wp2
      go_ret
      exact ⟨rfl, bbW.trans (hXe.mono bbW.size)⟩
  · have C1 : Hid (∀ W, Below w.heap.size w W → Calls Tryd.prog 10 #[.slice so sn sc, .agg (imgC s k v (.slice ao n cap) t).toArray] W fun e w' => ∃ ao' c', e = .returned (.tuple #[.slice ao' 0 c', .int .i64 (may s k v n)]) ∧ Own W.heap.size w' (.slice ao' 0 c') [] ∧ Below W.heap.size W w') :=
      fun W h => cmake_bad so sn sc sec hsec s k v ao n cap p t hp ht W (SB.out W h) hsn hsc hsl (PB.out W h) hnil hcap hl _ rfl hm
    have hE : may s k v n = 2 ∨ may s k v n = 4 := by
      unfold may at hm ⊢
      split
      · exact .inl rfl
      · split
        · exact .inr rfl
        · rename_i h1 h2; rw [if_neg h1, if_neg h2] at hm; exact absurd rfl hm
    generalize may s k v n = E at *
    generalize imgC s k v (.slice ao n cap) t = IM at *
    clear hsb hb hsn hsc hsl hnil hcap hl hp ht hsec
    rcases hE with rfl | rfl
    all_goals
      go_enter Tryd.func6, Tryd.ntmps6
      go_wp2_with fail
      refine AW.mono ?_
      rintro e w2 ⟨rfl, hb2⟩
      have bb2 := b1.trans (hb2.mono (by simp))
      replace r0 := r0.below hb2 (by simp)
      clear hb2
      go_wp2_with (refine wpList_load_Row rfl 27 _ rfl _ _ IM r0 rfl _ Tryd.underlying27 rfl (by rw [hil]; kernel_rfl) ?_)
      refine (C1.out _ bb2).mono ?_
      rintro e w3 ⟨ao3, c3, rfl, ho3, hb3⟩
      go_wp2
      go_ret
      exact ⟨rfl, bb2.trans (hb3.mono bb2.size)⟩
end Go.Proofs.YtnpbgfnahkmhoaaDoor
