
import Derived.Test.YthegfkcegmeklaaH16Chk
/-! ChainGrows, of any chain in code. (Printed by tools/gengrow16.py.) -/
namespace Go.Proofs.Ythegfkcegmeklaa
open Go.RowKit
set_option linter.unusedVariables false

/-- A log and rows beside it, ahead of an Add and behind it. -/
def GW (Lg : (Nat → Prop) → World → Addr → List EvV → Prop) (w : World) (a : Addr) (xs zs : List EvV) (R : List (Nat × Nat × List Value)) (l : Bool) (W : World) : Prop := FW Lg w a (if l = true then zs else xs) R W
section
variable {Lg : (Nat → Prop) → World → Addr → List EvV → Prop} {w : World} {a : Addr} {xs zs : List EvV} {R : List (Nat × Nat × List Value)} {l : Bool} {W W' : World}
theorem GW.no (h : GW Lg w a xs zs R l W) (hl : l = false) : FW Lg w a xs R W := by subst hl; exact h
theorem GW.yes (h : GW Lg w a xs zs R l W) (hl : l = true) : FW Lg w a zs R W := by subst hl; exact h
theorem GW.of_yes (h : FW Lg w a zs R W) : GW Lg w a xs zs R true W := h
theorem GW.of_no (h : FW Lg w a xs R W) : GW Lg w a xs zs R false W := h
theorem GW.put (hl : l = true) (h : FW Lg w a zs R W) : GW Lg w a xs zs R l W := by subst hl; exact h
theorem GW.below (C : Chn Lg) (h : GW Lg w a xs zs R l W) (hb : Below W.heap.size W W') : GW Lg w a xs zs R l W' := FW.below C h hb
theorem GW.row (h : GW Lg w a xs zs R l W) {G t : Nat} {c : List Value} (hm : (G, t, c) ∈ R) : Row W G t c := FW.row h hm
end

structure G9 (W1 : World) (Lg : (Nat → Prop) → World → Addr → List EvV → Prop) (w : World) (lp : Addr) (xs zs : List EvV) (R : List (Nat × Nat × List Value)) (EC XC RC MC : List Value) (ao : Option Addr) (n cap : Nat) (L : Nat → Bool) (x60 x61 x62 x63 x64 x65 x66 x67 x68 x69 x70 x71 x72 x73 x74 x75 x76 x77 x78 x79 x80 x81 x82 x83 x84 x6 : Value) (W : World) : Prop where
  x : GW Lg w lp xs zs R (L 2) W
  p0 : L 0 = true → x60 = .pointer (some lp)
  p1 : L 1 = true → x61 = .agg EC.toArray
  p2 : L 2 = true → x62 = .int .i64 0
  p3 : L 3 = true → x63 = .bool true
  p4 : L 4 = true → x64 = .bool true
  p5 : L 5 = true → x65 = .pointer (some lp)
  p6 : L 6 = true → x66 = .agg XC.toArray
  p7 : L 7 = true → x67 = .agg RC.toArray
  p8 : L 8 = true → x68 = .agg EC.toArray
  p9 : L 9 = true → x69 = .agg MC.toArray
  p10 : L 10 = true → x70 = .agg XC.toArray
  p11 : L 11 = true → x71 = .bool true
  p12 : L 12 = true → x72 = .bool true
  p13 : L 13 = true → x73 = .bool true
  p14 : L 14 = true → x74 = .pointer (some lp)
  p15 : L 15 = true → ∃ eo ec, x75 = .slice eo (n + 1) ec
  p16 : L 16 = true → x76 = .int .i64 ((n + 1 : Nat) : Int)
  p17 : L 17 = true → x77 = .slice ao n cap
  p18 : L 18 = true → x78 = .int .i64 (n : Int)
  p19 : L 19 = true → x79 = .int .i64 ((n + 1 : Nat) : Int)
  p20 : L 20 = true → x80 = .bool true
  p21 : L 21 = true → x81 = .bool true
  p22 : L 22 = true → x82 = .bool true
  p23 : L 23 = true → x83 = .bool true
  p24 : L 24 = true → x84 = .bool true
  p25 : L 25 = true → x6 = .bool true
  c4_3 : L 4 = true → L 3 = true
  c3_2 : L 3 = true → L 2 = true
  c13_12 : L 13 = true → L 12 = true
  c12_4 : L 12 = true → L 4 = true
section
variable {W1 : World} {Lg : (Nat → Prop) → World → Addr → List EvV → Prop} {w : World} {lp : Addr} {xs zs : List EvV} {R : List (Nat × Nat × List Value)} {EC XC RC MC : List Value} {ao : Option Addr} {n cap : Nat} {L : Nat → Bool} {x60 x61 x62 x63 x64 x65 x66 x67 x68 x69 x70 x71 x72 x73 x74 x75 x76 x77 x78 x79 x80 x81 x82 x83 x84 x6 : Value} {W W2 : World}
theorem G9.s0 (h : G9 W1 Lg w lp xs zs R EC XC RC MC ao n cap L x60 x61 x62 x63 x64 x65 x66 x67 x68 x69 x70 x71 x72 x73 x74 x75 x76 x77 x78 x79 x80 x81 x82 x83 x84 x6 W) : G9 W1 Lg w lp xs zs R EC XC RC MC ao n cap (upd L 0) (.pointer (some lp)) x61 x62 x63 x64 x65 x66 x67 x68 x69 x70 x71 x72 x73 x74 x75 x76 x77 x78 x79 x80 x81 x82 x83 x84 x6 W :=
  ⟨h.x, fun _ => rfl, h.p1, h.p2, h.p3, h.p4, h.p5, h.p6, h.p7, h.p8, h.p9, h.p10, h.p11, h.p12, h.p13, h.p14, h.p15, h.p16, h.p17, h.p18, h.p19, h.p20, h.p21, h.p22, h.p23, h.p24, h.p25, h.c4_3, h.c3_2, h.c13_12, h.c12_4⟩
theorem G9.s1 (h : G9 W1 Lg w lp xs zs R EC XC RC MC ao n cap L x60 x61 x62 x63 x64 x65 x66 x67 x68 x69 x70 x71 x72 x73 x74 x75 x76 x77 x78 x79 x80 x81 x82 x83 x84 x6 W) : G9 W1 Lg w lp xs zs R EC XC RC MC ao n cap (upd L 1) x60 (.agg EC.toArray) x62 x63 x64 x65 x66 x67 x68 x69 x70 x71 x72 x73 x74 x75 x76 x77 x78 x79 x80 x81 x82 x83 x84 x6 W :=
  ⟨h.x, h.p0, fun _ => rfl, h.p2, h.p3, h.p4, h.p5, h.p6, h.p7, h.p8, h.p9, h.p10, h.p11, h.p12, h.p13, h.p14, h.p15, h.p16, h.p17, h.p18, h.p19, h.p20, h.p21, h.p22, h.p23, h.p24, h.p25, h.c4_3, h.c3_2, h.c13_12, h.c12_4⟩
theorem G9.s2 (h : G9 W1 Lg w lp xs zs R EC XC RC MC ao n cap L x60 x61 x62 x63 x64 x65 x66 x67 x68 x69 x70 x71 x72 x73 x74 x75 x76 x77 x78 x79 x80 x81 x82 x83 x84 x6 W) (hX : GW Lg w lp xs zs R ((upd L 2) 2) W2) : G9 W1 Lg w lp xs zs R EC XC RC MC ao n cap (upd L 2) x60 x61 (.int .i64 0) x63 x64 x65 x66 x67 x68 x69 x70 x71 x72 x73 x74 x75 x76 x77 x78 x79 x80 x81 x82 x83 x84 x6 W2 :=
  ⟨hX, h.p0, h.p1, fun _ => rfl, h.p3, h.p4, h.p5, h.p6, h.p7, h.p8, h.p9, h.p10, h.p11, h.p12, h.p13, h.p14, fun k => (h.p15 k), h.p16, h.p17, h.p18, h.p19, h.p20, h.p21, h.p22, h.p23, h.p24, h.p25, h.c4_3, fun _ => rfl, h.c13_12, h.c12_4⟩
theorem G9.s3 (h : G9 W1 Lg w lp xs zs R EC XC RC MC ao n cap L x60 x61 x62 x63 x64 x65 x66 x67 x68 x69 x70 x71 x72 x73 x74 x75 x76 x77 x78 x79 x80 x81 x82 x83 x84 x6 W) (hc2 : L 2 = true) : G9 W1 Lg w lp xs zs R EC XC RC MC ao n cap (upd L 3) x60 x61 x62 (.bool true) x64 x65 x66 x67 x68 x69 x70 x71 x72 x73 x74 x75 x76 x77 x78 x79 x80 x81 x82 x83 x84 x6 W :=
  ⟨h.x, h.p0, h.p1, h.p2, fun _ => rfl, h.p4, h.p5, h.p6, h.p7, h.p8, h.p9, h.p10, h.p11, h.p12, h.p13, h.p14, h.p15, h.p16, h.p17, h.p18, h.p19, h.p20, h.p21, h.p22, h.p23, h.p24, h.p25, fun _ => rfl, fun _ => hc2, h.c13_12, h.c12_4⟩
theorem G9.s4 (h : G9 W1 Lg w lp xs zs R EC XC RC MC ao n cap L x60 x61 x62 x63 x64 x65 x66 x67 x68 x69 x70 x71 x72 x73 x74 x75 x76 x77 x78 x79 x80 x81 x82 x83 x84 x6 W) (hc3 : L 3 = true) : G9 W1 Lg w lp xs zs R EC XC RC MC ao n cap (upd L 4) x60 x61 x62 x63 (.bool true) x65 x66 x67 x68 x69 x70 x71 x72 x73 x74 x75 x76 x77 x78 x79 x80 x81 x82 x83 x84 x6 W :=
  ⟨h.x, h.p0, h.p1, h.p2, h.p3, fun _ => rfl, h.p5, h.p6, h.p7, h.p8, h.p9, h.p10, h.p11, h.p12, h.p13, h.p14, h.p15, h.p16, h.p17, h.p18, h.p19, h.p20, h.p21, h.p22, h.p23, h.p24, h.p25, fun _ => hc3, h.c3_2, h.c13_12, fun _ => rfl⟩
theorem G9.s5 (h : G9 W1 Lg w lp xs zs R EC XC RC MC ao n cap L x60 x61 x62 x63 x64 x65 x66 x67 x68 x69 x70 x71 x72 x73 x74 x75 x76 x77 x78 x79 x80 x81 x82 x83 x84 x6 W) : G9 W1 Lg w lp xs zs R EC XC RC MC ao n cap (upd L 5) x60 x61 x62 x63 x64 (.pointer (some lp)) x66 x67 x68 x69 x70 x71 x72 x73 x74 x75 x76 x77 x78 x79 x80 x81 x82 x83 x84 x6 W :=
  ⟨h.x, h.p0, h.p1, h.p2, h.p3, h.p4, fun _ => rfl, h.p6, h.p7, h.p8, h.p9, h.p10, h.p11, h.p12, h.p13, h.p14, h.p15, h.p16, h.p17, h.p18, h.p19, h.p20, h.p21, h.p22, h.p23, h.p24, h.p25, h.c4_3, h.c3_2, h.c13_12, h.c12_4⟩
theorem G9.s6 (h : G9 W1 Lg w lp xs zs R EC XC RC MC ao n cap L x60 x61 x62 x63 x64 x65 x66 x67 x68 x69 x70 x71 x72 x73 x74 x75 x76 x77 x78 x79 x80 x81 x82 x83 x84 x6 W) (hX : GW Lg w lp xs zs R ((upd L 6) 2) W2) : G9 W1 Lg w lp xs zs R EC XC RC MC ao n cap (upd L 6) x60 x61 x62 x63 x64 x65 (.agg XC.toArray) x67 x68 x69 x70 x71 x72 x73 x74 x75 x76 x77 x78 x79 x80 x81 x82 x83 x84 x6 W2 :=
  ⟨hX, h.p0, h.p1, h.p2, h.p3, h.p4, h.p5, fun _ => rfl, h.p7, h.p8, h.p9, h.p10, h.p11, h.p12, h.p13, h.p14, fun k => (h.p15 k), h.p16, h.p17, h.p18, h.p19, h.p20, h.p21, h.p22, h.p23, h.p24, h.p25, h.c4_3, h.c3_2, h.c13_12, h.c12_4⟩
theorem G9.s7 (h : G9 W1 Lg w lp xs zs R EC XC RC MC ao n cap L x60 x61 x62 x63 x64 x65 x66 x67 x68 x69 x70 x71 x72 x73 x74 x75 x76 x77 x78 x79 x80 x81 x82 x83 x84 x6 W) : G9 W1 Lg w lp xs zs R EC XC RC MC ao n cap (upd L 7) x60 x61 x62 x63 x64 x65 x66 (.agg RC.toArray) x68 x69 x70 x71 x72 x73 x74 x75 x76 x77 x78 x79 x80 x81 x82 x83 x84 x6 W :=
  ⟨h.x, h.p0, h.p1, h.p2, h.p3, h.p4, h.p5, h.p6, fun _ => rfl, h.p8, h.p9, h.p10, h.p11, h.p12, h.p13, h.p14, h.p15, h.p16, h.p17, h.p18, h.p19, h.p20, h.p21, h.p22, h.p23, h.p24, h.p25, h.c4_3, h.c3_2, h.c13_12, h.c12_4⟩
theorem G9.s8 (h : G9 W1 Lg w lp xs zs R EC XC RC MC ao n cap L x60 x61 x62 x63 x64 x65 x66 x67 x68 x69 x70 x71 x72 x73 x74 x75 x76 x77 x78 x79 x80 x81 x82 x83 x84 x6 W) : G9 W1 Lg w lp xs zs R EC XC RC MC ao n cap (upd L 8) x60 x61 x62 x63 x64 x65 x66 x67 (.agg EC.toArray) x69 x70 x71 x72 x73 x74 x75 x76 x77 x78 x79 x80 x81 x82 x83 x84 x6 W :=
  ⟨h.x, h.p0, h.p1, h.p2, h.p3, h.p4, h.p5, h.p6, h.p7, fun _ => rfl, h.p9, h.p10, h.p11, h.p12, h.p13, h.p14, h.p15, h.p16, h.p17, h.p18, h.p19, h.p20, h.p21, h.p22, h.p23, h.p24, h.p25, h.c4_3, h.c3_2, h.c13_12, h.c12_4⟩
theorem G9.s9 (h : G9 W1 Lg w lp xs zs R EC XC RC MC ao n cap L x60 x61 x62 x63 x64 x65 x66 x67 x68 x69 x70 x71 x72 x73 x74 x75 x76 x77 x78 x79 x80 x81 x82 x83 x84 x6 W) (hX : GW Lg w lp xs zs R ((upd L 9) 2) W2) : G9 W1 Lg w lp xs zs R EC XC RC MC ao n cap (upd L 9) x60 x61 x62 x63 x64 x65 x66 x67 x68 (.agg MC.toArray) x70 x71 x72 x73 x74 x75 x76 x77 x78 x79 x80 x81 x82 x83 x84 x6 W2 :=
  ⟨hX, h.p0, h.p1, h.p2, h.p3, h.p4, h.p5, h.p6, h.p7, h.p8, fun _ => rfl, h.p10, h.p11, h.p12, h.p13, h.p14, fun k => (h.p15 k), h.p16, h.p17, h.p18, h.p19, h.p20, h.p21, h.p22, h.p23, h.p24, h.p25, h.c4_3, h.c3_2, h.c13_12, h.c12_4⟩
theorem G9.s10 (h : G9 W1 Lg w lp xs zs R EC XC RC MC ao n cap L x60 x61 x62 x63 x64 x65 x66 x67 x68 x69 x70 x71 x72 x73 x74 x75 x76 x77 x78 x79 x80 x81 x82 x83 x84 x6 W) (hX : GW Lg w lp xs zs R ((upd L 10) 2) W2) : G9 W1 Lg w lp xs zs R EC XC RC MC ao n cap (upd L 10) x60 x61 x62 x63 x64 x65 x66 x67 x68 x69 (.agg XC.toArray) x71 x72 x73 x74 x75 x76 x77 x78 x79 x80 x81 x82 x83 x84 x6 W2 :=
  ⟨hX, h.p0, h.p1, h.p2, h.p3, h.p4, h.p5, h.p6, h.p7, h.p8, h.p9, fun _ => rfl, h.p11, h.p12, h.p13, h.p14, fun k => (h.p15 k), h.p16, h.p17, h.p18, h.p19, h.p20, h.p21, h.p22, h.p23, h.p24, h.p25, h.c4_3, h.c3_2, h.c13_12, h.c12_4⟩
theorem G9.s11 (h : G9 W1 Lg w lp xs zs R EC XC RC MC ao n cap L x60 x61 x62 x63 x64 x65 x66 x67 x68 x69 x70 x71 x72 x73 x74 x75 x76 x77 x78 x79 x80 x81 x82 x83 x84 x6 W) : G9 W1 Lg w lp xs zs R EC XC RC MC ao n cap (upd L 11) x60 x61 x62 x63 x64 x65 x66 x67 x68 x69 x70 (.bool true) x72 x73 x74 x75 x76 x77 x78 x79 x80 x81 x82 x83 x84 x6 W :=
  ⟨h.x, h.p0, h.p1, h.p2, h.p3, h.p4, h.p5, h.p6, h.p7, h.p8, h.p9, h.p10, fun _ => rfl, h.p12, h.p13, h.p14, h.p15, h.p16, h.p17, h.p18, h.p19, h.p20, h.p21, h.p22, h.p23, h.p24, h.p25, h.c4_3, h.c3_2, h.c13_12, h.c12_4⟩
theorem G9.s12 (h : G9 W1 Lg w lp xs zs R EC XC RC MC ao n cap L x60 x61 x62 x63 x64 x65 x66 x67 x68 x69 x70 x71 x72 x73 x74 x75 x76 x77 x78 x79 x80 x81 x82 x83 x84 x6 W) (hc4 : L 4 = true) : G9 W1 Lg w lp xs zs R EC XC RC MC ao n cap (upd L 12) x60 x61 x62 x63 x64 x65 x66 x67 x68 x69 x70 x71 (.bool true) x73 x74 x75 x76 x77 x78 x79 x80 x81 x82 x83 x84 x6 W :=
  ⟨h.x, h.p0, h.p1, h.p2, h.p3, h.p4, h.p5, h.p6, h.p7, h.p8, h.p9, h.p10, h.p11, fun _ => rfl, h.p13, h.p14, h.p15, h.p16, h.p17, h.p18, h.p19, h.p20, h.p21, h.p22, h.p23, h.p24, h.p25, h.c4_3, h.c3_2, fun _ => rfl, fun _ => hc4⟩
theorem G9.s13 (h : G9 W1 Lg w lp xs zs R EC XC RC MC ao n cap L x60 x61 x62 x63 x64 x65 x66 x67 x68 x69 x70 x71 x72 x73 x74 x75 x76 x77 x78 x79 x80 x81 x82 x83 x84 x6 W) (hc12 : L 12 = true) : G9 W1 Lg w lp xs zs R EC XC RC MC ao n cap (upd L 13) x60 x61 x62 x63 x64 x65 x66 x67 x68 x69 x70 x71 x72 (.bool true) x74 x75 x76 x77 x78 x79 x80 x81 x82 x83 x84 x6 W :=
  ⟨h.x, h.p0, h.p1, h.p2, h.p3, h.p4, h.p5, h.p6, h.p7, h.p8, h.p9, h.p10, h.p11, h.p12, fun _ => rfl, h.p14, h.p15, h.p16, h.p17, h.p18, h.p19, h.p20, h.p21, h.p22, h.p23, h.p24, h.p25, h.c4_3, h.c3_2, fun _ => hc12, h.c12_4⟩
theorem G9.s14 (h : G9 W1 Lg w lp xs zs R EC XC RC MC ao n cap L x60 x61 x62 x63 x64 x65 x66 x67 x68 x69 x70 x71 x72 x73 x74 x75 x76 x77 x78 x79 x80 x81 x82 x83 x84 x6 W) : G9 W1 Lg w lp xs zs R EC XC RC MC ao n cap (upd L 14) x60 x61 x62 x63 x64 x65 x66 x67 x68 x69 x70 x71 x72 x73 (.pointer (some lp)) x75 x76 x77 x78 x79 x80 x81 x82 x83 x84 x6 W :=
  ⟨h.x, h.p0, h.p1, h.p2, h.p3, h.p4, h.p5, h.p6, h.p7, h.p8, h.p9, h.p10, h.p11, h.p12, h.p13, fun _ => rfl, h.p15, h.p16, h.p17, h.p18, h.p19, h.p20, h.p21, h.p22, h.p23, h.p24, h.p25, h.c4_3, h.c3_2, h.c13_12, h.c12_4⟩
theorem G9.s15 (h : G9 W1 Lg w lp xs zs R EC XC RC MC ao n cap L x60 x61 x62 x63 x64 x65 x66 x67 x68 x69 x70 x71 x72 x73 x74 x75 x76 x77 x78 x79 x80 x81 x82 x83 x84 x6 W) {v : Value} (hX : GW Lg w lp xs zs R ((upd L 15) 2) W2) (ho : ∃ eo ec, v = .slice eo (n + 1) ec) : G9 W1 Lg w lp xs zs R EC XC RC MC ao n cap (upd L 15) x60 x61 x62 x63 x64 x65 x66 x67 x68 x69 x70 x71 x72 x73 x74 v x76 x77 x78 x79 x80 x81 x82 x83 x84 x6 W2 :=
  ⟨hX, h.p0, h.p1, h.p2, h.p3, h.p4, h.p5, h.p6, h.p7, h.p8, h.p9, h.p10, h.p11, h.p12, h.p13, h.p14, fun _ => ho, h.p16, h.p17, h.p18, h.p19, h.p20, h.p21, h.p22, h.p23, h.p24, h.p25, h.c4_3, h.c3_2, h.c13_12, h.c12_4⟩
theorem G9.s16 (h : G9 W1 Lg w lp xs zs R EC XC RC MC ao n cap L x60 x61 x62 x63 x64 x65 x66 x67 x68 x69 x70 x71 x72 x73 x74 x75 x76 x77 x78 x79 x80 x81 x82 x83 x84 x6 W) : G9 W1 Lg w lp xs zs R EC XC RC MC ao n cap (upd L 16) x60 x61 x62 x63 x64 x65 x66 x67 x68 x69 x70 x71 x72 x73 x74 x75 (.int .i64 ((n + 1 : Nat) : Int)) x77 x78 x79 x80 x81 x82 x83 x84 x6 W :=
  ⟨h.x, h.p0, h.p1, h.p2, h.p3, h.p4, h.p5, h.p6, h.p7, h.p8, h.p9, h.p10, h.p11, h.p12, h.p13, h.p14, h.p15, fun _ => rfl, h.p17, h.p18, h.p19, h.p20, h.p21, h.p22, h.p23, h.p24, h.p25, h.c4_3, h.c3_2, h.c13_12, h.c12_4⟩
theorem G9.s17 (h : G9 W1 Lg w lp xs zs R EC XC RC MC ao n cap L x60 x61 x62 x63 x64 x65 x66 x67 x68 x69 x70 x71 x72 x73 x74 x75 x76 x77 x78 x79 x80 x81 x82 x83 x84 x6 W) : G9 W1 Lg w lp xs zs R EC XC RC MC ao n cap (upd L 17) x60 x61 x62 x63 x64 x65 x66 x67 x68 x69 x70 x71 x72 x73 x74 x75 x76 (.slice ao n cap) x78 x79 x80 x81 x82 x83 x84 x6 W :=
  ⟨h.x, h.p0, h.p1, h.p2, h.p3, h.p4, h.p5, h.p6, h.p7, h.p8, h.p9, h.p10, h.p11, h.p12, h.p13, h.p14, h.p15, h.p16, fun _ => rfl, h.p18, h.p19, h.p20, h.p21, h.p22, h.p23, h.p24, h.p25, h.c4_3, h.c3_2, h.c13_12, h.c12_4⟩
theorem G9.s18 (h : G9 W1 Lg w lp xs zs R EC XC RC MC ao n cap L x60 x61 x62 x63 x64 x65 x66 x67 x68 x69 x70 x71 x72 x73 x74 x75 x76 x77 x78 x79 x80 x81 x82 x83 x84 x6 W) : G9 W1 Lg w lp xs zs R EC XC RC MC ao n cap (upd L 18) x60 x61 x62 x63 x64 x65 x66 x67 x68 x69 x70 x71 x72 x73 x74 x75 x76 x77 (.int .i64 (n : Int)) x79 x80 x81 x82 x83 x84 x6 W :=
  ⟨h.x, h.p0, h.p1, h.p2, h.p3, h.p4, h.p5, h.p6, h.p7, h.p8, h.p9, h.p10, h.p11, h.p12, h.p13, h.p14, h.p15, h.p16, h.p17, fun _ => rfl, h.p19, h.p20, h.p21, h.p22, h.p23, h.p24, h.p25, h.c4_3, h.c3_2, h.c13_12, h.c12_4⟩
theorem G9.s19 (h : G9 W1 Lg w lp xs zs R EC XC RC MC ao n cap L x60 x61 x62 x63 x64 x65 x66 x67 x68 x69 x70 x71 x72 x73 x74 x75 x76 x77 x78 x79 x80 x81 x82 x83 x84 x6 W) : G9 W1 Lg w lp xs zs R EC XC RC MC ao n cap (upd L 19) x60 x61 x62 x63 x64 x65 x66 x67 x68 x69 x70 x71 x72 x73 x74 x75 x76 x77 x78 (.int .i64 ((n + 1 : Nat) : Int)) x80 x81 x82 x83 x84 x6 W :=
  ⟨h.x, h.p0, h.p1, h.p2, h.p3, h.p4, h.p5, h.p6, h.p7, h.p8, h.p9, h.p10, h.p11, h.p12, h.p13, h.p14, h.p15, h.p16, h.p17, h.p18, fun _ => rfl, h.p20, h.p21, h.p22, h.p23, h.p24, h.p25, h.c4_3, h.c3_2, h.c13_12, h.c12_4⟩
theorem G9.s20 (h : G9 W1 Lg w lp xs zs R EC XC RC MC ao n cap L x60 x61 x62 x63 x64 x65 x66 x67 x68 x69 x70 x71 x72 x73 x74 x75 x76 x77 x78 x79 x80 x81 x82 x83 x84 x6 W) : G9 W1 Lg w lp xs zs R EC XC RC MC ao n cap (upd L 20) x60 x61 x62 x63 x64 x65 x66 x67 x68 x69 x70 x71 x72 x73 x74 x75 x76 x77 x78 x79 (.bool true) x81 x82 x83 x84 x6 W :=
  ⟨h.x, h.p0, h.p1, h.p2, h.p3, h.p4, h.p5, h.p6, h.p7, h.p8, h.p9, h.p10, h.p11, h.p12, h.p13, h.p14, h.p15, h.p16, h.p17, h.p18, h.p19, fun _ => rfl, h.p21, h.p22, h.p23, h.p24, h.p25, h.c4_3, h.c3_2, h.c13_12, h.c12_4⟩
theorem G9.s21 (h : G9 W1 Lg w lp xs zs R EC XC RC MC ao n cap L x60 x61 x62 x63 x64 x65 x66 x67 x68 x69 x70 x71 x72 x73 x74 x75 x76 x77 x78 x79 x80 x81 x82 x83 x84 x6 W) : G9 W1 Lg w lp xs zs R EC XC RC MC ao n cap (upd L 21) x60 x61 x62 x63 x64 x65 x66 x67 x68 x69 x70 x71 x72 x73 x74 x75 x76 x77 x78 x79 x80 (.bool true) x82 x83 x84 x6 W :=
  ⟨h.x, h.p0, h.p1, h.p2, h.p3, h.p4, h.p5, h.p6, h.p7, h.p8, h.p9, h.p10, h.p11, h.p12, h.p13, h.p14, h.p15, h.p16, h.p17, h.p18, h.p19, h.p20, fun _ => rfl, h.p22, h.p23, h.p24, h.p25, h.c4_3, h.c3_2, h.c13_12, h.c12_4⟩
theorem G9.s22 (h : G9 W1 Lg w lp xs zs R EC XC RC MC ao n cap L x60 x61 x62 x63 x64 x65 x66 x67 x68 x69 x70 x71 x72 x73 x74 x75 x76 x77 x78 x79 x80 x81 x82 x83 x84 x6 W) : G9 W1 Lg w lp xs zs R EC XC RC MC ao n cap (upd L 22) x60 x61 x62 x63 x64 x65 x66 x67 x68 x69 x70 x71 x72 x73 x74 x75 x76 x77 x78 x79 x80 x81 (.bool true) x83 x84 x6 W :=
  ⟨h.x, h.p0, h.p1, h.p2, h.p3, h.p4, h.p5, h.p6, h.p7, h.p8, h.p9, h.p10, h.p11, h.p12, h.p13, h.p14, h.p15, h.p16, h.p17, h.p18, h.p19, h.p20, h.p21, fun _ => rfl, h.p23, h.p24, h.p25, h.c4_3, h.c3_2, h.c13_12, h.c12_4⟩
theorem G9.s23 (h : G9 W1 Lg w lp xs zs R EC XC RC MC ao n cap L x60 x61 x62 x63 x64 x65 x66 x67 x68 x69 x70 x71 x72 x73 x74 x75 x76 x77 x78 x79 x80 x81 x82 x83 x84 x6 W) (hX : GW Lg w lp xs zs R ((upd L 23) 2) W2) : G9 W1 Lg w lp xs zs R EC XC RC MC ao n cap (upd L 23) x60 x61 x62 x63 x64 x65 x66 x67 x68 x69 x70 x71 x72 x73 x74 x75 x76 x77 x78 x79 x80 x81 x82 (.bool true) x84 x6 W2 :=
  ⟨hX, h.p0, h.p1, h.p2, h.p3, h.p4, h.p5, h.p6, h.p7, h.p8, h.p9, h.p10, h.p11, h.p12, h.p13, h.p14, fun k => (h.p15 k), h.p16, h.p17, h.p18, h.p19, h.p20, h.p21, h.p22, fun _ => rfl, h.p24, h.p25, h.c4_3, h.c3_2, h.c13_12, h.c12_4⟩
theorem G9.s24 (h : G9 W1 Lg w lp xs zs R EC XC RC MC ao n cap L x60 x61 x62 x63 x64 x65 x66 x67 x68 x69 x70 x71 x72 x73 x74 x75 x76 x77 x78 x79 x80 x81 x82 x83 x84 x6 W) : G9 W1 Lg w lp xs zs R EC XC RC MC ao n cap (upd L 24) x60 x61 x62 x63 x64 x65 x66 x67 x68 x69 x70 x71 x72 x73 x74 x75 x76 x77 x78 x79 x80 x81 x82 x83 (.bool true) x6 W :=
  ⟨h.x, h.p0, h.p1, h.p2, h.p3, h.p4, h.p5, h.p6, h.p7, h.p8, h.p9, h.p10, h.p11, h.p12, h.p13, h.p14, h.p15, h.p16, h.p17, h.p18, h.p19, h.p20, h.p21, h.p22, h.p23, fun _ => rfl, h.p25, h.c4_3, h.c3_2, h.c13_12, h.c12_4⟩
theorem G9.s25 (h : G9 W1 Lg w lp xs zs R EC XC RC MC ao n cap L x60 x61 x62 x63 x64 x65 x66 x67 x68 x69 x70 x71 x72 x73 x74 x75 x76 x77 x78 x79 x80 x81 x82 x83 x84 x6 W) : G9 W1 Lg w lp xs zs R EC XC RC MC ao n cap (upd L 25) x60 x61 x62 x63 x64 x65 x66 x67 x68 x69 x70 x71 x72 x73 x74 x75 x76 x77 x78 x79 x80 x81 x82 x83 x84 (.bool true) W :=
  ⟨h.x, h.p0, h.p1, h.p2, h.p3, h.p4, h.p5, h.p6, h.p7, h.p8, h.p9, h.p10, h.p11, h.p12, h.p13, h.p14, h.p15, h.p16, h.p17, h.p18, h.p19, h.p20, h.p21, h.p22, h.p23, h.p24, fun _ => rfl, h.c4_3, h.c3_2, h.c13_12, h.c12_4⟩
end
@[reducible] def IG9 (W1 : World) (Lg : (Nat → Prop) → World → Addr → List EvV → Prop) (w : World) (lp : Addr) (xs zs : List EvV) (R : List (Nat × Nat × List Value)) (EC XC RC MC : List Value) (ao : Option Addr) (n cap : Nat) (y0 y1 y2 y3 y4 y5 y7 y8 y9 y10 y11 y12 y13 y14 y15 y16 y17 y18 y19 y20 y21 y22 y23 y24 y25 y26 y27 y28 y29 y30 y31 y32 y33 y34 y35 y36 y37 y38 y39 y40 y41 y42 y43 y44 y45 y46 y47 y48 y49 y50 y51 y52 y53 y54 y55 y56 y57 y58 y59 : Value) : (Nat → Bool) → Act → World → Prop := fun L a W => ∃ x60 x61 x62 x63 x64 x65 x66 x67 x68 x69 x70 x71 x72 x73 x74 x75 x76 x77 x78 x79 x80 x81 x82 x83 x84 x6, a = ⟨#[y0, y1, y2, y3, y4, y5, x6, y7, y8, y9, y10, y11, y12, y13, y14, y15, y16, y17, y18, y19, y20, y21, y22, y23, y24, y25, y26, y27, y28, y29, y30, y31, y32, y33, y34, y35, y36, y37, y38, y39, y40, y41, y42, y43, y44, y45, y46, y47, y48, y49, y50, y51, y52, y53, y54, y55, y56, y57, y58, y59, x60, x61, x62, x63, x64, x65, x66, x67, x68, x69, x70, x71, x72, x73, x74, x75, x76, x77, x78, x79, x80, x81, x82, x83, x84], []⟩ ∧ G9 W1 Lg w lp xs zs R EC XC RC MC ao n cap L x60 x61 x62 x63 x64 x65 x66 x67 x68 x69 x70 x71 x72 x73 x74 x75 x76 x77 x78 x79 x80 x81 x82 x83 x84 x6 W
theorem G9.step {W1 : World} {Lg : (Nat → Prop) → World → Addr → List EvV → Prop} {w : World} {lp : Addr} {xs zs : List EvV} {R : List (Nat × Nat × List Value)} {EC XC RC MC : List Value} {ao : Option Addr} {n cap : Nat} {y0 y1 y2 y3 y4 y5 y7 y8 y9 y10 y11 y12 y13 y14 y15 y16 y17 y18 y19 y20 y21 y22 y23 y24 y25 y26 y27 y28 y29 y30 y31 y32 y33 y34 y35 y36 y37 y38 y39 y40 y41 y42 y43 y44 y45 y46 y47 y48 y49 y50 y51 y52 y53 y54 y55 y56 y57 y58 y59 : Value} {P : Program} {ops : Array Oper} {Q : Exit → Act → World → Prop} {i : Nat} {o : Oper} (hq : ∀ x60 x61 x62 x63 x64 x65 x66 x67 x68 x69 x70 x71 x72 x73 x74 x75 x76 x77 x78 x79 x80 x81 x82 x83 x84 x6 (L : Nat → Bool) (W : World), G9 W1 Lg w lp xs zs R EC XC RC MC ao n cap L x60 x61 x62 x63 x64 x65 x66 x67 x68 x69 x70 x71 x72 x73 x74 x75 x76 x77 x78 x79 x80 x81 x82 x83 x84 x6 W → L i = false → (∀ j ∈ onesOf o, L j = true) → ∀ K : Act → World → Prop, Shut (∀ a' w', IG9 W1 Lg w lp xs zs R EC XC RC MC ao n cap y0 y1 y2 y3 y4 y5 y7 y8 y9 y10 y11 y12 y13 y14 y15 y16 y17 y18 y19 y20 y21 y22 y23 y24 y25 y26 y27 y28 y29 y30 y31 y32 y33 y34 y35 y36 y37 y38 y39 y40 y41 y42 y43 y44 y45 y46 y47 y48 y49 y50 y51 y52 y53 y54 y55 y56 y57 y58 y59 (upd L i) a' w' → K a' w') → if Region.wanted o (yielded ops (⟨#[y0, y1, y2, y3, y4, y5, x6, y7, y8, y9, y10, y11, y12, y13, y14, y15, y16, y17, y18, y19, y20, y21, y22, y23, y24, y25, y26, y27, y28, y29, y30, y31, y32, y33, y34, y35, y36, y37, y38, y39, y40, y41, y42, y43, y44, y45, y46, y47, y48, y49, y50, y51, y52, y53, y54, y55, y56, y57, y58, y59, x60, x61, x62, x63, x64, x65, x66, x67, x68, x69, x70, x71, x72, x73, x74, x75, x76, x77, x78, x79, x80, x81, x82, x83, x84], []⟩ : Act).tmps) = true then Oper.wp P o ⟨#[y0, y1, y2, y3, y4, y5, x6, y7, y8, y9, y10, y11, y12, y13, y14, y15, y16, y17, y18, y19, y20, y21, y22, y23, y24, y25, y26, y27, y28, y29, y30, y31, y32, y33, y34, y35, y36, y37, y38, y39, y40, y41, y42, y43, y44, y45, y46, y47, y48, y49, y50, y51, y52, y53, y54, y55, y56, y57, y58, y59, x60, x61, x62, x63, x64, x65, x66, x67, x68, x69, x70, x71, x72, x73, x74, x75, x76, x77, x78, x79, x80, x81, x82, x83, x84], []⟩ W K Q else K ((⟨#[y0, y1, y2, y3, y4, y5, x6, y7, y8, y9, y10, y11, y12, y13, y14, y15, y16, y17, y18, y19, y20, y21, y22, y23, y24, y25, y26, y27, y28, y29, y30, y31, y32, y33, y34, y35, y36, y37, y38, y39, y40, y41, y42, y43, y44, y45, y46, y47, y48, y49, y50, y51, y52, y53, y54, y55, y56, y57, y58, y59, x60, x61, x62, x63, x64, x65, x66, x67, x68, x69, x70, x71, x72, x73, x74, x75, x76, x77, x78, x79, x80, x81, x82, x83, x84], []⟩ : Act).put o.dst undef) W) : StepI P ops (IG9 W1 Lg w lp xs zs R EC XC RC MC ao n cap y0 y1 y2 y3 y4 y5 y7 y8 y9 y10 y11 y12 y13 y14 y15 y16 y17 y18 y19 y20 y21 y22 y23 y24 y25 y26 y27 y28 y29 y30 y31 y32 y33 y34 y35 y36 y37 y38 y39 y40 y41 y42 y43 y44 y45 y46 y47 y48 y49 y50 y51 y52 y53 y54 y55 y56 y57 y58 y59) Q i o := by
  rintro L a W ⟨x60, x61, x62, x63, x64, x65, x66, x67, x68, x69, x70, x71, x72, x73, x74, x75, x76, x77, x78, x79, x80, x81, x82, x83, x84, x6, rfl, h⟩
  exact hq _ _ _ _ _ _ _ _ _ _ _ _ _ _ _ _ _ _ _ _ _ _ _ _ _ _ _ _ h
theorem G9.ends {W1 : World} {Lg : (Nat → Prop) → World → Addr → List EvV → Prop} {w : World} {lp : Addr} {xs zs : List EvV} {R : List (Nat × Nat × List Value)} {EC XC RC MC : List Value} {ao : Option Addr} {n cap : Nat} {y0 y1 y2 y3 y4 y5 y7 y8 y9 y10 y11 y12 y13 y14 y15 y16 y17 y18 y19 y20 y21 y22 y23 y24 y25 y26 y27 y28 y29 y30 y31 y32 y33 y34 y35 y36 y37 y38 y39 y40 y41 y42 y43 y44 y45 y46 y47 y48 y49 y50 y51 y52 y53 y54 y55 y56 y57 y58 y59 : Value} {mm_ : Nat} {Q : Exit → Act → World → Prop} (hq : ∀ x60 x61 x62 x63 x64 x65 x66 x67 x68 x69 x70 x71 x72 x73 x74 x75 x76 x77 x78 x79 x80 x81 x82 x83 x84 x6 (L : Nat → Bool) (W : World), (∀ j, j < mm_ → L j = true) → G9 W1 Lg w lp xs zs R EC XC RC MC ao n cap L x60 x61 x62 x63 x64 x65 x66 x67 x68 x69 x70 x71 x72 x73 x74 x75 x76 x77 x78 x79 x80 x81 x82 x83 x84 x6 W → Q .normal ⟨#[y0, y1, y2, y3, y4, y5, x6, y7, y8, y9, y10, y11, y12, y13, y14, y15, y16, y17, y18, y19, y20, y21, y22, y23, y24, y25, y26, y27, y28, y29, y30, y31, y32, y33, y34, y35, y36, y37, y38, y39, y40, y41, y42, y43, y44, y45, y46, y47, y48, y49, y50, y51, y52, y53, y54, y55, y56, y57, y58, y59, x60, x61, x62, x63, x64, x65, x66, x67, x68, x69, x70, x71, x72, x73, x74, x75, x76, x77, x78, x79, x80, x81, x82, x83, x84], []⟩ W) : ∀ L a' w', (∀ j, j < mm_ → L j = true) → IG9 W1 Lg w lp xs zs R EC XC RC MC ao n cap y0 y1 y2 y3 y4 y5 y7 y8 y9 y10 y11 y12 y13 y14 y15 y16 y17 y18 y19 y20 y21 y22 y23 y24 y25 y26 y27 y28 y29 y30 y31 y32 y33 y34 y35 y36 y37 y38 y39 y40 y41 y42 y43 y44 y45 y46 y47 y48 y49 y50 y51 y52 y53 y54 y55 y56 y57 y58 y59 L a' w' → Q .normal a' w' := by
  rintro L a W hall ⟨x60, x61, x62, x63, x64, x65, x66, x67, x68, x69, x70, x71, x72, x73, x74, x75, x76, x77, x78, x79, x80, x81, x82, x83, x84, x6, rfl, h⟩
  exact hq _ _ _ _ _ _ _ _ _ _ _ _ _ _ _ _ _ _ _ _ _ _ _ _ _ _ _ _ hall h
set_option maxHeartbeats 4000000 in
set_option maxRecDepth 1000000 in
theorem gst6 {Lg : (Nat → Prop) → World → Addr → List EvV → Prop} (C : Chn Lg) (w w7 : World) (lp : Addr) (g5 g9 : Nat) (ao : Option Addr) (n cap : Nat) (xs : List EvV) (hn : xs.length = n) (h1023 : n ≤ 1023) (x : EvV) (hx : EvOk x) (hF : FW Lg w lp xs [(g9, 32, (reg xs).map B8), (g5, 35, evC x)] w7) (c1 c2 c3 c4 c6 c8 c10 c11 c12 c13 c14 c15 c16 c17 c18 c19 c20 c21 c22 c23 c24 c25 c26 c27 c28 c29 c30 c31 c32 c33 c34 c35 c36 c37 c38 c39 c40 c41 c42 c43 c44 c45 c46 c47 c48 c49 c50 c51 c52 c53 c54 c55 c56 c57 c58 c59 c60 c61 c62 c63 c64 c65 c66 c67 c68 c69 c70 c71 c72 c73 c74 c75 c76 c77 c78 c79 c80 c81 c82 c83 c84 : Value) :
    Code.wp Try.prog (dropS 6 (Try.f7.body.getD .skip)) (bodyPost Try.prog Try.f7 (KP w)) ⟨#[.slice ao n cap, c1, c2, c3, c4, .pointer (some ⟨g5, 0, none⟩), c6, .pointer (some lp), c8, .pointer (some ⟨g9, 0, none⟩), c10, c11, c12, c13, c14, c15, c16, c17, c18, c19, c20, c21, c22, c23, c24, c25, c26, c27, c28, c29, c30, c31, c32, c33, c34, c35, c36, c37, c38, c39, c40, c41, c42, c43, c44, c45, c46, c47, c48, c49, c50, c51, c52, c53, c54, c55, c56, c57, c58, c59, c60, c61, c62, c63, c64, c65, c66, c67, c68, c69, c70, c71, c72, c73, c74, c75, c76, c77, c78, c79, c80, c81, c82, c83, c84], []⟩ w7 := by
  have HC : Hid (Chn Lg) := C
  obtain ⟨zs, hzs⟩ : ∃ zs, zs = xs ++ [x] := ⟨_, rfl⟩
  have hzr : reg zs = extend (reg xs) (measure x) := by rw [hzs]; exact reg_push xs x
  have ADD : Hid (∀ S W, Lg S W lp xs → Calls Try.prog 25 #[.pointer (some lp), .agg (evC x).toArray] W fun e w' => ∃ S', e = .returned (.int .i64 0) ∧ Lg S' w' lp zs ∧ (∀ j, S' j → S j ∨ W.heap.size ≤ j) ∧ But S W w') := fun S W hl => by
    have := C.add x hx hl
    rw [if_pos (by omega)] at this
    have e : addE xs x = zs := by unfold addE; rw [if_pos (by omega), hzs]
    rw [e] at this; exact this
  have REG : Hid (∀ S W, Lg S W lp zs → Calls Try.prog 11 #[.pointer (some lp)] W fun e w' => ∃ S', e = .returned (.agg ((reg zs).map B8).toArray) ∧ Lg S' w' lp zs ∧ (∀ j, S' j → S j ∨ W.heap.size ≤ j) ∧ But S W w') := fun S W hl => C.register hl
  have EVS : Hid (∀ S W, Lg S W lp zs → Calls Try.prog 14 #[.pointer (some lp)] W fun e w' => ∃ S' eo ec, e = .returned (.slice eo (n + 1) ec) ∧ Lg S' w' lp zs ∧ (∀ j, S' j → S j ∨ W.heap.size ≤ j) ∧ But S W w') := fun S W hl => by
    refine (C.events hl).mono fun e w' ⟨S', eo, ec, h1, _, h3, h4, _, h6⟩ => ⟨S', eo, ec, ?_, h3, h4, h6⟩
    have e2 : zs.length = n + 1 := by rw [hzs, List.length_append, hn]; rfl
    rw [h1, e2]
  have CM : Hid (∀ W, Calls Try.prog 19 #[.agg (evC x).toArray] W fun e w' => e = .returned (.agg ((measure x).map B8).toArray) ∧ Below W.heap.size W w') := fun W => C.measure x hx W
  have CE : Hid (∀ W, Calls Try.prog 17 #[.agg ((reg xs).map B8).toArray, .agg ((measure x).map B8).toArray] W fun e w' => e = .returned (.agg ((reg zs).map B8).toArray) ∧ Below W.heap.size W w') := fun W => by
    rw [hzr]; exact C.extend (reg xs) (measure x) (reg_len _) (shaLen _) W
  have FX : Hid (∀ W, Calls Try.prog 8 #[] W fun e w' => e = .returned (.bool true) ∧ Below W.heap.size W w') := fun W => fixed_any C W
  have qx := eq_any (reg zs) (reg zs) (reg_len _) (reg_len _) true (decide_eq_true rfl).symm
  have lM9 : ((reg xs).map B8).length = 32 := by rw [List.length_map]; exact reg_len _
  have lM5 := evC_len hx
  have z1 : IntKind.i64.wrap ((n : Int) + 1) = ((n + 1 : Nat) : Int) := by rw [i64_in _ (by omega) (by omega)]; omega
  clear C hn hx hzs hzr h1023
  generalize hRC : (reg xs).map B8 = RC at *
  generalize hXC : (reg zs).map B8 = XC at *
  generalize hMC : (measure x).map B8 = MC at *
  generalize hEC : evC x = EC at *
  clear hRC hXC hMC hEC
  obtain ⟨R, hR⟩ : ∃ R, R = [(g9, 32, RC), (g5, 35, EC)] := ⟨_, rfl⟩
  rw [← hR] at hF
  have M9 : Hid ((g9, 32, RC) ∈ R) := by show _ ∈ _; rw [hR]; exact List.mem_cons_self ..
  have M5 : Hid ((g5, 35, EC) ∈ R) := by show _ ∈ _; rw [hR]; exact List.mem_cons_of_mem _ (List.mem_cons_self ..)
  have HZ : Hid (GW Lg w lp xs zs R false w7.drew) := GW.of_no (FW.below HC.out hF (Below.refl _ _).drew)
  clear hR hF
  conv => arg 2; whnf
  go_wp2_with fail
  refine wp_region_inv (IG9 w7 Lg w lp xs zs R EC XC RC MC ao n cap _ _ _ _ _ _ _ _ _ _ _ _ _ _ _ _ _ _ _ _ _ _ _ _ _ _ _ _ _ _ _ _ _ _ _ _ _ _ _ _ _ _ _ _ _ _ _ _ _ _ _ _ _ _ _ _ _ _ _) (by kernel_rfl) (by kernel_rfl) ⟨_, _, _, _, _, _, _, _, _, _, _, _, _, _, _, _, _, _, _, _, _, _, _, _, _, _, rfl, ⟨HZ.out, fun k => (by cases k), fun k => (by cases k), fun k => (by cases k), fun k => (by cases k), fun k => (by cases k), fun k => (by cases k), fun k => (by cases k), fun k => (by cases k), fun k => (by cases k), fun k => (by cases k), fun k => (by cases k), fun k => (by cases k), fun k => (by cases k), fun k => (by cases k), fun k => (by cases k), fun k => (by cases k), fun k => (by cases k), fun k => (by cases k), fun k => (by cases k), fun k => (by cases k), fun k => (by cases k), fun k => (by cases k), fun k => (by cases k), fun k => (by cases k), fun k => (by cases k), fun k => (by cases k), fun k => (by cases k), fun k => (by cases k), fun k => (by cases k), fun k => (by cases k)⟩⟩ ?_ ?_
  · refine .cons ?_ (.cons ?_ (.cons ?_ (.cons ?_ (.cons ?_ (.cons ?_ (.cons ?_ (.cons ?_ (.cons ?_ (.cons ?_ (.cons ?_ (.cons ?_ (.cons ?_ (.cons ?_ (.cons ?_ (.cons ?_ (.cons ?_ (.cons ?_ (.cons ?_ (.cons ?_ (.cons ?_ (.cons ?_ (.cons ?_ (.cons ?_ (.cons ?_ (.cons ?_ .nil)))))))))))))))))))))))))
    all_goals (refine G9.step ?_; intro x60 x61 x62 x63 x64 x65 x66 x67 x68 x69 x70 x71 x72 x73 x74 x75 x76 x77 x78 x79 x80 x81 x82 x83 x84 x6 L W hI hL hd K hK)
    · rw [if_pos (by rfl)]
      go_simp
      exact hK.out _ _ ⟨_, _, _, _, _, _, _, _, _, _, _, _, _, _, _, _, _, _, _, _, _, _, _, _, _, _, rfl, hI.s0⟩
    · refine step_load_rng rfl 35 _ rfl g5 0 EC (GW.row hI.x M5.out).rng0 rfl _ Try.underlying35 rfl (by rw [lM5]; kernel_rfl) ?_
      exact hK.out _ _ ⟨_, _, _, _, _, _, _, _, _, _, _, _, _, _, _, _, _, _, _, _, _, _, _, _, _, _, rfl, hI.s1⟩
    · have hx0 := hI.p0 (hd 0 (by decide))
      subst hx0
      have hx1 := hI.p1 (hd 1 (by decide))
      subst hx1
      rw [if_pos (by rfl)]
      go_simp
      obtain ⟨S, hl, hk⟩ := (GW.no hI.x hL).out
      refine (ADD.out _ _ hl).mono ?_
      rintro e W2 ⟨S2, rfl, hl2, hs2, hb2⟩
      go_simp
      have hX : GW Lg w lp xs zs R true W2 := GW.of_yes (hk S2 W2 _ hl2 hs2 hb2)
      have hb3 := hb2
      exact hK.out _ _ ⟨_, _, _, _, _, _, _, _, _, _, _, _, _, _, _, _, _, _, _, _, _, _, _, _, _, _, rfl, hI.s2 hX⟩
    · have hx2 := hI.p2 (hd 2 (by decide))
      subst hx2
      rw [if_pos (by rfl)]
      go_simp
      exact hK.out _ _ ⟨_, _, _, _, _, _, _, _, _, _, _, _, _, _, _, _, _, _, _, _, _, _, _, _, _, _, rfl, hI.s3 (hd 2 (by decide))⟩
    · have hx3 := hI.p3 (hd 3 (by decide))
      subst hx3
      rw [if_pos (by rfl)]
      go_simp
      exact hK.out _ _ ⟨_, _, _, _, _, _, _, _, _, _, _, _, _, _, _, _, _, _, _, _, _, _, _, _, _, _, rfl, hI.s4 (hd 3 (by decide))⟩
    · have hx4 := hI.p4 (hd 4 (by decide))
      subst hx4
      rw [if_pos (by rfl)]
      go_simp
      exact hK.out _ _ ⟨_, _, _, _, _, _, _, _, _, _, _, _, _, _, _, _, _, _, _, _, _, _, _, _, _, _, rfl, hI.s5⟩
    · have hx5 := hI.p5 (hd 5 (by decide))
      subst hx5
      have hx4 := hI.p4 (hd 4 (by decide))
      subst hx4
      have hL2 := (hI.c3_2 (hI.c4_3 (hd 4 (by decide))))
      rw [if_pos (by rfl)]
      go_simp
      obtain ⟨S, hl, hk⟩ := (GW.yes hI.x hL2).out
      refine (REG.out _ _ hl).mono ?_
      rintro e W2 ⟨S2, rfl, hl2, hs2, hb2⟩
      go_simp
      have hX := GW.put (xs := xs) hL2 (hk S2 W2 _ hl2 hs2 hb2)
      have hb3 := hb2
      exact hK.out _ _ ⟨_, _, _, _, _, _, _, _, _, _, _, _, _, _, _, _, _, _, _, _, _, _, _, _, _, _, rfl, hI.s6 hX⟩
    · have hx4 := hI.p4 (hd 4 (by decide))
      subst hx4
      refine step_load_rng rfl 32 _ rfl g9 0 RC (GW.row hI.x M9.out).rng0 rfl _ Try.underlying32 rfl (by rw [lM9]; kernel_rfl) ?_
      exact hK.out _ _ ⟨_, _, _, _, _, _, _, _, _, _, _, _, _, _, _, _, _, _, _, _, _, _, _, _, _, _, rfl, hI.s7⟩
    · have hx4 := hI.p4 (hd 4 (by decide))
      subst hx4
      refine step_load_rng rfl 35 _ rfl g5 0 EC (GW.row hI.x M5.out).rng0 rfl _ Try.underlying35 rfl (by rw [lM5]; kernel_rfl) ?_
      exact hK.out _ _ ⟨_, _, _, _, _, _, _, _, _, _, _, _, _, _, _, _, _, _, _, _, _, _, _, _, _, _, rfl, hI.s8⟩
    · have hx8 := hI.p8 (hd 8 (by decide))
      subst hx8
      have hx4 := hI.p4 (hd 4 (by decide))
      subst hx4
      rw [if_pos (by rfl)]
      go_simp
      refine (CM.out _).mono ?_
      rintro e W2 ⟨rfl, hb3⟩
      go_simp
      have hX := GW.below HC.out hI.x hb3
      exact hK.out _ _ ⟨_, _, _, _, _, _, _, _, _, _, _, _, _, _, _, _, _, _, _, _, _, _, _, _, _, _, rfl, hI.s9 hX⟩
    · have hx7 := hI.p7 (hd 7 (by decide))
      subst hx7
      have hx9 := hI.p9 (hd 9 (by decide))
      subst hx9
      have hx4 := hI.p4 (hd 4 (by decide))
      subst hx4
      rw [if_pos (by rfl)]
      go_simp
      refine (CE.out _).mono ?_
      rintro e W2 ⟨rfl, hb3⟩
      go_simp
      have hX := GW.below HC.out hI.x hb3
      exact hK.out _ _ ⟨_, _, _, _, _, _, _, _, _, _, _, _, _, _, _, _, _, _, _, _, _, _, _, _, _, _, rfl, hI.s10 hX⟩
    · have hx6 := hI.p6 (hd 6 (by decide))
      subst hx6
      have hx10 := hI.p10 (hd 10 (by decide))
      subst hx10
      have hx4 := hI.p4 (hd 4 (by decide))
      subst hx4
      rw [if_pos (by rfl)]
      go_simp
      exact hK.out _ _ ⟨_, _, _, _, _, _, _, _, _, _, _, _, _, _, _, _, _, _, _, _, _, _, _, _, _, _, rfl, hI.s11⟩
    · have hx4 := hI.p4 (hd 4 (by decide))
      subst hx4
      have hx11 := hI.p11 (hd 11 (by decide))
      subst hx11
      rw [if_pos (by rfl)]
      go_simp
      exact hK.out _ _ ⟨_, _, _, _, _, _, _, _, _, _, _, _, _, _, _, _, _, _, _, _, _, _, _, _, _, _, rfl, hI.s12 (hd 4 (by decide))⟩
    · have hx12 := hI.p12 (hd 12 (by decide))
      subst hx12
      rw [if_pos (by rfl)]
      go_simp
      exact hK.out _ _ ⟨_, _, _, _, _, _, _, _, _, _, _, _, _, _, _, _, _, _, _, _, _, _, _, _, _, _, rfl, hI.s13 (hd 12 (by decide))⟩
    · have hx13 := hI.p13 (hd 13 (by decide))
      subst hx13
      rw [if_pos (by rfl)]
      go_simp
      exact hK.out _ _ ⟨_, _, _, _, _, _, _, _, _, _, _, _, _, _, _, _, _, _, _, _, _, _, _, _, _, _, rfl, hI.s14⟩
    · have hx14 := hI.p14 (hd 14 (by decide))
      subst hx14
      have hx13 := hI.p13 (hd 13 (by decide))
      subst hx13
      have hL2 := (hI.c3_2 (hI.c4_3 (hI.c12_4 (hI.c13_12 (hd 13 (by decide))))))
      rw [if_pos (by rfl)]
      go_simp
      obtain ⟨S, hl, hk⟩ := (GW.yes hI.x hL2).out
      refine (EVS.out _ _ hl).mono ?_
      rintro e W2 ⟨S2, eo, ec, rfl, hl2, hs2, hb2⟩
      go_simp
      have hX := GW.put (xs := xs) hL2 (hk S2 W2 _ hl2 hs2 hb2)
      have hb3 := hb2
      have ho3 : ∃ eo1 ec1, Value.slice eo (n + 1) ec = .slice eo1 (n + 1) ec1 := ⟨_, _, rfl⟩
      exact hK.out _ _ ⟨_, _, _, _, _, _, _, _, _, _, _, _, _, _, _, _, _, _, _, _, _, _, _, _, _, _, rfl, hI.s15 hX ho3⟩
    · have hp15 := hI.p15 (hd 15 (by decide))
      have hx13 := hI.p13 (hd 13 (by decide))
      subst hx13
      rw [if_pos (by rfl)]
      obtain ⟨eo, ec, e75⟩ := hp15
      subst e75
      go_simp
      exact hK.out _ _ ⟨_, _, _, _, _, _, _, _, _, _, _, _, _, _, _, _, _, _, _, _, _, _, _, _, _, _, rfl, hI.s16⟩
    · have hx13 := hI.p13 (hd 13 (by decide))
      subst hx13
      rw [if_pos (by rfl)]
      go_simp
      exact hK.out _ _ ⟨_, _, _, _, _, _, _, _, _, _, _, _, _, _, _, _, _, _, _, _, _, _, _, _, _, _, rfl, hI.s17⟩
    · have hx17 := hI.p17 (hd 17 (by decide))
      subst hx17
      have hx13 := hI.p13 (hd 13 (by decide))
      subst hx13
      rw [if_pos (by rfl)]
      go_simp
      exact hK.out _ _ ⟨_, _, _, _, _, _, _, _, _, _, _, _, _, _, _, _, _, _, _, _, _, _, _, _, _, _, rfl, hI.s18⟩
    · have hx18 := hI.p18 (hd 18 (by decide))
      subst hx18
      have hx13 := hI.p13 (hd 13 (by decide))
      subst hx13
      rw [if_pos (by rfl)]
      go_simp
      exact hK.out _ _ ⟨_, _, _, _, _, _, _, _, _, _, _, _, _, _, _, _, _, _, _, _, _, _, _, _, _, _, rfl, hI.s19⟩
    · have hx16 := hI.p16 (hd 16 (by decide))
      subst hx16
      have hx19 := hI.p19 (hd 19 (by decide))
      subst hx19
      have hx13 := hI.p13 (hd 13 (by decide))
      subst hx13
      rw [if_pos (by rfl)]
      go_simp
      exact hK.out _ _ ⟨_, _, _, _, _, _, _, _, _, _, _, _, _, _, _, _, _, _, _, _, _, _, _, _, _, _, rfl, hI.s20⟩
    · have hx13 := hI.p13 (hd 13 (by decide))
      subst hx13
      have hx20 := hI.p20 (hd 20 (by decide))
      subst hx20
      rw [if_pos (by rfl)]
      go_simp
      exact hK.out _ _ ⟨_, _, _, _, _, _, _, _, _, _, _, _, _, _, _, _, _, _, _, _, _, _, _, _, _, _, rfl, hI.s21⟩
    · have hx21 := hI.p21 (hd 21 (by decide))
      subst hx21
      rw [if_pos (by rfl)]
      go_simp
      exact hK.out _ _ ⟨_, _, _, _, _, _, _, _, _, _, _, _, _, _, _, _, _, _, _, _, _, _, _, _, _, _, rfl, hI.s22⟩
    · have hx22 := hI.p22 (hd 22 (by decide))
      subst hx22
      rw [if_pos (by rfl)]
      go_simp
      refine (FX.out _).mono ?_
      rintro e W2 ⟨rfl, hb3⟩
      go_simp
      have hX := GW.below HC.out hI.x hb3
      exact hK.out _ _ ⟨_, _, _, _, _, _, _, _, _, _, _, _, _, _, _, _, _, _, _, _, _, _, _, _, _, _, rfl, hI.s23 hX⟩
    · have hx22 := hI.p22 (hd 22 (by decide))
      subst hx22
      have hx23 := hI.p23 (hd 23 (by decide))
      subst hx23
      rw [if_pos (by rfl)]
      go_simp
      exact hK.out _ _ ⟨_, _, _, _, _, _, _, _, _, _, _, _, _, _, _, _, _, _, _, _, _, _, _, _, _, _, rfl, hI.s24⟩
    · have hx24 := hI.p24 (hd 24 (by decide))
      subst hx24
      rw [if_pos (by rfl)]
      go_simp
      exact hK.out _ _ ⟨_, _, _, _, _, _, _, _, _, _, _, _, _, _, _, _, _, _, _, _, _, _, _, _, _, _, rfl, hI.s25⟩
  · refine G9.ends ?_; intro x60 x61 x62 x63 x64 x65 x66 x67 x68 x69 x70 x71 x72 x73 x74 x75 x76 x77 x78 x79 x80 x81 x82 x83 x84 x6 L W hall hI
    have hx0 := hI.p0 (hall 0 (by decide))
    subst hx0
    have hx1 := hI.p1 (hall 1 (by decide))
    subst hx1
    have hx2 := hI.p2 (hall 2 (by decide))
    subst hx2
    have hx3 := hI.p3 (hall 3 (by decide))
    subst hx3
    have hx4 := hI.p4 (hall 4 (by decide))
    subst hx4
    have hx5 := hI.p5 (hall 5 (by decide))
    subst hx5
    have hx6 := hI.p6 (hall 6 (by decide))
    subst hx6
    have hx7 := hI.p7 (hall 7 (by decide))
    subst hx7
    have hx8 := hI.p8 (hall 8 (by decide))
    subst hx8
    have hx9 := hI.p9 (hall 9 (by decide))
    subst hx9
    have hx10 := hI.p10 (hall 10 (by decide))
    subst hx10
    have hx11 := hI.p11 (hall 11 (by decide))
    subst hx11
    have hx12 := hI.p12 (hall 12 (by decide))
    subst hx12
    have hx13 := hI.p13 (hall 13 (by decide))
    subst hx13
    have hx14 := hI.p14 (hall 14 (by decide))
    subst hx14
    have hp15 := hI.p15 (hall 15 (by decide))
    have hx16 := hI.p16 (hall 16 (by decide))
    subst hx16
    have hx17 := hI.p17 (hall 17 (by decide))
    subst hx17
    have hx18 := hI.p18 (hall 18 (by decide))
    subst hx18
    have hx19 := hI.p19 (hall 19 (by decide))
    subst hx19
    have hx20 := hI.p20 (hall 20 (by decide))
    subst hx20
    have hx21 := hI.p21 (hall 21 (by decide))
    subst hx21
    have hx22 := hI.p22 (hall 22 (by decide))
    subst hx22
    have hx23 := hI.p23 (hall 23 (by decide))
    subst hx23
    have hx24 := hI.p24 (hall 24 (by decide))
    subst hx24
    have hx25 := hI.p25 (hall 25 (by decide))
    subst hx25
    have hXe := hI.x
    rw [hall 2 (by decide)] at hXe
    clear hI hall
    try dsimp only
    go_wp2
    go_ret
    exact ⟨rfl, (GW.yes hXe rfl).bel⟩

theorem FW.weaken {Lg : (Nat → Prop) → World → Addr → List EvV → Prop} {w : World} {a : Addr} {xs : List EvV} {R R' : List (Nat × Nat × List Value)} {W : World} (h : FW Lg w a xs R W) (hs : ∀ t ∈ R', t ∈ R) : FW Lg w a xs R' W := by
  obtain ⟨S, h1, h2, h3, h4⟩ := h
  exact ⟨S, h1, h2, h3, fun t ht => h4 t (hs t ht)⟩

structure GA (W1 : World) (g9 g10 : Nat) (RC SC : List Value) (ao : Option Addr) (n cap : Nat) (bo : Option Addr) (m bc : Nat) (rq : Bool) (L : Nat → Bool) (x34 x35 x36 x37 x38 x39 x40 x41 x42 x43 x44 x45 x46 x47 x48 x49 x50 x51 x52 x53 x54 x55 x56 x57 x58 x59 : Value) (W : World) : Prop where
  x : Below W1.heap.size W1 W
  p0 : L 0 = true → x34 = .agg RC.toArray
  p1 : L 1 = true → x35 = .agg SC.toArray
  p2 : L 2 = true → x36 = .bool rq
  p3 : L 3 = true → x37 = .slice ao n cap
  p4 : L 4 = true → x38 = .slice bo m bc
  p5 : L 5 = true → x39 = .bool rq
  p6 : L 6 = true → x40 = .bool false
  p7 : L 7 = true → x41 = .bool false
  p11 : L 11 = true → x45 = undef
  p15 : L 15 = true → x49 = undef
  p19 : L 19 = true → x53 = undef
  p25 : L 25 = true → x59 = .bool false
section
variable {W1 : World} {g9 g10 : Nat} {RC SC : List Value} {ao : Option Addr} {n cap : Nat} {bo : Option Addr} {m bc : Nat} {rq : Bool} {L : Nat → Bool} {x34 x35 x36 x37 x38 x39 x40 x41 x42 x43 x44 x45 x46 x47 x48 x49 x50 x51 x52 x53 x54 x55 x56 x57 x58 x59 : Value} {W W2 : World}
theorem GA.s0 (h : GA W1 g9 g10 RC SC ao n cap bo m bc rq L x34 x35 x36 x37 x38 x39 x40 x41 x42 x43 x44 x45 x46 x47 x48 x49 x50 x51 x52 x53 x54 x55 x56 x57 x58 x59 W) : GA W1 g9 g10 RC SC ao n cap bo m bc rq (upd L 0) (.agg RC.toArray) x35 x36 x37 x38 x39 x40 x41 x42 x43 x44 x45 x46 x47 x48 x49 x50 x51 x52 x53 x54 x55 x56 x57 x58 x59 W :=
  ⟨h.x, fun _ => rfl, h.p1, h.p2, h.p3, h.p4, h.p5, h.p6, h.p7, h.p11, h.p15, h.p19, h.p25⟩
theorem GA.s1 (h : GA W1 g9 g10 RC SC ao n cap bo m bc rq L x34 x35 x36 x37 x38 x39 x40 x41 x42 x43 x44 x45 x46 x47 x48 x49 x50 x51 x52 x53 x54 x55 x56 x57 x58 x59 W) : GA W1 g9 g10 RC SC ao n cap bo m bc rq (upd L 1) x34 (.agg SC.toArray) x36 x37 x38 x39 x40 x41 x42 x43 x44 x45 x46 x47 x48 x49 x50 x51 x52 x53 x54 x55 x56 x57 x58 x59 W :=
  ⟨h.x, h.p0, fun _ => rfl, h.p2, h.p3, h.p4, h.p5, h.p6, h.p7, h.p11, h.p15, h.p19, h.p25⟩
theorem GA.s2 (h : GA W1 g9 g10 RC SC ao n cap bo m bc rq L x34 x35 x36 x37 x38 x39 x40 x41 x42 x43 x44 x45 x46 x47 x48 x49 x50 x51 x52 x53 x54 x55 x56 x57 x58 x59 W) : GA W1 g9 g10 RC SC ao n cap bo m bc rq (upd L 2) x34 x35 (.bool rq) x37 x38 x39 x40 x41 x42 x43 x44 x45 x46 x47 x48 x49 x50 x51 x52 x53 x54 x55 x56 x57 x58 x59 W :=
  ⟨h.x, h.p0, h.p1, fun _ => rfl, h.p3, h.p4, h.p5, h.p6, h.p7, h.p11, h.p15, h.p19, h.p25⟩
theorem GA.s3 (h : GA W1 g9 g10 RC SC ao n cap bo m bc rq L x34 x35 x36 x37 x38 x39 x40 x41 x42 x43 x44 x45 x46 x47 x48 x49 x50 x51 x52 x53 x54 x55 x56 x57 x58 x59 W) : GA W1 g9 g10 RC SC ao n cap bo m bc rq (upd L 3) x34 x35 x36 (.slice ao n cap) x38 x39 x40 x41 x42 x43 x44 x45 x46 x47 x48 x49 x50 x51 x52 x53 x54 x55 x56 x57 x58 x59 W :=
  ⟨h.x, h.p0, h.p1, h.p2, fun _ => rfl, h.p4, h.p5, h.p6, h.p7, h.p11, h.p15, h.p19, h.p25⟩
theorem GA.s4 (h : GA W1 g9 g10 RC SC ao n cap bo m bc rq L x34 x35 x36 x37 x38 x39 x40 x41 x42 x43 x44 x45 x46 x47 x48 x49 x50 x51 x52 x53 x54 x55 x56 x57 x58 x59 W) : GA W1 g9 g10 RC SC ao n cap bo m bc rq (upd L 4) x34 x35 x36 x37 (.slice bo m bc) x39 x40 x41 x42 x43 x44 x45 x46 x47 x48 x49 x50 x51 x52 x53 x54 x55 x56 x57 x58 x59 W :=
  ⟨h.x, h.p0, h.p1, h.p2, h.p3, fun _ => rfl, h.p5, h.p6, h.p7, h.p11, h.p15, h.p19, h.p25⟩
theorem GA.s5 (h : GA W1 g9 g10 RC SC ao n cap bo m bc rq L x34 x35 x36 x37 x38 x39 x40 x41 x42 x43 x44 x45 x46 x47 x48 x49 x50 x51 x52 x53 x54 x55 x56 x57 x58 x59 W) (hX : Below W1.heap.size W1 W2) : GA W1 g9 g10 RC SC ao n cap bo m bc rq (upd L 5) x34 x35 x36 x37 x38 (.bool rq) x40 x41 x42 x43 x44 x45 x46 x47 x48 x49 x50 x51 x52 x53 x54 x55 x56 x57 x58 x59 W2 :=
  ⟨hX, h.p0, h.p1, h.p2, h.p3, h.p4, fun _ => rfl, h.p6, h.p7, h.p11, h.p15, h.p19, h.p25⟩
theorem GA.s6 (h : GA W1 g9 g10 RC SC ao n cap bo m bc rq L x34 x35 x36 x37 x38 x39 x40 x41 x42 x43 x44 x45 x46 x47 x48 x49 x50 x51 x52 x53 x54 x55 x56 x57 x58 x59 W) : GA W1 g9 g10 RC SC ao n cap bo m bc rq (upd L 6) x34 x35 x36 x37 x38 x39 (.bool false) x41 x42 x43 x44 x45 x46 x47 x48 x49 x50 x51 x52 x53 x54 x55 x56 x57 x58 x59 W :=
  ⟨h.x, h.p0, h.p1, h.p2, h.p3, h.p4, h.p5, fun _ => rfl, h.p7, h.p11, h.p15, h.p19, h.p25⟩
theorem GA.s7 (h : GA W1 g9 g10 RC SC ao n cap bo m bc rq L x34 x35 x36 x37 x38 x39 x40 x41 x42 x43 x44 x45 x46 x47 x48 x49 x50 x51 x52 x53 x54 x55 x56 x57 x58 x59 W) : GA W1 g9 g10 RC SC ao n cap bo m bc rq (upd L 7) x34 x35 x36 x37 x38 x39 x40 (.bool false) x42 x43 x44 x45 x46 x47 x48 x49 x50 x51 x52 x53 x54 x55 x56 x57 x58 x59 W :=
  ⟨h.x, h.p0, h.p1, h.p2, h.p3, h.p4, h.p5, h.p6, fun _ => rfl, h.p11, h.p15, h.p19, h.p25⟩
theorem GA.s8 (h : GA W1 g9 g10 RC SC ao n cap bo m bc rq L x34 x35 x36 x37 x38 x39 x40 x41 x42 x43 x44 x45 x46 x47 x48 x49 x50 x51 x52 x53 x54 x55 x56 x57 x58 x59 W) : GA W1 g9 g10 RC SC ao n cap bo m bc rq (upd L 8) x34 x35 x36 x37 x38 x39 x40 x41 undef x43 x44 x45 x46 x47 x48 x49 x50 x51 x52 x53 x54 x55 x56 x57 x58 x59 W :=
  ⟨h.x, h.p0, h.p1, h.p2, h.p3, h.p4, h.p5, h.p6, h.p7, h.p11, h.p15, h.p19, h.p25⟩
theorem GA.s9 (h : GA W1 g9 g10 RC SC ao n cap bo m bc rq L x34 x35 x36 x37 x38 x39 x40 x41 x42 x43 x44 x45 x46 x47 x48 x49 x50 x51 x52 x53 x54 x55 x56 x57 x58 x59 W) : GA W1 g9 g10 RC SC ao n cap bo m bc rq (upd L 9) x34 x35 x36 x37 x38 x39 x40 x41 x42 undef x44 x45 x46 x47 x48 x49 x50 x51 x52 x53 x54 x55 x56 x57 x58 x59 W :=
  ⟨h.x, h.p0, h.p1, h.p2, h.p3, h.p4, h.p5, h.p6, h.p7, h.p11, h.p15, h.p19, h.p25⟩
theorem GA.s10 (h : GA W1 g9 g10 RC SC ao n cap bo m bc rq L x34 x35 x36 x37 x38 x39 x40 x41 x42 x43 x44 x45 x46 x47 x48 x49 x50 x51 x52 x53 x54 x55 x56 x57 x58 x59 W) : GA W1 g9 g10 RC SC ao n cap bo m bc rq (upd L 10) x34 x35 x36 x37 x38 x39 x40 x41 x42 x43 undef x45 x46 x47 x48 x49 x50 x51 x52 x53 x54 x55 x56 x57 x58 x59 W :=
  ⟨h.x, h.p0, h.p1, h.p2, h.p3, h.p4, h.p5, h.p6, h.p7, h.p11, h.p15, h.p19, h.p25⟩
theorem GA.s11 (h : GA W1 g9 g10 RC SC ao n cap bo m bc rq L x34 x35 x36 x37 x38 x39 x40 x41 x42 x43 x44 x45 x46 x47 x48 x49 x50 x51 x52 x53 x54 x55 x56 x57 x58 x59 W) : GA W1 g9 g10 RC SC ao n cap bo m bc rq (upd L 11) x34 x35 x36 x37 x38 x39 x40 x41 x42 x43 x44 undef x46 x47 x48 x49 x50 x51 x52 x53 x54 x55 x56 x57 x58 x59 W :=
  ⟨h.x, h.p0, h.p1, h.p2, h.p3, h.p4, h.p5, h.p6, h.p7, fun _ => rfl, h.p15, h.p19, h.p25⟩
theorem GA.s12 (h : GA W1 g9 g10 RC SC ao n cap bo m bc rq L x34 x35 x36 x37 x38 x39 x40 x41 x42 x43 x44 x45 x46 x47 x48 x49 x50 x51 x52 x53 x54 x55 x56 x57 x58 x59 W) : GA W1 g9 g10 RC SC ao n cap bo m bc rq (upd L 12) x34 x35 x36 x37 x38 x39 x40 x41 x42 x43 x44 x45 undef x47 x48 x49 x50 x51 x52 x53 x54 x55 x56 x57 x58 x59 W :=
  ⟨h.x, h.p0, h.p1, h.p2, h.p3, h.p4, h.p5, h.p6, h.p7, h.p11, h.p15, h.p19, h.p25⟩
theorem GA.s13 (h : GA W1 g9 g10 RC SC ao n cap bo m bc rq L x34 x35 x36 x37 x38 x39 x40 x41 x42 x43 x44 x45 x46 x47 x48 x49 x50 x51 x52 x53 x54 x55 x56 x57 x58 x59 W) : GA W1 g9 g10 RC SC ao n cap bo m bc rq (upd L 13) x34 x35 x36 x37 x38 x39 x40 x41 x42 x43 x44 x45 x46 undef x48 x49 x50 x51 x52 x53 x54 x55 x56 x57 x58 x59 W :=
  ⟨h.x, h.p0, h.p1, h.p2, h.p3, h.p4, h.p5, h.p6, h.p7, h.p11, h.p15, h.p19, h.p25⟩
theorem GA.s14 (h : GA W1 g9 g10 RC SC ao n cap bo m bc rq L x34 x35 x36 x37 x38 x39 x40 x41 x42 x43 x44 x45 x46 x47 x48 x49 x50 x51 x52 x53 x54 x55 x56 x57 x58 x59 W) : GA W1 g9 g10 RC SC ao n cap bo m bc rq (upd L 14) x34 x35 x36 x37 x38 x39 x40 x41 x42 x43 x44 x45 x46 x47 undef x49 x50 x51 x52 x53 x54 x55 x56 x57 x58 x59 W :=
  ⟨h.x, h.p0, h.p1, h.p2, h.p3, h.p4, h.p5, h.p6, h.p7, h.p11, h.p15, h.p19, h.p25⟩
theorem GA.s15 (h : GA W1 g9 g10 RC SC ao n cap bo m bc rq L x34 x35 x36 x37 x38 x39 x40 x41 x42 x43 x44 x45 x46 x47 x48 x49 x50 x51 x52 x53 x54 x55 x56 x57 x58 x59 W) : GA W1 g9 g10 RC SC ao n cap bo m bc rq (upd L 15) x34 x35 x36 x37 x38 x39 x40 x41 x42 x43 x44 x45 x46 x47 x48 undef x50 x51 x52 x53 x54 x55 x56 x57 x58 x59 W :=
  ⟨h.x, h.p0, h.p1, h.p2, h.p3, h.p4, h.p5, h.p6, h.p7, h.p11, fun _ => rfl, h.p19, h.p25⟩
theorem GA.s16 (h : GA W1 g9 g10 RC SC ao n cap bo m bc rq L x34 x35 x36 x37 x38 x39 x40 x41 x42 x43 x44 x45 x46 x47 x48 x49 x50 x51 x52 x53 x54 x55 x56 x57 x58 x59 W) : GA W1 g9 g10 RC SC ao n cap bo m bc rq (upd L 16) x34 x35 x36 x37 x38 x39 x40 x41 x42 x43 x44 x45 x46 x47 x48 x49 undef x51 x52 x53 x54 x55 x56 x57 x58 x59 W :=
  ⟨h.x, h.p0, h.p1, h.p2, h.p3, h.p4, h.p5, h.p6, h.p7, h.p11, h.p15, h.p19, h.p25⟩
theorem GA.s17 (h : GA W1 g9 g10 RC SC ao n cap bo m bc rq L x34 x35 x36 x37 x38 x39 x40 x41 x42 x43 x44 x45 x46 x47 x48 x49 x50 x51 x52 x53 x54 x55 x56 x57 x58 x59 W) : GA W1 g9 g10 RC SC ao n cap bo m bc rq (upd L 17) x34 x35 x36 x37 x38 x39 x40 x41 x42 x43 x44 x45 x46 x47 x48 x49 x50 undef x52 x53 x54 x55 x56 x57 x58 x59 W :=
  ⟨h.x, h.p0, h.p1, h.p2, h.p3, h.p4, h.p5, h.p6, h.p7, h.p11, h.p15, h.p19, h.p25⟩
theorem GA.s18 (h : GA W1 g9 g10 RC SC ao n cap bo m bc rq L x34 x35 x36 x37 x38 x39 x40 x41 x42 x43 x44 x45 x46 x47 x48 x49 x50 x51 x52 x53 x54 x55 x56 x57 x58 x59 W) : GA W1 g9 g10 RC SC ao n cap bo m bc rq (upd L 18) x34 x35 x36 x37 x38 x39 x40 x41 x42 x43 x44 x45 x46 x47 x48 x49 x50 x51 undef x53 x54 x55 x56 x57 x58 x59 W :=
  ⟨h.x, h.p0, h.p1, h.p2, h.p3, h.p4, h.p5, h.p6, h.p7, h.p11, h.p15, h.p19, h.p25⟩
theorem GA.s19 (h : GA W1 g9 g10 RC SC ao n cap bo m bc rq L x34 x35 x36 x37 x38 x39 x40 x41 x42 x43 x44 x45 x46 x47 x48 x49 x50 x51 x52 x53 x54 x55 x56 x57 x58 x59 W) : GA W1 g9 g10 RC SC ao n cap bo m bc rq (upd L 19) x34 x35 x36 x37 x38 x39 x40 x41 x42 x43 x44 x45 x46 x47 x48 x49 x50 x51 x52 undef x54 x55 x56 x57 x58 x59 W :=
  ⟨h.x, h.p0, h.p1, h.p2, h.p3, h.p4, h.p5, h.p6, h.p7, h.p11, h.p15, fun _ => rfl, h.p25⟩
theorem GA.s20 (h : GA W1 g9 g10 RC SC ao n cap bo m bc rq L x34 x35 x36 x37 x38 x39 x40 x41 x42 x43 x44 x45 x46 x47 x48 x49 x50 x51 x52 x53 x54 x55 x56 x57 x58 x59 W) : GA W1 g9 g10 RC SC ao n cap bo m bc rq (upd L 20) x34 x35 x36 x37 x38 x39 x40 x41 x42 x43 x44 x45 x46 x47 x48 x49 x50 x51 x52 x53 undef x55 x56 x57 x58 x59 W :=
  ⟨h.x, h.p0, h.p1, h.p2, h.p3, h.p4, h.p5, h.p6, h.p7, h.p11, h.p15, h.p19, h.p25⟩
theorem GA.s21 (h : GA W1 g9 g10 RC SC ao n cap bo m bc rq L x34 x35 x36 x37 x38 x39 x40 x41 x42 x43 x44 x45 x46 x47 x48 x49 x50 x51 x52 x53 x54 x55 x56 x57 x58 x59 W) : GA W1 g9 g10 RC SC ao n cap bo m bc rq (upd L 21) x34 x35 x36 x37 x38 x39 x40 x41 x42 x43 x44 x45 x46 x47 x48 x49 x50 x51 x52 x53 x54 undef x56 x57 x58 x59 W :=
  ⟨h.x, h.p0, h.p1, h.p2, h.p3, h.p4, h.p5, h.p6, h.p7, h.p11, h.p15, h.p19, h.p25⟩
theorem GA.s22 (h : GA W1 g9 g10 RC SC ao n cap bo m bc rq L x34 x35 x36 x37 x38 x39 x40 x41 x42 x43 x44 x45 x46 x47 x48 x49 x50 x51 x52 x53 x54 x55 x56 x57 x58 x59 W) : GA W1 g9 g10 RC SC ao n cap bo m bc rq (upd L 22) x34 x35 x36 x37 x38 x39 x40 x41 x42 x43 x44 x45 x46 x47 x48 x49 x50 x51 x52 x53 x54 x55 undef x57 x58 x59 W :=
  ⟨h.x, h.p0, h.p1, h.p2, h.p3, h.p4, h.p5, h.p6, h.p7, h.p11, h.p15, h.p19, h.p25⟩
theorem GA.s23 (h : GA W1 g9 g10 RC SC ao n cap bo m bc rq L x34 x35 x36 x37 x38 x39 x40 x41 x42 x43 x44 x45 x46 x47 x48 x49 x50 x51 x52 x53 x54 x55 x56 x57 x58 x59 W) : GA W1 g9 g10 RC SC ao n cap bo m bc rq (upd L 23) x34 x35 x36 x37 x38 x39 x40 x41 x42 x43 x44 x45 x46 x47 x48 x49 x50 x51 x52 x53 x54 x55 x56 undef x58 x59 W :=
  ⟨h.x, h.p0, h.p1, h.p2, h.p3, h.p4, h.p5, h.p6, h.p7, h.p11, h.p15, h.p19, h.p25⟩
theorem GA.s24 (h : GA W1 g9 g10 RC SC ao n cap bo m bc rq L x34 x35 x36 x37 x38 x39 x40 x41 x42 x43 x44 x45 x46 x47 x48 x49 x50 x51 x52 x53 x54 x55 x56 x57 x58 x59 W) : GA W1 g9 g10 RC SC ao n cap bo m bc rq (upd L 24) x34 x35 x36 x37 x38 x39 x40 x41 x42 x43 x44 x45 x46 x47 x48 x49 x50 x51 x52 x53 x54 x55 x56 x57 undef x59 W :=
  ⟨h.x, h.p0, h.p1, h.p2, h.p3, h.p4, h.p5, h.p6, h.p7, h.p11, h.p15, h.p19, h.p25⟩
theorem GA.s25 (h : GA W1 g9 g10 RC SC ao n cap bo m bc rq L x34 x35 x36 x37 x38 x39 x40 x41 x42 x43 x44 x45 x46 x47 x48 x49 x50 x51 x52 x53 x54 x55 x56 x57 x58 x59 W) : GA W1 g9 g10 RC SC ao n cap bo m bc rq (upd L 25) x34 x35 x36 x37 x38 x39 x40 x41 x42 x43 x44 x45 x46 x47 x48 x49 x50 x51 x52 x53 x54 x55 x56 x57 x58 (.bool false) W :=
  ⟨h.x, h.p0, h.p1, h.p2, h.p3, h.p4, h.p5, h.p6, h.p7, h.p11, h.p15, h.p19, fun _ => rfl⟩
end
@[reducible] def IGA (W1 : World) (g9 g10 : Nat) (RC SC : List Value) (ao : Option Addr) (n cap : Nat) (bo : Option Addr) (m bc : Nat) (rq : Bool) (y0 y1 y2 y3 y4 y5 y6 y7 y8 y9 y10 y11 y12 y13 y14 y15 y16 y17 y18 y19 y20 y21 y22 y23 y24 y25 y26 y27 y28 y29 y30 y31 y32 y33 y60 y61 y62 y63 y64 y65 y66 y67 y68 y69 y70 y71 y72 y73 y74 y75 y76 y77 y78 y79 y80 y81 y82 y83 y84 : Value) : (Nat → Bool) → Act → World → Prop := fun L a W => ∃ x34 x35 x36 x37 x38 x39 x40 x41 x42 x43 x44 x45 x46 x47 x48 x49 x50 x51 x52 x53 x54 x55 x56 x57 x58 x59, a = ⟨#[y0, y1, y2, y3, y4, y5, y6, y7, y8, y9, y10, y11, y12, y13, y14, y15, y16, y17, y18, y19, y20, y21, y22, y23, y24, y25, y26, y27, y28, y29, y30, y31, y32, y33, x34, x35, x36, x37, x38, x39, x40, x41, x42, x43, x44, x45, x46, x47, x48, x49, x50, x51, x52, x53, x54, x55, x56, x57, x58, x59, y60, y61, y62, y63, y64, y65, y66, y67, y68, y69, y70, y71, y72, y73, y74, y75, y76, y77, y78, y79, y80, y81, y82, y83, y84], []⟩ ∧ GA W1 g9 g10 RC SC ao n cap bo m bc rq L x34 x35 x36 x37 x38 x39 x40 x41 x42 x43 x44 x45 x46 x47 x48 x49 x50 x51 x52 x53 x54 x55 x56 x57 x58 x59 W
theorem GA.step {W1 : World} {g9 g10 : Nat} {RC SC : List Value} {ao : Option Addr} {n cap : Nat} {bo : Option Addr} {m bc : Nat} {rq : Bool} {y0 y1 y2 y3 y4 y5 y6 y7 y8 y9 y10 y11 y12 y13 y14 y15 y16 y17 y18 y19 y20 y21 y22 y23 y24 y25 y26 y27 y28 y29 y30 y31 y32 y33 y60 y61 y62 y63 y64 y65 y66 y67 y68 y69 y70 y71 y72 y73 y74 y75 y76 y77 y78 y79 y80 y81 y82 y83 y84 : Value} {P : Program} {ops : Array Oper} {Q : Exit → Act → World → Prop} {i : Nat} {o : Oper} (hq : ∀ x34 x35 x36 x37 x38 x39 x40 x41 x42 x43 x44 x45 x46 x47 x48 x49 x50 x51 x52 x53 x54 x55 x56 x57 x58 x59 (L : Nat → Bool) (W : World), GA W1 g9 g10 RC SC ao n cap bo m bc rq L x34 x35 x36 x37 x38 x39 x40 x41 x42 x43 x44 x45 x46 x47 x48 x49 x50 x51 x52 x53 x54 x55 x56 x57 x58 x59 W → L i = false → (∀ j ∈ onesOf o, L j = true) → ∀ K : Act → World → Prop, Shut (∀ a' w', IGA W1 g9 g10 RC SC ao n cap bo m bc rq y0 y1 y2 y3 y4 y5 y6 y7 y8 y9 y10 y11 y12 y13 y14 y15 y16 y17 y18 y19 y20 y21 y22 y23 y24 y25 y26 y27 y28 y29 y30 y31 y32 y33 y60 y61 y62 y63 y64 y65 y66 y67 y68 y69 y70 y71 y72 y73 y74 y75 y76 y77 y78 y79 y80 y81 y82 y83 y84 (upd L i) a' w' → K a' w') → if Region.wanted o (yielded ops (⟨#[y0, y1, y2, y3, y4, y5, y6, y7, y8, y9, y10, y11, y12, y13, y14, y15, y16, y17, y18, y19, y20, y21, y22, y23, y24, y25, y26, y27, y28, y29, y30, y31, y32, y33, x34, x35, x36, x37, x38, x39, x40, x41, x42, x43, x44, x45, x46, x47, x48, x49, x50, x51, x52, x53, x54, x55, x56, x57, x58, x59, y60, y61, y62, y63, y64, y65, y66, y67, y68, y69, y70, y71, y72, y73, y74, y75, y76, y77, y78, y79, y80, y81, y82, y83, y84], []⟩ : Act).tmps) = true then Oper.wp P o ⟨#[y0, y1, y2, y3, y4, y5, y6, y7, y8, y9, y10, y11, y12, y13, y14, y15, y16, y17, y18, y19, y20, y21, y22, y23, y24, y25, y26, y27, y28, y29, y30, y31, y32, y33, x34, x35, x36, x37, x38, x39, x40, x41, x42, x43, x44, x45, x46, x47, x48, x49, x50, x51, x52, x53, x54, x55, x56, x57, x58, x59, y60, y61, y62, y63, y64, y65, y66, y67, y68, y69, y70, y71, y72, y73, y74, y75, y76, y77, y78, y79, y80, y81, y82, y83, y84], []⟩ W K Q else K ((⟨#[y0, y1, y2, y3, y4, y5, y6, y7, y8, y9, y10, y11, y12, y13, y14, y15, y16, y17, y18, y19, y20, y21, y22, y23, y24, y25, y26, y27, y28, y29, y30, y31, y32, y33, x34, x35, x36, x37, x38, x39, x40, x41, x42, x43, x44, x45, x46, x47, x48, x49, x50, x51, x52, x53, x54, x55, x56, x57, x58, x59, y60, y61, y62, y63, y64, y65, y66, y67, y68, y69, y70, y71, y72, y73, y74, y75, y76, y77, y78, y79, y80, y81, y82, y83, y84], []⟩ : Act).put o.dst undef) W) : StepI P ops (IGA W1 g9 g10 RC SC ao n cap bo m bc rq y0 y1 y2 y3 y4 y5 y6 y7 y8 y9 y10 y11 y12 y13 y14 y15 y16 y17 y18 y19 y20 y21 y22 y23 y24 y25 y26 y27 y28 y29 y30 y31 y32 y33 y60 y61 y62 y63 y64 y65 y66 y67 y68 y69 y70 y71 y72 y73 y74 y75 y76 y77 y78 y79 y80 y81 y82 y83 y84) Q i o := by
  rintro L a W ⟨x34, x35, x36, x37, x38, x39, x40, x41, x42, x43, x44, x45, x46, x47, x48, x49, x50, x51, x52, x53, x54, x55, x56, x57, x58, x59, rfl, h⟩
  exact hq _ _ _ _ _ _ _ _ _ _ _ _ _ _ _ _ _ _ _ _ _ _ _ _ _ _ _ _ h
theorem GA.ends {W1 : World} {g9 g10 : Nat} {RC SC : List Value} {ao : Option Addr} {n cap : Nat} {bo : Option Addr} {m bc : Nat} {rq : Bool} {y0 y1 y2 y3 y4 y5 y6 y7 y8 y9 y10 y11 y12 y13 y14 y15 y16 y17 y18 y19 y20 y21 y22 y23 y24 y25 y26 y27 y28 y29 y30 y31 y32 y33 y60 y61 y62 y63 y64 y65 y66 y67 y68 y69 y70 y71 y72 y73 y74 y75 y76 y77 y78 y79 y80 y81 y82 y83 y84 : Value} {mm_ : Nat} {Q : Exit → Act → World → Prop} (hq : ∀ x34 x35 x36 x37 x38 x39 x40 x41 x42 x43 x44 x45 x46 x47 x48 x49 x50 x51 x52 x53 x54 x55 x56 x57 x58 x59 (L : Nat → Bool) (W : World), (∀ j, j < mm_ → L j = true) → GA W1 g9 g10 RC SC ao n cap bo m bc rq L x34 x35 x36 x37 x38 x39 x40 x41 x42 x43 x44 x45 x46 x47 x48 x49 x50 x51 x52 x53 x54 x55 x56 x57 x58 x59 W → Q .normal ⟨#[y0, y1, y2, y3, y4, y5, y6, y7, y8, y9, y10, y11, y12, y13, y14, y15, y16, y17, y18, y19, y20, y21, y22, y23, y24, y25, y26, y27, y28, y29, y30, y31, y32, y33, x34, x35, x36, x37, x38, x39, x40, x41, x42, x43, x44, x45, x46, x47, x48, x49, x50, x51, x52, x53, x54, x55, x56, x57, x58, x59, y60, y61, y62, y63, y64, y65, y66, y67, y68, y69, y70, y71, y72, y73, y74, y75, y76, y77, y78, y79, y80, y81, y82, y83, y84], []⟩ W) : ∀ L a' w', (∀ j, j < mm_ → L j = true) → IGA W1 g9 g10 RC SC ao n cap bo m bc rq y0 y1 y2 y3 y4 y5 y6 y7 y8 y9 y10 y11 y12 y13 y14 y15 y16 y17 y18 y19 y20 y21 y22 y23 y24 y25 y26 y27 y28 y29 y30 y31 y32 y33 y60 y61 y62 y63 y64 y65 y66 y67 y68 y69 y70 y71 y72 y73 y74 y75 y76 y77 y78 y79 y80 y81 y82 y83 y84 L a' w' → Q .normal a' w' := by
  rintro L a W hall ⟨x34, x35, x36, x37, x38, x39, x40, x41, x42, x43, x44, x45, x46, x47, x48, x49, x50, x51, x52, x53, x54, x55, x56, x57, x58, x59, rfl, h⟩
  exact hq _ _ _ _ _ _ _ _ _ _ _ _ _ _ _ _ _ _ _ _ _ _ _ _ _ _ _ _ hall h
structure GB1 (W1 : World) (g9 g10 : Nat) (RC SC : List Value) (ao : Option Addr) (n cap : Nat) (bo : Option Addr) (m bc : Nat) (L : Nat → Bool) (x34 x35 x36 x37 x38 x39 x40 x41 x42 x43 x44 x45 x46 x47 x48 x49 x50 x51 x52 x53 x54 x55 x56 x57 x58 x59 : Value) (W : World) : Prop where
  x : Below W1.heap.size W1 W
  p0 : L 0 = true → x34 = .agg RC.toArray
  p1 : L 1 = true → x35 = .agg SC.toArray
  p2 : L 2 = true → x36 = .bool true
  p3 : L 3 = true → x37 = .slice ao n cap
  p4 : L 4 = true → x38 = .slice bo m bc
  p5 : L 5 = true → x39 = .bool false
  p6 : L 6 = true → x40 = .bool true
  p7 : L 7 = true → x41 = .bool true
  p8 : L 8 = true → x42 = .agg RC.toArray
  p9 : L 9 = true → x43 = .agg SC.toArray
  p10 : L 10 = true → x44 = .bool true
  p11 : L 11 = true → x45 = .bool true
  p12 : L 12 = true → x46 = .slice ao n cap
  p13 : L 13 = true → x47 = .slice bo m bc
  p14 : L 14 = true → x48 = .bool true
  p15 : L 15 = true → x49 = .bool true
  p18 : L 18 = true → x52 = .bool true
  p19 : L 19 = true → x53 = .bool true
  p22 : L 22 = true → x56 = .bool true
  p23 : L 23 = true → x57 = .bool true
  p24 : L 24 = true → x58 = .bool false
  p25 : L 25 = true → x59 = .bool false
section
variable {W1 : World} {g9 g10 : Nat} {RC SC : List Value} {ao : Option Addr} {n cap : Nat} {bo : Option Addr} {m bc : Nat} {L : Nat → Bool} {x34 x35 x36 x37 x38 x39 x40 x41 x42 x43 x44 x45 x46 x47 x48 x49 x50 x51 x52 x53 x54 x55 x56 x57 x58 x59 : Value} {W W2 : World}
theorem GB1.s0 (h : GB1 W1 g9 g10 RC SC ao n cap bo m bc L x34 x35 x36 x37 x38 x39 x40 x41 x42 x43 x44 x45 x46 x47 x48 x49 x50 x51 x52 x53 x54 x55 x56 x57 x58 x59 W) : GB1 W1 g9 g10 RC SC ao n cap bo m bc (upd L 0) (.agg RC.toArray) x35 x36 x37 x38 x39 x40 x41 x42 x43 x44 x45 x46 x47 x48 x49 x50 x51 x52 x53 x54 x55 x56 x57 x58 x59 W :=
  ⟨h.x, fun _ => rfl, h.p1, h.p2, h.p3, h.p4, h.p5, h.p6, h.p7, h.p8, h.p9, h.p10, h.p11, h.p12, h.p13, h.p14, h.p15, h.p18, h.p19, h.p22, h.p23, h.p24, h.p25⟩
theorem GB1.s1 (h : GB1 W1 g9 g10 RC SC ao n cap bo m bc L x34 x35 x36 x37 x38 x39 x40 x41 x42 x43 x44 x45 x46 x47 x48 x49 x50 x51 x52 x53 x54 x55 x56 x57 x58 x59 W) : GB1 W1 g9 g10 RC SC ao n cap bo m bc (upd L 1) x34 (.agg SC.toArray) x36 x37 x38 x39 x40 x41 x42 x43 x44 x45 x46 x47 x48 x49 x50 x51 x52 x53 x54 x55 x56 x57 x58 x59 W :=
  ⟨h.x, h.p0, fun _ => rfl, h.p2, h.p3, h.p4, h.p5, h.p6, h.p7, h.p8, h.p9, h.p10, h.p11, h.p12, h.p13, h.p14, h.p15, h.p18, h.p19, h.p22, h.p23, h.p24, h.p25⟩
theorem GB1.s2 (h : GB1 W1 g9 g10 RC SC ao n cap bo m bc L x34 x35 x36 x37 x38 x39 x40 x41 x42 x43 x44 x45 x46 x47 x48 x49 x50 x51 x52 x53 x54 x55 x56 x57 x58 x59 W) : GB1 W1 g9 g10 RC SC ao n cap bo m bc (upd L 2) x34 x35 (.bool true) x37 x38 x39 x40 x41 x42 x43 x44 x45 x46 x47 x48 x49 x50 x51 x52 x53 x54 x55 x56 x57 x58 x59 W :=
  ⟨h.x, h.p0, h.p1, fun _ => rfl, h.p3, h.p4, h.p5, h.p6, h.p7, h.p8, h.p9, h.p10, h.p11, h.p12, h.p13, h.p14, h.p15, h.p18, h.p19, h.p22, h.p23, h.p24, h.p25⟩
theorem GB1.s3 (h : GB1 W1 g9 g10 RC SC ao n cap bo m bc L x34 x35 x36 x37 x38 x39 x40 x41 x42 x43 x44 x45 x46 x47 x48 x49 x50 x51 x52 x53 x54 x55 x56 x57 x58 x59 W) : GB1 W1 g9 g10 RC SC ao n cap bo m bc (upd L 3) x34 x35 x36 (.slice ao n cap) x38 x39 x40 x41 x42 x43 x44 x45 x46 x47 x48 x49 x50 x51 x52 x53 x54 x55 x56 x57 x58 x59 W :=
  ⟨h.x, h.p0, h.p1, h.p2, fun _ => rfl, h.p4, h.p5, h.p6, h.p7, h.p8, h.p9, h.p10, h.p11, h.p12, h.p13, h.p14, h.p15, h.p18, h.p19, h.p22, h.p23, h.p24, h.p25⟩
theorem GB1.s4 (h : GB1 W1 g9 g10 RC SC ao n cap bo m bc L x34 x35 x36 x37 x38 x39 x40 x41 x42 x43 x44 x45 x46 x47 x48 x49 x50 x51 x52 x53 x54 x55 x56 x57 x58 x59 W) : GB1 W1 g9 g10 RC SC ao n cap bo m bc (upd L 4) x34 x35 x36 x37 (.slice bo m bc) x39 x40 x41 x42 x43 x44 x45 x46 x47 x48 x49 x50 x51 x52 x53 x54 x55 x56 x57 x58 x59 W :=
  ⟨h.x, h.p0, h.p1, h.p2, h.p3, fun _ => rfl, h.p5, h.p6, h.p7, h.p8, h.p9, h.p10, h.p11, h.p12, h.p13, h.p14, h.p15, h.p18, h.p19, h.p22, h.p23, h.p24, h.p25⟩
theorem GB1.s5 (h : GB1 W1 g9 g10 RC SC ao n cap bo m bc L x34 x35 x36 x37 x38 x39 x40 x41 x42 x43 x44 x45 x46 x47 x48 x49 x50 x51 x52 x53 x54 x55 x56 x57 x58 x59 W) (hX : Below W1.heap.size W1 W2) : GB1 W1 g9 g10 RC SC ao n cap bo m bc (upd L 5) x34 x35 x36 x37 x38 (.bool false) x40 x41 x42 x43 x44 x45 x46 x47 x48 x49 x50 x51 x52 x53 x54 x55 x56 x57 x58 x59 W2 :=
  ⟨hX, h.p0, h.p1, h.p2, h.p3, h.p4, fun _ => rfl, h.p6, h.p7, h.p8, h.p9, h.p10, h.p11, h.p12, h.p13, h.p14, h.p15, h.p18, h.p19, h.p22, h.p23, h.p24, h.p25⟩
theorem GB1.s6 (h : GB1 W1 g9 g10 RC SC ao n cap bo m bc L x34 x35 x36 x37 x38 x39 x40 x41 x42 x43 x44 x45 x46 x47 x48 x49 x50 x51 x52 x53 x54 x55 x56 x57 x58 x59 W) : GB1 W1 g9 g10 RC SC ao n cap bo m bc (upd L 6) x34 x35 x36 x37 x38 x39 (.bool true) x41 x42 x43 x44 x45 x46 x47 x48 x49 x50 x51 x52 x53 x54 x55 x56 x57 x58 x59 W :=
  ⟨h.x, h.p0, h.p1, h.p2, h.p3, h.p4, h.p5, fun _ => rfl, h.p7, h.p8, h.p9, h.p10, h.p11, h.p12, h.p13, h.p14, h.p15, h.p18, h.p19, h.p22, h.p23, h.p24, h.p25⟩
theorem GB1.s7 (h : GB1 W1 g9 g10 RC SC ao n cap bo m bc L x34 x35 x36 x37 x38 x39 x40 x41 x42 x43 x44 x45 x46 x47 x48 x49 x50 x51 x52 x53 x54 x55 x56 x57 x58 x59 W) : GB1 W1 g9 g10 RC SC ao n cap bo m bc (upd L 7) x34 x35 x36 x37 x38 x39 x40 (.bool true) x42 x43 x44 x45 x46 x47 x48 x49 x50 x51 x52 x53 x54 x55 x56 x57 x58 x59 W :=
  ⟨h.x, h.p0, h.p1, h.p2, h.p3, h.p4, h.p5, h.p6, fun _ => rfl, h.p8, h.p9, h.p10, h.p11, h.p12, h.p13, h.p14, h.p15, h.p18, h.p19, h.p22, h.p23, h.p24, h.p25⟩
theorem GB1.s8 (h : GB1 W1 g9 g10 RC SC ao n cap bo m bc L x34 x35 x36 x37 x38 x39 x40 x41 x42 x43 x44 x45 x46 x47 x48 x49 x50 x51 x52 x53 x54 x55 x56 x57 x58 x59 W) : GB1 W1 g9 g10 RC SC ao n cap bo m bc (upd L 8) x34 x35 x36 x37 x38 x39 x40 x41 (.agg RC.toArray) x43 x44 x45 x46 x47 x48 x49 x50 x51 x52 x53 x54 x55 x56 x57 x58 x59 W :=
  ⟨h.x, h.p0, h.p1, h.p2, h.p3, h.p4, h.p5, h.p6, h.p7, fun _ => rfl, h.p9, h.p10, h.p11, h.p12, h.p13, h.p14, h.p15, h.p18, h.p19, h.p22, h.p23, h.p24, h.p25⟩
theorem GB1.s9 (h : GB1 W1 g9 g10 RC SC ao n cap bo m bc L x34 x35 x36 x37 x38 x39 x40 x41 x42 x43 x44 x45 x46 x47 x48 x49 x50 x51 x52 x53 x54 x55 x56 x57 x58 x59 W) : GB1 W1 g9 g10 RC SC ao n cap bo m bc (upd L 9) x34 x35 x36 x37 x38 x39 x40 x41 x42 (.agg SC.toArray) x44 x45 x46 x47 x48 x49 x50 x51 x52 x53 x54 x55 x56 x57 x58 x59 W :=
  ⟨h.x, h.p0, h.p1, h.p2, h.p3, h.p4, h.p5, h.p6, h.p7, h.p8, fun _ => rfl, h.p10, h.p11, h.p12, h.p13, h.p14, h.p15, h.p18, h.p19, h.p22, h.p23, h.p24, h.p25⟩
theorem GB1.s10 (h : GB1 W1 g9 g10 RC SC ao n cap bo m bc L x34 x35 x36 x37 x38 x39 x40 x41 x42 x43 x44 x45 x46 x47 x48 x49 x50 x51 x52 x53 x54 x55 x56 x57 x58 x59 W) : GB1 W1 g9 g10 RC SC ao n cap bo m bc (upd L 10) x34 x35 x36 x37 x38 x39 x40 x41 x42 x43 (.bool true) x45 x46 x47 x48 x49 x50 x51 x52 x53 x54 x55 x56 x57 x58 x59 W :=
  ⟨h.x, h.p0, h.p1, h.p2, h.p3, h.p4, h.p5, h.p6, h.p7, h.p8, h.p9, fun _ => rfl, h.p11, h.p12, h.p13, h.p14, h.p15, h.p18, h.p19, h.p22, h.p23, h.p24, h.p25⟩
theorem GB1.s11 (h : GB1 W1 g9 g10 RC SC ao n cap bo m bc L x34 x35 x36 x37 x38 x39 x40 x41 x42 x43 x44 x45 x46 x47 x48 x49 x50 x51 x52 x53 x54 x55 x56 x57 x58 x59 W) : GB1 W1 g9 g10 RC SC ao n cap bo m bc (upd L 11) x34 x35 x36 x37 x38 x39 x40 x41 x42 x43 x44 (.bool true) x46 x47 x48 x49 x50 x51 x52 x53 x54 x55 x56 x57 x58 x59 W :=
  ⟨h.x, h.p0, h.p1, h.p2, h.p3, h.p4, h.p5, h.p6, h.p7, h.p8, h.p9, h.p10, fun _ => rfl, h.p12, h.p13, h.p14, h.p15, h.p18, h.p19, h.p22, h.p23, h.p24, h.p25⟩
theorem GB1.s12 (h : GB1 W1 g9 g10 RC SC ao n cap bo m bc L x34 x35 x36 x37 x38 x39 x40 x41 x42 x43 x44 x45 x46 x47 x48 x49 x50 x51 x52 x53 x54 x55 x56 x57 x58 x59 W) : GB1 W1 g9 g10 RC SC ao n cap bo m bc (upd L 12) x34 x35 x36 x37 x38 x39 x40 x41 x42 x43 x44 x45 (.slice ao n cap) x47 x48 x49 x50 x51 x52 x53 x54 x55 x56 x57 x58 x59 W :=
  ⟨h.x, h.p0, h.p1, h.p2, h.p3, h.p4, h.p5, h.p6, h.p7, h.p8, h.p9, h.p10, h.p11, fun _ => rfl, h.p13, h.p14, h.p15, h.p18, h.p19, h.p22, h.p23, h.p24, h.p25⟩
theorem GB1.s13 (h : GB1 W1 g9 g10 RC SC ao n cap bo m bc L x34 x35 x36 x37 x38 x39 x40 x41 x42 x43 x44 x45 x46 x47 x48 x49 x50 x51 x52 x53 x54 x55 x56 x57 x58 x59 W) : GB1 W1 g9 g10 RC SC ao n cap bo m bc (upd L 13) x34 x35 x36 x37 x38 x39 x40 x41 x42 x43 x44 x45 x46 (.slice bo m bc) x48 x49 x50 x51 x52 x53 x54 x55 x56 x57 x58 x59 W :=
  ⟨h.x, h.p0, h.p1, h.p2, h.p3, h.p4, h.p5, h.p6, h.p7, h.p8, h.p9, h.p10, h.p11, h.p12, fun _ => rfl, h.p14, h.p15, h.p18, h.p19, h.p22, h.p23, h.p24, h.p25⟩
theorem GB1.s14 (h : GB1 W1 g9 g10 RC SC ao n cap bo m bc L x34 x35 x36 x37 x38 x39 x40 x41 x42 x43 x44 x45 x46 x47 x48 x49 x50 x51 x52 x53 x54 x55 x56 x57 x58 x59 W) (hX : Below W1.heap.size W1 W2) : GB1 W1 g9 g10 RC SC ao n cap bo m bc (upd L 14) x34 x35 x36 x37 x38 x39 x40 x41 x42 x43 x44 x45 x46 x47 (.bool true) x49 x50 x51 x52 x53 x54 x55 x56 x57 x58 x59 W2 :=
  ⟨hX, h.p0, h.p1, h.p2, h.p3, h.p4, h.p5, h.p6, h.p7, h.p8, h.p9, h.p10, h.p11, h.p12, h.p13, fun _ => rfl, h.p15, h.p18, h.p19, h.p22, h.p23, h.p24, h.p25⟩
theorem GB1.s15 (h : GB1 W1 g9 g10 RC SC ao n cap bo m bc L x34 x35 x36 x37 x38 x39 x40 x41 x42 x43 x44 x45 x46 x47 x48 x49 x50 x51 x52 x53 x54 x55 x56 x57 x58 x59 W) : GB1 W1 g9 g10 RC SC ao n cap bo m bc (upd L 15) x34 x35 x36 x37 x38 x39 x40 x41 x42 x43 x44 x45 x46 x47 x48 (.bool true) x50 x51 x52 x53 x54 x55 x56 x57 x58 x59 W :=
  ⟨h.x, h.p0, h.p1, h.p2, h.p3, h.p4, h.p5, h.p6, h.p7, h.p8, h.p9, h.p10, h.p11, h.p12, h.p13, h.p14, fun _ => rfl, h.p18, h.p19, h.p22, h.p23, h.p24, h.p25⟩
theorem GB1.s16 (h : GB1 W1 g9 g10 RC SC ao n cap bo m bc L x34 x35 x36 x37 x38 x39 x40 x41 x42 x43 x44 x45 x46 x47 x48 x49 x50 x51 x52 x53 x54 x55 x56 x57 x58 x59 W) : GB1 W1 g9 g10 RC SC ao n cap bo m bc (upd L 16) x34 x35 x36 x37 x38 x39 x40 x41 x42 x43 x44 x45 x46 x47 x48 x49 undef x51 x52 x53 x54 x55 x56 x57 x58 x59 W :=
  ⟨h.x, h.p0, h.p1, h.p2, h.p3, h.p4, h.p5, h.p6, h.p7, h.p8, h.p9, h.p10, h.p11, h.p12, h.p13, h.p14, h.p15, h.p18, h.p19, h.p22, h.p23, h.p24, h.p25⟩
theorem GB1.s17 (h : GB1 W1 g9 g10 RC SC ao n cap bo m bc L x34 x35 x36 x37 x38 x39 x40 x41 x42 x43 x44 x45 x46 x47 x48 x49 x50 x51 x52 x53 x54 x55 x56 x57 x58 x59 W) : GB1 W1 g9 g10 RC SC ao n cap bo m bc (upd L 17) x34 x35 x36 x37 x38 x39 x40 x41 x42 x43 x44 x45 x46 x47 x48 x49 x50 undef x52 x53 x54 x55 x56 x57 x58 x59 W :=
  ⟨h.x, h.p0, h.p1, h.p2, h.p3, h.p4, h.p5, h.p6, h.p7, h.p8, h.p9, h.p10, h.p11, h.p12, h.p13, h.p14, h.p15, h.p18, h.p19, h.p22, h.p23, h.p24, h.p25⟩
theorem GB1.s18 (h : GB1 W1 g9 g10 RC SC ao n cap bo m bc L x34 x35 x36 x37 x38 x39 x40 x41 x42 x43 x44 x45 x46 x47 x48 x49 x50 x51 x52 x53 x54 x55 x56 x57 x58 x59 W) : GB1 W1 g9 g10 RC SC ao n cap bo m bc (upd L 18) x34 x35 x36 x37 x38 x39 x40 x41 x42 x43 x44 x45 x46 x47 x48 x49 x50 x51 (.bool true) x53 x54 x55 x56 x57 x58 x59 W :=
  ⟨h.x, h.p0, h.p1, h.p2, h.p3, h.p4, h.p5, h.p6, h.p7, h.p8, h.p9, h.p10, h.p11, h.p12, h.p13, h.p14, h.p15, fun _ => rfl, h.p19, h.p22, h.p23, h.p24, h.p25⟩
theorem GB1.s19 (h : GB1 W1 g9 g10 RC SC ao n cap bo m bc L x34 x35 x36 x37 x38 x39 x40 x41 x42 x43 x44 x45 x46 x47 x48 x49 x50 x51 x52 x53 x54 x55 x56 x57 x58 x59 W) : GB1 W1 g9 g10 RC SC ao n cap bo m bc (upd L 19) x34 x35 x36 x37 x38 x39 x40 x41 x42 x43 x44 x45 x46 x47 x48 x49 x50 x51 x52 (.bool true) x54 x55 x56 x57 x58 x59 W :=
  ⟨h.x, h.p0, h.p1, h.p2, h.p3, h.p4, h.p5, h.p6, h.p7, h.p8, h.p9, h.p10, h.p11, h.p12, h.p13, h.p14, h.p15, h.p18, fun _ => rfl, h.p22, h.p23, h.p24, h.p25⟩
theorem GB1.s20 (h : GB1 W1 g9 g10 RC SC ao n cap bo m bc L x34 x35 x36 x37 x38 x39 x40 x41 x42 x43 x44 x45 x46 x47 x48 x49 x50 x51 x52 x53 x54 x55 x56 x57 x58 x59 W) : GB1 W1 g9 g10 RC SC ao n cap bo m bc (upd L 20) x34 x35 x36 x37 x38 x39 x40 x41 x42 x43 x44 x45 x46 x47 x48 x49 x50 x51 x52 x53 undef x55 x56 x57 x58 x59 W :=
  ⟨h.x, h.p0, h.p1, h.p2, h.p3, h.p4, h.p5, h.p6, h.p7, h.p8, h.p9, h.p10, h.p11, h.p12, h.p13, h.p14, h.p15, h.p18, h.p19, h.p22, h.p23, h.p24, h.p25⟩
theorem GB1.s21 (h : GB1 W1 g9 g10 RC SC ao n cap bo m bc L x34 x35 x36 x37 x38 x39 x40 x41 x42 x43 x44 x45 x46 x47 x48 x49 x50 x51 x52 x53 x54 x55 x56 x57 x58 x59 W) : GB1 W1 g9 g10 RC SC ao n cap bo m bc (upd L 21) x34 x35 x36 x37 x38 x39 x40 x41 x42 x43 x44 x45 x46 x47 x48 x49 x50 x51 x52 x53 x54 undef x56 x57 x58 x59 W :=
  ⟨h.x, h.p0, h.p1, h.p2, h.p3, h.p4, h.p5, h.p6, h.p7, h.p8, h.p9, h.p10, h.p11, h.p12, h.p13, h.p14, h.p15, h.p18, h.p19, h.p22, h.p23, h.p24, h.p25⟩
theorem GB1.s22 (h : GB1 W1 g9 g10 RC SC ao n cap bo m bc L x34 x35 x36 x37 x38 x39 x40 x41 x42 x43 x44 x45 x46 x47 x48 x49 x50 x51 x52 x53 x54 x55 x56 x57 x58 x59 W) : GB1 W1 g9 g10 RC SC ao n cap bo m bc (upd L 22) x34 x35 x36 x37 x38 x39 x40 x41 x42 x43 x44 x45 x46 x47 x48 x49 x50 x51 x52 x53 x54 x55 (.bool true) x57 x58 x59 W :=
  ⟨h.x, h.p0, h.p1, h.p2, h.p3, h.p4, h.p5, h.p6, h.p7, h.p8, h.p9, h.p10, h.p11, h.p12, h.p13, h.p14, h.p15, h.p18, h.p19, fun _ => rfl, h.p23, h.p24, h.p25⟩
theorem GB1.s23 (h : GB1 W1 g9 g10 RC SC ao n cap bo m bc L x34 x35 x36 x37 x38 x39 x40 x41 x42 x43 x44 x45 x46 x47 x48 x49 x50 x51 x52 x53 x54 x55 x56 x57 x58 x59 W) : GB1 W1 g9 g10 RC SC ao n cap bo m bc (upd L 23) x34 x35 x36 x37 x38 x39 x40 x41 x42 x43 x44 x45 x46 x47 x48 x49 x50 x51 x52 x53 x54 x55 x56 (.bool true) x58 x59 W :=
  ⟨h.x, h.p0, h.p1, h.p2, h.p3, h.p4, h.p5, h.p6, h.p7, h.p8, h.p9, h.p10, h.p11, h.p12, h.p13, h.p14, h.p15, h.p18, h.p19, h.p22, fun _ => rfl, h.p24, h.p25⟩
theorem GB1.s24 (h : GB1 W1 g9 g10 RC SC ao n cap bo m bc L x34 x35 x36 x37 x38 x39 x40 x41 x42 x43 x44 x45 x46 x47 x48 x49 x50 x51 x52 x53 x54 x55 x56 x57 x58 x59 W) : GB1 W1 g9 g10 RC SC ao n cap bo m bc (upd L 24) x34 x35 x36 x37 x38 x39 x40 x41 x42 x43 x44 x45 x46 x47 x48 x49 x50 x51 x52 x53 x54 x55 x56 x57 (.bool false) x59 W :=
  ⟨h.x, h.p0, h.p1, h.p2, h.p3, h.p4, h.p5, h.p6, h.p7, h.p8, h.p9, h.p10, h.p11, h.p12, h.p13, h.p14, h.p15, h.p18, h.p19, h.p22, h.p23, fun _ => rfl, h.p25⟩
theorem GB1.s25 (h : GB1 W1 g9 g10 RC SC ao n cap bo m bc L x34 x35 x36 x37 x38 x39 x40 x41 x42 x43 x44 x45 x46 x47 x48 x49 x50 x51 x52 x53 x54 x55 x56 x57 x58 x59 W) : GB1 W1 g9 g10 RC SC ao n cap bo m bc (upd L 25) x34 x35 x36 x37 x38 x39 x40 x41 x42 x43 x44 x45 x46 x47 x48 x49 x50 x51 x52 x53 x54 x55 x56 x57 x58 (.bool false) W :=
  ⟨h.x, h.p0, h.p1, h.p2, h.p3, h.p4, h.p5, h.p6, h.p7, h.p8, h.p9, h.p10, h.p11, h.p12, h.p13, h.p14, h.p15, h.p18, h.p19, h.p22, h.p23, h.p24, fun _ => rfl⟩
end
@[reducible] def IGB1 (W1 : World) (g9 g10 : Nat) (RC SC : List Value) (ao : Option Addr) (n cap : Nat) (bo : Option Addr) (m bc : Nat) (y0 y1 y2 y3 y4 y5 y6 y7 y8 y9 y10 y11 y12 y13 y14 y15 y16 y17 y18 y19 y20 y21 y22 y23 y24 y25 y26 y27 y28 y29 y30 y31 y32 y33 y60 y61 y62 y63 y64 y65 y66 y67 y68 y69 y70 y71 y72 y73 y74 y75 y76 y77 y78 y79 y80 y81 y82 y83 y84 : Value) : (Nat → Bool) → Act → World → Prop := fun L a W => ∃ x34 x35 x36 x37 x38 x39 x40 x41 x42 x43 x44 x45 x46 x47 x48 x49 x50 x51 x52 x53 x54 x55 x56 x57 x58 x59, a = ⟨#[y0, y1, y2, y3, y4, y5, y6, y7, y8, y9, y10, y11, y12, y13, y14, y15, y16, y17, y18, y19, y20, y21, y22, y23, y24, y25, y26, y27, y28, y29, y30, y31, y32, y33, x34, x35, x36, x37, x38, x39, x40, x41, x42, x43, x44, x45, x46, x47, x48, x49, x50, x51, x52, x53, x54, x55, x56, x57, x58, x59, y60, y61, y62, y63, y64, y65, y66, y67, y68, y69, y70, y71, y72, y73, y74, y75, y76, y77, y78, y79, y80, y81, y82, y83, y84], []⟩ ∧ GB1 W1 g9 g10 RC SC ao n cap bo m bc L x34 x35 x36 x37 x38 x39 x40 x41 x42 x43 x44 x45 x46 x47 x48 x49 x50 x51 x52 x53 x54 x55 x56 x57 x58 x59 W
theorem GB1.step {W1 : World} {g9 g10 : Nat} {RC SC : List Value} {ao : Option Addr} {n cap : Nat} {bo : Option Addr} {m bc : Nat} {y0 y1 y2 y3 y4 y5 y6 y7 y8 y9 y10 y11 y12 y13 y14 y15 y16 y17 y18 y19 y20 y21 y22 y23 y24 y25 y26 y27 y28 y29 y30 y31 y32 y33 y60 y61 y62 y63 y64 y65 y66 y67 y68 y69 y70 y71 y72 y73 y74 y75 y76 y77 y78 y79 y80 y81 y82 y83 y84 : Value} {P : Program} {ops : Array Oper} {Q : Exit → Act → World → Prop} {i : Nat} {o : Oper} (hq : ∀ x34 x35 x36 x37 x38 x39 x40 x41 x42 x43 x44 x45 x46 x47 x48 x49 x50 x51 x52 x53 x54 x55 x56 x57 x58 x59 (L : Nat → Bool) (W : World), GB1 W1 g9 g10 RC SC ao n cap bo m bc L x34 x35 x36 x37 x38 x39 x40 x41 x42 x43 x44 x45 x46 x47 x48 x49 x50 x51 x52 x53 x54 x55 x56 x57 x58 x59 W → L i = false → (∀ j ∈ onesOf o, L j = true) → ∀ K : Act → World → Prop, Shut (∀ a' w', IGB1 W1 g9 g10 RC SC ao n cap bo m bc y0 y1 y2 y3 y4 y5 y6 y7 y8 y9 y10 y11 y12 y13 y14 y15 y16 y17 y18 y19 y20 y21 y22 y23 y24 y25 y26 y27 y28 y29 y30 y31 y32 y33 y60 y61 y62 y63 y64 y65 y66 y67 y68 y69 y70 y71 y72 y73 y74 y75 y76 y77 y78 y79 y80 y81 y82 y83 y84 (upd L i) a' w' → K a' w') → if Region.wanted o (yielded ops (⟨#[y0, y1, y2, y3, y4, y5, y6, y7, y8, y9, y10, y11, y12, y13, y14, y15, y16, y17, y18, y19, y20, y21, y22, y23, y24, y25, y26, y27, y28, y29, y30, y31, y32, y33, x34, x35, x36, x37, x38, x39, x40, x41, x42, x43, x44, x45, x46, x47, x48, x49, x50, x51, x52, x53, x54, x55, x56, x57, x58, x59, y60, y61, y62, y63, y64, y65, y66, y67, y68, y69, y70, y71, y72, y73, y74, y75, y76, y77, y78, y79, y80, y81, y82, y83, y84], []⟩ : Act).tmps) = true then Oper.wp P o ⟨#[y0, y1, y2, y3, y4, y5, y6, y7, y8, y9, y10, y11, y12, y13, y14, y15, y16, y17, y18, y19, y20, y21, y22, y23, y24, y25, y26, y27, y28, y29, y30, y31, y32, y33, x34, x35, x36, x37, x38, x39, x40, x41, x42, x43, x44, x45, x46, x47, x48, x49, x50, x51, x52, x53, x54, x55, x56, x57, x58, x59, y60, y61, y62, y63, y64, y65, y66, y67, y68, y69, y70, y71, y72, y73, y74, y75, y76, y77, y78, y79, y80, y81, y82, y83, y84], []⟩ W K Q else K ((⟨#[y0, y1, y2, y3, y4, y5, y6, y7, y8, y9, y10, y11, y12, y13, y14, y15, y16, y17, y18, y19, y20, y21, y22, y23, y24, y25, y26, y27, y28, y29, y30, y31, y32, y33, x34, x35, x36, x37, x38, x39, x40, x41, x42, x43, x44, x45, x46, x47, x48, x49, x50, x51, x52, x53, x54, x55, x56, x57, x58, x59, y60, y61, y62, y63, y64, y65, y66, y67, y68, y69, y70, y71, y72, y73, y74, y75, y76, y77, y78, y79, y80, y81, y82, y83, y84], []⟩ : Act).put o.dst undef) W) : StepI P ops (IGB1 W1 g9 g10 RC SC ao n cap bo m bc y0 y1 y2 y3 y4 y5 y6 y7 y8 y9 y10 y11 y12 y13 y14 y15 y16 y17 y18 y19 y20 y21 y22 y23 y24 y25 y26 y27 y28 y29 y30 y31 y32 y33 y60 y61 y62 y63 y64 y65 y66 y67 y68 y69 y70 y71 y72 y73 y74 y75 y76 y77 y78 y79 y80 y81 y82 y83 y84) Q i o := by
  rintro L a W ⟨x34, x35, x36, x37, x38, x39, x40, x41, x42, x43, x44, x45, x46, x47, x48, x49, x50, x51, x52, x53, x54, x55, x56, x57, x58, x59, rfl, h⟩
  exact hq _ _ _ _ _ _ _ _ _ _ _ _ _ _ _ _ _ _ _ _ _ _ _ _ _ _ _ _ h
theorem GB1.ends {W1 : World} {g9 g10 : Nat} {RC SC : List Value} {ao : Option Addr} {n cap : Nat} {bo : Option Addr} {m bc : Nat} {y0 y1 y2 y3 y4 y5 y6 y7 y8 y9 y10 y11 y12 y13 y14 y15 y16 y17 y18 y19 y20 y21 y22 y23 y24 y25 y26 y27 y28 y29 y30 y31 y32 y33 y60 y61 y62 y63 y64 y65 y66 y67 y68 y69 y70 y71 y72 y73 y74 y75 y76 y77 y78 y79 y80 y81 y82 y83 y84 : Value} {mm_ : Nat} {Q : Exit → Act → World → Prop} (hq : ∀ x34 x35 x36 x37 x38 x39 x40 x41 x42 x43 x44 x45 x46 x47 x48 x49 x50 x51 x52 x53 x54 x55 x56 x57 x58 x59 (L : Nat → Bool) (W : World), (∀ j, j < mm_ → L j = true) → GB1 W1 g9 g10 RC SC ao n cap bo m bc L x34 x35 x36 x37 x38 x39 x40 x41 x42 x43 x44 x45 x46 x47 x48 x49 x50 x51 x52 x53 x54 x55 x56 x57 x58 x59 W → Q .normal ⟨#[y0, y1, y2, y3, y4, y5, y6, y7, y8, y9, y10, y11, y12, y13, y14, y15, y16, y17, y18, y19, y20, y21, y22, y23, y24, y25, y26, y27, y28, y29, y30, y31, y32, y33, x34, x35, x36, x37, x38, x39, x40, x41, x42, x43, x44, x45, x46, x47, x48, x49, x50, x51, x52, x53, x54, x55, x56, x57, x58, x59, y60, y61, y62, y63, y64, y65, y66, y67, y68, y69, y70, y71, y72, y73, y74, y75, y76, y77, y78, y79, y80, y81, y82, y83, y84], []⟩ W) : ∀ L a' w', (∀ j, j < mm_ → L j = true) → IGB1 W1 g9 g10 RC SC ao n cap bo m bc y0 y1 y2 y3 y4 y5 y6 y7 y8 y9 y10 y11 y12 y13 y14 y15 y16 y17 y18 y19 y20 y21 y22 y23 y24 y25 y26 y27 y28 y29 y30 y31 y32 y33 y60 y61 y62 y63 y64 y65 y66 y67 y68 y69 y70 y71 y72 y73 y74 y75 y76 y77 y78 y79 y80 y81 y82 y83 y84 L a' w' → Q .normal a' w' := by
  rintro L a W hall ⟨x34, x35, x36, x37, x38, x39, x40, x41, x42, x43, x44, x45, x46, x47, x48, x49, x50, x51, x52, x53, x54, x55, x56, x57, x58, x59, rfl, h⟩
  exact hq _ _ _ _ _ _ _ _ _ _ _ _ _ _ _ _ _ _ _ _ _ _ _ _ _ _ _ _ hall h
structure GB2 (W1 : World) (g9 g10 : Nat) (RC SC : List Value) (ao : Option Addr) (n cap : Nat) (bo : Option Addr) (m bc : Nat) (L : Nat → Bool) (x34 x35 x36 x37 x38 x39 x40 x41 x42 x43 x44 x45 x46 x47 x48 x49 x50 x51 x52 x53 x54 x55 x56 x57 x58 x59 : Value) (W : World) : Prop where
  x : Below W1.heap.size W1 W
  p0 : L 0 = true → x34 = .agg RC.toArray
  p1 : L 1 = true → x35 = .agg SC.toArray
  p2 : L 2 = true → x36 = .bool true
  p3 : L 3 = true → x37 = .slice ao n cap
  p4 : L 4 = true → x38 = .slice bo m bc
  p5 : L 5 = true → x39 = .bool false
  p6 : L 6 = true → x40 = .bool true
  p7 : L 7 = true → x41 = .bool true
  p8 : L 8 = true → x42 = .agg RC.toArray
  p9 : L 9 = true → x43 = .agg SC.toArray
  p10 : L 10 = true → x44 = .bool true
  p11 : L 11 = true → x45 = .bool true
  p12 : L 12 = true → x46 = .slice ao n cap
  p13 : L 13 = true → x47 = .slice bo m bc
  p14 : L 14 = true → x48 = .bool false
  p15 : L 15 = true → x49 = .bool false
  p16 : L 16 = true → x50 = .slice ao n cap
  p17 : L 17 = true → x51 = .bool true
  p18 : L 18 = true → x52 = .bool true
  p19 : L 19 = true → x53 = .bool true
  p22 : L 22 = true → x56 = .bool true
  p23 : L 23 = true → x57 = .bool true
  p24 : L 24 = true → x58 = .bool false
  p25 : L 25 = true → x59 = .bool false
section
variable {W1 : World} {g9 g10 : Nat} {RC SC : List Value} {ao : Option Addr} {n cap : Nat} {bo : Option Addr} {m bc : Nat} {L : Nat → Bool} {x34 x35 x36 x37 x38 x39 x40 x41 x42 x43 x44 x45 x46 x47 x48 x49 x50 x51 x52 x53 x54 x55 x56 x57 x58 x59 : Value} {W W2 : World}
theorem GB2.s0 (h : GB2 W1 g9 g10 RC SC ao n cap bo m bc L x34 x35 x36 x37 x38 x39 x40 x41 x42 x43 x44 x45 x46 x47 x48 x49 x50 x51 x52 x53 x54 x55 x56 x57 x58 x59 W) : GB2 W1 g9 g10 RC SC ao n cap bo m bc (upd L 0) (.agg RC.toArray) x35 x36 x37 x38 x39 x40 x41 x42 x43 x44 x45 x46 x47 x48 x49 x50 x51 x52 x53 x54 x55 x56 x57 x58 x59 W :=
  ⟨h.x, fun _ => rfl, h.p1, h.p2, h.p3, h.p4, h.p5, h.p6, h.p7, h.p8, h.p9, h.p10, h.p11, h.p12, h.p13, h.p14, h.p15, h.p16, h.p17, h.p18, h.p19, h.p22, h.p23, h.p24, h.p25⟩
theorem GB2.s1 (h : GB2 W1 g9 g10 RC SC ao n cap bo m bc L x34 x35 x36 x37 x38 x39 x40 x41 x42 x43 x44 x45 x46 x47 x48 x49 x50 x51 x52 x53 x54 x55 x56 x57 x58 x59 W) : GB2 W1 g9 g10 RC SC ao n cap bo m bc (upd L 1) x34 (.agg SC.toArray) x36 x37 x38 x39 x40 x41 x42 x43 x44 x45 x46 x47 x48 x49 x50 x51 x52 x53 x54 x55 x56 x57 x58 x59 W :=
  ⟨h.x, h.p0, fun _ => rfl, h.p2, h.p3, h.p4, h.p5, h.p6, h.p7, h.p8, h.p9, h.p10, h.p11, h.p12, h.p13, h.p14, h.p15, h.p16, h.p17, h.p18, h.p19, h.p22, h.p23, h.p24, h.p25⟩
theorem GB2.s2 (h : GB2 W1 g9 g10 RC SC ao n cap bo m bc L x34 x35 x36 x37 x38 x39 x40 x41 x42 x43 x44 x45 x46 x47 x48 x49 x50 x51 x52 x53 x54 x55 x56 x57 x58 x59 W) : GB2 W1 g9 g10 RC SC ao n cap bo m bc (upd L 2) x34 x35 (.bool true) x37 x38 x39 x40 x41 x42 x43 x44 x45 x46 x47 x48 x49 x50 x51 x52 x53 x54 x55 x56 x57 x58 x59 W :=
  ⟨h.x, h.p0, h.p1, fun _ => rfl, h.p3, h.p4, h.p5, h.p6, h.p7, h.p8, h.p9, h.p10, h.p11, h.p12, h.p13, h.p14, h.p15, h.p16, h.p17, h.p18, h.p19, h.p22, h.p23, h.p24, h.p25⟩
theorem GB2.s3 (h : GB2 W1 g9 g10 RC SC ao n cap bo m bc L x34 x35 x36 x37 x38 x39 x40 x41 x42 x43 x44 x45 x46 x47 x48 x49 x50 x51 x52 x53 x54 x55 x56 x57 x58 x59 W) : GB2 W1 g9 g10 RC SC ao n cap bo m bc (upd L 3) x34 x35 x36 (.slice ao n cap) x38 x39 x40 x41 x42 x43 x44 x45 x46 x47 x48 x49 x50 x51 x52 x53 x54 x55 x56 x57 x58 x59 W :=
  ⟨h.x, h.p0, h.p1, h.p2, fun _ => rfl, h.p4, h.p5, h.p6, h.p7, h.p8, h.p9, h.p10, h.p11, h.p12, h.p13, h.p14, h.p15, h.p16, h.p17, h.p18, h.p19, h.p22, h.p23, h.p24, h.p25⟩
theorem GB2.s4 (h : GB2 W1 g9 g10 RC SC ao n cap bo m bc L x34 x35 x36 x37 x38 x39 x40 x41 x42 x43 x44 x45 x46 x47 x48 x49 x50 x51 x52 x53 x54 x55 x56 x57 x58 x59 W) : GB2 W1 g9 g10 RC SC ao n cap bo m bc (upd L 4) x34 x35 x36 x37 (.slice bo m bc) x39 x40 x41 x42 x43 x44 x45 x46 x47 x48 x49 x50 x51 x52 x53 x54 x55 x56 x57 x58 x59 W :=
  ⟨h.x, h.p0, h.p1, h.p2, h.p3, fun _ => rfl, h.p5, h.p6, h.p7, h.p8, h.p9, h.p10, h.p11, h.p12, h.p13, h.p14, h.p15, h.p16, h.p17, h.p18, h.p19, h.p22, h.p23, h.p24, h.p25⟩
theorem GB2.s5 (h : GB2 W1 g9 g10 RC SC ao n cap bo m bc L x34 x35 x36 x37 x38 x39 x40 x41 x42 x43 x44 x45 x46 x47 x48 x49 x50 x51 x52 x53 x54 x55 x56 x57 x58 x59 W) (hX : Below W1.heap.size W1 W2) : GB2 W1 g9 g10 RC SC ao n cap bo m bc (upd L 5) x34 x35 x36 x37 x38 (.bool false) x40 x41 x42 x43 x44 x45 x46 x47 x48 x49 x50 x51 x52 x53 x54 x55 x56 x57 x58 x59 W2 :=
  ⟨hX, h.p0, h.p1, h.p2, h.p3, h.p4, fun _ => rfl, h.p6, h.p7, h.p8, h.p9, h.p10, h.p11, h.p12, h.p13, h.p14, h.p15, h.p16, h.p17, h.p18, h.p19, h.p22, h.p23, h.p24, h.p25⟩
theorem GB2.s6 (h : GB2 W1 g9 g10 RC SC ao n cap bo m bc L x34 x35 x36 x37 x38 x39 x40 x41 x42 x43 x44 x45 x46 x47 x48 x49 x50 x51 x52 x53 x54 x55 x56 x57 x58 x59 W) : GB2 W1 g9 g10 RC SC ao n cap bo m bc (upd L 6) x34 x35 x36 x37 x38 x39 (.bool true) x41 x42 x43 x44 x45 x46 x47 x48 x49 x50 x51 x52 x53 x54 x55 x56 x57 x58 x59 W :=
  ⟨h.x, h.p0, h.p1, h.p2, h.p3, h.p4, h.p5, fun _ => rfl, h.p7, h.p8, h.p9, h.p10, h.p11, h.p12, h.p13, h.p14, h.p15, h.p16, h.p17, h.p18, h.p19, h.p22, h.p23, h.p24, h.p25⟩
theorem GB2.s7 (h : GB2 W1 g9 g10 RC SC ao n cap bo m bc L x34 x35 x36 x37 x38 x39 x40 x41 x42 x43 x44 x45 x46 x47 x48 x49 x50 x51 x52 x53 x54 x55 x56 x57 x58 x59 W) : GB2 W1 g9 g10 RC SC ao n cap bo m bc (upd L 7) x34 x35 x36 x37 x38 x39 x40 (.bool true) x42 x43 x44 x45 x46 x47 x48 x49 x50 x51 x52 x53 x54 x55 x56 x57 x58 x59 W :=
  ⟨h.x, h.p0, h.p1, h.p2, h.p3, h.p4, h.p5, h.p6, fun _ => rfl, h.p8, h.p9, h.p10, h.p11, h.p12, h.p13, h.p14, h.p15, h.p16, h.p17, h.p18, h.p19, h.p22, h.p23, h.p24, h.p25⟩
theorem GB2.s8 (h : GB2 W1 g9 g10 RC SC ao n cap bo m bc L x34 x35 x36 x37 x38 x39 x40 x41 x42 x43 x44 x45 x46 x47 x48 x49 x50 x51 x52 x53 x54 x55 x56 x57 x58 x59 W) : GB2 W1 g9 g10 RC SC ao n cap bo m bc (upd L 8) x34 x35 x36 x37 x38 x39 x40 x41 (.agg RC.toArray) x43 x44 x45 x46 x47 x48 x49 x50 x51 x52 x53 x54 x55 x56 x57 x58 x59 W :=
  ⟨h.x, h.p0, h.p1, h.p2, h.p3, h.p4, h.p5, h.p6, h.p7, fun _ => rfl, h.p9, h.p10, h.p11, h.p12, h.p13, h.p14, h.p15, h.p16, h.p17, h.p18, h.p19, h.p22, h.p23, h.p24, h.p25⟩
theorem GB2.s9 (h : GB2 W1 g9 g10 RC SC ao n cap bo m bc L x34 x35 x36 x37 x38 x39 x40 x41 x42 x43 x44 x45 x46 x47 x48 x49 x50 x51 x52 x53 x54 x55 x56 x57 x58 x59 W) : GB2 W1 g9 g10 RC SC ao n cap bo m bc (upd L 9) x34 x35 x36 x37 x38 x39 x40 x41 x42 (.agg SC.toArray) x44 x45 x46 x47 x48 x49 x50 x51 x52 x53 x54 x55 x56 x57 x58 x59 W :=
  ⟨h.x, h.p0, h.p1, h.p2, h.p3, h.p4, h.p5, h.p6, h.p7, h.p8, fun _ => rfl, h.p10, h.p11, h.p12, h.p13, h.p14, h.p15, h.p16, h.p17, h.p18, h.p19, h.p22, h.p23, h.p24, h.p25⟩
theorem GB2.s10 (h : GB2 W1 g9 g10 RC SC ao n cap bo m bc L x34 x35 x36 x37 x38 x39 x40 x41 x42 x43 x44 x45 x46 x47 x48 x49 x50 x51 x52 x53 x54 x55 x56 x57 x58 x59 W) : GB2 W1 g9 g10 RC SC ao n cap bo m bc (upd L 10) x34 x35 x36 x37 x38 x39 x40 x41 x42 x43 (.bool true) x45 x46 x47 x48 x49 x50 x51 x52 x53 x54 x55 x56 x57 x58 x59 W :=
  ⟨h.x, h.p0, h.p1, h.p2, h.p3, h.p4, h.p5, h.p6, h.p7, h.p8, h.p9, fun _ => rfl, h.p11, h.p12, h.p13, h.p14, h.p15, h.p16, h.p17, h.p18, h.p19, h.p22, h.p23, h.p24, h.p25⟩
theorem GB2.s11 (h : GB2 W1 g9 g10 RC SC ao n cap bo m bc L x34 x35 x36 x37 x38 x39 x40 x41 x42 x43 x44 x45 x46 x47 x48 x49 x50 x51 x52 x53 x54 x55 x56 x57 x58 x59 W) : GB2 W1 g9 g10 RC SC ao n cap bo m bc (upd L 11) x34 x35 x36 x37 x38 x39 x40 x41 x42 x43 x44 (.bool true) x46 x47 x48 x49 x50 x51 x52 x53 x54 x55 x56 x57 x58 x59 W :=
  ⟨h.x, h.p0, h.p1, h.p2, h.p3, h.p4, h.p5, h.p6, h.p7, h.p8, h.p9, h.p10, fun _ => rfl, h.p12, h.p13, h.p14, h.p15, h.p16, h.p17, h.p18, h.p19, h.p22, h.p23, h.p24, h.p25⟩
theorem GB2.s12 (h : GB2 W1 g9 g10 RC SC ao n cap bo m bc L x34 x35 x36 x37 x38 x39 x40 x41 x42 x43 x44 x45 x46 x47 x48 x49 x50 x51 x52 x53 x54 x55 x56 x57 x58 x59 W) : GB2 W1 g9 g10 RC SC ao n cap bo m bc (upd L 12) x34 x35 x36 x37 x38 x39 x40 x41 x42 x43 x44 x45 (.slice ao n cap) x47 x48 x49 x50 x51 x52 x53 x54 x55 x56 x57 x58 x59 W :=
  ⟨h.x, h.p0, h.p1, h.p2, h.p3, h.p4, h.p5, h.p6, h.p7, h.p8, h.p9, h.p10, h.p11, fun _ => rfl, h.p13, h.p14, h.p15, h.p16, h.p17, h.p18, h.p19, h.p22, h.p23, h.p24, h.p25⟩
theorem GB2.s13 (h : GB2 W1 g9 g10 RC SC ao n cap bo m bc L x34 x35 x36 x37 x38 x39 x40 x41 x42 x43 x44 x45 x46 x47 x48 x49 x50 x51 x52 x53 x54 x55 x56 x57 x58 x59 W) : GB2 W1 g9 g10 RC SC ao n cap bo m bc (upd L 13) x34 x35 x36 x37 x38 x39 x40 x41 x42 x43 x44 x45 x46 (.slice bo m bc) x48 x49 x50 x51 x52 x53 x54 x55 x56 x57 x58 x59 W :=
  ⟨h.x, h.p0, h.p1, h.p2, h.p3, h.p4, h.p5, h.p6, h.p7, h.p8, h.p9, h.p10, h.p11, h.p12, fun _ => rfl, h.p14, h.p15, h.p16, h.p17, h.p18, h.p19, h.p22, h.p23, h.p24, h.p25⟩
theorem GB2.s14 (h : GB2 W1 g9 g10 RC SC ao n cap bo m bc L x34 x35 x36 x37 x38 x39 x40 x41 x42 x43 x44 x45 x46 x47 x48 x49 x50 x51 x52 x53 x54 x55 x56 x57 x58 x59 W) (hX : Below W1.heap.size W1 W2) : GB2 W1 g9 g10 RC SC ao n cap bo m bc (upd L 14) x34 x35 x36 x37 x38 x39 x40 x41 x42 x43 x44 x45 x46 x47 (.bool false) x49 x50 x51 x52 x53 x54 x55 x56 x57 x58 x59 W2 :=
  ⟨hX, h.p0, h.p1, h.p2, h.p3, h.p4, h.p5, h.p6, h.p7, h.p8, h.p9, h.p10, h.p11, h.p12, h.p13, fun _ => rfl, h.p15, h.p16, h.p17, h.p18, h.p19, h.p22, h.p23, h.p24, h.p25⟩
theorem GB2.s15 (h : GB2 W1 g9 g10 RC SC ao n cap bo m bc L x34 x35 x36 x37 x38 x39 x40 x41 x42 x43 x44 x45 x46 x47 x48 x49 x50 x51 x52 x53 x54 x55 x56 x57 x58 x59 W) : GB2 W1 g9 g10 RC SC ao n cap bo m bc (upd L 15) x34 x35 x36 x37 x38 x39 x40 x41 x42 x43 x44 x45 x46 x47 x48 (.bool false) x50 x51 x52 x53 x54 x55 x56 x57 x58 x59 W :=
  ⟨h.x, h.p0, h.p1, h.p2, h.p3, h.p4, h.p5, h.p6, h.p7, h.p8, h.p9, h.p10, h.p11, h.p12, h.p13, h.p14, fun _ => rfl, h.p16, h.p17, h.p18, h.p19, h.p22, h.p23, h.p24, h.p25⟩
theorem GB2.s16 (h : GB2 W1 g9 g10 RC SC ao n cap bo m bc L x34 x35 x36 x37 x38 x39 x40 x41 x42 x43 x44 x45 x46 x47 x48 x49 x50 x51 x52 x53 x54 x55 x56 x57 x58 x59 W) : GB2 W1 g9 g10 RC SC ao n cap bo m bc (upd L 16) x34 x35 x36 x37 x38 x39 x40 x41 x42 x43 x44 x45 x46 x47 x48 x49 (.slice ao n cap) x51 x52 x53 x54 x55 x56 x57 x58 x59 W :=
  ⟨h.x, h.p0, h.p1, h.p2, h.p3, h.p4, h.p5, h.p6, h.p7, h.p8, h.p9, h.p10, h.p11, h.p12, h.p13, h.p14, h.p15, fun _ => rfl, h.p17, h.p18, h.p19, h.p22, h.p23, h.p24, h.p25⟩
theorem GB2.s17 (h : GB2 W1 g9 g10 RC SC ao n cap bo m bc L x34 x35 x36 x37 x38 x39 x40 x41 x42 x43 x44 x45 x46 x47 x48 x49 x50 x51 x52 x53 x54 x55 x56 x57 x58 x59 W) (hX : Below W1.heap.size W1 W2) : GB2 W1 g9 g10 RC SC ao n cap bo m bc (upd L 17) x34 x35 x36 x37 x38 x39 x40 x41 x42 x43 x44 x45 x46 x47 x48 x49 x50 (.bool true) x52 x53 x54 x55 x56 x57 x58 x59 W2 :=
  ⟨hX, h.p0, h.p1, h.p2, h.p3, h.p4, h.p5, h.p6, h.p7, h.p8, h.p9, h.p10, h.p11, h.p12, h.p13, h.p14, h.p15, h.p16, fun _ => rfl, h.p18, h.p19, h.p22, h.p23, h.p24, h.p25⟩
theorem GB2.s18 (h : GB2 W1 g9 g10 RC SC ao n cap bo m bc L x34 x35 x36 x37 x38 x39 x40 x41 x42 x43 x44 x45 x46 x47 x48 x49 x50 x51 x52 x53 x54 x55 x56 x57 x58 x59 W) : GB2 W1 g9 g10 RC SC ao n cap bo m bc (upd L 18) x34 x35 x36 x37 x38 x39 x40 x41 x42 x43 x44 x45 x46 x47 x48 x49 x50 x51 (.bool true) x53 x54 x55 x56 x57 x58 x59 W :=
  ⟨h.x, h.p0, h.p1, h.p2, h.p3, h.p4, h.p5, h.p6, h.p7, h.p8, h.p9, h.p10, h.p11, h.p12, h.p13, h.p14, h.p15, h.p16, h.p17, fun _ => rfl, h.p19, h.p22, h.p23, h.p24, h.p25⟩
theorem GB2.s19 (h : GB2 W1 g9 g10 RC SC ao n cap bo m bc L x34 x35 x36 x37 x38 x39 x40 x41 x42 x43 x44 x45 x46 x47 x48 x49 x50 x51 x52 x53 x54 x55 x56 x57 x58 x59 W) : GB2 W1 g9 g10 RC SC ao n cap bo m bc (upd L 19) x34 x35 x36 x37 x38 x39 x40 x41 x42 x43 x44 x45 x46 x47 x48 x49 x50 x51 x52 (.bool true) x54 x55 x56 x57 x58 x59 W :=
  ⟨h.x, h.p0, h.p1, h.p2, h.p3, h.p4, h.p5, h.p6, h.p7, h.p8, h.p9, h.p10, h.p11, h.p12, h.p13, h.p14, h.p15, h.p16, h.p17, h.p18, fun _ => rfl, h.p22, h.p23, h.p24, h.p25⟩
theorem GB2.s20 (h : GB2 W1 g9 g10 RC SC ao n cap bo m bc L x34 x35 x36 x37 x38 x39 x40 x41 x42 x43 x44 x45 x46 x47 x48 x49 x50 x51 x52 x53 x54 x55 x56 x57 x58 x59 W) : GB2 W1 g9 g10 RC SC ao n cap bo m bc (upd L 20) x34 x35 x36 x37 x38 x39 x40 x41 x42 x43 x44 x45 x46 x47 x48 x49 x50 x51 x52 x53 undef x55 x56 x57 x58 x59 W :=
  ⟨h.x, h.p0, h.p1, h.p2, h.p3, h.p4, h.p5, h.p6, h.p7, h.p8, h.p9, h.p10, h.p11, h.p12, h.p13, h.p14, h.p15, h.p16, h.p17, h.p18, h.p19, h.p22, h.p23, h.p24, h.p25⟩
theorem GB2.s21 (h : GB2 W1 g9 g10 RC SC ao n cap bo m bc L x34 x35 x36 x37 x38 x39 x40 x41 x42 x43 x44 x45 x46 x47 x48 x49 x50 x51 x52 x53 x54 x55 x56 x57 x58 x59 W) : GB2 W1 g9 g10 RC SC ao n cap bo m bc (upd L 21) x34 x35 x36 x37 x38 x39 x40 x41 x42 x43 x44 x45 x46 x47 x48 x49 x50 x51 x52 x53 x54 undef x56 x57 x58 x59 W :=
  ⟨h.x, h.p0, h.p1, h.p2, h.p3, h.p4, h.p5, h.p6, h.p7, h.p8, h.p9, h.p10, h.p11, h.p12, h.p13, h.p14, h.p15, h.p16, h.p17, h.p18, h.p19, h.p22, h.p23, h.p24, h.p25⟩
theorem GB2.s22 (h : GB2 W1 g9 g10 RC SC ao n cap bo m bc L x34 x35 x36 x37 x38 x39 x40 x41 x42 x43 x44 x45 x46 x47 x48 x49 x50 x51 x52 x53 x54 x55 x56 x57 x58 x59 W) : GB2 W1 g9 g10 RC SC ao n cap bo m bc (upd L 22) x34 x35 x36 x37 x38 x39 x40 x41 x42 x43 x44 x45 x46 x47 x48 x49 x50 x51 x52 x53 x54 x55 (.bool true) x57 x58 x59 W :=
  ⟨h.x, h.p0, h.p1, h.p2, h.p3, h.p4, h.p5, h.p6, h.p7, h.p8, h.p9, h.p10, h.p11, h.p12, h.p13, h.p14, h.p15, h.p16, h.p17, h.p18, h.p19, fun _ => rfl, h.p23, h.p24, h.p25⟩
theorem GB2.s23 (h : GB2 W1 g9 g10 RC SC ao n cap bo m bc L x34 x35 x36 x37 x38 x39 x40 x41 x42 x43 x44 x45 x46 x47 x48 x49 x50 x51 x52 x53 x54 x55 x56 x57 x58 x59 W) : GB2 W1 g9 g10 RC SC ao n cap bo m bc (upd L 23) x34 x35 x36 x37 x38 x39 x40 x41 x42 x43 x44 x45 x46 x47 x48 x49 x50 x51 x52 x53 x54 x55 x56 (.bool true) x58 x59 W :=
  ⟨h.x, h.p0, h.p1, h.p2, h.p3, h.p4, h.p5, h.p6, h.p7, h.p8, h.p9, h.p10, h.p11, h.p12, h.p13, h.p14, h.p15, h.p16, h.p17, h.p18, h.p19, h.p22, fun _ => rfl, h.p24, h.p25⟩
theorem GB2.s24 (h : GB2 W1 g9 g10 RC SC ao n cap bo m bc L x34 x35 x36 x37 x38 x39 x40 x41 x42 x43 x44 x45 x46 x47 x48 x49 x50 x51 x52 x53 x54 x55 x56 x57 x58 x59 W) : GB2 W1 g9 g10 RC SC ao n cap bo m bc (upd L 24) x34 x35 x36 x37 x38 x39 x40 x41 x42 x43 x44 x45 x46 x47 x48 x49 x50 x51 x52 x53 x54 x55 x56 x57 (.bool false) x59 W :=
  ⟨h.x, h.p0, h.p1, h.p2, h.p3, h.p4, h.p5, h.p6, h.p7, h.p8, h.p9, h.p10, h.p11, h.p12, h.p13, h.p14, h.p15, h.p16, h.p17, h.p18, h.p19, h.p22, h.p23, fun _ => rfl, h.p25⟩
theorem GB2.s25 (h : GB2 W1 g9 g10 RC SC ao n cap bo m bc L x34 x35 x36 x37 x38 x39 x40 x41 x42 x43 x44 x45 x46 x47 x48 x49 x50 x51 x52 x53 x54 x55 x56 x57 x58 x59 W) : GB2 W1 g9 g10 RC SC ao n cap bo m bc (upd L 25) x34 x35 x36 x37 x38 x39 x40 x41 x42 x43 x44 x45 x46 x47 x48 x49 x50 x51 x52 x53 x54 x55 x56 x57 x58 (.bool false) W :=
  ⟨h.x, h.p0, h.p1, h.p2, h.p3, h.p4, h.p5, h.p6, h.p7, h.p8, h.p9, h.p10, h.p11, h.p12, h.p13, h.p14, h.p15, h.p16, h.p17, h.p18, h.p19, h.p22, h.p23, h.p24, fun _ => rfl⟩
end
@[reducible] def IGB2 (W1 : World) (g9 g10 : Nat) (RC SC : List Value) (ao : Option Addr) (n cap : Nat) (bo : Option Addr) (m bc : Nat) (y0 y1 y2 y3 y4 y5 y6 y7 y8 y9 y10 y11 y12 y13 y14 y15 y16 y17 y18 y19 y20 y21 y22 y23 y24 y25 y26 y27 y28 y29 y30 y31 y32 y33 y60 y61 y62 y63 y64 y65 y66 y67 y68 y69 y70 y71 y72 y73 y74 y75 y76 y77 y78 y79 y80 y81 y82 y83 y84 : Value) : (Nat → Bool) → Act → World → Prop := fun L a W => ∃ x34 x35 x36 x37 x38 x39 x40 x41 x42 x43 x44 x45 x46 x47 x48 x49 x50 x51 x52 x53 x54 x55 x56 x57 x58 x59, a = ⟨#[y0, y1, y2, y3, y4, y5, y6, y7, y8, y9, y10, y11, y12, y13, y14, y15, y16, y17, y18, y19, y20, y21, y22, y23, y24, y25, y26, y27, y28, y29, y30, y31, y32, y33, x34, x35, x36, x37, x38, x39, x40, x41, x42, x43, x44, x45, x46, x47, x48, x49, x50, x51, x52, x53, x54, x55, x56, x57, x58, x59, y60, y61, y62, y63, y64, y65, y66, y67, y68, y69, y70, y71, y72, y73, y74, y75, y76, y77, y78, y79, y80, y81, y82, y83, y84], []⟩ ∧ GB2 W1 g9 g10 RC SC ao n cap bo m bc L x34 x35 x36 x37 x38 x39 x40 x41 x42 x43 x44 x45 x46 x47 x48 x49 x50 x51 x52 x53 x54 x55 x56 x57 x58 x59 W
theorem GB2.step {W1 : World} {g9 g10 : Nat} {RC SC : List Value} {ao : Option Addr} {n cap : Nat} {bo : Option Addr} {m bc : Nat} {y0 y1 y2 y3 y4 y5 y6 y7 y8 y9 y10 y11 y12 y13 y14 y15 y16 y17 y18 y19 y20 y21 y22 y23 y24 y25 y26 y27 y28 y29 y30 y31 y32 y33 y60 y61 y62 y63 y64 y65 y66 y67 y68 y69 y70 y71 y72 y73 y74 y75 y76 y77 y78 y79 y80 y81 y82 y83 y84 : Value} {P : Program} {ops : Array Oper} {Q : Exit → Act → World → Prop} {i : Nat} {o : Oper} (hq : ∀ x34 x35 x36 x37 x38 x39 x40 x41 x42 x43 x44 x45 x46 x47 x48 x49 x50 x51 x52 x53 x54 x55 x56 x57 x58 x59 (L : Nat → Bool) (W : World), GB2 W1 g9 g10 RC SC ao n cap bo m bc L x34 x35 x36 x37 x38 x39 x40 x41 x42 x43 x44 x45 x46 x47 x48 x49 x50 x51 x52 x53 x54 x55 x56 x57 x58 x59 W → L i = false → (∀ j ∈ onesOf o, L j = true) → ∀ K : Act → World → Prop, Shut (∀ a' w', IGB2 W1 g9 g10 RC SC ao n cap bo m bc y0 y1 y2 y3 y4 y5 y6 y7 y8 y9 y10 y11 y12 y13 y14 y15 y16 y17 y18 y19 y20 y21 y22 y23 y24 y25 y26 y27 y28 y29 y30 y31 y32 y33 y60 y61 y62 y63 y64 y65 y66 y67 y68 y69 y70 y71 y72 y73 y74 y75 y76 y77 y78 y79 y80 y81 y82 y83 y84 (upd L i) a' w' → K a' w') → if Region.wanted o (yielded ops (⟨#[y0, y1, y2, y3, y4, y5, y6, y7, y8, y9, y10, y11, y12, y13, y14, y15, y16, y17, y18, y19, y20, y21, y22, y23, y24, y25, y26, y27, y28, y29, y30, y31, y32, y33, x34, x35, x36, x37, x38, x39, x40, x41, x42, x43, x44, x45, x46, x47, x48, x49, x50, x51, x52, x53, x54, x55, x56, x57, x58, x59, y60, y61, y62, y63, y64, y65, y66, y67, y68, y69, y70, y71, y72, y73, y74, y75, y76, y77, y78, y79, y80, y81, y82, y83, y84], []⟩ : Act).tmps) = true then Oper.wp P o ⟨#[y0, y1, y2, y3, y4, y5, y6, y7, y8, y9, y10, y11, y12, y13, y14, y15, y16, y17, y18, y19, y20, y21, y22, y23, y24, y25, y26, y27, y28, y29, y30, y31, y32, y33, x34, x35, x36, x37, x38, x39, x40, x41, x42, x43, x44, x45, x46, x47, x48, x49, x50, x51, x52, x53, x54, x55, x56, x57, x58, x59, y60, y61, y62, y63, y64, y65, y66, y67, y68, y69, y70, y71, y72, y73, y74, y75, y76, y77, y78, y79, y80, y81, y82, y83, y84], []⟩ W K Q else K ((⟨#[y0, y1, y2, y3, y4, y5, y6, y7, y8, y9, y10, y11, y12, y13, y14, y15, y16, y17, y18, y19, y20, y21, y22, y23, y24, y25, y26, y27, y28, y29, y30, y31, y32, y33, x34, x35, x36, x37, x38, x39, x40, x41, x42, x43, x44, x45, x46, x47, x48, x49, x50, x51, x52, x53, x54, x55, x56, x57, x58, x59, y60, y61, y62, y63, y64, y65, y66, y67, y68, y69, y70, y71, y72, y73, y74, y75, y76, y77, y78, y79, y80, y81, y82, y83, y84], []⟩ : Act).put o.dst undef) W) : StepI P ops (IGB2 W1 g9 g10 RC SC ao n cap bo m bc y0 y1 y2 y3 y4 y5 y6 y7 y8 y9 y10 y11 y12 y13 y14 y15 y16 y17 y18 y19 y20 y21 y22 y23 y24 y25 y26 y27 y28 y29 y30 y31 y32 y33 y60 y61 y62 y63 y64 y65 y66 y67 y68 y69 y70 y71 y72 y73 y74 y75 y76 y77 y78 y79 y80 y81 y82 y83 y84) Q i o := by
  rintro L a W ⟨x34, x35, x36, x37, x38, x39, x40, x41, x42, x43, x44, x45, x46, x47, x48, x49, x50, x51, x52, x53, x54, x55, x56, x57, x58, x59, rfl, h⟩
  exact hq _ _ _ _ _ _ _ _ _ _ _ _ _ _ _ _ _ _ _ _ _ _ _ _ _ _ _ _ h
theorem GB2.ends {W1 : World} {g9 g10 : Nat} {RC SC : List Value} {ao : Option Addr} {n cap : Nat} {bo : Option Addr} {m bc : Nat} {y0 y1 y2 y3 y4 y5 y6 y7 y8 y9 y10 y11 y12 y13 y14 y15 y16 y17 y18 y19 y20 y21 y22 y23 y24 y25 y26 y27 y28 y29 y30 y31 y32 y33 y60 y61 y62 y63 y64 y65 y66 y67 y68 y69 y70 y71 y72 y73 y74 y75 y76 y77 y78 y79 y80 y81 y82 y83 y84 : Value} {mm_ : Nat} {Q : Exit → Act → World → Prop} (hq : ∀ x34 x35 x36 x37 x38 x39 x40 x41 x42 x43 x44 x45 x46 x47 x48 x49 x50 x51 x52 x53 x54 x55 x56 x57 x58 x59 (L : Nat → Bool) (W : World), (∀ j, j < mm_ → L j = true) → GB2 W1 g9 g10 RC SC ao n cap bo m bc L x34 x35 x36 x37 x38 x39 x40 x41 x42 x43 x44 x45 x46 x47 x48 x49 x50 x51 x52 x53 x54 x55 x56 x57 x58 x59 W → Q .normal ⟨#[y0, y1, y2, y3, y4, y5, y6, y7, y8, y9, y10, y11, y12, y13, y14, y15, y16, y17, y18, y19, y20, y21, y22, y23, y24, y25, y26, y27, y28, y29, y30, y31, y32, y33, x34, x35, x36, x37, x38, x39, x40, x41, x42, x43, x44, x45, x46, x47, x48, x49, x50, x51, x52, x53, x54, x55, x56, x57, x58, x59, y60, y61, y62, y63, y64, y65, y66, y67, y68, y69, y70, y71, y72, y73, y74, y75, y76, y77, y78, y79, y80, y81, y82, y83, y84], []⟩ W) : ∀ L a' w', (∀ j, j < mm_ → L j = true) → IGB2 W1 g9 g10 RC SC ao n cap bo m bc y0 y1 y2 y3 y4 y5 y6 y7 y8 y9 y10 y11 y12 y13 y14 y15 y16 y17 y18 y19 y20 y21 y22 y23 y24 y25 y26 y27 y28 y29 y30 y31 y32 y33 y60 y61 y62 y63 y64 y65 y66 y67 y68 y69 y70 y71 y72 y73 y74 y75 y76 y77 y78 y79 y80 y81 y82 y83 y84 L a' w' → Q .normal a' w' := by
  rintro L a W hall ⟨x34, x35, x36, x37, x38, x39, x40, x41, x42, x43, x44, x45, x46, x47, x48, x49, x50, x51, x52, x53, x54, x55, x56, x57, x58, x59, rfl, h⟩
  exact hq _ _ _ _ _ _ _ _ _ _ _ _ _ _ _ _ _ _ _ _ _ _ _ _ _ _ _ _ hall h
structure GB3 (W1 : World) (g9 g10 : Nat) (RC SC : List Value) (ao : Option Addr) (n cap : Nat) (bo : Option Addr) (m bc : Nat) (L : Nat → Bool) (x34 x35 x36 x37 x38 x39 x40 x41 x42 x43 x44 x45 x46 x47 x48 x49 x50 x51 x52 x53 x54 x55 x56 x57 x58 x59 : Value) (W : World) : Prop where
  x : Below W1.heap.size W1 W
  p0 : L 0 = true → x34 = .agg RC.toArray
  p1 : L 1 = true → x35 = .agg SC.toArray
  p2 : L 2 = true → x36 = .bool true
  p3 : L 3 = true → x37 = .slice ao n cap
  p4 : L 4 = true → x38 = .slice bo m bc
  p5 : L 5 = true → x39 = .bool false
  p6 : L 6 = true → x40 = .bool true
  p7 : L 7 = true → x41 = .bool true
  p8 : L 8 = true → x42 = .agg RC.toArray
  p9 : L 9 = true → x43 = .agg SC.toArray
  p10 : L 10 = true → x44 = .bool true
  p11 : L 11 = true → x45 = .bool true
  p12 : L 12 = true → x46 = .slice ao n cap
  p13 : L 13 = true → x47 = .slice bo m bc
  p14 : L 14 = true → x48 = .bool false
  p15 : L 15 = true → x49 = .bool false
  p16 : L 16 = true → x50 = .slice ao n cap
  p17 : L 17 = true → x51 = .bool false
  p18 : L 18 = true → x52 = .bool false
  p19 : L 19 = true → x53 = .bool false
  p20 : L 20 = true → x54 = .slice bo m bc
  p21 : L 21 = true → x55 = .bool true
  p22 : L 22 = true → x56 = .bool true
  p23 : L 23 = true → x57 = .bool true
  p24 : L 24 = true → x58 = .bool false
  p25 : L 25 = true → x59 = .bool false
section
variable {W1 : World} {g9 g10 : Nat} {RC SC : List Value} {ao : Option Addr} {n cap : Nat} {bo : Option Addr} {m bc : Nat} {L : Nat → Bool} {x34 x35 x36 x37 x38 x39 x40 x41 x42 x43 x44 x45 x46 x47 x48 x49 x50 x51 x52 x53 x54 x55 x56 x57 x58 x59 : Value} {W W2 : World}
theorem GB3.s0 (h : GB3 W1 g9 g10 RC SC ao n cap bo m bc L x34 x35 x36 x37 x38 x39 x40 x41 x42 x43 x44 x45 x46 x47 x48 x49 x50 x51 x52 x53 x54 x55 x56 x57 x58 x59 W) : GB3 W1 g9 g10 RC SC ao n cap bo m bc (upd L 0) (.agg RC.toArray) x35 x36 x37 x38 x39 x40 x41 x42 x43 x44 x45 x46 x47 x48 x49 x50 x51 x52 x53 x54 x55 x56 x57 x58 x59 W :=
  ⟨h.x, fun _ => rfl, h.p1, h.p2, h.p3, h.p4, h.p5, h.p6, h.p7, h.p8, h.p9, h.p10, h.p11, h.p12, h.p13, h.p14, h.p15, h.p16, h.p17, h.p18, h.p19, h.p20, h.p21, h.p22, h.p23, h.p24, h.p25⟩
theorem GB3.s1 (h : GB3 W1 g9 g10 RC SC ao n cap bo m bc L x34 x35 x36 x37 x38 x39 x40 x41 x42 x43 x44 x45 x46 x47 x48 x49 x50 x51 x52 x53 x54 x55 x56 x57 x58 x59 W) : GB3 W1 g9 g10 RC SC ao n cap bo m bc (upd L 1) x34 (.agg SC.toArray) x36 x37 x38 x39 x40 x41 x42 x43 x44 x45 x46 x47 x48 x49 x50 x51 x52 x53 x54 x55 x56 x57 x58 x59 W :=
  ⟨h.x, h.p0, fun _ => rfl, h.p2, h.p3, h.p4, h.p5, h.p6, h.p7, h.p8, h.p9, h.p10, h.p11, h.p12, h.p13, h.p14, h.p15, h.p16, h.p17, h.p18, h.p19, h.p20, h.p21, h.p22, h.p23, h.p24, h.p25⟩
theorem GB3.s2 (h : GB3 W1 g9 g10 RC SC ao n cap bo m bc L x34 x35 x36 x37 x38 x39 x40 x41 x42 x43 x44 x45 x46 x47 x48 x49 x50 x51 x52 x53 x54 x55 x56 x57 x58 x59 W) : GB3 W1 g9 g10 RC SC ao n cap bo m bc (upd L 2) x34 x35 (.bool true) x37 x38 x39 x40 x41 x42 x43 x44 x45 x46 x47 x48 x49 x50 x51 x52 x53 x54 x55 x56 x57 x58 x59 W :=
  ⟨h.x, h.p0, h.p1, fun _ => rfl, h.p3, h.p4, h.p5, h.p6, h.p7, h.p8, h.p9, h.p10, h.p11, h.p12, h.p13, h.p14, h.p15, h.p16, h.p17, h.p18, h.p19, h.p20, h.p21, h.p22, h.p23, h.p24, h.p25⟩
theorem GB3.s3 (h : GB3 W1 g9 g10 RC SC ao n cap bo m bc L x34 x35 x36 x37 x38 x39 x40 x41 x42 x43 x44 x45 x46 x47 x48 x49 x50 x51 x52 x53 x54 x55 x56 x57 x58 x59 W) : GB3 W1 g9 g10 RC SC ao n cap bo m bc (upd L 3) x34 x35 x36 (.slice ao n cap) x38 x39 x40 x41 x42 x43 x44 x45 x46 x47 x48 x49 x50 x51 x52 x53 x54 x55 x56 x57 x58 x59 W :=
  ⟨h.x, h.p0, h.p1, h.p2, fun _ => rfl, h.p4, h.p5, h.p6, h.p7, h.p8, h.p9, h.p10, h.p11, h.p12, h.p13, h.p14, h.p15, h.p16, h.p17, h.p18, h.p19, h.p20, h.p21, h.p22, h.p23, h.p24, h.p25⟩
theorem GB3.s4 (h : GB3 W1 g9 g10 RC SC ao n cap bo m bc L x34 x35 x36 x37 x38 x39 x40 x41 x42 x43 x44 x45 x46 x47 x48 x49 x50 x51 x52 x53 x54 x55 x56 x57 x58 x59 W) : GB3 W1 g9 g10 RC SC ao n cap bo m bc (upd L 4) x34 x35 x36 x37 (.slice bo m bc) x39 x40 x41 x42 x43 x44 x45 x46 x47 x48 x49 x50 x51 x52 x53 x54 x55 x56 x57 x58 x59 W :=
  ⟨h.x, h.p0, h.p1, h.p2, h.p3, fun _ => rfl, h.p5, h.p6, h.p7, h.p8, h.p9, h.p10, h.p11, h.p12, h.p13, h.p14, h.p15, h.p16, h.p17, h.p18, h.p19, h.p20, h.p21, h.p22, h.p23, h.p24, h.p25⟩
theorem GB3.s5 (h : GB3 W1 g9 g10 RC SC ao n cap bo m bc L x34 x35 x36 x37 x38 x39 x40 x41 x42 x43 x44 x45 x46 x47 x48 x49 x50 x51 x52 x53 x54 x55 x56 x57 x58 x59 W) (hX : Below W1.heap.size W1 W2) : GB3 W1 g9 g10 RC SC ao n cap bo m bc (upd L 5) x34 x35 x36 x37 x38 (.bool false) x40 x41 x42 x43 x44 x45 x46 x47 x48 x49 x50 x51 x52 x53 x54 x55 x56 x57 x58 x59 W2 :=
  ⟨hX, h.p0, h.p1, h.p2, h.p3, h.p4, fun _ => rfl, h.p6, h.p7, h.p8, h.p9, h.p10, h.p11, h.p12, h.p13, h.p14, h.p15, h.p16, h.p17, h.p18, h.p19, h.p20, h.p21, h.p22, h.p23, h.p24, h.p25⟩
theorem GB3.s6 (h : GB3 W1 g9 g10 RC SC ao n cap bo m bc L x34 x35 x36 x37 x38 x39 x40 x41 x42 x43 x44 x45 x46 x47 x48 x49 x50 x51 x52 x53 x54 x55 x56 x57 x58 x59 W) : GB3 W1 g9 g10 RC SC ao n cap bo m bc (upd L 6) x34 x35 x36 x37 x38 x39 (.bool true) x41 x42 x43 x44 x45 x46 x47 x48 x49 x50 x51 x52 x53 x54 x55 x56 x57 x58 x59 W :=
  ⟨h.x, h.p0, h.p1, h.p2, h.p3, h.p4, h.p5, fun _ => rfl, h.p7, h.p8, h.p9, h.p10, h.p11, h.p12, h.p13, h.p14, h.p15, h.p16, h.p17, h.p18, h.p19, h.p20, h.p21, h.p22, h.p23, h.p24, h.p25⟩
theorem GB3.s7 (h : GB3 W1 g9 g10 RC SC ao n cap bo m bc L x34 x35 x36 x37 x38 x39 x40 x41 x42 x43 x44 x45 x46 x47 x48 x49 x50 x51 x52 x53 x54 x55 x56 x57 x58 x59 W) : GB3 W1 g9 g10 RC SC ao n cap bo m bc (upd L 7) x34 x35 x36 x37 x38 x39 x40 (.bool true) x42 x43 x44 x45 x46 x47 x48 x49 x50 x51 x52 x53 x54 x55 x56 x57 x58 x59 W :=
  ⟨h.x, h.p0, h.p1, h.p2, h.p3, h.p4, h.p5, h.p6, fun _ => rfl, h.p8, h.p9, h.p10, h.p11, h.p12, h.p13, h.p14, h.p15, h.p16, h.p17, h.p18, h.p19, h.p20, h.p21, h.p22, h.p23, h.p24, h.p25⟩
theorem GB3.s8 (h : GB3 W1 g9 g10 RC SC ao n cap bo m bc L x34 x35 x36 x37 x38 x39 x40 x41 x42 x43 x44 x45 x46 x47 x48 x49 x50 x51 x52 x53 x54 x55 x56 x57 x58 x59 W) : GB3 W1 g9 g10 RC SC ao n cap bo m bc (upd L 8) x34 x35 x36 x37 x38 x39 x40 x41 (.agg RC.toArray) x43 x44 x45 x46 x47 x48 x49 x50 x51 x52 x53 x54 x55 x56 x57 x58 x59 W :=
  ⟨h.x, h.p0, h.p1, h.p2, h.p3, h.p4, h.p5, h.p6, h.p7, fun _ => rfl, h.p9, h.p10, h.p11, h.p12, h.p13, h.p14, h.p15, h.p16, h.p17, h.p18, h.p19, h.p20, h.p21, h.p22, h.p23, h.p24, h.p25⟩
theorem GB3.s9 (h : GB3 W1 g9 g10 RC SC ao n cap bo m bc L x34 x35 x36 x37 x38 x39 x40 x41 x42 x43 x44 x45 x46 x47 x48 x49 x50 x51 x52 x53 x54 x55 x56 x57 x58 x59 W) : GB3 W1 g9 g10 RC SC ao n cap bo m bc (upd L 9) x34 x35 x36 x37 x38 x39 x40 x41 x42 (.agg SC.toArray) x44 x45 x46 x47 x48 x49 x50 x51 x52 x53 x54 x55 x56 x57 x58 x59 W :=
  ⟨h.x, h.p0, h.p1, h.p2, h.p3, h.p4, h.p5, h.p6, h.p7, h.p8, fun _ => rfl, h.p10, h.p11, h.p12, h.p13, h.p14, h.p15, h.p16, h.p17, h.p18, h.p19, h.p20, h.p21, h.p22, h.p23, h.p24, h.p25⟩
theorem GB3.s10 (h : GB3 W1 g9 g10 RC SC ao n cap bo m bc L x34 x35 x36 x37 x38 x39 x40 x41 x42 x43 x44 x45 x46 x47 x48 x49 x50 x51 x52 x53 x54 x55 x56 x57 x58 x59 W) : GB3 W1 g9 g10 RC SC ao n cap bo m bc (upd L 10) x34 x35 x36 x37 x38 x39 x40 x41 x42 x43 (.bool true) x45 x46 x47 x48 x49 x50 x51 x52 x53 x54 x55 x56 x57 x58 x59 W :=
  ⟨h.x, h.p0, h.p1, h.p2, h.p3, h.p4, h.p5, h.p6, h.p7, h.p8, h.p9, fun _ => rfl, h.p11, h.p12, h.p13, h.p14, h.p15, h.p16, h.p17, h.p18, h.p19, h.p20, h.p21, h.p22, h.p23, h.p24, h.p25⟩
theorem GB3.s11 (h : GB3 W1 g9 g10 RC SC ao n cap bo m bc L x34 x35 x36 x37 x38 x39 x40 x41 x42 x43 x44 x45 x46 x47 x48 x49 x50 x51 x52 x53 x54 x55 x56 x57 x58 x59 W) : GB3 W1 g9 g10 RC SC ao n cap bo m bc (upd L 11) x34 x35 x36 x37 x38 x39 x40 x41 x42 x43 x44 (.bool true) x46 x47 x48 x49 x50 x51 x52 x53 x54 x55 x56 x57 x58 x59 W :=
  ⟨h.x, h.p0, h.p1, h.p2, h.p3, h.p4, h.p5, h.p6, h.p7, h.p8, h.p9, h.p10, fun _ => rfl, h.p12, h.p13, h.p14, h.p15, h.p16, h.p17, h.p18, h.p19, h.p20, h.p21, h.p22, h.p23, h.p24, h.p25⟩
theorem GB3.s12 (h : GB3 W1 g9 g10 RC SC ao n cap bo m bc L x34 x35 x36 x37 x38 x39 x40 x41 x42 x43 x44 x45 x46 x47 x48 x49 x50 x51 x52 x53 x54 x55 x56 x57 x58 x59 W) : GB3 W1 g9 g10 RC SC ao n cap bo m bc (upd L 12) x34 x35 x36 x37 x38 x39 x40 x41 x42 x43 x44 x45 (.slice ao n cap) x47 x48 x49 x50 x51 x52 x53 x54 x55 x56 x57 x58 x59 W :=
  ⟨h.x, h.p0, h.p1, h.p2, h.p3, h.p4, h.p5, h.p6, h.p7, h.p8, h.p9, h.p10, h.p11, fun _ => rfl, h.p13, h.p14, h.p15, h.p16, h.p17, h.p18, h.p19, h.p20, h.p21, h.p22, h.p23, h.p24, h.p25⟩
theorem GB3.s13 (h : GB3 W1 g9 g10 RC SC ao n cap bo m bc L x34 x35 x36 x37 x38 x39 x40 x41 x42 x43 x44 x45 x46 x47 x48 x49 x50 x51 x52 x53 x54 x55 x56 x57 x58 x59 W) : GB3 W1 g9 g10 RC SC ao n cap bo m bc (upd L 13) x34 x35 x36 x37 x38 x39 x40 x41 x42 x43 x44 x45 x46 (.slice bo m bc) x48 x49 x50 x51 x52 x53 x54 x55 x56 x57 x58 x59 W :=
  ⟨h.x, h.p0, h.p1, h.p2, h.p3, h.p4, h.p5, h.p6, h.p7, h.p8, h.p9, h.p10, h.p11, h.p12, fun _ => rfl, h.p14, h.p15, h.p16, h.p17, h.p18, h.p19, h.p20, h.p21, h.p22, h.p23, h.p24, h.p25⟩
theorem GB3.s14 (h : GB3 W1 g9 g10 RC SC ao n cap bo m bc L x34 x35 x36 x37 x38 x39 x40 x41 x42 x43 x44 x45 x46 x47 x48 x49 x50 x51 x52 x53 x54 x55 x56 x57 x58 x59 W) (hX : Below W1.heap.size W1 W2) : GB3 W1 g9 g10 RC SC ao n cap bo m bc (upd L 14) x34 x35 x36 x37 x38 x39 x40 x41 x42 x43 x44 x45 x46 x47 (.bool false) x49 x50 x51 x52 x53 x54 x55 x56 x57 x58 x59 W2 :=
  ⟨hX, h.p0, h.p1, h.p2, h.p3, h.p4, h.p5, h.p6, h.p7, h.p8, h.p9, h.p10, h.p11, h.p12, h.p13, fun _ => rfl, h.p15, h.p16, h.p17, h.p18, h.p19, h.p20, h.p21, h.p22, h.p23, h.p24, h.p25⟩
theorem GB3.s15 (h : GB3 W1 g9 g10 RC SC ao n cap bo m bc L x34 x35 x36 x37 x38 x39 x40 x41 x42 x43 x44 x45 x46 x47 x48 x49 x50 x51 x52 x53 x54 x55 x56 x57 x58 x59 W) : GB3 W1 g9 g10 RC SC ao n cap bo m bc (upd L 15) x34 x35 x36 x37 x38 x39 x40 x41 x42 x43 x44 x45 x46 x47 x48 (.bool false) x50 x51 x52 x53 x54 x55 x56 x57 x58 x59 W :=
  ⟨h.x, h.p0, h.p1, h.p2, h.p3, h.p4, h.p5, h.p6, h.p7, h.p8, h.p9, h.p10, h.p11, h.p12, h.p13, h.p14, fun _ => rfl, h.p16, h.p17, h.p18, h.p19, h.p20, h.p21, h.p22, h.p23, h.p24, h.p25⟩
theorem GB3.s16 (h : GB3 W1 g9 g10 RC SC ao n cap bo m bc L x34 x35 x36 x37 x38 x39 x40 x41 x42 x43 x44 x45 x46 x47 x48 x49 x50 x51 x52 x53 x54 x55 x56 x57 x58 x59 W) : GB3 W1 g9 g10 RC SC ao n cap bo m bc (upd L 16) x34 x35 x36 x37 x38 x39 x40 x41 x42 x43 x44 x45 x46 x47 x48 x49 (.slice ao n cap) x51 x52 x53 x54 x55 x56 x57 x58 x59 W :=
  ⟨h.x, h.p0, h.p1, h.p2, h.p3, h.p4, h.p5, h.p6, h.p7, h.p8, h.p9, h.p10, h.p11, h.p12, h.p13, h.p14, h.p15, fun _ => rfl, h.p17, h.p18, h.p19, h.p20, h.p21, h.p22, h.p23, h.p24, h.p25⟩
theorem GB3.s17 (h : GB3 W1 g9 g10 RC SC ao n cap bo m bc L x34 x35 x36 x37 x38 x39 x40 x41 x42 x43 x44 x45 x46 x47 x48 x49 x50 x51 x52 x53 x54 x55 x56 x57 x58 x59 W) (hX : Below W1.heap.size W1 W2) : GB3 W1 g9 g10 RC SC ao n cap bo m bc (upd L 17) x34 x35 x36 x37 x38 x39 x40 x41 x42 x43 x44 x45 x46 x47 x48 x49 x50 (.bool false) x52 x53 x54 x55 x56 x57 x58 x59 W2 :=
  ⟨hX, h.p0, h.p1, h.p2, h.p3, h.p4, h.p5, h.p6, h.p7, h.p8, h.p9, h.p10, h.p11, h.p12, h.p13, h.p14, h.p15, h.p16, fun _ => rfl, h.p18, h.p19, h.p20, h.p21, h.p22, h.p23, h.p24, h.p25⟩
theorem GB3.s18 (h : GB3 W1 g9 g10 RC SC ao n cap bo m bc L x34 x35 x36 x37 x38 x39 x40 x41 x42 x43 x44 x45 x46 x47 x48 x49 x50 x51 x52 x53 x54 x55 x56 x57 x58 x59 W) : GB3 W1 g9 g10 RC SC ao n cap bo m bc (upd L 18) x34 x35 x36 x37 x38 x39 x40 x41 x42 x43 x44 x45 x46 x47 x48 x49 x50 x51 (.bool false) x53 x54 x55 x56 x57 x58 x59 W :=
  ⟨h.x, h.p0, h.p1, h.p2, h.p3, h.p4, h.p5, h.p6, h.p7, h.p8, h.p9, h.p10, h.p11, h.p12, h.p13, h.p14, h.p15, h.p16, h.p17, fun _ => rfl, h.p19, h.p20, h.p21, h.p22, h.p23, h.p24, h.p25⟩
theorem GB3.s19 (h : GB3 W1 g9 g10 RC SC ao n cap bo m bc L x34 x35 x36 x37 x38 x39 x40 x41 x42 x43 x44 x45 x46 x47 x48 x49 x50 x51 x52 x53 x54 x55 x56 x57 x58 x59 W) : GB3 W1 g9 g10 RC SC ao n cap bo m bc (upd L 19) x34 x35 x36 x37 x38 x39 x40 x41 x42 x43 x44 x45 x46 x47 x48 x49 x50 x51 x52 (.bool false) x54 x55 x56 x57 x58 x59 W :=
  ⟨h.x, h.p0, h.p1, h.p2, h.p3, h.p4, h.p5, h.p6, h.p7, h.p8, h.p9, h.p10, h.p11, h.p12, h.p13, h.p14, h.p15, h.p16, h.p17, h.p18, fun _ => rfl, h.p20, h.p21, h.p22, h.p23, h.p24, h.p25⟩
theorem GB3.s20 (h : GB3 W1 g9 g10 RC SC ao n cap bo m bc L x34 x35 x36 x37 x38 x39 x40 x41 x42 x43 x44 x45 x46 x47 x48 x49 x50 x51 x52 x53 x54 x55 x56 x57 x58 x59 W) : GB3 W1 g9 g10 RC SC ao n cap bo m bc (upd L 20) x34 x35 x36 x37 x38 x39 x40 x41 x42 x43 x44 x45 x46 x47 x48 x49 x50 x51 x52 x53 (.slice bo m bc) x55 x56 x57 x58 x59 W :=
  ⟨h.x, h.p0, h.p1, h.p2, h.p3, h.p4, h.p5, h.p6, h.p7, h.p8, h.p9, h.p10, h.p11, h.p12, h.p13, h.p14, h.p15, h.p16, h.p17, h.p18, h.p19, fun _ => rfl, h.p21, h.p22, h.p23, h.p24, h.p25⟩
theorem GB3.s21 (h : GB3 W1 g9 g10 RC SC ao n cap bo m bc L x34 x35 x36 x37 x38 x39 x40 x41 x42 x43 x44 x45 x46 x47 x48 x49 x50 x51 x52 x53 x54 x55 x56 x57 x58 x59 W) (hX : Below W1.heap.size W1 W2) : GB3 W1 g9 g10 RC SC ao n cap bo m bc (upd L 21) x34 x35 x36 x37 x38 x39 x40 x41 x42 x43 x44 x45 x46 x47 x48 x49 x50 x51 x52 x53 x54 (.bool true) x56 x57 x58 x59 W2 :=
  ⟨hX, h.p0, h.p1, h.p2, h.p3, h.p4, h.p5, h.p6, h.p7, h.p8, h.p9, h.p10, h.p11, h.p12, h.p13, h.p14, h.p15, h.p16, h.p17, h.p18, h.p19, h.p20, fun _ => rfl, h.p22, h.p23, h.p24, h.p25⟩
theorem GB3.s22 (h : GB3 W1 g9 g10 RC SC ao n cap bo m bc L x34 x35 x36 x37 x38 x39 x40 x41 x42 x43 x44 x45 x46 x47 x48 x49 x50 x51 x52 x53 x54 x55 x56 x57 x58 x59 W) : GB3 W1 g9 g10 RC SC ao n cap bo m bc (upd L 22) x34 x35 x36 x37 x38 x39 x40 x41 x42 x43 x44 x45 x46 x47 x48 x49 x50 x51 x52 x53 x54 x55 (.bool true) x57 x58 x59 W :=
  ⟨h.x, h.p0, h.p1, h.p2, h.p3, h.p4, h.p5, h.p6, h.p7, h.p8, h.p9, h.p10, h.p11, h.p12, h.p13, h.p14, h.p15, h.p16, h.p17, h.p18, h.p19, h.p20, h.p21, fun _ => rfl, h.p23, h.p24, h.p25⟩
theorem GB3.s23 (h : GB3 W1 g9 g10 RC SC ao n cap bo m bc L x34 x35 x36 x37 x38 x39 x40 x41 x42 x43 x44 x45 x46 x47 x48 x49 x50 x51 x52 x53 x54 x55 x56 x57 x58 x59 W) : GB3 W1 g9 g10 RC SC ao n cap bo m bc (upd L 23) x34 x35 x36 x37 x38 x39 x40 x41 x42 x43 x44 x45 x46 x47 x48 x49 x50 x51 x52 x53 x54 x55 x56 (.bool true) x58 x59 W :=
  ⟨h.x, h.p0, h.p1, h.p2, h.p3, h.p4, h.p5, h.p6, h.p7, h.p8, h.p9, h.p10, h.p11, h.p12, h.p13, h.p14, h.p15, h.p16, h.p17, h.p18, h.p19, h.p20, h.p21, h.p22, fun _ => rfl, h.p24, h.p25⟩
theorem GB3.s24 (h : GB3 W1 g9 g10 RC SC ao n cap bo m bc L x34 x35 x36 x37 x38 x39 x40 x41 x42 x43 x44 x45 x46 x47 x48 x49 x50 x51 x52 x53 x54 x55 x56 x57 x58 x59 W) : GB3 W1 g9 g10 RC SC ao n cap bo m bc (upd L 24) x34 x35 x36 x37 x38 x39 x40 x41 x42 x43 x44 x45 x46 x47 x48 x49 x50 x51 x52 x53 x54 x55 x56 x57 (.bool false) x59 W :=
  ⟨h.x, h.p0, h.p1, h.p2, h.p3, h.p4, h.p5, h.p6, h.p7, h.p8, h.p9, h.p10, h.p11, h.p12, h.p13, h.p14, h.p15, h.p16, h.p17, h.p18, h.p19, h.p20, h.p21, h.p22, h.p23, fun _ => rfl, h.p25⟩
theorem GB3.s25 (h : GB3 W1 g9 g10 RC SC ao n cap bo m bc L x34 x35 x36 x37 x38 x39 x40 x41 x42 x43 x44 x45 x46 x47 x48 x49 x50 x51 x52 x53 x54 x55 x56 x57 x58 x59 W) : GB3 W1 g9 g10 RC SC ao n cap bo m bc (upd L 25) x34 x35 x36 x37 x38 x39 x40 x41 x42 x43 x44 x45 x46 x47 x48 x49 x50 x51 x52 x53 x54 x55 x56 x57 x58 (.bool false) W :=
  ⟨h.x, h.p0, h.p1, h.p2, h.p3, h.p4, h.p5, h.p6, h.p7, h.p8, h.p9, h.p10, h.p11, h.p12, h.p13, h.p14, h.p15, h.p16, h.p17, h.p18, h.p19, h.p20, h.p21, h.p22, h.p23, h.p24, fun _ => rfl⟩
end
@[reducible] def IGB3 (W1 : World) (g9 g10 : Nat) (RC SC : List Value) (ao : Option Addr) (n cap : Nat) (bo : Option Addr) (m bc : Nat) (y0 y1 y2 y3 y4 y5 y6 y7 y8 y9 y10 y11 y12 y13 y14 y15 y16 y17 y18 y19 y20 y21 y22 y23 y24 y25 y26 y27 y28 y29 y30 y31 y32 y33 y60 y61 y62 y63 y64 y65 y66 y67 y68 y69 y70 y71 y72 y73 y74 y75 y76 y77 y78 y79 y80 y81 y82 y83 y84 : Value) : (Nat → Bool) → Act → World → Prop := fun L a W => ∃ x34 x35 x36 x37 x38 x39 x40 x41 x42 x43 x44 x45 x46 x47 x48 x49 x50 x51 x52 x53 x54 x55 x56 x57 x58 x59, a = ⟨#[y0, y1, y2, y3, y4, y5, y6, y7, y8, y9, y10, y11, y12, y13, y14, y15, y16, y17, y18, y19, y20, y21, y22, y23, y24, y25, y26, y27, y28, y29, y30, y31, y32, y33, x34, x35, x36, x37, x38, x39, x40, x41, x42, x43, x44, x45, x46, x47, x48, x49, x50, x51, x52, x53, x54, x55, x56, x57, x58, x59, y60, y61, y62, y63, y64, y65, y66, y67, y68, y69, y70, y71, y72, y73, y74, y75, y76, y77, y78, y79, y80, y81, y82, y83, y84], []⟩ ∧ GB3 W1 g9 g10 RC SC ao n cap bo m bc L x34 x35 x36 x37 x38 x39 x40 x41 x42 x43 x44 x45 x46 x47 x48 x49 x50 x51 x52 x53 x54 x55 x56 x57 x58 x59 W
theorem GB3.step {W1 : World} {g9 g10 : Nat} {RC SC : List Value} {ao : Option Addr} {n cap : Nat} {bo : Option Addr} {m bc : Nat} {y0 y1 y2 y3 y4 y5 y6 y7 y8 y9 y10 y11 y12 y13 y14 y15 y16 y17 y18 y19 y20 y21 y22 y23 y24 y25 y26 y27 y28 y29 y30 y31 y32 y33 y60 y61 y62 y63 y64 y65 y66 y67 y68 y69 y70 y71 y72 y73 y74 y75 y76 y77 y78 y79 y80 y81 y82 y83 y84 : Value} {P : Program} {ops : Array Oper} {Q : Exit → Act → World → Prop} {i : Nat} {o : Oper} (hq : ∀ x34 x35 x36 x37 x38 x39 x40 x41 x42 x43 x44 x45 x46 x47 x48 x49 x50 x51 x52 x53 x54 x55 x56 x57 x58 x59 (L : Nat → Bool) (W : World), GB3 W1 g9 g10 RC SC ao n cap bo m bc L x34 x35 x36 x37 x38 x39 x40 x41 x42 x43 x44 x45 x46 x47 x48 x49 x50 x51 x52 x53 x54 x55 x56 x57 x58 x59 W → L i = false → (∀ j ∈ onesOf o, L j = true) → ∀ K : Act → World → Prop, Shut (∀ a' w', IGB3 W1 g9 g10 RC SC ao n cap bo m bc y0 y1 y2 y3 y4 y5 y6 y7 y8 y9 y10 y11 y12 y13 y14 y15 y16 y17 y18 y19 y20 y21 y22 y23 y24 y25 y26 y27 y28 y29 y30 y31 y32 y33 y60 y61 y62 y63 y64 y65 y66 y67 y68 y69 y70 y71 y72 y73 y74 y75 y76 y77 y78 y79 y80 y81 y82 y83 y84 (upd L i) a' w' → K a' w') → if Region.wanted o (yielded ops (⟨#[y0, y1, y2, y3, y4, y5, y6, y7, y8, y9, y10, y11, y12, y13, y14, y15, y16, y17, y18, y19, y20, y21, y22, y23, y24, y25, y26, y27, y28, y29, y30, y31, y32, y33, x34, x35, x36, x37, x38, x39, x40, x41, x42, x43, x44, x45, x46, x47, x48, x49, x50, x51, x52, x53, x54, x55, x56, x57, x58, x59, y60, y61, y62, y63, y64, y65, y66, y67, y68, y69, y70, y71, y72, y73, y74, y75, y76, y77, y78, y79, y80, y81, y82, y83, y84], []⟩ : Act).tmps) = true then Oper.wp P o ⟨#[y0, y1, y2, y3, y4, y5, y6, y7, y8, y9, y10, y11, y12, y13, y14, y15, y16, y17, y18, y19, y20, y21, y22, y23, y24, y25, y26, y27, y28, y29, y30, y31, y32, y33, x34, x35, x36, x37, x38, x39, x40, x41, x42, x43, x44, x45, x46, x47, x48, x49, x50, x51, x52, x53, x54, x55, x56, x57, x58, x59, y60, y61, y62, y63, y64, y65, y66, y67, y68, y69, y70, y71, y72, y73, y74, y75, y76, y77, y78, y79, y80, y81, y82, y83, y84], []⟩ W K Q else K ((⟨#[y0, y1, y2, y3, y4, y5, y6, y7, y8, y9, y10, y11, y12, y13, y14, y15, y16, y17, y18, y19, y20, y21, y22, y23, y24, y25, y26, y27, y28, y29, y30, y31, y32, y33, x34, x35, x36, x37, x38, x39, x40, x41, x42, x43, x44, x45, x46, x47, x48, x49, x50, x51, x52, x53, x54, x55, x56, x57, x58, x59, y60, y61, y62, y63, y64, y65, y66, y67, y68, y69, y70, y71, y72, y73, y74, y75, y76, y77, y78, y79, y80, y81, y82, y83, y84], []⟩ : Act).put o.dst undef) W) : StepI P ops (IGB3 W1 g9 g10 RC SC ao n cap bo m bc y0 y1 y2 y3 y4 y5 y6 y7 y8 y9 y10 y11 y12 y13 y14 y15 y16 y17 y18 y19 y20 y21 y22 y23 y24 y25 y26 y27 y28 y29 y30 y31 y32 y33 y60 y61 y62 y63 y64 y65 y66 y67 y68 y69 y70 y71 y72 y73 y74 y75 y76 y77 y78 y79 y80 y81 y82 y83 y84) Q i o := by
  rintro L a W ⟨x34, x35, x36, x37, x38, x39, x40, x41, x42, x43, x44, x45, x46, x47, x48, x49, x50, x51, x52, x53, x54, x55, x56, x57, x58, x59, rfl, h⟩
  exact hq _ _ _ _ _ _ _ _ _ _ _ _ _ _ _ _ _ _ _ _ _ _ _ _ _ _ _ _ h
theorem GB3.ends {W1 : World} {g9 g10 : Nat} {RC SC : List Value} {ao : Option Addr} {n cap : Nat} {bo : Option Addr} {m bc : Nat} {y0 y1 y2 y3 y4 y5 y6 y7 y8 y9 y10 y11 y12 y13 y14 y15 y16 y17 y18 y19 y20 y21 y22 y23 y24 y25 y26 y27 y28 y29 y30 y31 y32 y33 y60 y61 y62 y63 y64 y65 y66 y67 y68 y69 y70 y71 y72 y73 y74 y75 y76 y77 y78 y79 y80 y81 y82 y83 y84 : Value} {mm_ : Nat} {Q : Exit → Act → World → Prop} (hq : ∀ x34 x35 x36 x37 x38 x39 x40 x41 x42 x43 x44 x45 x46 x47 x48 x49 x50 x51 x52 x53 x54 x55 x56 x57 x58 x59 (L : Nat → Bool) (W : World), (∀ j, j < mm_ → L j = true) → GB3 W1 g9 g10 RC SC ao n cap bo m bc L x34 x35 x36 x37 x38 x39 x40 x41 x42 x43 x44 x45 x46 x47 x48 x49 x50 x51 x52 x53 x54 x55 x56 x57 x58 x59 W → Q .normal ⟨#[y0, y1, y2, y3, y4, y5, y6, y7, y8, y9, y10, y11, y12, y13, y14, y15, y16, y17, y18, y19, y20, y21, y22, y23, y24, y25, y26, y27, y28, y29, y30, y31, y32, y33, x34, x35, x36, x37, x38, x39, x40, x41, x42, x43, x44, x45, x46, x47, x48, x49, x50, x51, x52, x53, x54, x55, x56, x57, x58, x59, y60, y61, y62, y63, y64, y65, y66, y67, y68, y69, y70, y71, y72, y73, y74, y75, y76, y77, y78, y79, y80, y81, y82, y83, y84], []⟩ W) : ∀ L a' w', (∀ j, j < mm_ → L j = true) → IGB3 W1 g9 g10 RC SC ao n cap bo m bc y0 y1 y2 y3 y4 y5 y6 y7 y8 y9 y10 y11 y12 y13 y14 y15 y16 y17 y18 y19 y20 y21 y22 y23 y24 y25 y26 y27 y28 y29 y30 y31 y32 y33 y60 y61 y62 y63 y64 y65 y66 y67 y68 y69 y70 y71 y72 y73 y74 y75 y76 y77 y78 y79 y80 y81 y82 y83 y84 L a' w' → Q .normal a' w' := by
  rintro L a W hall ⟨x34, x35, x36, x37, x38, x39, x40, x41, x42, x43, x44, x45, x46, x47, x48, x49, x50, x51, x52, x53, x54, x55, x56, x57, x58, x59, rfl, h⟩
  exact hq _ _ _ _ _ _ _ _ _ _ _ _ _ _ _ _ _ _ _ _ _ _ _ _ _ _ _ _ hall h
set_option maxHeartbeats 4000000 in
set_option maxRecDepth 1000000 in
theorem gst5 {Lg : (Nat → Prop) → World → Addr → List EvV → Prop} (C : Chn Lg) (w w6 : World) (lp : Addr) (g5 g9 g10 : Nat) (ao : Option Addr) (n cap B off : Nat) (xs : List EvV) (hn : xs.length = n) (h1023 : n ≤ 1023) (hao : 0 < n → ao = some ⟨B, off, none⟩) (hin : EvIn w B off xs) (bo : Option Addr) (m bc D dff : Nat) (ys : List EvV) (hm : ys.length = m) (hm1023 : m ≤ 1023) (hbo : 0 < m → bo = some ⟨D, dff, none⟩) (hiy : EvIn w D dff ys) (x : EvV) (hx : EvOk x) (hF : FW Lg w lp xs [(g10, 32, (reg ys).map B8), (g9, 32, (reg xs).map B8), (g5, 35, evC x)] w6) (c2 c3 c4 c6 c8 c11 c12 c13 c14 c15 c16 c17 c18 c19 c20 c21 c22 c23 c24 c25 c26 c27 c28 c29 c30 c31 c32 c33 c34 c35 c36 c37 c38 c39 c40 c41 c42 c43 c44 c45 c46 c47 c48 c49 c50 c51 c52 c53 c54 c55 c56 c57 c58 c59 c60 c61 c62 c63 c64 c65 c66 c67 c68 c69 c70 c71 c72 c73 c74 c75 c76 c77 c78 c79 c80 c81 c82 c83 c84 : Value) :
    Code.wp Try.prog (dropS 5 (Try.f7.body.getD .skip)) (bodyPost Try.prog Try.f7 (KP w)) ⟨#[.slice ao n cap, .slice bo m bc, c2, c3, c4, .pointer (some ⟨g5, 0, none⟩), c6, .pointer (some lp), c8, .pointer (some ⟨g9, 0, none⟩), .pointer (some ⟨g10, 0, none⟩), c11, c12, c13, c14, c15, c16, c17, c18, c19, c20, c21, c22, c23, c24, c25, c26, c27, c28, c29, c30, c31, c32, c33, c34, c35, c36, c37, c38, c39, c40, c41, c42, c43, c44, c45, c46, c47, c48, c49, c50, c51, c52, c53, c54, c55, c56, c57, c58, c59, c60, c61, c62, c63, c64, c65, c66, c67, c68, c69, c70, c71, c72, c73, c74, c75, c76, c77, c78, c79, c80, c81, c82, c83, c84], []⟩ w6 := by
  have bw := hF.bel
  have HIN : Hid (∀ W, Below w6.heap.size w6 W → EvIn W B off xs ∧ EvIn W D dff ys) := fun W hW => ⟨hin.keep (bw.trans (hW.mono bw.size)), hiy.keep (bw.trans (hW.mono bw.size))⟩
  have NX : Hid (∀ W, Below w6.heap.size w6 W → ∀ c1 c2 c3 c4 c6 c8 c10 c11 c12 c13 c14 c15 c16 c17 c18 c19 c20 c21 c22 c23 c24 c25 c26 c27 c28 c29 c30 c31 c32 c33 c34 c35 c36 c37 c38 c39 c40 c41 c42 c43 c44 c45 c46 c47 c48 c49 c50 c51 c52 c53 c54 c55 c56 c57 c58 c59 c60 c61 c62 c63 c64 c65 c66 c67 c68 c69 c70 c71 c72 c73 c74 c75 c76 c77 c78 c79 c80 c81 c82 c83 c84 : Value, Code.wp Try.prog (dropS 6 (Try.f7.body.getD .skip)) (bodyPost Try.prog Try.f7 (KP w)) ⟨#[.slice ao n cap, c1, c2, c3, c4, .pointer (some ⟨g5, 0, none⟩), c6, .pointer (some lp), c8, .pointer (some ⟨g9, 0, none⟩), c10, c11, c12, c13, c14, c15, c16, c17, c18, c19, c20, c21, c22, c23, c24, c25, c26, c27, c28, c29, c30, c31, c32, c33, c34, c35, c36, c37, c38, c39, c40, c41, c42, c43, c44, c45, c46, c47, c48, c49, c50, c51, c52, c53, c54, c55, c56, c57, c58, c59, c60, c61, c62, c63, c64, c65, c66, c67, c68, c69, c70, c71, c72, c73, c74, c75, c76, c77, c78, c79, c80, c81, c82, c83, c84], []⟩ W) := fun W hW c1 c2 c3 c4 c6 c8 c10 c11 c12 c13 c14 c15 c16 c17 c18 c19 c20 c21 c22 c23 c24 c25 c26 c27 c28 c29 c30 c31 c32 c33 c34 c35 c36 c37 c38 c39 c40 c41 c42 c43 c44 c45 c46 c47 c48 c49 c50 c51 c52 c53 c54 c55 c56 c57 c58 c59 c60 c61 c62 c63 c64 c65 c66 c67 c68 c69 c70 c71 c72 c73 c74 c75 c76 c77 c78 c79 c80 c81 c82 c83 c84 => gst6 C w W lp g5 g9 ao n cap xs hn h1023 x hx ((FW.below C hF hW).weaken fun t ht => List.mem_cons_of_mem _ ht) c1 c2 c3 c4 c6 c8 c10 c11 c12 c13 c14 c15 c16 c17 c18 c19 c20 c21 c22 c23 c24 c25 c26 c27 c28 c29 c30 c31 c32 c33 c34 c35 c36 c37 c38 c39 c40 c41 c42 c43 c44 c45 c46 c47 c48 c49 c50 c51 c52 c53 c54 c55 c56 c57 c58 c59 c60 c61 c62 c63 c64 c65 c66 c67 c68 c69 c70 c71 c72 c73 c74 c75 c76 c77 c78 c79 c80 c81 c82 c83 c84
  have RR : Hid (∀ W, Below w6.heap.size w6 W → W.rangeAt g9 0 ((reg xs).map B8)) := fun W hW => ((FW.row hF (List.mem_cons_of_mem _ (List.mem_cons_self ..))).below hW (FW.row hF (List.mem_cons_of_mem _ (List.mem_cons_self ..))).lt).rng0
  have RS : Hid (∀ W, Below w6.heap.size w6 W → W.rangeAt g10 0 ((reg ys).map B8)) := fun W hW => ((FW.row hF (List.mem_cons_self ..)).below hW (FW.row hF (List.mem_cons_self ..)).lt).rng0
  obtain ⟨sm, hsm⟩ : ∃ sm, sm = decide (xs = ys) := ⟨_, rfl⟩
  obtain ⟨rq, hrq⟩ : ∃ rq, rq = decide (reg xs = reg ys) := ⟨_, rfl⟩
  have SM : Hid (∀ W, Below w6.heap.size w6 W → Calls Try.prog 13 #[.slice ao n cap, .slice bo m bc] W fun e w' => e = .returned (.bool sm) ∧ Below W.heap.size W w') := fun W hW =>
    (rsame_any W ao n cap B off xs hn (by omega) hao (HIN.out W hW).1 bo m bc D dff ys hm hbo (HIN.out W hW).2 sm hsm).mono fun e w' h => ⟨h.1, Below_dr (Below.refl _ _) h.2⟩
  have ZX : Hid (∀ W, Below w6.heap.size w6 W → Calls Try.prog 24 #[.slice ao n cap] W fun e w' => e = .returned (.bool (zmet xs)) ∧ Below W.heap.size W w') := fun W hW => rzero_any W ao n cap B off xs hn (by omega) hao (HIN.out W hW).1
  have ZY : Hid (∀ W, Below w6.heap.size w6 W → Calls Try.prog 24 #[.slice bo m bc] W fun e w' => e = .returned (.bool (zmet ys)) ∧ Below W.heap.size W w') := fun W hW => rzero_any W bo m bc D dff ys hm (by omega) hbo (HIN.out W hW).2
  obtain ⟨CL, hCL⟩ : ∃ CL : Bool, CL = false ↔ ((tag [] (msg [] xs) = tag [] (msg [] ys) → msg [] xs = msg [] ys) ∧ NoClash (rowL xs xs.length ++ rowL ys ys.length)) := by
    by_cases h : (tag [] (msg [] xs) = tag [] (msg [] ys) → msg [] xs = msg [] ys) ∧ NoClash (rowL xs xs.length ++ rowL ys ys.length)
    · exact ⟨false, fun _ => h, fun _ => rfl⟩
    · exact ⟨true, fun e => (by cases e), fun h2 => absurd h2 h⟩
  have CQ : Hid (∀ W, Below w6.heap.size w6 W → Calls Try.prog 23 #[.slice none 0 0, .slice none 0 0, .slice ao n cap, .slice none 0 0, .slice bo m bc] W fun e w' => e = .returned (.bool CL) ∧ Below W.heap.size W w') := fun W hW =>
    (rclash_any W none 0 0 [] rfl (.inl rfl) (fun _ => rfl) (by omega) none 0 0 [] rfl (.inl rfl) (fun _ => rfl) (by omega) ao n cap B off xs hn (by omega) hao (HIN.out W hW).1 none 0 0 [] rfl (.inl rfl) (fun _ => rfl) (by omega) bo m bc D dff ys hm (by omega) hbo (HIN.out W hW).2).mono fun e w' ⟨r, h1, h2, h3⟩ => by
      refine ⟨?_, h2⟩
      have : r = CL := by
        cases r with
        | false => exact (hCL.2 (h3.1 rfl)).symm
        | true =>
          cases hc : CL with
          | true => rfl
          | false => exact absurd (h3.2 (hCL.1 hc)) (by decide)
      rw [h1, this]
  have HDAT : rq ≠ sm → rq = true ∧ sm = false ∧ (CL = true ∨ zmet xs = true ∨ zmet ys = true) := fun hne => by
    have h2 : ¬ xs = ys := fun e => hne (by rw [hrq, hsm, e]; simp)
    have h1 : reg xs = reg ys := by
      by_cases h : reg xs = reg ys
      · exact h
      · exact absurd (by rw [hrq, hsm, decide_eq_false h, decide_eq_false h2]) hne
    refine ⟨by rw [hrq]; exact decide_eq_true h1, by rw [hsm]; exact decide_eq_false h2, ?_⟩
    cases hc : CL with
    | true => exact .inl rfl
    | false =>
      rcases reg_inj _ xs ys rfl hin.all hiy.all (hCL.1 hc).2 h1 with h | h | h
      · exact absurd h h2
      · exact .inr (.inl h)
      · exact .inr (.inr h)
  have qe := eq_any (reg xs) (reg ys) (reg_len _) (reg_len _) rq hrq
  have lRR : ((reg xs).map B8).length = 32 := by rw [List.length_map]; exact reg_len _
  have lRS : ((reg ys).map B8).length = 32 := by rw [List.length_map]; exact reg_len _
  clear C hin hiy hn hm hao hbo hx hCL hrq hsm HIN hF bw h1023 hm1023
  generalize hZX : zmet xs = zx at *
  generalize hZY : zmet ys = zy at *
  generalize hRC : (reg xs).map B8 = RC at *
  generalize hSC : (reg ys).map B8 = SC at *
  clear hZX hZY hRC hSC
  conv => arg 2; whnf
  refine wp_seq_k fun K hK => ?_
  have HKK : Hid _ := hK
  clear hK
  by_cases hA : rq = sm
  · subst hA
    clear HDAT CQ ZX ZY
    go_wp2_with fail
    refine wp_region_inv (IGA w6 g9 g10 RC SC ao n cap bo m bc rq _ _ _ _ _ _ _ _ _ _ _ _ _ _ _ _ _ _ _ _ _ _ _ _ _ _ _ _ _ _ _ _ _ _ _ _ _ _ _ _ _ _ _ _ _ _ _ _ _ _ _ _ _ _ _ _ _ _ _) (by kernel_rfl) (by kernel_rfl) ⟨_, _, _, _, _, _, _, _, _, _, _, _, _, _, _, _, _, _, _, _, _, _, _, _, _, _, rfl, ⟨(Below.refl _ _).drew, fun k => (by cases k), fun k => (by cases k), fun k => (by cases k), fun k => (by cases k), fun k => (by cases k), fun k => (by cases k), fun k => (by cases k), fun k => (by cases k), fun k => (by cases k), fun k => (by cases k), fun k => (by cases k), fun k => (by cases k)⟩⟩ ?_ ?_
    · refine .cons ?_ (.cons ?_ (.cons ?_ (.cons ?_ (.cons ?_ (.cons ?_ (.cons ?_ (.cons ?_ (.cons ?_ (.cons ?_ (.cons ?_ (.cons ?_ (.cons ?_ (.cons ?_ (.cons ?_ (.cons ?_ (.cons ?_ (.cons ?_ (.cons ?_ (.cons ?_ (.cons ?_ (.cons ?_ (.cons ?_ (.cons ?_ (.cons ?_ (.cons ?_ .nil)))))))))))))))))))))))))
      all_goals (refine GA.step ?_; intro x34 x35 x36 x37 x38 x39 x40 x41 x42 x43 x44 x45 x46 x47 x48 x49 x50 x51 x52 x53 x54 x55 x56 x57 x58 x59 L W hI hL hd K hK)
      · refine step_load_rng rfl 32 _ rfl g9 0 RC (RR.out _ hI.x) rfl _ Try.underlying32 rfl (by rw [lRR]; kernel_rfl) ?_
        exact hK.out _ _ ⟨_, _, _, _, _, _, _, _, _, _, _, _, _, _, _, _, _, _, _, _, _, _, _, _, _, _, rfl, hI.s0⟩
      · refine step_load_rng rfl 32 _ rfl g10 0 SC (RS.out _ hI.x) rfl _ Try.underlying32 rfl (by rw [lRS]; kernel_rfl) ?_
        exact hK.out _ _ ⟨_, _, _, _, _, _, _, _, _, _, _, _, _, _, _, _, _, _, _, _, _, _, _, _, _, _, rfl, hI.s1⟩
      · have hx0 := hI.p0 (hd 0 (by decide))
        subst hx0
        have hx1 := hI.p1 (hd 1 (by decide))
        subst hx1
        rw [if_pos (by rfl)]
        go_simp
        exact hK.out _ _ ⟨_, _, _, _, _, _, _, _, _, _, _, _, _, _, _, _, _, _, _, _, _, _, _, _, _, _, rfl, hI.s2⟩
      · rw [if_pos (by rfl)]
        go_simp
        exact hK.out _ _ ⟨_, _, _, _, _, _, _, _, _, _, _, _, _, _, _, _, _, _, _, _, _, _, _, _, _, _, rfl, hI.s3⟩
      · rw [if_pos (by rfl)]
        go_simp
        exact hK.out _ _ ⟨_, _, _, _, _, _, _, _, _, _, _, _, _, _, _, _, _, _, _, _, _, _, _, _, _, _, rfl, hI.s4⟩
      · have hx3 := hI.p3 (hd 3 (by decide))
        subst hx3
        have hx4 := hI.p4 (hd 4 (by decide))
        subst hx4
        rw [if_pos (by rfl)]
        go_simp
        refine (SM.out _ hI.x).mono ?_
        rintro e W2 ⟨rfl, b2⟩
        go_simp
        have hX := hI.x.trans (b2.mono hI.x.size)
        exact hK.out _ _ ⟨_, _, _, _, _, _, _, _, _, _, _, _, _, _, _, _, _, _, _, _, _, _, _, _, _, _, rfl, hI.s5 hX⟩
      · have hx2 := hI.p2 (hd 2 (by decide))
        subst hx2
        have hx5 := hI.p5 (hd 5 (by decide))
        subst hx5
        rw [if_pos (by rfl)]
        go_simp
        exact hK.out _ _ ⟨_, _, _, _, _, _, _, _, _, _, _, _, _, _, _, _, _, _, _, _, _, _, _, _, _, _, rfl, hI.s6⟩
      · have hx6 := hI.p6 (hd 6 (by decide))
        subst hx6
        rw [if_pos (by rfl)]
        go_simp
        exact hK.out _ _ ⟨_, _, _, _, _, _, _, _, _, _, _, _, _, _, _, _, _, _, _, _, _, _, _, _, _, _, rfl, hI.s7⟩
      · have hx7 := hI.p7 (hd 7 (by decide))
        subst hx7
        rw [if_neg (by first | decide | exact Bool.false_ne_true)]
        exact hK.out _ _ ⟨_, _, _, _, _, _, _, _, _, _, _, _, _, _, _, _, _, _, _, _, _, _, _, _, _, _, rfl, hI.s8⟩
      · have hx7 := hI.p7 (hd 7 (by decide))
        subst hx7
        rw [if_neg (by first | decide | exact Bool.false_ne_true)]
        exact hK.out _ _ ⟨_, _, _, _, _, _, _, _, _, _, _, _, _, _, _, _, _, _, _, _, _, _, _, _, _, _, rfl, hI.s9⟩
      · have hx7 := hI.p7 (hd 7 (by decide))
        subst hx7
        rw [if_neg (by first | decide | exact Bool.false_ne_true)]
        exact hK.out _ _ ⟨_, _, _, _, _, _, _, _, _, _, _, _, _, _, _, _, _, _, _, _, _, _, _, _, _, _, rfl, hI.s10⟩
      · have hx7 := hI.p7 (hd 7 (by decide))
        subst hx7
        rw [if_neg (by first | decide | exact Bool.false_ne_true)]
        exact hK.out _ _ ⟨_, _, _, _, _, _, _, _, _, _, _, _, _, _, _, _, _, _, _, _, _, _, _, _, _, _, rfl, hI.s11⟩
      · have hx11 := hI.p11 (hd 11 (by decide))
        subst hx11
        rw [if_neg (by first | decide | exact Bool.false_ne_true)]
        exact hK.out _ _ ⟨_, _, _, _, _, _, _, _, _, _, _, _, _, _, _, _, _, _, _, _, _, _, _, _, _, _, rfl, hI.s12⟩
      · have hx11 := hI.p11 (hd 11 (by decide))
        subst hx11
        rw [if_neg (by first | decide | exact Bool.false_ne_true)]
        exact hK.out _ _ ⟨_, _, _, _, _, _, _, _, _, _, _, _, _, _, _, _, _, _, _, _, _, _, _, _, _, _, rfl, hI.s13⟩
      · have hx11 := hI.p11 (hd 11 (by decide))
        subst hx11
        rw [if_neg (by first | decide | exact Bool.false_ne_true)]
        exact hK.out _ _ ⟨_, _, _, _, _, _, _, _, _, _, _, _, _, _, _, _, _, _, _, _, _, _, _, _, _, _, rfl, hI.s14⟩
      · have hx11 := hI.p11 (hd 11 (by decide))
        subst hx11
        rw [if_neg (by first | decide | exact Bool.false_ne_true)]
        exact hK.out _ _ ⟨_, _, _, _, _, _, _, _, _, _, _, _, _, _, _, _, _, _, _, _, _, _, _, _, _, _, rfl, hI.s15⟩
      · have hx15 := hI.p15 (hd 15 (by decide))
        subst hx15
        rw [if_neg (by first | decide | exact Bool.false_ne_true)]
        exact hK.out _ _ ⟨_, _, _, _, _, _, _, _, _, _, _, _, _, _, _, _, _, _, _, _, _, _, _, _, _, _, rfl, hI.s16⟩
      · have hx15 := hI.p15 (hd 15 (by decide))
        subst hx15
        rw [if_neg (by first | decide | exact Bool.false_ne_true)]
        exact hK.out _ _ ⟨_, _, _, _, _, _, _, _, _, _, _, _, _, _, _, _, _, _, _, _, _, _, _, _, _, _, rfl, hI.s17⟩
      · have hx15 := hI.p15 (hd 15 (by decide))
        subst hx15
        have hx11 := hI.p11 (hd 11 (by decide))
        subst hx11
        rw [if_neg (by first | decide | exact Bool.false_ne_true)]
        exact hK.out _ _ ⟨_, _, _, _, _, _, _, _, _, _, _, _, _, _, _, _, _, _, _, _, _, _, _, _, _, _, rfl, hI.s18⟩
      · have hx11 := hI.p11 (hd 11 (by decide))
        subst hx11
        rw [if_neg (by first | decide | exact Bool.false_ne_true)]
        exact hK.out _ _ ⟨_, _, _, _, _, _, _, _, _, _, _, _, _, _, _, _, _, _, _, _, _, _, _, _, _, _, rfl, hI.s19⟩
      · have hx19 := hI.p19 (hd 19 (by decide))
        subst hx19
        rw [if_neg (by first | decide | exact Bool.false_ne_true)]
        exact hK.out _ _ ⟨_, _, _, _, _, _, _, _, _, _, _, _, _, _, _, _, _, _, _, _, _, _, _, _, _, _, rfl, hI.s20⟩
      · have hx19 := hI.p19 (hd 19 (by decide))
        subst hx19
        rw [if_neg (by first | decide | exact Bool.false_ne_true)]
        exact hK.out _ _ ⟨_, _, _, _, _, _, _, _, _, _, _, _, _, _, _, _, _, _, _, _, _, _, _, _, _, _, rfl, hI.s21⟩
      · have hx19 := hI.p19 (hd 19 (by decide))
        subst hx19
        have hx11 := hI.p11 (hd 11 (by decide))
        subst hx11
        rw [if_neg (by first | decide | exact Bool.false_ne_true)]
        exact hK.out _ _ ⟨_, _, _, _, _, _, _, _, _, _, _, _, _, _, _, _, _, _, _, _, _, _, _, _, _, _, rfl, hI.s22⟩
      · have hx11 := hI.p11 (hd 11 (by decide))
        subst hx11
        have hx7 := hI.p7 (hd 7 (by decide))
        subst hx7
        rw [if_neg (by first | decide | exact Bool.false_ne_true)]
        exact hK.out _ _ ⟨_, _, _, _, _, _, _, _, _, _, _, _, _, _, _, _, _, _, _, _, _, _, _, _, _, _, rfl, hI.s23⟩
      · have hx7 := hI.p7 (hd 7 (by decide))
        subst hx7
        rw [if_neg (by first | decide | exact Bool.false_ne_true)]
        exact hK.out _ _ ⟨_, _, _, _, _, _, _, _, _, _, _, _, _, _, _, _, _, _, _, _, _, _, _, _, _, _, rfl, hI.s24⟩
      · have hx7 := hI.p7 (hd 7 (by decide))
        subst hx7
        rw [if_pos (by rfl)]
        go_simp
        exact hK.out _ _ ⟨_, _, _, _, _, _, _, _, _, _, _, _, _, _, _, _, _, _, _, _, _, _, _, _, _, _, rfl, hI.s25⟩
    · refine GA.ends ?_; intro x34 x35 x36 x37 x38 x39 x40 x41 x42 x43 x44 x45 x46 x47 x48 x49 x50 x51 x52 x53 x54 x55 x56 x57 x58 x59 L W hall hI
      have hx0 := hI.p0 (hall 0 (by decide))
      subst hx0
      have hx1 := hI.p1 (hall 1 (by decide))
      subst hx1
      have hx2 := hI.p2 (hall 2 (by decide))
      subst hx2
      have hx3 := hI.p3 (hall 3 (by decide))
      subst hx3
      have hx4 := hI.p4 (hall 4 (by decide))
      subst hx4
      have hx5 := hI.p5 (hall 5 (by decide))
      subst hx5
      have hx6 := hI.p6 (hall 6 (by decide))
      subst hx6
      have hx7 := hI.p7 (hall 7 (by decide))
      subst hx7
      have hx11 := hI.p11 (hall 11 (by decide))
      subst hx11
      have hx15 := hI.p15 (hall 15 (by decide))
      subst hx15
      have hx19 := hI.p19 (hall 19 (by decide))
      subst hx19
      have hx25 := hI.p25 (hall 25 (by decide))
      subst hx25
      have hXe := hI.x
      clear hI hall
      try dsimp only
      go_wp2
      refine HKK.out _ _ ?_
      exact NX.out _ hXe _ _ _ _ _ _ _ _ _ _ _ _ _ _ _ _ _ _ _ _ _ _ _ _ _ _ _ _ _ _ _ _ _ _ _ _ _ _ _ _ _ _ _ _ _ _ _ _ _ _ _ _ _ _ _ _ _ _ _ _ _ _ _ _ _ _ _ _ _ _ _ _ _ _ _ _ _ _ _ _ _
  · obtain ⟨rfl, rfl, hB⟩ := HDAT hA
    clear HDAT hA
    cases hc : CL with
    | true =>
      subst hc
      clear ZX ZY hB
      go_wp2_with fail
      refine wp_region_inv (IGB1 w6 g9 g10 RC SC ao n cap bo m bc _ _ _ _ _ _ _ _ _ _ _ _ _ _ _ _ _ _ _ _ _ _ _ _ _ _ _ _ _ _ _ _ _ _ _ _ _ _ _ _ _ _ _ _ _ _ _ _ _ _ _ _ _ _ _ _ _ _ _) (by kernel_rfl) (by kernel_rfl) ⟨_, _, _, _, _, _, _, _, _, _, _, _, _, _, _, _, _, _, _, _, _, _, _, _, _, _, rfl, ⟨(Below.refl _ _).drew, fun k => (by cases k), fun k => (by cases k), fun k => (by cases k), fun k => (by cases k), fun k => (by cases k), fun k => (by cases k), fun k => (by cases k), fun k => (by cases k), fun k => (by cases k), fun k => (by cases k), fun k => (by cases k), fun k => (by cases k), fun k => (by cases k), fun k => (by cases k), fun k => (by cases k), fun k => (by cases k), fun k => (by cases k), fun k => (by cases k), fun k => (by cases k), fun k => (by cases k), fun k => (by cases k), fun k => (by cases k)⟩⟩ ?_ ?_
      · refine .cons ?_ (.cons ?_ (.cons ?_ (.cons ?_ (.cons ?_ (.cons ?_ (.cons ?_ (.cons ?_ (.cons ?_ (.cons ?_ (.cons ?_ (.cons ?_ (.cons ?_ (.cons ?_ (.cons ?_ (.cons ?_ (.cons ?_ (.cons ?_ (.cons ?_ (.cons ?_ (.cons ?_ (.cons ?_ (.cons ?_ (.cons ?_ (.cons ?_ (.cons ?_ .nil)))))))))))))))))))))))))
        all_goals (refine GB1.step ?_; intro x34 x35 x36 x37 x38 x39 x40 x41 x42 x43 x44 x45 x46 x47 x48 x49 x50 x51 x52 x53 x54 x55 x56 x57 x58 x59 L W hI hL hd K hK)
        · refine step_load_rng rfl 32 _ rfl g9 0 RC (RR.out _ hI.x) rfl _ Try.underlying32 rfl (by rw [lRR]; kernel_rfl) ?_
          exact hK.out _ _ ⟨_, _, _, _, _, _, _, _, _, _, _, _, _, _, _, _, _, _, _, _, _, _, _, _, _, _, rfl, hI.s0⟩
        · refine step_load_rng rfl 32 _ rfl g10 0 SC (RS.out _ hI.x) rfl _ Try.underlying32 rfl (by rw [lRS]; kernel_rfl) ?_
          exact hK.out _ _ ⟨_, _, _, _, _, _, _, _, _, _, _, _, _, _, _, _, _, _, _, _, _, _, _, _, _, _, rfl, hI.s1⟩
        · have hx0 := hI.p0 (hd 0 (by decide))
          subst hx0
          have hx1 := hI.p1 (hd 1 (by decide))
          subst hx1
          rw [if_pos (by rfl)]
          go_simp
          exact hK.out _ _ ⟨_, _, _, _, _, _, _, _, _, _, _, _, _, _, _, _, _, _, _, _, _, _, _, _, _, _, rfl, hI.s2⟩
        · rw [if_pos (by rfl)]
          go_simp
          exact hK.out _ _ ⟨_, _, _, _, _, _, _, _, _, _, _, _, _, _, _, _, _, _, _, _, _, _, _, _, _, _, rfl, hI.s3⟩
        · rw [if_pos (by rfl)]
          go_simp
          exact hK.out _ _ ⟨_, _, _, _, _, _, _, _, _, _, _, _, _, _, _, _, _, _, _, _, _, _, _, _, _, _, rfl, hI.s4⟩
        · have hx3 := hI.p3 (hd 3 (by decide))
          subst hx3
          have hx4 := hI.p4 (hd 4 (by decide))
          subst hx4
          rw [if_pos (by rfl)]
          go_simp
          refine (SM.out _ hI.x).mono ?_
          rintro e W2 ⟨rfl, b2⟩
          go_simp
          have hX := hI.x.trans (b2.mono hI.x.size)
          exact hK.out _ _ ⟨_, _, _, _, _, _, _, _, _, _, _, _, _, _, _, _, _, _, _, _, _, _, _, _, _, _, rfl, hI.s5 hX⟩
        · have hx2 := hI.p2 (hd 2 (by decide))
          subst hx2
          have hx5 := hI.p5 (hd 5 (by decide))
          subst hx5
          rw [if_pos (by rfl)]
          go_simp
          exact hK.out _ _ ⟨_, _, _, _, _, _, _, _, _, _, _, _, _, _, _, _, _, _, _, _, _, _, _, _, _, _, rfl, hI.s6⟩
        · have hx6 := hI.p6 (hd 6 (by decide))
          subst hx6
          rw [if_pos (by rfl)]
          go_simp
          exact hK.out _ _ ⟨_, _, _, _, _, _, _, _, _, _, _, _, _, _, _, _, _, _, _, _, _, _, _, _, _, _, rfl, hI.s7⟩
        · have hx7 := hI.p7 (hd 7 (by decide))
          subst hx7
          refine step_load_rng rfl 32 _ rfl g9 0 RC (RR.out _ hI.x) rfl _ Try.underlying32 rfl (by rw [lRR]; kernel_rfl) ?_
          exact hK.out _ _ ⟨_, _, _, _, _, _, _, _, _, _, _, _, _, _, _, _, _, _, _, _, _, _, _, _, _, _, rfl, hI.s8⟩
        · have hx7 := hI.p7 (hd 7 (by decide))
          subst hx7
          refine step_load_rng rfl 32 _ rfl g10 0 SC (RS.out _ hI.x) rfl _ Try.underlying32 rfl (by rw [lRS]; kernel_rfl) ?_
          exact hK.out _ _ ⟨_, _, _, _, _, _, _, _, _, _, _, _, _, _, _, _, _, _, _, _, _, _, _, _, _, _, rfl, hI.s9⟩
        · have hx8 := hI.p8 (hd 8 (by decide))
          subst hx8
          have hx9 := hI.p9 (hd 9 (by decide))
          subst hx9
          have hx7 := hI.p7 (hd 7 (by decide))
          subst hx7
          rw [if_pos (by rfl)]
          go_simp
          exact hK.out _ _ ⟨_, _, _, _, _, _, _, _, _, _, _, _, _, _, _, _, _, _, _, _, _, _, _, _, _, _, rfl, hI.s10⟩
        · have hx10 := hI.p10 (hd 10 (by decide))
          subst hx10
          have hx7 := hI.p7 (hd 7 (by decide))
          subst hx7
          rw [if_pos (by rfl)]
          go_simp
          exact hK.out _ _ ⟨_, _, _, _, _, _, _, _, _, _, _, _, _, _, _, _, _, _, _, _, _, _, _, _, _, _, rfl, hI.s11⟩
        · have hx11 := hI.p11 (hd 11 (by decide))
          subst hx11
          rw [if_pos (by rfl)]
          go_simp
          exact hK.out _ _ ⟨_, _, _, _, _, _, _, _, _, _, _, _, _, _, _, _, _, _, _, _, _, _, _, _, _, _, rfl, hI.s12⟩
        · have hx11 := hI.p11 (hd 11 (by decide))
          subst hx11
          rw [if_pos (by rfl)]
          go_simp
          exact hK.out _ _ ⟨_, _, _, _, _, _, _, _, _, _, _, _, _, _, _, _, _, _, _, _, _, _, _, _, _, _, rfl, hI.s13⟩
        · have hx12 := hI.p12 (hd 12 (by decide))
          subst hx12
          have hx13 := hI.p13 (hd 13 (by decide))
          subst hx13
          have hx11 := hI.p11 (hd 11 (by decide))
          subst hx11
          rw [if_pos (by rfl)]
          go_simp
          refine (CQ.out _ hI.x).mono ?_
          rintro e W2 ⟨rfl, b2⟩
          go_simp
          have hX := hI.x.trans (b2.mono hI.x.size)
          exact hK.out _ _ ⟨_, _, _, _, _, _, _, _, _, _, _, _, _, _, _, _, _, _, _, _, _, _, _, _, _, _, rfl, hI.s14 hX⟩
        · have hx14 := hI.p14 (hd 14 (by decide))
          subst hx14
          have hx11 := hI.p11 (hd 11 (by decide))
          subst hx11
          rw [if_pos (by rfl)]
          go_simp
          exact hK.out _ _ ⟨_, _, _, _, _, _, _, _, _, _, _, _, _, _, _, _, _, _, _, _, _, _, _, _, _, _, rfl, hI.s15⟩
        · have hx15 := hI.p15 (hd 15 (by decide))
          subst hx15
          rw [if_neg (by first | decide | exact Bool.false_ne_true)]
          exact hK.out _ _ ⟨_, _, _, _, _, _, _, _, _, _, _, _, _, _, _, _, _, _, _, _, _, _, _, _, _, _, rfl, hI.s16⟩
        · have hx15 := hI.p15 (hd 15 (by decide))
          subst hx15
          rw [if_neg (by first | decide | exact Bool.false_ne_true)]
          exact hK.out _ _ ⟨_, _, _, _, _, _, _, _, _, _, _, _, _, _, _, _, _, _, _, _, _, _, _, _, _, _, rfl, hI.s17⟩
        · have hx15 := hI.p15 (hd 15 (by decide))
          subst hx15
          have hx11 := hI.p11 (hd 11 (by decide))
          subst hx11
          rw [if_pos (by rfl)]
          go_simp
          exact hK.out _ _ ⟨_, _, _, _, _, _, _, _, _, _, _, _, _, _, _, _, _, _, _, _, _, _, _, _, _, _, rfl, hI.s18⟩
        · have hx18 := hI.p18 (hd 18 (by decide))
          subst hx18
          have hx11 := hI.p11 (hd 11 (by decide))
          subst hx11
          rw [if_pos (by rfl)]
          go_simp
          exact hK.out _ _ ⟨_, _, _, _, _, _, _, _, _, _, _, _, _, _, _, _, _, _, _, _, _, _, _, _, _, _, rfl, hI.s19⟩
        · have hx19 := hI.p19 (hd 19 (by decide))
          subst hx19
          rw [if_neg (by first | decide | exact Bool.false_ne_true)]
          exact hK.out _ _ ⟨_, _, _, _, _, _, _, _, _, _, _, _, _, _, _, _, _, _, _, _, _, _, _, _, _, _, rfl, hI.s20⟩
        · have hx19 := hI.p19 (hd 19 (by decide))
          subst hx19
          rw [if_neg (by first | decide | exact Bool.false_ne_true)]
          exact hK.out _ _ ⟨_, _, _, _, _, _, _, _, _, _, _, _, _, _, _, _, _, _, _, _, _, _, _, _, _, _, rfl, hI.s21⟩
        · have hx19 := hI.p19 (hd 19 (by decide))
          subst hx19
          have hx11 := hI.p11 (hd 11 (by decide))
          subst hx11
          rw [if_pos (by rfl)]
          go_simp
          exact hK.out _ _ ⟨_, _, _, _, _, _, _, _, _, _, _, _, _, _, _, _, _, _, _, _, _, _, _, _, _, _, rfl, hI.s22⟩
        · have hx11 := hI.p11 (hd 11 (by decide))
          subst hx11
          have hx22 := hI.p22 (hd 22 (by decide))
          subst hx22
          have hx7 := hI.p7 (hd 7 (by decide))
          subst hx7
          rw [if_pos (by rfl)]
          go_simp
          exact hK.out _ _ ⟨_, _, _, _, _, _, _, _, _, _, _, _, _, _, _, _, _, _, _, _, _, _, _, _, _, _, rfl, hI.s23⟩
        · have hx23 := hI.p23 (hd 23 (by decide))
          subst hx23
          have hx7 := hI.p7 (hd 7 (by decide))
          subst hx7
          rw [if_pos (by rfl)]
          go_simp
          exact hK.out _ _ ⟨_, _, _, _, _, _, _, _, _, _, _, _, _, _, _, _, _, _, _, _, _, _, _, _, _, _, rfl, hI.s24⟩
        · have hx7 := hI.p7 (hd 7 (by decide))
          subst hx7
          have hx24 := hI.p24 (hd 24 (by decide))
          subst hx24
          rw [if_pos (by rfl)]
          go_simp
          exact hK.out _ _ ⟨_, _, _, _, _, _, _, _, _, _, _, _, _, _, _, _, _, _, _, _, _, _, _, _, _, _, rfl, hI.s25⟩
      · refine GB1.ends ?_; intro x34 x35 x36 x37 x38 x39 x40 x41 x42 x43 x44 x45 x46 x47 x48 x49 x50 x51 x52 x53 x54 x55 x56 x57 x58 x59 L W hall hI
        have hx0 := hI.p0 (hall 0 (by decide))
        subst hx0
        have hx1 := hI.p1 (hall 1 (by decide))
        subst hx1
        have hx2 := hI.p2 (hall 2 (by decide))
        subst hx2
        have hx3 := hI.p3 (hall 3 (by decide))
        subst hx3
        have hx4 := hI.p4 (hall 4 (by decide))
        subst hx4
        have hx5 := hI.p5 (hall 5 (by decide))
        subst hx5
        have hx6 := hI.p6 (hall 6 (by decide))
        subst hx6
        have hx7 := hI.p7 (hall 7 (by decide))
        subst hx7
        have hx8 := hI.p8 (hall 8 (by decide))
        subst hx8
        have hx9 := hI.p9 (hall 9 (by decide))
        subst hx9
        have hx10 := hI.p10 (hall 10 (by decide))
        subst hx10
        have hx11 := hI.p11 (hall 11 (by decide))
        subst hx11
        have hx12 := hI.p12 (hall 12 (by decide))
        subst hx12
        have hx13 := hI.p13 (hall 13 (by decide))
        subst hx13
        have hx14 := hI.p14 (hall 14 (by decide))
        subst hx14
        have hx15 := hI.p15 (hall 15 (by decide))
        subst hx15
        have hx18 := hI.p18 (hall 18 (by decide))
        subst hx18
        have hx19 := hI.p19 (hall 19 (by decide))
        subst hx19
        have hx22 := hI.p22 (hall 22 (by decide))
        subst hx22
        have hx23 := hI.p23 (hall 23 (by decide))
        subst hx23
        have hx24 := hI.p24 (hall 24 (by decide))
        subst hx24
        have hx25 := hI.p25 (hall 25 (by decide))
        subst hx25
        have hXe := hI.x
        clear hI hall
        try dsimp only
        go_wp2
        refine HKK.out _ _ ?_
        exact NX.out _ hXe _ _ _ _ _ _ _ _ _ _ _ _ _ _ _ _ _ _ _ _ _ _ _ _ _ _ _ _ _ _ _ _ _ _ _ _ _ _ _ _ _ _ _ _ _ _ _ _ _ _ _ _ _ _ _ _ _ _ _ _ _ _ _ _ _ _ _ _ _ _ _ _ _ _ _ _ _ _ _ _ _
    | false =>
      subst hc
      cases hzx : zx with
      | true =>
        subst hzx
        clear ZY hB
        go_wp2_with fail
        refine wp_region_inv (IGB2 w6 g9 g10 RC SC ao n cap bo m bc _ _ _ _ _ _ _ _ _ _ _ _ _ _ _ _ _ _ _ _ _ _ _ _ _ _ _ _ _ _ _ _ _ _ _ _ _ _ _ _ _ _ _ _ _ _ _ _ _ _ _ _ _ _ _ _ _ _ _) (by kernel_rfl) (by kernel_rfl) ⟨_, _, _, _, _, _, _, _, _, _, _, _, _, _, _, _, _, _, _, _, _, _, _, _, _, _, rfl, ⟨(Below.refl _ _).drew, fun k => (by cases k), fun k => (by cases k), fun k => (by cases k), fun k => (by cases k), fun k => (by cases k), fun k => (by cases k), fun k => (by cases k), fun k => (by cases k), fun k => (by cases k), fun k => (by cases k), fun k => (by cases k), fun k => (by cases k), fun k => (by cases k), fun k => (by cases k), fun k => (by cases k), fun k => (by cases k), fun k => (by cases k), fun k => (by cases k), fun k => (by cases k), fun k => (by cases k), fun k => (by cases k), fun k => (by cases k), fun k => (by cases k), fun k => (by cases k)⟩⟩ ?_ ?_
        · refine .cons ?_ (.cons ?_ (.cons ?_ (.cons ?_ (.cons ?_ (.cons ?_ (.cons ?_ (.cons ?_ (.cons ?_ (.cons ?_ (.cons ?_ (.cons ?_ (.cons ?_ (.cons ?_ (.cons ?_ (.cons ?_ (.cons ?_ (.cons ?_ (.cons ?_ (.cons ?_ (.cons ?_ (.cons ?_ (.cons ?_ (.cons ?_ (.cons ?_ (.cons ?_ .nil)))))))))))))))))))))))))
          all_goals (refine GB2.step ?_; intro x34 x35 x36 x37 x38 x39 x40 x41 x42 x43 x44 x45 x46 x47 x48 x49 x50 x51 x52 x53 x54 x55 x56 x57 x58 x59 L W hI hL hd K hK)
          · refine step_load_rng rfl 32 _ rfl g9 0 RC (RR.out _ hI.x) rfl _ Try.underlying32 rfl (by rw [lRR]; kernel_rfl) ?_
            exact hK.out _ _ ⟨_, _, _, _, _, _, _, _, _, _, _, _, _, _, _, _, _, _, _, _, _, _, _, _, _, _, rfl, hI.s0⟩
          · refine step_load_rng rfl 32 _ rfl g10 0 SC (RS.out _ hI.x) rfl _ Try.underlying32 rfl (by rw [lRS]; kernel_rfl) ?_
            exact hK.out _ _ ⟨_, _, _, _, _, _, _, _, _, _, _, _, _, _, _, _, _, _, _, _, _, _, _, _, _, _, rfl, hI.s1⟩
          · have hx0 := hI.p0 (hd 0 (by decide))
            subst hx0
            have hx1 := hI.p1 (hd 1 (by decide))
            subst hx1
            rw [if_pos (by rfl)]
            go_simp
            exact hK.out _ _ ⟨_, _, _, _, _, _, _, _, _, _, _, _, _, _, _, _, _, _, _, _, _, _, _, _, _, _, rfl, hI.s2⟩
          · rw [if_pos (by rfl)]
            go_simp
            exact hK.out _ _ ⟨_, _, _, _, _, _, _, _, _, _, _, _, _, _, _, _, _, _, _, _, _, _, _, _, _, _, rfl, hI.s3⟩
          · rw [if_pos (by rfl)]
            go_simp
            exact hK.out _ _ ⟨_, _, _, _, _, _, _, _, _, _, _, _, _, _, _, _, _, _, _, _, _, _, _, _, _, _, rfl, hI.s4⟩
          · have hx3 := hI.p3 (hd 3 (by decide))
            subst hx3
            have hx4 := hI.p4 (hd 4 (by decide))
            subst hx4
            rw [if_pos (by rfl)]
            go_simp
            refine (SM.out _ hI.x).mono ?_
            rintro e W2 ⟨rfl, b2⟩
            go_simp
            have hX := hI.x.trans (b2.mono hI.x.size)
            exact hK.out _ _ ⟨_, _, _, _, _, _, _, _, _, _, _, _, _, _, _, _, _, _, _, _, _, _, _, _, _, _, rfl, hI.s5 hX⟩
          · have hx2 := hI.p2 (hd 2 (by decide))
            subst hx2
            have hx5 := hI.p5 (hd 5 (by decide))
            subst hx5
            rw [if_pos (by rfl)]
            go_simp
            exact hK.out _ _ ⟨_, _, _, _, _, _, _, _, _, _, _, _, _, _, _, _, _, _, _, _, _, _, _, _, _, _, rfl, hI.s6⟩
          · have hx6 := hI.p6 (hd 6 (by decide))
            subst hx6
            rw [if_pos (by rfl)]
            go_simp
            exact hK.out _ _ ⟨_, _, _, _, _, _, _, _, _, _, _, _, _, _, _, _, _, _, _, _, _, _, _, _, _, _, rfl, hI.s7⟩
          · have hx7 := hI.p7 (hd 7 (by decide))
            subst hx7
            refine step_load_rng rfl 32 _ rfl g9 0 RC (RR.out _ hI.x) rfl _ Try.underlying32 rfl (by rw [lRR]; kernel_rfl) ?_
            exact hK.out _ _ ⟨_, _, _, _, _, _, _, _, _, _, _, _, _, _, _, _, _, _, _, _, _, _, _, _, _, _, rfl, hI.s8⟩
          · have hx7 := hI.p7 (hd 7 (by decide))
            subst hx7
            refine step_load_rng rfl 32 _ rfl g10 0 SC (RS.out _ hI.x) rfl _ Try.underlying32 rfl (by rw [lRS]; kernel_rfl) ?_
            exact hK.out _ _ ⟨_, _, _, _, _, _, _, _, _, _, _, _, _, _, _, _, _, _, _, _, _, _, _, _, _, _, rfl, hI.s9⟩
          · have hx8 := hI.p8 (hd 8 (by decide))
            subst hx8
            have hx9 := hI.p9 (hd 9 (by decide))
            subst hx9
            have hx7 := hI.p7 (hd 7 (by decide))
            subst hx7
            rw [if_pos (by rfl)]
            go_simp
            exact hK.out _ _ ⟨_, _, _, _, _, _, _, _, _, _, _, _, _, _, _, _, _, _, _, _, _, _, _, _, _, _, rfl, hI.s10⟩
          · have hx10 := hI.p10 (hd 10 (by decide))
            subst hx10
            have hx7 := hI.p7 (hd 7 (by decide))
            subst hx7
            rw [if_pos (by rfl)]
            go_simp
            exact hK.out _ _ ⟨_, _, _, _, _, _, _, _, _, _, _, _, _, _, _, _, _, _, _, _, _, _, _, _, _, _, rfl, hI.s11⟩
          · have hx11 := hI.p11 (hd 11 (by decide))
            subst hx11
            rw [if_pos (by rfl)]
            go_simp
            exact hK.out _ _ ⟨_, _, _, _, _, _, _, _, _, _, _, _, _, _, _, _, _, _, _, _, _, _, _, _, _, _, rfl, hI.s12⟩
          · have hx11 := hI.p11 (hd 11 (by decide))
            subst hx11
            rw [if_pos (by rfl)]
            go_simp
            exact hK.out _ _ ⟨_, _, _, _, _, _, _, _, _, _, _, _, _, _, _, _, _, _, _, _, _, _, _, _, _, _, rfl, hI.s13⟩
          · have hx12 := hI.p12 (hd 12 (by decide))
            subst hx12
            have hx13 := hI.p13 (hd 13 (by decide))
            subst hx13
            have hx11 := hI.p11 (hd 11 (by decide))
            subst hx11
            rw [if_pos (by rfl)]
            go_simp
            refine (CQ.out _ hI.x).mono ?_
            rintro e W2 ⟨rfl, b2⟩
            go_simp
            have hX := hI.x.trans (b2.mono hI.x.size)
            exact hK.out _ _ ⟨_, _, _, _, _, _, _, _, _, _, _, _, _, _, _, _, _, _, _, _, _, _, _, _, _, _, rfl, hI.s14 hX⟩
          · have hx14 := hI.p14 (hd 14 (by decide))
            subst hx14
            have hx11 := hI.p11 (hd 11 (by decide))
            subst hx11
            rw [if_pos (by rfl)]
            go_simp
            exact hK.out _ _ ⟨_, _, _, _, _, _, _, _, _, _, _, _, _, _, _, _, _, _, _, _, _, _, _, _, _, _, rfl, hI.s15⟩
          · have hx15 := hI.p15 (hd 15 (by decide))
            subst hx15
            rw [if_pos (by rfl)]
            go_simp
            exact hK.out _ _ ⟨_, _, _, _, _, _, _, _, _, _, _, _, _, _, _, _, _, _, _, _, _, _, _, _, _, _, rfl, hI.s16⟩
          · have hx16 := hI.p16 (hd 16 (by decide))
            subst hx16
            have hx15 := hI.p15 (hd 15 (by decide))
            subst hx15
            rw [if_pos (by rfl)]
            go_simp
            refine (ZX.out _ hI.x).mono ?_
            rintro e W2 ⟨rfl, b2⟩
            go_simp
            have hX := hI.x.trans (b2.mono hI.x.size)
            exact hK.out _ _ ⟨_, _, _, _, _, _, _, _, _, _, _, _, _, _, _, _, _, _, _, _, _, _, _, _, _, _, rfl, hI.s17 hX⟩
          · have hx15 := hI.p15 (hd 15 (by decide))
            subst hx15
            have hx17 := hI.p17 (hd 17 (by decide))
            subst hx17
            have hx11 := hI.p11 (hd 11 (by decide))
            subst hx11
            rw [if_pos (by rfl)]
            go_simp
            exact hK.out _ _ ⟨_, _, _, _, _, _, _, _, _, _, _, _, _, _, _, _, _, _, _, _, _, _, _, _, _, _, rfl, hI.s18⟩
          · have hx18 := hI.p18 (hd 18 (by decide))
            subst hx18
            have hx11 := hI.p11 (hd 11 (by decide))
            subst hx11
            rw [if_pos (by rfl)]
            go_simp
            exact hK.out _ _ ⟨_, _, _, _, _, _, _, _, _, _, _, _, _, _, _, _, _, _, _, _, _, _, _, _, _, _, rfl, hI.s19⟩
          · have hx19 := hI.p19 (hd 19 (by decide))
            subst hx19
            rw [if_neg (by first | decide | exact Bool.false_ne_true)]
            exact hK.out _ _ ⟨_, _, _, _, _, _, _, _, _, _, _, _, _, _, _, _, _, _, _, _, _, _, _, _, _, _, rfl, hI.s20⟩
          · have hx19 := hI.p19 (hd 19 (by decide))
            subst hx19
            rw [if_neg (by first | decide | exact Bool.false_ne_true)]
            exact hK.out _ _ ⟨_, _, _, _, _, _, _, _, _, _, _, _, _, _, _, _, _, _, _, _, _, _, _, _, _, _, rfl, hI.s21⟩
          · have hx19 := hI.p19 (hd 19 (by decide))
            subst hx19
            have hx11 := hI.p11 (hd 11 (by decide))
            subst hx11
            rw [if_pos (by rfl)]
            go_simp
            exact hK.out _ _ ⟨_, _, _, _, _, _, _, _, _, _, _, _, _, _, _, _, _, _, _, _, _, _, _, _, _, _, rfl, hI.s22⟩
          · have hx11 := hI.p11 (hd 11 (by decide))
            subst hx11
            have hx22 := hI.p22 (hd 22 (by decide))
            subst hx22
            have hx7 := hI.p7 (hd 7 (by decide))
            subst hx7
            rw [if_pos (by rfl)]
            go_simp
            exact hK.out _ _ ⟨_, _, _, _, _, _, _, _, _, _, _, _, _, _, _, _, _, _, _, _, _, _, _, _, _, _, rfl, hI.s23⟩
          · have hx23 := hI.p23 (hd 23 (by decide))
            subst hx23
            have hx7 := hI.p7 (hd 7 (by decide))
            subst hx7
            rw [if_pos (by rfl)]
            go_simp
            exact hK.out _ _ ⟨_, _, _, _, _, _, _, _, _, _, _, _, _, _, _, _, _, _, _, _, _, _, _, _, _, _, rfl, hI.s24⟩
          · have hx7 := hI.p7 (hd 7 (by decide))
            subst hx7
            have hx24 := hI.p24 (hd 24 (by decide))
            subst hx24
            rw [if_pos (by rfl)]
            go_simp
            exact hK.out _ _ ⟨_, _, _, _, _, _, _, _, _, _, _, _, _, _, _, _, _, _, _, _, _, _, _, _, _, _, rfl, hI.s25⟩
        · refine GB2.ends ?_; intro x34 x35 x36 x37 x38 x39 x40 x41 x42 x43 x44 x45 x46 x47 x48 x49 x50 x51 x52 x53 x54 x55 x56 x57 x58 x59 L W hall hI
          have hx0 := hI.p0 (hall 0 (by decide))
          subst hx0
          have hx1 := hI.p1 (hall 1 (by decide))
          subst hx1
          have hx2 := hI.p2 (hall 2 (by decide))
          subst hx2
          have hx3 := hI.p3 (hall 3 (by decide))
          subst hx3
          have hx4 := hI.p4 (hall 4 (by decide))
          subst hx4
          have hx5 := hI.p5 (hall 5 (by decide))
          subst hx5
          have hx6 := hI.p6 (hall 6 (by decide))
          subst hx6
          have hx7 := hI.p7 (hall 7 (by decide))
          subst hx7
          have hx8 := hI.p8 (hall 8 (by decide))
          subst hx8
          have hx9 := hI.p9 (hall 9 (by decide))
          subst hx9
          have hx10 := hI.p10 (hall 10 (by decide))
          subst hx10
          have hx11 := hI.p11 (hall 11 (by decide))
          subst hx11
          have hx12 := hI.p12 (hall 12 (by decide))
          subst hx12
          have hx13 := hI.p13 (hall 13 (by decide))
          subst hx13
          have hx14 := hI.p14 (hall 14 (by decide))
          subst hx14
          have hx15 := hI.p15 (hall 15 (by decide))
          subst hx15
          have hx16 := hI.p16 (hall 16 (by decide))
          subst hx16
          have hx17 := hI.p17 (hall 17 (by decide))
          subst hx17
          have hx18 := hI.p18 (hall 18 (by decide))
          subst hx18
          have hx19 := hI.p19 (hall 19 (by decide))
          subst hx19
          have hx22 := hI.p22 (hall 22 (by decide))
          subst hx22
          have hx23 := hI.p23 (hall 23 (by decide))
          subst hx23
          have hx24 := hI.p24 (hall 24 (by decide))
          subst hx24
          have hx25 := hI.p25 (hall 25 (by decide))
          subst hx25
          have hXe := hI.x
          clear hI hall
          try dsimp only
          go_wp2
          refine HKK.out _ _ ?_
          exact NX.out _ hXe _ _ _ _ _ _ _ _ _ _ _ _ _ _ _ _ _ _ _ _ _ _ _ _ _ _ _ _ _ _ _ _ _ _ _ _ _ _ _ _ _ _ _ _ _ _ _ _ _ _ _ _ _ _ _ _ _ _ _ _ _ _ _ _ _ _ _ _ _ _ _ _ _ _ _ _ _ _ _ _ _
      | false =>
        subst hzx
        have hzy : zy = true := by simpa using hB
        subst hzy
        clear hB
        go_wp2_with fail
        refine wp_region_inv (IGB3 w6 g9 g10 RC SC ao n cap bo m bc _ _ _ _ _ _ _ _ _ _ _ _ _ _ _ _ _ _ _ _ _ _ _ _ _ _ _ _ _ _ _ _ _ _ _ _ _ _ _ _ _ _ _ _ _ _ _ _ _ _ _ _ _ _ _ _ _ _ _) (by kernel_rfl) (by kernel_rfl) ⟨_, _, _, _, _, _, _, _, _, _, _, _, _, _, _, _, _, _, _, _, _, _, _, _, _, _, rfl, ⟨(Below.refl _ _).drew, fun k => (by cases k), fun k => (by cases k), fun k => (by cases k), fun k => (by cases k), fun k => (by cases k), fun k => (by cases k), fun k => (by cases k), fun k => (by cases k), fun k => (by cases k), fun k => (by cases k), fun k => (by cases k), fun k => (by cases k), fun k => (by cases k), fun k => (by cases k), fun k => (by cases k), fun k => (by cases k), fun k => (by cases k), fun k => (by cases k), fun k => (by cases k), fun k => (by cases k), fun k => (by cases k), fun k => (by cases k), fun k => (by cases k), fun k => (by cases k), fun k => (by cases k), fun k => (by cases k)⟩⟩ ?_ ?_
        · refine .cons ?_ (.cons ?_ (.cons ?_ (.cons ?_ (.cons ?_ (.cons ?_ (.cons ?_ (.cons ?_ (.cons ?_ (.cons ?_ (.cons ?_ (.cons ?_ (.cons ?_ (.cons ?_ (.cons ?_ (.cons ?_ (.cons ?_ (.cons ?_ (.cons ?_ (.cons ?_ (.cons ?_ (.cons ?_ (.cons ?_ (.cons ?_ (.cons ?_ (.cons ?_ .nil)))))))))))))))))))))))))
          all_goals (refine GB3.step ?_; intro x34 x35 x36 x37 x38 x39 x40 x41 x42 x43 x44 x45 x46 x47 x48 x49 x50 x51 x52 x53 x54 x55 x56 x57 x58 x59 L W hI hL hd K hK)
          · refine step_load_rng rfl 32 _ rfl g9 0 RC (RR.out _ hI.x) rfl _ Try.underlying32 rfl (by rw [lRR]; kernel_rfl) ?_
            exact hK.out _ _ ⟨_, _, _, _, _, _, _, _, _, _, _, _, _, _, _, _, _, _, _, _, _, _, _, _, _, _, rfl, hI.s0⟩
          · refine step_load_rng rfl 32 _ rfl g10 0 SC (RS.out _ hI.x) rfl _ Try.underlying32 rfl (by rw [lRS]; kernel_rfl) ?_
            exact hK.out _ _ ⟨_, _, _, _, _, _, _, _, _, _, _, _, _, _, _, _, _, _, _, _, _, _, _, _, _, _, rfl, hI.s1⟩
          · have hx0 := hI.p0 (hd 0 (by decide))
            subst hx0
            have hx1 := hI.p1 (hd 1 (by decide))
            subst hx1
            rw [if_pos (by rfl)]
            go_simp
            exact hK.out _ _ ⟨_, _, _, _, _, _, _, _, _, _, _, _, _, _, _, _, _, _, _, _, _, _, _, _, _, _, rfl, hI.s2⟩
          · rw [if_pos (by rfl)]
            go_simp
            exact hK.out _ _ ⟨_, _, _, _, _, _, _, _, _, _, _, _, _, _, _, _, _, _, _, _, _, _, _, _, _, _, rfl, hI.s3⟩
          · rw [if_pos (by rfl)]
            go_simp
            exact hK.out _ _ ⟨_, _, _, _, _, _, _, _, _, _, _, _, _, _, _, _, _, _, _, _, _, _, _, _, _, _, rfl, hI.s4⟩
          · have hx3 := hI.p3 (hd 3 (by decide))
            subst hx3
            have hx4 := hI.p4 (hd 4 (by decide))
            subst hx4
            rw [if_pos (by rfl)]
            go_simp
            refine (SM.out _ hI.x).mono ?_
            rintro e W2 ⟨rfl, b2⟩
            go_simp
            have hX := hI.x.trans (b2.mono hI.x.size)
            exact hK.out _ _ ⟨_, _, _, _, _, _, _, _, _, _, _, _, _, _, _, _, _, _, _, _, _, _, _, _, _, _, rfl, hI.s5 hX⟩
          · have hx2 := hI.p2 (hd 2 (by decide))
            subst hx2
            have hx5 := hI.p5 (hd 5 (by decide))
            subst hx5
            rw [if_pos (by rfl)]
            go_simp
            exact hK.out _ _ ⟨_, _, _, _, _, _, _, _, _, _, _, _, _, _, _, _, _, _, _, _, _, _, _, _, _, _, rfl, hI.s6⟩
          · have hx6 := hI.p6 (hd 6 (by decide))
            subst hx6
            rw [if_pos (by rfl)]
            go_simp
            exact hK.out _ _ ⟨_, _, _, _, _, _, _, _, _, _, _, _, _, _, _, _, _, _, _, _, _, _, _, _, _, _, rfl, hI.s7⟩
          · have hx7 := hI.p7 (hd 7 (by decide))
            subst hx7
            refine step_load_rng rfl 32 _ rfl g9 0 RC (RR.out _ hI.x) rfl _ Try.underlying32 rfl (by rw [lRR]; kernel_rfl) ?_
            exact hK.out _ _ ⟨_, _, _, _, _, _, _, _, _, _, _, _, _, _, _, _, _, _, _, _, _, _, _, _, _, _, rfl, hI.s8⟩
          · have hx7 := hI.p7 (hd 7 (by decide))
            subst hx7
            refine step_load_rng rfl 32 _ rfl g10 0 SC (RS.out _ hI.x) rfl _ Try.underlying32 rfl (by rw [lRS]; kernel_rfl) ?_
            exact hK.out _ _ ⟨_, _, _, _, _, _, _, _, _, _, _, _, _, _, _, _, _, _, _, _, _, _, _, _, _, _, rfl, hI.s9⟩
          · have hx8 := hI.p8 (hd 8 (by decide))
            subst hx8
            have hx9 := hI.p9 (hd 9 (by decide))
            subst hx9
            have hx7 := hI.p7 (hd 7 (by decide))
            subst hx7
            rw [if_pos (by rfl)]
            go_simp
            exact hK.out _ _ ⟨_, _, _, _, _, _, _, _, _, _, _, _, _, _, _, _, _, _, _, _, _, _, _, _, _, _, rfl, hI.s10⟩
          · have hx10 := hI.p10 (hd 10 (by decide))
            subst hx10
            have hx7 := hI.p7 (hd 7 (by decide))
            subst hx7
            rw [if_pos (by rfl)]
            go_simp
            exact hK.out _ _ ⟨_, _, _, _, _, _, _, _, _, _, _, _, _, _, _, _, _, _, _, _, _, _, _, _, _, _, rfl, hI.s11⟩
          · have hx11 := hI.p11 (hd 11 (by decide))
            subst hx11
            rw [if_pos (by rfl)]
            go_simp
            exact hK.out _ _ ⟨_, _, _, _, _, _, _, _, _, _, _, _, _, _, _, _, _, _, _, _, _, _, _, _, _, _, rfl, hI.s12⟩
          · have hx11 := hI.p11 (hd 11 (by decide))
            subst hx11
            rw [if_pos (by rfl)]
            go_simp
            exact hK.out _ _ ⟨_, _, _, _, _, _, _, _, _, _, _, _, _, _, _, _, _, _, _, _, _, _, _, _, _, _, rfl, hI.s13⟩
          · have hx12 := hI.p12 (hd 12 (by decide))
            subst hx12
            have hx13 := hI.p13 (hd 13 (by decide))
            subst hx13
            have hx11 := hI.p11 (hd 11 (by decide))
            subst hx11
            rw [if_pos (by rfl)]
            go_simp
            refine (CQ.out _ hI.x).mono ?_
            rintro e W2 ⟨rfl, b2⟩
            go_simp
            have hX := hI.x.trans (b2.mono hI.x.size)
            exact hK.out _ _ ⟨_, _, _, _, _, _, _, _, _, _, _, _, _, _, _, _, _, _, _, _, _, _, _, _, _, _, rfl, hI.s14 hX⟩
          · have hx14 := hI.p14 (hd 14 (by decide))
            subst hx14
            have hx11 := hI.p11 (hd 11 (by decide))
            subst hx11
            rw [if_pos (by rfl)]
            go_simp
            exact hK.out _ _ ⟨_, _, _, _, _, _, _, _, _, _, _, _, _, _, _, _, _, _, _, _, _, _, _, _, _, _, rfl, hI.s15⟩
          · have hx15 := hI.p15 (hd 15 (by decide))
            subst hx15
            rw [if_pos (by rfl)]
            go_simp
            exact hK.out _ _ ⟨_, _, _, _, _, _, _, _, _, _, _, _, _, _, _, _, _, _, _, _, _, _, _, _, _, _, rfl, hI.s16⟩
          · have hx16 := hI.p16 (hd 16 (by decide))
            subst hx16
            have hx15 := hI.p15 (hd 15 (by decide))
            subst hx15
            rw [if_pos (by rfl)]
            go_simp
            refine (ZX.out _ hI.x).mono ?_
            rintro e W2 ⟨rfl, b2⟩
            go_simp
            have hX := hI.x.trans (b2.mono hI.x.size)
            exact hK.out _ _ ⟨_, _, _, _, _, _, _, _, _, _, _, _, _, _, _, _, _, _, _, _, _, _, _, _, _, _, rfl, hI.s17 hX⟩
          · have hx15 := hI.p15 (hd 15 (by decide))
            subst hx15
            have hx17 := hI.p17 (hd 17 (by decide))
            subst hx17
            have hx11 := hI.p11 (hd 11 (by decide))
            subst hx11
            rw [if_pos (by rfl)]
            go_simp
            exact hK.out _ _ ⟨_, _, _, _, _, _, _, _, _, _, _, _, _, _, _, _, _, _, _, _, _, _, _, _, _, _, rfl, hI.s18⟩
          · have hx18 := hI.p18 (hd 18 (by decide))
            subst hx18
            have hx11 := hI.p11 (hd 11 (by decide))
            subst hx11
            rw [if_pos (by rfl)]
            go_simp
            exact hK.out _ _ ⟨_, _, _, _, _, _, _, _, _, _, _, _, _, _, _, _, _, _, _, _, _, _, _, _, _, _, rfl, hI.s19⟩
          · have hx19 := hI.p19 (hd 19 (by decide))
            subst hx19
            rw [if_pos (by rfl)]
            go_simp
            exact hK.out _ _ ⟨_, _, _, _, _, _, _, _, _, _, _, _, _, _, _, _, _, _, _, _, _, _, _, _, _, _, rfl, hI.s20⟩
          · have hx20 := hI.p20 (hd 20 (by decide))
            subst hx20
            have hx19 := hI.p19 (hd 19 (by decide))
            subst hx19
            rw [if_pos (by rfl)]
            go_simp
            refine (ZY.out _ hI.x).mono ?_
            rintro e W2 ⟨rfl, b2⟩
            go_simp
            have hX := hI.x.trans (b2.mono hI.x.size)
            exact hK.out _ _ ⟨_, _, _, _, _, _, _, _, _, _, _, _, _, _, _, _, _, _, _, _, _, _, _, _, _, _, rfl, hI.s21 hX⟩
          · have hx19 := hI.p19 (hd 19 (by decide))
            subst hx19
            have hx21 := hI.p21 (hd 21 (by decide))
            subst hx21
            have hx11 := hI.p11 (hd 11 (by decide))
            subst hx11
            rw [if_pos (by rfl)]
            go_simp
            exact hK.out _ _ ⟨_, _, _, _, _, _, _, _, _, _, _, _, _, _, _, _, _, _, _, _, _, _, _, _, _, _, rfl, hI.s22⟩
          · have hx11 := hI.p11 (hd 11 (by decide))
            subst hx11
            have hx22 := hI.p22 (hd 22 (by decide))
            subst hx22
            have hx7 := hI.p7 (hd 7 (by decide))
            subst hx7
            rw [if_pos (by rfl)]
            go_simp
            exact hK.out _ _ ⟨_, _, _, _, _, _, _, _, _, _, _, _, _, _, _, _, _, _, _, _, _, _, _, _, _, _, rfl, hI.s23⟩
          · have hx23 := hI.p23 (hd 23 (by decide))
            subst hx23
            have hx7 := hI.p7 (hd 7 (by decide))
            subst hx7
            rw [if_pos (by rfl)]
            go_simp
            exact hK.out _ _ ⟨_, _, _, _, _, _, _, _, _, _, _, _, _, _, _, _, _, _, _, _, _, _, _, _, _, _, rfl, hI.s24⟩
          · have hx7 := hI.p7 (hd 7 (by decide))
            subst hx7
            have hx24 := hI.p24 (hd 24 (by decide))
            subst hx24
            rw [if_pos (by rfl)]
            go_simp
            exact hK.out _ _ ⟨_, _, _, _, _, _, _, _, _, _, _, _, _, _, _, _, _, _, _, _, _, _, _, _, _, _, rfl, hI.s25⟩
        · refine GB3.ends ?_; intro x34 x35 x36 x37 x38 x39 x40 x41 x42 x43 x44 x45 x46 x47 x48 x49 x50 x51 x52 x53 x54 x55 x56 x57 x58 x59 L W hall hI
          have hx0 := hI.p0 (hall 0 (by decide))
          subst hx0
          have hx1 := hI.p1 (hall 1 (by decide))
          subst hx1
          have hx2 := hI.p2 (hall 2 (by decide))
          subst hx2
          have hx3 := hI.p3 (hall 3 (by decide))
          subst hx3
          have hx4 := hI.p4 (hall 4 (by decide))
          subst hx4
          have hx5 := hI.p5 (hall 5 (by decide))
          subst hx5
          have hx6 := hI.p6 (hall 6 (by decide))
          subst hx6
          have hx7 := hI.p7 (hall 7 (by decide))
          subst hx7
          have hx8 := hI.p8 (hall 8 (by decide))
          subst hx8
          have hx9 := hI.p9 (hall 9 (by decide))
          subst hx9
          have hx10 := hI.p10 (hall 10 (by decide))
          subst hx10
          have hx11 := hI.p11 (hall 11 (by decide))
          subst hx11
          have hx12 := hI.p12 (hall 12 (by decide))
          subst hx12
          have hx13 := hI.p13 (hall 13 (by decide))
          subst hx13
          have hx14 := hI.p14 (hall 14 (by decide))
          subst hx14
          have hx15 := hI.p15 (hall 15 (by decide))
          subst hx15
          have hx16 := hI.p16 (hall 16 (by decide))
          subst hx16
          have hx17 := hI.p17 (hall 17 (by decide))
          subst hx17
          have hx18 := hI.p18 (hall 18 (by decide))
          subst hx18
          have hx19 := hI.p19 (hall 19 (by decide))
          subst hx19
          have hx20 := hI.p20 (hall 20 (by decide))
          subst hx20
          have hx21 := hI.p21 (hall 21 (by decide))
          subst hx21
          have hx22 := hI.p22 (hall 22 (by decide))
          subst hx22
          have hx23 := hI.p23 (hall 23 (by decide))
          subst hx23
          have hx24 := hI.p24 (hall 24 (by decide))
          subst hx24
          have hx25 := hI.p25 (hall 25 (by decide))
          subst hx25
          have hXe := hI.x
          clear hI hall
          try dsimp only
          go_wp2
          refine HKK.out _ _ ?_
          exact NX.out _ hXe _ _ _ _ _ _ _ _ _ _ _ _ _ _ _ _ _ _ _ _ _ _ _ _ _ _ _ _ _ _ _ _ _ _ _ _ _ _ _ _ _ _ _ _ _ _ _ _ _ _ _ _ _ _ _ _ _ _ _ _ _ _ _ _ _ _ _ _ _ _ _ _ _ _ _ _ _ _ _ _ _

end Go.Proofs.Ythegfkcegmeklaa
