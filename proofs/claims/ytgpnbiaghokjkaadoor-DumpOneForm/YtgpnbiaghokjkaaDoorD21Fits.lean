
import Derived.Test.YtgpnbiaghokjkaaDoorD21May
import Derived.Test.YtgpnbiaghokjkaaDoorD21Str
import Derived.BigQuiet
/-! Layer 21, the document's answer: Fits. (Printed by tools/gend21.py.) -/
namespace Go.Proofs.YtgpnbiaghokjkaaDoor
open Go.RowKit
set_option linter.unusedVariables false
set_option linter.unusedSimpArgs false
set_option maxRecDepth 100000

theorem step_load_rng' {ops : Array Oper} {o : Oper} {a : Act} {w : World} {K : Act → World → Prop} {Q : Exit → Act → World → Prop} {X : Prop} (hw : Region.wanted o (yielded ops a.tmps) = true) (ty : TypeId) (x : Operand) (ho : o.op = .load ty x)
    (g off : Nat) (cs : List Value) (hr : w.rangeAt g off cs) (hx : a.eval x = .pointer (some ⟨g, off, none⟩)) (d : TypeDesc) (hu : Tryd.prog.underlying ty = some d) (hd : d.isRow = true) (hi : (Tryd.prog.info? ty).map (·.size) = some cs.length)
    (h : K (a.put o.dst (.agg cs.toArray)) w) : if Region.wanted o (yielded ops a.tmps) = true then Oper.wp Tryd.prog o a w K Q else X := by
  rw [if_pos hw]
  exact wp_load_mid ty x ho g off hx _ d hr hu hd hi h
structure FtA (W1 : World) (GS : Nat) (po eo bo : Option Addr) (pc ec bc PL EL BL : Nat) (NP NF : Int) (CV : List Value) (L : Nat → Bool) (x6 x7 x8 x9 x10 x11 x12 x13 x14 x15 x16 x17 x18 x19 x20 x21 x22 x23 x24 x25 x26 x27 : Value) (W : World) : Prop where
  x : Below W1.heap.size W1 W
  p0 : L 0 = true → x6 = .pointer (some ⟨GS, 0, none⟩)
  p1 : L 1 = true → x7 = .slice po PL pc
  p2 : L 2 = true → x8 = .int .i64 (PL : Int)
  p3 : L 3 = true → x9 = .agg CV.toArray
  p4 : L 4 = true → x10 = .int .i64 NP
  p5 : L 5 = true → x11 = .bool true
  p6 : L 6 = true → x12 = .bool true
  p13 : L 13 = true → x19 = .bool true
  p14 : L 14 = true → x20 = .bool true
  p21 : L 21 = true → x27 = .bool true
section
variable {W1 : World} {GS : Nat} {po eo bo : Option Addr} {pc ec bc PL EL BL : Nat} {NP NF : Int} {CV : List Value} {L : Nat → Bool} {x6 x7 x8 x9 x10 x11 x12 x13 x14 x15 x16 x17 x18 x19 x20 x21 x22 x23 x24 x25 x26 x27 : Value} {W W2 : World}
end
@[reducible] def IFtA (W1 : World) (GS : Nat) (po eo bo : Option Addr) (pc ec bc PL EL BL : Nat) (NP NF : Int) (CV : List Value) (y0 y1 y2 y3 y4 y5 y28 y29 y30 y31 y32 y33 y34 y35 y36 y37 y38 y39 y40 y41 y42 y43 y44 y45 y46 y47 y48 y49 y50 y51 : Value) : (Nat → Bool) → Act → World → Prop := fun L a W => ∃ x6 x7 x8 x9 x10 x11 x12 x13 x14 x15 x16 x17 x18 x19 x20 x21 x22 x23 x24 x25 x26 x27, a = ⟨#[y0, y1, y2, y3, y4, y5, x6, x7, x8, x9, x10, x11, x12, x13, x14, x15, x16, x17, x18, x19, x20, x21, x22, x23, x24, x25, x26, x27, y28, y29, y30, y31, y32, y33, y34, y35, y36, y37, y38, y39, y40, y41, y42, y43, y44, y45, y46, y47, y48, y49, y50, y51], []⟩ ∧ FtA W1 GS po eo bo pc ec bc PL EL BL NP NF CV L x6 x7 x8 x9 x10 x11 x12 x13 x14 x15 x16 x17 x18 x19 x20 x21 x22 x23 x24 x25 x26 x27 W
theorem FtA.step {W1 : World} {GS : Nat} {po eo bo : Option Addr} {pc ec bc PL EL BL : Nat} {NP NF : Int} {CV : List Value} {y0 y1 y2 y3 y4 y5 y28 y29 y30 y31 y32 y33 y34 y35 y36 y37 y38 y39 y40 y41 y42 y43 y44 y45 y46 y47 y48 y49 y50 y51 : Value} {P : Program} {ops : Array Oper} {Q : Exit → Act → World → Prop} {i : Nat} {o : Oper} (hq : ∀ x6 x7 x8 x9 x10 x11 x12 x13 x14 x15 x16 x17 x18 x19 x20 x21 x22 x23 x24 x25 x26 x27 (L : Nat → Bool) (W : World), FtA W1 GS po eo bo pc ec bc PL EL BL NP NF CV L x6 x7 x8 x9 x10 x11 x12 x13 x14 x15 x16 x17 x18 x19 x20 x21 x22 x23 x24 x25 x26 x27 W → L i = false → (∀ j ∈ onesOf o, L j = true) → ∀ K : Act → World → Prop, Shut (∀ a' w', IFtA W1 GS po eo bo pc ec bc PL EL BL NP NF CV y0 y1 y2 y3 y4 y5 y28 y29 y30 y31 y32 y33 y34 y35 y36 y37 y38 y39 y40 y41 y42 y43 y44 y45 y46 y47 y48 y49 y50 y51 (upd L i) a' w' → K a' w') → if Region.wanted o (yielded ops (⟨#[y0, y1, y2, y3, y4, y5, x6, x7, x8, x9, x10, x11, x12, x13, x14, x15, x16, x17, x18, x19, x20, x21, x22, x23, x24, x25, x26, x27, y28, y29, y30, y31, y32, y33, y34, y35, y36, y37, y38, y39, y40, y41, y42, y43, y44, y45, y46, y47, y48, y49, y50, y51], []⟩ : Act).tmps) = true then Oper.wp P o ⟨#[y0, y1, y2, y3, y4, y5, x6, x7, x8, x9, x10, x11, x12, x13, x14, x15, x16, x17, x18, x19, x20, x21, x22, x23, x24, x25, x26, x27, y28, y29, y30, y31, y32, y33, y34, y35, y36, y37, y38, y39, y40, y41, y42, y43, y44, y45, y46, y47, y48, y49, y50, y51], []⟩ W K Q else K ((⟨#[y0, y1, y2, y3, y4, y5, x6, x7, x8, x9, x10, x11, x12, x13, x14, x15, x16, x17, x18, x19, x20, x21, x22, x23, x24, x25, x26, x27, y28, y29, y30, y31, y32, y33, y34, y35, y36, y37, y38, y39, y40, y41, y42, y43, y44, y45, y46, y47, y48, y49, y50, y51], []⟩ : Act).put o.dst undef) W) : StepI P ops (IFtA W1 GS po eo bo pc ec bc PL EL BL NP NF CV y0 y1 y2 y3 y4 y5 y28 y29 y30 y31 y32 y33 y34 y35 y36 y37 y38 y39 y40 y41 y42 y43 y44 y45 y46 y47 y48 y49 y50 y51) Q i o := by
  rintro L a W ⟨x6, x7, x8, x9, x10, x11, x12, x13, x14, x15, x16, x17, x18, x19, x20, x21, x22, x23, x24, x25, x26, x27, rfl, h⟩
  exact hq _ _ _ _ _ _ _ _ _ _ _ _ _ _ _ _ _ _ _ _ _ _ _ _ h
structure FtB (W1 : World) (GS : Nat) (po eo bo : Option Addr) (pc ec bc PL EL BL : Nat) (NP NF : Int) (CV : List Value) (L : Nat → Bool) (x6 x7 x8 x9 x10 x11 x12 x13 x14 x15 x16 x17 x18 x19 x20 x21 x22 x23 x24 x25 x26 x27 : Value) (W : World) : Prop where
  x : Below W1.heap.size W1 W
  p0 : L 0 = true → x6 = .pointer (some ⟨GS, 0, none⟩)
  p1 : L 1 = true → x7 = .slice po PL pc
  p2 : L 2 = true → x8 = .int .i64 (PL : Int)
  p3 : L 3 = true → x9 = .agg CV.toArray
  p4 : L 4 = true → x10 = .int .i64 NP
  p5 : L 5 = true → x11 = .bool false
  p6 : L 6 = true → x12 = .bool false
  p7 : L 7 = true → x13 = .pointer (some ⟨GS, 1, none⟩)
  p8 : L 8 = true → x14 = .slice eo EL ec
  p9 : L 9 = true → x15 = .int .i64 (EL : Int)
  p10 : L 10 = true → x16 = .agg CV.toArray
  p11 : L 11 = true → x17 = .int .i64 NP
  p12 : L 12 = true → x18 = .bool true
  p13 : L 13 = true → x19 = .bool true
  p14 : L 14 = true → x20 = .bool true
  p21 : L 21 = true → x27 = .bool true
section
variable {W1 : World} {GS : Nat} {po eo bo : Option Addr} {pc ec bc PL EL BL : Nat} {NP NF : Int} {CV : List Value} {L : Nat → Bool} {x6 x7 x8 x9 x10 x11 x12 x13 x14 x15 x16 x17 x18 x19 x20 x21 x22 x23 x24 x25 x26 x27 : Value} {W W2 : World}
end
@[reducible] def IFtB (W1 : World) (GS : Nat) (po eo bo : Option Addr) (pc ec bc PL EL BL : Nat) (NP NF : Int) (CV : List Value) (y0 y1 y2 y3 y4 y5 y28 y29 y30 y31 y32 y33 y34 y35 y36 y37 y38 y39 y40 y41 y42 y43 y44 y45 y46 y47 y48 y49 y50 y51 : Value) : (Nat → Bool) → Act → World → Prop := fun L a W => ∃ x6 x7 x8 x9 x10 x11 x12 x13 x14 x15 x16 x17 x18 x19 x20 x21 x22 x23 x24 x25 x26 x27, a = ⟨#[y0, y1, y2, y3, y4, y5, x6, x7, x8, x9, x10, x11, x12, x13, x14, x15, x16, x17, x18, x19, x20, x21, x22, x23, x24, x25, x26, x27, y28, y29, y30, y31, y32, y33, y34, y35, y36, y37, y38, y39, y40, y41, y42, y43, y44, y45, y46, y47, y48, y49, y50, y51], []⟩ ∧ FtB W1 GS po eo bo pc ec bc PL EL BL NP NF CV L x6 x7 x8 x9 x10 x11 x12 x13 x14 x15 x16 x17 x18 x19 x20 x21 x22 x23 x24 x25 x26 x27 W
theorem FtB.step {W1 : World} {GS : Nat} {po eo bo : Option Addr} {pc ec bc PL EL BL : Nat} {NP NF : Int} {CV : List Value} {y0 y1 y2 y3 y4 y5 y28 y29 y30 y31 y32 y33 y34 y35 y36 y37 y38 y39 y40 y41 y42 y43 y44 y45 y46 y47 y48 y49 y50 y51 : Value} {P : Program} {ops : Array Oper} {Q : Exit → Act → World → Prop} {i : Nat} {o : Oper} (hq : ∀ x6 x7 x8 x9 x10 x11 x12 x13 x14 x15 x16 x17 x18 x19 x20 x21 x22 x23 x24 x25 x26 x27 (L : Nat → Bool) (W : World), FtB W1 GS po eo bo pc ec bc PL EL BL NP NF CV L x6 x7 x8 x9 x10 x11 x12 x13 x14 x15 x16 x17 x18 x19 x20 x21 x22 x23 x24 x25 x26 x27 W → L i = false → (∀ j ∈ onesOf o, L j = true) → ∀ K : Act → World → Prop, Shut (∀ a' w', IFtB W1 GS po eo bo pc ec bc PL EL BL NP NF CV y0 y1 y2 y3 y4 y5 y28 y29 y30 y31 y32 y33 y34 y35 y36 y37 y38 y39 y40 y41 y42 y43 y44 y45 y46 y47 y48 y49 y50 y51 (upd L i) a' w' → K a' w') → if Region.wanted o (yielded ops (⟨#[y0, y1, y2, y3, y4, y5, x6, x7, x8, x9, x10, x11, x12, x13, x14, x15, x16, x17, x18, x19, x20, x21, x22, x23, x24, x25, x26, x27, y28, y29, y30, y31, y32, y33, y34, y35, y36, y37, y38, y39, y40, y41, y42, y43, y44, y45, y46, y47, y48, y49, y50, y51], []⟩ : Act).tmps) = true then Oper.wp P o ⟨#[y0, y1, y2, y3, y4, y5, x6, x7, x8, x9, x10, x11, x12, x13, x14, x15, x16, x17, x18, x19, x20, x21, x22, x23, x24, x25, x26, x27, y28, y29, y30, y31, y32, y33, y34, y35, y36, y37, y38, y39, y40, y41, y42, y43, y44, y45, y46, y47, y48, y49, y50, y51], []⟩ W K Q else K ((⟨#[y0, y1, y2, y3, y4, y5, x6, x7, x8, x9, x10, x11, x12, x13, x14, x15, x16, x17, x18, x19, x20, x21, x22, x23, x24, x25, x26, x27, y28, y29, y30, y31, y32, y33, y34, y35, y36, y37, y38, y39, y40, y41, y42, y43, y44, y45, y46, y47, y48, y49, y50, y51], []⟩ : Act).put o.dst undef) W) : StepI P ops (IFtB W1 GS po eo bo pc ec bc PL EL BL NP NF CV y0 y1 y2 y3 y4 y5 y28 y29 y30 y31 y32 y33 y34 y35 y36 y37 y38 y39 y40 y41 y42 y43 y44 y45 y46 y47 y48 y49 y50 y51) Q i o := by
  rintro L a W ⟨x6, x7, x8, x9, x10, x11, x12, x13, x14, x15, x16, x17, x18, x19, x20, x21, x22, x23, x24, x25, x26, x27, rfl, h⟩
  exact hq _ _ _ _ _ _ _ _ _ _ _ _ _ _ _ _ _ _ _ _ _ _ _ _ h
structure FtC (W1 : World) (GS : Nat) (po eo bo : Option Addr) (pc ec bc PL EL BL : Nat) (NP NF : Int) (CV : List Value) (b3 : Bool) (L : Nat → Bool) (x6 x7 x8 x9 x10 x11 x12 x13 x14 x15 x16 x17 x18 x19 x20 x21 x22 x23 x24 x25 x26 x27 : Value) (W : World) : Prop where
  x : Below W1.heap.size W1 W
  p0 : L 0 = true → x6 = .pointer (some ⟨GS, 0, none⟩)
  p1 : L 1 = true → x7 = .slice po PL pc
  p2 : L 2 = true → x8 = .int .i64 (PL : Int)
  p3 : L 3 = true → x9 = .agg CV.toArray
  p4 : L 4 = true → x10 = .int .i64 NP
  p5 : L 5 = true → x11 = .bool false
  p6 : L 6 = true → x12 = .bool false
  p7 : L 7 = true → x13 = .pointer (some ⟨GS, 1, none⟩)
  p8 : L 8 = true → x14 = .slice eo EL ec
  p9 : L 9 = true → x15 = .int .i64 (EL : Int)
  p10 : L 10 = true → x16 = .agg CV.toArray
  p11 : L 11 = true → x17 = .int .i64 NP
  p12 : L 12 = true → x18 = .bool false
  p13 : L 13 = true → x19 = .bool false
  p14 : L 14 = true → x20 = .bool false
  p15 : L 15 = true → x21 = .pointer (some ⟨GS, 2, none⟩)
  p16 : L 16 = true → x22 = .slice bo BL bc
  p17 : L 17 = true → x23 = .int .i64 (BL : Int)
  p18 : L 18 = true → x24 = .agg CV.toArray
  p19 : L 19 = true → x25 = .int .i64 NF
  p20 : L 20 = true → x26 = .bool b3
  p21 : L 21 = true → x27 = .bool b3
section
variable {W1 : World} {GS : Nat} {po eo bo : Option Addr} {pc ec bc PL EL BL : Nat} {NP NF : Int} {CV : List Value} {b3 : Bool} {L : Nat → Bool} {x6 x7 x8 x9 x10 x11 x12 x13 x14 x15 x16 x17 x18 x19 x20 x21 x22 x23 x24 x25 x26 x27 : Value} {W W2 : World}
end
@[reducible] def IFtC (W1 : World) (GS : Nat) (po eo bo : Option Addr) (pc ec bc PL EL BL : Nat) (NP NF : Int) (CV : List Value) (b3 : Bool) (y0 y1 y2 y3 y4 y5 y28 y29 y30 y31 y32 y33 y34 y35 y36 y37 y38 y39 y40 y41 y42 y43 y44 y45 y46 y47 y48 y49 y50 y51 : Value) : (Nat → Bool) → Act → World → Prop := fun L a W => ∃ x6 x7 x8 x9 x10 x11 x12 x13 x14 x15 x16 x17 x18 x19 x20 x21 x22 x23 x24 x25 x26 x27, a = ⟨#[y0, y1, y2, y3, y4, y5, x6, x7, x8, x9, x10, x11, x12, x13, x14, x15, x16, x17, x18, x19, x20, x21, x22, x23, x24, x25, x26, x27, y28, y29, y30, y31, y32, y33, y34, y35, y36, y37, y38, y39, y40, y41, y42, y43, y44, y45, y46, y47, y48, y49, y50, y51], []⟩ ∧ FtC W1 GS po eo bo pc ec bc PL EL BL NP NF CV b3 L x6 x7 x8 x9 x10 x11 x12 x13 x14 x15 x16 x17 x18 x19 x20 x21 x22 x23 x24 x25 x26 x27 W
theorem FtC.step {W1 : World} {GS : Nat} {po eo bo : Option Addr} {pc ec bc PL EL BL : Nat} {NP NF : Int} {CV : List Value} {b3 : Bool} {y0 y1 y2 y3 y4 y5 y28 y29 y30 y31 y32 y33 y34 y35 y36 y37 y38 y39 y40 y41 y42 y43 y44 y45 y46 y47 y48 y49 y50 y51 : Value} {P : Program} {ops : Array Oper} {Q : Exit → Act → World → Prop} {i : Nat} {o : Oper} (hq : ∀ x6 x7 x8 x9 x10 x11 x12 x13 x14 x15 x16 x17 x18 x19 x20 x21 x22 x23 x24 x25 x26 x27 (L : Nat → Bool) (W : World), FtC W1 GS po eo bo pc ec bc PL EL BL NP NF CV b3 L x6 x7 x8 x9 x10 x11 x12 x13 x14 x15 x16 x17 x18 x19 x20 x21 x22 x23 x24 x25 x26 x27 W → L i = false → (∀ j ∈ onesOf o, L j = true) → ∀ K : Act → World → Prop, Shut (∀ a' w', IFtC W1 GS po eo bo pc ec bc PL EL BL NP NF CV b3 y0 y1 y2 y3 y4 y5 y28 y29 y30 y31 y32 y33 y34 y35 y36 y37 y38 y39 y40 y41 y42 y43 y44 y45 y46 y47 y48 y49 y50 y51 (upd L i) a' w' → K a' w') → if Region.wanted o (yielded ops (⟨#[y0, y1, y2, y3, y4, y5, x6, x7, x8, x9, x10, x11, x12, x13, x14, x15, x16, x17, x18, x19, x20, x21, x22, x23, x24, x25, x26, x27, y28, y29, y30, y31, y32, y33, y34, y35, y36, y37, y38, y39, y40, y41, y42, y43, y44, y45, y46, y47, y48, y49, y50, y51], []⟩ : Act).tmps) = true then Oper.wp P o ⟨#[y0, y1, y2, y3, y4, y5, x6, x7, x8, x9, x10, x11, x12, x13, x14, x15, x16, x17, x18, x19, x20, x21, x22, x23, x24, x25, x26, x27, y28, y29, y30, y31, y32, y33, y34, y35, y36, y37, y38, y39, y40, y41, y42, y43, y44, y45, y46, y47, y48, y49, y50, y51], []⟩ W K Q else K ((⟨#[y0, y1, y2, y3, y4, y5, x6, x7, x8, x9, x10, x11, x12, x13, x14, x15, x16, x17, x18, x19, x20, x21, x22, x23, x24, x25, x26, x27, y28, y29, y30, y31, y32, y33, y34, y35, y36, y37, y38, y39, y40, y41, y42, y43, y44, y45, y46, y47, y48, y49, y50, y51], []⟩ : Act).put o.dst undef) W) : StepI P ops (IFtC W1 GS po eo bo pc ec bc PL EL BL NP NF CV b3 y0 y1 y2 y3 y4 y5 y28 y29 y30 y31 y32 y33 y34 y35 y36 y37 y38 y39 y40 y41 y42 y43 y44 y45 y46 y47 y48 y49 y50 y51) Q i o := by
  rintro L a W ⟨x6, x7, x8, x9, x10, x11, x12, x13, x14, x15, x16, x17, x18, x19, x20, x21, x22, x23, x24, x25, x26, x27, rfl, h⟩
  exact hq _ _ _ _ _ _ _ _ _ _ _ _ _ _ _ _ _ _ _ _ _ _ _ _ h
set_option maxHeartbeats 4000000 in
theorem r21fits_any (c : Cfg) (v : SV) (t : St) (w : World) (h : StV w v t) (hc : c.may = 0) (l1 : t.pages.length ≤ 140737488355328) (l2 : t.erases.length ≤ 140737488355328) (l3 : t.blown.length ≤ 140737488355328) (r : Bool) (hr : r = true ↔ Fit c t) :
    Calls Tryd.prog 22 #[.agg c.vals.toArray, .agg (v.vals t).toArray] w fun e w' => e = .returned (.bool r) ∧ Below w.heap.size w w' := by
  have HRF : Hid (¬ Fit c t → r = false) := fun hh => by cases hrr : r with | false => rfl | true => exact absurd (hr.1 hrr) hh
  have HRT : Hid (Fit c t → r = true) := fun hh => hr.2 hh
  obtain ⟨⟨s1, s2⟩, ⟨q1, q2⟩, ⟨f1, f2⟩, ⟨t1, t2⟩, ⟨k1, k2⟩, ⟨x1, x2⟩, ar1, ar2⟩ := may_all hc
  have hmul : 1 ≤ c.slots * c.fuses ∧ c.slots * c.fuses ≤ 512 := by
    refine ⟨?_, ?_⟩
    · have := Int.mul_le_mul s1 f1 (by omega) (by omega); omega
    · have := Int.mul_le_mul s2 f2 (by omega) (by omega); omega
  clear hr hc
  have HPG : Hid (∀ W, Calls Tryd.prog 32 #[.agg c.vals.toArray] W fun e w' => e = .returned (.int .i64 (2 + 2 * c.area)) ∧ Below W.heap.size W w') := fun W => r21pages_any c ar1 ar2 W
  have HFS : Hid (∀ W, Calls Tryd.prog 42 #[.agg c.vals.toArray] W fun e w' => e = .returned (.int .i64 (c.slots * c.fuses + c.keys)) ∧ Below W.heap.size W w') := fun W => r21fuses_any c hmul k1 k2 W
  have HF : Hid (Fit c t ↔ ((t.pages.length : Int) = 2 + 2 * c.area ∧ (t.erases.length : Int) = 2 + 2 * c.area ∧ (t.blown.length : Int) = c.slots * c.fuses + c.keys ∧ (∀ p, p < t.pages.length → ((t.pages.getD p []).length : Int) = c.cells ∧ 0 ≤ t.erases.getD p 0))) := Iff.rfl
  have hlv : c.vals.length = 7 := rfl
  have HV0 : Hid (c.vals[0]? = some (.int .i64 c.cells)) := rfl
  generalize hNP : 2 + 2 * c.area = NP at *
  generalize hNF : c.slots * c.fuses + c.keys = NF at *
  generalize Fit c t = FT at *
  generalize c.vals = CV at *
  generalize c.cells = CE at *
  simp only [SV.vals] at *
  have HV : Hid (∀ W, Below w.heap.size w W → StV W v t) := fun W hW => h.below hW (Nat.le_refl _)
  obtain ⟨W0, hW0⟩ : ∃ W0, W0 = (w.alloc (.cells CV.toArray 24)).alloc (.cells #[.slice v.po t.pages.length v.pc, .slice v.eo t.erases.length v.ec, .slice v.bo t.blown.length v.bc] 29) := ⟨_, rfl⟩
  have r0 : Row W0 w.heap.size 24 CV := by rw [hW0]; exact (Row.at w 24 _ _ _ rfl rfl).alloc _
  have r1 : Row W0 (w.heap.size + 1) 29 [.slice v.po t.pages.length v.pc, .slice v.eo t.erases.length v.ec, .slice v.bo t.blown.length v.bc] := by rw [hW0]; exact Row.at _ _ _ _ _ (by simp) rfl
  have bb : Below w.heap.size w W0 := by rw [hW0]; exact ((Below.refl _ _).alloc (Nat.le_refl _) _).alloc (by simp) _
  have HRC : Hid (∀ W, Below W0.heap.size W0 W → W.rangeAt w.heap.size 0 CV) := fun W hW j u hu => by
    have := (r0.below hW r0.lt).cell j u hu
    simpa using this
  have HDS : Hid (∀ W, Below W0.heap.size W0 W → W.cell? ⟨w.heap.size + 1, 0, none⟩ = some (.slice v.po t.pages.length v.pc) ∧ W.cell? ⟨w.heap.size + 1, 1, none⟩ = some (.slice v.eo t.erases.length v.ec) ∧ W.cell? ⟨w.heap.size + 1, 2, none⟩ = some (.slice v.bo t.blown.length v.bc) ∧ W.cell? ⟨w.heap.size, 0, none⟩ = some (.int .i64 CE)) := fun W hW => by
    have q1 := r1.below hW r1.lt
    exact ⟨q1.cell 0 _ rfl, q1.cell 1 _ rfl, q1.cell 2 _ rfl, (r0.below hW r0.lt).cell 0 _ HV0.out⟩
  have hNP0 : 0 ≤ NP ∧ NP ≤ 200 := by omega
  have hNF0 : 0 ≤ NF ∧ NF ≤ 1000 := by omega
  clear r0 r1 h hNP hNF s1 s2 q1 q2 f1 f2 t1 t2 k1 k2 x1 x2 ar1 ar2 hmul
  generalize hPL : t.pages.length = PL at *
  generalize hEL : t.erases.length = EL at *
  generalize hBL : t.blown.length = BL at *
  have HPL : Hid (t.pages.length = PL) := hPL
  have HEL : Hid (t.erases.length = EL) := hEL
  clear hPL hEL hBL
  by_cases n1 : (PL : Int) = NP
  · by_cases n2 : (EL : Int) = NP
    · by_cases n3 : (BL : Int) = NF
      · have e1 : ((PL : Int) != NP) = false := by rw [bne_eq_false_iff_eq]; exact n1
        have e2 : ((EL : Int) != NP) = false := by rw [bne_eq_false_iff_eq]; exact n2
        have e3 : ((BL : Int) != NF) = false := by rw [bne_eq_false_iff_eq]; exact n3
        have N1 : Hid ((PL : Int) = NP) := n1
        have N2 : Hid ((EL : Int) = NP) := n2
        have N3 : Hid ((BL : Int) = NF) := n3
        clear n1 n2 n3
        obtain ⟨b3, hb3⟩ : ∃ b3 : Bool, b3 = false := ⟨_, rfl⟩
        rw [← hb3] at e3
        have HB3 : Hid (b3 = false) := hb3
        clear hb3
        go_enter Tryd.func22, Tryd.ntmps22
        go_upto_region 1 with fail
        rw [← hW0]
        clear hW0
        refine wp_region_inv (IFtC W0 (w.heap.size + 1) v.po v.eo v.bo v.pc v.ec v.bc PL EL BL NP NF CV b3 _ _ _ _ _ _ _ _ _ _ _ _ _ _ _ _ _ _ _ _ _ _ _ _ _ _ _ _ _ _) (by kernel_rfl) (by kernel_rfl) ⟨_, _, _, _, _, _, _, _, _, _, _, _, _, _, _, _, _, _, _, _, _, _, rfl, ⟨(Below.refl _ _).drew, fun k => (by cases k), fun k => (by cases k), fun k => (by cases k), fun k => (by cases k), fun k => (by cases k), fun k => (by cases k), fun k => (by cases k), fun k => (by cases k), fun k => (by cases k), fun k => (by cases k), fun k => (by cases k), fun k => (by cases k), fun k => (by cases k), fun k => (by cases k), fun k => (by cases k), fun k => (by cases k), fun k => (by cases k), fun k => (by cases k), fun k => (by cases k), fun k => (by cases k), fun k => (by cases k), fun k => (by cases k)⟩⟩ ?_ ?_
        · refine .cons ?_ (.cons ?_ (.cons ?_ (.cons ?_ (.cons ?_ (.cons ?_ (.cons ?_ (.cons ?_ (.cons ?_ (.cons ?_ (.cons ?_ (.cons ?_ (.cons ?_ (.cons ?_ (.cons ?_ (.cons ?_ (.cons ?_ (.cons ?_ (.cons ?_ (.cons ?_ (.cons ?_ (.cons ?_ .nil)))))))))))))))))))))
          all_goals (refine FtC.step ?_; intro x6 x7 x8 x9 x10 x11 x12 x13 x14 x15 x16 x17 x18 x19 x20 x21 x22 x23 x24 x25 x26 x27 L W hI hL hd K hK)
          · rw [if_pos (by rfl)]
            go_simp
            exact hK.out _ _ ⟨_, _, _, _, _, _, _, _, _, _, _, _, _, _, _, _, _, _, _, _, _, _, rfl, { hI with p0 := fun _ => rfl }⟩
          · obtain rfl := hI.p0 (hd 0 (by decide))
            rw [if_pos (by rfl)]
            obtain ⟨dd0, dd1, dd2, _⟩ := HDS.out W hI.x
            go_simp
            exact hK.out _ _ ⟨_, _, _, _, _, _, _, _, _, _, _, _, _, _, _, _, _, _, _, _, _, _, rfl, { hI with p1 := fun _ => rfl }⟩
          · obtain rfl := hI.p1 (hd 1 (by decide))
            rw [if_pos (by rfl)]
            go_simp
            exact hK.out _ _ ⟨_, _, _, _, _, _, _, _, _, _, _, _, _, _, _, _, _, _, _, _, _, _, rfl, { hI with p2 := fun _ => rfl }⟩
          · refine step_load_rng' (by rfl) 24 _ rfl w.heap.size 0 _ (HRC.out W hI.x) rfl _ Tryd.underlying24 rfl (by rw [hlv]; kernel_rfl) ?_
            exact hK.out _ _ ⟨_, _, _, _, _, _, _, _, _, _, _, _, _, _, _, _, _, _, _, _, _, _, rfl, { hI with p3 := fun _ => rfl }⟩
          · obtain rfl := hI.p3 (hd 3 (by decide))
            rw [if_pos (by rfl)]
            go_simp
            refine (HPG.out W).mono ?_
            rintro e W2 ⟨rfl, hb3⟩
            go_simp
            exact hK.out _ _ ⟨_, _, _, _, _, _, _, _, _, _, _, _, _, _, _, _, _, _, _, _, _, _, rfl, { hI with x := (hI.x.trans (hb3.mono hI.x.size)), p4 := fun _ => rfl }⟩
          · obtain rfl := hI.p2 (hd 2 (by decide))
            obtain rfl := hI.p4 (hd 4 (by decide))
            rw [if_pos (by rfl)]
            go_simp
            exact hK.out _ _ ⟨_, _, _, _, _, _, _, _, _, _, _, _, _, _, _, _, _, _, _, _, _, _, rfl, { hI with p5 := fun _ => rfl }⟩
          · obtain rfl := hI.p5 (hd 5 (by decide))
            rw [if_pos (by rfl)]
            go_simp
            exact hK.out _ _ ⟨_, _, _, _, _, _, _, _, _, _, _, _, _, _, _, _, _, _, _, _, _, _, rfl, { hI with p6 := fun _ => rfl }⟩
          · obtain rfl := hI.p6 (hd 6 (by decide))
            rw [if_pos (by rfl)]
            go_simp
            exact hK.out _ _ ⟨_, _, _, _, _, _, _, _, _, _, _, _, _, _, _, _, _, _, _, _, _, _, rfl, { hI with p7 := fun _ => rfl }⟩
          · obtain rfl := hI.p7 (hd 7 (by decide))
            obtain rfl := hI.p6 (hd 6 (by decide))
            rw [if_pos (by rfl)]
            obtain ⟨dd0, dd1, dd2, _⟩ := HDS.out W hI.x
            go_simp
            exact hK.out _ _ ⟨_, _, _, _, _, _, _, _, _, _, _, _, _, _, _, _, _, _, _, _, _, _, rfl, { hI with p8 := fun _ => rfl }⟩
          · obtain rfl := hI.p8 (hd 8 (by decide))
            obtain rfl := hI.p6 (hd 6 (by decide))
            rw [if_pos (by rfl)]
            go_simp
            exact hK.out _ _ ⟨_, _, _, _, _, _, _, _, _, _, _, _, _, _, _, _, _, _, _, _, _, _, rfl, { hI with p9 := fun _ => rfl }⟩
          · obtain rfl := hI.p6 (hd 6 (by decide))
            refine step_load_rng' (by rfl) 24 _ rfl w.heap.size 0 _ (HRC.out W hI.x) rfl _ Tryd.underlying24 rfl (by rw [hlv]; kernel_rfl) ?_
            exact hK.out _ _ ⟨_, _, _, _, _, _, _, _, _, _, _, _, _, _, _, _, _, _, _, _, _, _, rfl, { hI with p10 := fun _ => rfl }⟩
          · obtain rfl := hI.p10 (hd 10 (by decide))
            obtain rfl := hI.p6 (hd 6 (by decide))
            rw [if_pos (by rfl)]
            go_simp
            refine (HPG.out W).mono ?_
            rintro e W2 ⟨rfl, hb3⟩
            go_simp
            exact hK.out _ _ ⟨_, _, _, _, _, _, _, _, _, _, _, _, _, _, _, _, _, _, _, _, _, _, rfl, { hI with x := (hI.x.trans (hb3.mono hI.x.size)), p11 := fun _ => rfl }⟩
          · obtain rfl := hI.p9 (hd 9 (by decide))
            obtain rfl := hI.p11 (hd 11 (by decide))
            obtain rfl := hI.p6 (hd 6 (by decide))
            rw [if_pos (by rfl)]
            go_simp
            exact hK.out _ _ ⟨_, _, _, _, _, _, _, _, _, _, _, _, _, _, _, _, _, _, _, _, _, _, rfl, { hI with p12 := fun _ => rfl }⟩
          · obtain rfl := hI.p6 (hd 6 (by decide))
            obtain rfl := hI.p12 (hd 12 (by decide))
            rw [if_pos (by rfl)]
            go_simp
            exact hK.out _ _ ⟨_, _, _, _, _, _, _, _, _, _, _, _, _, _, _, _, _, _, _, _, _, _, rfl, { hI with p13 := fun _ => rfl }⟩
          · obtain rfl := hI.p13 (hd 13 (by decide))
            rw [if_pos (by rfl)]
            go_simp
            exact hK.out _ _ ⟨_, _, _, _, _, _, _, _, _, _, _, _, _, _, _, _, _, _, _, _, _, _, rfl, { hI with p14 := fun _ => rfl }⟩
          · obtain rfl := hI.p14 (hd 14 (by decide))
            rw [if_pos (by rfl)]
            go_simp
            exact hK.out _ _ ⟨_, _, _, _, _, _, _, _, _, _, _, _, _, _, _, _, _, _, _, _, _, _, rfl, { hI with p15 := fun _ => rfl }⟩
          · obtain rfl := hI.p15 (hd 15 (by decide))
            obtain rfl := hI.p14 (hd 14 (by decide))
            rw [if_pos (by rfl)]
            obtain ⟨dd0, dd1, dd2, _⟩ := HDS.out W hI.x
            go_simp
            exact hK.out _ _ ⟨_, _, _, _, _, _, _, _, _, _, _, _, _, _, _, _, _, _, _, _, _, _, rfl, { hI with p16 := fun _ => rfl }⟩
          · obtain rfl := hI.p16 (hd 16 (by decide))
            obtain rfl := hI.p14 (hd 14 (by decide))
            rw [if_pos (by rfl)]
            go_simp
            exact hK.out _ _ ⟨_, _, _, _, _, _, _, _, _, _, _, _, _, _, _, _, _, _, _, _, _, _, rfl, { hI with p17 := fun _ => rfl }⟩
          · obtain rfl := hI.p14 (hd 14 (by decide))
            refine step_load_rng' (by rfl) 24 _ rfl w.heap.size 0 _ (HRC.out W hI.x) rfl _ Tryd.underlying24 rfl (by rw [hlv]; kernel_rfl) ?_
            exact hK.out _ _ ⟨_, _, _, _, _, _, _, _, _, _, _, _, _, _, _, _, _, _, _, _, _, _, rfl, { hI with p18 := fun _ => rfl }⟩
          · obtain rfl := hI.p18 (hd 18 (by decide))
            obtain rfl := hI.p14 (hd 14 (by decide))
            rw [if_pos (by rfl)]
            go_simp
            refine (HFS.out W).mono ?_
            rintro e W2 ⟨rfl, hb3⟩
            go_simp
            exact hK.out _ _ ⟨_, _, _, _, _, _, _, _, _, _, _, _, _, _, _, _, _, _, _, _, _, _, rfl, { hI with x := (hI.x.trans (hb3.mono hI.x.size)), p19 := fun _ => rfl }⟩
          · obtain rfl := hI.p17 (hd 17 (by decide))
            obtain rfl := hI.p19 (hd 19 (by decide))
            obtain rfl := hI.p14 (hd 14 (by decide))
            rw [if_pos (by rfl)]
            go_simp
            exact hK.out _ _ ⟨_, _, _, _, _, _, _, _, _, _, _, _, _, _, _, _, _, _, _, _, _, _, rfl, { hI with p20 := fun _ => rfl }⟩
          · obtain rfl := hI.p14 (hd 14 (by decide))
            obtain rfl := hI.p20 (hd 20 (by decide))
            rw [if_pos (by rfl)]
            go_simp
            exact hK.out _ _ ⟨_, _, _, _, _, _, _, _, _, _, _, _, _, _, _, _, _, _, _, _, _, _, rfl, { hI with p21 := fun _ => rfl }⟩
        · rintro L _ W hall ⟨x6, x7, x8, x9, x10, x11, x12, x13, x14, x15, x16, x17, x18, x19, x20, x21, x22, x23, x24, x25, x26, x27, rfl, hI⟩
          obtain rfl := hI.p0 (hall 0 (by decide))
          obtain rfl := hI.p1 (hall 1 (by decide))
          obtain rfl := hI.p2 (hall 2 (by decide))
          obtain rfl := hI.p3 (hall 3 (by decide))
          obtain rfl := hI.p4 (hall 4 (by decide))
          obtain rfl := hI.p5 (hall 5 (by decide))
          obtain rfl := hI.p6 (hall 6 (by decide))
          obtain rfl := hI.p7 (hall 7 (by decide))
          obtain rfl := hI.p8 (hall 8 (by decide))
          obtain rfl := hI.p9 (hall 9 (by decide))
          obtain rfl := hI.p10 (hall 10 (by decide))
          obtain rfl := hI.p11 (hall 11 (by decide))
          obtain rfl := hI.p12 (hall 12 (by decide))
          obtain rfl := hI.p13 (hall 13 (by decide))
          obtain rfl := hI.p14 (hall 14 (by decide))
          obtain rfl := hI.p15 (hall 15 (by decide))
          obtain rfl := hI.p16 (hall 16 (by decide))
          obtain rfl := hI.p17 (hall 17 (by decide))
          obtain rfl := hI.p18 (hall 18 (by decide))
          obtain rfl := hI.p19 (hall 19 (by decide))
          obtain rfl := hI.p20 (hall 20 (by decide))
          obtain rfl := hI.p21 (hall 21 (by decide))
          have hXe := hI.x
          clear hI hall
          try dsimp only
          have HX : Hid (Below W0.heap.size W0 W) := hXe
          have b3e := HB3.out
          subst b3e
          clear hXe e1 e2 e3
          go_wp2
          obtain ⟨d0, d1, _, c0⟩ := HDS.out _ HX.out
          have bw : Below w.heap.size w W := bb.trans (HX.out.mono bb.size)
          go_loopw [5] (fun iv wr => ∃ p : Nat, p ≤ PL ∧ iv = .int .i64 p ∧ Dr W wr ∧ Hid (∀ j, j < p → ((t.pages.getD j []).length : Int) = CE ∧ 0 ≤ t.erases.getD j 0)) (fun iv _ => PL - (intOf iv).toNat)
          case atStart => exact ⟨0, by omega, rfl, Dr.refl _, fun j hj => by omega⟩
          case round =>
            obtain ⟨p, hp, rfl, d, heq⟩ := hrel
            have hn1 := N1.out
            have hn2 := N2.out
            have d0' := d.cell d0
            by_cases hlt : p < PL
            · have y1 : (p : Int) < (PL : Int) := by omega
              have y3 : (p : Int) < (EL : Int) := by omega
              have y0 : (0 : Int) ≤ (p : Int) := by omega
              have bwr : Below w.heap.size w wr := Below_dr bw d
              have d1' := d.cell d1
              have c0' := d.cell c0
              obtain ⟨BA, oA, qa, qca, epa, cpa, _, _⟩ := (HV.out wr bwr).page p (by rw [HPL.out]; exact hlt)
              obtain ⟨BB, oB, eB, cB⟩ := (HV.out wr bwr).er.cell p (Value.int .i64 (t.erases.getD p 0)) (by rw [List.getElem?_map, List.getD_eq_getElem?_getD, List.getElem?_eq_getElem (by rw [HEL.out]; omega)]; rfl)
              rw [epa] at d0'
              rw [eB] at d1'
              clear epa eB hn1 hn2
              by_cases x1 : ((t.pages.getD p []).length : Int) = CE
              · have g1 : (((t.pages.getD p []).length : Int) != CE) = false := by rw [bne_eq_false_iff_eq]; exact x1
                by_cases x2 : t.erases.getD p 0 < 0
                · have g2 : decide (t.erases.getD p 0 < 0) = true := by simpa using x2
                  have N : Hid (¬ FT) := fun hh => by have := ((HF.out.1 hh).2.2.2 p hlt).2; omega
                  clear x1 x2
                  generalize t.erases.getD p 0 = E0 at *
                  generalize (t.pages.getD p []).length = PL2 at *
                  go_wp2
                  go_quiet (fail)
                  go_wp2
                  go_ret
                  exact ⟨by rw [HRF.out N.out]; rfl, Below_dr bw (d.drewN nq)⟩
                · have g2 : decide (t.erases.getD p 0 < 0) = false := by simpa using x2
                  have HS : Hid (∀ j, j < p + 1 → ((t.pages.getD j []).length : Int) = CE ∧ 0 ≤ t.erases.getD j 0) := fun j hj => by
                    by_cases hjp : j = p
                    · rw [hjp]; exact ⟨x1, by omega⟩
                    · exact heq.out j (by omega)
                  clear x1 x2
                  generalize t.erases.getD p 0 = E0 at *
                  generalize (t.pages.getD p []).length = PL2 at *
                  go_wp2
                  go_quiet (fail)
                  go_wp2
                  exact ⟨⟨p + 1, by omega, by go_num, d.drewN nq, HS⟩, by simp [intOf]; omega⟩
              · have g1 : (((t.pages.getD p []).length : Int) != CE) = true := by rw [bne_iff_ne]; exact x1
                have N : Hid (¬ FT) := fun hh => x1 ((HF.out.1 hh).2.2.2 p hlt).1
                clear x1
                generalize t.erases.getD p 0 = E0 at *
                generalize (t.pages.getD p []).length = PL2 at *
                go_wp2
                go_quiet (fail)
                go_wp2
                go_ret
                exact ⟨by rw [HRF.out N.out]; rfl, Below_dr bw (d.drewN nq)⟩
            · obtain rfl : p = PL := by omega
              have Y : Hid FT := HF.out.2 ⟨hn1, hn2, N3.out, heq.out⟩
              clear heq
              go_wp2
              go_ret
              exact ⟨by rw [HRT.out Y.out]; rfl, Below_dr bw d⟩
      · have e1 : ((PL : Int) != NP) = false := by rw [bne_eq_false_iff_eq]; exact n1
        have e2 : ((EL : Int) != NP) = false := by rw [bne_eq_false_iff_eq]; exact n2
        have e3 : ((BL : Int) != NF) = true := by rw [bne_iff_ne]; exact n3
        have N : Hid (¬ FT) := fun hh => n3 (HF.out.1 hh).2.2.1
        clear n1 n2 n3
        obtain ⟨b3, hb3⟩ : ∃ b3 : Bool, b3 = true := ⟨_, rfl⟩
        rw [← hb3] at e3
        have HB3 : Hid (b3 = true) := hb3
        clear hb3
        go_enter Tryd.func22, Tryd.ntmps22
        go_upto_region 1 with fail
        rw [← hW0]
        clear hW0
        refine wp_region_inv (IFtC W0 (w.heap.size + 1) v.po v.eo v.bo v.pc v.ec v.bc PL EL BL NP NF CV b3 _ _ _ _ _ _ _ _ _ _ _ _ _ _ _ _ _ _ _ _ _ _ _ _ _ _ _ _ _ _) (by kernel_rfl) (by kernel_rfl) ⟨_, _, _, _, _, _, _, _, _, _, _, _, _, _, _, _, _, _, _, _, _, _, rfl, ⟨(Below.refl _ _).drew, fun k => (by cases k), fun k => (by cases k), fun k => (by cases k), fun k => (by cases k), fun k => (by cases k), fun k => (by cases k), fun k => (by cases k), fun k => (by cases k), fun k => (by cases k), fun k => (by cases k), fun k => (by cases k), fun k => (by cases k), fun k => (by cases k), fun k => (by cases k), fun k => (by cases k), fun k => (by cases k), fun k => (by cases k), fun k => (by cases k), fun k => (by cases k), fun k => (by cases k), fun k => (by cases k), fun k => (by cases k)⟩⟩ ?_ ?_
        · refine .cons ?_ (.cons ?_ (.cons ?_ (.cons ?_ (.cons ?_ (.cons ?_ (.cons ?_ (.cons ?_ (.cons ?_ (.cons ?_ (.cons ?_ (.cons ?_ (.cons ?_ (.cons ?_ (.cons ?_ (.cons ?_ (.cons ?_ (.cons ?_ (.cons ?_ (.cons ?_ (.cons ?_ (.cons ?_ .nil)))))))))))))))))))))
          all_goals (refine FtC.step ?_; intro x6 x7 x8 x9 x10 x11 x12 x13 x14 x15 x16 x17 x18 x19 x20 x21 x22 x23 x24 x25 x26 x27 L W hI hL hd K hK)
          · rw [if_pos (by rfl)]
            go_simp
            exact hK.out _ _ ⟨_, _, _, _, _, _, _, _, _, _, _, _, _, _, _, _, _, _, _, _, _, _, rfl, { hI with p0 := fun _ => rfl }⟩
          · obtain rfl := hI.p0 (hd 0 (by decide))
            rw [if_pos (by rfl)]
            obtain ⟨dd0, dd1, dd2, _⟩ := HDS.out W hI.x
            go_simp
            exact hK.out _ _ ⟨_, _, _, _, _, _, _, _, _, _, _, _, _, _, _, _, _, _, _, _, _, _, rfl, { hI with p1 := fun _ => rfl }⟩
          · obtain rfl := hI.p1 (hd 1 (by decide))
            rw [if_pos (by rfl)]
            go_simp
            exact hK.out _ _ ⟨_, _, _, _, _, _, _, _, _, _, _, _, _, _, _, _, _, _, _, _, _, _, rfl, { hI with p2 := fun _ => rfl }⟩
          · refine step_load_rng' (by rfl) 24 _ rfl w.heap.size 0 _ (HRC.out W hI.x) rfl _ Tryd.underlying24 rfl (by rw [hlv]; kernel_rfl) ?_
            exact hK.out _ _ ⟨_, _, _, _, _, _, _, _, _, _, _, _, _, _, _, _, _, _, _, _, _, _, rfl, { hI with p3 := fun _ => rfl }⟩
          · obtain rfl := hI.p3 (hd 3 (by decide))
            rw [if_pos (by rfl)]
            go_simp
            refine (HPG.out W).mono ?_
            rintro e W2 ⟨rfl, hb3⟩
            go_simp
            exact hK.out _ _ ⟨_, _, _, _, _, _, _, _, _, _, _, _, _, _, _, _, _, _, _, _, _, _, rfl, { hI with x := (hI.x.trans (hb3.mono hI.x.size)), p4 := fun _ => rfl }⟩
          · obtain rfl := hI.p2 (hd 2 (by decide))
            obtain rfl := hI.p4 (hd 4 (by decide))
            rw [if_pos (by rfl)]
            go_simp
            exact hK.out _ _ ⟨_, _, _, _, _, _, _, _, _, _, _, _, _, _, _, _, _, _, _, _, _, _, rfl, { hI with p5 := fun _ => rfl }⟩
          · obtain rfl := hI.p5 (hd 5 (by decide))
            rw [if_pos (by rfl)]
            go_simp
            exact hK.out _ _ ⟨_, _, _, _, _, _, _, _, _, _, _, _, _, _, _, _, _, _, _, _, _, _, rfl, { hI with p6 := fun _ => rfl }⟩
          · obtain rfl := hI.p6 (hd 6 (by decide))
            rw [if_pos (by rfl)]
            go_simp
            exact hK.out _ _ ⟨_, _, _, _, _, _, _, _, _, _, _, _, _, _, _, _, _, _, _, _, _, _, rfl, { hI with p7 := fun _ => rfl }⟩
          · obtain rfl := hI.p7 (hd 7 (by decide))
            obtain rfl := hI.p6 (hd 6 (by decide))
            rw [if_pos (by rfl)]
            obtain ⟨dd0, dd1, dd2, _⟩ := HDS.out W hI.x
            go_simp
            exact hK.out _ _ ⟨_, _, _, _, _, _, _, _, _, _, _, _, _, _, _, _, _, _, _, _, _, _, rfl, { hI with p8 := fun _ => rfl }⟩
          · obtain rfl := hI.p8 (hd 8 (by decide))
            obtain rfl := hI.p6 (hd 6 (by decide))
            rw [if_pos (by rfl)]
            go_simp
            exact hK.out _ _ ⟨_, _, _, _, _, _, _, _, _, _, _, _, _, _, _, _, _, _, _, _, _, _, rfl, { hI with p9 := fun _ => rfl }⟩
          · obtain rfl := hI.p6 (hd 6 (by decide))
            refine step_load_rng' (by rfl) 24 _ rfl w.heap.size 0 _ (HRC.out W hI.x) rfl _ Tryd.underlying24 rfl (by rw [hlv]; kernel_rfl) ?_
            exact hK.out _ _ ⟨_, _, _, _, _, _, _, _, _, _, _, _, _, _, _, _, _, _, _, _, _, _, rfl, { hI with p10 := fun _ => rfl }⟩
          · obtain rfl := hI.p10 (hd 10 (by decide))
            obtain rfl := hI.p6 (hd 6 (by decide))
            rw [if_pos (by rfl)]
            go_simp
            refine (HPG.out W).mono ?_
            rintro e W2 ⟨rfl, hb3⟩
            go_simp
            exact hK.out _ _ ⟨_, _, _, _, _, _, _, _, _, _, _, _, _, _, _, _, _, _, _, _, _, _, rfl, { hI with x := (hI.x.trans (hb3.mono hI.x.size)), p11 := fun _ => rfl }⟩
          · obtain rfl := hI.p9 (hd 9 (by decide))
            obtain rfl := hI.p11 (hd 11 (by decide))
            obtain rfl := hI.p6 (hd 6 (by decide))
            rw [if_pos (by rfl)]
            go_simp
            exact hK.out _ _ ⟨_, _, _, _, _, _, _, _, _, _, _, _, _, _, _, _, _, _, _, _, _, _, rfl, { hI with p12 := fun _ => rfl }⟩
          · obtain rfl := hI.p6 (hd 6 (by decide))
            obtain rfl := hI.p12 (hd 12 (by decide))
            rw [if_pos (by rfl)]
            go_simp
            exact hK.out _ _ ⟨_, _, _, _, _, _, _, _, _, _, _, _, _, _, _, _, _, _, _, _, _, _, rfl, { hI with p13 := fun _ => rfl }⟩
          · obtain rfl := hI.p13 (hd 13 (by decide))
            rw [if_pos (by rfl)]
            go_simp
            exact hK.out _ _ ⟨_, _, _, _, _, _, _, _, _, _, _, _, _, _, _, _, _, _, _, _, _, _, rfl, { hI with p14 := fun _ => rfl }⟩
          · obtain rfl := hI.p14 (hd 14 (by decide))
            rw [if_pos (by rfl)]
            go_simp
            exact hK.out _ _ ⟨_, _, _, _, _, _, _, _, _, _, _, _, _, _, _, _, _, _, _, _, _, _, rfl, { hI with p15 := fun _ => rfl }⟩
          · obtain rfl := hI.p15 (hd 15 (by decide))
            obtain rfl := hI.p14 (hd 14 (by decide))
            rw [if_pos (by rfl)]
            obtain ⟨dd0, dd1, dd2, _⟩ := HDS.out W hI.x
            go_simp
            exact hK.out _ _ ⟨_, _, _, _, _, _, _, _, _, _, _, _, _, _, _, _, _, _, _, _, _, _, rfl, { hI with p16 := fun _ => rfl }⟩
          · obtain rfl := hI.p16 (hd 16 (by decide))
            obtain rfl := hI.p14 (hd 14 (by decide))
            rw [if_pos (by rfl)]
            go_simp
            exact hK.out _ _ ⟨_, _, _, _, _, _, _, _, _, _, _, _, _, _, _, _, _, _, _, _, _, _, rfl, { hI with p17 := fun _ => rfl }⟩
          · obtain rfl := hI.p14 (hd 14 (by decide))
            refine step_load_rng' (by rfl) 24 _ rfl w.heap.size 0 _ (HRC.out W hI.x) rfl _ Tryd.underlying24 rfl (by rw [hlv]; kernel_rfl) ?_
            exact hK.out _ _ ⟨_, _, _, _, _, _, _, _, _, _, _, _, _, _, _, _, _, _, _, _, _, _, rfl, { hI with p18 := fun _ => rfl }⟩
          · obtain rfl := hI.p18 (hd 18 (by decide))
            obtain rfl := hI.p14 (hd 14 (by decide))
            rw [if_pos (by rfl)]
            go_simp
            refine (HFS.out W).mono ?_
            rintro e W2 ⟨rfl, hb3⟩
            go_simp
            exact hK.out _ _ ⟨_, _, _, _, _, _, _, _, _, _, _, _, _, _, _, _, _, _, _, _, _, _, rfl, { hI with x := (hI.x.trans (hb3.mono hI.x.size)), p19 := fun _ => rfl }⟩
          · obtain rfl := hI.p17 (hd 17 (by decide))
            obtain rfl := hI.p19 (hd 19 (by decide))
            obtain rfl := hI.p14 (hd 14 (by decide))
            rw [if_pos (by rfl)]
            go_simp
            exact hK.out _ _ ⟨_, _, _, _, _, _, _, _, _, _, _, _, _, _, _, _, _, _, _, _, _, _, rfl, { hI with p20 := fun _ => rfl }⟩
          · obtain rfl := hI.p14 (hd 14 (by decide))
            obtain rfl := hI.p20 (hd 20 (by decide))
            rw [if_pos (by rfl)]
            go_simp
            exact hK.out _ _ ⟨_, _, _, _, _, _, _, _, _, _, _, _, _, _, _, _, _, _, _, _, _, _, rfl, { hI with p21 := fun _ => rfl }⟩
        · rintro L _ W hall ⟨x6, x7, x8, x9, x10, x11, x12, x13, x14, x15, x16, x17, x18, x19, x20, x21, x22, x23, x24, x25, x26, x27, rfl, hI⟩
          obtain rfl := hI.p0 (hall 0 (by decide))
          obtain rfl := hI.p1 (hall 1 (by decide))
          obtain rfl := hI.p2 (hall 2 (by decide))
          obtain rfl := hI.p3 (hall 3 (by decide))
          obtain rfl := hI.p4 (hall 4 (by decide))
          obtain rfl := hI.p5 (hall 5 (by decide))
          obtain rfl := hI.p6 (hall 6 (by decide))
          obtain rfl := hI.p7 (hall 7 (by decide))
          obtain rfl := hI.p8 (hall 8 (by decide))
          obtain rfl := hI.p9 (hall 9 (by decide))
          obtain rfl := hI.p10 (hall 10 (by decide))
          obtain rfl := hI.p11 (hall 11 (by decide))
          obtain rfl := hI.p12 (hall 12 (by decide))
          obtain rfl := hI.p13 (hall 13 (by decide))
          obtain rfl := hI.p14 (hall 14 (by decide))
          obtain rfl := hI.p15 (hall 15 (by decide))
          obtain rfl := hI.p16 (hall 16 (by decide))
          obtain rfl := hI.p17 (hall 17 (by decide))
          obtain rfl := hI.p18 (hall 18 (by decide))
          obtain rfl := hI.p19 (hall 19 (by decide))
          obtain rfl := hI.p20 (hall 20 (by decide))
          obtain rfl := hI.p21 (hall 21 (by decide))
          have hXe := hI.x
          clear hI hall
          try dsimp only
          have HX : Hid (Below W0.heap.size W0 W) := hXe
          have b3e := HB3.out
          subst b3e
          clear hXe e1 e2 e3
          go_wp2
          go_ret
          exact ⟨by rw [HRF.out N.out]; rfl, bb.trans (HX.out.mono bb.size)⟩
    · have e1 : ((PL : Int) != NP) = false := by rw [bne_eq_false_iff_eq]; exact n1
      have e2 : ((EL : Int) != NP) = true := by rw [bne_iff_ne]; exact n2
      have N : Hid (¬ FT) := fun hh => n2 (HF.out.1 hh).2.1
      clear n1 n2
      go_enter Tryd.func22, Tryd.ntmps22
      go_upto_region 1 with fail
      rw [← hW0]
      clear hW0
      refine wp_region_inv (IFtB W0 (w.heap.size + 1) v.po v.eo v.bo v.pc v.ec v.bc PL EL BL NP NF CV _ _ _ _ _ _ _ _ _ _ _ _ _ _ _ _ _ _ _ _ _ _ _ _ _ _ _ _ _ _) (by kernel_rfl) (by kernel_rfl) ⟨_, _, _, _, _, _, _, _, _, _, _, _, _, _, _, _, _, _, _, _, _, _, rfl, ⟨(Below.refl _ _).drew, fun k => (by cases k), fun k => (by cases k), fun k => (by cases k), fun k => (by cases k), fun k => (by cases k), fun k => (by cases k), fun k => (by cases k), fun k => (by cases k), fun k => (by cases k), fun k => (by cases k), fun k => (by cases k), fun k => (by cases k), fun k => (by cases k), fun k => (by cases k), fun k => (by cases k), fun k => (by cases k)⟩⟩ ?_ ?_
      · refine .cons ?_ (.cons ?_ (.cons ?_ (.cons ?_ (.cons ?_ (.cons ?_ (.cons ?_ (.cons ?_ (.cons ?_ (.cons ?_ (.cons ?_ (.cons ?_ (.cons ?_ (.cons ?_ (.cons ?_ (.cons ?_ (.cons ?_ (.cons ?_ (.cons ?_ (.cons ?_ (.cons ?_ (.cons ?_ .nil)))))))))))))))))))))
        all_goals (refine FtB.step ?_; intro x6 x7 x8 x9 x10 x11 x12 x13 x14 x15 x16 x17 x18 x19 x20 x21 x22 x23 x24 x25 x26 x27 L W hI hL hd K hK)
        · rw [if_pos (by rfl)]
          go_simp
          exact hK.out _ _ ⟨_, _, _, _, _, _, _, _, _, _, _, _, _, _, _, _, _, _, _, _, _, _, rfl, { hI with p0 := fun _ => rfl }⟩
        · obtain rfl := hI.p0 (hd 0 (by decide))
          rw [if_pos (by rfl)]
          obtain ⟨dd0, dd1, dd2, _⟩ := HDS.out W hI.x
          go_simp
          exact hK.out _ _ ⟨_, _, _, _, _, _, _, _, _, _, _, _, _, _, _, _, _, _, _, _, _, _, rfl, { hI with p1 := fun _ => rfl }⟩
        · obtain rfl := hI.p1 (hd 1 (by decide))
          rw [if_pos (by rfl)]
          go_simp
          exact hK.out _ _ ⟨_, _, _, _, _, _, _, _, _, _, _, _, _, _, _, _, _, _, _, _, _, _, rfl, { hI with p2 := fun _ => rfl }⟩
        · refine step_load_rng' (by rfl) 24 _ rfl w.heap.size 0 _ (HRC.out W hI.x) rfl _ Tryd.underlying24 rfl (by rw [hlv]; kernel_rfl) ?_
          exact hK.out _ _ ⟨_, _, _, _, _, _, _, _, _, _, _, _, _, _, _, _, _, _, _, _, _, _, rfl, { hI with p3 := fun _ => rfl }⟩
        · obtain rfl := hI.p3 (hd 3 (by decide))
          rw [if_pos (by rfl)]
          go_simp
          refine (HPG.out W).mono ?_
          rintro e W2 ⟨rfl, hb3⟩
          go_simp
          exact hK.out _ _ ⟨_, _, _, _, _, _, _, _, _, _, _, _, _, _, _, _, _, _, _, _, _, _, rfl, { hI with x := (hI.x.trans (hb3.mono hI.x.size)), p4 := fun _ => rfl }⟩
        · obtain rfl := hI.p2 (hd 2 (by decide))
          obtain rfl := hI.p4 (hd 4 (by decide))
          rw [if_pos (by rfl)]
          go_simp
          exact hK.out _ _ ⟨_, _, _, _, _, _, _, _, _, _, _, _, _, _, _, _, _, _, _, _, _, _, rfl, { hI with p5 := fun _ => rfl }⟩
        · obtain rfl := hI.p5 (hd 5 (by decide))
          rw [if_pos (by rfl)]
          go_simp
          exact hK.out _ _ ⟨_, _, _, _, _, _, _, _, _, _, _, _, _, _, _, _, _, _, _, _, _, _, rfl, { hI with p6 := fun _ => rfl }⟩
        · obtain rfl := hI.p6 (hd 6 (by decide))
          rw [if_pos (by rfl)]
          go_simp
          exact hK.out _ _ ⟨_, _, _, _, _, _, _, _, _, _, _, _, _, _, _, _, _, _, _, _, _, _, rfl, { hI with p7 := fun _ => rfl }⟩
        · obtain rfl := hI.p7 (hd 7 (by decide))
          obtain rfl := hI.p6 (hd 6 (by decide))
          rw [if_pos (by rfl)]
          obtain ⟨dd0, dd1, dd2, _⟩ := HDS.out W hI.x
          go_simp
          exact hK.out _ _ ⟨_, _, _, _, _, _, _, _, _, _, _, _, _, _, _, _, _, _, _, _, _, _, rfl, { hI with p8 := fun _ => rfl }⟩
        · obtain rfl := hI.p8 (hd 8 (by decide))
          obtain rfl := hI.p6 (hd 6 (by decide))
          rw [if_pos (by rfl)]
          go_simp
          exact hK.out _ _ ⟨_, _, _, _, _, _, _, _, _, _, _, _, _, _, _, _, _, _, _, _, _, _, rfl, { hI with p9 := fun _ => rfl }⟩
        · obtain rfl := hI.p6 (hd 6 (by decide))
          refine step_load_rng' (by rfl) 24 _ rfl w.heap.size 0 _ (HRC.out W hI.x) rfl _ Tryd.underlying24 rfl (by rw [hlv]; kernel_rfl) ?_
          exact hK.out _ _ ⟨_, _, _, _, _, _, _, _, _, _, _, _, _, _, _, _, _, _, _, _, _, _, rfl, { hI with p10 := fun _ => rfl }⟩
        · obtain rfl := hI.p10 (hd 10 (by decide))
          obtain rfl := hI.p6 (hd 6 (by decide))
          rw [if_pos (by rfl)]
          go_simp
          refine (HPG.out W).mono ?_
          rintro e W2 ⟨rfl, hb3⟩
          go_simp
          exact hK.out _ _ ⟨_, _, _, _, _, _, _, _, _, _, _, _, _, _, _, _, _, _, _, _, _, _, rfl, { hI with x := (hI.x.trans (hb3.mono hI.x.size)), p11 := fun _ => rfl }⟩
        · obtain rfl := hI.p9 (hd 9 (by decide))
          obtain rfl := hI.p11 (hd 11 (by decide))
          obtain rfl := hI.p6 (hd 6 (by decide))
          rw [if_pos (by rfl)]
          go_simp
          exact hK.out _ _ ⟨_, _, _, _, _, _, _, _, _, _, _, _, _, _, _, _, _, _, _, _, _, _, rfl, { hI with p12 := fun _ => rfl }⟩
        · obtain rfl := hI.p6 (hd 6 (by decide))
          obtain rfl := hI.p12 (hd 12 (by decide))
          rw [if_pos (by rfl)]
          go_simp
          exact hK.out _ _ ⟨_, _, _, _, _, _, _, _, _, _, _, _, _, _, _, _, _, _, _, _, _, _, rfl, { hI with p13 := fun _ => rfl }⟩
        · obtain rfl := hI.p13 (hd 13 (by decide))
          rw [if_pos (by rfl)]
          go_simp
          exact hK.out _ _ ⟨_, _, _, _, _, _, _, _, _, _, _, _, _, _, _, _, _, _, _, _, _, _, rfl, { hI with p14 := fun _ => rfl }⟩
        · obtain rfl := hI.p14 (hd 14 (by decide))
          rw [if_neg (by first | decide | exact Bool.false_ne_true)]
          exact hK.out _ _ ⟨_, _, _, _, _, _, _, _, _, _, _, _, _, _, _, _, _, _, _, _, _, _, rfl, { hI with }⟩
        · obtain rfl := hI.p14 (hd 14 (by decide))
          rw [if_neg (by first | decide | exact Bool.false_ne_true)]
          exact hK.out _ _ ⟨_, _, _, _, _, _, _, _, _, _, _, _, _, _, _, _, _, _, _, _, _, _, rfl, { hI with }⟩
        · obtain rfl := hI.p14 (hd 14 (by decide))
          rw [if_neg (by first | decide | exact Bool.false_ne_true)]
          exact hK.out _ _ ⟨_, _, _, _, _, _, _, _, _, _, _, _, _, _, _, _, _, _, _, _, _, _, rfl, { hI with }⟩
        · obtain rfl := hI.p14 (hd 14 (by decide))
          rw [if_neg (by first | decide | exact Bool.false_ne_true)]
          exact hK.out _ _ ⟨_, _, _, _, _, _, _, _, _, _, _, _, _, _, _, _, _, _, _, _, _, _, rfl, { hI with }⟩
        · obtain rfl := hI.p14 (hd 14 (by decide))
          rw [if_neg (by first | decide | exact Bool.false_ne_true)]
          exact hK.out _ _ ⟨_, _, _, _, _, _, _, _, _, _, _, _, _, _, _, _, _, _, _, _, _, _, rfl, { hI with }⟩
        · obtain rfl := hI.p14 (hd 14 (by decide))
          rw [if_neg (by first | decide | exact Bool.false_ne_true)]
          exact hK.out _ _ ⟨_, _, _, _, _, _, _, _, _, _, _, _, _, _, _, _, _, _, _, _, _, _, rfl, { hI with }⟩
        · obtain rfl := hI.p14 (hd 14 (by decide))
          rw [if_pos (by rfl)]
          go_simp
          exact hK.out _ _ ⟨_, _, _, _, _, _, _, _, _, _, _, _, _, _, _, _, _, _, _, _, _, _, rfl, { hI with p21 := fun _ => rfl }⟩
      · rintro L _ W hall ⟨x6, x7, x8, x9, x10, x11, x12, x13, x14, x15, x16, x17, x18, x19, x20, x21, x22, x23, x24, x25, x26, x27, rfl, hI⟩
        obtain rfl := hI.p0 (hall 0 (by decide))
        obtain rfl := hI.p1 (hall 1 (by decide))
        obtain rfl := hI.p2 (hall 2 (by decide))
        obtain rfl := hI.p3 (hall 3 (by decide))
        obtain rfl := hI.p4 (hall 4 (by decide))
        obtain rfl := hI.p5 (hall 5 (by decide))
        obtain rfl := hI.p6 (hall 6 (by decide))
        obtain rfl := hI.p7 (hall 7 (by decide))
        obtain rfl := hI.p8 (hall 8 (by decide))
        obtain rfl := hI.p9 (hall 9 (by decide))
        obtain rfl := hI.p10 (hall 10 (by decide))
        obtain rfl := hI.p11 (hall 11 (by decide))
        obtain rfl := hI.p12 (hall 12 (by decide))
        obtain rfl := hI.p13 (hall 13 (by decide))
        obtain rfl := hI.p14 (hall 14 (by decide))
        obtain rfl := hI.p21 (hall 21 (by decide))
        have hXe := hI.x
        clear hI hall
        try dsimp only
        have HX : Hid (Below W0.heap.size W0 W) := hXe
        clear hXe e1 e2
        go_wp2
        go_ret
        exact ⟨by rw [HRF.out N.out]; rfl, bb.trans (HX.out.mono bb.size)⟩
  · have e1 : ((PL : Int) != NP) = true := by rw [bne_iff_ne]; exact n1
    have N : Hid (¬ FT) := fun hh => n1 (HF.out.1 hh).1
    clear n1
    go_enter Tryd.func22, Tryd.ntmps22
    go_upto_region 1 with fail
    rw [← hW0]
    clear hW0
    refine wp_region_inv (IFtA W0 (w.heap.size + 1) v.po v.eo v.bo v.pc v.ec v.bc PL EL BL NP NF CV _ _ _ _ _ _ _ _ _ _ _ _ _ _ _ _ _ _ _ _ _ _ _ _ _ _ _ _ _ _) (by kernel_rfl) (by kernel_rfl) ⟨_, _, _, _, _, _, _, _, _, _, _, _, _, _, _, _, _, _, _, _, _, _, rfl, ⟨(Below.refl _ _).drew, fun k => (by cases k), fun k => (by cases k), fun k => (by cases k), fun k => (by cases k), fun k => (by cases k), fun k => (by cases k), fun k => (by cases k), fun k => (by cases k), fun k => (by cases k), fun k => (by cases k)⟩⟩ ?_ ?_
    · refine .cons ?_ (.cons ?_ (.cons ?_ (.cons ?_ (.cons ?_ (.cons ?_ (.cons ?_ (.cons ?_ (.cons ?_ (.cons ?_ (.cons ?_ (.cons ?_ (.cons ?_ (.cons ?_ (.cons ?_ (.cons ?_ (.cons ?_ (.cons ?_ (.cons ?_ (.cons ?_ (.cons ?_ (.cons ?_ .nil)))))))))))))))))))))
      all_goals (refine FtA.step ?_; intro x6 x7 x8 x9 x10 x11 x12 x13 x14 x15 x16 x17 x18 x19 x20 x21 x22 x23 x24 x25 x26 x27 L W hI hL hd K hK)
      · rw [if_pos (by rfl)]
        go_simp
        exact hK.out _ _ ⟨_, _, _, _, _, _, _, _, _, _, _, _, _, _, _, _, _, _, _, _, _, _, rfl, { hI with p0 := fun _ => rfl }⟩
      · obtain rfl := hI.p0 (hd 0 (by decide))
        rw [if_pos (by rfl)]
        obtain ⟨dd0, dd1, dd2, _⟩ := HDS.out W hI.x
        go_simp
        exact hK.out _ _ ⟨_, _, _, _, _, _, _, _, _, _, _, _, _, _, _, _, _, _, _, _, _, _, rfl, { hI with p1 := fun _ => rfl }⟩
      · obtain rfl := hI.p1 (hd 1 (by decide))
        rw [if_pos (by rfl)]
        go_simp
        exact hK.out _ _ ⟨_, _, _, _, _, _, _, _, _, _, _, _, _, _, _, _, _, _, _, _, _, _, rfl, { hI with p2 := fun _ => rfl }⟩
      · refine step_load_rng' (by rfl) 24 _ rfl w.heap.size 0 _ (HRC.out W hI.x) rfl _ Tryd.underlying24 rfl (by rw [hlv]; kernel_rfl) ?_
        exact hK.out _ _ ⟨_, _, _, _, _, _, _, _, _, _, _, _, _, _, _, _, _, _, _, _, _, _, rfl, { hI with p3 := fun _ => rfl }⟩
      · obtain rfl := hI.p3 (hd 3 (by decide))
        rw [if_pos (by rfl)]
        go_simp
        refine (HPG.out W).mono ?_
        rintro e W2 ⟨rfl, hb3⟩
        go_simp
        exact hK.out _ _ ⟨_, _, _, _, _, _, _, _, _, _, _, _, _, _, _, _, _, _, _, _, _, _, rfl, { hI with x := (hI.x.trans (hb3.mono hI.x.size)), p4 := fun _ => rfl }⟩
      · obtain rfl := hI.p2 (hd 2 (by decide))
        obtain rfl := hI.p4 (hd 4 (by decide))
        rw [if_pos (by rfl)]
        go_simp
        exact hK.out _ _ ⟨_, _, _, _, _, _, _, _, _, _, _, _, _, _, _, _, _, _, _, _, _, _, rfl, { hI with p5 := fun _ => rfl }⟩
      · obtain rfl := hI.p5 (hd 5 (by decide))
        rw [if_pos (by rfl)]
        go_simp
        exact hK.out _ _ ⟨_, _, _, _, _, _, _, _, _, _, _, _, _, _, _, _, _, _, _, _, _, _, rfl, { hI with p6 := fun _ => rfl }⟩
      · obtain rfl := hI.p6 (hd 6 (by decide))
        rw [if_neg (by first | decide | exact Bool.false_ne_true)]
        exact hK.out _ _ ⟨_, _, _, _, _, _, _, _, _, _, _, _, _, _, _, _, _, _, _, _, _, _, rfl, { hI with }⟩
      · obtain rfl := hI.p6 (hd 6 (by decide))
        rw [if_neg (by first | decide | exact Bool.false_ne_true)]
        exact hK.out _ _ ⟨_, _, _, _, _, _, _, _, _, _, _, _, _, _, _, _, _, _, _, _, _, _, rfl, { hI with }⟩
      · obtain rfl := hI.p6 (hd 6 (by decide))
        rw [if_neg (by first | decide | exact Bool.false_ne_true)]
        exact hK.out _ _ ⟨_, _, _, _, _, _, _, _, _, _, _, _, _, _, _, _, _, _, _, _, _, _, rfl, { hI with }⟩
      · obtain rfl := hI.p6 (hd 6 (by decide))
        rw [if_neg (by first | decide | exact Bool.false_ne_true)]
        exact hK.out _ _ ⟨_, _, _, _, _, _, _, _, _, _, _, _, _, _, _, _, _, _, _, _, _, _, rfl, { hI with }⟩
      · obtain rfl := hI.p6 (hd 6 (by decide))
        rw [if_neg (by first | decide | exact Bool.false_ne_true)]
        exact hK.out _ _ ⟨_, _, _, _, _, _, _, _, _, _, _, _, _, _, _, _, _, _, _, _, _, _, rfl, { hI with }⟩
      · obtain rfl := hI.p6 (hd 6 (by decide))
        rw [if_neg (by first | decide | exact Bool.false_ne_true)]
        exact hK.out _ _ ⟨_, _, _, _, _, _, _, _, _, _, _, _, _, _, _, _, _, _, _, _, _, _, rfl, { hI with }⟩
      · obtain rfl := hI.p6 (hd 6 (by decide))
        rw [if_pos (by rfl)]
        go_simp
        exact hK.out _ _ ⟨_, _, _, _, _, _, _, _, _, _, _, _, _, _, _, _, _, _, _, _, _, _, rfl, { hI with p13 := fun _ => rfl }⟩
      · obtain rfl := hI.p13 (hd 13 (by decide))
        rw [if_pos (by rfl)]
        go_simp
        exact hK.out _ _ ⟨_, _, _, _, _, _, _, _, _, _, _, _, _, _, _, _, _, _, _, _, _, _, rfl, { hI with p14 := fun _ => rfl }⟩
      · obtain rfl := hI.p14 (hd 14 (by decide))
        rw [if_neg (by first | decide | exact Bool.false_ne_true)]
        exact hK.out _ _ ⟨_, _, _, _, _, _, _, _, _, _, _, _, _, _, _, _, _, _, _, _, _, _, rfl, { hI with }⟩
      · obtain rfl := hI.p14 (hd 14 (by decide))
        rw [if_neg (by first | decide | exact Bool.false_ne_true)]
        exact hK.out _ _ ⟨_, _, _, _, _, _, _, _, _, _, _, _, _, _, _, _, _, _, _, _, _, _, rfl, { hI with }⟩
      · obtain rfl := hI.p14 (hd 14 (by decide))
        rw [if_neg (by first | decide | exact Bool.false_ne_true)]
        exact hK.out _ _ ⟨_, _, _, _, _, _, _, _, _, _, _, _, _, _, _, _, _, _, _, _, _, _, rfl, { hI with }⟩
      · obtain rfl := hI.p14 (hd 14 (by decide))
        rw [if_neg (by first | decide | exact Bool.false_ne_true)]
        exact hK.out _ _ ⟨_, _, _, _, _, _, _, _, _, _, _, _, _, _, _, _, _, _, _, _, _, _, rfl, { hI with }⟩
      · obtain rfl := hI.p14 (hd 14 (by decide))
        rw [if_neg (by first | decide | exact Bool.false_ne_true)]
        exact hK.out _ _ ⟨_, _, _, _, _, _, _, _, _, _, _, _, _, _, _, _, _, _, _, _, _, _, rfl, { hI with }⟩
      · obtain rfl := hI.p14 (hd 14 (by decide))
        rw [if_neg (by first | decide | exact Bool.false_ne_true)]
        exact hK.out _ _ ⟨_, _, _, _, _, _, _, _, _, _, _, _, _, _, _, _, _, _, _, _, _, _, rfl, { hI with }⟩
      · obtain rfl := hI.p14 (hd 14 (by decide))
        rw [if_pos (by rfl)]
        go_simp
        exact hK.out _ _ ⟨_, _, _, _, _, _, _, _, _, _, _, _, _, _, _, _, _, _, _, _, _, _, rfl, { hI with p21 := fun _ => rfl }⟩
    · rintro L _ W hall ⟨x6, x7, x8, x9, x10, x11, x12, x13, x14, x15, x16, x17, x18, x19, x20, x21, x22, x23, x24, x25, x26, x27, rfl, hI⟩
      obtain rfl := hI.p0 (hall 0 (by decide))
      obtain rfl := hI.p1 (hall 1 (by decide))
      obtain rfl := hI.p2 (hall 2 (by decide))
      obtain rfl := hI.p3 (hall 3 (by decide))
      obtain rfl := hI.p4 (hall 4 (by decide))
      obtain rfl := hI.p5 (hall 5 (by decide))
      obtain rfl := hI.p6 (hall 6 (by decide))
      obtain rfl := hI.p13 (hall 13 (by decide))
      obtain rfl := hI.p14 (hall 14 (by decide))
      obtain rfl := hI.p21 (hall 21 (by decide))
      have hXe := hI.x
      clear hI hall
      try dsimp only
      have HX : Hid (Below W0.heap.size W0 W) := hXe
      clear hXe e1
      go_wp2
      go_ret
      exact ⟨by rw [HRF.out N.out]; rfl, bb.trans (HX.out.mono bb.size)⟩
end Go.Proofs.YtgpnbiaghokjkaaDoor
