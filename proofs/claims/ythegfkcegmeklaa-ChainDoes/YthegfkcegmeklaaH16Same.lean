
import Derived.Test.YthegfkcegmeklaaH16Ref5
/-! The reference's chain: Same. (Printed by tools/gensame16.py.) -/
namespace Go.Proofs.Ythegfkcegmeklaa
open Go.RowKit
set_option linter.unusedVariables false

/-- An array loaded out of a row that is known in part, at a step of a drawn region. -/
theorem step_load_rng {ops : Array Oper} {o : Oper} {a : Act} {w : World} {K : Act → World → Prop} {Q : Exit → Act → World → Prop} {X : Prop} (hw : Region.wanted o (yielded ops a.tmps) = true) (ty : TypeId) (x : Operand) (ho : o.op = .load ty x)
    (g off : Nat) (cs : List Value) (hr : w.rangeAt g off cs) (hx : a.eval x = .pointer (some ⟨g, off, none⟩)) (d : TypeDesc) (hu : Try.prog.underlying ty = some d) (hd : d.isRow = true) (hi : (Try.prog.info? ty).map (·.size) = some cs.length)
    (h : K (a.put o.dst (.agg cs.toArray)) w) : if Region.wanted o (yielded ops a.tmps) = true then Oper.wp Try.prog o a w K Q else X := by
  rw [if_pos hw]
  exact wp_load_mid ty x ho g off hx _ d hr hu hd hi h
theorem ev_dig {w : World} {B off : Nat} {x : EvV} (h : w.rangeAt B off (evC x)) : w.rangeAt B off (x.d.map B8) := fun j v hv => h j v (by unfold evC; rw [List.getElem?_append_left (List.getElem?_eq_some_iff.1 hv).1]; exact hv)
theorem ev_err {w : World} {B off : Nat} {x : EvV} (h : w.rangeAt B off (evC x)) (hx : x.d.length = 32) : w.cell? ⟨B, off + 32, none⟩ = some (.int .i64 x.e) := h 32 _ (by unfold evC; rw [List.getElem?_append_right (by rw [List.length_map, hx]; omega), List.length_map, hx]; rfl)
theorem evIn_dr {w w' : World} {B off : Nat} {xs : List EvV} (h : EvIn w B off xs) (d : Dr w w') : EvIn w' B off xs := by
  obtain ⟨n, rfl⟩ := d; exact ⟨h.cells, h.ok⟩

structure SD (W1 : World) (B off D dff n cap bc ki : Nat) (XC YC : List Value) (xe ye : Int) (ne : Bool) (L : Nat → Bool) (x17 x18 x19 x20 x21 x22 x23 x24 x25 x26 x27 x28 x29 x30 x31 x32 x33 x34 x35 x36 x37 x38 x39 x40 : Value) (W : World) : Prop where
  x : W = W1.drew
  p0 : L 0 = true → x17 = .slice (some ⟨B, off, none⟩) n cap
  p1 : L 1 = true → x18 = .int .i64 (ki : Int)
  p2 : L 2 = true → x19 = .pointer (some ⟨B, off + ki * 33, none⟩)
  p3 : L 3 = true → x20 = .pointer (some ⟨B, off + ki * 33, none⟩)
  p4 : L 4 = true → x21 = .agg XC.toArray
  p5 : L 5 = true → x22 = .slice (some ⟨D, dff, none⟩) n bc
  p6 : L 6 = true → x23 = .int .i64 (ki : Int)
  p7 : L 7 = true → x24 = .pointer (some ⟨D, dff + ki * 33, none⟩)
  p8 : L 8 = true → x25 = .pointer (some ⟨D, dff + ki * 33, none⟩)
  p9 : L 9 = true → x26 = .agg YC.toArray
  p10 : L 10 = true → x27 = .bool false
  p11 : L 11 = true → x28 = .bool false
  p12 : L 12 = true → x29 = .slice (some ⟨B, off, none⟩) n cap
  p13 : L 13 = true → x30 = .int .i64 (ki : Int)
  p14 : L 14 = true → x31 = .pointer (some ⟨B, off + ki * 33, none⟩)
  p15 : L 15 = true → x32 = .pointer (some ⟨B, off + ki * 33 + 32, none⟩)
  p16 : L 16 = true → x33 = .int .i64 xe
  p17 : L 17 = true → x34 = .slice (some ⟨D, dff, none⟩) n bc
  p18 : L 18 = true → x35 = .int .i64 (ki : Int)
  p19 : L 19 = true → x36 = .pointer (some ⟨D, dff + ki * 33, none⟩)
  p20 : L 20 = true → x37 = .pointer (some ⟨D, dff + ki * 33 + 32, none⟩)
  p21 : L 21 = true → x38 = .int .i64 ye
  p22 : L 22 = true → x39 = .bool ne
  p23 : L 23 = true → x40 = .bool ne
section
variable {W1 : World} {B off D dff n cap bc ki : Nat} {XC YC : List Value} {xe ye : Int} {ne : Bool} {L : Nat → Bool} {x17 x18 x19 x20 x21 x22 x23 x24 x25 x26 x27 x28 x29 x30 x31 x32 x33 x34 x35 x36 x37 x38 x39 x40 : Value} {W W2 : World}
theorem SD.s0 (h : SD W1 B off D dff n cap bc ki XC YC xe ye ne L x17 x18 x19 x20 x21 x22 x23 x24 x25 x26 x27 x28 x29 x30 x31 x32 x33 x34 x35 x36 x37 x38 x39 x40 W) : SD W1 B off D dff n cap bc ki XC YC xe ye ne (upd L 0) (.slice (some ⟨B, off, none⟩) n cap) x18 x19 x20 x21 x22 x23 x24 x25 x26 x27 x28 x29 x30 x31 x32 x33 x34 x35 x36 x37 x38 x39 x40 W :=
  ⟨h.x, fun _ => rfl, h.p1, h.p2, h.p3, h.p4, h.p5, h.p6, h.p7, h.p8, h.p9, h.p10, h.p11, h.p12, h.p13, h.p14, h.p15, h.p16, h.p17, h.p18, h.p19, h.p20, h.p21, h.p22, h.p23⟩
theorem SD.s1 (h : SD W1 B off D dff n cap bc ki XC YC xe ye ne L x17 x18 x19 x20 x21 x22 x23 x24 x25 x26 x27 x28 x29 x30 x31 x32 x33 x34 x35 x36 x37 x38 x39 x40 W) : SD W1 B off D dff n cap bc ki XC YC xe ye ne (upd L 1) x17 (.int .i64 (ki : Int)) x19 x20 x21 x22 x23 x24 x25 x26 x27 x28 x29 x30 x31 x32 x33 x34 x35 x36 x37 x38 x39 x40 W :=
  ⟨h.x, h.p0, fun _ => rfl, h.p2, h.p3, h.p4, h.p5, h.p6, h.p7, h.p8, h.p9, h.p10, h.p11, h.p12, h.p13, h.p14, h.p15, h.p16, h.p17, h.p18, h.p19, h.p20, h.p21, h.p22, h.p23⟩
theorem SD.s2 (h : SD W1 B off D dff n cap bc ki XC YC xe ye ne L x17 x18 x19 x20 x21 x22 x23 x24 x25 x26 x27 x28 x29 x30 x31 x32 x33 x34 x35 x36 x37 x38 x39 x40 W) : SD W1 B off D dff n cap bc ki XC YC xe ye ne (upd L 2) x17 x18 (.pointer (some ⟨B, off + ki * 33, none⟩)) x20 x21 x22 x23 x24 x25 x26 x27 x28 x29 x30 x31 x32 x33 x34 x35 x36 x37 x38 x39 x40 W :=
  ⟨h.x, h.p0, h.p1, fun _ => rfl, h.p3, h.p4, h.p5, h.p6, h.p7, h.p8, h.p9, h.p10, h.p11, h.p12, h.p13, h.p14, h.p15, h.p16, h.p17, h.p18, h.p19, h.p20, h.p21, h.p22, h.p23⟩
theorem SD.s3 (h : SD W1 B off D dff n cap bc ki XC YC xe ye ne L x17 x18 x19 x20 x21 x22 x23 x24 x25 x26 x27 x28 x29 x30 x31 x32 x33 x34 x35 x36 x37 x38 x39 x40 W) : SD W1 B off D dff n cap bc ki XC YC xe ye ne (upd L 3) x17 x18 x19 (.pointer (some ⟨B, off + ki * 33, none⟩)) x21 x22 x23 x24 x25 x26 x27 x28 x29 x30 x31 x32 x33 x34 x35 x36 x37 x38 x39 x40 W :=
  ⟨h.x, h.p0, h.p1, h.p2, fun _ => rfl, h.p4, h.p5, h.p6, h.p7, h.p8, h.p9, h.p10, h.p11, h.p12, h.p13, h.p14, h.p15, h.p16, h.p17, h.p18, h.p19, h.p20, h.p21, h.p22, h.p23⟩
theorem SD.s4 (h : SD W1 B off D dff n cap bc ki XC YC xe ye ne L x17 x18 x19 x20 x21 x22 x23 x24 x25 x26 x27 x28 x29 x30 x31 x32 x33 x34 x35 x36 x37 x38 x39 x40 W) : SD W1 B off D dff n cap bc ki XC YC xe ye ne (upd L 4) x17 x18 x19 x20 (.agg XC.toArray) x22 x23 x24 x25 x26 x27 x28 x29 x30 x31 x32 x33 x34 x35 x36 x37 x38 x39 x40 W :=
  ⟨h.x, h.p0, h.p1, h.p2, h.p3, fun _ => rfl, h.p5, h.p6, h.p7, h.p8, h.p9, h.p10, h.p11, h.p12, h.p13, h.p14, h.p15, h.p16, h.p17, h.p18, h.p19, h.p20, h.p21, h.p22, h.p23⟩
theorem SD.s5 (h : SD W1 B off D dff n cap bc ki XC YC xe ye ne L x17 x18 x19 x20 x21 x22 x23 x24 x25 x26 x27 x28 x29 x30 x31 x32 x33 x34 x35 x36 x37 x38 x39 x40 W) : SD W1 B off D dff n cap bc ki XC YC xe ye ne (upd L 5) x17 x18 x19 x20 x21 (.slice (some ⟨D, dff, none⟩) n bc) x23 x24 x25 x26 x27 x28 x29 x30 x31 x32 x33 x34 x35 x36 x37 x38 x39 x40 W :=
  ⟨h.x, h.p0, h.p1, h.p2, h.p3, h.p4, fun _ => rfl, h.p6, h.p7, h.p8, h.p9, h.p10, h.p11, h.p12, h.p13, h.p14, h.p15, h.p16, h.p17, h.p18, h.p19, h.p20, h.p21, h.p22, h.p23⟩
theorem SD.s6 (h : SD W1 B off D dff n cap bc ki XC YC xe ye ne L x17 x18 x19 x20 x21 x22 x23 x24 x25 x26 x27 x28 x29 x30 x31 x32 x33 x34 x35 x36 x37 x38 x39 x40 W) : SD W1 B off D dff n cap bc ki XC YC xe ye ne (upd L 6) x17 x18 x19 x20 x21 x22 (.int .i64 (ki : Int)) x24 x25 x26 x27 x28 x29 x30 x31 x32 x33 x34 x35 x36 x37 x38 x39 x40 W :=
  ⟨h.x, h.p0, h.p1, h.p2, h.p3, h.p4, h.p5, fun _ => rfl, h.p7, h.p8, h.p9, h.p10, h.p11, h.p12, h.p13, h.p14, h.p15, h.p16, h.p17, h.p18, h.p19, h.p20, h.p21, h.p22, h.p23⟩
theorem SD.s7 (h : SD W1 B off D dff n cap bc ki XC YC xe ye ne L x17 x18 x19 x20 x21 x22 x23 x24 x25 x26 x27 x28 x29 x30 x31 x32 x33 x34 x35 x36 x37 x38 x39 x40 W) : SD W1 B off D dff n cap bc ki XC YC xe ye ne (upd L 7) x17 x18 x19 x20 x21 x22 x23 (.pointer (some ⟨D, dff + ki * 33, none⟩)) x25 x26 x27 x28 x29 x30 x31 x32 x33 x34 x35 x36 x37 x38 x39 x40 W :=
  ⟨h.x, h.p0, h.p1, h.p2, h.p3, h.p4, h.p5, h.p6, fun _ => rfl, h.p8, h.p9, h.p10, h.p11, h.p12, h.p13, h.p14, h.p15, h.p16, h.p17, h.p18, h.p19, h.p20, h.p21, h.p22, h.p23⟩
theorem SD.s8 (h : SD W1 B off D dff n cap bc ki XC YC xe ye ne L x17 x18 x19 x20 x21 x22 x23 x24 x25 x26 x27 x28 x29 x30 x31 x32 x33 x34 x35 x36 x37 x38 x39 x40 W) : SD W1 B off D dff n cap bc ki XC YC xe ye ne (upd L 8) x17 x18 x19 x20 x21 x22 x23 x24 (.pointer (some ⟨D, dff + ki * 33, none⟩)) x26 x27 x28 x29 x30 x31 x32 x33 x34 x35 x36 x37 x38 x39 x40 W :=
  ⟨h.x, h.p0, h.p1, h.p2, h.p3, h.p4, h.p5, h.p6, h.p7, fun _ => rfl, h.p9, h.p10, h.p11, h.p12, h.p13, h.p14, h.p15, h.p16, h.p17, h.p18, h.p19, h.p20, h.p21, h.p22, h.p23⟩
theorem SD.s9 (h : SD W1 B off D dff n cap bc ki XC YC xe ye ne L x17 x18 x19 x20 x21 x22 x23 x24 x25 x26 x27 x28 x29 x30 x31 x32 x33 x34 x35 x36 x37 x38 x39 x40 W) : SD W1 B off D dff n cap bc ki XC YC xe ye ne (upd L 9) x17 x18 x19 x20 x21 x22 x23 x24 x25 (.agg YC.toArray) x27 x28 x29 x30 x31 x32 x33 x34 x35 x36 x37 x38 x39 x40 W :=
  ⟨h.x, h.p0, h.p1, h.p2, h.p3, h.p4, h.p5, h.p6, h.p7, h.p8, fun _ => rfl, h.p10, h.p11, h.p12, h.p13, h.p14, h.p15, h.p16, h.p17, h.p18, h.p19, h.p20, h.p21, h.p22, h.p23⟩
theorem SD.s10 (h : SD W1 B off D dff n cap bc ki XC YC xe ye ne L x17 x18 x19 x20 x21 x22 x23 x24 x25 x26 x27 x28 x29 x30 x31 x32 x33 x34 x35 x36 x37 x38 x39 x40 W) : SD W1 B off D dff n cap bc ki XC YC xe ye ne (upd L 10) x17 x18 x19 x20 x21 x22 x23 x24 x25 x26 (.bool false) x28 x29 x30 x31 x32 x33 x34 x35 x36 x37 x38 x39 x40 W :=
  ⟨h.x, h.p0, h.p1, h.p2, h.p3, h.p4, h.p5, h.p6, h.p7, h.p8, h.p9, fun _ => rfl, h.p11, h.p12, h.p13, h.p14, h.p15, h.p16, h.p17, h.p18, h.p19, h.p20, h.p21, h.p22, h.p23⟩
theorem SD.s11 (h : SD W1 B off D dff n cap bc ki XC YC xe ye ne L x17 x18 x19 x20 x21 x22 x23 x24 x25 x26 x27 x28 x29 x30 x31 x32 x33 x34 x35 x36 x37 x38 x39 x40 W) : SD W1 B off D dff n cap bc ki XC YC xe ye ne (upd L 11) x17 x18 x19 x20 x21 x22 x23 x24 x25 x26 x27 (.bool false) x29 x30 x31 x32 x33 x34 x35 x36 x37 x38 x39 x40 W :=
  ⟨h.x, h.p0, h.p1, h.p2, h.p3, h.p4, h.p5, h.p6, h.p7, h.p8, h.p9, h.p10, fun _ => rfl, h.p12, h.p13, h.p14, h.p15, h.p16, h.p17, h.p18, h.p19, h.p20, h.p21, h.p22, h.p23⟩
theorem SD.s12 (h : SD W1 B off D dff n cap bc ki XC YC xe ye ne L x17 x18 x19 x20 x21 x22 x23 x24 x25 x26 x27 x28 x29 x30 x31 x32 x33 x34 x35 x36 x37 x38 x39 x40 W) : SD W1 B off D dff n cap bc ki XC YC xe ye ne (upd L 12) x17 x18 x19 x20 x21 x22 x23 x24 x25 x26 x27 x28 (.slice (some ⟨B, off, none⟩) n cap) x30 x31 x32 x33 x34 x35 x36 x37 x38 x39 x40 W :=
  ⟨h.x, h.p0, h.p1, h.p2, h.p3, h.p4, h.p5, h.p6, h.p7, h.p8, h.p9, h.p10, h.p11, fun _ => rfl, h.p13, h.p14, h.p15, h.p16, h.p17, h.p18, h.p19, h.p20, h.p21, h.p22, h.p23⟩
theorem SD.s13 (h : SD W1 B off D dff n cap bc ki XC YC xe ye ne L x17 x18 x19 x20 x21 x22 x23 x24 x25 x26 x27 x28 x29 x30 x31 x32 x33 x34 x35 x36 x37 x38 x39 x40 W) : SD W1 B off D dff n cap bc ki XC YC xe ye ne (upd L 13) x17 x18 x19 x20 x21 x22 x23 x24 x25 x26 x27 x28 x29 (.int .i64 (ki : Int)) x31 x32 x33 x34 x35 x36 x37 x38 x39 x40 W :=
  ⟨h.x, h.p0, h.p1, h.p2, h.p3, h.p4, h.p5, h.p6, h.p7, h.p8, h.p9, h.p10, h.p11, h.p12, fun _ => rfl, h.p14, h.p15, h.p16, h.p17, h.p18, h.p19, h.p20, h.p21, h.p22, h.p23⟩
theorem SD.s14 (h : SD W1 B off D dff n cap bc ki XC YC xe ye ne L x17 x18 x19 x20 x21 x22 x23 x24 x25 x26 x27 x28 x29 x30 x31 x32 x33 x34 x35 x36 x37 x38 x39 x40 W) : SD W1 B off D dff n cap bc ki XC YC xe ye ne (upd L 14) x17 x18 x19 x20 x21 x22 x23 x24 x25 x26 x27 x28 x29 x30 (.pointer (some ⟨B, off + ki * 33, none⟩)) x32 x33 x34 x35 x36 x37 x38 x39 x40 W :=
  ⟨h.x, h.p0, h.p1, h.p2, h.p3, h.p4, h.p5, h.p6, h.p7, h.p8, h.p9, h.p10, h.p11, h.p12, h.p13, fun _ => rfl, h.p15, h.p16, h.p17, h.p18, h.p19, h.p20, h.p21, h.p22, h.p23⟩
theorem SD.s15 (h : SD W1 B off D dff n cap bc ki XC YC xe ye ne L x17 x18 x19 x20 x21 x22 x23 x24 x25 x26 x27 x28 x29 x30 x31 x32 x33 x34 x35 x36 x37 x38 x39 x40 W) : SD W1 B off D dff n cap bc ki XC YC xe ye ne (upd L 15) x17 x18 x19 x20 x21 x22 x23 x24 x25 x26 x27 x28 x29 x30 x31 (.pointer (some ⟨B, off + ki * 33 + 32, none⟩)) x33 x34 x35 x36 x37 x38 x39 x40 W :=
  ⟨h.x, h.p0, h.p1, h.p2, h.p3, h.p4, h.p5, h.p6, h.p7, h.p8, h.p9, h.p10, h.p11, h.p12, h.p13, h.p14, fun _ => rfl, h.p16, h.p17, h.p18, h.p19, h.p20, h.p21, h.p22, h.p23⟩
theorem SD.s16 (h : SD W1 B off D dff n cap bc ki XC YC xe ye ne L x17 x18 x19 x20 x21 x22 x23 x24 x25 x26 x27 x28 x29 x30 x31 x32 x33 x34 x35 x36 x37 x38 x39 x40 W) : SD W1 B off D dff n cap bc ki XC YC xe ye ne (upd L 16) x17 x18 x19 x20 x21 x22 x23 x24 x25 x26 x27 x28 x29 x30 x31 x32 (.int .i64 xe) x34 x35 x36 x37 x38 x39 x40 W :=
  ⟨h.x, h.p0, h.p1, h.p2, h.p3, h.p4, h.p5, h.p6, h.p7, h.p8, h.p9, h.p10, h.p11, h.p12, h.p13, h.p14, h.p15, fun _ => rfl, h.p17, h.p18, h.p19, h.p20, h.p21, h.p22, h.p23⟩
theorem SD.s17 (h : SD W1 B off D dff n cap bc ki XC YC xe ye ne L x17 x18 x19 x20 x21 x22 x23 x24 x25 x26 x27 x28 x29 x30 x31 x32 x33 x34 x35 x36 x37 x38 x39 x40 W) : SD W1 B off D dff n cap bc ki XC YC xe ye ne (upd L 17) x17 x18 x19 x20 x21 x22 x23 x24 x25 x26 x27 x28 x29 x30 x31 x32 x33 (.slice (some ⟨D, dff, none⟩) n bc) x35 x36 x37 x38 x39 x40 W :=
  ⟨h.x, h.p0, h.p1, h.p2, h.p3, h.p4, h.p5, h.p6, h.p7, h.p8, h.p9, h.p10, h.p11, h.p12, h.p13, h.p14, h.p15, h.p16, fun _ => rfl, h.p18, h.p19, h.p20, h.p21, h.p22, h.p23⟩
theorem SD.s18 (h : SD W1 B off D dff n cap bc ki XC YC xe ye ne L x17 x18 x19 x20 x21 x22 x23 x24 x25 x26 x27 x28 x29 x30 x31 x32 x33 x34 x35 x36 x37 x38 x39 x40 W) : SD W1 B off D dff n cap bc ki XC YC xe ye ne (upd L 18) x17 x18 x19 x20 x21 x22 x23 x24 x25 x26 x27 x28 x29 x30 x31 x32 x33 x34 (.int .i64 (ki : Int)) x36 x37 x38 x39 x40 W :=
  ⟨h.x, h.p0, h.p1, h.p2, h.p3, h.p4, h.p5, h.p6, h.p7, h.p8, h.p9, h.p10, h.p11, h.p12, h.p13, h.p14, h.p15, h.p16, h.p17, fun _ => rfl, h.p19, h.p20, h.p21, h.p22, h.p23⟩
theorem SD.s19 (h : SD W1 B off D dff n cap bc ki XC YC xe ye ne L x17 x18 x19 x20 x21 x22 x23 x24 x25 x26 x27 x28 x29 x30 x31 x32 x33 x34 x35 x36 x37 x38 x39 x40 W) : SD W1 B off D dff n cap bc ki XC YC xe ye ne (upd L 19) x17 x18 x19 x20 x21 x22 x23 x24 x25 x26 x27 x28 x29 x30 x31 x32 x33 x34 x35 (.pointer (some ⟨D, dff + ki * 33, none⟩)) x37 x38 x39 x40 W :=
  ⟨h.x, h.p0, h.p1, h.p2, h.p3, h.p4, h.p5, h.p6, h.p7, h.p8, h.p9, h.p10, h.p11, h.p12, h.p13, h.p14, h.p15, h.p16, h.p17, h.p18, fun _ => rfl, h.p20, h.p21, h.p22, h.p23⟩
theorem SD.s20 (h : SD W1 B off D dff n cap bc ki XC YC xe ye ne L x17 x18 x19 x20 x21 x22 x23 x24 x25 x26 x27 x28 x29 x30 x31 x32 x33 x34 x35 x36 x37 x38 x39 x40 W) : SD W1 B off D dff n cap bc ki XC YC xe ye ne (upd L 20) x17 x18 x19 x20 x21 x22 x23 x24 x25 x26 x27 x28 x29 x30 x31 x32 x33 x34 x35 x36 (.pointer (some ⟨D, dff + ki * 33 + 32, none⟩)) x38 x39 x40 W :=
  ⟨h.x, h.p0, h.p1, h.p2, h.p3, h.p4, h.p5, h.p6, h.p7, h.p8, h.p9, h.p10, h.p11, h.p12, h.p13, h.p14, h.p15, h.p16, h.p17, h.p18, h.p19, fun _ => rfl, h.p21, h.p22, h.p23⟩
theorem SD.s21 (h : SD W1 B off D dff n cap bc ki XC YC xe ye ne L x17 x18 x19 x20 x21 x22 x23 x24 x25 x26 x27 x28 x29 x30 x31 x32 x33 x34 x35 x36 x37 x38 x39 x40 W) : SD W1 B off D dff n cap bc ki XC YC xe ye ne (upd L 21) x17 x18 x19 x20 x21 x22 x23 x24 x25 x26 x27 x28 x29 x30 x31 x32 x33 x34 x35 x36 x37 (.int .i64 ye) x39 x40 W :=
  ⟨h.x, h.p0, h.p1, h.p2, h.p3, h.p4, h.p5, h.p6, h.p7, h.p8, h.p9, h.p10, h.p11, h.p12, h.p13, h.p14, h.p15, h.p16, h.p17, h.p18, h.p19, h.p20, fun _ => rfl, h.p22, h.p23⟩
theorem SD.s22 (h : SD W1 B off D dff n cap bc ki XC YC xe ye ne L x17 x18 x19 x20 x21 x22 x23 x24 x25 x26 x27 x28 x29 x30 x31 x32 x33 x34 x35 x36 x37 x38 x39 x40 W) : SD W1 B off D dff n cap bc ki XC YC xe ye ne (upd L 22) x17 x18 x19 x20 x21 x22 x23 x24 x25 x26 x27 x28 x29 x30 x31 x32 x33 x34 x35 x36 x37 x38 (.bool ne) x40 W :=
  ⟨h.x, h.p0, h.p1, h.p2, h.p3, h.p4, h.p5, h.p6, h.p7, h.p8, h.p9, h.p10, h.p11, h.p12, h.p13, h.p14, h.p15, h.p16, h.p17, h.p18, h.p19, h.p20, h.p21, fun _ => rfl, h.p23⟩
theorem SD.s23 (h : SD W1 B off D dff n cap bc ki XC YC xe ye ne L x17 x18 x19 x20 x21 x22 x23 x24 x25 x26 x27 x28 x29 x30 x31 x32 x33 x34 x35 x36 x37 x38 x39 x40 W) : SD W1 B off D dff n cap bc ki XC YC xe ye ne (upd L 23) x17 x18 x19 x20 x21 x22 x23 x24 x25 x26 x27 x28 x29 x30 x31 x32 x33 x34 x35 x36 x37 x38 x39 (.bool ne) W :=
  ⟨h.x, h.p0, h.p1, h.p2, h.p3, h.p4, h.p5, h.p6, h.p7, h.p8, h.p9, h.p10, h.p11, h.p12, h.p13, h.p14, h.p15, h.p16, h.p17, h.p18, h.p19, h.p20, h.p21, h.p22, fun _ => rfl⟩
end
@[reducible] def ISD (W1 : World) (B off D dff n cap bc ki : Nat) (XC YC : List Value) (xe ye : Int) (ne : Bool) (y0 y1 y2 y3 y4 y5 y6 y7 y8 y9 y10 y11 y12 y13 y14 y15 y16 : Value) : (Nat → Bool) → Act → World → Prop := fun L a W => ∃ x17 x18 x19 x20 x21 x22 x23 x24 x25 x26 x27 x28 x29 x30 x31 x32 x33 x34 x35 x36 x37 x38 x39 x40, a = ⟨#[y0, y1, y2, y3, y4, y5, y6, y7, y8, y9, y10, y11, y12, y13, y14, y15, y16, x17, x18, x19, x20, x21, x22, x23, x24, x25, x26, x27, x28, x29, x30, x31, x32, x33, x34, x35, x36, x37, x38, x39, x40], []⟩ ∧ SD W1 B off D dff n cap bc ki XC YC xe ye ne L x17 x18 x19 x20 x21 x22 x23 x24 x25 x26 x27 x28 x29 x30 x31 x32 x33 x34 x35 x36 x37 x38 x39 x40 W
theorem SD.step {W1 : World} {B off D dff n cap bc ki : Nat} {XC YC : List Value} {xe ye : Int} {ne : Bool} {y0 y1 y2 y3 y4 y5 y6 y7 y8 y9 y10 y11 y12 y13 y14 y15 y16 : Value} {P : Program} {ops : Array Oper} {Q : Exit → Act → World → Prop} {i : Nat} {o : Oper} (hq : ∀ x17 x18 x19 x20 x21 x22 x23 x24 x25 x26 x27 x28 x29 x30 x31 x32 x33 x34 x35 x36 x37 x38 x39 x40 (L : Nat → Bool) (W : World), SD W1 B off D dff n cap bc ki XC YC xe ye ne L x17 x18 x19 x20 x21 x22 x23 x24 x25 x26 x27 x28 x29 x30 x31 x32 x33 x34 x35 x36 x37 x38 x39 x40 W → L i = false → (∀ j ∈ onesOf o, L j = true) → ∀ K : Act → World → Prop, Shut (∀ a' w', ISD W1 B off D dff n cap bc ki XC YC xe ye ne y0 y1 y2 y3 y4 y5 y6 y7 y8 y9 y10 y11 y12 y13 y14 y15 y16 (upd L i) a' w' → K a' w') → if Region.wanted o (yielded ops (⟨#[y0, y1, y2, y3, y4, y5, y6, y7, y8, y9, y10, y11, y12, y13, y14, y15, y16, x17, x18, x19, x20, x21, x22, x23, x24, x25, x26, x27, x28, x29, x30, x31, x32, x33, x34, x35, x36, x37, x38, x39, x40], []⟩ : Act).tmps) = true then Oper.wp P o ⟨#[y0, y1, y2, y3, y4, y5, y6, y7, y8, y9, y10, y11, y12, y13, y14, y15, y16, x17, x18, x19, x20, x21, x22, x23, x24, x25, x26, x27, x28, x29, x30, x31, x32, x33, x34, x35, x36, x37, x38, x39, x40], []⟩ W K Q else K ((⟨#[y0, y1, y2, y3, y4, y5, y6, y7, y8, y9, y10, y11, y12, y13, y14, y15, y16, x17, x18, x19, x20, x21, x22, x23, x24, x25, x26, x27, x28, x29, x30, x31, x32, x33, x34, x35, x36, x37, x38, x39, x40], []⟩ : Act).put o.dst undef) W) : StepI P ops (ISD W1 B off D dff n cap bc ki XC YC xe ye ne y0 y1 y2 y3 y4 y5 y6 y7 y8 y9 y10 y11 y12 y13 y14 y15 y16) Q i o := by
  rintro L a W ⟨x17, x18, x19, x20, x21, x22, x23, x24, x25, x26, x27, x28, x29, x30, x31, x32, x33, x34, x35, x36, x37, x38, x39, x40, rfl, h⟩
  exact hq _ _ _ _ _ _ _ _ _ _ _ _ _ _ _ _ _ _ _ _ _ _ _ _ _ _ h
theorem SD.ends {W1 : World} {B off D dff n cap bc ki : Nat} {XC YC : List Value} {xe ye : Int} {ne : Bool} {y0 y1 y2 y3 y4 y5 y6 y7 y8 y9 y10 y11 y12 y13 y14 y15 y16 : Value} {mm_ : Nat} {Q : Exit → Act → World → Prop} (hq : ∀ x17 x18 x19 x20 x21 x22 x23 x24 x25 x26 x27 x28 x29 x30 x31 x32 x33 x34 x35 x36 x37 x38 x39 x40 (L : Nat → Bool) (W : World), (∀ j, j < mm_ → L j = true) → SD W1 B off D dff n cap bc ki XC YC xe ye ne L x17 x18 x19 x20 x21 x22 x23 x24 x25 x26 x27 x28 x29 x30 x31 x32 x33 x34 x35 x36 x37 x38 x39 x40 W → Q .normal ⟨#[y0, y1, y2, y3, y4, y5, y6, y7, y8, y9, y10, y11, y12, y13, y14, y15, y16, x17, x18, x19, x20, x21, x22, x23, x24, x25, x26, x27, x28, x29, x30, x31, x32, x33, x34, x35, x36, x37, x38, x39, x40], []⟩ W) : ∀ L a' w', (∀ j, j < mm_ → L j = true) → ISD W1 B off D dff n cap bc ki XC YC xe ye ne y0 y1 y2 y3 y4 y5 y6 y7 y8 y9 y10 y11 y12 y13 y14 y15 y16 L a' w' → Q .normal a' w' := by
  rintro L a W hall ⟨x17, x18, x19, x20, x21, x22, x23, x24, x25, x26, x27, x28, x29, x30, x31, x32, x33, x34, x35, x36, x37, x38, x39, x40, rfl, h⟩
  exact hq _ _ _ _ _ _ _ _ _ _ _ _ _ _ _ _ _ _ _ _ _ _ _ _ _ _ hall h
structure SE (W1 : World) (B off D dff n cap bc ki : Nat) (XC YC : List Value) (L : Nat → Bool) (x17 x18 x19 x20 x21 x22 x23 x24 x25 x26 x27 x28 x29 x30 x31 x32 x33 x34 x35 x36 x37 x38 x39 x40 : Value) (W : World) : Prop where
  x : W = W1.drew
  p0 : L 0 = true → x17 = .slice (some ⟨B, off, none⟩) n cap
  p1 : L 1 = true → x18 = .int .i64 (ki : Int)
  p2 : L 2 = true → x19 = .pointer (some ⟨B, off + ki * 33, none⟩)
  p3 : L 3 = true → x20 = .pointer (some ⟨B, off + ki * 33, none⟩)
  p4 : L 4 = true → x21 = .agg XC.toArray
  p5 : L 5 = true → x22 = .slice (some ⟨D, dff, none⟩) n bc
  p6 : L 6 = true → x23 = .int .i64 (ki : Int)
  p7 : L 7 = true → x24 = .pointer (some ⟨D, dff + ki * 33, none⟩)
  p8 : L 8 = true → x25 = .pointer (some ⟨D, dff + ki * 33, none⟩)
  p9 : L 9 = true → x26 = .agg YC.toArray
  p10 : L 10 = true → x27 = .bool true
  p11 : L 11 = true → x28 = .bool true
  p23 : L 23 = true → x40 = .bool true
section
variable {W1 : World} {B off D dff n cap bc ki : Nat} {XC YC : List Value} {L : Nat → Bool} {x17 x18 x19 x20 x21 x22 x23 x24 x25 x26 x27 x28 x29 x30 x31 x32 x33 x34 x35 x36 x37 x38 x39 x40 : Value} {W W2 : World}
theorem SE.s0 (h : SE W1 B off D dff n cap bc ki XC YC L x17 x18 x19 x20 x21 x22 x23 x24 x25 x26 x27 x28 x29 x30 x31 x32 x33 x34 x35 x36 x37 x38 x39 x40 W) : SE W1 B off D dff n cap bc ki XC YC (upd L 0) (.slice (some ⟨B, off, none⟩) n cap) x18 x19 x20 x21 x22 x23 x24 x25 x26 x27 x28 x29 x30 x31 x32 x33 x34 x35 x36 x37 x38 x39 x40 W :=
  ⟨h.x, fun _ => rfl, h.p1, h.p2, h.p3, h.p4, h.p5, h.p6, h.p7, h.p8, h.p9, h.p10, h.p11, h.p23⟩
theorem SE.s1 (h : SE W1 B off D dff n cap bc ki XC YC L x17 x18 x19 x20 x21 x22 x23 x24 x25 x26 x27 x28 x29 x30 x31 x32 x33 x34 x35 x36 x37 x38 x39 x40 W) : SE W1 B off D dff n cap bc ki XC YC (upd L 1) x17 (.int .i64 (ki : Int)) x19 x20 x21 x22 x23 x24 x25 x26 x27 x28 x29 x30 x31 x32 x33 x34 x35 x36 x37 x38 x39 x40 W :=
  ⟨h.x, h.p0, fun _ => rfl, h.p2, h.p3, h.p4, h.p5, h.p6, h.p7, h.p8, h.p9, h.p10, h.p11, h.p23⟩
theorem SE.s2 (h : SE W1 B off D dff n cap bc ki XC YC L x17 x18 x19 x20 x21 x22 x23 x24 x25 x26 x27 x28 x29 x30 x31 x32 x33 x34 x35 x36 x37 x38 x39 x40 W) : SE W1 B off D dff n cap bc ki XC YC (upd L 2) x17 x18 (.pointer (some ⟨B, off + ki * 33, none⟩)) x20 x21 x22 x23 x24 x25 x26 x27 x28 x29 x30 x31 x32 x33 x34 x35 x36 x37 x38 x39 x40 W :=
  ⟨h.x, h.p0, h.p1, fun _ => rfl, h.p3, h.p4, h.p5, h.p6, h.p7, h.p8, h.p9, h.p10, h.p11, h.p23⟩
theorem SE.s3 (h : SE W1 B off D dff n cap bc ki XC YC L x17 x18 x19 x20 x21 x22 x23 x24 x25 x26 x27 x28 x29 x30 x31 x32 x33 x34 x35 x36 x37 x38 x39 x40 W) : SE W1 B off D dff n cap bc ki XC YC (upd L 3) x17 x18 x19 (.pointer (some ⟨B, off + ki * 33, none⟩)) x21 x22 x23 x24 x25 x26 x27 x28 x29 x30 x31 x32 x33 x34 x35 x36 x37 x38 x39 x40 W :=
  ⟨h.x, h.p0, h.p1, h.p2, fun _ => rfl, h.p4, h.p5, h.p6, h.p7, h.p8, h.p9, h.p10, h.p11, h.p23⟩
theorem SE.s4 (h : SE W1 B off D dff n cap bc ki XC YC L x17 x18 x19 x20 x21 x22 x23 x24 x25 x26 x27 x28 x29 x30 x31 x32 x33 x34 x35 x36 x37 x38 x39 x40 W) : SE W1 B off D dff n cap bc ki XC YC (upd L 4) x17 x18 x19 x20 (.agg XC.toArray) x22 x23 x24 x25 x26 x27 x28 x29 x30 x31 x32 x33 x34 x35 x36 x37 x38 x39 x40 W :=
  ⟨h.x, h.p0, h.p1, h.p2, h.p3, fun _ => rfl, h.p5, h.p6, h.p7, h.p8, h.p9, h.p10, h.p11, h.p23⟩
theorem SE.s5 (h : SE W1 B off D dff n cap bc ki XC YC L x17 x18 x19 x20 x21 x22 x23 x24 x25 x26 x27 x28 x29 x30 x31 x32 x33 x34 x35 x36 x37 x38 x39 x40 W) : SE W1 B off D dff n cap bc ki XC YC (upd L 5) x17 x18 x19 x20 x21 (.slice (some ⟨D, dff, none⟩) n bc) x23 x24 x25 x26 x27 x28 x29 x30 x31 x32 x33 x34 x35 x36 x37 x38 x39 x40 W :=
  ⟨h.x, h.p0, h.p1, h.p2, h.p3, h.p4, fun _ => rfl, h.p6, h.p7, h.p8, h.p9, h.p10, h.p11, h.p23⟩
theorem SE.s6 (h : SE W1 B off D dff n cap bc ki XC YC L x17 x18 x19 x20 x21 x22 x23 x24 x25 x26 x27 x28 x29 x30 x31 x32 x33 x34 x35 x36 x37 x38 x39 x40 W) : SE W1 B off D dff n cap bc ki XC YC (upd L 6) x17 x18 x19 x20 x21 x22 (.int .i64 (ki : Int)) x24 x25 x26 x27 x28 x29 x30 x31 x32 x33 x34 x35 x36 x37 x38 x39 x40 W :=
  ⟨h.x, h.p0, h.p1, h.p2, h.p3, h.p4, h.p5, fun _ => rfl, h.p7, h.p8, h.p9, h.p10, h.p11, h.p23⟩
theorem SE.s7 (h : SE W1 B off D dff n cap bc ki XC YC L x17 x18 x19 x20 x21 x22 x23 x24 x25 x26 x27 x28 x29 x30 x31 x32 x33 x34 x35 x36 x37 x38 x39 x40 W) : SE W1 B off D dff n cap bc ki XC YC (upd L 7) x17 x18 x19 x20 x21 x22 x23 (.pointer (some ⟨D, dff + ki * 33, none⟩)) x25 x26 x27 x28 x29 x30 x31 x32 x33 x34 x35 x36 x37 x38 x39 x40 W :=
  ⟨h.x, h.p0, h.p1, h.p2, h.p3, h.p4, h.p5, h.p6, fun _ => rfl, h.p8, h.p9, h.p10, h.p11, h.p23⟩
theorem SE.s8 (h : SE W1 B off D dff n cap bc ki XC YC L x17 x18 x19 x20 x21 x22 x23 x24 x25 x26 x27 x28 x29 x30 x31 x32 x33 x34 x35 x36 x37 x38 x39 x40 W) : SE W1 B off D dff n cap bc ki XC YC (upd L 8) x17 x18 x19 x20 x21 x22 x23 x24 (.pointer (some ⟨D, dff + ki * 33, none⟩)) x26 x27 x28 x29 x30 x31 x32 x33 x34 x35 x36 x37 x38 x39 x40 W :=
  ⟨h.x, h.p0, h.p1, h.p2, h.p3, h.p4, h.p5, h.p6, h.p7, fun _ => rfl, h.p9, h.p10, h.p11, h.p23⟩
theorem SE.s9 (h : SE W1 B off D dff n cap bc ki XC YC L x17 x18 x19 x20 x21 x22 x23 x24 x25 x26 x27 x28 x29 x30 x31 x32 x33 x34 x35 x36 x37 x38 x39 x40 W) : SE W1 B off D dff n cap bc ki XC YC (upd L 9) x17 x18 x19 x20 x21 x22 x23 x24 x25 (.agg YC.toArray) x27 x28 x29 x30 x31 x32 x33 x34 x35 x36 x37 x38 x39 x40 W :=
  ⟨h.x, h.p0, h.p1, h.p2, h.p3, h.p4, h.p5, h.p6, h.p7, h.p8, fun _ => rfl, h.p10, h.p11, h.p23⟩
theorem SE.s10 (h : SE W1 B off D dff n cap bc ki XC YC L x17 x18 x19 x20 x21 x22 x23 x24 x25 x26 x27 x28 x29 x30 x31 x32 x33 x34 x35 x36 x37 x38 x39 x40 W) : SE W1 B off D dff n cap bc ki XC YC (upd L 10) x17 x18 x19 x20 x21 x22 x23 x24 x25 x26 (.bool true) x28 x29 x30 x31 x32 x33 x34 x35 x36 x37 x38 x39 x40 W :=
  ⟨h.x, h.p0, h.p1, h.p2, h.p3, h.p4, h.p5, h.p6, h.p7, h.p8, h.p9, fun _ => rfl, h.p11, h.p23⟩
theorem SE.s11 (h : SE W1 B off D dff n cap bc ki XC YC L x17 x18 x19 x20 x21 x22 x23 x24 x25 x26 x27 x28 x29 x30 x31 x32 x33 x34 x35 x36 x37 x38 x39 x40 W) : SE W1 B off D dff n cap bc ki XC YC (upd L 11) x17 x18 x19 x20 x21 x22 x23 x24 x25 x26 x27 (.bool true) x29 x30 x31 x32 x33 x34 x35 x36 x37 x38 x39 x40 W :=
  ⟨h.x, h.p0, h.p1, h.p2, h.p3, h.p4, h.p5, h.p6, h.p7, h.p8, h.p9, h.p10, fun _ => rfl, h.p23⟩
theorem SE.s12 (h : SE W1 B off D dff n cap bc ki XC YC L x17 x18 x19 x20 x21 x22 x23 x24 x25 x26 x27 x28 x29 x30 x31 x32 x33 x34 x35 x36 x37 x38 x39 x40 W) : SE W1 B off D dff n cap bc ki XC YC (upd L 12) x17 x18 x19 x20 x21 x22 x23 x24 x25 x26 x27 x28 undef x30 x31 x32 x33 x34 x35 x36 x37 x38 x39 x40 W :=
  ⟨h.x, h.p0, h.p1, h.p2, h.p3, h.p4, h.p5, h.p6, h.p7, h.p8, h.p9, h.p10, h.p11, h.p23⟩
theorem SE.s13 (h : SE W1 B off D dff n cap bc ki XC YC L x17 x18 x19 x20 x21 x22 x23 x24 x25 x26 x27 x28 x29 x30 x31 x32 x33 x34 x35 x36 x37 x38 x39 x40 W) : SE W1 B off D dff n cap bc ki XC YC (upd L 13) x17 x18 x19 x20 x21 x22 x23 x24 x25 x26 x27 x28 x29 undef x31 x32 x33 x34 x35 x36 x37 x38 x39 x40 W :=
  ⟨h.x, h.p0, h.p1, h.p2, h.p3, h.p4, h.p5, h.p6, h.p7, h.p8, h.p9, h.p10, h.p11, h.p23⟩
theorem SE.s14 (h : SE W1 B off D dff n cap bc ki XC YC L x17 x18 x19 x20 x21 x22 x23 x24 x25 x26 x27 x28 x29 x30 x31 x32 x33 x34 x35 x36 x37 x38 x39 x40 W) : SE W1 B off D dff n cap bc ki XC YC (upd L 14) x17 x18 x19 x20 x21 x22 x23 x24 x25 x26 x27 x28 x29 x30 undef x32 x33 x34 x35 x36 x37 x38 x39 x40 W :=
  ⟨h.x, h.p0, h.p1, h.p2, h.p3, h.p4, h.p5, h.p6, h.p7, h.p8, h.p9, h.p10, h.p11, h.p23⟩
theorem SE.s15 (h : SE W1 B off D dff n cap bc ki XC YC L x17 x18 x19 x20 x21 x22 x23 x24 x25 x26 x27 x28 x29 x30 x31 x32 x33 x34 x35 x36 x37 x38 x39 x40 W) : SE W1 B off D dff n cap bc ki XC YC (upd L 15) x17 x18 x19 x20 x21 x22 x23 x24 x25 x26 x27 x28 x29 x30 x31 undef x33 x34 x35 x36 x37 x38 x39 x40 W :=
  ⟨h.x, h.p0, h.p1, h.p2, h.p3, h.p4, h.p5, h.p6, h.p7, h.p8, h.p9, h.p10, h.p11, h.p23⟩
theorem SE.s16 (h : SE W1 B off D dff n cap bc ki XC YC L x17 x18 x19 x20 x21 x22 x23 x24 x25 x26 x27 x28 x29 x30 x31 x32 x33 x34 x35 x36 x37 x38 x39 x40 W) : SE W1 B off D dff n cap bc ki XC YC (upd L 16) x17 x18 x19 x20 x21 x22 x23 x24 x25 x26 x27 x28 x29 x30 x31 x32 undef x34 x35 x36 x37 x38 x39 x40 W :=
  ⟨h.x, h.p0, h.p1, h.p2, h.p3, h.p4, h.p5, h.p6, h.p7, h.p8, h.p9, h.p10, h.p11, h.p23⟩
theorem SE.s17 (h : SE W1 B off D dff n cap bc ki XC YC L x17 x18 x19 x20 x21 x22 x23 x24 x25 x26 x27 x28 x29 x30 x31 x32 x33 x34 x35 x36 x37 x38 x39 x40 W) : SE W1 B off D dff n cap bc ki XC YC (upd L 17) x17 x18 x19 x20 x21 x22 x23 x24 x25 x26 x27 x28 x29 x30 x31 x32 x33 undef x35 x36 x37 x38 x39 x40 W :=
  ⟨h.x, h.p0, h.p1, h.p2, h.p3, h.p4, h.p5, h.p6, h.p7, h.p8, h.p9, h.p10, h.p11, h.p23⟩
theorem SE.s18 (h : SE W1 B off D dff n cap bc ki XC YC L x17 x18 x19 x20 x21 x22 x23 x24 x25 x26 x27 x28 x29 x30 x31 x32 x33 x34 x35 x36 x37 x38 x39 x40 W) : SE W1 B off D dff n cap bc ki XC YC (upd L 18) x17 x18 x19 x20 x21 x22 x23 x24 x25 x26 x27 x28 x29 x30 x31 x32 x33 x34 undef x36 x37 x38 x39 x40 W :=
  ⟨h.x, h.p0, h.p1, h.p2, h.p3, h.p4, h.p5, h.p6, h.p7, h.p8, h.p9, h.p10, h.p11, h.p23⟩
theorem SE.s19 (h : SE W1 B off D dff n cap bc ki XC YC L x17 x18 x19 x20 x21 x22 x23 x24 x25 x26 x27 x28 x29 x30 x31 x32 x33 x34 x35 x36 x37 x38 x39 x40 W) : SE W1 B off D dff n cap bc ki XC YC (upd L 19) x17 x18 x19 x20 x21 x22 x23 x24 x25 x26 x27 x28 x29 x30 x31 x32 x33 x34 x35 undef x37 x38 x39 x40 W :=
  ⟨h.x, h.p0, h.p1, h.p2, h.p3, h.p4, h.p5, h.p6, h.p7, h.p8, h.p9, h.p10, h.p11, h.p23⟩
theorem SE.s20 (h : SE W1 B off D dff n cap bc ki XC YC L x17 x18 x19 x20 x21 x22 x23 x24 x25 x26 x27 x28 x29 x30 x31 x32 x33 x34 x35 x36 x37 x38 x39 x40 W) : SE W1 B off D dff n cap bc ki XC YC (upd L 20) x17 x18 x19 x20 x21 x22 x23 x24 x25 x26 x27 x28 x29 x30 x31 x32 x33 x34 x35 x36 undef x38 x39 x40 W :=
  ⟨h.x, h.p0, h.p1, h.p2, h.p3, h.p4, h.p5, h.p6, h.p7, h.p8, h.p9, h.p10, h.p11, h.p23⟩
theorem SE.s21 (h : SE W1 B off D dff n cap bc ki XC YC L x17 x18 x19 x20 x21 x22 x23 x24 x25 x26 x27 x28 x29 x30 x31 x32 x33 x34 x35 x36 x37 x38 x39 x40 W) : SE W1 B off D dff n cap bc ki XC YC (upd L 21) x17 x18 x19 x20 x21 x22 x23 x24 x25 x26 x27 x28 x29 x30 x31 x32 x33 x34 x35 x36 x37 undef x39 x40 W :=
  ⟨h.x, h.p0, h.p1, h.p2, h.p3, h.p4, h.p5, h.p6, h.p7, h.p8, h.p9, h.p10, h.p11, h.p23⟩
theorem SE.s22 (h : SE W1 B off D dff n cap bc ki XC YC L x17 x18 x19 x20 x21 x22 x23 x24 x25 x26 x27 x28 x29 x30 x31 x32 x33 x34 x35 x36 x37 x38 x39 x40 W) : SE W1 B off D dff n cap bc ki XC YC (upd L 22) x17 x18 x19 x20 x21 x22 x23 x24 x25 x26 x27 x28 x29 x30 x31 x32 x33 x34 x35 x36 x37 x38 undef x40 W :=
  ⟨h.x, h.p0, h.p1, h.p2, h.p3, h.p4, h.p5, h.p6, h.p7, h.p8, h.p9, h.p10, h.p11, h.p23⟩
theorem SE.s23 (h : SE W1 B off D dff n cap bc ki XC YC L x17 x18 x19 x20 x21 x22 x23 x24 x25 x26 x27 x28 x29 x30 x31 x32 x33 x34 x35 x36 x37 x38 x39 x40 W) : SE W1 B off D dff n cap bc ki XC YC (upd L 23) x17 x18 x19 x20 x21 x22 x23 x24 x25 x26 x27 x28 x29 x30 x31 x32 x33 x34 x35 x36 x37 x38 x39 (.bool true) W :=
  ⟨h.x, h.p0, h.p1, h.p2, h.p3, h.p4, h.p5, h.p6, h.p7, h.p8, h.p9, h.p10, h.p11, fun _ => rfl⟩
end
@[reducible] def ISE (W1 : World) (B off D dff n cap bc ki : Nat) (XC YC : List Value) (y0 y1 y2 y3 y4 y5 y6 y7 y8 y9 y10 y11 y12 y13 y14 y15 y16 : Value) : (Nat → Bool) → Act → World → Prop := fun L a W => ∃ x17 x18 x19 x20 x21 x22 x23 x24 x25 x26 x27 x28 x29 x30 x31 x32 x33 x34 x35 x36 x37 x38 x39 x40, a = ⟨#[y0, y1, y2, y3, y4, y5, y6, y7, y8, y9, y10, y11, y12, y13, y14, y15, y16, x17, x18, x19, x20, x21, x22, x23, x24, x25, x26, x27, x28, x29, x30, x31, x32, x33, x34, x35, x36, x37, x38, x39, x40], []⟩ ∧ SE W1 B off D dff n cap bc ki XC YC L x17 x18 x19 x20 x21 x22 x23 x24 x25 x26 x27 x28 x29 x30 x31 x32 x33 x34 x35 x36 x37 x38 x39 x40 W
theorem SE.step {W1 : World} {B off D dff n cap bc ki : Nat} {XC YC : List Value} {y0 y1 y2 y3 y4 y5 y6 y7 y8 y9 y10 y11 y12 y13 y14 y15 y16 : Value} {P : Program} {ops : Array Oper} {Q : Exit → Act → World → Prop} {i : Nat} {o : Oper} (hq : ∀ x17 x18 x19 x20 x21 x22 x23 x24 x25 x26 x27 x28 x29 x30 x31 x32 x33 x34 x35 x36 x37 x38 x39 x40 (L : Nat → Bool) (W : World), SE W1 B off D dff n cap bc ki XC YC L x17 x18 x19 x20 x21 x22 x23 x24 x25 x26 x27 x28 x29 x30 x31 x32 x33 x34 x35 x36 x37 x38 x39 x40 W → L i = false → (∀ j ∈ onesOf o, L j = true) → ∀ K : Act → World → Prop, Shut (∀ a' w', ISE W1 B off D dff n cap bc ki XC YC y0 y1 y2 y3 y4 y5 y6 y7 y8 y9 y10 y11 y12 y13 y14 y15 y16 (upd L i) a' w' → K a' w') → if Region.wanted o (yielded ops (⟨#[y0, y1, y2, y3, y4, y5, y6, y7, y8, y9, y10, y11, y12, y13, y14, y15, y16, x17, x18, x19, x20, x21, x22, x23, x24, x25, x26, x27, x28, x29, x30, x31, x32, x33, x34, x35, x36, x37, x38, x39, x40], []⟩ : Act).tmps) = true then Oper.wp P o ⟨#[y0, y1, y2, y3, y4, y5, y6, y7, y8, y9, y10, y11, y12, y13, y14, y15, y16, x17, x18, x19, x20, x21, x22, x23, x24, x25, x26, x27, x28, x29, x30, x31, x32, x33, x34, x35, x36, x37, x38, x39, x40], []⟩ W K Q else K ((⟨#[y0, y1, y2, y3, y4, y5, y6, y7, y8, y9, y10, y11, y12, y13, y14, y15, y16, x17, x18, x19, x20, x21, x22, x23, x24, x25, x26, x27, x28, x29, x30, x31, x32, x33, x34, x35, x36, x37, x38, x39, x40], []⟩ : Act).put o.dst undef) W) : StepI P ops (ISE W1 B off D dff n cap bc ki XC YC y0 y1 y2 y3 y4 y5 y6 y7 y8 y9 y10 y11 y12 y13 y14 y15 y16) Q i o := by
  rintro L a W ⟨x17, x18, x19, x20, x21, x22, x23, x24, x25, x26, x27, x28, x29, x30, x31, x32, x33, x34, x35, x36, x37, x38, x39, x40, rfl, h⟩
  exact hq _ _ _ _ _ _ _ _ _ _ _ _ _ _ _ _ _ _ _ _ _ _ _ _ _ _ h
theorem SE.ends {W1 : World} {B off D dff n cap bc ki : Nat} {XC YC : List Value} {y0 y1 y2 y3 y4 y5 y6 y7 y8 y9 y10 y11 y12 y13 y14 y15 y16 : Value} {mm_ : Nat} {Q : Exit → Act → World → Prop} (hq : ∀ x17 x18 x19 x20 x21 x22 x23 x24 x25 x26 x27 x28 x29 x30 x31 x32 x33 x34 x35 x36 x37 x38 x39 x40 (L : Nat → Bool) (W : World), (∀ j, j < mm_ → L j = true) → SE W1 B off D dff n cap bc ki XC YC L x17 x18 x19 x20 x21 x22 x23 x24 x25 x26 x27 x28 x29 x30 x31 x32 x33 x34 x35 x36 x37 x38 x39 x40 W → Q .normal ⟨#[y0, y1, y2, y3, y4, y5, y6, y7, y8, y9, y10, y11, y12, y13, y14, y15, y16, x17, x18, x19, x20, x21, x22, x23, x24, x25, x26, x27, x28, x29, x30, x31, x32, x33, x34, x35, x36, x37, x38, x39, x40], []⟩ W) : ∀ L a' w', (∀ j, j < mm_ → L j = true) → ISE W1 B off D dff n cap bc ki XC YC y0 y1 y2 y3 y4 y5 y6 y7 y8 y9 y10 y11 y12 y13 y14 y15 y16 L a' w' → Q .normal a' w' := by
  rintro L a W hall ⟨x17, x18, x19, x20, x21, x22, x23, x24, x25, x26, x27, x28, x29, x30, x31, x32, x33, x34, x35, x36, x37, x38, x39, x40, rfl, h⟩
  exact hq _ _ _ _ _ _ _ _ _ _ _ _ _ _ _ _ _ _ _ _ _ _ _ _ _ _ hall h
set_option maxHeartbeats 2000000 in
set_option maxRecDepth 100000 in
theorem rsame_any (w : World) (ao : Option Addr) (n cap B off : Nat) (xs : List EvV) (hn : xs.length = n) (hn47 : n ≤ 140737488355328) (hao : 0 < n → ao = some ⟨B, off, none⟩) (hin : EvIn w B off xs)
    (bo : Option Addr) (m bc D dff : Nat) (ys : List EvV) (hm : ys.length = m) (hbo : 0 < m → bo = some ⟨D, dff, none⟩) (hiy : EvIn w D dff ys) (r : Bool) (hr : r = decide (xs = ys)) :
    Calls Try.prog 13 #[.slice ao n cap, .slice bo m bc] w fun e w' => e = .returned (.bool r) ∧ Dr w w' := by
  by_cases hnm : n = m
  rotate_left
  · have hb : ((n : Int) == (m : Int)) = false := by simp; omega
    have HR : Hid (r = false) := by
      show _ = _
      rw [hr]
      exact decide_eq_false fun e => hnm (by rw [← hn, ← hm, e])
    have hne : ¬ (n : Int) = (m : Int) := by omega
    clear hin hiy hr
    go_enter Try.func13, Try.ntmps13
    go_wp2
    go_ret
    exact ⟨by rw [HR.out]; rfl, Dr.refl _⟩
  subst hnm
  have HI : Hid (∀ W, Dr w W → EvIn W B off xs ∧ EvIn W D dff ys) := fun W d => ⟨evIn_dr hin d, evIn_dr hiy d⟩
  have HXL : Hid (xs.length = n) := hn
  have HYL : Hid (ys.length = n) := hm
  have HAO : Hid (0 < n → ao = some ⟨B, off, none⟩) := hao
  have HBO : Hid (0 < n → bo = some ⟨D, dff, none⟩) := hbo
  have HR : Hid (r = decide (xs = ys)) := hr
  clear hin hiy hn hm hao hbo hr
  go_enter Try.func13, Try.ntmps13
  go_wp2
  go_loopw [5] (fun iv wr => ∃ k : Nat, k ≤ n ∧ iv = .int .i64 k ∧ Hid (∀ j : Nat, j < k → xs[j]? = ys[j]?) ∧ Hid (Dr w wr)) (fun iv _ => n - (intOf iv).toNat)
  case atStart => exact ⟨0, by omega, rfl, fun _ h => absurd h (by omega), Dr.refl _⟩
  case round =>
    obtain ⟨k, hk, rfl, HJ, HD⟩ := hrel
    by_cases hlt : k < n
    · obtain rfl := HAO.out (by omega)
      obtain rfl := HBO.out (by omega)
      have y0 : (0 : Int) ≤ (k : Int) := by omega
      have y1 : (k : Int) < (n : Int) := by omega
      obtain ⟨x, hx⟩ : ∃ x, xs[k]? = some x := ⟨_, List.getElem?_eq_getElem (by rw [HXL.out]; exact hlt)⟩
      obtain ⟨y, hy⟩ : ∃ y, ys[k]? = some y := ⟨_, List.getElem?_eq_getElem (by rw [HYL.out]; exact hlt)⟩
      have hI2 := HI.out _ HD.out
      have okx := hI2.1.ok k x hx
      have oky := hI2.2.ok k y hy
      have cx := hI2.1.cells k x hx
      have cy := hI2.2.cells k y hy
      obtain ⟨wo, hwo⟩ : ∃ wo, wo = wr := ⟨wr, rfl⟩
      subst hwo
      have HX1 : Hid (∀ W, W = wo.drew → W.rangeAt B (off + k * 33) (x.d.map B8)) := fun W h => by subst h; exact ev_dig cx
      have HY1 : Hid (∀ W, W = wo.drew → W.rangeAt D (dff + k * 33) (y.d.map B8)) := fun W h => by subst h; exact ev_dig cy
      have HX2 : Hid (∀ W, W = wo.drew → W.cell? ⟨B, off + k * 33 + 32, none⟩ = some (.int .i64 x.e)) := fun W h => by subst h; exact ev_err cx okx.1
      have HY2 : Hid (∀ W, W = wo.drew → W.cell? ⟨D, dff + k * 33 + 32, none⟩ = some (.int .i64 y.e)) := fun W h => by subst h; exact ev_err cy oky.1
      have lx : (x.d.map B8).length = 32 := by rw [List.length_map, okx.1]
      have ly : (y.d.map B8).length = 32 := by rw [List.length_map, oky.1]
      have HXY : Hid (x.d = y.d → x.e = y.e → ∀ j : Nat, j < k + 1 → xs[j]? = ys[j]?) := by
        intro h1 h2 j hj
        rcases Nat.lt_or_ge j k with h3 | h3
        · exact HJ.out j h3
        · obtain rfl : j = k := by omega
          rw [hx, hy]
          exact congrArg some (Prod.ext h1 h2)
      have HNE : Hid (¬ (x.d = y.d ∧ x.e = y.e) → r = false) := by
        intro h
        rw [HR.out]
        refine decide_eq_false fun e => h ?_
        rw [e, hy] at hx
        injection hx with hx
        subst hx
        exact ⟨rfl, rfl⟩
      have HDW : Hid (Dr w wo.drew) := HD.out.drewN 1
      have okx1 := okx.1
      have oky1 := oky.1
      clear cx cy hI2 okx oky HJ HI
      by_cases hd : x.d = y.d
      · have qe := eq_any x.d y.d okx1 oky1 true (by rw [decide_eq_true hd])
        by_cases he : x.e = y.e
        · have HN : Hid (∀ j : Nat, j < k + 1 → xs[j]? = ys[j]?) := HXY.out hd he
          have ef : Hid ((x.e != y.e) = false) := by show _ = _; rw [he]; simp
          generalize hnn : (x.e != y.e) = ne at *
          clear hd he hx hy HXY HNE
          generalize x.d.map B8 = XC at *
          generalize y.d.map B8 = YC at *
          generalize x.e = xe at *
          generalize y.e = ye at *
          have ef2 := ef.out
          subst ef2
          go_wp2_with fail
          refine wp_region_inv (ISD wo B off D dff n cap bc k XC YC xe ye false _ _ _ _ _ _ _ _ _ _ _ _ _ _ _ _ _) (by kernel_rfl) (by kernel_rfl) ⟨_, _, _, _, _, _, _, _, _, _, _, _, _, _, _, _, _, _, _, _, _, _, _, _, rfl, ⟨rfl, fun k => (by cases k), fun k => (by cases k), fun k => (by cases k), fun k => (by cases k), fun k => (by cases k), fun k => (by cases k), fun k => (by cases k), fun k => (by cases k), fun k => (by cases k), fun k => (by cases k), fun k => (by cases k), fun k => (by cases k), fun k => (by cases k), fun k => (by cases k), fun k => (by cases k), fun k => (by cases k), fun k => (by cases k), fun k => (by cases k), fun k => (by cases k), fun k => (by cases k), fun k => (by cases k), fun k => (by cases k), fun k => (by cases k), fun k => (by cases k)⟩⟩ ?_ ?_
          · refine .cons ?_ (.cons ?_ (.cons ?_ (.cons ?_ (.cons ?_ (.cons ?_ (.cons ?_ (.cons ?_ (.cons ?_ (.cons ?_ (.cons ?_ (.cons ?_ (.cons ?_ (.cons ?_ (.cons ?_ (.cons ?_ (.cons ?_ (.cons ?_ (.cons ?_ (.cons ?_ (.cons ?_ (.cons ?_ (.cons ?_ (.cons ?_ .nil)))))))))))))))))))))))
            all_goals (refine SD.step ?_; intro x17 x18 x19 x20 x21 x22 x23 x24 x25 x26 x27 x28 x29 x30 x31 x32 x33 x34 x35 x36 x37 x38 x39 x40 L W hI hL hd K hK)
            · rw [if_pos (by rfl)]
              go_simp
              exact hK.out _ _ ⟨_, _, _, _, _, _, _, _, _, _, _, _, _, _, _, _, _, _, _, _, _, _, _, _, rfl, hI.s0⟩
            · rw [if_pos (by rfl)]
              go_simp
              exact hK.out _ _ ⟨_, _, _, _, _, _, _, _, _, _, _, _, _, _, _, _, _, _, _, _, _, _, _, _, rfl, hI.s1⟩
            · have hx0 := hI.p0 (hd 0 (by decide))
              subst hx0
              have hx1 := hI.p1 (hd 1 (by decide))
              subst hx1
              rw [if_pos (by rfl)]
              go_simp
              exact hK.out _ _ ⟨_, _, _, _, _, _, _, _, _, _, _, _, _, _, _, _, _, _, _, _, _, _, _, _, rfl, hI.s2⟩
            · have hx2 := hI.p2 (hd 2 (by decide))
              subst hx2
              rw [if_pos (by rfl)]
              go_simp
              exact hK.out _ _ ⟨_, _, _, _, _, _, _, _, _, _, _, _, _, _, _, _, _, _, _, _, _, _, _, _, rfl, hI.s3⟩
            · have hx3 := hI.p3 (hd 3 (by decide))
              subst hx3
              refine step_load_rng rfl 32 _ rfl B (off + k * 33) XC (HX1.out _ hI.x) rfl _ Try.underlying32 rfl (by rw [lx]; kernel_rfl) ?_
              exact hK.out _ _ ⟨_, _, _, _, _, _, _, _, _, _, _, _, _, _, _, _, _, _, _, _, _, _, _, _, rfl, hI.s4⟩
            · rw [if_pos (by rfl)]
              go_simp
              exact hK.out _ _ ⟨_, _, _, _, _, _, _, _, _, _, _, _, _, _, _, _, _, _, _, _, _, _, _, _, rfl, hI.s5⟩
            · rw [if_pos (by rfl)]
              go_simp
              exact hK.out _ _ ⟨_, _, _, _, _, _, _, _, _, _, _, _, _, _, _, _, _, _, _, _, _, _, _, _, rfl, hI.s6⟩
            · have hx5 := hI.p5 (hd 5 (by decide))
              subst hx5
              have hx6 := hI.p6 (hd 6 (by decide))
              subst hx6
              rw [if_pos (by rfl)]
              go_simp
              exact hK.out _ _ ⟨_, _, _, _, _, _, _, _, _, _, _, _, _, _, _, _, _, _, _, _, _, _, _, _, rfl, hI.s7⟩
            · have hx7 := hI.p7 (hd 7 (by decide))
              subst hx7
              rw [if_pos (by rfl)]
              go_simp
              exact hK.out _ _ ⟨_, _, _, _, _, _, _, _, _, _, _, _, _, _, _, _, _, _, _, _, _, _, _, _, rfl, hI.s8⟩
            · have hx8 := hI.p8 (hd 8 (by decide))
              subst hx8
              refine step_load_rng rfl 32 _ rfl D (dff + k * 33) YC (HY1.out _ hI.x) rfl _ Try.underlying32 rfl (by rw [ly]; kernel_rfl) ?_
              exact hK.out _ _ ⟨_, _, _, _, _, _, _, _, _, _, _, _, _, _, _, _, _, _, _, _, _, _, _, _, rfl, hI.s9⟩
            · have hx4 := hI.p4 (hd 4 (by decide))
              subst hx4
              have hx9 := hI.p9 (hd 9 (by decide))
              subst hx9
              rw [if_pos (by rfl)]
              go_simp
              exact hK.out _ _ ⟨_, _, _, _, _, _, _, _, _, _, _, _, _, _, _, _, _, _, _, _, _, _, _, _, rfl, hI.s10⟩
            · have hx10 := hI.p10 (hd 10 (by decide))
              subst hx10
              rw [if_pos (by rfl)]
              go_simp
              exact hK.out _ _ ⟨_, _, _, _, _, _, _, _, _, _, _, _, _, _, _, _, _, _, _, _, _, _, _, _, rfl, hI.s11⟩
            · have hx11 := hI.p11 (hd 11 (by decide))
              subst hx11
              rw [if_pos (by rfl)]
              go_simp
              exact hK.out _ _ ⟨_, _, _, _, _, _, _, _, _, _, _, _, _, _, _, _, _, _, _, _, _, _, _, _, rfl, hI.s12⟩
            · have hx11 := hI.p11 (hd 11 (by decide))
              subst hx11
              rw [if_pos (by rfl)]
              go_simp
              exact hK.out _ _ ⟨_, _, _, _, _, _, _, _, _, _, _, _, _, _, _, _, _, _, _, _, _, _, _, _, rfl, hI.s13⟩
            · have hx12 := hI.p12 (hd 12 (by decide))
              subst hx12
              have hx13 := hI.p13 (hd 13 (by decide))
              subst hx13
              have hx11 := hI.p11 (hd 11 (by decide))
              subst hx11
              rw [if_pos (by rfl)]
              go_simp
              exact hK.out _ _ ⟨_, _, _, _, _, _, _, _, _, _, _, _, _, _, _, _, _, _, _, _, _, _, _, _, rfl, hI.s14⟩
            · have hx14 := hI.p14 (hd 14 (by decide))
              subst hx14
              have hx11 := hI.p11 (hd 11 (by decide))
              subst hx11
              rw [if_pos (by rfl)]
              go_simp
              exact hK.out _ _ ⟨_, _, _, _, _, _, _, _, _, _, _, _, _, _, _, _, _, _, _, _, _, _, _, _, rfl, hI.s15⟩
            · have hx15 := hI.p15 (hd 15 (by decide))
              subst hx15
              have hx11 := hI.p11 (hd 11 (by decide))
              subst hx11
              rw [if_pos (by rfl)]
              have hc := HX2.out _ hI.x
              go_simp
              exact hK.out _ _ ⟨_, _, _, _, _, _, _, _, _, _, _, _, _, _, _, _, _, _, _, _, _, _, _, _, rfl, hI.s16⟩
            · have hx11 := hI.p11 (hd 11 (by decide))
              subst hx11
              rw [if_pos (by rfl)]
              go_simp
              exact hK.out _ _ ⟨_, _, _, _, _, _, _, _, _, _, _, _, _, _, _, _, _, _, _, _, _, _, _, _, rfl, hI.s17⟩
            · have hx11 := hI.p11 (hd 11 (by decide))
              subst hx11
              rw [if_pos (by rfl)]
              go_simp
              exact hK.out _ _ ⟨_, _, _, _, _, _, _, _, _, _, _, _, _, _, _, _, _, _, _, _, _, _, _, _, rfl, hI.s18⟩
            · have hx17 := hI.p17 (hd 17 (by decide))
              subst hx17
              have hx18 := hI.p18 (hd 18 (by decide))
              subst hx18
              have hx11 := hI.p11 (hd 11 (by decide))
              subst hx11
              rw [if_pos (by rfl)]
              go_simp
              exact hK.out _ _ ⟨_, _, _, _, _, _, _, _, _, _, _, _, _, _, _, _, _, _, _, _, _, _, _, _, rfl, hI.s19⟩
            · have hx19 := hI.p19 (hd 19 (by decide))
              subst hx19
              have hx11 := hI.p11 (hd 11 (by decide))
              subst hx11
              rw [if_pos (by rfl)]
              go_simp
              exact hK.out _ _ ⟨_, _, _, _, _, _, _, _, _, _, _, _, _, _, _, _, _, _, _, _, _, _, _, _, rfl, hI.s20⟩
            · have hx20 := hI.p20 (hd 20 (by decide))
              subst hx20
              have hx11 := hI.p11 (hd 11 (by decide))
              subst hx11
              rw [if_pos (by rfl)]
              have hc := HY2.out _ hI.x
              go_simp
              exact hK.out _ _ ⟨_, _, _, _, _, _, _, _, _, _, _, _, _, _, _, _, _, _, _, _, _, _, _, _, rfl, hI.s21⟩
            · have hx16 := hI.p16 (hd 16 (by decide))
              subst hx16
              have hx21 := hI.p21 (hd 21 (by decide))
              subst hx21
              have hx11 := hI.p11 (hd 11 (by decide))
              subst hx11
              rw [if_pos (by rfl)]
              go_simp
              exact hK.out _ _ ⟨_, _, _, _, _, _, _, _, _, _, _, _, _, _, _, _, _, _, _, _, _, _, _, _, rfl, hI.s22⟩
            · have hx11 := hI.p11 (hd 11 (by decide))
              subst hx11
              have hx22 := hI.p22 (hd 22 (by decide))
              subst hx22
              rw [if_pos (by rfl)]
              go_simp
              exact hK.out _ _ ⟨_, _, _, _, _, _, _, _, _, _, _, _, _, _, _, _, _, _, _, _, _, _, _, _, rfl, hI.s23⟩
          · refine SD.ends ?_; intro x17 x18 x19 x20 x21 x22 x23 x24 x25 x26 x27 x28 x29 x30 x31 x32 x33 x34 x35 x36 x37 x38 x39 x40 L W hall hI
            have hx0 := hI.p0 (hall 0 (by decide))
            subst hx0
            have hx1 := hI.p1 (hall 1 (by decide))
            subst hx1
            have hx2 := hI.p2 (hall 2 (by decide))
            subst hx2
            have hx3 := hI.p3 (hall 3 (by decide))
            subst hx3
            have hx4 := hI.p4 (hall 4 (by decide))
            subst hx4
            have hx5 := hI.p5 (hall 5 (by decide))
            subst hx5
            have hx6 := hI.p6 (hall 6 (by decide))
            subst hx6
            have hx7 := hI.p7 (hall 7 (by decide))
            subst hx7
            have hx8 := hI.p8 (hall 8 (by decide))
            subst hx8
            have hx9 := hI.p9 (hall 9 (by decide))
            subst hx9
            have hx10 := hI.p10 (hall 10 (by decide))
            subst hx10
            have hx11 := hI.p11 (hall 11 (by decide))
            subst hx11
            have hx12 := hI.p12 (hall 12 (by decide))
            subst hx12
            have hx13 := hI.p13 (hall 13 (by decide))
            subst hx13
            have hx14 := hI.p14 (hall 14 (by decide))
            subst hx14
            have hx15 := hI.p15 (hall 15 (by decide))
            subst hx15
            have hx16 := hI.p16 (hall 16 (by decide))
            subst hx16
            have hx17 := hI.p17 (hall 17 (by decide))
            subst hx17
            have hx18 := hI.p18 (hall 18 (by decide))
            subst hx18
            have hx19 := hI.p19 (hall 19 (by decide))
            subst hx19
            have hx20 := hI.p20 (hall 20 (by decide))
            subst hx20
            have hx21 := hI.p21 (hall 21 (by decide))
            subst hx21
            have hx22 := hI.p22 (hall 22 (by decide))
            subst hx22
            have hx23 := hI.p23 (hall 23 (by decide))
            subst hx23
            have hXe := hI.x
            clear hI hall
            try dsimp only
            subst hXe
            go_wp2
            exact ⟨⟨k + 1, by omega, by go_num, HN, HDW⟩, by simp [intOf]; omega⟩
        · have HF : Hid (r = false) := HNE.out fun h => he h.2
          have ef : Hid ((x.e != y.e) = true) := by show _ = _; simp [he]
          generalize hnn : (x.e != y.e) = ne at *
          clear hd he hx hy HXY HNE
          generalize x.d.map B8 = XC at *
          generalize y.d.map B8 = YC at *
          generalize x.e = xe at *
          generalize y.e = ye at *
          have ef2 := ef.out
          subst ef2
          go_wp2_with fail
          refine wp_region_inv (ISD wo B off D dff n cap bc k XC YC xe ye true _ _ _ _ _ _ _ _ _ _ _ _ _ _ _ _ _) (by kernel_rfl) (by kernel_rfl) ⟨_, _, _, _, _, _, _, _, _, _, _, _, _, _, _, _, _, _, _, _, _, _, _, _, rfl, ⟨rfl, fun k => (by cases k), fun k => (by cases k), fun k => (by cases k), fun k => (by cases k), fun k => (by cases k), fun k => (by cases k), fun k => (by cases k), fun k => (by cases k), fun k => (by cases k), fun k => (by cases k), fun k => (by cases k), fun k => (by cases k), fun k => (by cases k), fun k => (by cases k), fun k => (by cases k), fun k => (by cases k), fun k => (by cases k), fun k => (by cases k), fun k => (by cases k), fun k => (by cases k), fun k => (by cases k), fun k => (by cases k), fun k => (by cases k), fun k => (by cases k)⟩⟩ ?_ ?_
          · refine .cons ?_ (.cons ?_ (.cons ?_ (.cons ?_ (.cons ?_ (.cons ?_ (.cons ?_ (.cons ?_ (.cons ?_ (.cons ?_ (.cons ?_ (.cons ?_ (.cons ?_ (.cons ?_ (.cons ?_ (.cons ?_ (.cons ?_ (.cons ?_ (.cons ?_ (.cons ?_ (.cons ?_ (.cons ?_ (.cons ?_ (.cons ?_ .nil)))))))))))))))))))))))
            all_goals (refine SD.step ?_; intro x17 x18 x19 x20 x21 x22 x23 x24 x25 x26 x27 x28 x29 x30 x31 x32 x33 x34 x35 x36 x37 x38 x39 x40 L W hI hL hd K hK)
            · rw [if_pos (by rfl)]
              go_simp
              exact hK.out _ _ ⟨_, _, _, _, _, _, _, _, _, _, _, _, _, _, _, _, _, _, _, _, _, _, _, _, rfl, hI.s0⟩
            · rw [if_pos (by rfl)]
              go_simp
              exact hK.out _ _ ⟨_, _, _, _, _, _, _, _, _, _, _, _, _, _, _, _, _, _, _, _, _, _, _, _, rfl, hI.s1⟩
            · have hx0 := hI.p0 (hd 0 (by decide))
              subst hx0
              have hx1 := hI.p1 (hd 1 (by decide))
              subst hx1
              rw [if_pos (by rfl)]
              go_simp
              exact hK.out _ _ ⟨_, _, _, _, _, _, _, _, _, _, _, _, _, _, _, _, _, _, _, _, _, _, _, _, rfl, hI.s2⟩
            · have hx2 := hI.p2 (hd 2 (by decide))
              subst hx2
              rw [if_pos (by rfl)]
              go_simp
              exact hK.out _ _ ⟨_, _, _, _, _, _, _, _, _, _, _, _, _, _, _, _, _, _, _, _, _, _, _, _, rfl, hI.s3⟩
            · have hx3 := hI.p3 (hd 3 (by decide))
              subst hx3
              refine step_load_rng rfl 32 _ rfl B (off + k * 33) XC (HX1.out _ hI.x) rfl _ Try.underlying32 rfl (by rw [lx]; kernel_rfl) ?_
              exact hK.out _ _ ⟨_, _, _, _, _, _, _, _, _, _, _, _, _, _, _, _, _, _, _, _, _, _, _, _, rfl, hI.s4⟩
            · rw [if_pos (by rfl)]
              go_simp
              exact hK.out _ _ ⟨_, _, _, _, _, _, _, _, _, _, _, _, _, _, _, _, _, _, _, _, _, _, _, _, rfl, hI.s5⟩
            · rw [if_pos (by rfl)]
              go_simp
              exact hK.out _ _ ⟨_, _, _, _, _, _, _, _, _, _, _, _, _, _, _, _, _, _, _, _, _, _, _, _, rfl, hI.s6⟩
            · have hx5 := hI.p5 (hd 5 (by decide))
              subst hx5
              have hx6 := hI.p6 (hd 6 (by decide))
              subst hx6
              rw [if_pos (by rfl)]
              go_simp
              exact hK.out _ _ ⟨_, _, _, _, _, _, _, _, _, _, _, _, _, _, _, _, _, _, _, _, _, _, _, _, rfl, hI.s7⟩
            · have hx7 := hI.p7 (hd 7 (by decide))
              subst hx7
              rw [if_pos (by rfl)]
              go_simp
              exact hK.out _ _ ⟨_, _, _, _, _, _, _, _, _, _, _, _, _, _, _, _, _, _, _, _, _, _, _, _, rfl, hI.s8⟩
            · have hx8 := hI.p8 (hd 8 (by decide))
              subst hx8
              refine step_load_rng rfl 32 _ rfl D (dff + k * 33) YC (HY1.out _ hI.x) rfl _ Try.underlying32 rfl (by rw [ly]; kernel_rfl) ?_
              exact hK.out _ _ ⟨_, _, _, _, _, _, _, _, _, _, _, _, _, _, _, _, _, _, _, _, _, _, _, _, rfl, hI.s9⟩
            · have hx4 := hI.p4 (hd 4 (by decide))
              subst hx4
              have hx9 := hI.p9 (hd 9 (by decide))
              subst hx9
              rw [if_pos (by rfl)]
              go_simp
              exact hK.out _ _ ⟨_, _, _, _, _, _, _, _, _, _, _, _, _, _, _, _, _, _, _, _, _, _, _, _, rfl, hI.s10⟩
            · have hx10 := hI.p10 (hd 10 (by decide))
              subst hx10
              rw [if_pos (by rfl)]
              go_simp
              exact hK.out _ _ ⟨_, _, _, _, _, _, _, _, _, _, _, _, _, _, _, _, _, _, _, _, _, _, _, _, rfl, hI.s11⟩
            · have hx11 := hI.p11 (hd 11 (by decide))
              subst hx11
              rw [if_pos (by rfl)]
              go_simp
              exact hK.out _ _ ⟨_, _, _, _, _, _, _, _, _, _, _, _, _, _, _, _, _, _, _, _, _, _, _, _, rfl, hI.s12⟩
            · have hx11 := hI.p11 (hd 11 (by decide))
              subst hx11
              rw [if_pos (by rfl)]
              go_simp
              exact hK.out _ _ ⟨_, _, _, _, _, _, _, _, _, _, _, _, _, _, _, _, _, _, _, _, _, _, _, _, rfl, hI.s13⟩
            · have hx12 := hI.p12 (hd 12 (by decide))
              subst hx12
              have hx13 := hI.p13 (hd 13 (by decide))
              subst hx13
              have hx11 := hI.p11 (hd 11 (by decide))
              subst hx11
              rw [if_pos (by rfl)]
              go_simp
              exact hK.out _ _ ⟨_, _, _, _, _, _, _, _, _, _, _, _, _, _, _, _, _, _, _, _, _, _, _, _, rfl, hI.s14⟩
            · have hx14 := hI.p14 (hd 14 (by decide))
              subst hx14
              have hx11 := hI.p11 (hd 11 (by decide))
              subst hx11
              rw [if_pos (by rfl)]
              go_simp
              exact hK.out _ _ ⟨_, _, _, _, _, _, _, _, _, _, _, _, _, _, _, _, _, _, _, _, _, _, _, _, rfl, hI.s15⟩
            · have hx15 := hI.p15 (hd 15 (by decide))
              subst hx15
              have hx11 := hI.p11 (hd 11 (by decide))
              subst hx11
              rw [if_pos (by rfl)]
              have hc := HX2.out _ hI.x
              go_simp
              exact hK.out _ _ ⟨_, _, _, _, _, _, _, _, _, _, _, _, _, _, _, _, _, _, _, _, _, _, _, _, rfl, hI.s16⟩
            · have hx11 := hI.p11 (hd 11 (by decide))
              subst hx11
              rw [if_pos (by rfl)]
              go_simp
              exact hK.out _ _ ⟨_, _, _, _, _, _, _, _, _, _, _, _, _, _, _, _, _, _, _, _, _, _, _, _, rfl, hI.s17⟩
            · have hx11 := hI.p11 (hd 11 (by decide))
              subst hx11
              rw [if_pos (by rfl)]
              go_simp
              exact hK.out _ _ ⟨_, _, _, _, _, _, _, _, _, _, _, _, _, _, _, _, _, _, _, _, _, _, _, _, rfl, hI.s18⟩
            · have hx17 := hI.p17 (hd 17 (by decide))
              subst hx17
              have hx18 := hI.p18 (hd 18 (by decide))
              subst hx18
              have hx11 := hI.p11 (hd 11 (by decide))
              subst hx11
              rw [if_pos (by rfl)]
              go_simp
              exact hK.out _ _ ⟨_, _, _, _, _, _, _, _, _, _, _, _, _, _, _, _, _, _, _, _, _, _, _, _, rfl, hI.s19⟩
            · have hx19 := hI.p19 (hd 19 (by decide))
              subst hx19
              have hx11 := hI.p11 (hd 11 (by decide))
              subst hx11
              rw [if_pos (by rfl)]
              go_simp
              exact hK.out _ _ ⟨_, _, _, _, _, _, _, _, _, _, _, _, _, _, _, _, _, _, _, _, _, _, _, _, rfl, hI.s20⟩
            · have hx20 := hI.p20 (hd 20 (by decide))
              subst hx20
              have hx11 := hI.p11 (hd 11 (by decide))
              subst hx11
              rw [if_pos (by rfl)]
              have hc := HY2.out _ hI.x
              go_simp
              exact hK.out _ _ ⟨_, _, _, _, _, _, _, _, _, _, _, _, _, _, _, _, _, _, _, _, _, _, _, _, rfl, hI.s21⟩
            · have hx16 := hI.p16 (hd 16 (by decide))
              subst hx16
              have hx21 := hI.p21 (hd 21 (by decide))
              subst hx21
              have hx11 := hI.p11 (hd 11 (by decide))
              subst hx11
              rw [if_pos (by rfl)]
              go_simp
              exact hK.out _ _ ⟨_, _, _, _, _, _, _, _, _, _, _, _, _, _, _, _, _, _, _, _, _, _, _, _, rfl, hI.s22⟩
            · have hx11 := hI.p11 (hd 11 (by decide))
              subst hx11
              have hx22 := hI.p22 (hd 22 (by decide))
              subst hx22
              rw [if_pos (by rfl)]
              go_simp
              exact hK.out _ _ ⟨_, _, _, _, _, _, _, _, _, _, _, _, _, _, _, _, _, _, _, _, _, _, _, _, rfl, hI.s23⟩
          · refine SD.ends ?_; intro x17 x18 x19 x20 x21 x22 x23 x24 x25 x26 x27 x28 x29 x30 x31 x32 x33 x34 x35 x36 x37 x38 x39 x40 L W hall hI
            have hx0 := hI.p0 (hall 0 (by decide))
            subst hx0
            have hx1 := hI.p1 (hall 1 (by decide))
            subst hx1
            have hx2 := hI.p2 (hall 2 (by decide))
            subst hx2
            have hx3 := hI.p3 (hall 3 (by decide))
            subst hx3
            have hx4 := hI.p4 (hall 4 (by decide))
            subst hx4
            have hx5 := hI.p5 (hall 5 (by decide))
            subst hx5
            have hx6 := hI.p6 (hall 6 (by decide))
            subst hx6
            have hx7 := hI.p7 (hall 7 (by decide))
            subst hx7
            have hx8 := hI.p8 (hall 8 (by decide))
            subst hx8
            have hx9 := hI.p9 (hall 9 (by decide))
            subst hx9
            have hx10 := hI.p10 (hall 10 (by decide))
            subst hx10
            have hx11 := hI.p11 (hall 11 (by decide))
            subst hx11
            have hx12 := hI.p12 (hall 12 (by decide))
            subst hx12
            have hx13 := hI.p13 (hall 13 (by decide))
            subst hx13
            have hx14 := hI.p14 (hall 14 (by decide))
            subst hx14
            have hx15 := hI.p15 (hall 15 (by decide))
            subst hx15
            have hx16 := hI.p16 (hall 16 (by decide))
            subst hx16
            have hx17 := hI.p17 (hall 17 (by decide))
            subst hx17
            have hx18 := hI.p18 (hall 18 (by decide))
            subst hx18
            have hx19 := hI.p19 (hall 19 (by decide))
            subst hx19
            have hx20 := hI.p20 (hall 20 (by decide))
            subst hx20
            have hx21 := hI.p21 (hall 21 (by decide))
            subst hx21
            have hx22 := hI.p22 (hall 22 (by decide))
            subst hx22
            have hx23 := hI.p23 (hall 23 (by decide))
            subst hx23
            have hXe := hI.x
            clear hI hall
            try dsimp only
            subst hXe
            go_wp2
            go_ret
            exact ⟨by rw [HF.out]; rfl, HDW.out⟩
      · have qe := eq_any x.d y.d okx1 oky1 false (by rw [decide_eq_false hd])
        have HF : Hid (r = false) := HNE.out fun h => hd h.1
        clear hd hx hy HXY HNE
        generalize x.d.map B8 = XC at *
        generalize y.d.map B8 = YC at *
        go_wp2_with fail
        refine wp_region_inv (ISE wo B off D dff n cap bc k XC YC _ _ _ _ _ _ _ _ _ _ _ _ _ _ _ _ _) (by kernel_rfl) (by kernel_rfl) ⟨_, _, _, _, _, _, _, _, _, _, _, _, _, _, _, _, _, _, _, _, _, _, _, _, rfl, ⟨rfl, fun k => (by cases k), fun k => (by cases k), fun k => (by cases k), fun k => (by cases k), fun k => (by cases k), fun k => (by cases k), fun k => (by cases k), fun k => (by cases k), fun k => (by cases k), fun k => (by cases k), fun k => (by cases k), fun k => (by cases k), fun k => (by cases k)⟩⟩ ?_ ?_
        · refine .cons ?_ (.cons ?_ (.cons ?_ (.cons ?_ (.cons ?_ (.cons ?_ (.cons ?_ (.cons ?_ (.cons ?_ (.cons ?_ (.cons ?_ (.cons ?_ (.cons ?_ (.cons ?_ (.cons ?_ (.cons ?_ (.cons ?_ (.cons ?_ (.cons ?_ (.cons ?_ (.cons ?_ (.cons ?_ (.cons ?_ (.cons ?_ .nil)))))))))))))))))))))))
          all_goals (refine SE.step ?_; intro x17 x18 x19 x20 x21 x22 x23 x24 x25 x26 x27 x28 x29 x30 x31 x32 x33 x34 x35 x36 x37 x38 x39 x40 L W hI hL hd K hK)
          · rw [if_pos (by rfl)]
            go_simp
            exact hK.out _ _ ⟨_, _, _, _, _, _, _, _, _, _, _, _, _, _, _, _, _, _, _, _, _, _, _, _, rfl, hI.s0⟩
          · rw [if_pos (by rfl)]
            go_simp
            exact hK.out _ _ ⟨_, _, _, _, _, _, _, _, _, _, _, _, _, _, _, _, _, _, _, _, _, _, _, _, rfl, hI.s1⟩
          · have hx0 := hI.p0 (hd 0 (by decide))
            subst hx0
            have hx1 := hI.p1 (hd 1 (by decide))
            subst hx1
            rw [if_pos (by rfl)]
            go_simp
            exact hK.out _ _ ⟨_, _, _, _, _, _, _, _, _, _, _, _, _, _, _, _, _, _, _, _, _, _, _, _, rfl, hI.s2⟩
          · have hx2 := hI.p2 (hd 2 (by decide))
            subst hx2
            rw [if_pos (by rfl)]
            go_simp
            exact hK.out _ _ ⟨_, _, _, _, _, _, _, _, _, _, _, _, _, _, _, _, _, _, _, _, _, _, _, _, rfl, hI.s3⟩
          · have hx3 := hI.p3 (hd 3 (by decide))
            subst hx3
            refine step_load_rng rfl 32 _ rfl B (off + k * 33) XC (HX1.out _ hI.x) rfl _ Try.underlying32 rfl (by rw [lx]; kernel_rfl) ?_
            exact hK.out _ _ ⟨_, _, _, _, _, _, _, _, _, _, _, _, _, _, _, _, _, _, _, _, _, _, _, _, rfl, hI.s4⟩
          · rw [if_pos (by rfl)]
            go_simp
            exact hK.out _ _ ⟨_, _, _, _, _, _, _, _, _, _, _, _, _, _, _, _, _, _, _, _, _, _, _, _, rfl, hI.s5⟩
          · rw [if_pos (by rfl)]
            go_simp
            exact hK.out _ _ ⟨_, _, _, _, _, _, _, _, _, _, _, _, _, _, _, _, _, _, _, _, _, _, _, _, rfl, hI.s6⟩
          · have hx5 := hI.p5 (hd 5 (by decide))
            subst hx5
            have hx6 := hI.p6 (hd 6 (by decide))
            subst hx6
            rw [if_pos (by rfl)]
            go_simp
            exact hK.out _ _ ⟨_, _, _, _, _, _, _, _, _, _, _, _, _, _, _, _, _, _, _, _, _, _, _, _, rfl, hI.s7⟩
          · have hx7 := hI.p7 (hd 7 (by decide))
            subst hx7
            rw [if_pos (by rfl)]
            go_simp
            exact hK.out _ _ ⟨_, _, _, _, _, _, _, _, _, _, _, _, _, _, _, _, _, _, _, _, _, _, _, _, rfl, hI.s8⟩
          · have hx8 := hI.p8 (hd 8 (by decide))
            subst hx8
            refine step_load_rng rfl 32 _ rfl D (dff + k * 33) YC (HY1.out _ hI.x) rfl _ Try.underlying32 rfl (by rw [ly]; kernel_rfl) ?_
            exact hK.out _ _ ⟨_, _, _, _, _, _, _, _, _, _, _, _, _, _, _, _, _, _, _, _, _, _, _, _, rfl, hI.s9⟩
          · have hx4 := hI.p4 (hd 4 (by decide))
            subst hx4
            have hx9 := hI.p9 (hd 9 (by decide))
            subst hx9
            rw [if_pos (by rfl)]
            go_simp
            exact hK.out _ _ ⟨_, _, _, _, _, _, _, _, _, _, _, _, _, _, _, _, _, _, _, _, _, _, _, _, rfl, hI.s10⟩
          · have hx10 := hI.p10 (hd 10 (by decide))
            subst hx10
            rw [if_pos (by rfl)]
            go_simp
            exact hK.out _ _ ⟨_, _, _, _, _, _, _, _, _, _, _, _, _, _, _, _, _, _, _, _, _, _, _, _, rfl, hI.s11⟩
          · have hx11 := hI.p11 (hd 11 (by decide))
            subst hx11
            rw [if_neg (by first | decide | exact Bool.false_ne_true)]
            exact hK.out _ _ ⟨_, _, _, _, _, _, _, _, _, _, _, _, _, _, _, _, _, _, _, _, _, _, _, _, rfl, hI.s12⟩
          · have hx11 := hI.p11 (hd 11 (by decide))
            subst hx11
            rw [if_neg (by first | decide | exact Bool.false_ne_true)]
            exact hK.out _ _ ⟨_, _, _, _, _, _, _, _, _, _, _, _, _, _, _, _, _, _, _, _, _, _, _, _, rfl, hI.s13⟩
          · have hx11 := hI.p11 (hd 11 (by decide))
            subst hx11
            rw [if_neg (by first | decide | exact Bool.false_ne_true)]
            exact hK.out _ _ ⟨_, _, _, _, _, _, _, _, _, _, _, _, _, _, _, _, _, _, _, _, _, _, _, _, rfl, hI.s14⟩
          · have hx11 := hI.p11 (hd 11 (by decide))
            subst hx11
            rw [if_neg (by first | decide | exact Bool.false_ne_true)]
            exact hK.out _ _ ⟨_, _, _, _, _, _, _, _, _, _, _, _, _, _, _, _, _, _, _, _, _, _, _, _, rfl, hI.s15⟩
          · have hx11 := hI.p11 (hd 11 (by decide))
            subst hx11
            rw [if_neg (by first | decide | exact Bool.false_ne_true)]
            exact hK.out _ _ ⟨_, _, _, _, _, _, _, _, _, _, _, _, _, _, _, _, _, _, _, _, _, _, _, _, rfl, hI.s16⟩
          · have hx11 := hI.p11 (hd 11 (by decide))
            subst hx11
            rw [if_neg (by first | decide | exact Bool.false_ne_true)]
            exact hK.out _ _ ⟨_, _, _, _, _, _, _, _, _, _, _, _, _, _, _, _, _, _, _, _, _, _, _, _, rfl, hI.s17⟩
          · have hx11 := hI.p11 (hd 11 (by decide))
            subst hx11
            rw [if_neg (by first | decide | exact Bool.false_ne_true)]
            exact hK.out _ _ ⟨_, _, _, _, _, _, _, _, _, _, _, _, _, _, _, _, _, _, _, _, _, _, _, _, rfl, hI.s18⟩
          · have hx11 := hI.p11 (hd 11 (by decide))
            subst hx11
            rw [if_neg (by first | decide | exact Bool.false_ne_true)]
            exact hK.out _ _ ⟨_, _, _, _, _, _, _, _, _, _, _, _, _, _, _, _, _, _, _, _, _, _, _, _, rfl, hI.s19⟩
          · have hx11 := hI.p11 (hd 11 (by decide))
            subst hx11
            rw [if_neg (by first | decide | exact Bool.false_ne_true)]
            exact hK.out _ _ ⟨_, _, _, _, _, _, _, _, _, _, _, _, _, _, _, _, _, _, _, _, _, _, _, _, rfl, hI.s20⟩
          · have hx11 := hI.p11 (hd 11 (by decide))
            subst hx11
            rw [if_neg (by first | decide | exact Bool.false_ne_true)]
            exact hK.out _ _ ⟨_, _, _, _, _, _, _, _, _, _, _, _, _, _, _, _, _, _, _, _, _, _, _, _, rfl, hI.s21⟩
          · have hx11 := hI.p11 (hd 11 (by decide))
            subst hx11
            rw [if_neg (by first | decide | exact Bool.false_ne_true)]
            exact hK.out _ _ ⟨_, _, _, _, _, _, _, _, _, _, _, _, _, _, _, _, _, _, _, _, _, _, _, _, rfl, hI.s22⟩
          · have hx11 := hI.p11 (hd 11 (by decide))
            subst hx11
            rw [if_pos (by rfl)]
            go_simp
            exact hK.out _ _ ⟨_, _, _, _, _, _, _, _, _, _, _, _, _, _, _, _, _, _, _, _, _, _, _, _, rfl, hI.s23⟩
        · refine SE.ends ?_; intro x17 x18 x19 x20 x21 x22 x23 x24 x25 x26 x27 x28 x29 x30 x31 x32 x33 x34 x35 x36 x37 x38 x39 x40 L W hall hI
          have hx0 := hI.p0 (hall 0 (by decide))
          subst hx0
          have hx1 := hI.p1 (hall 1 (by decide))
          subst hx1
          have hx2 := hI.p2 (hall 2 (by decide))
          subst hx2
          have hx3 := hI.p3 (hall 3 (by decide))
          subst hx3
          have hx4 := hI.p4 (hall 4 (by decide))
          subst hx4
          have hx5 := hI.p5 (hall 5 (by decide))
          subst hx5
          have hx6 := hI.p6 (hall 6 (by decide))
          subst hx6
          have hx7 := hI.p7 (hall 7 (by decide))
          subst hx7
          have hx8 := hI.p8 (hall 8 (by decide))
          subst hx8
          have hx9 := hI.p9 (hall 9 (by decide))
          subst hx9
          have hx10 := hI.p10 (hall 10 (by decide))
          subst hx10
          have hx11 := hI.p11 (hall 11 (by decide))
          subst hx11
          have hx23 := hI.p23 (hall 23 (by decide))
          subst hx23
          have hXe := hI.x
          clear hI hall
          try dsimp only
          subst hXe
          go_wp2
          go_ret
          exact ⟨by rw [HF.out]; rfl, HDW.out⟩
    · obtain rfl : k = n := by omega
      have y1 : ¬ ((k : Nat) : Int) < (k : Int) := by omega
      have HT : Hid (r = true) := by
        show _ = _
        rw [HR.out]
        refine decide_eq_true (List.ext_getElem? fun j => ?_)
        rcases Nat.lt_or_ge j k with h | h
        · exact HJ.out j h
        · rw [List.getElem?_eq_none (by rw [HXL.out]; exact h), List.getElem?_eq_none (by rw [HYL.out]; exact h)]
      go_wp2
      go_ret
      exact ⟨by rw [HT.out]; rfl, HD.out⟩
end Go.Proofs.Ythegfkcegmeklaa
