
import Derived.Test.YtnpbgfnahkmhoaaDoorI11Rows
/-! The law's own walk: ImageParses. (Printed by tools/genprs11.py.) -/
namespace Go.Proofs.YtnpbgfnahkmhoaaDoor
open Go.RowKit

structure E11 (W1 : World) (ao : Option Addr) (n cap : Nat) (E At : Int) (IX IY : List Value) (BD : List By) (L : Nat → Bool) (x36 x37 x38 x39 x40 x41 x42 x43 x44 x45 x46 x47 x48 x49 x50 x51 x52 x53 x54 x55 x56 x57 : Value) (W : World) : Prop where
  x : Below W1.heap.size W1 W
  p0 : L 0 = true → x36 = .bool true
  p1 : L 1 = true → x37 = .bool false
  p2 : L 2 = true → x38 = .bool false
  p3 : L 3 = true → x39 = .agg #[.int .i64 E, .int .i64 At]
  p4 : L 4 = true → x40 = .agg #[.int .i64 E, .int .i64 At]
  p5 : L 5 = true → x41 = .bool false
  p6 : L 6 = true → x42 = .bool false
  p7 : L 7 = true → x43 = .bool false
  p8 : L 8 = true → x44 = .agg IX.toArray
  p9 : L 9 = true → x45 = .agg IY.toArray
  p10 : L 10 = true → x46 = .bool true
  p11 : L 11 = true → x47 = .bool false
  p12 : L 12 = true → x48 = .bool false
  p13 : L 13 = true → x49 = .bool false
  p14 : L 14 = true → x50 = .slice ao n cap
  p15 : L 15 = true → ∃ ao c, x51 = .slice ao (n - 32) c ∧ Own (W1.heap.size) W (.slice ao (n - 32) c) (BD)
  p16 : L 16 = true → x52 = .string (strOf BD)
  p17 : L 17 = true → x53 = .slice ao n cap
  p18 : L 18 = true → ∃ ao c, x54 = .slice ao (n - 32) c ∧ Own (W1.heap.size) W (.slice ao (n - 32) c) (BD)
  p19 : L 19 = true → x55 = .string (strOf BD)
  p20 : L 20 = true → x56 = .bool false
  p21 : L 21 = true → x57 = .bool false
section
variable {W1 : World} {ao : Option Addr} {n cap : Nat} {E At : Int} {IX IY : List Value} {BD : List By} {L : Nat → Bool} {x36 x37 x38 x39 x40 x41 x42 x43 x44 x45 x46 x47 x48 x49 x50 x51 x52 x53 x54 x55 x56 x57 : Value} {W W2 : World}
theorem E11.s0 (h : E11 W1 ao n cap E At IX IY BD L x36 x37 x38 x39 x40 x41 x42 x43 x44 x45 x46 x47 x48 x49 x50 x51 x52 x53 x54 x55 x56 x57 W) : E11 W1 ao n cap E At IX IY BD (upd L 0) (.bool true) x37 x38 x39 x40 x41 x42 x43 x44 x45 x46 x47 x48 x49 x50 x51 x52 x53 x54 x55 x56 x57 W :=
  ⟨h.x, fun _ => rfl, h.p1, h.p2, h.p3, h.p4, h.p5, h.p6, h.p7, h.p8, h.p9, h.p10, h.p11, h.p12, h.p13, h.p14, h.p15, h.p16, h.p17, h.p18, h.p19, h.p20, h.p21⟩
theorem E11.s1 (h : E11 W1 ao n cap E At IX IY BD L x36 x37 x38 x39 x40 x41 x42 x43 x44 x45 x46 x47 x48 x49 x50 x51 x52 x53 x54 x55 x56 x57 W) : E11 W1 ao n cap E At IX IY BD (upd L 1) x36 (.bool false) x38 x39 x40 x41 x42 x43 x44 x45 x46 x47 x48 x49 x50 x51 x52 x53 x54 x55 x56 x57 W :=
  ⟨h.x, h.p0, fun _ => rfl, h.p2, h.p3, h.p4, h.p5, h.p6, h.p7, h.p8, h.p9, h.p10, h.p11, h.p12, h.p13, h.p14, h.p15, h.p16, h.p17, h.p18, h.p19, h.p20, h.p21⟩
theorem E11.s2 (h : E11 W1 ao n cap E At IX IY BD L x36 x37 x38 x39 x40 x41 x42 x43 x44 x45 x46 x47 x48 x49 x50 x51 x52 x53 x54 x55 x56 x57 W) : E11 W1 ao n cap E At IX IY BD (upd L 2) x36 x37 (.bool false) x39 x40 x41 x42 x43 x44 x45 x46 x47 x48 x49 x50 x51 x52 x53 x54 x55 x56 x57 W :=
  ⟨h.x, h.p0, h.p1, fun _ => rfl, h.p3, h.p4, h.p5, h.p6, h.p7, h.p8, h.p9, h.p10, h.p11, h.p12, h.p13, h.p14, h.p15, h.p16, h.p17, h.p18, h.p19, h.p20, h.p21⟩
theorem E11.s3 (h : E11 W1 ao n cap E At IX IY BD L x36 x37 x38 x39 x40 x41 x42 x43 x44 x45 x46 x47 x48 x49 x50 x51 x52 x53 x54 x55 x56 x57 W) : E11 W1 ao n cap E At IX IY BD (upd L 3) x36 x37 x38 (.agg #[.int .i64 E, .int .i64 At]) x40 x41 x42 x43 x44 x45 x46 x47 x48 x49 x50 x51 x52 x53 x54 x55 x56 x57 W :=
  ⟨h.x, h.p0, h.p1, h.p2, fun _ => rfl, h.p4, h.p5, h.p6, h.p7, h.p8, h.p9, h.p10, h.p11, h.p12, h.p13, h.p14, h.p15, h.p16, h.p17, h.p18, h.p19, h.p20, h.p21⟩
theorem E11.s4 (h : E11 W1 ao n cap E At IX IY BD L x36 x37 x38 x39 x40 x41 x42 x43 x44 x45 x46 x47 x48 x49 x50 x51 x52 x53 x54 x55 x56 x57 W) : E11 W1 ao n cap E At IX IY BD (upd L 4) x36 x37 x38 x39 (.agg #[.int .i64 E, .int .i64 At]) x41 x42 x43 x44 x45 x46 x47 x48 x49 x50 x51 x52 x53 x54 x55 x56 x57 W :=
  ⟨h.x, h.p0, h.p1, h.p2, h.p3, fun _ => rfl, h.p5, h.p6, h.p7, h.p8, h.p9, h.p10, h.p11, h.p12, h.p13, h.p14, h.p15, h.p16, h.p17, h.p18, h.p19, h.p20, h.p21⟩
theorem E11.s5 (h : E11 W1 ao n cap E At IX IY BD L x36 x37 x38 x39 x40 x41 x42 x43 x44 x45 x46 x47 x48 x49 x50 x51 x52 x53 x54 x55 x56 x57 W) : E11 W1 ao n cap E At IX IY BD (upd L 5) x36 x37 x38 x39 x40 (.bool false) x42 x43 x44 x45 x46 x47 x48 x49 x50 x51 x52 x53 x54 x55 x56 x57 W :=
  ⟨h.x, h.p0, h.p1, h.p2, h.p3, h.p4, fun _ => rfl, h.p6, h.p7, h.p8, h.p9, h.p10, h.p11, h.p12, h.p13, h.p14, h.p15, h.p16, h.p17, h.p18, h.p19, h.p20, h.p21⟩
theorem E11.s6 (h : E11 W1 ao n cap E At IX IY BD L x36 x37 x38 x39 x40 x41 x42 x43 x44 x45 x46 x47 x48 x49 x50 x51 x52 x53 x54 x55 x56 x57 W) : E11 W1 ao n cap E At IX IY BD (upd L 6) x36 x37 x38 x39 x40 x41 (.bool false) x43 x44 x45 x46 x47 x48 x49 x50 x51 x52 x53 x54 x55 x56 x57 W :=
  ⟨h.x, h.p0, h.p1, h.p2, h.p3, h.p4, h.p5, fun _ => rfl, h.p7, h.p8, h.p9, h.p10, h.p11, h.p12, h.p13, h.p14, h.p15, h.p16, h.p17, h.p18, h.p19, h.p20, h.p21⟩
theorem E11.s7 (h : E11 W1 ao n cap E At IX IY BD L x36 x37 x38 x39 x40 x41 x42 x43 x44 x45 x46 x47 x48 x49 x50 x51 x52 x53 x54 x55 x56 x57 W) : E11 W1 ao n cap E At IX IY BD (upd L 7) x36 x37 x38 x39 x40 x41 x42 (.bool false) x44 x45 x46 x47 x48 x49 x50 x51 x52 x53 x54 x55 x56 x57 W :=
  ⟨h.x, h.p0, h.p1, h.p2, h.p3, h.p4, h.p5, h.p6, fun _ => rfl, h.p8, h.p9, h.p10, h.p11, h.p12, h.p13, h.p14, h.p15, h.p16, h.p17, h.p18, h.p19, h.p20, h.p21⟩
theorem E11.s8 (h : E11 W1 ao n cap E At IX IY BD L x36 x37 x38 x39 x40 x41 x42 x43 x44 x45 x46 x47 x48 x49 x50 x51 x52 x53 x54 x55 x56 x57 W) : E11 W1 ao n cap E At IX IY BD (upd L 8) x36 x37 x38 x39 x40 x41 x42 x43 (.agg IX.toArray) x45 x46 x47 x48 x49 x50 x51 x52 x53 x54 x55 x56 x57 W :=
  ⟨h.x, h.p0, h.p1, h.p2, h.p3, h.p4, h.p5, h.p6, h.p7, fun _ => rfl, h.p9, h.p10, h.p11, h.p12, h.p13, h.p14, h.p15, h.p16, h.p17, h.p18, h.p19, h.p20, h.p21⟩
theorem E11.s9 (h : E11 W1 ao n cap E At IX IY BD L x36 x37 x38 x39 x40 x41 x42 x43 x44 x45 x46 x47 x48 x49 x50 x51 x52 x53 x54 x55 x56 x57 W) : E11 W1 ao n cap E At IX IY BD (upd L 9) x36 x37 x38 x39 x40 x41 x42 x43 x44 (.agg IY.toArray) x46 x47 x48 x49 x50 x51 x52 x53 x54 x55 x56 x57 W :=
  ⟨h.x, h.p0, h.p1, h.p2, h.p3, h.p4, h.p5, h.p6, h.p7, h.p8, fun _ => rfl, h.p10, h.p11, h.p12, h.p13, h.p14, h.p15, h.p16, h.p17, h.p18, h.p19, h.p20, h.p21⟩
theorem E11.s10 (h : E11 W1 ao n cap E At IX IY BD L x36 x37 x38 x39 x40 x41 x42 x43 x44 x45 x46 x47 x48 x49 x50 x51 x52 x53 x54 x55 x56 x57 W) (hX : Below W1.heap.size W1 W2) (hb3 : Below W.heap.size W W2) : E11 W1 ao n cap E At IX IY BD (upd L 10) x36 x37 x38 x39 x40 x41 x42 x43 x44 x45 (.bool true) x47 x48 x49 x50 x51 x52 x53 x54 x55 x56 x57 W2 :=
  ⟨hX, h.p0, h.p1, h.p2, h.p3, h.p4, h.p5, h.p6, h.p7, h.p8, h.p9, fun _ => rfl, h.p11, h.p12, h.p13, h.p14, fun k => let ⟨ao, c, h1, h2⟩ := h.p15 k; ⟨ao, c, h1, h2.keep hb3⟩, h.p16, h.p17, fun k => let ⟨ao, c, h1, h2⟩ := h.p18 k; ⟨ao, c, h1, h2.keep hb3⟩, h.p19, h.p20, h.p21⟩
theorem E11.s11 (h : E11 W1 ao n cap E At IX IY BD L x36 x37 x38 x39 x40 x41 x42 x43 x44 x45 x46 x47 x48 x49 x50 x51 x52 x53 x54 x55 x56 x57 W) : E11 W1 ao n cap E At IX IY BD (upd L 11) x36 x37 x38 x39 x40 x41 x42 x43 x44 x45 x46 (.bool false) x48 x49 x50 x51 x52 x53 x54 x55 x56 x57 W :=
  ⟨h.x, h.p0, h.p1, h.p2, h.p3, h.p4, h.p5, h.p6, h.p7, h.p8, h.p9, h.p10, fun _ => rfl, h.p12, h.p13, h.p14, h.p15, h.p16, h.p17, h.p18, h.p19, h.p20, h.p21⟩
theorem E11.s12 (h : E11 W1 ao n cap E At IX IY BD L x36 x37 x38 x39 x40 x41 x42 x43 x44 x45 x46 x47 x48 x49 x50 x51 x52 x53 x54 x55 x56 x57 W) : E11 W1 ao n cap E At IX IY BD (upd L 12) x36 x37 x38 x39 x40 x41 x42 x43 x44 x45 x46 x47 (.bool false) x49 x50 x51 x52 x53 x54 x55 x56 x57 W :=
  ⟨h.x, h.p0, h.p1, h.p2, h.p3, h.p4, h.p5, h.p6, h.p7, h.p8, h.p9, h.p10, h.p11, fun _ => rfl, h.p13, h.p14, h.p15, h.p16, h.p17, h.p18, h.p19, h.p20, h.p21⟩
theorem E11.s13 (h : E11 W1 ao n cap E At IX IY BD L x36 x37 x38 x39 x40 x41 x42 x43 x44 x45 x46 x47 x48 x49 x50 x51 x52 x53 x54 x55 x56 x57 W) : E11 W1 ao n cap E At IX IY BD (upd L 13) x36 x37 x38 x39 x40 x41 x42 x43 x44 x45 x46 x47 x48 (.bool false) x50 x51 x52 x53 x54 x55 x56 x57 W :=
  ⟨h.x, h.p0, h.p1, h.p2, h.p3, h.p4, h.p5, h.p6, h.p7, h.p8, h.p9, h.p10, h.p11, h.p12, fun _ => rfl, h.p14, h.p15, h.p16, h.p17, h.p18, h.p19, h.p20, h.p21⟩
theorem E11.s14 (h : E11 W1 ao n cap E At IX IY BD L x36 x37 x38 x39 x40 x41 x42 x43 x44 x45 x46 x47 x48 x49 x50 x51 x52 x53 x54 x55 x56 x57 W) : E11 W1 ao n cap E At IX IY BD (upd L 14) x36 x37 x38 x39 x40 x41 x42 x43 x44 x45 x46 x47 x48 x49 (.slice ao n cap) x51 x52 x53 x54 x55 x56 x57 W :=
  ⟨h.x, h.p0, h.p1, h.p2, h.p3, h.p4, h.p5, h.p6, h.p7, h.p8, h.p9, h.p10, h.p11, h.p12, h.p13, fun _ => rfl, h.p15, h.p16, h.p17, h.p18, h.p19, h.p20, h.p21⟩
theorem E11.s15 (h : E11 W1 ao n cap E At IX IY BD L x36 x37 x38 x39 x40 x41 x42 x43 x44 x45 x46 x47 x48 x49 x50 x51 x52 x53 x54 x55 x56 x57 W) {v : Value} (hX : Below W1.heap.size W1 W2) (hb3 : Below W.heap.size W W2) (ho : ∃ ao c, v = .slice ao (n - 32) c ∧ Own (W1.heap.size) W2 (.slice ao (n - 32) c) (BD)) : E11 W1 ao n cap E At IX IY BD (upd L 15) x36 x37 x38 x39 x40 x41 x42 x43 x44 x45 x46 x47 x48 x49 x50 v x52 x53 x54 x55 x56 x57 W2 :=
  ⟨hX, h.p0, h.p1, h.p2, h.p3, h.p4, h.p5, h.p6, h.p7, h.p8, h.p9, h.p10, h.p11, h.p12, h.p13, h.p14, fun _ => ho, h.p16, h.p17, fun k => let ⟨ao, c, h1, h2⟩ := h.p18 k; ⟨ao, c, h1, h2.keep hb3⟩, h.p19, h.p20, h.p21⟩
theorem E11.s16 (h : E11 W1 ao n cap E At IX IY BD L x36 x37 x38 x39 x40 x41 x42 x43 x44 x45 x46 x47 x48 x49 x50 x51 x52 x53 x54 x55 x56 x57 W) : E11 W1 ao n cap E At IX IY BD (upd L 16) x36 x37 x38 x39 x40 x41 x42 x43 x44 x45 x46 x47 x48 x49 x50 x51 (.string (strOf BD)) x53 x54 x55 x56 x57 W :=
  ⟨h.x, h.p0, h.p1, h.p2, h.p3, h.p4, h.p5, h.p6, h.p7, h.p8, h.p9, h.p10, h.p11, h.p12, h.p13, h.p14, h.p15, fun _ => rfl, h.p17, h.p18, h.p19, h.p20, h.p21⟩
theorem E11.s17 (h : E11 W1 ao n cap E At IX IY BD L x36 x37 x38 x39 x40 x41 x42 x43 x44 x45 x46 x47 x48 x49 x50 x51 x52 x53 x54 x55 x56 x57 W) : E11 W1 ao n cap E At IX IY BD (upd L 17) x36 x37 x38 x39 x40 x41 x42 x43 x44 x45 x46 x47 x48 x49 x50 x51 x52 (.slice ao n cap) x54 x55 x56 x57 W :=
  ⟨h.x, h.p0, h.p1, h.p2, h.p3, h.p4, h.p5, h.p6, h.p7, h.p8, h.p9, h.p10, h.p11, h.p12, h.p13, h.p14, h.p15, h.p16, fun _ => rfl, h.p18, h.p19, h.p20, h.p21⟩
theorem E11.s18 (h : E11 W1 ao n cap E At IX IY BD L x36 x37 x38 x39 x40 x41 x42 x43 x44 x45 x46 x47 x48 x49 x50 x51 x52 x53 x54 x55 x56 x57 W) {v : Value} (hX : Below W1.heap.size W1 W2) (hb3 : Below W.heap.size W W2) (ho : ∃ ao c, v = .slice ao (n - 32) c ∧ Own (W1.heap.size) W2 (.slice ao (n - 32) c) (BD)) : E11 W1 ao n cap E At IX IY BD (upd L 18) x36 x37 x38 x39 x40 x41 x42 x43 x44 x45 x46 x47 x48 x49 x50 x51 x52 x53 v x55 x56 x57 W2 :=
  ⟨hX, h.p0, h.p1, h.p2, h.p3, h.p4, h.p5, h.p6, h.p7, h.p8, h.p9, h.p10, h.p11, h.p12, h.p13, h.p14, fun k => let ⟨ao, c, h1, h2⟩ := h.p15 k; ⟨ao, c, h1, h2.keep hb3⟩, h.p16, h.p17, fun _ => ho, h.p19, h.p20, h.p21⟩
theorem E11.s19 (h : E11 W1 ao n cap E At IX IY BD L x36 x37 x38 x39 x40 x41 x42 x43 x44 x45 x46 x47 x48 x49 x50 x51 x52 x53 x54 x55 x56 x57 W) : E11 W1 ao n cap E At IX IY BD (upd L 19) x36 x37 x38 x39 x40 x41 x42 x43 x44 x45 x46 x47 x48 x49 x50 x51 x52 x53 x54 (.string (strOf BD)) x56 x57 W :=
  ⟨h.x, h.p0, h.p1, h.p2, h.p3, h.p4, h.p5, h.p6, h.p7, h.p8, h.p9, h.p10, h.p11, h.p12, h.p13, h.p14, h.p15, h.p16, h.p17, h.p18, fun _ => rfl, h.p20, h.p21⟩
theorem E11.s20 (h : E11 W1 ao n cap E At IX IY BD L x36 x37 x38 x39 x40 x41 x42 x43 x44 x45 x46 x47 x48 x49 x50 x51 x52 x53 x54 x55 x56 x57 W) : E11 W1 ao n cap E At IX IY BD (upd L 20) x36 x37 x38 x39 x40 x41 x42 x43 x44 x45 x46 x47 x48 x49 x50 x51 x52 x53 x54 x55 (.bool false) x57 W :=
  ⟨h.x, h.p0, h.p1, h.p2, h.p3, h.p4, h.p5, h.p6, h.p7, h.p8, h.p9, h.p10, h.p11, h.p12, h.p13, h.p14, h.p15, h.p16, h.p17, h.p18, h.p19, fun _ => rfl, h.p21⟩
theorem E11.s21 (h : E11 W1 ao n cap E At IX IY BD L x36 x37 x38 x39 x40 x41 x42 x43 x44 x45 x46 x47 x48 x49 x50 x51 x52 x53 x54 x55 x56 x57 W) : E11 W1 ao n cap E At IX IY BD (upd L 21) x36 x37 x38 x39 x40 x41 x42 x43 x44 x45 x46 x47 x48 x49 x50 x51 x52 x53 x54 x55 x56 (.bool false) W :=
  ⟨h.x, h.p0, h.p1, h.p2, h.p3, h.p4, h.p5, h.p6, h.p7, h.p8, h.p9, h.p10, h.p11, h.p12, h.p13, h.p14, h.p15, h.p16, h.p17, h.p18, h.p19, h.p20, fun _ => rfl⟩
end
@[reducible] def IE11 (W1 : World) (ao : Option Addr) (n cap : Nat) (E At : Int) (IX IY : List Value) (BD : List By) (y0 y1 y2 y3 y4 y5 y6 y7 y8 y9 y10 y11 y12 y13 y14 y15 y16 y17 y18 y19 y20 y21 y22 y23 y24 y25 y26 y27 y28 y29 y30 y31 y32 y33 y34 y35 y58 : Value) : (Nat → Bool) → Act → World → Prop := fun L a W => ∃ x36 x37 x38 x39 x40 x41 x42 x43 x44 x45 x46 x47 x48 x49 x50 x51 x52 x53 x54 x55 x56 x57, a = ⟨#[y0, y1, y2, y3, y4, y5, y6, y7, y8, y9, y10, y11, y12, y13, y14, y15, y16, y17, y18, y19, y20, y21, y22, y23, y24, y25, y26, y27, y28, y29, y30, y31, y32, y33, y34, y35, x36, x37, x38, x39, x40, x41, x42, x43, x44, x45, x46, x47, x48, x49, x50, x51, x52, x53, x54, x55, x56, x57, y58], []⟩ ∧ E11 W1 ao n cap E At IX IY BD L x36 x37 x38 x39 x40 x41 x42 x43 x44 x45 x46 x47 x48 x49 x50 x51 x52 x53 x54 x55 x56 x57 W
theorem E11.step {W1 : World} {ao : Option Addr} {n cap : Nat} {E At : Int} {IX IY : List Value} {BD : List By} {y0 y1 y2 y3 y4 y5 y6 y7 y8 y9 y10 y11 y12 y13 y14 y15 y16 y17 y18 y19 y20 y21 y22 y23 y24 y25 y26 y27 y28 y29 y30 y31 y32 y33 y34 y35 y58 : Value} {P : Program} {ops : Array Oper} {Q : Exit → Act → World → Prop} {i : Nat} {o : Oper} (hq : ∀ x36 x37 x38 x39 x40 x41 x42 x43 x44 x45 x46 x47 x48 x49 x50 x51 x52 x53 x54 x55 x56 x57 (L : Nat → Bool) (W : World), E11 W1 ao n cap E At IX IY BD L x36 x37 x38 x39 x40 x41 x42 x43 x44 x45 x46 x47 x48 x49 x50 x51 x52 x53 x54 x55 x56 x57 W → L i = false → (∀ j ∈ onesOf o, L j = true) → ∀ K : Act → World → Prop, Shut (∀ a' w', IE11 W1 ao n cap E At IX IY BD y0 y1 y2 y3 y4 y5 y6 y7 y8 y9 y10 y11 y12 y13 y14 y15 y16 y17 y18 y19 y20 y21 y22 y23 y24 y25 y26 y27 y28 y29 y30 y31 y32 y33 y34 y35 y58 (upd L i) a' w' → K a' w') → if Region.wanted o (yielded ops (⟨#[y0, y1, y2, y3, y4, y5, y6, y7, y8, y9, y10, y11, y12, y13, y14, y15, y16, y17, y18, y19, y20, y21, y22, y23, y24, y25, y26, y27, y28, y29, y30, y31, y32, y33, y34, y35, x36, x37, x38, x39, x40, x41, x42, x43, x44, x45, x46, x47, x48, x49, x50, x51, x52, x53, x54, x55, x56, x57, y58], []⟩ : Act).tmps) = true then Oper.wp P o ⟨#[y0, y1, y2, y3, y4, y5, y6, y7, y8, y9, y10, y11, y12, y13, y14, y15, y16, y17, y18, y19, y20, y21, y22, y23, y24, y25, y26, y27, y28, y29, y30, y31, y32, y33, y34, y35, x36, x37, x38, x39, x40, x41, x42, x43, x44, x45, x46, x47, x48, x49, x50, x51, x52, x53, x54, x55, x56, x57, y58], []⟩ W K Q else K ((⟨#[y0, y1, y2, y3, y4, y5, y6, y7, y8, y9, y10, y11, y12, y13, y14, y15, y16, y17, y18, y19, y20, y21, y22, y23, y24, y25, y26, y27, y28, y29, y30, y31, y32, y33, y34, y35, x36, x37, x38, x39, x40, x41, x42, x43, x44, x45, x46, x47, x48, x49, x50, x51, x52, x53, x54, x55, x56, x57, y58], []⟩ : Act).put o.dst undef) W) : StepI P ops (IE11 W1 ao n cap E At IX IY BD y0 y1 y2 y3 y4 y5 y6 y7 y8 y9 y10 y11 y12 y13 y14 y15 y16 y17 y18 y19 y20 y21 y22 y23 y24 y25 y26 y27 y28 y29 y30 y31 y32 y33 y34 y35 y58) Q i o := by
  rintro L a W ⟨x36, x37, x38, x39, x40, x41, x42, x43, x44, x45, x46, x47, x48, x49, x50, x51, x52, x53, x54, x55, x56, x57, rfl, h⟩
  exact hq _ _ _ _ _ _ _ _ _ _ _ _ _ _ _ _ _ _ _ _ _ _ _ _ h
theorem E11.ends {W1 : World} {ao : Option Addr} {n cap : Nat} {E At : Int} {IX IY : List Value} {BD : List By} {y0 y1 y2 y3 y4 y5 y6 y7 y8 y9 y10 y11 y12 y13 y14 y15 y16 y17 y18 y19 y20 y21 y22 y23 y24 y25 y26 y27 y28 y29 y30 y31 y32 y33 y34 y35 y58 : Value} {mm_ : Nat} {Q : Exit → Act → World → Prop} (hq : ∀ x36 x37 x38 x39 x40 x41 x42 x43 x44 x45 x46 x47 x48 x49 x50 x51 x52 x53 x54 x55 x56 x57 (L : Nat → Bool) (W : World), (∀ j, j < mm_ → L j = true) → E11 W1 ao n cap E At IX IY BD L x36 x37 x38 x39 x40 x41 x42 x43 x44 x45 x46 x47 x48 x49 x50 x51 x52 x53 x54 x55 x56 x57 W → Q .normal ⟨#[y0, y1, y2, y3, y4, y5, y6, y7, y8, y9, y10, y11, y12, y13, y14, y15, y16, y17, y18, y19, y20, y21, y22, y23, y24, y25, y26, y27, y28, y29, y30, y31, y32, y33, y34, y35, x36, x37, x38, x39, x40, x41, x42, x43, x44, x45, x46, x47, x48, x49, x50, x51, x52, x53, x54, x55, x56, x57, y58], []⟩ W) : ∀ L a' w', (∀ j, j < mm_ → L j = true) → IE11 W1 ao n cap E At IX IY BD y0 y1 y2 y3 y4 y5 y6 y7 y8 y9 y10 y11 y12 y13 y14 y15 y16 y17 y18 y19 y20 y21 y22 y23 y24 y25 y26 y27 y28 y29 y30 y31 y32 y33 y34 y35 y58 L a' w' → Q .normal a' w' := by
  rintro L a W hall ⟨x36, x37, x38, x39, x40, x41, x42, x43, x44, x45, x46, x47, x48, x49, x50, x51, x52, x53, x54, x55, x56, x57, rfl, h⟩
  exact hq _ _ _ _ _ _ _ _ _ _ _ _ _ _ _ _ _ _ _ _ _ _ _ _ hall h

theorem wrong_small {b : List By} {e a : Nat} (h : parse b = .wrong e a) : a < 4294967296 := by
  unfold parse at h
  split at h
  · injection h with h; injection h with h1 h2; omega
  · split at h
    · rename_i hs
      injection h with h; injection h with h1 h2
      subst h1; subst h2
      have := scan_some 16 0 (by omega) _ _ hs
      omega
    · rename_i hs
      simp only at h
      obtain ⟨X, hX⟩ : ∃ X, num4 (b.drop 12) = X := ⟨_, rfl⟩
      rw [hX] at h
      split at h
      · injection h with h; injection h with h1 h2; omega
      · split at h
        · injection h with h; injection h with h1 h2; omega
        · split at h
          · injection h with h; injection h with h1 h2; omega
          · cases h

set_option maxHeartbeats 4000000 in
set_option maxRecDepth 100000 in
theorem parses_any (a : Option Addr) (ln lc : Nat) (ll : List Rw) (hln : ll.length = ln) (w : World) (hg : HG w) (hr : RowsIn w a ll) (hll : ln ≤ 140737488355328) :
    Calls Tryd.prog 5 #[.slice a ln lc] w fun e w' => e = .returned (.bool true) ∧ Below w.heap.size w w' := by
  have AW := awake_any w hg
  have HGW : Hid (HG w) := hg
  have HR : Hid (RowsIn w a ll) := hr
  have HLN : Hid (ll.length = ln) := hln
  have BY : Hid (∀ W, Below w.heap.size w W → Calls Tryd.prog 12 #[.slice a ln lc] W fun e w' => e = .returned (.bool (bey 2147483647 ll)) ∧ w' = W) := fun W h => beyond_any a ln lc ll hln W ⟨by
      rcases hr.cells with h0 | ⟨B, off, h1, h2⟩
      · exact .inl h0
      · exact .inr ⟨B, off, h1, fun j r hj => (h.cell (p := ⟨B, off + j, none⟩) (block_lt_of_cell (h2 j r hj))).trans (h2 j r hj)⟩, fun r hrr => (hr.ok r hrr).below h (Nat.le_refl _)⟩ hll
  clear hr hln
  cases hbe : bey 2147483647 ll
  · rw [hbe] at BY
    clear hbe
    go_enter Tryd.func5, Tryd.ntmps5
    go_wp2_with fail
    refine AW.mono ?_
    rintro e w2 ⟨rfl, bb2⟩
    clear AW
    go_wp2_with fail
    refine (BY.out _ bb2).mono ?_
    rintro e w2' ⟨rfl, rfl⟩
    clear BY
    go_wp2_with fail
    go_loopw [17] (fun i wr => ∃ q : Nat, q ≤ ln ∧ i = .int .i64 q ∧ Below w.heap.size w wr) (fun i _ => ln - (intOf i).toNat)
    case atStart => exact ⟨0, by omega, rfl, bb2⟩
    case round =>
      clear bb2
      obtain ⟨q, hq, rfl, bbl⟩ := hrel
      by_cases hlt : q < ln
      · have i1 : (q : Int) < (ln : Int) := by omega
        have i0 : (0 : Int) ≤ (q : Int) := by omega
        obtain ⟨B, off, rfl, hc, rok⟩ := HR.out.at bbl q (by rw [HLN.out]; exact hlt)
        have HGR : Hid (HG wr) := HGW.out.below bbl HGW.out.lt
        obtain ⟨⟨rao, rcap, rbs⟩, hrq⟩ : ∃ r, ll[q]'(by rw [HLN.out]; exact hlt) = r := ⟨_, rfl⟩
        rw [hrq] at hc rok
        rw [Rw.val] at hc
        have rcp := rok.cap
        have rln := rok.len
        obtain ⟨n, hrl⟩ : ∃ n, rbs.length = n := ⟨_, rfl⟩
        simp only [hrl] at hc rcp rln
        clear hrq HGW
        cases hpr : parse rbs with
        | error ea =>
          obtain ⟨e0, a0⟩ := ea
          obtain ⟨he1, he2, ha⟩ := parse_wrong hpr
          have hl1 := rok.len
          have hE : ¬ (e0 : Int) = 0 := by omega
          have C1 := cparse_wrong rao n rcap rbs hrl wr rok.isb rok.nil rcp rln e0 a0 hpr
          have C2 : Hid (∀ W, Below wr.heap.size wr W → Calls Tryd.prog 14 #[.slice rao n rcap] W fun e w' => e = .returned (.tuple #[.agg zImg.toArray, .agg #[.int .i64 e0, .int .i64 a0]]) ∧ Below W.heap.size W w') := fun W h => rparse_wrong rao n rcap rbs hrl W (rok.isb.below h (Nat.le_refl _)) rcp e0 a0 hpr
          have HEW : Hid (∀ w : World, (Op.equalIn 10000 39 (.agg #[.int .i64 e0, .int .i64 a0]) (.agg #[.int .i64 e0, .int .i64 a0])).run Tryd.prog w = .ok true w) := eq_wrong e0 a0 (by omega) (wrong_small hpr)
          have HB1' : Hid (∀ W, Below wr.heap.size wr W → Calls Tryd.prog 17 #[.slice rao n rcap] W fun e w' => ∃ ao' c', e = .returned (.slice ao' (n - 32) c') ∧ Own W.heap.size w' (.slice ao' (n - 32) c') (rbs.take (n - 32)) ∧ Below W.heap.size W w') := fun W h => cbody_any rao n rcap rbs hrl W (rok.isb.below h (Nat.le_refl _)) rok.nil rcp (by omega)
          have HB2' : Hid (∀ W, Below wr.heap.size wr W → Calls Tryd.prog 18 #[.slice rao n rcap] W fun e w' => ∃ ao' c', e = .returned (.slice ao' (n - 32) c') ∧ Own W.heap.size w' (.slice ao' (n - 32) c') (rbs.take (n - 32)) ∧ Below W.heap.size W w') := fun W h => rbody_any rao n rcap rbs hrl W (rok.isb.below h (Nat.le_refl _)) rcp (by omega)
          have HBL : Hid ((rbs.take (n - 32)).length = n - 32) := by show _ = _; rw [List.length_take, hrl]; omega
          generalize rbs.take (n - 32) = BD at *
          clear hpr rok rcp rln hrl he1 he2 ha hl1
          go_wp2_with fail
          refine C1.mono ?_
          clear C1
          rintro e w3 ⟨ao3, c3, ge, rfl, ho3, hge, re, hb3⟩
          have hil := imgC_len 0 0 0 (.slice ao3 0 c3) (List.replicate 32 0) rfl
          have h1 := imgC_one 0 0 0 ao3 0 c3 (List.replicate 32 0)
          have SM0 : Hid (∀ W, Calls Tryd.prog 16 #[.agg (imgC 0 0 0 (.slice ao3 0 c3) (List.replicate 32 0)).toArray, .agg zImg.toArray] W fun e w' => e = .returned (.bool true) ∧ Below W.heap.size W w') := fun W => same_eq 0 0 0 ao3 none 0 c3 0 [] (List.replicate 32 0) rfl rfl W (.inl rfl) (.inl rfl)
          generalize imgC 0 0 0 (.slice ao3 0 c3) (List.replicate 32 0) = IX at *
          have bb3 := hb3
          clear hb3
          have hw3 := bb3.size
          generalize hG5 : w3.heap.size = G5 at *
          have rz := Row.at w3 27 zImg zImg.toArray G5 hG5.symm rfl
          have b5 : Below wr.heap.size wr (w3.alloc (.cells zImg.toArray 27)) := bb3.alloc (by omega) _
          have al := (Below.refl w3.heap.size w3).alloc (Nat.le_refl _) (.cells zImg.toArray 27)
          have hge3 := re.lt
          replace re := re.alloc (.cells zImg.toArray 27)
          go_wp2_with (refine wpList_store_Row rfl 27 _ _ rfl G5 27 0 zImg IX rz (by rw [hil]; exact Nat.le_refl _) rfl rfl (by rw [hil]; kernel_rfl) h1 ?_; intro w5 hr5 hs5)
          have r5 := row_whole hr5 (by rw [hil]; exact Nat.le_of_eq zImg_len)
          replace re := re.but hs5 (by omega)
          have bb5 := hs5.below b5 (by omega)
          clear hr5 hs5 rz b5 al bb3 hG5
          refine (C2.out _ bb5).mono ?_
          rintro e w6 ⟨rfl, hb6⟩
          obtain ⟨IY, hIY⟩ : ∃ IY, zImg = IY := ⟨_, rfl⟩
          have hil7 : IY.length = 36 := by rw [← hIY]; rfl
          have h17 : ∀ v ∈ IY, v.oneCell' = true := by rw [← hIY]; exact zImg_one
          have HSM0 : Hid (∀ W, Calls Tryd.prog 16 #[.agg IX.toArray, .agg IY.toArray] W fun e w' => e = .returned (.bool true) ∧ Below W.heap.size W w') := by rw [← hIY]; exact SM0
          replace re := re.below hb6 re.lt
          replace r5 := r5.below hb6 r5.lt
          have bb6 := bb5.trans (hb6.mono bb5.size)
          rw [hIY]
          clear hb6 bb5 hIY
          have hw6 := bb6.size
          have hg5 := r5.lt
          generalize hG7 : w6.heap.size = G7 at *
          have r7 := (Row.at w6 27 zImg zImg.toArray G7 hG7.symm rfl).alloc (.cells #[.int .i64 0, .int .i64 0] 39)
          have r8 : Row ((w6.alloc (.cells zImg.toArray 27)).alloc (.cells #[.int .i64 0, .int .i64 0] 39)) (G7 + 1) 39 [.int .i64 0, .int .i64 0] := Row.at _ _ _ _ _ (by simp [hG7]) rfl
          have b8 : Below w6.heap.size w6 ((w6.alloc (.cells zImg.toArray 27)).alloc (.cells #[.int .i64 0, .int .i64 0] 39)) := ((Below.refl _ _).alloc (Nat.le_refl _) _).alloc (by simp) _
          replace r5 := r5.below b8 (by omega)
          have hre := re.lt
          replace re := re.below b8 (by omega)
          have bb8 := bb6.trans (b8.mono (by omega))
          go_wp2_with (first | (refine wpList_store_Row rfl 27 _ _ rfl G7 27 0 zImg IY r7 (by rw [hil7]; exact Nat.le_refl _) rfl rfl (by rw [hil7]; kernel_rfl) h17 ?_; intro w7 hr7 hs7) | (refine wpList_store_Row rfl 39 _ _ rfl (G7 + 1) 39 0 _ [.int .i64 e0, .int .i64 a0] (r8.but hs7 (by omega)) (Nat.le_refl _) rfl rfl (by kernel_rfl) (by simp [Value.oneCell']) ?_; intro w8 hr8 hs8))
          have q7 := (row_whole hr7 (by rw [hil7]; exact Nat.le_of_eq zImg_len)).but hs8 (by omega)
          have q8 := row_whole hr8 (by simp)
          replace r5 := (r5.but hs7 (by omega)).but hs8 (by omega)
          replace re := (re.but hs7 (by omega)).but hs8 (by omega)
          have bb9 := hs8.below (hs7.below bb8 (by omega)) (by omega)
          clear hr7 hr8 hs7 hs8 r7 r8 b8 bb8 bb6
          refine (told_wrong ge e0 a0 w8 (HGR.out.below bb9 HGR.out.lt) re hE).mono ?_
          rintro e w9 ⟨rfl, hb9⟩
          replace r5 := r5.below hb9 r5.lt
          replace q7 := q7.below hb9 q7.lt
          replace q8 := q8.below hb9 q8.lt
          have bb10 := bb9.trans (hb9.mono bb9.size)
          clear hb9 bb9
          have al9 := (Below.refl w9.heap.size w9).alloc (Nat.le_refl _) (.cells #[.int .i64 e0, .int .i64 a0] 39)
          have r9 : Row (w9.alloc (.cells #[.int .i64 e0, .int .i64 a0] 39)) w9.heap.size 39 [.int .i64 e0, .int .i64 a0] := Row.at _ _ _ _ _ rfl rfl
          replace r5 := r5.below al9 r5.lt
          replace q7 := q7.below al9 q7.lt
          replace q8 := q8.below al9 q8.lt
          have bbW := bb10.trans (al9.mono bb10.size)
          clear al9 bb10
          go_wp2_with fail
          generalize hG9 : w9.heap.size = G9 at *
          generalize (w9.alloc (.cells #[.int .i64 e0, .int .i64 a0] 39)) = W1 at *
          have HR5 : Hid (∀ W, Below W1.heap.size W1 W → Row W G5 27 IX) := fun W h => r5.below h r5.lt
          have HR7 : Hid (∀ W, Below W1.heap.size W1 W → Row W G7 27 IY) := fun W h => q7.below h q7.lt
          have HR8 : Hid (∀ W, Below W1.heap.size W1 W → Row W (G7 + 1) 39 [.int .i64 e0, .int .i64 a0]) := fun W h => q8.below h q8.lt
          have HR9 : Hid (∀ W, Below W1.heap.size W1 W → Row W G9 39 [.int .i64 e0, .int .i64 a0]) := fun W h => r9.below h r9.lt
          have HR5L : Hid (IX.length = 36) := hil
          have HR7L : Hid (IY.length = 36) := hil7
          have HSM : Hid (∀ W, Below W1.heap.size W1 W → Calls Tryd.prog 16 #[.agg IX.toArray, .agg IY.toArray] W fun e w' => e = .returned (.bool true) ∧ Below W.heap.size W w') := fun W h => HSM0.out W
          have HB1 : Hid (∀ W, Below W1.heap.size W1 W → Calls Tryd.prog 17 #[.slice rao n rcap] W fun e w' => ∃ ao' c', e = .returned (.slice ao' (n - 32) c') ∧ Own W.heap.size w' (.slice ao' (n - 32) c') BD ∧ Below W.heap.size W w') := fun W h => HB1'.out W (bbW.trans (h.mono bbW.size))
          have HB2 : Hid (∀ W, Below W1.heap.size W1 W → Calls Tryd.prog 18 #[.slice rao n rcap] W fun e w' => ∃ ao' c', e = .returned (.slice ao' (n - 32) c') ∧ Own W.heap.size w' (.slice ao' (n - 32) c') BD ∧ Below W.heap.size W w') := fun W h => HB2'.out W (bbW.trans (h.mono bbW.size))
          clear r5 q7 q8 r9 HB1' HB2' HSM0 C2
          refine wp_region_inv (IE11 W1 rao n rcap (e0 : Int) (a0 : Int) IX IY BD _ _ _ _ _ _ _ _ _ _ _ _ _ _ _ _ _ _ _ _ _ _ _ _ _ _ _ _ _ _ _ _ _ _ _ _ _) (by kernel_rfl) (by kernel_rfl) ⟨_, _, _, _, _, _, _, _, _, _, _, _, _, _, _, _, _, _, _, _, _, _, rfl, ⟨(Below.refl _ _).drew, fun k => (by cases k), fun k => (by cases k), fun k => (by cases k), fun k => (by cases k), fun k => (by cases k), fun k => (by cases k), fun k => (by cases k), fun k => (by cases k), fun k => (by cases k), fun k => (by cases k), fun k => (by cases k), fun k => (by cases k), fun k => (by cases k), fun k => (by cases k), fun k => (by cases k), fun k => (by cases k), fun k => (by cases k), fun k => (by cases k), fun k => (by cases k), fun k => (by cases k), fun k => (by cases k), fun k => (by cases k)⟩⟩ ?_ ?_
          · refine .cons ?_ (.cons ?_ (.cons ?_ (.cons ?_ (.cons ?_ (.cons ?_ (.cons ?_ (.cons ?_ (.cons ?_ (.cons ?_ (.cons ?_ (.cons ?_ (.cons ?_ (.cons ?_ (.cons ?_ (.cons ?_ (.cons ?_ (.cons ?_ (.cons ?_ (.cons ?_ (.cons ?_ (.cons ?_ .nil)))))))))))))))))))))
            all_goals (refine E11.step ?_; intro x36 x37 x38 x39 x40 x41 x42 x43 x44 x45 x46 x47 x48 x49 x50 x51 x52 x53 x54 x55 x56 x57 L W hI hL hd K hK)
            · rw [if_pos (by rfl)]
              go_simp
              exact hK.out _ _ ⟨_, _, _, _, _, _, _, _, _, _, _, _, _, _, _, _, _, _, _, _, _, _, rfl, hI.s0⟩
            · have hx0 := hI.p0 (hd 0 (by decide))
              subst hx0
              rw [if_pos (by rfl)]
              go_simp
              exact hK.out _ _ ⟨_, _, _, _, _, _, _, _, _, _, _, _, _, _, _, _, _, _, _, _, _, _, rfl, hI.s1⟩
            · have hx1 := hI.p1 (hd 1 (by decide))
              subst hx1
              rw [if_pos (by rfl)]
              go_simp
              exact hK.out _ _ ⟨_, _, _, _, _, _, _, _, _, _, _, _, _, _, _, _, _, _, _, _, _, _, rfl, hI.s2⟩
            · have hx2 := hI.p2 (hd 2 (by decide))
              subst hx2
              rw [if_pos (by rfl)]
              have c9 := (HR9.out W hI.x).cell 0 _ rfl
              have d9 := (HR9.out W hI.x).cell 1 _ rfl
              go_simp
              exact hK.out _ _ ⟨_, _, _, _, _, _, _, _, _, _, _, _, _, _, _, _, _, _, _, _, _, _, rfl, hI.s3⟩
            · have hx2 := hI.p2 (hd 2 (by decide))
              subst hx2
              rw [if_pos (by rfl)]
              have c8 := (HR8.out W hI.x).cell 0 _ rfl
              have d8 := (HR8.out W hI.x).cell 1 _ rfl
              go_simp
              exact hK.out _ _ ⟨_, _, _, _, _, _, _, _, _, _, _, _, _, _, _, _, _, _, _, _, _, _, rfl, hI.s4⟩
            · have hx3 := hI.p3 (hd 3 (by decide))
              subst hx3
              have hx4 := hI.p4 (hd 4 (by decide))
              subst hx4
              have hx2 := hI.p2 (hd 2 (by decide))
              subst hx2
              rw [if_pos (by rfl)]
              have q1 := HEW.out
              go_simp
              exact hK.out _ _ ⟨_, _, _, _, _, _, _, _, _, _, _, _, _, _, _, _, _, _, _, _, _, _, rfl, hI.s5⟩
            · have hx2 := hI.p2 (hd 2 (by decide))
              subst hx2
              have hx5 := hI.p5 (hd 5 (by decide))
              subst hx5
              rw [if_pos (by rfl)]
              go_simp
              exact hK.out _ _ ⟨_, _, _, _, _, _, _, _, _, _, _, _, _, _, _, _, _, _, _, _, _, _, rfl, hI.s6⟩
            · have hx6 := hI.p6 (hd 6 (by decide))
              subst hx6
              rw [if_pos (by rfl)]
              go_simp
              exact hK.out _ _ ⟨_, _, _, _, _, _, _, _, _, _, _, _, _, _, _, _, _, _, _, _, _, _, rfl, hI.s7⟩
            · have hx7 := hI.p7 (hd 7 (by decide))
              subst hx7
              refine step_load_part ?_ 27 (.tmp 5) rfl G5 0 27 36 _ (HR5.out W hI.x) rfl _ IX (take_all36 HR5L.out) HR5L.out Tryd.underlying27 rfl (by kernel_rfl) ?_
              · rfl
              exact hK.out _ _ ⟨_, _, _, _, _, _, _, _, _, _, _, _, _, _, _, _, _, _, _, _, _, _, rfl, hI.s8⟩
            · have hx7 := hI.p7 (hd 7 (by decide))
              subst hx7
              refine step_load_part ?_ 27 (.tmp 7) rfl G7 0 27 36 _ (HR7.out W hI.x) rfl _ IY (take_all36 HR7L.out) HR7L.out Tryd.underlying27 rfl (by kernel_rfl) ?_
              · rfl
              exact hK.out _ _ ⟨_, _, _, _, _, _, _, _, _, _, _, _, _, _, _, _, _, _, _, _, _, _, rfl, hI.s9⟩
            · have hx8 := hI.p8 (hd 8 (by decide))
              subst hx8
              have hx9 := hI.p9 (hd 9 (by decide))
              subst hx9
              have hx7 := hI.p7 (hd 7 (by decide))
              subst hx7
              rw [if_pos (by rfl)]
              go_simp
              refine (HSM.out W hI.x).mono ?_
              rintro e W2 ⟨rfl, hb3⟩
              go_simp
              exact hK.out _ _ ⟨_, _, _, _, _, _, _, _, _, _, _, _, _, _, _, _, _, _, _, _, _, _, rfl, hI.s10 (hI.x.trans (hb3.mono hI.x.size)) hb3⟩
            · have hx10 := hI.p10 (hd 10 (by decide))
              subst hx10
              have hx7 := hI.p7 (hd 7 (by decide))
              subst hx7
              rw [if_pos (by rfl)]
              go_simp
              exact hK.out _ _ ⟨_, _, _, _, _, _, _, _, _, _, _, _, _, _, _, _, _, _, _, _, _, _, rfl, hI.s11⟩
            · have hx7 := hI.p7 (hd 7 (by decide))
              subst hx7
              have hx11 := hI.p11 (hd 11 (by decide))
              subst hx11
              rw [if_pos (by rfl)]
              go_simp
              exact hK.out _ _ ⟨_, _, _, _, _, _, _, _, _, _, _, _, _, _, _, _, _, _, _, _, _, _, rfl, hI.s12⟩
            · have hx12 := hI.p12 (hd 12 (by decide))
              subst hx12
              rw [if_pos (by rfl)]
              go_simp
              exact hK.out _ _ ⟨_, _, _, _, _, _, _, _, _, _, _, _, _, _, _, _, _, _, _, _, _, _, rfl, hI.s13⟩
            · have hx13 := hI.p13 (hd 13 (by decide))
              subst hx13
              rw [if_pos (by rfl)]
              go_simp
              exact hK.out _ _ ⟨_, _, _, _, _, _, _, _, _, _, _, _, _, _, _, _, _, _, _, _, _, _, rfl, hI.s14⟩
            · have hx14 := hI.p14 (hd 14 (by decide))
              subst hx14
              have hx13 := hI.p13 (hd 13 (by decide))
              subst hx13
              rw [if_pos (by rfl)]
              go_simp
              refine (HB1.out W hI.x).mono ?_
              rintro e W2 ⟨ao3, c3, rfl, ho3, hb3⟩
              replace ho3 : ∃ ao c, Value.slice ao3 (n - 32) c3 = .slice ao (n - 32) c ∧ Own W1.heap.size W2 (.slice ao (n - 32) c) BD := ⟨_, _, rfl, own_le ho3 hI.x.size⟩
              go_simp
              exact hK.out _ _ ⟨_, _, _, _, _, _, _, _, _, _, _, _, _, _, _, _, _, _, _, _, _, _, rfl, hI.s15 (hI.x.trans (hb3.mono hI.x.size)) hb3 ho3⟩
            · obtain ⟨ao15, c15, hx15, ho15⟩ := hI.p15 (hd 15 (by decide))
              subst hx15
              have hx13 := hI.p13 (hd 13 (by decide))
              subst hx13
              rw [if_pos (by rfl)]
              have cv := conv_bytes W ao15 _ c15 BD HBL.out (own_IsB ho15)
              go_simp
              exact hK.out _ _ ⟨_, _, _, _, _, _, _, _, _, _, _, _, _, _, _, _, _, _, _, _, _, _, rfl, hI.s16⟩
            · have hx13 := hI.p13 (hd 13 (by decide))
              subst hx13
              rw [if_pos (by rfl)]
              go_simp
              exact hK.out _ _ ⟨_, _, _, _, _, _, _, _, _, _, _, _, _, _, _, _, _, _, _, _, _, _, rfl, hI.s17⟩
            · have hx17 := hI.p17 (hd 17 (by decide))
              subst hx17
              have hx13 := hI.p13 (hd 13 (by decide))
              subst hx13
              rw [if_pos (by rfl)]
              go_simp
              refine (HB2.out W hI.x).mono ?_
              rintro e W2 ⟨ao3, c3, rfl, ho3, hb3⟩
              replace ho3 : ∃ ao c, Value.slice ao3 (n - 32) c3 = .slice ao (n - 32) c ∧ Own W1.heap.size W2 (.slice ao (n - 32) c) BD := ⟨_, _, rfl, own_le ho3 hI.x.size⟩
              go_simp
              exact hK.out _ _ ⟨_, _, _, _, _, _, _, _, _, _, _, _, _, _, _, _, _, _, _, _, _, _, rfl, hI.s18 (hI.x.trans (hb3.mono hI.x.size)) hb3 ho3⟩
            · obtain ⟨ao18, c18, hx18, ho18⟩ := hI.p18 (hd 18 (by decide))
              subst hx18
              have hx13 := hI.p13 (hd 13 (by decide))
              subst hx13
              rw [if_pos (by rfl)]
              have cv := conv_bytes W ao18 _ c18 BD HBL.out (own_IsB ho18)
              go_simp
              exact hK.out _ _ ⟨_, _, _, _, _, _, _, _, _, _, _, _, _, _, _, _, _, _, _, _, _, _, rfl, hI.s19⟩
            · have hx16 := hI.p16 (hd 16 (by decide))
              subst hx16
              have hx19 := hI.p19 (hd 19 (by decide))
              subst hx19
              have hx13 := hI.p13 (hd 13 (by decide))
              subst hx13
              rw [if_pos (by rfl)]
              go_simp
              exact hK.out _ _ ⟨_, _, _, _, _, _, _, _, _, _, _, _, _, _, _, _, _, _, _, _, _, _, rfl, hI.s20⟩
            · have hx13 := hI.p13 (hd 13 (by decide))
              subst hx13
              have hx20 := hI.p20 (hd 20 (by decide))
              subst hx20
              rw [if_pos (by rfl)]
              go_simp
              exact hK.out _ _ ⟨_, _, _, _, _, _, _, _, _, _, _, _, _, _, _, _, _, _, _, _, _, _, rfl, hI.s21⟩
          · refine E11.ends ?_; intro x36 x37 x38 x39 x40 x41 x42 x43 x44 x45 x46 x47 x48 x49 x50 x51 x52 x53 x54 x55 x56 x57 L W hall hI
            have hx0 := hI.p0 (hall 0 (by decide))
            subst hx0
            have hx1 := hI.p1 (hall 1 (by decide))
            subst hx1
            have hx2 := hI.p2 (hall 2 (by decide))
            subst hx2
            have hx3 := hI.p3 (hall 3 (by decide))
            subst hx3
            have hx4 := hI.p4 (hall 4 (by decide))
            subst hx4
            have hx5 := hI.p5 (hall 5 (by decide))
            subst hx5
            have hx6 := hI.p6 (hall 6 (by decide))
            subst hx6
            have hx7 := hI.p7 (hall 7 (by decide))
            subst hx7
            have hx8 := hI.p8 (hall 8 (by decide))
            subst hx8
            have hx9 := hI.p9 (hall 9 (by decide))
            subst hx9
            have hx10 := hI.p10 (hall 10 (by decide))
            subst hx10
            have hx11 := hI.p11 (hall 11 (by decide))
            subst hx11
            have hx12 := hI.p12 (hall 12 (by decide))
            subst hx12
            have hx13 := hI.p13 (hall 13 (by decide))
            subst hx13
            have hx14 := hI.p14 (hall 14 (by decide))
            subst hx14
            obtain ⟨ao15, c15, hx15, ho15⟩ := hI.p15 (hall 15 (by decide))
            subst hx15
            have hx16 := hI.p16 (hall 16 (by decide))
            subst hx16
            have hx17 := hI.p17 (hall 17 (by decide))
            subst hx17
            obtain ⟨ao18, c18, hx18, ho18⟩ := hI.p18 (hall 18 (by decide))
            subst hx18
            have hx19 := hI.p19 (hall 19 (by decide))
            subst hx19
            have hx20 := hI.p20 (hall 20 (by decide))
            subst hx20
            have hx21 := hI.p21 (hall 21 (by decide))
            subst hx21
            have hXe := hI.x
            clear hI hall
            try dsimp only
            go_wp2
            exact ⟨⟨q + 1, by omega, by go_num, bbl.trans ((bbW.trans (hXe.mono bbW.size)).mono bbl.size)⟩, by simp [intOf]; omega⟩
        | ok qq =>
          obtain ⟨s, k, v, p, t⟩ := qq
          obtain ⟨hs, hk, hv, hp, ht, hbl, hbe⟩ := parse_img hpr
          have C1 := cparse_img rao n rcap rbs hrl wr rok.isb rok.nil rcp s k v p t hpr
          have C2 : Hid (∀ W, Below wr.heap.size wr W → Calls Tryd.prog 14 #[.slice rao n rcap] W fun e w' => ∃ ao' c', e = .returned (.tuple #[.agg (imgC s k v (.slice ao' p.length c') t).toArray, .agg #[.int .i64 0, .int .i64 0]]) ∧ Own W.heap.size w' (.slice ao' p.length c') p ∧ Below W.heap.size W w') := fun W h => rparse_img rao n rcap rbs hrl W (rok.isb.below h (Nat.le_refl _)) rcp s k v p t hpr
          have HEW : Hid (∀ w : World, (Op.equalIn 10000 39 (.agg #[.int .i64 0, .int .i64 0]) (.agg #[.int .i64 0, .int .i64 0])).run Tryd.prog w = .ok true w) := eq_wrong 0 0 (by omega) (by omega)
          have HT : Hid (t.length = 32) := ht
          have HB1' : Hid (∀ W, Below wr.heap.size wr W → Calls Tryd.prog 17 #[.slice rao n rcap] W fun e w' => ∃ ao' c', e = .returned (.slice ao' (n - 32) c') ∧ Own W.heap.size w' (.slice ao' (n - 32) c') (rbs.take (n - 32)) ∧ Below W.heap.size W w') := fun W h => cbody_any rao n rcap rbs hrl W (rok.isb.below h (Nat.le_refl _)) rok.nil rcp (by omega)
          have HB2' : Hid (∀ W, Below wr.heap.size wr W → Calls Tryd.prog 18 #[.slice rao n rcap] W fun e w' => ∃ ao' c', e = .returned (.slice ao' (n - 32) c') ∧ Own W.heap.size w' (.slice ao' (n - 32) c') (rbs.take (n - 32)) ∧ Below W.heap.size W w') := fun W h => rbody_any rao n rcap rbs hrl W (rok.isb.below h (Nat.le_refl _)) rcp (by omega)
          have HBL : Hid ((rbs.take (n - 32)).length = n - 32) := by show _ = _; rw [List.length_take, hrl]; omega
          generalize rbs.take (n - 32) = BD at *
          clear hpr rok rcp rln hrl hs hk hv hp ht hbl hbe
          go_wp2_with fail
          refine C1.mono ?_
          clear C1
          rintro e w3 ⟨ao3, c3, rfl, ho3, hb3⟩
          have hil := imgC_len s k v (.slice ao3 p.length c3) t HT.out
          have h1 := imgC_one s k v ao3 p.length c3 t
          have SM1 : Hid (∀ ao4 c4 W, IsB W ao3 p → IsB W ao4 p → Calls Tryd.prog 16 #[.agg (imgC s k v (.slice ao3 p.length c3) t).toArray, .agg (imgC s k v (.slice ao4 p.length c4) t).toArray] W fun e w' => e = .returned (.bool true) ∧ Below W.heap.size W w') := fun ao4 c4 W h1 h2 => same_eq s k v ao3 ao4 p.length c3 c4 p t rfl HT.out W h1 h2
          generalize imgC s k v (.slice ao3 p.length c3) t = IX at *
          have bb3 := hb3
          clear hb3
          have hw3 := bb3.size
          generalize hG5 : w3.heap.size = G5 at *
          have rz := Row.at w3 27 zImg zImg.toArray G5 hG5.symm rfl
          have b5 : Below wr.heap.size wr (w3.alloc (.cells zImg.toArray 27)) := bb3.alloc (by omega) _
          have al := (Below.refl w3.heap.size w3).alloc (Nat.le_refl _) (.cells zImg.toArray 27)
          have hne3 : ao3 ≠ some ⟨G5, 0, none⟩ := fun h => by subst h; have := ho3.lt.2; omega
          replace ho3 := ho3.keep al
          go_wp2_with (refine wpList_store_Row rfl 27 _ _ rfl G5 27 0 zImg IX rz (by rw [hil]; exact Nat.le_refl _) rfl rfl (by rw [hil]; kernel_rfl) h1 ?_; intro w5 hr5 hs5)
          have r5 := row_whole hr5 (by rw [hil]; exact Nat.le_of_eq zImg_len)
          replace ho3 := ho3.but hs5 hne3
          have bb5 := hs5.below b5 (by omega)
          clear hr5 hs5 rz b5 al bb3 hG5
          refine (C2.out _ bb5).mono ?_
          rintro e w6 ⟨ao6, c6, rfl, ho6, hb6⟩
          obtain ⟨IY, hIY⟩ : ∃ IY, imgC s k v (.slice ao6 p.length c6) t = IY := ⟨_, rfl⟩
          have hil7 : IY.length = 36 := by rw [← hIY]; exact imgC_len s k v _ t HT.out
          have h17 : ∀ v ∈ IY, v.oneCell' = true := by rw [← hIY]; exact imgC_one s k v ao6 p.length c6 t
          have HSM0 : Hid (∀ W, IsB W ao3 p → IsB W ao6 p → Calls Tryd.prog 16 #[.agg IX.toArray, .agg IY.toArray] W fun e w' => e = .returned (.bool true) ∧ Below W.heap.size W w') := by rw [← hIY]; exact SM1.out ao6 c6
          replace ho3 := ho3.keep hb6
          replace r5 := r5.below hb6 r5.lt
          have bb6 := bb5.trans (hb6.mono bb5.size)
          rw [hIY]
          clear hb6 bb5 hIY
          have hw6 := bb6.size
          have hg5 := r5.lt
          generalize hG7 : w6.heap.size = G7 at *
          have r7 := (Row.at w6 27 zImg zImg.toArray G7 hG7.symm rfl).alloc (.cells #[.int .i64 0, .int .i64 0] 39)
          have r8 : Row ((w6.alloc (.cells zImg.toArray 27)).alloc (.cells #[.int .i64 0, .int .i64 0] 39)) (G7 + 1) 39 [.int .i64 0, .int .i64 0] := Row.at _ _ _ _ _ (by simp [hG7]) rfl
          have b8 : Below w6.heap.size w6 ((w6.alloc (.cells zImg.toArray 27)).alloc (.cells #[.int .i64 0, .int .i64 0] 39)) := ((Below.refl _ _).alloc (Nat.le_refl _) _).alloc (by simp) _
          replace r5 := r5.below b8 (by omega)
          have hn6 : ao6 ≠ some ⟨G7, 0, none⟩ ∧ ao6 ≠ some ⟨G7 + 1, 0, none⟩ := ⟨fun h => by subst h; have := ho6.lt.2; omega, fun h => by subst h; have := ho6.lt.2; omega⟩
          have hn3 : ao3 ≠ some ⟨G7, 0, none⟩ ∧ ao3 ≠ some ⟨G7 + 1, 0, none⟩ := ⟨fun h => by subst h; have := ho3.lt.2; omega, fun h => by subst h; have := ho3.lt.2; omega⟩
          replace ho3 := ho3.keep b8
          replace ho6 := ho6.keep b8
          have bb8 := bb6.trans (b8.mono (by omega))
          go_wp2_with (first | (refine wpList_store_Row rfl 27 _ _ rfl G7 27 0 zImg IY r7 (by rw [hil7]; exact Nat.le_refl _) rfl rfl (by rw [hil7]; kernel_rfl) h17 ?_; intro w7 hr7 hs7) | (refine wpList_store_Row rfl 39 _ _ rfl (G7 + 1) 39 0 _ [.int .i64 0, .int .i64 0] (r8.but hs7 (by omega)) (Nat.le_refl _) rfl rfl (by kernel_rfl) (by simp [Value.oneCell']) ?_; intro w8 hr8 hs8))
          have q7 := (row_whole hr7 (by rw [hil7]; exact Nat.le_of_eq zImg_len)).but hs8 (by omega)
          have q8 := row_whole hr8 (by simp)
          replace r5 := (r5.but hs7 (by omega)).but hs8 (by omega)
          replace ho3 := (ho3.but hs7 hn3.1).but hs8 hn3.2
          replace ho6 := (ho6.but hs7 hn6.1).but hs8 hn6.2
          have bb9 := hs8.below (hs7.below bb8 (by omega)) (by omega)
          clear hr7 hr8 hs7 hs8 r7 r8 b8 bb8 bb6
          refine (told_nil w8).mono ?_
          rintro e w9 ⟨rfl, hb9⟩
          replace r5 := r5.below hb9 r5.lt
          replace q7 := q7.below hb9 q7.lt
          replace q8 := q8.below hb9 q8.lt
          replace ho3 := ho3.keep hb9
          replace ho6 := ho6.keep hb9
          have bb10 := bb9.trans (hb9.mono bb9.size)
          clear hb9 bb9
          have al9 := (Below.refl w9.heap.size w9).alloc (Nat.le_refl _) (.cells #[.int .i64 0, .int .i64 0] 39)
          have r9 : Row (w9.alloc (.cells #[.int .i64 0, .int .i64 0] 39)) w9.heap.size 39 [.int .i64 0, .int .i64 0] := Row.at _ _ _ _ _ rfl rfl
          replace r5 := r5.below al9 r5.lt
          replace q7 := q7.below al9 q7.lt
          replace q8 := q8.below al9 q8.lt
          replace ho3 := ho3.keep al9
          replace ho6 := ho6.keep al9
          have bbW := bb10.trans (al9.mono bb10.size)
          clear al9 bb10
          go_wp2_with fail
          generalize hG9 : w9.heap.size = G9 at *
          generalize (w9.alloc (.cells #[.int .i64 0, .int .i64 0] 39)) = W1 at *
          have HR5 : Hid (∀ W, Below W1.heap.size W1 W → Row W G5 27 IX) := fun W h => r5.below h r5.lt
          have HR7 : Hid (∀ W, Below W1.heap.size W1 W → Row W G7 27 IY) := fun W h => q7.below h q7.lt
          have HR8 : Hid (∀ W, Below W1.heap.size W1 W → Row W (G7 + 1) 39 [.int .i64 0, .int .i64 0]) := fun W h => q8.below h q8.lt
          have HR9 : Hid (∀ W, Below W1.heap.size W1 W → Row W G9 39 [.int .i64 0, .int .i64 0]) := fun W h => r9.below h r9.lt
          have HR5L : Hid (IX.length = 36) := hil
          have HR7L : Hid (IY.length = 36) := hil7
          have HSM : Hid (∀ W, Below W1.heap.size W1 W → Calls Tryd.prog 16 #[.agg IX.toArray, .agg IY.toArray] W fun e w' => e = .returned (.bool true) ∧ Below W.heap.size W w') := fun W h => HSM0.out W ((own_IsB ho3).below h (Nat.le_refl _)) ((own_IsB ho6).below h (Nat.le_refl _))
          have HB1 : Hid (∀ W, Below W1.heap.size W1 W → Calls Tryd.prog 17 #[.slice rao n rcap] W fun e w' => ∃ ao' c', e = .returned (.slice ao' (n - 32) c') ∧ Own W.heap.size w' (.slice ao' (n - 32) c') BD ∧ Below W.heap.size W w') := fun W h => HB1'.out W (bbW.trans (h.mono bbW.size))
          have HB2 : Hid (∀ W, Below W1.heap.size W1 W → Calls Tryd.prog 18 #[.slice rao n rcap] W fun e w' => ∃ ao' c', e = .returned (.slice ao' (n - 32) c') ∧ Own W.heap.size w' (.slice ao' (n - 32) c') BD ∧ Below W.heap.size W w') := fun W h => HB2'.out W (bbW.trans (h.mono bbW.size))
          clear r5 q7 q8 r9 HB1' HB2' HSM0 C2 ho3 ho6
          refine wp_region_inv (IE11 W1 rao n rcap (0 : Int) (0 : Int) IX IY BD _ _ _ _ _ _ _ _ _ _ _ _ _ _ _ _ _ _ _ _ _ _ _ _ _ _ _ _ _ _ _ _ _ _ _ _ _) (by kernel_rfl) (by kernel_rfl) ⟨_, _, _, _, _, _, _, _, _, _, _, _, _, _, _, _, _, _, _, _, _, _, rfl, ⟨(Below.refl _ _).drew, fun k => (by cases k), fun k => (by cases k), fun k => (by cases k), fun k => (by cases k), fun k => (by cases k), fun k => (by cases k), fun k => (by cases k), fun k => (by cases k), fun k => (by cases k), fun k => (by cases k), fun k => (by cases k), fun k => (by cases k), fun k => (by cases k), fun k => (by cases k), fun k => (by cases k), fun k => (by cases k), fun k => (by cases k), fun k => (by cases k), fun k => (by cases k), fun k => (by cases k), fun k => (by cases k), fun k => (by cases k)⟩⟩ ?_ ?_
          · refine .cons ?_ (.cons ?_ (.cons ?_ (.cons ?_ (.cons ?_ (.cons ?_ (.cons ?_ (.cons ?_ (.cons ?_ (.cons ?_ (.cons ?_ (.cons ?_ (.cons ?_ (.cons ?_ (.cons ?_ (.cons ?_ (.cons ?_ (.cons ?_ (.cons ?_ (.cons ?_ (.cons ?_ (.cons ?_ .nil)))))))))))))))))))))
            all_goals (refine E11.step ?_; intro x36 x37 x38 x39 x40 x41 x42 x43 x44 x45 x46 x47 x48 x49 x50 x51 x52 x53 x54 x55 x56 x57 L W hI hL hd K hK)
            · rw [if_pos (by rfl)]
              go_simp
              exact hK.out _ _ ⟨_, _, _, _, _, _, _, _, _, _, _, _, _, _, _, _, _, _, _, _, _, _, rfl, hI.s0⟩
            · have hx0 := hI.p0 (hd 0 (by decide))
              subst hx0
              rw [if_pos (by rfl)]
              go_simp
              exact hK.out _ _ ⟨_, _, _, _, _, _, _, _, _, _, _, _, _, _, _, _, _, _, _, _, _, _, rfl, hI.s1⟩
            · have hx1 := hI.p1 (hd 1 (by decide))
              subst hx1
              rw [if_pos (by rfl)]
              go_simp
              exact hK.out _ _ ⟨_, _, _, _, _, _, _, _, _, _, _, _, _, _, _, _, _, _, _, _, _, _, rfl, hI.s2⟩
            · have hx2 := hI.p2 (hd 2 (by decide))
              subst hx2
              rw [if_pos (by rfl)]
              have c9 := (HR9.out W hI.x).cell 0 _ rfl
              have d9 := (HR9.out W hI.x).cell 1 _ rfl
              go_simp
              exact hK.out _ _ ⟨_, _, _, _, _, _, _, _, _, _, _, _, _, _, _, _, _, _, _, _, _, _, rfl, hI.s3⟩
            · have hx2 := hI.p2 (hd 2 (by decide))
              subst hx2
              rw [if_pos (by rfl)]
              have c8 := (HR8.out W hI.x).cell 0 _ rfl
              have d8 := (HR8.out W hI.x).cell 1 _ rfl
              go_simp
              exact hK.out _ _ ⟨_, _, _, _, _, _, _, _, _, _, _, _, _, _, _, _, _, _, _, _, _, _, rfl, hI.s4⟩
            · have hx3 := hI.p3 (hd 3 (by decide))
              subst hx3
              have hx4 := hI.p4 (hd 4 (by decide))
              subst hx4
              have hx2 := hI.p2 (hd 2 (by decide))
              subst hx2
              rw [if_pos (by rfl)]
              have q1 := HEW.out
              go_simp
              exact hK.out _ _ ⟨_, _, _, _, _, _, _, _, _, _, _, _, _, _, _, _, _, _, _, _, _, _, rfl, hI.s5⟩
            · have hx2 := hI.p2 (hd 2 (by decide))
              subst hx2
              have hx5 := hI.p5 (hd 5 (by decide))
              subst hx5
              rw [if_pos (by rfl)]
              go_simp
              exact hK.out _ _ ⟨_, _, _, _, _, _, _, _, _, _, _, _, _, _, _, _, _, _, _, _, _, _, rfl, hI.s6⟩
            · have hx6 := hI.p6 (hd 6 (by decide))
              subst hx6
              rw [if_pos (by rfl)]
              go_simp
              exact hK.out _ _ ⟨_, _, _, _, _, _, _, _, _, _, _, _, _, _, _, _, _, _, _, _, _, _, rfl, hI.s7⟩
            · have hx7 := hI.p7 (hd 7 (by decide))
              subst hx7
              refine step_load_part ?_ 27 (.tmp 5) rfl G5 0 27 36 _ (HR5.out W hI.x) rfl _ IX (take_all36 HR5L.out) HR5L.out Tryd.underlying27 rfl (by kernel_rfl) ?_
              · rfl
              exact hK.out _ _ ⟨_, _, _, _, _, _, _, _, _, _, _, _, _, _, _, _, _, _, _, _, _, _, rfl, hI.s8⟩
            · have hx7 := hI.p7 (hd 7 (by decide))
              subst hx7
              refine step_load_part ?_ 27 (.tmp 7) rfl G7 0 27 36 _ (HR7.out W hI.x) rfl _ IY (take_all36 HR7L.out) HR7L.out Tryd.underlying27 rfl (by kernel_rfl) ?_
              · rfl
              exact hK.out _ _ ⟨_, _, _, _, _, _, _, _, _, _, _, _, _, _, _, _, _, _, _, _, _, _, rfl, hI.s9⟩
            · have hx8 := hI.p8 (hd 8 (by decide))
              subst hx8
              have hx9 := hI.p9 (hd 9 (by decide))
              subst hx9
              have hx7 := hI.p7 (hd 7 (by decide))
              subst hx7
              rw [if_pos (by rfl)]
              go_simp
              refine (HSM.out W hI.x).mono ?_
              rintro e W2 ⟨rfl, hb3⟩
              go_simp
              exact hK.out _ _ ⟨_, _, _, _, _, _, _, _, _, _, _, _, _, _, _, _, _, _, _, _, _, _, rfl, hI.s10 (hI.x.trans (hb3.mono hI.x.size)) hb3⟩
            · have hx10 := hI.p10 (hd 10 (by decide))
              subst hx10
              have hx7 := hI.p7 (hd 7 (by decide))
              subst hx7
              rw [if_pos (by rfl)]
              go_simp
              exact hK.out _ _ ⟨_, _, _, _, _, _, _, _, _, _, _, _, _, _, _, _, _, _, _, _, _, _, rfl, hI.s11⟩
            · have hx7 := hI.p7 (hd 7 (by decide))
              subst hx7
              have hx11 := hI.p11 (hd 11 (by decide))
              subst hx11
              rw [if_pos (by rfl)]
              go_simp
              exact hK.out _ _ ⟨_, _, _, _, _, _, _, _, _, _, _, _, _, _, _, _, _, _, _, _, _, _, rfl, hI.s12⟩
            · have hx12 := hI.p12 (hd 12 (by decide))
              subst hx12
              rw [if_pos (by rfl)]
              go_simp
              exact hK.out _ _ ⟨_, _, _, _, _, _, _, _, _, _, _, _, _, _, _, _, _, _, _, _, _, _, rfl, hI.s13⟩
            · have hx13 := hI.p13 (hd 13 (by decide))
              subst hx13
              rw [if_pos (by rfl)]
              go_simp
              exact hK.out _ _ ⟨_, _, _, _, _, _, _, _, _, _, _, _, _, _, _, _, _, _, _, _, _, _, rfl, hI.s14⟩
            · have hx14 := hI.p14 (hd 14 (by decide))
              subst hx14
              have hx13 := hI.p13 (hd 13 (by decide))
              subst hx13
              rw [if_pos (by rfl)]
              go_simp
              refine (HB1.out W hI.x).mono ?_
              rintro e W2 ⟨ao3, c3, rfl, ho3, hb3⟩
              replace ho3 : ∃ ao c, Value.slice ao3 (n - 32) c3 = .slice ao (n - 32) c ∧ Own W1.heap.size W2 (.slice ao (n - 32) c) BD := ⟨_, _, rfl, own_le ho3 hI.x.size⟩
              go_simp
              exact hK.out _ _ ⟨_, _, _, _, _, _, _, _, _, _, _, _, _, _, _, _, _, _, _, _, _, _, rfl, hI.s15 (hI.x.trans (hb3.mono hI.x.size)) hb3 ho3⟩
            · obtain ⟨ao15, c15, hx15, ho15⟩ := hI.p15 (hd 15 (by decide))
              subst hx15
              have hx13 := hI.p13 (hd 13 (by decide))
              subst hx13
              rw [if_pos (by rfl)]
              have cv := conv_bytes W ao15 _ c15 BD HBL.out (own_IsB ho15)
              go_simp
              exact hK.out _ _ ⟨_, _, _, _, _, _, _, _, _, _, _, _, _, _, _, _, _, _, _, _, _, _, rfl, hI.s16⟩
            · have hx13 := hI.p13 (hd 13 (by decide))
              subst hx13
              rw [if_pos (by rfl)]
              go_simp
              exact hK.out _ _ ⟨_, _, _, _, _, _, _, _, _, _, _, _, _, _, _, _, _, _, _, _, _, _, rfl, hI.s17⟩
            · have hx17 := hI.p17 (hd 17 (by decide))
              subst hx17
              have hx13 := hI.p13 (hd 13 (by decide))
              subst hx13
              rw [if_pos (by rfl)]
              go_simp
              refine (HB2.out W hI.x).mono ?_
              rintro e W2 ⟨ao3, c3, rfl, ho3, hb3⟩
              replace ho3 : ∃ ao c, Value.slice ao3 (n - 32) c3 = .slice ao (n - 32) c ∧ Own W1.heap.size W2 (.slice ao (n - 32) c) BD := ⟨_, _, rfl, own_le ho3 hI.x.size⟩
              go_simp
              exact hK.out _ _ ⟨_, _, _, _, _, _, _, _, _, _, _, _, _, _, _, _, _, _, _, _, _, _, rfl, hI.s18 (hI.x.trans (hb3.mono hI.x.size)) hb3 ho3⟩
            · obtain ⟨ao18, c18, hx18, ho18⟩ := hI.p18 (hd 18 (by decide))
              subst hx18
              have hx13 := hI.p13 (hd 13 (by decide))
              subst hx13
              rw [if_pos (by rfl)]
              have cv := conv_bytes W ao18 _ c18 BD HBL.out (own_IsB ho18)
              go_simp
              exact hK.out _ _ ⟨_, _, _, _, _, _, _, _, _, _, _, _, _, _, _, _, _, _, _, _, _, _, rfl, hI.s19⟩
            · have hx16 := hI.p16 (hd 16 (by decide))
              subst hx16
              have hx19 := hI.p19 (hd 19 (by decide))
              subst hx19
              have hx13 := hI.p13 (hd 13 (by decide))
              subst hx13
              rw [if_pos (by rfl)]
              go_simp
              exact hK.out _ _ ⟨_, _, _, _, _, _, _, _, _, _, _, _, _, _, _, _, _, _, _, _, _, _, rfl, hI.s20⟩
            · have hx13 := hI.p13 (hd 13 (by decide))
              subst hx13
              have hx20 := hI.p20 (hd 20 (by decide))
              subst hx20
              rw [if_pos (by rfl)]
              go_simp
              exact hK.out _ _ ⟨_, _, _, _, _, _, _, _, _, _, _, _, _, _, _, _, _, _, _, _, _, _, rfl, hI.s21⟩
          · refine E11.ends ?_; intro x36 x37 x38 x39 x40 x41 x42 x43 x44 x45 x46 x47 x48 x49 x50 x51 x52 x53 x54 x55 x56 x57 L W hall hI
            have hx0 := hI.p0 (hall 0 (by decide))
            subst hx0
            have hx1 := hI.p1 (hall 1 (by decide))
            subst hx1
            have hx2 := hI.p2 (hall 2 (by decide))
            subst hx2
            have hx3 := hI.p3 (hall 3 (by decide))
            subst hx3
            have hx4 := hI.p4 (hall 4 (by decide))
            subst hx4
            have hx5 := hI.p5 (hall 5 (by decide))
            subst hx5
            have hx6 := hI.p6 (hall 6 (by decide))
            subst hx6
            have hx7 := hI.p7 (hall 7 (by decide))
            subst hx7
            have hx8 := hI.p8 (hall 8 (by decide))
            subst hx8
            have hx9 := hI.p9 (hall 9 (by decide))
            subst hx9
            have hx10 := hI.p10 (hall 10 (by decide))
            subst hx10
            have hx11 := hI.p11 (hall 11 (by decide))
            subst hx11
            have hx12 := hI.p12 (hall 12 (by decide))
            subst hx12
            have hx13 := hI.p13 (hall 13 (by decide))
            subst hx13
            have hx14 := hI.p14 (hall 14 (by decide))
            subst hx14
            obtain ⟨ao15, c15, hx15, ho15⟩ := hI.p15 (hall 15 (by decide))
            subst hx15
            have hx16 := hI.p16 (hall 16 (by decide))
            subst hx16
            have hx17 := hI.p17 (hall 17 (by decide))
            subst hx17
            obtain ⟨ao18, c18, hx18, ho18⟩ := hI.p18 (hall 18 (by decide))
            subst hx18
            have hx19 := hI.p19 (hall 19 (by decide))
            subst hx19
            have hx20 := hI.p20 (hall 20 (by decide))
            subst hx20
            have hx21 := hI.p21 (hall 21 (by decide))
            subst hx21
            have hXe := hI.x
            clear hI hall
            try dsimp only
            go_wp2
            exact ⟨⟨q + 1, by omega, by go_num, bbl.trans ((bbW.trans (hXe.mono bbW.size)).mono bbl.size)⟩, by simp [intOf]; omega⟩
      · obtain rfl : q = ln := by omega
        have i1 : ¬ (q : Int) < (q : Int) := by omega
        go_wp2
        go_ret
        exact ⟨rfl, bbl⟩
  · rw [hbe] at BY
    go_enter Tryd.func5, Tryd.ntmps5
    go_wp2_with fail
    refine AW.mono ?_
    rintro e w2 ⟨rfl, bb2⟩
    go_wp2_with fail
    refine (BY.out _ bb2).mono ?_
    rintro e w2' ⟨rfl, rfl⟩
    go_wp2
    go_ret
    exact ⟨rfl, bb2⟩
end Go.Proofs.YtnpbgfnahkmhoaaDoor
