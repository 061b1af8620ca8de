
import Derived.Test.YtdfbfheceobboaaDoorP25Re
/-! The code's patch: reading a part. (Printed by tools/genc25.py.) -/
namespace Go.Proofs.YtdfbfheceobboaaDoor
open Go.RowKit
set_option linter.unusedVariables false
set_option linter.unusedSimpArgs false
set_option maxRecDepth 100000

/-- While what is left is reckoned. -/
structure NxW (N : Nat) (w w2 : World) (g : Nat) (pv : Value) (nx bef lf k : Nat) (av : Value) (q : Bool) (W : World) : Prop where
  grw : Grw N (some ⟨g, 0, none⟩) (some ⟨g, 0, none⟩) w W
  gr2 : Grw N (some ⟨g, 0, none⟩) (some ⟨g, 0, none⟩) w2 W
  rd : Row W g 75 (rdC pv nx bef (if q then lf - k else lf) av)
  ng : N ≤ g
  lt : g < w.heap.size
theorem NxW.keep {N : Nat} {w w2 : World} {g : Nat} {pv : Value} {nx bef lf k : Nat} {av : Value} {q : Bool} {W W2 : World} (h : NxW N w w2 g pv nx bef lf k av q W) (hb : Below W.heap.size W W2) : NxW N w w2 g pv nx bef lf k av q W2 :=
  ⟨h.grw.trans (.of_below hb (Nat.le_trans h.ng (Nat.le_of_lt h.rd.lt))), h.gr2.trans (.of_below hb (Nat.le_trans h.ng (Nat.le_of_lt h.rd.lt))), h.rd.below hb h.rd.lt, h.ng, h.lt⟩
theorem NxW.drew {N : Nat} {w w2 : World} {g : Nat} {pv : Value} {nx bef lf k : Nat} {av : Value} {q : Bool} {W : World} (h : NxW N w w2 g pv nx bef lf k av q W) : NxW N w w2 g pv nx bef lf k av q W.drew :=
  h.keep ((Below.refl _ _).drew)
theorem grw_set {N g : Nat} {w W : World} (h : Grw N (some ⟨g, 0, none⟩) (some ⟨g, 0, none⟩) w W) (hg : N ≤ g) (i : Nat) (v : Value) : Grw N (some ⟨g, 0, none⟩) (some ⟨g, 0, none⟩) w (W.setCell ⟨g, i, none⟩ v) :=
  h.trans ⟨(SameBut.setCell g i v W).below (Below.refl _ _) hg, Nat.le_of_eq (SameBut.setCell g i v W).size.symm, fun k hk hne => (SameBut.setCell g i v W).block k (hne g rfl), .inl rfl⟩
theorem NxW.s9 {N : Nat} {w w2 : World} {g : Nat} {pv : Value} {nx bef lf k : Nat} {av : Value} {W : World} (h : NxW N w w2 g pv nx bef lf k av false W) : NxW N w w2 g pv nx bef lf k av true (W.setCell ⟨g, 3, none⟩ (.int .i64 ((lf - k : Nat) : Int))) :=
  ⟨grw_set h.grw h.ng 3 _, grw_set h.gr2 h.ng 3 _, h.rd.set 3 (.int .i64 ((lf - k : Nat) : Int)), h.ng, h.lt⟩
structure NX5S (W1 : World) (N : Nat) (w w2 : World) (g B off n pc nx bef lf k : Nat) (av : Value) (yfrm : Nat) (L : Nat → Bool) (x24 x25 x26 x27 x28 x29 x30 x31 x32 : Value) (W : World) : Prop where
  x : NxW N w w2 g (.slice (some ⟨B, off, none⟩) n pc) nx bef lf k av (L 9) W
  p0 : L 0 = true → x24 = .pointer (some ⟨g, 0, none⟩)
  p1 : L 1 = true → x25 = .pointer (some ⟨g, 0, none⟩)
  p2 : L 2 = true → x26 = .pointer (some ⟨g, 3, none⟩)
  p3 : L 3 = true → x27 = .int .i64 (lf : Int)
  p4 : L 4 = true → x28 = .iface 66 (.agg #[.int .i64 (yfrm : Int), .int .i64 (k : Int)])
  p5 : L 5 = true → x29 = .int .i64 (k : Int)
  p6 : L 6 = true → x30 = .int .i64 ((lf - k : Nat) : Int)
  p7 : L 7 = true → x31 = .pointer (some ⟨g, 0, none⟩)
  p8 : L 8 = true → x32 = .pointer (some ⟨g, 3, none⟩)
  c9_3 : L 9 = true → L 3 = true
section
variable {W1 : World} {N : Nat} {w w2 : World} {g B off n pc nx bef lf k : Nat} {av : Value} {yfrm : Nat} {L : Nat → Bool} {x24 x25 x26 x27 x28 x29 x30 x31 x32 : Value} {W W2 : World}
theorem NX5S.s0 (h : NX5S W1 N w w2 g B off n pc nx bef lf k av yfrm L x24 x25 x26 x27 x28 x29 x30 x31 x32 W) : NX5S W1 N w w2 g B off n pc nx bef lf k av yfrm (upd L 0) (.pointer (some ⟨g, 0, none⟩)) x25 x26 x27 x28 x29 x30 x31 x32 W :=
  ⟨h.x, fun _ => rfl, h.p1, h.p2, h.p3, h.p4, h.p5, h.p6, h.p7, h.p8, h.c9_3⟩
theorem NX5S.s1 (h : NX5S W1 N w w2 g B off n pc nx bef lf k av yfrm L x24 x25 x26 x27 x28 x29 x30 x31 x32 W) : NX5S W1 N w w2 g B off n pc nx bef lf k av yfrm (upd L 1) x24 (.pointer (some ⟨g, 0, none⟩)) x26 x27 x28 x29 x30 x31 x32 W :=
  ⟨h.x, h.p0, fun _ => rfl, h.p2, h.p3, h.p4, h.p5, h.p6, h.p7, h.p8, h.c9_3⟩
theorem NX5S.s2 (h : NX5S W1 N w w2 g B off n pc nx bef lf k av yfrm L x24 x25 x26 x27 x28 x29 x30 x31 x32 W) : NX5S W1 N w w2 g B off n pc nx bef lf k av yfrm (upd L 2) x24 x25 (.pointer (some ⟨g, 3, none⟩)) x27 x28 x29 x30 x31 x32 W :=
  ⟨h.x, h.p0, h.p1, fun _ => rfl, h.p3, h.p4, h.p5, h.p6, h.p7, h.p8, h.c9_3⟩
theorem NX5S.s3 (h : NX5S W1 N w w2 g B off n pc nx bef lf k av yfrm L x24 x25 x26 x27 x28 x29 x30 x31 x32 W) : NX5S W1 N w w2 g B off n pc nx bef lf k av yfrm (upd L 3) x24 x25 x26 (.int .i64 (lf : Int)) x28 x29 x30 x31 x32 W :=
  ⟨h.x, h.p0, h.p1, h.p2, fun _ => rfl, h.p4, h.p5, h.p6, h.p7, h.p8, fun _ => rfl⟩
theorem NX5S.s4 (h : NX5S W1 N w w2 g B off n pc nx bef lf k av yfrm L x24 x25 x26 x27 x28 x29 x30 x31 x32 W) : NX5S W1 N w w2 g B off n pc nx bef lf k av yfrm (upd L 4) x24 x25 x26 x27 (.iface 66 (.agg #[.int .i64 (yfrm : Int), .int .i64 (k : Int)])) x29 x30 x31 x32 W :=
  ⟨h.x, h.p0, h.p1, h.p2, h.p3, fun _ => rfl, h.p5, h.p6, h.p7, h.p8, h.c9_3⟩
theorem NX5S.s5 (h : NX5S W1 N w w2 g B off n pc nx bef lf k av yfrm L x24 x25 x26 x27 x28 x29 x30 x31 x32 W) (hX : NxW N w w2 g (.slice (some ⟨B, off, none⟩) n pc) nx bef lf k av ((upd L 5) 9) W2) : NX5S W1 N w w2 g B off n pc nx bef lf k av yfrm (upd L 5) x24 x25 x26 x27 x28 (.int .i64 (k : Int)) x30 x31 x32 W2 :=
  ⟨hX, h.p0, h.p1, h.p2, h.p3, h.p4, fun _ => rfl, h.p6, h.p7, h.p8, h.c9_3⟩
theorem NX5S.s6 (h : NX5S W1 N w w2 g B off n pc nx bef lf k av yfrm L x24 x25 x26 x27 x28 x29 x30 x31 x32 W) : NX5S W1 N w w2 g B off n pc nx bef lf k av yfrm (upd L 6) x24 x25 x26 x27 x28 x29 (.int .i64 ((lf - k : Nat) : Int)) x31 x32 W :=
  ⟨h.x, h.p0, h.p1, h.p2, h.p3, h.p4, h.p5, fun _ => rfl, h.p7, h.p8, h.c9_3⟩
theorem NX5S.s7 (h : NX5S W1 N w w2 g B off n pc nx bef lf k av yfrm L x24 x25 x26 x27 x28 x29 x30 x31 x32 W) : NX5S W1 N w w2 g B off n pc nx bef lf k av yfrm (upd L 7) x24 x25 x26 x27 x28 x29 x30 (.pointer (some ⟨g, 0, none⟩)) x32 W :=
  ⟨h.x, h.p0, h.p1, h.p2, h.p3, h.p4, h.p5, h.p6, fun _ => rfl, h.p8, h.c9_3⟩
theorem NX5S.s8 (h : NX5S W1 N w w2 g B off n pc nx bef lf k av yfrm L x24 x25 x26 x27 x28 x29 x30 x31 x32 W) : NX5S W1 N w w2 g B off n pc nx bef lf k av yfrm (upd L 8) x24 x25 x26 x27 x28 x29 x30 x31 (.pointer (some ⟨g, 3, none⟩)) W :=
  ⟨h.x, h.p0, h.p1, h.p2, h.p3, h.p4, h.p5, h.p6, h.p7, fun _ => rfl, h.c9_3⟩
theorem NX5S.s9 (h : NX5S W1 N w w2 g B off n pc nx bef lf k av yfrm L x24 x25 x26 x27 x28 x29 x30 x31 x32 W) (hX : NxW N w w2 g (.slice (some ⟨B, off, none⟩) n pc) nx bef lf k av ((upd L 9) 9) W2) (hc3 : L 3 = true) : NX5S W1 N w w2 g B off n pc nx bef lf k av yfrm (upd L 9) x24 x25 x26 x27 x28 x29 x30 x31 x32 W2 :=
  ⟨hX, h.p0, h.p1, h.p2, h.p3, h.p4, h.p5, h.p6, h.p7, h.p8, fun _ => hc3⟩
end
@[reducible] def INX5S (W1 : World) (N : Nat) (w w2 : World) (g B off n pc nx bef lf k : Nat) (av : Value) (yfrm : Nat) (y0 y1 y2 y3 y4 y5 y6 y7 y8 y9 y10 y11 y12 y13 y14 y15 y16 y17 y18 y19 y20 y21 y22 y23 y33 y34 y35 y36 y37 : Value) : (Nat → Bool) → Act → World → Prop := fun L a W => ∃ x24 x25 x26 x27 x28 x29 x30 x31 x32, a = ⟨#[y0, y1, y2, y3, y4, y5, y6, y7, y8, y9, y10, y11, y12, y13, y14, y15, y16, y17, y18, y19, y20, y21, y22, y23, x24, x25, x26, x27, x28, x29, x30, x31, x32, y33, y34, y35, y36, y37], []⟩ ∧ NX5S W1 N w w2 g B off n pc nx bef lf k av yfrm L x24 x25 x26 x27 x28 x29 x30 x31 x32 W
theorem NX5S.step {W1 : World} {N : Nat} {w w2 : World} {g B off n pc nx bef lf k : Nat} {av : Value} {yfrm : Nat} {y0 y1 y2 y3 y4 y5 y6 y7 y8 y9 y10 y11 y12 y13 y14 y15 y16 y17 y18 y19 y20 y21 y22 y23 y33 y34 y35 y36 y37 : Value} {P : Program} {ops : Array Oper} {Q : Exit → Act → World → Prop} {i : Nat} {o : Oper} (hq : ∀ x24 x25 x26 x27 x28 x29 x30 x31 x32 (L : Nat → Bool) (W : World), NX5S W1 N w w2 g B off n pc nx bef lf k av yfrm L x24 x25 x26 x27 x28 x29 x30 x31 x32 W → L i = false → (∀ j ∈ onesOf o, L j = true) → ∀ K : Act → World → Prop, Shut (∀ a' w', INX5S W1 N w w2 g B off n pc nx bef lf k av yfrm y0 y1 y2 y3 y4 y5 y6 y7 y8 y9 y10 y11 y12 y13 y14 y15 y16 y17 y18 y19 y20 y21 y22 y23 y33 y34 y35 y36 y37 (upd L i) a' w' → K a' w') → if Region.wanted o (yielded ops (⟨#[y0, y1, y2, y3, y4, y5, y6, y7, y8, y9, y10, y11, y12, y13, y14, y15, y16, y17, y18, y19, y20, y21, y22, y23, x24, x25, x26, x27, x28, x29, x30, x31, x32, y33, y34, y35, y36, y37], []⟩ : Act).tmps) = true then Oper.wp P o ⟨#[y0, y1, y2, y3, y4, y5, y6, y7, y8, y9, y10, y11, y12, y13, y14, y15, y16, y17, y18, y19, y20, y21, y22, y23, x24, x25, x26, x27, x28, x29, x30, x31, x32, y33, y34, y35, y36, y37], []⟩ W K Q else K ((⟨#[y0, y1, y2, y3, y4, y5, y6, y7, y8, y9, y10, y11, y12, y13, y14, y15, y16, y17, y18, y19, y20, y21, y22, y23, x24, x25, x26, x27, x28, x29, x30, x31, x32, y33, y34, y35, y36, y37], []⟩ : Act).put o.dst undef) W) : StepI P ops (INX5S W1 N w w2 g B off n pc nx bef lf k av yfrm y0 y1 y2 y3 y4 y5 y6 y7 y8 y9 y10 y11 y12 y13 y14 y15 y16 y17 y18 y19 y20 y21 y22 y23 y33 y34 y35 y36 y37) Q i o := by
  rintro L a W ⟨x24, x25, x26, x27, x28, x29, x30, x31, x32, rfl, h⟩
  exact hq _ _ _ _ _ _ _ _ _ _ _ h
theorem NX5S.ends {W1 : World} {N : Nat} {w w2 : World} {g B off n pc nx bef lf k : Nat} {av : Value} {yfrm : Nat} {y0 y1 y2 y3 y4 y5 y6 y7 y8 y9 y10 y11 y12 y13 y14 y15 y16 y17 y18 y19 y20 y21 y22 y23 y33 y34 y35 y36 y37 : Value} {mm_ : Nat} {Q : Exit → Act → World → Prop} (hq : ∀ x24 x25 x26 x27 x28 x29 x30 x31 x32 (L : Nat → Bool) (W : World), (∀ j, j < mm_ → L j = true) → NX5S W1 N w w2 g B off n pc nx bef lf k av yfrm L x24 x25 x26 x27 x28 x29 x30 x31 x32 W → Q .normal ⟨#[y0, y1, y2, y3, y4, y5, y6, y7, y8, y9, y10, y11, y12, y13, y14, y15, y16, y17, y18, y19, y20, y21, y22, y23, x24, x25, x26, x27, x28, x29, x30, x31, x32, y33, y34, y35, y36, y37], []⟩ W) : ∀ L a' w', (∀ j, j < mm_ → L j = true) → INX5S W1 N w w2 g B off n pc nx bef lf k av yfrm y0 y1 y2 y3 y4 y5 y6 y7 y8 y9 y10 y11 y12 y13 y14 y15 y16 y17 y18 y19 y20 y21 y22 y23 y33 y34 y35 y36 y37 L a' w' → Q .normal a' w' := by
  rintro L a W hall ⟨x24, x25, x26, x27, x28, x29, x30, x31, x32, rfl, h⟩
  exact hq _ _ _ _ _ _ _ _ _ _ _ hall h
structure NX5L (W1 : World) (N : Nat) (w w2 : World) (g B off n pc nx bef lf k : Nat) (av : Value) (B2 off2 c2 : Nat) (L : Nat → Bool) (x24 x25 x26 x27 x28 x29 x30 x31 x32 : Value) (W : World) : Prop where
  x : NxW N w w2 g (.slice (some ⟨B, off, none⟩) n pc) nx bef lf k av (L 9) W
  p0 : L 0 = true → x24 = .pointer (some ⟨g, 0, none⟩)
  p1 : L 1 = true → x25 = .pointer (some ⟨g, 0, none⟩)
  p2 : L 2 = true → x26 = .pointer (some ⟨g, 3, none⟩)
  p3 : L 3 = true → x27 = .int .i64 (lf : Int)
  p4 : L 4 = true → x28 = .iface 63 (.agg #[.slice (some ⟨B2, off2, none⟩) k c2])
  p5 : L 5 = true → x29 = .int .i64 (k : Int)
  p6 : L 6 = true → x30 = .int .i64 ((lf - k : Nat) : Int)
  p7 : L 7 = true → x31 = .pointer (some ⟨g, 0, none⟩)
  p8 : L 8 = true → x32 = .pointer (some ⟨g, 3, none⟩)
  c9_3 : L 9 = true → L 3 = true
section
variable {W1 : World} {N : Nat} {w w2 : World} {g B off n pc nx bef lf k : Nat} {av : Value} {B2 off2 c2 : Nat} {L : Nat → Bool} {x24 x25 x26 x27 x28 x29 x30 x31 x32 : Value} {W W2 : World}
theorem NX5L.s0 (h : NX5L W1 N w w2 g B off n pc nx bef lf k av B2 off2 c2 L x24 x25 x26 x27 x28 x29 x30 x31 x32 W) : NX5L W1 N w w2 g B off n pc nx bef lf k av B2 off2 c2 (upd L 0) (.pointer (some ⟨g, 0, none⟩)) x25 x26 x27 x28 x29 x30 x31 x32 W :=
  ⟨h.x, fun _ => rfl, h.p1, h.p2, h.p3, h.p4, h.p5, h.p6, h.p7, h.p8, h.c9_3⟩
theorem NX5L.s1 (h : NX5L W1 N w w2 g B off n pc nx bef lf k av B2 off2 c2 L x24 x25 x26 x27 x28 x29 x30 x31 x32 W) : NX5L W1 N w w2 g B off n pc nx bef lf k av B2 off2 c2 (upd L 1) x24 (.pointer (some ⟨g, 0, none⟩)) x26 x27 x28 x29 x30 x31 x32 W :=
  ⟨h.x, h.p0, fun _ => rfl, h.p2, h.p3, h.p4, h.p5, h.p6, h.p7, h.p8, h.c9_3⟩
theorem NX5L.s2 (h : NX5L W1 N w w2 g B off n pc nx bef lf k av B2 off2 c2 L x24 x25 x26 x27 x28 x29 x30 x31 x32 W) : NX5L W1 N w w2 g B off n pc nx bef lf k av B2 off2 c2 (upd L 2) x24 x25 (.pointer (some ⟨g, 3, none⟩)) x27 x28 x29 x30 x31 x32 W :=
  ⟨h.x, h.p0, h.p1, fun _ => rfl, h.p3, h.p4, h.p5, h.p6, h.p7, h.p8, h.c9_3⟩
theorem NX5L.s3 (h : NX5L W1 N w w2 g B off n pc nx bef lf k av B2 off2 c2 L x24 x25 x26 x27 x28 x29 x30 x31 x32 W) : NX5L W1 N w w2 g B off n pc nx bef lf k av B2 off2 c2 (upd L 3) x24 x25 x26 (.int .i64 (lf : Int)) x28 x29 x30 x31 x32 W :=
  ⟨h.x, h.p0, h.p1, h.p2, fun _ => rfl, h.p4, h.p5, h.p6, h.p7, h.p8, fun _ => rfl⟩
theorem NX5L.s4 (h : NX5L W1 N w w2 g B off n pc nx bef lf k av B2 off2 c2 L x24 x25 x26 x27 x28 x29 x30 x31 x32 W) : NX5L W1 N w w2 g B off n pc nx bef lf k av B2 off2 c2 (upd L 4) x24 x25 x26 x27 (.iface 63 (.agg #[.slice (some ⟨B2, off2, none⟩) k c2])) x29 x30 x31 x32 W :=
  ⟨h.x, h.p0, h.p1, h.p2, h.p3, fun _ => rfl, h.p5, h.p6, h.p7, h.p8, h.c9_3⟩
theorem NX5L.s5 (h : NX5L W1 N w w2 g B off n pc nx bef lf k av B2 off2 c2 L x24 x25 x26 x27 x28 x29 x30 x31 x32 W) (hX : NxW N w w2 g (.slice (some ⟨B, off, none⟩) n pc) nx bef lf k av ((upd L 5) 9) W2) : NX5L W1 N w w2 g B off n pc nx bef lf k av B2 off2 c2 (upd L 5) x24 x25 x26 x27 x28 (.int .i64 (k : Int)) x30 x31 x32 W2 :=
  ⟨hX, h.p0, h.p1, h.p2, h.p3, h.p4, fun _ => rfl, h.p6, h.p7, h.p8, h.c9_3⟩
theorem NX5L.s6 (h : NX5L W1 N w w2 g B off n pc nx bef lf k av B2 off2 c2 L x24 x25 x26 x27 x28 x29 x30 x31 x32 W) : NX5L W1 N w w2 g B off n pc nx bef lf k av B2 off2 c2 (upd L 6) x24 x25 x26 x27 x28 x29 (.int .i64 ((lf - k : Nat) : Int)) x31 x32 W :=
  ⟨h.x, h.p0, h.p1, h.p2, h.p3, h.p4, h.p5, fun _ => rfl, h.p7, h.p8, h.c9_3⟩
theorem NX5L.s7 (h : NX5L W1 N w w2 g B off n pc nx bef lf k av B2 off2 c2 L x24 x25 x26 x27 x28 x29 x30 x31 x32 W) : NX5L W1 N w w2 g B off n pc nx bef lf k av B2 off2 c2 (upd L 7) x24 x25 x26 x27 x28 x29 x30 (.pointer (some ⟨g, 0, none⟩)) x32 W :=
  ⟨h.x, h.p0, h.p1, h.p2, h.p3, h.p4, h.p5, h.p6, fun _ => rfl, h.p8, h.c9_3⟩
theorem NX5L.s8 (h : NX5L W1 N w w2 g B off n pc nx bef lf k av B2 off2 c2 L x24 x25 x26 x27 x28 x29 x30 x31 x32 W) : NX5L W1 N w w2 g B off n pc nx bef lf k av B2 off2 c2 (upd L 8) x24 x25 x26 x27 x28 x29 x30 x31 (.pointer (some ⟨g, 3, none⟩)) W :=
  ⟨h.x, h.p0, h.p1, h.p2, h.p3, h.p4, h.p5, h.p6, h.p7, fun _ => rfl, h.c9_3⟩
theorem NX5L.s9 (h : NX5L W1 N w w2 g B off n pc nx bef lf k av B2 off2 c2 L x24 x25 x26 x27 x28 x29 x30 x31 x32 W) (hX : NxW N w w2 g (.slice (some ⟨B, off, none⟩) n pc) nx bef lf k av ((upd L 9) 9) W2) (hc3 : L 3 = true) : NX5L W1 N w w2 g B off n pc nx bef lf k av B2 off2 c2 (upd L 9) x24 x25 x26 x27 x28 x29 x30 x31 x32 W2 :=
  ⟨hX, h.p0, h.p1, h.p2, h.p3, h.p4, h.p5, h.p6, h.p7, h.p8, fun _ => hc3⟩
end
@[reducible] def INX5L (W1 : World) (N : Nat) (w w2 : World) (g B off n pc nx bef lf k : Nat) (av : Value) (B2 off2 c2 : Nat) (y0 y1 y2 y3 y4 y5 y6 y7 y8 y9 y10 y11 y12 y13 y14 y15 y16 y17 y18 y19 y20 y21 y22 y23 y33 y34 y35 y36 y37 : Value) : (Nat → Bool) → Act → World → Prop := fun L a W => ∃ x24 x25 x26 x27 x28 x29 x30 x31 x32, a = ⟨#[y0, y1, y2, y3, y4, y5, y6, y7, y8, y9, y10, y11, y12, y13, y14, y15, y16, y17, y18, y19, y20, y21, y22, y23, x24, x25, x26, x27, x28, x29, x30, x31, x32, y33, y34, y35, y36, y37], []⟩ ∧ NX5L W1 N w w2 g B off n pc nx bef lf k av B2 off2 c2 L x24 x25 x26 x27 x28 x29 x30 x31 x32 W
theorem NX5L.step {W1 : World} {N : Nat} {w w2 : World} {g B off n pc nx bef lf k : Nat} {av : Value} {B2 off2 c2 : Nat} {y0 y1 y2 y3 y4 y5 y6 y7 y8 y9 y10 y11 y12 y13 y14 y15 y16 y17 y18 y19 y20 y21 y22 y23 y33 y34 y35 y36 y37 : Value} {P : Program} {ops : Array Oper} {Q : Exit → Act → World → Prop} {i : Nat} {o : Oper} (hq : ∀ x24 x25 x26 x27 x28 x29 x30 x31 x32 (L : Nat → Bool) (W : World), NX5L W1 N w w2 g B off n pc nx bef lf k av B2 off2 c2 L x24 x25 x26 x27 x28 x29 x30 x31 x32 W → L i = false → (∀ j ∈ onesOf o, L j = true) → ∀ K : Act → World → Prop, Shut (∀ a' w', INX5L W1 N w w2 g B off n pc nx bef lf k av B2 off2 c2 y0 y1 y2 y3 y4 y5 y6 y7 y8 y9 y10 y11 y12 y13 y14 y15 y16 y17 y18 y19 y20 y21 y22 y23 y33 y34 y35 y36 y37 (upd L i) a' w' → K a' w') → if Region.wanted o (yielded ops (⟨#[y0, y1, y2, y3, y4, y5, y6, y7, y8, y9, y10, y11, y12, y13, y14, y15, y16, y17, y18, y19, y20, y21, y22, y23, x24, x25, x26, x27, x28, x29, x30, x31, x32, y33, y34, y35, y36, y37], []⟩ : Act).tmps) = true then Oper.wp P o ⟨#[y0, y1, y2, y3, y4, y5, y6, y7, y8, y9, y10, y11, y12, y13, y14, y15, y16, y17, y18, y19, y20, y21, y22, y23, x24, x25, x26, x27, x28, x29, x30, x31, x32, y33, y34, y35, y36, y37], []⟩ W K Q else K ((⟨#[y0, y1, y2, y3, y4, y5, y6, y7, y8, y9, y10, y11, y12, y13, y14, y15, y16, y17, y18, y19, y20, y21, y22, y23, x24, x25, x26, x27, x28, x29, x30, x31, x32, y33, y34, y35, y36, y37], []⟩ : Act).put o.dst undef) W) : StepI P ops (INX5L W1 N w w2 g B off n pc nx bef lf k av B2 off2 c2 y0 y1 y2 y3 y4 y5 y6 y7 y8 y9 y10 y11 y12 y13 y14 y15 y16 y17 y18 y19 y20 y21 y22 y23 y33 y34 y35 y36 y37) Q i o := by
  rintro L a W ⟨x24, x25, x26, x27, x28, x29, x30, x31, x32, rfl, h⟩
  exact hq _ _ _ _ _ _ _ _ _ _ _ h
theorem NX5L.ends {W1 : World} {N : Nat} {w w2 : World} {g B off n pc nx bef lf k : Nat} {av : Value} {B2 off2 c2 : Nat} {y0 y1 y2 y3 y4 y5 y6 y7 y8 y9 y10 y11 y12 y13 y14 y15 y16 y17 y18 y19 y20 y21 y22 y23 y33 y34 y35 y36 y37 : Value} {mm_ : Nat} {Q : Exit → Act → World → Prop} (hq : ∀ x24 x25 x26 x27 x28 x29 x30 x31 x32 (L : Nat → Bool) (W : World), (∀ j, j < mm_ → L j = true) → NX5L W1 N w w2 g B off n pc nx bef lf k av B2 off2 c2 L x24 x25 x26 x27 x28 x29 x30 x31 x32 W → Q .normal ⟨#[y0, y1, y2, y3, y4, y5, y6, y7, y8, y9, y10, y11, y12, y13, y14, y15, y16, y17, y18, y19, y20, y21, y22, y23, x24, x25, x26, x27, x28, x29, x30, x31, x32, y33, y34, y35, y36, y37], []⟩ W) : ∀ L a' w', (∀ j, j < mm_ → L j = true) → INX5L W1 N w w2 g B off n pc nx bef lf k av B2 off2 c2 y0 y1 y2 y3 y4 y5 y6 y7 y8 y9 y10 y11 y12 y13 y14 y15 y16 y17 y18 y19 y20 y21 y22 y23 y33 y34 y35 y36 y37 L a' w' → Q .normal a' w' := by
  rintro L a W hall ⟨x24, x25, x26, x27, x28, x29, x30, x31, x32, rfl, h⟩
  exact hq _ _ _ _ _ _ _ _ _ _ _ hall h
/-- What reading the next part leaves. -/
def NxP (N : Nat) (w : World) (g : Nat) (pv : Value) (bef aft hv : Nat) (R : Except (Nat × Nat) (Pt × Nat)) (e : Ending) (w' : World) : Prop :=
  match R with
  | .error (k, b) => ∃ g', e = .returned (.tuple #[.nilIface, .pointer (some ⟨g', 0, none⟩)]) ∧ Row w' g' 52 [.int .i64 (k : Int), .int .i64 (b : Int)] ∧ Below w.heap.size w w'
  | .ok (y, nx) => ∃ v, e = .returned (.tuple #[v, .pointer none]) ∧ PaV N w' y v ∧ Row w' g 75 (rdC pv nx bef (aft - (hv + y.n)) v) ∧ Grw N (some ⟨g, 0, none⟩) (some ⟨g, 0, none⟩) w w'
theorem ptR_nx {bef aft : Nat} {l : List Pt} {p : List By} {a hv : Nat} {y : Pt} {nx : Nat} (h : partR bef aft l p a hv = .ok (y, nx)) : a ≤ nx ∧ nx ≤ p.length := by
  unfold partR at h
  split at h
  · cases h
  · split at h
    · cases h
    · split at h
      · cases h
      · split at h
        · cases h
        · split at h
          · split at h
            · cases h
            · injection h with h; injection h with _ hx; subst hx; omega
          · rename_i h5
            injection h with h; injection h with _ hx; subst hx
            simp only [nxt, h5, if_false] at *
            omega
set_option maxHeartbeats 4000000 in
theorem next_any (N : Nat) (w : World) (g B off n pc a bef aft hv : Nat) (p : List By) (l : List Pt) (av : Value) (hg : N ≤ g) (hr : Row w g 75 (rdC (.slice (some ⟨B, off, none⟩) n pc) a bef (aft - hv) av)) (hp : SlB N w (some ⟨B, off, none⟩) n pc p) (hn : n ≤ 140737488351232) (ha : a ≤ n) (hah : AhV l av) (hbef : bef ≤ 524288) (haft : aft ≤ 524288) (hhv : hv ≤ aft) :
    Calls Tryd.prog 27 #[.pointer (some ⟨g, 0, none⟩)] w (NxP N w g (.slice (some ⟨B, off, none⟩) n pc) bef aft hv (partR bef aft l p a hv)) := by
  have FL := look_any N w g B off n pc a bef aft hv p l av hr hp hn ha hah hbef haft hhv
  have hlen := hp.len
  cases hR : partR bef aft l p a hv with
  | error eb =>
    obtain ⟨ke, be⟩ := eb
    rw [hR] at FL
    clear hr hp hah hR
    go_enter Tryd.func27, Tryd.ntmps27
    go_wp2_with fail
    refine FL.mono ?_
    rintro e w2 ⟨hb2, g', rfl, hw2⟩
    have H2 : Hid (NxP N w g (.slice (some ⟨B, off, none⟩) n pc) bef aft hv (.error (ke, be)) (.returned (.tuple #[.nilIface, .pointer (some ⟨g', 0, none⟩)])) w2) := ⟨g', rfl, hw2, hb2⟩
    clear hw2 hb2 FL
    dsimp only
    go_wp2
    go_ret2
    exact H2.out
  | ok yn =>
    obtain ⟨⟨ylay, yfrm, k, yb⟩, nx⟩ := yn
    have hnx := ptR_nx hR
    obtain ⟨hy1, hy2, _⟩ := partR_ok hR
    have hk1 : 1 ≤ k := hy1.pos
    have hk2 : hv + k ≤ aft := hy2
    rw [hR] at FL
    have z1 : IntKind.i64.wrap ((a : Int) + ((nx - a : Nat) : Int)) = (nx : Int) := by rw [i64_in _ (by omega) (by omega)]; omega
    obtain ⟨lf, hlf⟩ : ∃ lf, lf = aft - hv := ⟨_, rfl⟩
    have z2 : IntKind.i64.wrap ((lf : Int) - (k : Int)) = ((lf - k : Nat) : Int) := by rw [i64_in _ (by omega) (by omega)]; omega
    rw [← hlf] at hr
    have HR : Hid (Row w g 75 (rdC (.slice (some ⟨B, off, none⟩) n pc) a bef lf av) ∧ N ≤ g) := ⟨hr, hg⟩
    have HE : Hid (∀ W w2 v, PaV N w2 ⟨ylay, yfrm, k, yb⟩ v → NxW N w w2 g (.slice (some ⟨B, off, none⟩) n pc) nx bef lf k av true W → ∀ X, X = W.setCell ⟨g, 4, none⟩ v → NxP N w g (.slice (some ⟨B, off, none⟩) n pc) bef aft hv (.ok (⟨ylay, yfrm, k, yb⟩, nx)) (.returned (.tuple #[v, .pointer none])) X) := fun W w2 v hv1 hX X e => by
      subst e
      refine ⟨v, rfl, (hv1.keep hX.gr2.bel).keep ((SameBut.setCell g 4 v W).below (Below.refl _ _) hX.ng), ?_, grw_set hX.grw hX.ng 4 _⟩
      have := hX.rd.set 4 v
      have e1 : aft - (hv + k) = lf - k := by omega
      show Row _ g 75 (rdC _ nx bef (aft - (hv + k)) v)
      rw [e1]
      exact this
    clear hr hp hah hR hy1 hy2 hg hnx hk2 hlf
    go_enter Tryd.func27, Tryd.ntmps27
    go_wp2_with fail
    refine FL.mono ?_
    rintro e w2 ⟨hb2, v, rfl, hv2⟩
    have HV2 : Hid (PaV N w2 ⟨ylay, yfrm, k, yb⟩ v) := hv2
    have HX2 : Hid (Below w.heap.size w w2 ∧ Row w2 g 75 (rdC (.slice (some ⟨B, off, none⟩) n pc) a bef lf av)) := ⟨hb2, HR.out.1.below hb2 HR.out.1.lt⟩
    clear hv2 hb2 FL
    dsimp only
    have c1 := HX2.out.2.cell 1 _ rfl
    have f1 := HX2.out.2.frozen 1
    have HX4 : Hid (∀ X, X = w2.setCell ⟨g, 1, none⟩ (.int .i64 (nx : Int)) → NxW N w w2 g (.slice (some ⟨B, off, none⟩) n pc) nx bef lf k av false X) := fun X e => by
      subst e
      have hlt := HR.out.1.lt
      have h0 : Grw N (some ⟨g, 0, none⟩) (some ⟨g, 0, none⟩) w w2 := .of_below HX2.out.1 (Nat.le_trans HR.out.2 (Nat.le_of_lt hlt))
      exact ⟨grw_set h0 HR.out.2 1 _, grw_set (.refl _ _ _) HR.out.2 1 _, HX2.out.2.set 1 (.int .i64 (nx : Int)), HR.out.2, hlt⟩
    obtain ⟨w5, hw5⟩ : ∃ w5, w5 = w2.setCell ⟨g, 1, none⟩ (.int .i64 (nx : Int)) := ⟨_, rfl⟩
    have HX5 : Hid (NxW N w w2 g (.slice (some ⟨B, off, none⟩) n pc) nx bef lf k av false w5) := HX4.out _ hw5
    clear HX4
    rcases HV2.out.eq with ⟨hlay, rfl⟩ | ⟨hlay, B2, off2, c2, rfl, _⟩
    · have HE : Hid (∀ W, NxW N w w2 g (.slice (some ⟨B, off, none⟩) n pc) nx bef lf k av true W → ∀ X, X = W.setCell ⟨g, 4, none⟩ (spV yfrm k) → NxP N w g (.slice (some ⟨B, off, none⟩) n pc) bef aft hv (.ok (⟨ylay, yfrm, k, yb⟩, nx)) (.returned (.tuple #[spV yfrm k, .pointer none])) X) := fun W h1 X h2 => HE.out W w2 _ HV2.out h1 X h2
      dsimp only
      generalize (⟨ylay, yfrm, k, yb⟩ : Pt) = yy at *
      clear HV2 HR HX2 hlay
      go_upto_region 5 with fail
      rw [← hw5]
      clear hw5
      have M1 := mSize_s
      have FZ : Hid (∀ W, Calls Tryd.prog 92 #[.agg #[.int .i64 (yfrm : Int), .int .i64 (k : Int)]] W fun e w' => e = .returned (.int .i64 (k : Int)) ∧ Below W.heap.size W w') := fun W => ssize_any yfrm k W
      have HS : Hid (NxW N w w2 g (.slice (some ⟨B, off, none⟩) n pc) nx bef lf k av false w5.drew) := HX5.out.drew
      clear HX5 c1 f1
      refine wp_region_inv (INX5S w5 N w w2 g B off n pc nx bef lf k av yfrm _ _ _ _ _ _ _ _ _ _ _ _ _ _ _ _ _ _ _ _ _ _ _ _ _ _ _ _ _) (by kernel_rfl) (by kernel_rfl) ⟨_, _, _, _, _, _, _, _, _, rfl, ⟨HS.out, fun k => (by cases k), fun k => (by cases k), fun k => (by cases k), fun k => (by cases k), fun k => (by cases k), fun k => (by cases k), fun k => (by cases k), fun k => (by cases k), fun k => (by cases k), fun k => (by cases k)⟩⟩ ?_ ?_
      · refine .cons ?_ (.cons ?_ (.cons ?_ (.cons ?_ (.cons ?_ (.cons ?_ (.cons ?_ (.cons ?_ (.cons ?_ (.cons ?_ .nil)))))))))
        all_goals (refine NX5S.step ?_; intro x24 x25 x26 x27 x28 x29 x30 x31 x32 L W hI hL hd K hK)
        · rw [if_pos (by rfl)]
          go_simp
          exact hK.out _ _ ⟨_, _, _, _, _, _, _, _, _, rfl, hI.s0⟩
        · have hx0 := hI.p0 (hd 0 (by decide))
          subst hx0
          rw [if_pos (by rfl)]
          go_simp
          exact hK.out _ _ ⟨_, _, _, _, _, _, _, _, _, rfl, hI.s1⟩
        · have hx1 := hI.p1 (hd 1 (by decide))
          subst hx1
          rw [if_pos (by rfl)]
          go_simp
          exact hK.out _ _ ⟨_, _, _, _, _, _, _, _, _, rfl, hI.s2⟩
        · have hx2 := hI.p2 (hd 2 (by decide))
          subst hx2
          rw [if_pos (by rfl)]
          have hL9 : L 9 = false := ff25 hI.c9_3 hL
          have hx0 := hI.x
          rw [hL9] at hx0
          have hc := hx0.rd.cell 3 _ rfl
          go_simp
          exact hK.out _ _ ⟨_, _, _, _, _, _, _, _, _, rfl, hI.s3⟩
        · rw [if_pos (by rfl)]
          go_simp
          exact hK.out _ _ ⟨_, _, _, _, _, _, _, _, _, rfl, hI.s4⟩
        · have hx4 := hI.p4 (hd 4 (by decide))
          subst hx4
          rw [if_pos (by rfl)]
          go_simp
          refine (FZ.out W).mono ?_
          rintro e W2 ⟨rfl, hb2⟩
          go_simp
          have hX := hI.x.keep hb2
          exact hK.out _ _ ⟨_, _, _, _, _, _, _, _, _, rfl, hI.s5 hX⟩
        · have hx3 := hI.p3 (hd 3 (by decide))
          subst hx3
          have hx5 := hI.p5 (hd 5 (by decide))
          subst hx5
          rw [if_pos (by rfl)]
          have hcz := z2
          go_simp
          exact hK.out _ _ ⟨_, _, _, _, _, _, _, _, _, rfl, hI.s6⟩
        · have hx0 := hI.p0 (hd 0 (by decide))
          subst hx0
          rw [if_pos (by rfl)]
          go_simp
          exact hK.out _ _ ⟨_, _, _, _, _, _, _, _, _, rfl, hI.s7⟩
        · have hx7 := hI.p7 (hd 7 (by decide))
          subst hx7
          rw [if_pos (by rfl)]
          go_simp
          exact hK.out _ _ ⟨_, _, _, _, _, _, _, _, _, rfl, hI.s8⟩
        · have hx8 := hI.p8 (hd 8 (by decide))
          subst hx8
          have hx6 := hI.p6 (hd 6 (by decide))
          subst hx6
          rw [if_pos (by rfl)]
          have hx0 := hI.x
          rw [hL] at hx0
          have hc := hx0.rd.cell 3 _ rfl
          have fz := hx0.rd.frozen 3
          go_simp
          have hX := hx0.s9
          exact hK.out _ _ ⟨_, _, _, _, _, _, _, _, _, rfl, hI.s9 hX (hd 3 (by decide))⟩
      · refine NX5S.ends ?_; intro x24 x25 x26 x27 x28 x29 x30 x31 x32 L W hall hI
        have hx0 := hI.p0 (hall 0 (by decide))
        subst hx0
        have hx1 := hI.p1 (hall 1 (by decide))
        subst hx1
        have hx2 := hI.p2 (hall 2 (by decide))
        subst hx2
        have hx3 := hI.p3 (hall 3 (by decide))
        subst hx3
        have hx4 := hI.p4 (hall 4 (by decide))
        subst hx4
        have hx5 := hI.p5 (hall 5 (by decide))
        subst hx5
        have hx6 := hI.p6 (hall 6 (by decide))
        subst hx6
        have hx7 := hI.p7 (hall 7 (by decide))
        subst hx7
        have hx8 := hI.p8 (hall 8 (by decide))
        subst hx8
        have hXe := hI.x
        rw [hall 9 (by decide)] at hXe
        clear hI hall
        try dsimp only
        have HX6 : Hid (NxW N w w2 g (.slice (some ⟨B, off, none⟩) n pc) nx bef lf k av true W) := hXe
        clear hXe HS FZ
        have c4 := HX6.out.rd.cell 4 _ rfl
        have f4 := HX6.out.rd.frozen 4
        go_wp2
        go_ret2
        exact HE.out _ HX6.out _ rfl
    · have HE : Hid (∀ W, NxW N w w2 g (.slice (some ⟨B, off, none⟩) n pc) nx bef lf k av true W → ∀ X, X = W.setCell ⟨g, 4, none⟩ (layV (some ⟨B2, off2, none⟩) k c2) → NxP N w g (.slice (some ⟨B, off, none⟩) n pc) bef aft hv (.ok (⟨ylay, yfrm, k, yb⟩, nx)) (.returned (.tuple #[layV (some ⟨B2, off2, none⟩) k c2, .pointer none])) X) := fun W h1 X h2 => HE.out W w2 _ HV2.out h1 X h2
      dsimp only
      generalize (⟨ylay, yfrm, k, yb⟩ : Pt) = yy at *
      clear HV2 HR HX2 hlay
      go_upto_region 5 with fail
      rw [← hw5]
      clear hw5
      have M1 := mSize_l
      have FZ : Hid (∀ W, Calls Tryd.prog 88 #[.agg #[.slice (some ⟨B2, off2, none⟩) k c2]] W fun e w' => e = .returned (.int .i64 (k : Int)) ∧ Below W.heap.size W w') := fun W => lsize_any (some ⟨B2, off2, none⟩) k c2 W
      have HS : Hid (NxW N w w2 g (.slice (some ⟨B, off, none⟩) n pc) nx bef lf k av false w5.drew) := HX5.out.drew
      clear HX5 c1 f1
      refine wp_region_inv (INX5L w5 N w w2 g B off n pc nx bef lf k av B2 off2 c2 _ _ _ _ _ _ _ _ _ _ _ _ _ _ _ _ _ _ _ _ _ _ _ _ _ _ _ _ _) (by kernel_rfl) (by kernel_rfl) ⟨_, _, _, _, _, _, _, _, _, rfl, ⟨HS.out, fun k => (by cases k), fun k => (by cases k), fun k => (by cases k), fun k => (by cases k), fun k => (by cases k), fun k => (by cases k), fun k => (by cases k), fun k => (by cases k), fun k => (by cases k), fun k => (by cases k)⟩⟩ ?_ ?_
      · refine .cons ?_ (.cons ?_ (.cons ?_ (.cons ?_ (.cons ?_ (.cons ?_ (.cons ?_ (.cons ?_ (.cons ?_ (.cons ?_ .nil)))))))))
        all_goals (refine NX5L.step ?_; intro x24 x25 x26 x27 x28 x29 x30 x31 x32 L W hI hL hd K hK)
        · rw [if_pos (by rfl)]
          go_simp
          exact hK.out _ _ ⟨_, _, _, _, _, _, _, _, _, rfl, hI.s0⟩
        · have hx0 := hI.p0 (hd 0 (by decide))
          subst hx0
          rw [if_pos (by rfl)]
          go_simp
          exact hK.out _ _ ⟨_, _, _, _, _, _, _, _, _, rfl, hI.s1⟩
        · have hx1 := hI.p1 (hd 1 (by decide))
          subst hx1
          rw [if_pos (by rfl)]
          go_simp
          exact hK.out _ _ ⟨_, _, _, _, _, _, _, _, _, rfl, hI.s2⟩
        · have hx2 := hI.p2 (hd 2 (by decide))
          subst hx2
          rw [if_pos (by rfl)]
          have hL9 : L 9 = false := ff25 hI.c9_3 hL
          have hx0 := hI.x
          rw [hL9] at hx0
          have hc := hx0.rd.cell 3 _ rfl
          go_simp
          exact hK.out _ _ ⟨_, _, _, _, _, _, _, _, _, rfl, hI.s3⟩
        · rw [if_pos (by rfl)]
          go_simp
          exact hK.out _ _ ⟨_, _, _, _, _, _, _, _, _, rfl, hI.s4⟩
        · have hx4 := hI.p4 (hd 4 (by decide))
          subst hx4
          rw [if_pos (by rfl)]
          go_simp
          refine (FZ.out W).mono ?_
          rintro e W2 ⟨rfl, hb2⟩
          go_simp
          have hX := hI.x.keep hb2
          exact hK.out _ _ ⟨_, _, _, _, _, _, _, _, _, rfl, hI.s5 hX⟩
        · have hx3 := hI.p3 (hd 3 (by decide))
          subst hx3
          have hx5 := hI.p5 (hd 5 (by decide))
          subst hx5
          rw [if_pos (by rfl)]
          have hcz := z2
          go_simp
          exact hK.out _ _ ⟨_, _, _, _, _, _, _, _, _, rfl, hI.s6⟩
        · have hx0 := hI.p0 (hd 0 (by decide))
          subst hx0
          rw [if_pos (by rfl)]
          go_simp
          exact hK.out _ _ ⟨_, _, _, _, _, _, _, _, _, rfl, hI.s7⟩
        · have hx7 := hI.p7 (hd 7 (by decide))
          subst hx7
          rw [if_pos (by rfl)]
          go_simp
          exact hK.out _ _ ⟨_, _, _, _, _, _, _, _, _, rfl, hI.s8⟩
        · have hx8 := hI.p8 (hd 8 (by decide))
          subst hx8
          have hx6 := hI.p6 (hd 6 (by decide))
          subst hx6
          rw [if_pos (by rfl)]
          have hx0 := hI.x
          rw [hL] at hx0
          have hc := hx0.rd.cell 3 _ rfl
          have fz := hx0.rd.frozen 3
          go_simp
          have hX := hx0.s9
          exact hK.out _ _ ⟨_, _, _, _, _, _, _, _, _, rfl, hI.s9 hX (hd 3 (by decide))⟩
      · refine NX5L.ends ?_; intro x24 x25 x26 x27 x28 x29 x30 x31 x32 L W hall hI
        have hx0 := hI.p0 (hall 0 (by decide))
        subst hx0
        have hx1 := hI.p1 (hall 1 (by decide))
        subst hx1
        have hx2 := hI.p2 (hall 2 (by decide))
        subst hx2
        have hx3 := hI.p3 (hall 3 (by decide))
        subst hx3
        have hx4 := hI.p4 (hall 4 (by decide))
        subst hx4
        have hx5 := hI.p5 (hall 5 (by decide))
        subst hx5
        have hx6 := hI.p6 (hall 6 (by decide))
        subst hx6
        have hx7 := hI.p7 (hall 7 (by decide))
        subst hx7
        have hx8 := hI.p8 (hall 8 (by decide))
        subst hx8
        have hXe := hI.x
        rw [hall 9 (by decide)] at hXe
        clear hI hall
        try dsimp only
        have HX6 : Hid (NxW N w w2 g (.slice (some ⟨B, off, none⟩) n pc) nx bef lf k av true W) := hXe
        clear hXe HS FZ
        have c4 := HX6.out.rd.cell 4 _ rfl
        have f4 := HX6.out.rd.frozen 4
        go_wp2
        go_ret2
        exact HE.out _ HX6.out _ rfl
end Go.Proofs.YtdfbfheceobboaaDoor
