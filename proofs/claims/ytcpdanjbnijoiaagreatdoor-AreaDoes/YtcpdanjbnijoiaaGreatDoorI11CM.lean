
import Derived.Test.YtcpdanjbnijoiaaGreatDoorI11CB
/-! The code's Make. (Printed by tools/gencmake11.py.) -/
namespace Go.Proofs.YtcpdanjbnijoiaaGreatDoor
open Go.RowKit
set_option linter.unusedVariables false

/-- While Make lays bytes into its own row. -/
structure MI (W0 : World) (N g : Nat) (m : List By) (W : World) : Prop where
  bel : Below N W0 W
  le : N ≤ g
  row : Row W g 5 (m.map B8)
theorem MI.drew {W0 W : World} {N g : Nat} {m : List By} (h : MI W0 N g m W) : MI W0 N g m W.drew := ⟨h.bel.drew, h.le, h.row.drew⟩
theorem MI.but {W0 W W2 : World} {N g : Nat} {m m' : List By} (h : MI W0 N g m W) (hr : Row W2 g 5 (m'.map B8)) (hs : SameBut g W W2) : MI W0 N g m' W2 := ⟨hs.below h.bel h.le, h.le, hr⟩
theorem MI.set {W0 W : World} {N g : Nat} {m : List By} (h : MI W0 N g m W) (j : Nat) (c : By) (m' : List By) (hm : m.set j c = m') (x : Int) (hx : x = (c.toNat : Int)) : MI W0 N g m' (W.setCell ⟨g, j, none⟩ (.int .u8 x)) := by
  subst hm
  subst hx
  refine h.but ?_ (SameBut.setCell g _ _ _)
  rw [List.map_set]
  exact h.row.set j _
theorem MI.cell {W0 W : World} {N g : Nat} {m : List By} (h : MI W0 N g m W) (j : Nat) (hj : j < m.length) : W.cell? ⟨g, j, none⟩ = some (B8 m[j]) ∧ W.frozen? ⟨g, j, none⟩ = false :=
  ⟨h.row.cell j _ (by rw [List.getElem?_map, List.getElem?_eq_getElem hj]; rfl), h.row.frozen j⟩
def pk {α : Type} (b : Bool) (x y : α) : α := if b then y else x
/-- The head with no numbers yet but, by what has come up, slot and key. -/
def mk8 (n s k : Nat) (l9 l11 : Bool) : List By := [80#8, 67#8, 85#8, 76#8, 1#8, pk l9 0 (BitVec.ofNat 8 s), pk l11 0 (BitVec.ofNat 8 k), 0#8] ++ List.replicate (n + 40) 0
def hd8 (s k : Nat) : List By := [80#8, 67#8, 85#8, 76#8, 1#8, BitVec.ofNat 8 s, BitVec.ofNat 8 k, 0#8]

structure M8 (W1 : World) (W0 : World) (N g I n s k ve cap : Nat) (ao : Option Addr) (L : Nat → Bool) (x25 x26 x27 x28 x29 x30 x31 x32 x33 x34 : Value) (W : World) : Prop where
  x : MI W0 N g (mk8 n s k (L 9) (L 11)) W
  p0 : L 0 = true → x25 = .slice (some ⟨g, 0, none⟩) (n + 48) (n + 48)
  p1 : L 1 = true → x26 = .slice (some ⟨g, 0, none⟩) (n + 48) (n + 48)
  p2 : L 2 = true → x27 = .pointer (some ⟨I, 0, none⟩)
  p3 : L 3 = true → x28 = .int .i64 (s : Int)
  p4 : L 4 = true → x29 = .int .u8 (s : Int)
  p5 : L 5 = true → x30 = .pointer (some ⟨I, 1, none⟩)
  p6 : L 6 = true → x31 = .int .i64 (k : Int)
  p7 : L 7 = true → x32 = .int .u8 (k : Int)
  p8 : L 8 = true → x33 = .pointer (some ⟨g, 5, none⟩)
  p10 : L 10 = true → x34 = .pointer (some ⟨g, 6, none⟩)
section
variable {W1 : World} {W0 : World} {N g I n s k ve cap : Nat} {ao : Option Addr} {L : Nat → Bool} {x25 x26 x27 x28 x29 x30 x31 x32 x33 x34 : Value} {W W2 : World}
theorem M8.s0 (h : M8 W1 W0 N g I n s k ve cap ao L x25 x26 x27 x28 x29 x30 x31 x32 x33 x34 W) : M8 W1 W0 N g I n s k ve cap ao (upd L 0) (.slice (some ⟨g, 0, none⟩) (n + 48) (n + 48)) x26 x27 x28 x29 x30 x31 x32 x33 x34 W :=
  ⟨h.x, fun _ => rfl, h.p1, h.p2, h.p3, h.p4, h.p5, h.p6, h.p7, h.p8, h.p10⟩
theorem M8.s1 (h : M8 W1 W0 N g I n s k ve cap ao L x25 x26 x27 x28 x29 x30 x31 x32 x33 x34 W) : M8 W1 W0 N g I n s k ve cap ao (upd L 1) x25 (.slice (some ⟨g, 0, none⟩) (n + 48) (n + 48)) x27 x28 x29 x30 x31 x32 x33 x34 W :=
  ⟨h.x, h.p0, fun _ => rfl, h.p2, h.p3, h.p4, h.p5, h.p6, h.p7, h.p8, h.p10⟩
theorem M8.s2 (h : M8 W1 W0 N g I n s k ve cap ao L x25 x26 x27 x28 x29 x30 x31 x32 x33 x34 W) : M8 W1 W0 N g I n s k ve cap ao (upd L 2) x25 x26 (.pointer (some ⟨I, 0, none⟩)) x28 x29 x30 x31 x32 x33 x34 W :=
  ⟨h.x, h.p0, h.p1, fun _ => rfl, h.p3, h.p4, h.p5, h.p6, h.p7, h.p8, h.p10⟩
theorem M8.s3 (h : M8 W1 W0 N g I n s k ve cap ao L x25 x26 x27 x28 x29 x30 x31 x32 x33 x34 W) : M8 W1 W0 N g I n s k ve cap ao (upd L 3) x25 x26 x27 (.int .i64 (s : Int)) x29 x30 x31 x32 x33 x34 W :=
  ⟨h.x, h.p0, h.p1, h.p2, fun _ => rfl, h.p4, h.p5, h.p6, h.p7, h.p8, h.p10⟩
theorem M8.s4 (h : M8 W1 W0 N g I n s k ve cap ao L x25 x26 x27 x28 x29 x30 x31 x32 x33 x34 W) : M8 W1 W0 N g I n s k ve cap ao (upd L 4) x25 x26 x27 x28 (.int .u8 (s : Int)) x30 x31 x32 x33 x34 W :=
  ⟨h.x, h.p0, h.p1, h.p2, h.p3, fun _ => rfl, h.p5, h.p6, h.p7, h.p8, h.p10⟩
theorem M8.s5 (h : M8 W1 W0 N g I n s k ve cap ao L x25 x26 x27 x28 x29 x30 x31 x32 x33 x34 W) : M8 W1 W0 N g I n s k ve cap ao (upd L 5) x25 x26 x27 x28 x29 (.pointer (some ⟨I, 1, none⟩)) x31 x32 x33 x34 W :=
  ⟨h.x, h.p0, h.p1, h.p2, h.p3, h.p4, fun _ => rfl, h.p6, h.p7, h.p8, h.p10⟩
theorem M8.s6 (h : M8 W1 W0 N g I n s k ve cap ao L x25 x26 x27 x28 x29 x30 x31 x32 x33 x34 W) : M8 W1 W0 N g I n s k ve cap ao (upd L 6) x25 x26 x27 x28 x29 x30 (.int .i64 (k : Int)) x32 x33 x34 W :=
  ⟨h.x, h.p0, h.p1, h.p2, h.p3, h.p4, h.p5, fun _ => rfl, h.p7, h.p8, h.p10⟩
theorem M8.s7 (h : M8 W1 W0 N g I n s k ve cap ao L x25 x26 x27 x28 x29 x30 x31 x32 x33 x34 W) : M8 W1 W0 N g I n s k ve cap ao (upd L 7) x25 x26 x27 x28 x29 x30 x31 (.int .u8 (k : Int)) x33 x34 W :=
  ⟨h.x, h.p0, h.p1, h.p2, h.p3, h.p4, h.p5, h.p6, fun _ => rfl, h.p8, h.p10⟩
theorem M8.s8 (h : M8 W1 W0 N g I n s k ve cap ao L x25 x26 x27 x28 x29 x30 x31 x32 x33 x34 W) : M8 W1 W0 N g I n s k ve cap ao (upd L 8) x25 x26 x27 x28 x29 x30 x31 x32 (.pointer (some ⟨g, 5, none⟩)) x34 W :=
  ⟨h.x, h.p0, h.p1, h.p2, h.p3, h.p4, h.p5, h.p6, h.p7, fun _ => rfl, h.p10⟩
theorem M8.s9 (h : M8 W1 W0 N g I n s k ve cap ao L x25 x26 x27 x28 x29 x30 x31 x32 x33 x34 W) (hX : MI W0 N g (mk8 n s k ((upd L 9) 9) ((upd L 9) 11)) W2) : M8 W1 W0 N g I n s k ve cap ao (upd L 9) x25 x26 x27 x28 x29 x30 x31 x32 x33 x34 W2 :=
  ⟨hX, h.p0, h.p1, h.p2, h.p3, h.p4, h.p5, h.p6, h.p7, h.p8, h.p10⟩
theorem M8.s10 (h : M8 W1 W0 N g I n s k ve cap ao L x25 x26 x27 x28 x29 x30 x31 x32 x33 x34 W) : M8 W1 W0 N g I n s k ve cap ao (upd L 10) x25 x26 x27 x28 x29 x30 x31 x32 x33 (.pointer (some ⟨g, 6, none⟩)) W :=
  ⟨h.x, h.p0, h.p1, h.p2, h.p3, h.p4, h.p5, h.p6, h.p7, h.p8, fun _ => rfl⟩
theorem M8.s11 (h : M8 W1 W0 N g I n s k ve cap ao L x25 x26 x27 x28 x29 x30 x31 x32 x33 x34 W) (hX : MI W0 N g (mk8 n s k ((upd L 11) 9) ((upd L 11) 11)) W2) : M8 W1 W0 N g I n s k ve cap ao (upd L 11) x25 x26 x27 x28 x29 x30 x31 x32 x33 x34 W2 :=
  ⟨hX, h.p0, h.p1, h.p2, h.p3, h.p4, h.p5, h.p6, h.p7, h.p8, h.p10⟩
end
@[reducible] def IM8 (W1 : World) (W0 : World) (N g I n s k ve cap : Nat) (ao : Option Addr) (y0 y1 y2 y3 y4 y5 y6 y7 y8 y9 y10 y11 y12 y13 y14 y15 y16 y17 y18 y19 y20 y21 y22 y23 y24 y35 y36 y37 y38 y39 y40 y41 y42 y43 y44 y45 y46 y47 y48 y49 y50 y51 y52 y53 y54 y55 y56 y57 y58 y59 y60 y61 y62 y63 y64 : Value) : (Nat → Bool) → Act → World → Prop := fun L a W => ∃ x25 x26 x27 x28 x29 x30 x31 x32 x33 x34, a = ⟨#[y0, y1, y2, y3, y4, y5, y6, y7, y8, y9, y10, y11, y12, y13, y14, y15, y16, y17, y18, y19, y20, y21, y22, y23, y24, x25, x26, x27, x28, x29, x30, x31, x32, x33, x34, y35, y36, y37, y38, y39, y40, y41, y42, y43, y44, y45, y46, y47, y48, y49, y50, y51, y52, y53, y54, y55, y56, y57, y58, y59, y60, y61, y62, y63, y64], []⟩ ∧ M8 W1 W0 N g I n s k ve cap ao L x25 x26 x27 x28 x29 x30 x31 x32 x33 x34 W
theorem M8.step {W1 : World} {W0 : World} {N g I n s k ve cap : Nat} {ao : Option Addr} {y0 y1 y2 y3 y4 y5 y6 y7 y8 y9 y10 y11 y12 y13 y14 y15 y16 y17 y18 y19 y20 y21 y22 y23 y24 y35 y36 y37 y38 y39 y40 y41 y42 y43 y44 y45 y46 y47 y48 y49 y50 y51 y52 y53 y54 y55 y56 y57 y58 y59 y60 y61 y62 y63 y64 : Value} {P : Program} {ops : Array Oper} {Q : Exit → Act → World → Prop} {i : Nat} {o : Oper} (hq : ∀ x25 x26 x27 x28 x29 x30 x31 x32 x33 x34 (L : Nat → Bool) (W : World), M8 W1 W0 N g I n s k ve cap ao L x25 x26 x27 x28 x29 x30 x31 x32 x33 x34 W → L i = false → (∀ j ∈ onesOf o, L j = true) → ∀ K : Act → World → Prop, Shut (∀ a' w', IM8 W1 W0 N g I n s k ve cap ao y0 y1 y2 y3 y4 y5 y6 y7 y8 y9 y10 y11 y12 y13 y14 y15 y16 y17 y18 y19 y20 y21 y22 y23 y24 y35 y36 y37 y38 y39 y40 y41 y42 y43 y44 y45 y46 y47 y48 y49 y50 y51 y52 y53 y54 y55 y56 y57 y58 y59 y60 y61 y62 y63 y64 (upd L i) a' w' → K a' w') → if Region.wanted o (yielded ops (⟨#[y0, y1, y2, y3, y4, y5, y6, y7, y8, y9, y10, y11, y12, y13, y14, y15, y16, y17, y18, y19, y20, y21, y22, y23, y24, x25, x26, x27, x28, x29, x30, x31, x32, x33, x34, y35, y36, y37, y38, y39, y40, y41, y42, y43, y44, y45, y46, y47, y48, y49, y50, y51, y52, y53, y54, y55, y56, y57, y58, y59, y60, y61, y62, y63, y64], []⟩ : Act).tmps) = true then Oper.wp P o ⟨#[y0, y1, y2, y3, y4, y5, y6, y7, y8, y9, y10, y11, y12, y13, y14, y15, y16, y17, y18, y19, y20, y21, y22, y23, y24, x25, x26, x27, x28, x29, x30, x31, x32, x33, x34, y35, y36, y37, y38, y39, y40, y41, y42, y43, y44, y45, y46, y47, y48, y49, y50, y51, y52, y53, y54, y55, y56, y57, y58, y59, y60, y61, y62, y63, y64], []⟩ W K Q else K ((⟨#[y0, y1, y2, y3, y4, y5, y6, y7, y8, y9, y10, y11, y12, y13, y14, y15, y16, y17, y18, y19, y20, y21, y22, y23, y24, x25, x26, x27, x28, x29, x30, x31, x32, x33, x34, y35, y36, y37, y38, y39, y40, y41, y42, y43, y44, y45, y46, y47, y48, y49, y50, y51, y52, y53, y54, y55, y56, y57, y58, y59, y60, y61, y62, y63, y64], []⟩ : Act).put o.dst undef) W) : StepI P ops (IM8 W1 W0 N g I n s k ve cap ao y0 y1 y2 y3 y4 y5 y6 y7 y8 y9 y10 y11 y12 y13 y14 y15 y16 y17 y18 y19 y20 y21 y22 y23 y24 y35 y36 y37 y38 y39 y40 y41 y42 y43 y44 y45 y46 y47 y48 y49 y50 y51 y52 y53 y54 y55 y56 y57 y58 y59 y60 y61 y62 y63 y64) Q i o := by
  rintro L a W ⟨x25, x26, x27, x28, x29, x30, x31, x32, x33, x34, rfl, h⟩
  exact hq _ _ _ _ _ _ _ _ _ _ _ _ h
theorem M8.ends {W1 : World} {W0 : World} {N g I n s k ve cap : Nat} {ao : Option Addr} {y0 y1 y2 y3 y4 y5 y6 y7 y8 y9 y10 y11 y12 y13 y14 y15 y16 y17 y18 y19 y20 y21 y22 y23 y24 y35 y36 y37 y38 y39 y40 y41 y42 y43 y44 y45 y46 y47 y48 y49 y50 y51 y52 y53 y54 y55 y56 y57 y58 y59 y60 y61 y62 y63 y64 : Value} {mm_ : Nat} {Q : Exit → Act → World → Prop} (hq : ∀ x25 x26 x27 x28 x29 x30 x31 x32 x33 x34 (L : Nat → Bool) (W : World), (∀ j, j < mm_ → L j = true) → M8 W1 W0 N g I n s k ve cap ao L x25 x26 x27 x28 x29 x30 x31 x32 x33 x34 W → Q .normal ⟨#[y0, y1, y2, y3, y4, y5, y6, y7, y8, y9, y10, y11, y12, y13, y14, y15, y16, y17, y18, y19, y20, y21, y22, y23, y24, x25, x26, x27, x28, x29, x30, x31, x32, x33, x34, y35, y36, y37, y38, y39, y40, y41, y42, y43, y44, y45, y46, y47, y48, y49, y50, y51, y52, y53, y54, y55, y56, y57, y58, y59, y60, y61, y62, y63, y64], []⟩ W) : ∀ L a' w', (∀ j, j < mm_ → L j = true) → IM8 W1 W0 N g I n s k ve cap ao y0 y1 y2 y3 y4 y5 y6 y7 y8 y9 y10 y11 y12 y13 y14 y15 y16 y17 y18 y19 y20 y21 y22 y23 y24 y35 y36 y37 y38 y39 y40 y41 y42 y43 y44 y45 y46 y47 y48 y49 y50 y51 y52 y53 y54 y55 y56 y57 y58 y59 y60 y61 y62 y63 y64 L a' w' → Q .normal a' w' := by
  rintro L a W hall ⟨x25, x26, x27, x28, x29, x30, x31, x32, x33, x34, rfl, h⟩
  exact hq _ _ _ _ _ _ _ _ _ _ _ _ hall h
structure M9 (W1 : World) (W0 : World) (N g I n s k ve cap : Nat) (ao : Option Addr) (L : Nat → Bool) (x35 x36 x37 x38 x39 x40 : Value) (W : World) : Prop where
  x : MI W0 N g (pk (L 5) (hd8 s k ++ List.replicate (n + 36 + 4) 0) (hd8 s k ++ le4 ve ++ List.replicate (n + 36) 0)) W
  p0 : L 0 = true → x35 = .slice (some ⟨g, 0, none⟩) (n + 48) (n + 48)
  p1 : L 1 = true → x36 = .slice (some ⟨g, 8, none⟩) 4 (n + 48 - 8)
  p2 : L 2 = true → x37 = .pointer (some ⟨I, 2, none⟩)
  p3 : L 3 = true → x38 = .int .i64 (ve : Int)
  p4 : L 4 = true → x39 = .int .u64 (ve : Int)
section
variable {W1 : World} {W0 : World} {N g I n s k ve cap : Nat} {ao : Option Addr} {L : Nat → Bool} {x35 x36 x37 x38 x39 x40 : Value} {W W2 : World}
theorem M9.s0 (h : M9 W1 W0 N g I n s k ve cap ao L x35 x36 x37 x38 x39 x40 W) : M9 W1 W0 N g I n s k ve cap ao (upd L 0) (.slice (some ⟨g, 0, none⟩) (n + 48) (n + 48)) x36 x37 x38 x39 x40 W :=
  ⟨h.x, fun _ => rfl, h.p1, h.p2, h.p3, h.p4⟩
theorem M9.s1 (h : M9 W1 W0 N g I n s k ve cap ao L x35 x36 x37 x38 x39 x40 W) : M9 W1 W0 N g I n s k ve cap ao (upd L 1) x35 (.slice (some ⟨g, 8, none⟩) 4 (n + 48 - 8)) x37 x38 x39 x40 W :=
  ⟨h.x, h.p0, fun _ => rfl, h.p2, h.p3, h.p4⟩
theorem M9.s2 (h : M9 W1 W0 N g I n s k ve cap ao L x35 x36 x37 x38 x39 x40 W) : M9 W1 W0 N g I n s k ve cap ao (upd L 2) x35 x36 (.pointer (some ⟨I, 2, none⟩)) x38 x39 x40 W :=
  ⟨h.x, h.p0, h.p1, fun _ => rfl, h.p3, h.p4⟩
theorem M9.s3 (h : M9 W1 W0 N g I n s k ve cap ao L x35 x36 x37 x38 x39 x40 W) : M9 W1 W0 N g I n s k ve cap ao (upd L 3) x35 x36 x37 (.int .i64 (ve : Int)) x39 x40 W :=
  ⟨h.x, h.p0, h.p1, h.p2, fun _ => rfl, h.p4⟩
theorem M9.s4 (h : M9 W1 W0 N g I n s k ve cap ao L x35 x36 x37 x38 x39 x40 W) : M9 W1 W0 N g I n s k ve cap ao (upd L 4) x35 x36 x37 x38 (.int .u64 (ve : Int)) x40 W :=
  ⟨h.x, h.p0, h.p1, h.p2, h.p3, fun _ => rfl⟩
theorem M9.s5 (h : M9 W1 W0 N g I n s k ve cap ao L x35 x36 x37 x38 x39 x40 W) {v : Value} (hX : MI W0 N g (pk ((upd L 5) 5) (hd8 s k ++ List.replicate (n + 36 + 4) 0) (hd8 s k ++ le4 ve ++ List.replicate (n + 36) 0)) W2) : M9 W1 W0 N g I n s k ve cap ao (upd L 5) x35 x36 x37 x38 x39 v W2 :=
  ⟨hX, h.p0, h.p1, h.p2, h.p3, h.p4⟩
end
@[reducible] def IM9 (W1 : World) (W0 : World) (N g I n s k ve cap : Nat) (ao : Option Addr) (y0 y1 y2 y3 y4 y5 y6 y7 y8 y9 y10 y11 y12 y13 y14 y15 y16 y17 y18 y19 y20 y21 y22 y23 y24 y25 y26 y27 y28 y29 y30 y31 y32 y33 y34 y41 y42 y43 y44 y45 y46 y47 y48 y49 y50 y51 y52 y53 y54 y55 y56 y57 y58 y59 y60 y61 y62 y63 y64 : Value) : (Nat → Bool) → Act → World → Prop := fun L a W => ∃ x35 x36 x37 x38 x39 x40, a = ⟨#[y0, y1, y2, y3, y4, y5, y6, y7, y8, y9, y10, y11, y12, y13, y14, y15, y16, y17, y18, y19, y20, y21, y22, y23, y24, y25, y26, y27, y28, y29, y30, y31, y32, y33, y34, x35, x36, x37, x38, x39, x40, y41, y42, y43, y44, y45, y46, y47, y48, y49, y50, y51, y52, y53, y54, y55, y56, y57, y58, y59, y60, y61, y62, y63, y64], []⟩ ∧ M9 W1 W0 N g I n s k ve cap ao L x35 x36 x37 x38 x39 x40 W
theorem M9.step {W1 : World} {W0 : World} {N g I n s k ve cap : Nat} {ao : Option Addr} {y0 y1 y2 y3 y4 y5 y6 y7 y8 y9 y10 y11 y12 y13 y14 y15 y16 y17 y18 y19 y20 y21 y22 y23 y24 y25 y26 y27 y28 y29 y30 y31 y32 y33 y34 y41 y42 y43 y44 y45 y46 y47 y48 y49 y50 y51 y52 y53 y54 y55 y56 y57 y58 y59 y60 y61 y62 y63 y64 : Value} {P : Program} {ops : Array Oper} {Q : Exit → Act → World → Prop} {i : Nat} {o : Oper} (hq : ∀ x35 x36 x37 x38 x39 x40 (L : Nat → Bool) (W : World), M9 W1 W0 N g I n s k ve cap ao L x35 x36 x37 x38 x39 x40 W → L i = false → (∀ j ∈ onesOf o, L j = true) → ∀ K : Act → World → Prop, Shut (∀ a' w', IM9 W1 W0 N g I n s k ve cap ao y0 y1 y2 y3 y4 y5 y6 y7 y8 y9 y10 y11 y12 y13 y14 y15 y16 y17 y18 y19 y20 y21 y22 y23 y24 y25 y26 y27 y28 y29 y30 y31 y32 y33 y34 y41 y42 y43 y44 y45 y46 y47 y48 y49 y50 y51 y52 y53 y54 y55 y56 y57 y58 y59 y60 y61 y62 y63 y64 (upd L i) a' w' → K a' w') → if Region.wanted o (yielded ops (⟨#[y0, y1, y2, y3, y4, y5, y6, y7, y8, y9, y10, y11, y12, y13, y14, y15, y16, y17, y18, y19, y20, y21, y22, y23, y24, y25, y26, y27, y28, y29, y30, y31, y32, y33, y34, x35, x36, x37, x38, x39, x40, y41, y42, y43, y44, y45, y46, y47, y48, y49, y50, y51, y52, y53, y54, y55, y56, y57, y58, y59, y60, y61, y62, y63, y64], []⟩ : Act).tmps) = true then Oper.wp P o ⟨#[y0, y1, y2, y3, y4, y5, y6, y7, y8, y9, y10, y11, y12, y13, y14, y15, y16, y17, y18, y19, y20, y21, y22, y23, y24, y25, y26, y27, y28, y29, y30, y31, y32, y33, y34, x35, x36, x37, x38, x39, x40, y41, y42, y43, y44, y45, y46, y47, y48, y49, y50, y51, y52, y53, y54, y55, y56, y57, y58, y59, y60, y61, y62, y63, y64], []⟩ W K Q else K ((⟨#[y0, y1, y2, y3, y4, y5, y6, y7, y8, y9, y10, y11, y12, y13, y14, y15, y16, y17, y18, y19, y20, y21, y22, y23, y24, y25, y26, y27, y28, y29, y30, y31, y32, y33, y34, x35, x36, x37, x38, x39, x40, y41, y42, y43, y44, y45, y46, y47, y48, y49, y50, y51, y52, y53, y54, y55, y56, y57, y58, y59, y60, y61, y62, y63, y64], []⟩ : Act).put o.dst undef) W) : StepI P ops (IM9 W1 W0 N g I n s k ve cap ao y0 y1 y2 y3 y4 y5 y6 y7 y8 y9 y10 y11 y12 y13 y14 y15 y16 y17 y18 y19 y20 y21 y22 y23 y24 y25 y26 y27 y28 y29 y30 y31 y32 y33 y34 y41 y42 y43 y44 y45 y46 y47 y48 y49 y50 y51 y52 y53 y54 y55 y56 y57 y58 y59 y60 y61 y62 y63 y64) Q i o := by
  rintro L a W ⟨x35, x36, x37, x38, x39, x40, rfl, h⟩
  exact hq _ _ _ _ _ _ _ _ h
theorem M9.ends {W1 : World} {W0 : World} {N g I n s k ve cap : Nat} {ao : Option Addr} {y0 y1 y2 y3 y4 y5 y6 y7 y8 y9 y10 y11 y12 y13 y14 y15 y16 y17 y18 y19 y20 y21 y22 y23 y24 y25 y26 y27 y28 y29 y30 y31 y32 y33 y34 y41 y42 y43 y44 y45 y46 y47 y48 y49 y50 y51 y52 y53 y54 y55 y56 y57 y58 y59 y60 y61 y62 y63 y64 : Value} {mm_ : Nat} {Q : Exit → Act → World → Prop} (hq : ∀ x35 x36 x37 x38 x39 x40 (L : Nat → Bool) (W : World), (∀ j, j < mm_ → L j = true) → M9 W1 W0 N g I n s k ve cap ao L x35 x36 x37 x38 x39 x40 W → Q .normal ⟨#[y0, y1, y2, y3, y4, y5, y6, y7, y8, y9, y10, y11, y12, y13, y14, y15, y16, y17, y18, y19, y20, y21, y22, y23, y24, y25, y26, y27, y28, y29, y30, y31, y32, y33, y34, x35, x36, x37, x38, x39, x40, y41, y42, y43, y44, y45, y46, y47, y48, y49, y50, y51, y52, y53, y54, y55, y56, y57, y58, y59, y60, y61, y62, y63, y64], []⟩ W) : ∀ L a' w', (∀ j, j < mm_ → L j = true) → IM9 W1 W0 N g I n s k ve cap ao y0 y1 y2 y3 y4 y5 y6 y7 y8 y9 y10 y11 y12 y13 y14 y15 y16 y17 y18 y19 y20 y21 y22 y23 y24 y25 y26 y27 y28 y29 y30 y31 y32 y33 y34 y41 y42 y43 y44 y45 y46 y47 y48 y49 y50 y51 y52 y53 y54 y55 y56 y57 y58 y59 y60 y61 y62 y63 y64 L a' w' → Q .normal a' w' := by
  rintro L a W hall ⟨x35, x36, x37, x38, x39, x40, rfl, h⟩
  exact hq _ _ _ _ _ _ _ _ hall h
structure M10 (W1 : World) (W0 : World) (N g I n s k ve cap : Nat) (ao : Option Addr) (L : Nat → Bool) (x41 x42 x43 x44 x45 x46 x47 : Value) (W : World) : Prop where
  x : MI W0 N g (pk (L 6) (hd8 s k ++ le4 ve ++ List.replicate (n + 32 + 4) 0) (hd8 s k ++ le4 ve ++ le4 n ++ List.replicate (n + 32) 0)) W
  p0 : L 0 = true → x41 = .slice (some ⟨g, 0, none⟩) (n + 48) (n + 48)
  p1 : L 1 = true → x42 = .slice (some ⟨g, 12, none⟩) 4 (n + 48 - 12)
  p2 : L 2 = true → x43 = .pointer (some ⟨I, 3, none⟩)
  p3 : L 3 = true → x44 = .slice ao n cap
  p4 : L 4 = true → x45 = .int .i64 (n : Int)
  p5 : L 5 = true → x46 = .int .u64 (n : Int)
section
variable {W1 : World} {W0 : World} {N g I n s k ve cap : Nat} {ao : Option Addr} {L : Nat → Bool} {x41 x42 x43 x44 x45 x46 x47 : Value} {W W2 : World}
theorem M10.s0 (h : M10 W1 W0 N g I n s k ve cap ao L x41 x42 x43 x44 x45 x46 x47 W) : M10 W1 W0 N g I n s k ve cap ao (upd L 0) (.slice (some ⟨g, 0, none⟩) (n + 48) (n + 48)) x42 x43 x44 x45 x46 x47 W :=
  ⟨h.x, fun _ => rfl, h.p1, h.p2, h.p3, h.p4, h.p5⟩
theorem M10.s1 (h : M10 W1 W0 N g I n s k ve cap ao L x41 x42 x43 x44 x45 x46 x47 W) : M10 W1 W0 N g I n s k ve cap ao (upd L 1) x41 (.slice (some ⟨g, 12, none⟩) 4 (n + 48 - 12)) x43 x44 x45 x46 x47 W :=
  ⟨h.x, h.p0, fun _ => rfl, h.p2, h.p3, h.p4, h.p5⟩
theorem M10.s2 (h : M10 W1 W0 N g I n s k ve cap ao L x41 x42 x43 x44 x45 x46 x47 W) : M10 W1 W0 N g I n s k ve cap ao (upd L 2) x41 x42 (.pointer (some ⟨I, 3, none⟩)) x44 x45 x46 x47 W :=
  ⟨h.x, h.p0, h.p1, fun _ => rfl, h.p3, h.p4, h.p5⟩
theorem M10.s3 (h : M10 W1 W0 N g I n s k ve cap ao L x41 x42 x43 x44 x45 x46 x47 W) : M10 W1 W0 N g I n s k ve cap ao (upd L 3) x41 x42 x43 (.slice ao n cap) x45 x46 x47 W :=
  ⟨h.x, h.p0, h.p1, h.p2, fun _ => rfl, h.p4, h.p5⟩
theorem M10.s4 (h : M10 W1 W0 N g I n s k ve cap ao L x41 x42 x43 x44 x45 x46 x47 W) : M10 W1 W0 N g I n s k ve cap ao (upd L 4) x41 x42 x43 x44 (.int .i64 (n : Int)) x46 x47 W :=
  ⟨h.x, h.p0, h.p1, h.p2, h.p3, fun _ => rfl, h.p5⟩
theorem M10.s5 (h : M10 W1 W0 N g I n s k ve cap ao L x41 x42 x43 x44 x45 x46 x47 W) : M10 W1 W0 N g I n s k ve cap ao (upd L 5) x41 x42 x43 x44 x45 (.int .u64 (n : Int)) x47 W :=
  ⟨h.x, h.p0, h.p1, h.p2, h.p3, h.p4, fun _ => rfl⟩
theorem M10.s6 (h : M10 W1 W0 N g I n s k ve cap ao L x41 x42 x43 x44 x45 x46 x47 W) {v : Value} (hX : MI W0 N g (pk ((upd L 6) 6) (hd8 s k ++ le4 ve ++ List.replicate (n + 32 + 4) 0) (hd8 s k ++ le4 ve ++ le4 n ++ List.replicate (n + 32) 0)) W2) : M10 W1 W0 N g I n s k ve cap ao (upd L 6) x41 x42 x43 x44 x45 x46 v W2 :=
  ⟨hX, h.p0, h.p1, h.p2, h.p3, h.p4, h.p5⟩
end
@[reducible] def IM10 (W1 : World) (W0 : World) (N g I n s k ve cap : Nat) (ao : Option Addr) (y0 y1 y2 y3 y4 y5 y6 y7 y8 y9 y10 y11 y12 y13 y14 y15 y16 y17 y18 y19 y20 y21 y22 y23 y24 y25 y26 y27 y28 y29 y30 y31 y32 y33 y34 y35 y36 y37 y38 y39 y40 y48 y49 y50 y51 y52 y53 y54 y55 y56 y57 y58 y59 y60 y61 y62 y63 y64 : Value) : (Nat → Bool) → Act → World → Prop := fun L a W => ∃ x41 x42 x43 x44 x45 x46 x47, a = ⟨#[y0, y1, y2, y3, y4, y5, y6, y7, y8, y9, y10, y11, y12, y13, y14, y15, y16, y17, y18, y19, y20, y21, y22, y23, y24, y25, y26, y27, y28, y29, y30, y31, y32, y33, y34, y35, y36, y37, y38, y39, y40, x41, x42, x43, x44, x45, x46, x47, y48, y49, y50, y51, y52, y53, y54, y55, y56, y57, y58, y59, y60, y61, y62, y63, y64], []⟩ ∧ M10 W1 W0 N g I n s k ve cap ao L x41 x42 x43 x44 x45 x46 x47 W
theorem M10.step {W1 : World} {W0 : World} {N g I n s k ve cap : Nat} {ao : Option Addr} {y0 y1 y2 y3 y4 y5 y6 y7 y8 y9 y10 y11 y12 y13 y14 y15 y16 y17 y18 y19 y20 y21 y22 y23 y24 y25 y26 y27 y28 y29 y30 y31 y32 y33 y34 y35 y36 y37 y38 y39 y40 y48 y49 y50 y51 y52 y53 y54 y55 y56 y57 y58 y59 y60 y61 y62 y63 y64 : Value} {P : Program} {ops : Array Oper} {Q : Exit → Act → World → Prop} {i : Nat} {o : Oper} (hq : ∀ x41 x42 x43 x44 x45 x46 x47 (L : Nat → Bool) (W : World), M10 W1 W0 N g I n s k ve cap ao L x41 x42 x43 x44 x45 x46 x47 W → L i = false → (∀ j ∈ onesOf o, L j = true) → ∀ K : Act → World → Prop, Shut (∀ a' w', IM10 W1 W0 N g I n s k ve cap ao y0 y1 y2 y3 y4 y5 y6 y7 y8 y9 y10 y11 y12 y13 y14 y15 y16 y17 y18 y19 y20 y21 y22 y23 y24 y25 y26 y27 y28 y29 y30 y31 y32 y33 y34 y35 y36 y37 y38 y39 y40 y48 y49 y50 y51 y52 y53 y54 y55 y56 y57 y58 y59 y60 y61 y62 y63 y64 (upd L i) a' w' → K a' w') → if Region.wanted o (yielded ops (⟨#[y0, y1, y2, y3, y4, y5, y6, y7, y8, y9, y10, y11, y12, y13, y14, y15, y16, y17, y18, y19, y20, y21, y22, y23, y24, y25, y26, y27, y28, y29, y30, y31, y32, y33, y34, y35, y36, y37, y38, y39, y40, x41, x42, x43, x44, x45, x46, x47, y48, y49, y50, y51, y52, y53, y54, y55, y56, y57, y58, y59, y60, y61, y62, y63, y64], []⟩ : Act).tmps) = true then Oper.wp P o ⟨#[y0, y1, y2, y3, y4, y5, y6, y7, y8, y9, y10, y11, y12, y13, y14, y15, y16, y17, y18, y19, y20, y21, y22, y23, y24, y25, y26, y27, y28, y29, y30, y31, y32, y33, y34, y35, y36, y37, y38, y39, y40, x41, x42, x43, x44, x45, x46, x47, y48, y49, y50, y51, y52, y53, y54, y55, y56, y57, y58, y59, y60, y61, y62, y63, y64], []⟩ W K Q else K ((⟨#[y0, y1, y2, y3, y4, y5, y6, y7, y8, y9, y10, y11, y12, y13, y14, y15, y16, y17, y18, y19, y20, y21, y22, y23, y24, y25, y26, y27, y28, y29, y30, y31, y32, y33, y34, y35, y36, y37, y38, y39, y40, x41, x42, x43, x44, x45, x46, x47, y48, y49, y50, y51, y52, y53, y54, y55, y56, y57, y58, y59, y60, y61, y62, y63, y64], []⟩ : Act).put o.dst undef) W) : StepI P ops (IM10 W1 W0 N g I n s k ve cap ao y0 y1 y2 y3 y4 y5 y6 y7 y8 y9 y10 y11 y12 y13 y14 y15 y16 y17 y18 y19 y20 y21 y22 y23 y24 y25 y26 y27 y28 y29 y30 y31 y32 y33 y34 y35 y36 y37 y38 y39 y40 y48 y49 y50 y51 y52 y53 y54 y55 y56 y57 y58 y59 y60 y61 y62 y63 y64) Q i o := by
  rintro L a W ⟨x41, x42, x43, x44, x45, x46, x47, rfl, h⟩
  exact hq _ _ _ _ _ _ _ _ _ h
theorem M10.ends {W1 : World} {W0 : World} {N g I n s k ve cap : Nat} {ao : Option Addr} {y0 y1 y2 y3 y4 y5 y6 y7 y8 y9 y10 y11 y12 y13 y14 y15 y16 y17 y18 y19 y20 y21 y22 y23 y24 y25 y26 y27 y28 y29 y30 y31 y32 y33 y34 y35 y36 y37 y38 y39 y40 y48 y49 y50 y51 y52 y53 y54 y55 y56 y57 y58 y59 y60 y61 y62 y63 y64 : Value} {mm_ : Nat} {Q : Exit → Act → World → Prop} (hq : ∀ x41 x42 x43 x44 x45 x46 x47 (L : Nat → Bool) (W : World), (∀ j, j < mm_ → L j = true) → M10 W1 W0 N g I n s k ve cap ao L x41 x42 x43 x44 x45 x46 x47 W → Q .normal ⟨#[y0, y1, y2, y3, y4, y5, y6, y7, y8, y9, y10, y11, y12, y13, y14, y15, y16, y17, y18, y19, y20, y21, y22, y23, y24, y25, y26, y27, y28, y29, y30, y31, y32, y33, y34, y35, y36, y37, y38, y39, y40, x41, x42, x43, x44, x45, x46, x47, y48, y49, y50, y51, y52, y53, y54, y55, y56, y57, y58, y59, y60, y61, y62, y63, y64], []⟩ W) : ∀ L a' w', (∀ j, j < mm_ → L j = true) → IM10 W1 W0 N g I n s k ve cap ao y0 y1 y2 y3 y4 y5 y6 y7 y8 y9 y10 y11 y12 y13 y14 y15 y16 y17 y18 y19 y20 y21 y22 y23 y24 y25 y26 y27 y28 y29 y30 y31 y32 y33 y34 y35 y36 y37 y38 y39 y40 y48 y49 y50 y51 y52 y53 y54 y55 y56 y57 y58 y59 y60 y61 y62 y63 y64 L a' w' → Q .normal a' w' := by
  rintro L a W hall ⟨x41, x42, x43, x44, x45, x46, x47, rfl, h⟩
  exact hq _ _ _ _ _ _ _ _ _ hall h
end Go.Proofs.YtcpdanjbnijoiaaGreatDoor
