
import Derived.Test.YtnpbgfnahkmhoaaDoorI11CB
/-! The code's Make. (Printed by tools/gencmake11.py.) -/
namespace Go.Proofs.YtnpbgfnahkmhoaaDoor
open Go.RowKit
set_option linter.unusedVariables false

set_option maxHeartbeats 2000000 in
set_option maxRecDepth 100000 in
theorem cmake_bad (so : Option Addr) (sn sc : Nat) (sec : List By) (hsec : sec.length = sn) (s k v : Int) (ao : Option Addr) (n cap : Nat) (p t : List By) (hp : p.length = n) (ht : t.length = 32) (w : World)
    (hsb : IsB w so sec) (hsn : so = none → sc = 0) (hsc : sn ≤ sc) (hsl : sn ≤ 140737488351232) (hb : IsB w ao p) (hnil : ao = none → cap = 0) (hcap : n ≤ cap) (hl : n ≤ 140737488351232) (E : Int) (hm : may s k v n = E) (hE : ¬ E = 0) :
    Calls Tryd.prog 10 #[.slice so sn sc, .agg (imgC s k v (.slice ao n cap) t).toArray] w fun e w' => ∃ ao' c', e = .returned (.tuple #[.slice ao' 0 c', .int .i64 E]) ∧ Own w.heap.size w' (.slice ao' 0 c') [] ∧ Below w.heap.size w w' := by
  have key : (¬ (0 ≤ s ∧ s < 8 ∧ 0 ≤ k ∧ k < 64 ∧ 0 ≤ v ∧ v ≤ 4294967295) ∧ E = 2) ∨ ((0 ≤ s ∧ s < 8 ∧ 0 ≤ k ∧ k < 64 ∧ 0 ≤ v ∧ v ≤ 4294967295) ∧ (524240 : Int) < (n : Int) ∧ E = 4) := by
    unfold may at hm
    split at hm
    · omega
    · split at hm <;> omega
  have r0 := Row.at w 27 (imgC s k v (.slice ao n cap) t) _ _ rfl rfl
  have hil := imgC_len s k v (.slice ao n cap) t ht
  have b1 : Below w.heap.size w (w.alloc (.cells (imgC s k v (.slice ao n cap) t).toArray 27)) := (Below.refl _ _).alloc (Nat.le_refl _) _
  have hz : (w.alloc (.cells (imgC s k v (.slice ao n cap) t).toArray 27)).heap.size = w.heap.size + 1 := by simp
  have HC3 : Hid (∀ W, Below (w.heap.size + 1) (w.alloc (.cells (imgC s k v (.slice ao n cap) t).toArray 27)) W → W.cell? ⟨w.heap.size, 3, none⟩ = some (.slice ao n cap)) := fun W h => (r0.below h (by omega)).cell 3 _ rfl
  clear hm hE hb hsb hp ht hsec hsn hnil hl hsl hsc hcap
  rcases key with ⟨hno, rfl⟩ | ⟨⟨h1, h2, h3, h4, h5, h6⟩, h7, rfl⟩
  · have MN : Hid (∀ W, Calls Tryd.prog 24 #[.agg (imgC s k v (.slice ao n cap) t).toArray] W fun e w' => e = .returned (.bool false) ∧ Below W.heap.size W w') := fun W => may_no s k v _ t W hno
    generalize hi : imgC s k v (.slice ao n cap) t = IM at *
    clear hi hno HC3
    go_enter Tryd.func10, Tryd.ntmps10
    go_wp2_with (refine wpList_load_Row rfl 27 _ rfl _ _ IM r0 rfl _ Tryd.underlying27 rfl (by rw [hil]; kernel_rfl) ?_)
    refine (MN.out _).mono ?_
    rintro e w1 ⟨rfl, hb1⟩
    dsimp only
    rw [hz] at hb1
    go_wp2
    go_ret2
    have := hb1.size
    exact ⟨none, 0, rfl, own_nil _ _ (by omega), b1.trans (hb1.mono (by omega))⟩
  · have MY : Hid (∀ W, Calls Tryd.prog 24 #[.agg (imgC s k v (.slice ao n cap) t).toArray] W fun e w' => e = .returned (.bool true) ∧ Below W.heap.size W w') := fun W => may_yes s k v _ t W h1 h2 h3 h4 h5 h6
    generalize hi : imgC s k v (.slice ao n cap) t = IM at *
    clear hi h1 h2 h3 h4 h5 h6
    go_enter Tryd.func10, Tryd.ntmps10
    go_wp2_with (refine wpList_load_Row rfl 27 _ rfl _ _ IM r0 rfl _ Tryd.underlying27 rfl (by rw [hil]; kernel_rfl) ?_)
    refine (MY.out _).mono ?_
    rintro e w1 ⟨rfl, hb1⟩
    dsimp only
    rw [hz] at hb1
    have c3 := HC3.out _ hb1
    go_wp2
    go_ret2
    have := hb1.size
    exact ⟨none, 0, rfl, own_nil _ _ (by omega), b1.trans (hb1.mono (by omega))⟩

/-- While Make lays bytes into its own row. -/
structure MI (W0 : World) (N g : Nat) (m : List By) (W : World) : Prop where
  bel : Below N W0 W
  le : N ≤ g
  row : Row W g 5 (m.map B8)
theorem MI.drew {W0 W : World} {N g : Nat} {m : List By} (h : MI W0 N g m W) : MI W0 N g m W.drew := ⟨h.bel.drew, h.le, h.row.drew⟩
theorem MI.but {W0 W W2 : World} {N g : Nat} {m m' : List By} (h : MI W0 N g m W) (hr : Row W2 g 5 (m'.map B8)) (hs : SameBut g W W2) : MI W0 N g m' W2 := ⟨hs.below h.bel h.le, h.le, hr⟩
theorem MI.set {W0 W : World} {N g : Nat} {m : List By} (h : MI W0 N g m W) (j : Nat) (c : By) (m' : List By) (hm : m.set j c = m') (x : Int) (hx : x = (c.toNat : Int)) : MI W0 N g m' (W.setCell ⟨g, j, none⟩ (.int .u8 x)) := by
  subst hm
  subst hx
  refine h.but ?_ (SameBut.setCell g _ _ _)
  rw [List.map_set]
  exact h.row.set j _
theorem MI.cell {W0 W : World} {N g : Nat} {m : List By} (h : MI W0 N g m W) (j : Nat) (hj : j < m.length) : W.cell? ⟨g, j, none⟩ = some (B8 m[j]) ∧ W.frozen? ⟨g, j, none⟩ = false :=
  ⟨h.row.cell j _ (by rw [List.getElem?_map, List.getElem?_eq_getElem hj]; rfl), h.row.frozen j⟩
def pk {α : Type} (b : Bool) (x y : α) : α := if b then y else x
/-- The head with no numbers yet but, by what has come up, slot and key. -/
def mk8 (n s k : Nat) (l9 l11 : Bool) : List By := [80#8, 67#8, 85#8, 76#8, 1#8, pk l9 0 (BitVec.ofNat 8 s), pk l11 0 (BitVec.ofNat 8 k), 0#8] ++ List.replicate (n + 40) 0
def hd8 (s k : Nat) : List By := [80#8, 67#8, 85#8, 76#8, 1#8, BitVec.ofNat 8 s, BitVec.ofNat 8 k, 0#8]

structure M8 (W1 : World) (W0 : World) (N g I n s k ve cap : Nat) (ao : Option Addr) (L : Nat → Bool) (x25 x26 x27 x28 x29 x30 x31 x32 x33 x34 : Value) (W : World) : Prop where
  x : MI W0 N g (mk8 n s k (L 9) (L 11)) W
  p0 : L 0 = true → x25 = .slice (some ⟨g, 0, none⟩) (n + 48) (n + 48)
  p1 : L 1 = true → x26 = .slice (some ⟨g, 0, none⟩) (n + 48) (n + 48)
  p2 : L 2 = true → x27 = .pointer (some ⟨I, 0, none⟩)
  p3 : L 3 = true → x28 = .int .i64 (s : Int)
  p4 : L 4 = true → x29 = .int .u8 (s : Int)
  p5 : L 5 = true → x30 = .pointer (some ⟨I, 1, none⟩)
  p6 : L 6 = true → x31 = .int .i64 (k : Int)
  p7 : L 7 = true → x32 = .int .u8 (k : Int)
  p8 : L 8 = true → x33 = .pointer (some ⟨g, 5, none⟩)
  p10 : L 10 = true → x34 = .pointer (some ⟨g, 6, none⟩)
section
variable {W1 : World} {W0 : World} {N g I n s k ve cap : Nat} {ao : Option Addr} {L : Nat → Bool} {x25 x26 x27 x28 x29 x30 x31 x32 x33 x34 : Value} {W W2 : World}
theorem M8.s0 (h : M8 W1 W0 N g I n s k ve cap ao L x25 x26 x27 x28 x29 x30 x31 x32 x33 x34 W) : M8 W1 W0 N g I n s k ve cap ao (upd L 0) (.slice (some ⟨g, 0, none⟩) (n + 48) (n + 48)) x26 x27 x28 x29 x30 x31 x32 x33 x34 W :=
  ⟨h.x, fun _ => rfl, h.p1, h.p2, h.p3, h.p4, h.p5, h.p6, h.p7, h.p8, h.p10⟩
theorem M8.s1 (h : M8 W1 W0 N g I n s k ve cap ao L x25 x26 x27 x28 x29 x30 x31 x32 x33 x34 W) : M8 W1 W0 N g I n s k ve cap ao (upd L 1) x25 (.slice (some ⟨g, 0, none⟩) (n + 48) (n + 48)) x27 x28 x29 x30 x31 x32 x33 x34 W :=
  ⟨h.x, h.p0, fun _ => rfl, h.p2, h.p3, h.p4, h.p5, h.p6, h.p7, h.p8, h.p10⟩
theorem M8.s2 (h : M8 W1 W0 N g I n s k ve cap ao L x25 x26 x27 x28 x29 x30 x31 x32 x33 x34 W) : M8 W1 W0 N g I n s k ve cap ao (upd L 2) x25 x26 (.pointer (some ⟨I, 0, none⟩)) x28 x29 x30 x31 x32 x33 x34 W :=
  ⟨h.x, h.p0, h.p1, fun _ => rfl, h.p3, h.p4, h.p5, h.p6, h.p7, h.p8, h.p10⟩
theorem M8.s3 (h : M8 W1 W0 N g I n s k ve cap ao L x25 x26 x27 x28 x29 x30 x31 x32 x33 x34 W) : M8 W1 W0 N g I n s k ve cap ao (upd L 3) x25 x26 x27 (.int .i64 (s : Int)) x29 x30 x31 x32 x33 x34 W :=
  ⟨h.x, h.p0, h.p1, h.p2, fun _ => rfl, h.p4, h.p5, h.p6, h.p7, h.p8, h.p10⟩
theorem M8.s4 (h : M8 W1 W0 N g I n s k ve cap ao L x25 x26 x27 x28 x29 x30 x31 x32 x33 x34 W) : M8 W1 W0 N g I n s k ve cap ao (upd L 4) x25 x26 x27 x28 (.int .u8 (s : Int)) x30 x31 x32 x33 x34 W :=
  ⟨h.x, h.p0, h.p1, h.p2, h.p3, fun _ => rfl, h.p5, h.p6, h.p7, h.p8, h.p10⟩
theorem M8.s5 (h : M8 W1 W0 N g I n s k ve cap ao L x25 x26 x27 x28 x29 x30 x31 x32 x33 x34 W) : M8 W1 W0 N g I n s k ve cap ao (upd L 5) x25 x26 x27 x28 x29 (.pointer (some ⟨I, 1, none⟩)) x31 x32 x33 x34 W :=
  ⟨h.x, h.p0, h.p1, h.p2, h.p3, h.p4, fun _ => rfl, h.p6, h.p7, h.p8, h.p10⟩
theorem M8.s6 (h : M8 W1 W0 N g I n s k ve cap ao L x25 x26 x27 x28 x29 x30 x31 x32 x33 x34 W) : M8 W1 W0 N g I n s k ve cap ao (upd L 6) x25 x26 x27 x28 x29 x30 (.int .i64 (k : Int)) x32 x33 x34 W :=
  ⟨h.x, h.p0, h.p1, h.p2, h.p3, h.p4, h.p5, fun _ => rfl, h.p7, h.p8, h.p10⟩
theorem M8.s7 (h : M8 W1 W0 N g I n s k ve cap ao L x25 x26 x27 x28 x29 x30 x31 x32 x33 x34 W) : M8 W1 W0 N g I n s k ve cap ao (upd L 7) x25 x26 x27 x28 x29 x30 x31 (.int .u8 (k : Int)) x33 x34 W :=
  ⟨h.x, h.p0, h.p1, h.p2, h.p3, h.p4, h.p5, h.p6, fun _ => rfl, h.p8, h.p10⟩
theorem M8.s8 (h : M8 W1 W0 N g I n s k ve cap ao L x25 x26 x27 x28 x29 x30 x31 x32 x33 x34 W) : M8 W1 W0 N g I n s k ve cap ao (upd L 8) x25 x26 x27 x28 x29 x30 x31 x32 (.pointer (some ⟨g, 5, none⟩)) x34 W :=
  ⟨h.x, h.p0, h.p1, h.p2, h.p3, h.p4, h.p5, h.p6, h.p7, fun _ => rfl, h.p10⟩
theorem M8.s9 (h : M8 W1 W0 N g I n s k ve cap ao L x25 x26 x27 x28 x29 x30 x31 x32 x33 x34 W) (hX : MI W0 N g (mk8 n s k ((upd L 9) 9) ((upd L 9) 11)) W2) : M8 W1 W0 N g I n s k ve cap ao (upd L 9) x25 x26 x27 x28 x29 x30 x31 x32 x33 x34 W2 :=
  ⟨hX, h.p0, h.p1, h.p2, h.p3, h.p4, h.p5, h.p6, h.p7, h.p8, h.p10⟩
theorem M8.s10 (h : M8 W1 W0 N g I n s k ve cap ao L x25 x26 x27 x28 x29 x30 x31 x32 x33 x34 W) : M8 W1 W0 N g I n s k ve cap ao (upd L 10) x25 x26 x27 x28 x29 x30 x31 x32 x33 (.pointer (some ⟨g, 6, none⟩)) W :=
  ⟨h.x, h.p0, h.p1, h.p2, h.p3, h.p4, h.p5, h.p6, h.p7, h.p8, fun _ => rfl⟩
theorem M8.s11 (h : M8 W1 W0 N g I n s k ve cap ao L x25 x26 x27 x28 x29 x30 x31 x32 x33 x34 W) (hX : MI W0 N g (mk8 n s k ((upd L 11) 9) ((upd L 11) 11)) W2) : M8 W1 W0 N g I n s k ve cap ao (upd L 11) x25 x26 x27 x28 x29 x30 x31 x32 x33 x34 W2 :=
  ⟨hX, h.p0, h.p1, h.p2, h.p3, h.p4, h.p5, h.p6, h.p7, h.p8, h.p10⟩
end
@[reducible] def IM8 (W1 : World) (W0 : World) (N g I n s k ve cap : Nat) (ao : Option Addr) (y0 y1 y2 y3 y4 y5 y6 y7 y8 y9 y10 y11 y12 y13 y14 y15 y16 y17 y18 y19 y20 y21 y22 y23 y24 y35 y36 y37 y38 y39 y40 y41 y42 y43 y44 y45 y46 y47 y48 y49 y50 y51 y52 y53 y54 y55 y56 y57 y58 y59 y60 y61 y62 y63 y64 : Value) : (Nat → Bool) → Act → World → Prop := fun L a W => ∃ x25 x26 x27 x28 x29 x30 x31 x32 x33 x34, a = ⟨#[y0, y1, y2, y3, y4, y5, y6, y7, y8, y9, y10, y11, y12, y13, y14, y15, y16, y17, y18, y19, y20, y21, y22, y23, y24, x25, x26, x27, x28, x29, x30, x31, x32, x33, x34, y35, y36, y37, y38, y39, y40, y41, y42, y43, y44, y45, y46, y47, y48, y49, y50, y51, y52, y53, y54, y55, y56, y57, y58, y59, y60, y61, y62, y63, y64], []⟩ ∧ M8 W1 W0 N g I n s k ve cap ao L x25 x26 x27 x28 x29 x30 x31 x32 x33 x34 W
theorem M8.step {W1 : World} {W0 : World} {N g I n s k ve cap : Nat} {ao : Option Addr} {y0 y1 y2 y3 y4 y5 y6 y7 y8 y9 y10 y11 y12 y13 y14 y15 y16 y17 y18 y19 y20 y21 y22 y23 y24 y35 y36 y37 y38 y39 y40 y41 y42 y43 y44 y45 y46 y47 y48 y49 y50 y51 y52 y53 y54 y55 y56 y57 y58 y59 y60 y61 y62 y63 y64 : Value} {P : Program} {ops : Array Oper} {Q : Exit → Act → World → Prop} {i : Nat} {o : Oper} (hq : ∀ x25 x26 x27 x28 x29 x30 x31 x32 x33 x34 (L : Nat → Bool) (W : World), M8 W1 W0 N g I n s k ve cap ao L x25 x26 x27 x28 x29 x30 x31 x32 x33 x34 W → L i = false → (∀ j ∈ onesOf o, L j = true) → ∀ K : Act → World → Prop, Shut (∀ a' w', IM8 W1 W0 N g I n s k ve cap ao y0 y1 y2 y3 y4 y5 y6 y7 y8 y9 y10 y11 y12 y13 y14 y15 y16 y17 y18 y19 y20 y21 y22 y23 y24 y35 y36 y37 y38 y39 y40 y41 y42 y43 y44 y45 y46 y47 y48 y49 y50 y51 y52 y53 y54 y55 y56 y57 y58 y59 y60 y61 y62 y63 y64 (upd L i) a' w' → K a' w') → if Region.wanted o (yielded ops (⟨#[y0, y1, y2, y3, y4, y5, y6, y7, y8, y9, y10, y11, y12, y13, y14, y15, y16, y17, y18, y19, y20, y21, y22, y23, y24, x25, x26, x27, x28, x29, x30, x31, x32, x33, x34, y35, y36, y37, y38, y39, y40, y41, y42, y43, y44, y45, y46, y47, y48, y49, y50, y51, y52, y53, y54, y55, y56, y57, y58, y59, y60, y61, y62, y63, y64], []⟩ : Act).tmps) = true then Oper.wp P o ⟨#[y0, y1, y2, y3, y4, y5, y6, y7, y8, y9, y10, y11, y12, y13, y14, y15, y16, y17, y18, y19, y20, y21, y22, y23, y24, x25, x26, x27, x28, x29, x30, x31, x32, x33, x34, y35, y36, y37, y38, y39, y40, y41, y42, y43, y44, y45, y46, y47, y48, y49, y50, y51, y52, y53, y54, y55, y56, y57, y58, y59, y60, y61, y62, y63, y64], []⟩ W K Q else K ((⟨#[y0, y1, y2, y3, y4, y5, y6, y7, y8, y9, y10, y11, y12, y13, y14, y15, y16, y17, y18, y19, y20, y21, y22, y23, y24, x25, x26, x27, x28, x29, x30, x31, x32, x33, x34, y35, y36, y37, y38, y39, y40, y41, y42, y43, y44, y45, y46, y47, y48, y49, y50, y51, y52, y53, y54, y55, y56, y57, y58, y59, y60, y61, y62, y63, y64], []⟩ : Act).put o.dst undef) W) : StepI P ops (IM8 W1 W0 N g I n s k ve cap ao y0 y1 y2 y3 y4 y5 y6 y7 y8 y9 y10 y11 y12 y13 y14 y15 y16 y17 y18 y19 y20 y21 y22 y23 y24 y35 y36 y37 y38 y39 y40 y41 y42 y43 y44 y45 y46 y47 y48 y49 y50 y51 y52 y53 y54 y55 y56 y57 y58 y59 y60 y61 y62 y63 y64) Q i o := by
  rintro L a W ⟨x25, x26, x27, x28, x29, x30, x31, x32, x33, x34, rfl, h⟩
  exact hq _ _ _ _ _ _ _ _ _ _ _ _ h
theorem M8.ends {W1 : World} {W0 : World} {N g I n s k ve cap : Nat} {ao : Option Addr} {y0 y1 y2 y3 y4 y5 y6 y7 y8 y9 y10 y11 y12 y13 y14 y15 y16 y17 y18 y19 y20 y21 y22 y23 y24 y35 y36 y37 y38 y39 y40 y41 y42 y43 y44 y45 y46 y47 y48 y49 y50 y51 y52 y53 y54 y55 y56 y57 y58 y59 y60 y61 y62 y63 y64 : Value} {mm_ : Nat} {Q : Exit → Act → World → Prop} (hq : ∀ x25 x26 x27 x28 x29 x30 x31 x32 x33 x34 (L : Nat → Bool) (W : World), (∀ j, j < mm_ → L j = true) → M8 W1 W0 N g I n s k ve cap ao L x25 x26 x27 x28 x29 x30 x31 x32 x33 x34 W → Q .normal ⟨#[y0, y1, y2, y3, y4, y5, y6, y7, y8, y9, y10, y11, y12, y13, y14, y15, y16, y17, y18, y19, y20, y21, y22, y23, y24, x25, x26, x27, x28, x29, x30, x31, x32, x33, x34, y35, y36, y37, y38, y39, y40, y41, y42, y43, y44, y45, y46, y47, y48, y49, y50, y51, y52, y53, y54, y55, y56, y57, y58, y59, y60, y61, y62, y63, y64], []⟩ W) : ∀ L a' w', (∀ j, j < mm_ → L j = true) → IM8 W1 W0 N g I n s k ve cap ao y0 y1 y2 y3 y4 y5 y6 y7 y8 y9 y10 y11 y12 y13 y14 y15 y16 y17 y18 y19 y20 y21 y22 y23 y24 y35 y36 y37 y38 y39 y40 y41 y42 y43 y44 y45 y46 y47 y48 y49 y50 y51 y52 y53 y54 y55 y56 y57 y58 y59 y60 y61 y62 y63 y64 L a' w' → Q .normal a' w' := by
  rintro L a W hall ⟨x25, x26, x27, x28, x29, x30, x31, x32, x33, x34, rfl, h⟩
  exact hq _ _ _ _ _ _ _ _ _ _ _ _ hall h
structure M9 (W1 : World) (W0 : World) (N g I n s k ve cap : Nat) (ao : Option Addr) (L : Nat → Bool) (x35 x36 x37 x38 x39 x40 : Value) (W : World) : Prop where
  x : MI W0 N g (pk (L 5) (hd8 s k ++ List.replicate (n + 36 + 4) 0) (hd8 s k ++ le4 ve ++ List.replicate (n + 36) 0)) W
  p0 : L 0 = true → x35 = .slice (some ⟨g, 0, none⟩) (n + 48) (n + 48)
  p1 : L 1 = true → x36 = .slice (some ⟨g, 8, none⟩) 4 (n + 48 - 8)
  p2 : L 2 = true → x37 = .pointer (some ⟨I, 2, none⟩)
  p3 : L 3 = true → x38 = .int .i64 (ve : Int)
  p4 : L 4 = true → x39 = .int .u64 (ve : Int)
section
variable {W1 : World} {W0 : World} {N g I n s k ve cap : Nat} {ao : Option Addr} {L : Nat → Bool} {x35 x36 x37 x38 x39 x40 : Value} {W W2 : World}
theorem M9.s0 (h : M9 W1 W0 N g I n s k ve cap ao L x35 x36 x37 x38 x39 x40 W) : M9 W1 W0 N g I n s k ve cap ao (upd L 0) (.slice (some ⟨g, 0, none⟩) (n + 48) (n + 48)) x36 x37 x38 x39 x40 W :=
  ⟨h.x, fun _ => rfl, h.p1, h.p2, h.p3, h.p4⟩
theorem M9.s1 (h : M9 W1 W0 N g I n s k ve cap ao L x35 x36 x37 x38 x39 x40 W) : M9 W1 W0 N g I n s k ve cap ao (upd L 1) x35 (.slice (some ⟨g, 8, none⟩) 4 (n + 48 - 8)) x37 x38 x39 x40 W :=
  ⟨h.x, h.p0, fun _ => rfl, h.p2, h.p3, h.p4⟩
theorem M9.s2 (h : M9 W1 W0 N g I n s k ve cap ao L x35 x36 x37 x38 x39 x40 W) : M9 W1 W0 N g I n s k ve cap ao (upd L 2) x35 x36 (.pointer (some ⟨I, 2, none⟩)) x38 x39 x40 W :=
  ⟨h.x, h.p0, h.p1, fun _ => rfl, h.p3, h.p4⟩
theorem M9.s3 (h : M9 W1 W0 N g I n s k ve cap ao L x35 x36 x37 x38 x39 x40 W) : M9 W1 W0 N g I n s k ve cap ao (upd L 3) x35 x36 x37 (.int .i64 (ve : Int)) x39 x40 W :=
  ⟨h.x, h.p0, h.p1, h.p2, fun _ => rfl, h.p4⟩
theorem M9.s4 (h : M9 W1 W0 N g I n s k ve cap ao L x35 x36 x37 x38 x39 x40 W) : M9 W1 W0 N g I n s k ve cap ao (upd L 4) x35 x36 x37 x38 (.int .u64 (ve : Int)) x40 W :=
  ⟨h.x, h.p0, h.p1, h.p2, h.p3, fun _ => rfl⟩
theorem M9.s5 (h : M9 W1 W0 N g I n s k ve cap ao L x35 x36 x37 x38 x39 x40 W) {v : Value} (hX : MI W0 N g (pk ((upd L 5) 5) (hd8 s k ++ List.replicate (n + 36 + 4) 0) (hd8 s k ++ le4 ve ++ List.replicate (n + 36) 0)) W2) : M9 W1 W0 N g I n s k ve cap ao (upd L 5) x35 x36 x37 x38 x39 v W2 :=
  ⟨hX, h.p0, h.p1, h.p2, h.p3, h.p4⟩
end
@[reducible] def IM9 (W1 : World) (W0 : World) (N g I n s k ve cap : Nat) (ao : Option Addr) (y0 y1 y2 y3 y4 y5 y6 y7 y8 y9 y10 y11 y12 y13 y14 y15 y16 y17 y18 y19 y20 y21 y22 y23 y24 y25 y26 y27 y28 y29 y30 y31 y32 y33 y34 y41 y42 y43 y44 y45 y46 y47 y48 y49 y50 y51 y52 y53 y54 y55 y56 y57 y58 y59 y60 y61 y62 y63 y64 : Value) : (Nat → Bool) → Act → World → Prop := fun L a W => ∃ x35 x36 x37 x38 x39 x40, a = ⟨#[y0, y1, y2, y3, y4, y5, y6, y7, y8, y9, y10, y11, y12, y13, y14, y15, y16, y17, y18, y19, y20, y21, y22, y23, y24, y25, y26, y27, y28, y29, y30, y31, y32, y33, y34, x35, x36, x37, x38, x39, x40, y41, y42, y43, y44, y45, y46, y47, y48, y49, y50, y51, y52, y53, y54, y55, y56, y57, y58, y59, y60, y61, y62, y63, y64], []⟩ ∧ M9 W1 W0 N g I n s k ve cap ao L x35 x36 x37 x38 x39 x40 W
theorem M9.step {W1 : World} {W0 : World} {N g I n s k ve cap : Nat} {ao : Option Addr} {y0 y1 y2 y3 y4 y5 y6 y7 y8 y9 y10 y11 y12 y13 y14 y15 y16 y17 y18 y19 y20 y21 y22 y23 y24 y25 y26 y27 y28 y29 y30 y31 y32 y33 y34 y41 y42 y43 y44 y45 y46 y47 y48 y49 y50 y51 y52 y53 y54 y55 y56 y57 y58 y59 y60 y61 y62 y63 y64 : Value} {P : Program} {ops : Array Oper} {Q : Exit → Act → World → Prop} {i : Nat} {o : Oper} (hq : ∀ x35 x36 x37 x38 x39 x40 (L : Nat → Bool) (W : World), M9 W1 W0 N g I n s k ve cap ao L x35 x36 x37 x38 x39 x40 W → L i = false → (∀ j ∈ onesOf o, L j = true) → ∀ K : Act → World → Prop, Shut (∀ a' w', IM9 W1 W0 N g I n s k ve cap ao y0 y1 y2 y3 y4 y5 y6 y7 y8 y9 y10 y11 y12 y13 y14 y15 y16 y17 y18 y19 y20 y21 y22 y23 y24 y25 y26 y27 y28 y29 y30 y31 y32 y33 y34 y41 y42 y43 y44 y45 y46 y47 y48 y49 y50 y51 y52 y53 y54 y55 y56 y57 y58 y59 y60 y61 y62 y63 y64 (upd L i) a' w' → K a' w') → if Region.wanted o (yielded ops (⟨#[y0, y1, y2, y3, y4, y5, y6, y7, y8, y9, y10, y11, y12, y13, y14, y15, y16, y17, y18, y19, y20, y21, y22, y23, y24, y25, y26, y27, y28, y29, y30, y31, y32, y33, y34, x35, x36, x37, x38, x39, x40, y41, y42, y43, y44, y45, y46, y47, y48, y49, y50, y51, y52, y53, y54, y55, y56, y57, y58, y59, y60, y61, y62, y63, y64], []⟩ : Act).tmps) = true then Oper.wp P o ⟨#[y0, y1, y2, y3, y4, y5, y6, y7, y8, y9, y10, y11, y12, y13, y14, y15, y16, y17, y18, y19, y20, y21, y22, y23, y24, y25, y26, y27, y28, y29, y30, y31, y32, y33, y34, x35, x36, x37, x38, x39, x40, y41, y42, y43, y44, y45, y46, y47, y48, y49, y50, y51, y52, y53, y54, y55, y56, y57, y58, y59, y60, y61, y62, y63, y64], []⟩ W K Q else K ((⟨#[y0, y1, y2, y3, y4, y5, y6, y7, y8, y9, y10, y11, y12, y13, y14, y15, y16, y17, y18, y19, y20, y21, y22, y23, y24, y25, y26, y27, y28, y29, y30, y31, y32, y33, y34, x35, x36, x37, x38, x39, x40, y41, y42, y43, y44, y45, y46, y47, y48, y49, y50, y51, y52, y53, y54, y55, y56, y57, y58, y59, y60, y61, y62, y63, y64], []⟩ : Act).put o.dst undef) W) : StepI P ops (IM9 W1 W0 N g I n s k ve cap ao y0 y1 y2 y3 y4 y5 y6 y7 y8 y9 y10 y11 y12 y13 y14 y15 y16 y17 y18 y19 y20 y21 y22 y23 y24 y25 y26 y27 y28 y29 y30 y31 y32 y33 y34 y41 y42 y43 y44 y45 y46 y47 y48 y49 y50 y51 y52 y53 y54 y55 y56 y57 y58 y59 y60 y61 y62 y63 y64) Q i o := by
  rintro L a W ⟨x35, x36, x37, x38, x39, x40, rfl, h⟩
  exact hq _ _ _ _ _ _ _ _ h
theorem M9.ends {W1 : World} {W0 : World} {N g I n s k ve cap : Nat} {ao : Option Addr} {y0 y1 y2 y3 y4 y5 y6 y7 y8 y9 y10 y11 y12 y13 y14 y15 y16 y17 y18 y19 y20 y21 y22 y23 y24 y25 y26 y27 y28 y29 y30 y31 y32 y33 y34 y41 y42 y43 y44 y45 y46 y47 y48 y49 y50 y51 y52 y53 y54 y55 y56 y57 y58 y59 y60 y61 y62 y63 y64 : Value} {mm_ : Nat} {Q : Exit → Act → World → Prop} (hq : ∀ x35 x36 x37 x38 x39 x40 (L : Nat → Bool) (W : World), (∀ j, j < mm_ → L j = true) → M9 W1 W0 N g I n s k ve cap ao L x35 x36 x37 x38 x39 x40 W → Q .normal ⟨#[y0, y1, y2, y3, y4, y5, y6, y7, y8, y9, y10, y11, y12, y13, y14, y15, y16, y17, y18, y19, y20, y21, y22, y23, y24, y25, y26, y27, y28, y29, y30, y31, y32, y33, y34, x35, x36, x37, x38, x39, x40, y41, y42, y43, y44, y45, y46, y47, y48, y49, y50, y51, y52, y53, y54, y55, y56, y57, y58, y59, y60, y61, y62, y63, y64], []⟩ W) : ∀ L a' w', (∀ j, j < mm_ → L j = true) → IM9 W1 W0 N g I n s k ve cap ao y0 y1 y2 y3 y4 y5 y6 y7 y8 y9 y10 y11 y12 y13 y14 y15 y16 y17 y18 y19 y20 y21 y22 y23 y24 y25 y26 y27 y28 y29 y30 y31 y32 y33 y34 y41 y42 y43 y44 y45 y46 y47 y48 y49 y50 y51 y52 y53 y54 y55 y56 y57 y58 y59 y60 y61 y62 y63 y64 L a' w' → Q .normal a' w' := by
  rintro L a W hall ⟨x35, x36, x37, x38, x39, x40, rfl, h⟩
  exact hq _ _ _ _ _ _ _ _ hall h
structure M10 (W1 : World) (W0 : World) (N g I n s k ve cap : Nat) (ao : Option Addr) (L : Nat → Bool) (x41 x42 x43 x44 x45 x46 x47 : Value) (W : World) : Prop where
  x : MI W0 N g (pk (L 6) (hd8 s k ++ le4 ve ++ List.replicate (n + 32 + 4) 0) (hd8 s k ++ le4 ve ++ le4 n ++ List.replicate (n + 32) 0)) W
  p0 : L 0 = true → x41 = .slice (some ⟨g, 0, none⟩) (n + 48) (n + 48)
  p1 : L 1 = true → x42 = .slice (some ⟨g, 12, none⟩) 4 (n + 48 - 12)
  p2 : L 2 = true → x43 = .pointer (some ⟨I, 3, none⟩)
  p3 : L 3 = true → x44 = .slice ao n cap
  p4 : L 4 = true → x45 = .int .i64 (n : Int)
  p5 : L 5 = true → x46 = .int .u64 (n : Int)
section
variable {W1 : World} {W0 : World} {N g I n s k ve cap : Nat} {ao : Option Addr} {L : Nat → Bool} {x41 x42 x43 x44 x45 x46 x47 : Value} {W W2 : World}
theorem M10.s0 (h : M10 W1 W0 N g I n s k ve cap ao L x41 x42 x43 x44 x45 x46 x47 W) : M10 W1 W0 N g I n s k ve cap ao (upd L 0) (.slice (some ⟨g, 0, none⟩) (n + 48) (n + 48)) x42 x43 x44 x45 x46 x47 W :=
  ⟨h.x, fun _ => rfl, h.p1, h.p2, h.p3, h.p4, h.p5⟩
theorem M10.s1 (h : M10 W1 W0 N g I n s k ve cap ao L x41 x42 x43 x44 x45 x46 x47 W) : M10 W1 W0 N g I n s k ve cap ao (upd L 1) x41 (.slice (some ⟨g, 12, none⟩) 4 (n + 48 - 12)) x43 x44 x45 x46 x47 W :=
  ⟨h.x, h.p0, fun _ => rfl, h.p2, h.p3, h.p4, h.p5⟩
theorem M10.s2 (h : M10 W1 W0 N g I n s k ve cap ao L x41 x42 x43 x44 x45 x46 x47 W) : M10 W1 W0 N g I n s k ve cap ao (upd L 2) x41 x42 (.pointer (some ⟨I, 3, none⟩)) x44 x45 x46 x47 W :=
  ⟨h.x, h.p0, h.p1, fun _ => rfl, h.p3, h.p4, h.p5⟩
theorem M10.s3 (h : M10 W1 W0 N g I n s k ve cap ao L x41 x42 x43 x44 x45 x46 x47 W) : M10 W1 W0 N g I n s k ve cap ao (upd L 3) x41 x42 x43 (.slice ao n cap) x45 x46 x47 W :=
  ⟨h.x, h.p0, h.p1, h.p2, fun _ => rfl, h.p4, h.p5⟩
theorem M10.s4 (h : M10 W1 W0 N g I n s k ve cap ao L x41 x42 x43 x44 x45 x46 x47 W) : M10 W1 W0 N g I n s k ve cap ao (upd L 4) x41 x42 x43 x44 (.int .i64 (n : Int)) x46 x47 W :=
  ⟨h.x, h.p0, h.p1, h.p2, h.p3, fun _ => rfl, h.p5⟩
theorem M10.s5 (h : M10 W1 W0 N g I n s k ve cap ao L x41 x42 x43 x44 x45 x46 x47 W) : M10 W1 W0 N g I n s k ve cap ao (upd L 5) x41 x42 x43 x44 x45 (.int .u64 (n : Int)) x47 W :=
  ⟨h.x, h.p0, h.p1, h.p2, h.p3, h.p4, fun _ => rfl⟩
theorem M10.s6 (h : M10 W1 W0 N g I n s k ve cap ao L x41 x42 x43 x44 x45 x46 x47 W) {v : Value} (hX : MI W0 N g (pk ((upd L 6) 6) (hd8 s k ++ le4 ve ++ List.replicate (n + 32 + 4) 0) (hd8 s k ++ le4 ve ++ le4 n ++ List.replicate (n + 32) 0)) W2) : M10 W1 W0 N g I n s k ve cap ao (upd L 6) x41 x42 x43 x44 x45 x46 v W2 :=
  ⟨hX, h.p0, h.p1, h.p2, h.p3, h.p4, h.p5⟩
end
@[reducible] def IM10 (W1 : World) (W0 : World) (N g I n s k ve cap : Nat) (ao : Option Addr) (y0 y1 y2 y3 y4 y5 y6 y7 y8 y9 y10 y11 y12 y13 y14 y15 y16 y17 y18 y19 y20 y21 y22 y23 y24 y25 y26 y27 y28 y29 y30 y31 y32 y33 y34 y35 y36 y37 y38 y39 y40 y48 y49 y50 y51 y52 y53 y54 y55 y56 y57 y58 y59 y60 y61 y62 y63 y64 : Value) : (Nat → Bool) → Act → World → Prop := fun L a W => ∃ x41 x42 x43 x44 x45 x46 x47, a = ⟨#[y0, y1, y2, y3, y4, y5, y6, y7, y8, y9, y10, y11, y12, y13, y14, y15, y16, y17, y18, y19, y20, y21, y22, y23, y24, y25, y26, y27, y28, y29, y30, y31, y32, y33, y34, y35, y36, y37, y38, y39, y40, x41, x42, x43, x44, x45, x46, x47, y48, y49, y50, y51, y52, y53, y54, y55, y56, y57, y58, y59, y60, y61, y62, y63, y64], []⟩ ∧ M10 W1 W0 N g I n s k ve cap ao L x41 x42 x43 x44 x45 x46 x47 W
theorem M10.step {W1 : World} {W0 : World} {N g I n s k ve cap : Nat} {ao : Option Addr} {y0 y1 y2 y3 y4 y5 y6 y7 y8 y9 y10 y11 y12 y13 y14 y15 y16 y17 y18 y19 y20 y21 y22 y23 y24 y25 y26 y27 y28 y29 y30 y31 y32 y33 y34 y35 y36 y37 y38 y39 y40 y48 y49 y50 y51 y52 y53 y54 y55 y56 y57 y58 y59 y60 y61 y62 y63 y64 : Value} {P : Program} {ops : Array Oper} {Q : Exit → Act → World → Prop} {i : Nat} {o : Oper} (hq : ∀ x41 x42 x43 x44 x45 x46 x47 (L : Nat → Bool) (W : World), M10 W1 W0 N g I n s k ve cap ao L x41 x42 x43 x44 x45 x46 x47 W → L i = false → (∀ j ∈ onesOf o, L j = true) → ∀ K : Act → World → Prop, Shut (∀ a' w', IM10 W1 W0 N g I n s k ve cap ao y0 y1 y2 y3 y4 y5 y6 y7 y8 y9 y10 y11 y12 y13 y14 y15 y16 y17 y18 y19 y20 y21 y22 y23 y24 y25 y26 y27 y28 y29 y30 y31 y32 y33 y34 y35 y36 y37 y38 y39 y40 y48 y49 y50 y51 y52 y53 y54 y55 y56 y57 y58 y59 y60 y61 y62 y63 y64 (upd L i) a' w' → K a' w') → if Region.wanted o (yielded ops (⟨#[y0, y1, y2, y3, y4, y5, y6, y7, y8, y9, y10, y11, y12, y13, y14, y15, y16, y17, y18, y19, y20, y21, y22, y23, y24, y25, y26, y27, y28, y29, y30, y31, y32, y33, y34, y35, y36, y37, y38, y39, y40, x41, x42, x43, x44, x45, x46, x47, y48, y49, y50, y51, y52, y53, y54, y55, y56, y57, y58, y59, y60, y61, y62, y63, y64], []⟩ : Act).tmps) = true then Oper.wp P o ⟨#[y0, y1, y2, y3, y4, y5, y6, y7, y8, y9, y10, y11, y12, y13, y14, y15, y16, y17, y18, y19, y20, y21, y22, y23, y24, y25, y26, y27, y28, y29, y30, y31, y32, y33, y34, y35, y36, y37, y38, y39, y40, x41, x42, x43, x44, x45, x46, x47, y48, y49, y50, y51, y52, y53, y54, y55, y56, y57, y58, y59, y60, y61, y62, y63, y64], []⟩ W K Q else K ((⟨#[y0, y1, y2, y3, y4, y5, y6, y7, y8, y9, y10, y11, y12, y13, y14, y15, y16, y17, y18, y19, y20, y21, y22, y23, y24, y25, y26, y27, y28, y29, y30, y31, y32, y33, y34, y35, y36, y37, y38, y39, y40, x41, x42, x43, x44, x45, x46, x47, y48, y49, y50, y51, y52, y53, y54, y55, y56, y57, y58, y59, y60, y61, y62, y63, y64], []⟩ : Act).put o.dst undef) W) : StepI P ops (IM10 W1 W0 N g I n s k ve cap ao y0 y1 y2 y3 y4 y5 y6 y7 y8 y9 y10 y11 y12 y13 y14 y15 y16 y17 y18 y19 y20 y21 y22 y23 y24 y25 y26 y27 y28 y29 y30 y31 y32 y33 y34 y35 y36 y37 y38 y39 y40 y48 y49 y50 y51 y52 y53 y54 y55 y56 y57 y58 y59 y60 y61 y62 y63 y64) Q i o := by
  rintro L a W ⟨x41, x42, x43, x44, x45, x46, x47, rfl, h⟩
  exact hq _ _ _ _ _ _ _ _ _ h
theorem M10.ends {W1 : World} {W0 : World} {N g I n s k ve cap : Nat} {ao : Option Addr} {y0 y1 y2 y3 y4 y5 y6 y7 y8 y9 y10 y11 y12 y13 y14 y15 y16 y17 y18 y19 y20 y21 y22 y23 y24 y25 y26 y27 y28 y29 y30 y31 y32 y33 y34 y35 y36 y37 y38 y39 y40 y48 y49 y50 y51 y52 y53 y54 y55 y56 y57 y58 y59 y60 y61 y62 y63 y64 : Value} {mm_ : Nat} {Q : Exit → Act → World → Prop} (hq : ∀ x41 x42 x43 x44 x45 x46 x47 (L : Nat → Bool) (W : World), (∀ j, j < mm_ → L j = true) → M10 W1 W0 N g I n s k ve cap ao L x41 x42 x43 x44 x45 x46 x47 W → Q .normal ⟨#[y0, y1, y2, y3, y4, y5, y6, y7, y8, y9, y10, y11, y12, y13, y14, y15, y16, y17, y18, y19, y20, y21, y22, y23, y24, y25, y26, y27, y28, y29, y30, y31, y32, y33, y34, y35, y36, y37, y38, y39, y40, x41, x42, x43, x44, x45, x46, x47, y48, y49, y50, y51, y52, y53, y54, y55, y56, y57, y58, y59, y60, y61, y62, y63, y64], []⟩ W) : ∀ L a' w', (∀ j, j < mm_ → L j = true) → IM10 W1 W0 N g I n s k ve cap ao y0 y1 y2 y3 y4 y5 y6 y7 y8 y9 y10 y11 y12 y13 y14 y15 y16 y17 y18 y19 y20 y21 y22 y23 y24 y25 y26 y27 y28 y29 y30 y31 y32 y33 y34 y35 y36 y37 y38 y39 y40 y48 y49 y50 y51 y52 y53 y54 y55 y56 y57 y58 y59 y60 y61 y62 y63 y64 L a' w' → Q .normal a' w' := by
  rintro L a W hall ⟨x41, x42, x43, x44, x45, x46, x47, rfl, h⟩
  exact hq _ _ _ _ _ _ _ _ _ hall h
set_option maxHeartbeats 4000000 in
set_option maxRecDepth 100000 in
theorem cmake_ok (so : Option Addr) (sn sc : Nat) (sec : List By) (hsec : sec.length = sn) (s k v : Nat) (ao : Option Addr) (n cap : Nat) (p t : List By) (hp : p.length = n) (ht : t.length = 32) (w : World)
    (hsb : IsB w so sec) (hsn : so = none → sc = 0) (hsc : sn ≤ sc) (hsl : sn ≤ 140737488351232) (hb : IsB w ao p) (hnil : ao = none → cap = 0) (hcap : n ≤ cap) (hs : s < 8) (hk : k < 64) (hv : v < 4294967296) (hn : n ≤ 524240) :
    Calls Tryd.prog 10 #[.slice so sn sc, .agg (imgC s k v (.slice ao n cap) t).toArray] w fun e w' => ∃ ao' c', e = .returned (.tuple #[.slice ao' (n + 48) c', .int .i64 0]) ∧ Own w.heap.size w' (.slice ao' (n + 48) c') (cover s k v p ++ tag sec (cover s k v p)) ∧ Below w.heap.size w w' := by
  have r0 := Row.at w 27 (imgC s k v (.slice ao n cap) t) _ _ rfl rfl
  have hil := imgC_len s k v (.slice ao n cap) t ht
  have b1 : Below w.heap.size w (w.alloc (.cells (imgC s k v (.slice ao n cap) t).toArray 27)) := (Below.refl _ _).alloc (Nat.le_refl _) _
  have hz : (w.alloc (.cells (imgC s k v (.slice ao n cap) t).toArray 27)).heap.size = w.heap.size + 1 := by simp
  have HC0 : Hid (∀ W, Below (w.heap.size + 1) (w.alloc (.cells (imgC s k v (.slice ao n cap) t).toArray 27)) W → W.cell? ⟨w.heap.size, 0, none⟩ = some (.int .i64 (s : Int)) ∧ W.cell? ⟨w.heap.size, 1, none⟩ = some (.int .i64 (k : Int)) ∧ W.cell? ⟨w.heap.size, 2, none⟩ = some (.int .i64 (v : Int)) ∧ W.cell? ⟨w.heap.size, 3, none⟩ = some (.slice ao n cap)) := fun W h => by
    have r := r0.below h (by omega)
    exact ⟨r.cell 0 _ rfl, r.cell 1 _ rfl, r.cell 2 _ rfl, r.cell 3 _ rfl⟩
  have IP : Hid (∀ W, Below (w.heap.size + 1) (w.alloc (.cells (imgC s k v (.slice ao n cap) t).toArray 27)) W → IsB W ao p) := fun W h => (hb.below b1 (Nat.le_refl _)).below h (by omega)
  have IS : Hid (∀ W, Below (w.heap.size + 1) (w.alloc (.cells (imgC s k v (.slice ao n cap) t).toArray 27)) W → IsB W so sec) := fun W h => (hsb.below b1 (Nat.le_refl _)).below h (by omega)
  have MY : Hid (∀ W, Calls Tryd.prog 24 #[.agg (imgC s k v (.slice ao n cap) t).toArray] W fun e w' => e = .returned (.bool true) ∧ Below W.heap.size W w') := fun W => may_yes s k v _ t W (by omega) (by omega) (by omega) (by omega) (by omega) (by omega)
  have HP : Hid (p.length = n) := hp
  have HSE : Hid (sec.length = sn) := hsec
  have e1 : (s : Int) % 256 = s := by omega
  have e2 : (k : Int) % 256 = k := by omega
  have ES : Hid ((s : Int) = ((BitVec.ofNat 8 s).toNat : Int)) := by show _ = _; rw [← by0 s, e1]
  have EK : Hid ((k : Int) = ((BitVec.ofNat 8 k).toNat : Int)) := by show _ = _; rw [← by0 k, e2]
  generalize hi : imgC s k v (.slice ao n cap) t = IM at *
  clear hi
  have a7 : ¬ (524240 : Int) < (n : Int) := by omega
  have z1 : IntKind.i64.wrap (16 + (n : Int)) = (n : Int) + 16 := by rw [i64_in _ (by omega) (by omega)]; omega
  have z2 : IntKind.i64.wrap ((n : Int) + 16 + 32) = ((n + 48 : Nat) : Int) := by rw [i64_in _ (by omega) (by omega)]; omega
  have e3 : (v : Int) % 18446744073709551616 = v := by omega
  have e4 : (n : Int) % 18446744073709551616 = n := by omega
  clear hb hsb hp ht hnil hsec hs hk
  go_enter Tryd.func10, Tryd.ntmps10
  go_wp2_with (refine wpList_load_Row rfl 27 _ rfl _ _ IM r0 rfl _ Tryd.underlying27 rfl (by rw [hil]; kernel_rfl) ?_)
  refine (MY.out _).mono ?_
  rintro e w1 ⟨rfl, hb1⟩
  dsimp only
  rw [hz] at hb1
  clear r0 hil
  generalize hW0 : w.alloc (.cells IM.toArray 27) = W0 at *
  obtain ⟨d0, d1, d2, d3⟩ := HC0.out _ hb1
  have hs1 := hb1.size
  rw [hz] at hs1
  obtain ⟨N, hN⟩ : ∃ N, N = w.heap.size + 1 := ⟨_, rfl⟩
  obtain ⟨g, hg⟩ : ∃ g, g = w1.heap.size := ⟨_, rfl⟩
  rw [← hN] at HC0 IP IS hb1
  go_wp2_with (first
    | (refine wpList_make_rowN rfl _ _ rfl .i64 .i64 _ _ (n + 48) rfl rfl rfl rfl (by omega) ?_; intro w2 hr2 hb2 hz2)
    | (refine wpList_copy_str rfl (.tmp 23) (.const _) rfl w1.heap.size 0 (n + 48) (n + 48) _ rfl rfl (List.replicate (n + 48) 0) hr2 [80#8, 67#8, 85#8, 76#8, 1#8] rfl 5 rfl (by omega) (by simp) ?_; intro w3 hr3 hs3))
  have M3 : MI W0 N g (mk8 n s k false false) w3 := ⟨(hs3.below (hb1.trans (hb2.mono (by omega))) (by omega)), by omega, by
    rw [hg]
    have e := splice_zeros [] [80#8, 67#8, 85#8, 76#8, 1#8] 0 (n + 43) 5 rfl rfl
    rw [show n + 43 + 5 = n + 48 by omega] at e
    rw [List.nil_append] at e
    rw [e] at hr3
    exact hr3⟩
  rw [← hg]
  clear hr2 hb2 hz2 hr3 hs3 d0 d1 d2 d3 hb1
  have HZ : Hid (MI W0 N g (mk8 n s k false false) w3.drew) := M3.drew
  have HN : Hid (N = w.heap.size + 1) := hN
  have HB : Hid (Below w.heap.size w W0) := b1
  clear M3 hN hg hs1 hz hW0 b1
  have g5 : (5 : Int) < (n : Int) + 48 := by omega
  have g6 : (6 : Int) < (n : Int) + 48 := by omega
  have ws : IntKind.u8.wrap (s : Int) = s := e1
  have wk : IntKind.u8.wrap (k : Int) = k := e2
  go_wp2_with fail
  refine wp_region_inv (IM8 w3 W0 N g w.heap.size n s k v cap ao _ _ _ _ _ _ _ _ _ _ _ _ _ _ _ _ _ _ _ _ _ _ _ _ _ _ _ _ _ _ _ _ _ _ _ _ _ _ _ _ _ _ _ _ _ _ _ _ _ _ _ _ _ _ _) (by kernel_rfl) (by kernel_rfl) ⟨_, _, _, _, _, _, _, _, _, _, rfl, ⟨HZ.out, fun k => (by cases k), fun k => (by cases k), fun k => (by cases k), fun k => (by cases k), fun k => (by cases k), fun k => (by cases k), fun k => (by cases k), fun k => (by cases k), fun k => (by cases k), fun k => (by cases k)⟩⟩ ?_ ?_
  · refine .cons ?_ (.cons ?_ (.cons ?_ (.cons ?_ (.cons ?_ (.cons ?_ (.cons ?_ (.cons ?_ (.cons ?_ (.cons ?_ (.cons ?_ (.cons ?_ .nil)))))))))))
    all_goals (refine M8.step ?_; intro x25 x26 x27 x28 x29 x30 x31 x32 x33 x34 L W hI hL hd K hK)
    · rw [if_pos (by rfl)]
      go_simp
      exact hK.out _ _ ⟨_, _, _, _, _, _, _, _, _, _, rfl, hI.s0⟩
    · rw [if_pos (by rfl)]
      go_simp
      exact hK.out _ _ ⟨_, _, _, _, _, _, _, _, _, _, rfl, hI.s1⟩
    · rw [if_pos (by rfl)]
      go_simp
      exact hK.out _ _ ⟨_, _, _, _, _, _, _, _, _, _, rfl, hI.s2⟩
    · have hx2 := hI.p2 (hd 2 (by decide))
      subst hx2
      rw [if_pos (by rfl)]
      have cf := (HC0.out _ hI.x.bel).1
      go_simp
      exact hK.out _ _ ⟨_, _, _, _, _, _, _, _, _, _, rfl, hI.s3⟩
    · have hx3 := hI.p3 (hd 3 (by decide))
      subst hx3
      rw [if_pos (by rfl)]
      go_simp
      exact hK.out _ _ ⟨_, _, _, _, _, _, _, _, _, _, rfl, hI.s4⟩
    · rw [if_pos (by rfl)]
      go_simp
      exact hK.out _ _ ⟨_, _, _, _, _, _, _, _, _, _, rfl, hI.s5⟩
    · have hx5 := hI.p5 (hd 5 (by decide))
      subst hx5
      rw [if_pos (by rfl)]
      have cf := (HC0.out _ hI.x.bel).2.1
      go_simp
      exact hK.out _ _ ⟨_, _, _, _, _, _, _, _, _, _, rfl, hI.s6⟩
    · have hx6 := hI.p6 (hd 6 (by decide))
      subst hx6
      rw [if_pos (by rfl)]
      go_simp
      exact hK.out _ _ ⟨_, _, _, _, _, _, _, _, _, _, rfl, hI.s7⟩
    · have hx0 := hI.p0 (hd 0 (by decide))
      subst hx0
      rw [if_pos (by rfl)]
      go_simp
      exact hK.out _ _ ⟨_, _, _, _, _, _, _, _, _, _, rfl, hI.s8⟩
    · have hx8 := hI.p8 (hd 8 (by decide))
      subst hx8
      have hx4 := hI.p4 (hd 4 (by decide))
      subst hx4
      obtain ⟨cc, ff⟩ := hI.x.cell 5 (by simp [mk8])
      rw [if_pos (by rfl)]
      go_simp
      exact hK.out _ _ ⟨_, _, _, _, _, _, _, _, _, _, rfl, hI.s9 (hI.x.set 5 (BitVec.ofNat 8 s) _ (by simp [mk8, pk, upd]) _ ES.out)⟩
    · have hx1 := hI.p1 (hd 1 (by decide))
      subst hx1
      rw [if_pos (by rfl)]
      go_simp
      exact hK.out _ _ ⟨_, _, _, _, _, _, _, _, _, _, rfl, hI.s10⟩
    · have hx10 := hI.p10 (hd 10 (by decide))
      subst hx10
      have hx7 := hI.p7 (hd 7 (by decide))
      subst hx7
      obtain ⟨cc, ff⟩ := hI.x.cell 6 (by simp [mk8])
      rw [if_pos (by rfl)]
      go_simp
      exact hK.out _ _ ⟨_, _, _, _, _, _, _, _, _, _, rfl, hI.s11 (hI.x.set 6 (BitVec.ofNat 8 k) _ (by simp [mk8, pk, upd]) _ EK.out)⟩
  · refine M8.ends ?_; intro x25 x26 x27 x28 x29 x30 x31 x32 x33 x34 L W hall hI
    have hx0 := hI.p0 (hall 0 (by decide))
    subst hx0
    have hx1 := hI.p1 (hall 1 (by decide))
    subst hx1
    have hx2 := hI.p2 (hall 2 (by decide))
    subst hx2
    have hx3 := hI.p3 (hall 3 (by decide))
    subst hx3
    have hx4 := hI.p4 (hall 4 (by decide))
    subst hx4
    have hx5 := hI.p5 (hall 5 (by decide))
    subst hx5
    have hx6 := hI.p6 (hall 6 (by decide))
    subst hx6
    have hx7 := hI.p7 (hall 7 (by decide))
    subst hx7
    have hx8 := hI.p8 (hall 8 (by decide))
    subst hx8
    have hx10 := hI.p10 (hall 10 (by decide))
    subst hx10
    have hXe := hI.x
    rw [hall 9 (by decide)] at hXe
    rw [hall 11 (by decide)] at hXe
    clear hI hall
    try dsimp only
    have M8e : MI W0 N g (hd8 s k ++ List.replicate (n + 36 + 4) 0) W := hXe
    obtain ⟨w4, hw4⟩ : ∃ w4, w4 = W := ⟨W, rfl⟩
    subst hw4
    clear HZ hXe g5 g6 ws wk
    have HZ : Hid (MI W0 N g (pk false (hd8 s k ++ List.replicate (n + 36 + 4) 0) (hd8 s k ++ le4 v ++ List.replicate (n + 36) 0)) w4.drew) := M8e.drew
    clear M8e
    have g8 : (12 : Int) ≤ (n : Int) + 48 := by omega
    have wv : IntKind.u64.wrap (v : Int) = v := e3
    go_wp2_with fail
    refine wp_region_inv (IM9 w4 W0 N g w.heap.size n s k v cap ao _ _ _ _ _ _ _ _ _ _ _ _ _ _ _ _ _ _ _ _ _ _ _ _ _ _ _ _ _ _ _ _ _ _ _ _ _ _ _ _ _ _ _ _ _ _ _ _ _ _ _ _ _ _ _ _ _ _ _) (by kernel_rfl) (by kernel_rfl) ⟨_, _, _, _, _, _, rfl, ⟨HZ.out, fun k => (by cases k), fun k => (by cases k), fun k => (by cases k), fun k => (by cases k), fun k => (by cases k)⟩⟩ ?_ ?_
    · refine .cons ?_ (.cons ?_ (.cons ?_ (.cons ?_ (.cons ?_ (.cons ?_ .nil)))))
      all_goals (refine M9.step ?_; intro x35 x36 x37 x38 x39 x40 L W hI hL hd K hK)
      · rw [if_pos (by rfl)]
        go_simp
        exact hK.out _ _ ⟨_, _, _, _, _, _, rfl, hI.s0⟩
      · have hx0 := hI.p0 (hd 0 (by decide))
        subst hx0
        rw [if_pos (by rfl)]
        go_simp
        exact hK.out _ _ ⟨_, _, _, _, _, _, rfl, hI.s1⟩
      · rw [if_pos (by rfl)]
        go_simp
        exact hK.out _ _ ⟨_, _, _, _, _, _, rfl, hI.s2⟩
      · have hx2 := hI.p2 (hd 2 (by decide))
        subst hx2
        rw [if_pos (by rfl)]
        have cf := (HC0.out _ hI.x.bel).2.2.1
        go_simp
        exact hK.out _ _ ⟨_, _, _, _, _, _, rfl, hI.s3⟩
      · have hx3 := hI.p3 (hd 3 (by decide))
        subst hx3
        rw [if_pos (by rfl)]
        go_simp
        exact hK.out _ _ ⟨_, _, _, _, _, _, rfl, hI.s4⟩
      · have hx1 := hI.p1 (hd 1 (by decide))
        subst hx1
        have hx4 := hI.p4 (hd 4 (by decide))
        subst hx4
        rw [if_pos (by rfl)]
        go_simp
        have hx := hI.x
        rw [hL] at hx
        refine (lay_any g 8 _ v (n + 36) (hd8 s k) rfl W (by omega) hx.row).mono ?_
        rintro e W2 ⟨rfl, hr2, hs2⟩
        go_simp
        exact hK.out _ _ ⟨_, _, _, _, _, _, rfl, hI.s5 (hx.but hr2 hs2)⟩
    · refine M9.ends ?_; intro x35 x36 x37 x38 x39 x40 L W hall hI
      have hx0 := hI.p0 (hall 0 (by decide))
      subst hx0
      have hx1 := hI.p1 (hall 1 (by decide))
      subst hx1
      have hx2 := hI.p2 (hall 2 (by decide))
      subst hx2
      have hx3 := hI.p3 (hall 3 (by decide))
      subst hx3
      have hx4 := hI.p4 (hall 4 (by decide))
      subst hx4
      have hXe := hI.x
      rw [hall 5 (by decide)] at hXe
      clear hI hall
      try dsimp only
      have M9e : MI W0 N g (hd8 s k ++ le4 v ++ List.replicate (n + 32 + 4) 0) W := hXe
      obtain ⟨w5, hw5⟩ : ∃ w5, w5 = W := ⟨W, rfl⟩
      subst hw5
      clear HZ hXe g8 wv
      have HZ : Hid (MI W0 N g (pk false (hd8 s k ++ le4 v ++ List.replicate (n + 32 + 4) 0) (hd8 s k ++ le4 v ++ le4 n ++ List.replicate (n + 32) 0)) w5.drew) := M9e.drew
      clear M9e
      have g8 : (16 : Int) ≤ (n : Int) + 48 := by omega
      have wn : IntKind.u64.wrap (n : Int) = n := e4
      go_wp2_with fail
      refine wp_region_inv (IM10 w5 W0 N g w.heap.size n s k v cap ao _ _ _ _ _ _ _ _ _ _ _ _ _ _ _ _ _ _ _ _ _ _ _ _ _ _ _ _ _ _ _ _ _ _ _ _ _ _ _ _ _ _ _ _ _ _ _ _ _ _ _ _ _ _ _ _ _ _) (by kernel_rfl) (by kernel_rfl) ⟨_, _, _, _, _, _, _, rfl, ⟨HZ.out, fun k => (by cases k), fun k => (by cases k), fun k => (by cases k), fun k => (by cases k), fun k => (by cases k), fun k => (by cases k)⟩⟩ ?_ ?_
      · refine .cons ?_ (.cons ?_ (.cons ?_ (.cons ?_ (.cons ?_ (.cons ?_ (.cons ?_ .nil))))))
        all_goals (refine M10.step ?_; intro x41 x42 x43 x44 x45 x46 x47 L W hI hL hd K hK)
        · rw [if_pos (by rfl)]
          go_simp
          exact hK.out _ _ ⟨_, _, _, _, _, _, _, rfl, hI.s0⟩
        · have hx0 := hI.p0 (hd 0 (by decide))
          subst hx0
          rw [if_pos (by rfl)]
          go_simp
          exact hK.out _ _ ⟨_, _, _, _, _, _, _, rfl, hI.s1⟩
        · rw [if_pos (by rfl)]
          go_simp
          exact hK.out _ _ ⟨_, _, _, _, _, _, _, rfl, hI.s2⟩
        · have hx2 := hI.p2 (hd 2 (by decide))
          subst hx2
          rw [if_pos (by rfl)]
          have cf := (HC0.out _ hI.x.bel).2.2.2
          go_simp
          exact hK.out _ _ ⟨_, _, _, _, _, _, _, rfl, hI.s3⟩
        · have hx3 := hI.p3 (hd 3 (by decide))
          subst hx3
          rw [if_pos (by rfl)]
          go_simp
          exact hK.out _ _ ⟨_, _, _, _, _, _, _, rfl, hI.s4⟩
        · have hx4 := hI.p4 (hd 4 (by decide))
          subst hx4
          rw [if_pos (by rfl)]
          go_simp
          exact hK.out _ _ ⟨_, _, _, _, _, _, _, rfl, hI.s5⟩
        · have hx1 := hI.p1 (hd 1 (by decide))
          subst hx1
          have hx5 := hI.p5 (hd 5 (by decide))
          subst hx5
          rw [if_pos (by rfl)]
          go_simp
          have hx := hI.x
          rw [hL] at hx
          refine (lay_any g 12 _ n (n + 32) (hd8 s k ++ le4 v) rfl W (by omega) hx.row).mono ?_
          rintro e W2 ⟨rfl, hr2, hs2⟩
          go_simp
          exact hK.out _ _ ⟨_, _, _, _, _, _, _, rfl, hI.s6 (hx.but hr2 hs2)⟩
      · refine M10.ends ?_; intro x41 x42 x43 x44 x45 x46 x47 L W hall hI
        have hx0 := hI.p0 (hall 0 (by decide))
        subst hx0
        have hx1 := hI.p1 (hall 1 (by decide))
        subst hx1
        have hx2 := hI.p2 (hall 2 (by decide))
        subst hx2
        have hx3 := hI.p3 (hall 3 (by decide))
        subst hx3
        have hx4 := hI.p4 (hall 4 (by decide))
        subst hx4
        have hx5 := hI.p5 (hall 5 (by decide))
        subst hx5
        have hXe := hI.x
        rw [hall 6 (by decide)] at hXe
        clear hI hall
        try dsimp only
        have Me : MI W0 N g (hd8 s k ++ le4 v ++ le4 n ++ List.replicate (n + 32) 0) W := hXe
        obtain ⟨w6, hw6⟩ : ∃ w6, w6 = W := ⟨W, rfl⟩
        subst hw6
        clear HZ hXe wn
        have hrw : List.replicate (n + 32) (0 : By) = List.replicate (32 + n) 0 := by rw [Nat.add_comm]
        rw [hrw] at Me
        have Mr := Me.row
        have Mb := Me.bel
        have Ml := Me.le
        have hml : (hd8 s k ++ le4 v ++ le4 n ++ List.replicate (32 + n) (0 : By)).length = n + 48 := by simp [hd8, le4]; omega
        have ESP := splice_zeros (hd8 s k ++ le4 v ++ le4 n) p 16 32 n rfl HP.out
        have ECV : hd8 s k ++ le4 v ++ le4 n ++ p = cover s k v p := by rw [← HP.out]; simp [hd8, cover]
        rw [ECV] at ESP
        have IPW := IP.out _ Mb
        obtain ⟨_, _, _, d3⟩ := HC0.out _ Mb
        clear Me
        generalize hd8 s k ++ le4 v ++ le4 n ++ List.replicate (32 + n) (0 : By) = M0 at *
        have y1 : (16 : Int) ≤ (n : Int) + 16 := by omega
        have y2 : (n : Int) + 16 ≤ (n : Int) + 48 := by omega
        go_wp2_with fail
        go_region_law (refine step_copy_to rfl (.tmp 50) (.tmp 52) rfl g 16 n (n + 48 - 16) ao n cap rfl rfl (Nat.le_refl _) M0 Mr p HP.out IPW (by rw [hml]; omega) ?_; intro W7 hr7 hs7; rw [ESP] at hr7)
        have M7b : Below N W0 W7 := hs7.below Mb.drew Ml
        have HCL : Hid ((cover s k v p).length = n + 16) := by show _ = _; rw [cover_len, HP.out]
        have HTL : Hid ((tag sec (cover s k v p)).length = 32) := tag_len _ _
        have IC : Hid (IsB W7 (some ⟨g, 0, none⟩) (cover s k v p)) := by
          have := isB_take (row_isb hr7) (n + 16)
          rw [List.take_append_of_le_length (by rw [HCL.out]; exact Nat.le_refl _), List.take_of_length_le (by rw [HCL.out]; exact Nat.le_refl _)] at this
          exact this
        have ISW := IS.out _ M7b
        have hg7 := hr7.lt
        have tn1 : ((n : Int) + 16).toNat = n + 16 := by omega
        have tn2 : n + 48 - (n + 16) = 32 := by omega
        have y3 : (0 : Int) ≤ (n : Int) + 16 := by omega
        clear Mr IPW d3 hs7 hml hrw y1 g8
        go_wp2_with fail
        refine (mac_any so (some ⟨g, 0, none⟩) sn sc (n + 16) (n + 48) sec (cover s k v p) HSE.out HCL.out W7 ISW IC.out hsc (by omega) (by omega) (by omega)).mono ?_
        rintro e w9 ⟨rfl, hb9⟩
        have htl := HTL.out
        have r9 := Row.at w9 25 (List.replicate 32 (.int .u8 0)) _ _ rfl rfl
        have hr9 := hr7.below hb9 hg7
        have hg9 := hr9.lt
        have M9b := M7b.trans (hb9.mono (show N ≤ W7.heap.size by omega))
        have hr10 := hr9.alloc (.cells (List.replicate 32 (Value.int .u8 0)).toArray 25)
        have M10b := M9b.alloc (show N ≤ w9.heap.size by omega) (.cells (List.replicate 32 (Value.int .u8 0)).toArray 25)
        have ESQ := splice_zeros (cover s k v p) (tag sec (cover s k v p)) (n + 16) 0 32 HCL.out HTL.out
        rw [Nat.zero_add] at ESQ
        have hml2 : (cover s k v p ++ List.replicate 32 (0 : By)).length = n + 48 := by rw [List.length_append, HCL.out]; simp
        have hml3 : (cover s k v p ++ tag sec (cover s k v p) ++ List.replicate 0 (0 : By)).length = n + 48 := by rw [List.length_append, List.length_append, HCL.out, htl]; simp
        clear hr7 hr9 M9b ISW
        go_wp2_with (refine wpList_store_Row rfl 25 _ _ rfl w9.heap.size 25 0 (List.replicate 32 (.int .u8 0)) ((tag sec (cover s k v p)).map B8) r9 (by rw [List.length_map, htl]; exact Nat.le_refl _) rfl rfl (by rw [List.length_map, htl]; kernel_rfl) (B8_one _) ?_; intro w11 hr11 hs11)
        have q11 := row_isb (row_whole hr11 (by rw [List.length_map, htl]; exact Nat.le_refl _))
        have q10 := hr10.but hs11 (Nat.ne_of_lt hg9)
        have b11 := hs11.below M10b (show N ≤ w9.heap.size by omega)
        clear hr10 M10b hr11 r9
        go_region_law (refine step_copy_to rfl (.tmp 61) (.tmp 62) rfl g (n + 16) 32 32 (some ⟨w9.heap.size, 0, none⟩) 32 32 rfl rfl (Nat.le_refl _) _ q10 (tag sec (cover s k v p)) htl q11 (by rw [hml2]; omega) ?_; intro W12 hr12 hs12; rw [ESQ] at hr12)
        have b12 : Below N W0 W12 := hs12.below b11.drew Ml
        go_wp2
        go_ret2
        have hN := HN.out
        refine ⟨_, n + 48, rfl, ?_, HB.out.trans (b12.mono (by omega))⟩
        have := own_row hr12 (show w.heap.size ≤ g by omega) (n + 48) hml3 (by omega)
        simpa using this
end Go.Proofs.YtnpbgfnahkmhoaaDoor
