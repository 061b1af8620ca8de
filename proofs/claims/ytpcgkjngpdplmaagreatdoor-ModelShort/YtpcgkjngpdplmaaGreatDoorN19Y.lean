
import Derived.Test.YtpcgkjngpdplmaaGreatDoorN19U
/-! The code's model: lay. (Printed by tools/genn19.py.) -/
namespace Go.Proofs.YtpcgkjngpdplmaaGreatDoor
open Go.RowKit Go.Maps
set_option linter.unusedVariables false
set_option linter.unusedSimpArgs false

/-- All blocks that were there stand, but those of ex. -/
structure LyB (ex : Nat → Prop) (w W : World) : Prop where
  os : W.os = w.os
  tape : W.tape = w.tape
  output : W.output = w.output
  size : w.heap.size ≤ W.heap.size
  block : ∀ i, i < w.heap.size → ¬ ex i → W.heap[i]? = w.heap[i]?
section
variable {ex : Nat → Prop} {w W W2 : World}
theorem LyB.refl (w : World) : LyB ex w w := ⟨rfl, rfl, rfl, Nat.le_refl _, fun _ _ _ => rfl⟩
theorem LyB.keep (h : LyB ex w W) (hb : Below W.heap.size W W2) : LyB ex w W2 := ⟨hb.os.trans h.os, hb.tape.trans h.tape, hb.output.trans h.output, Nat.le_trans h.size hb.size, fun i hi he => (hb.block i (Nat.lt_of_lt_of_le hi h.size)).trans (h.block i hi he)⟩
theorem LyB.drew (h : LyB ex w W) : LyB ex w W.drew := h.keep ⟨rfl, rfl, rfl, Nat.le_refl _, fun _ _ => rfl⟩
theorem LyB.but (h : LyB ex w W) {g : Nat} (hs : SameBut g W W2) (hg : g < w.heap.size → ex g) : LyB ex w W2 := ⟨hs.os.trans h.os, hs.tape.trans h.tape, hs.output.trans h.output, by have := h.size; have := hs.size; omega, fun i hi he => (hs.block i (fun e => he (e ▸ hg (e ▸ hi)))).trans (h.block i hi he)⟩
theorem LyB.below (h : LyB ex w W) {N : Nat} (hN : N ≤ w.heap.size) (hx : ∀ i, i < N → ¬ ex i) : Below N w W := ⟨h.os, h.tape, h.output, h.size, fun i hi => h.block i (by omega) (hx i hi)⟩
theorem LyB.after {w1 : World} (hb : Below w.heap.size w w1) (h : LyB ex w1 W) : LyB ex w W := ⟨h.os.trans hb.os, h.tape.trans hb.tape, h.output.trans hb.output, Nat.le_trans hb.size h.size, fun i hi he => (h.block i (Nat.lt_of_lt_of_le hi hb.size) he).trans (hb.block i hi)⟩
theorem LyB.row (h : LyB ex w W) {g t : Nat} {cs : List Value} (hr : Row w g t cs) (hx : ¬ ex g) : Row W g t cs := (h.block g hr.lt hx).trans hr
end
structure YW (w : World) (F : List Value) (W : World) : Prop where
  bel : Below w.heap.size w W
  f : Row W w.heap.size 89 F
theorem YW.drew {w W : World} {F : List Value} (h : YW w F W) : YW w F W.drew := ⟨h.bel.drew, h.f.drew⟩
/-- While the number is laid into the map. -/
structure Y6 (w : World) (F : List Value) (nb : Nat) (B : List (List By)) (b : List By) (q : Bool) (W : World) : Prop where
  ly : LyB (fun i => i = nb) w W
  f : Row W w.heap.size 89 F
  ms : MsAt W nb (if q then B ++ [b] else B)
theorem Y6.drew {w W : World} {F : List Value} {nb : Nat} {B : List (List By)} {b : List By} {q : Bool} (h : Y6 w F nb B b q W) : Y6 w F nb B b q W.drew := ⟨h.ly.drew, h.f.drew, h.ms.of_block rfl⟩
structure LY3S (W1 : World) (w : World) (FV : List Value) (mg nb : Nat) (bo : Option Addr) (bl bc : Nat) (SB : ByteArray) (j : Nat) (L : Nat → Bool) (x27 x28 x29 x30 x31 x32 x33 x26 x34 x35 x7 x8 : Value) (W : World) : Prop where
  x : YW w FV W
  p0 : L 0 = true → x27 = .pointer (some ⟨mg, 0, none⟩)
  p1 : L 1 = true → x28 = .pointer (some ⟨mg, 0, none⟩)
  p2 : L 2 = true → x29 = .pointer (some ⟨mg, 11, none⟩)
  p3 : L 3 = true → x30 = .map (some nb)
  p4 : L 4 = true → x31 = .slice bo bl bc
  p5 : L 5 = true → x32 = .string SB
  p6 : L 6 = true → x33 = .tuple #[.int .i64 ((j + 1 : Nat) : Int), .bool true]
  p7 : L 7 = true → x26 = .tuple #[.int .i64 ((j + 1 : Nat) : Int), .bool true]
  p8 : L 8 = true → x34 = .int .i64 ((j + 1 : Nat) : Int)
  p9 : L 9 = true → x35 = .bool true
  p10 : L 10 = true → x7 = .int .i64 ((j + 1 : Nat) : Int)
  p11 : L 11 = true → x8 = .bool true
section
variable {W1 : World} {w : World} {FV : List Value} {mg nb : Nat} {bo : Option Addr} {bl bc : Nat} {SB : ByteArray} {j : Nat} {L : Nat → Bool} {x27 x28 x29 x30 x31 x32 x33 x26 x34 x35 x7 x8 : Value} {W W2 : World}
theorem LY3S.s0 (h : LY3S W1 w FV mg nb bo bl bc SB j L x27 x28 x29 x30 x31 x32 x33 x26 x34 x35 x7 x8 W) : LY3S W1 w FV mg nb bo bl bc SB j (upd L 0) (.pointer (some ⟨mg, 0, none⟩)) x28 x29 x30 x31 x32 x33 x26 x34 x35 x7 x8 W :=
  ⟨h.x, fun _ => rfl, h.p1, h.p2, h.p3, h.p4, h.p5, h.p6, h.p7, h.p8, h.p9, h.p10, h.p11⟩
theorem LY3S.s1 (h : LY3S W1 w FV mg nb bo bl bc SB j L x27 x28 x29 x30 x31 x32 x33 x26 x34 x35 x7 x8 W) : LY3S W1 w FV mg nb bo bl bc SB j (upd L 1) x27 (.pointer (some ⟨mg, 0, none⟩)) x29 x30 x31 x32 x33 x26 x34 x35 x7 x8 W :=
  ⟨h.x, h.p0, fun _ => rfl, h.p2, h.p3, h.p4, h.p5, h.p6, h.p7, h.p8, h.p9, h.p10, h.p11⟩
theorem LY3S.s2 (h : LY3S W1 w FV mg nb bo bl bc SB j L x27 x28 x29 x30 x31 x32 x33 x26 x34 x35 x7 x8 W) : LY3S W1 w FV mg nb bo bl bc SB j (upd L 2) x27 x28 (.pointer (some ⟨mg, 11, none⟩)) x30 x31 x32 x33 x26 x34 x35 x7 x8 W :=
  ⟨h.x, h.p0, h.p1, fun _ => rfl, h.p3, h.p4, h.p5, h.p6, h.p7, h.p8, h.p9, h.p10, h.p11⟩
theorem LY3S.s3 (h : LY3S W1 w FV mg nb bo bl bc SB j L x27 x28 x29 x30 x31 x32 x33 x26 x34 x35 x7 x8 W) : LY3S W1 w FV mg nb bo bl bc SB j (upd L 3) x27 x28 x29 (.map (some nb)) x31 x32 x33 x26 x34 x35 x7 x8 W :=
  ⟨h.x, h.p0, h.p1, h.p2, fun _ => rfl, h.p4, h.p5, h.p6, h.p7, h.p8, h.p9, h.p10, h.p11⟩
theorem LY3S.s4 (h : LY3S W1 w FV mg nb bo bl bc SB j L x27 x28 x29 x30 x31 x32 x33 x26 x34 x35 x7 x8 W) : LY3S W1 w FV mg nb bo bl bc SB j (upd L 4) x27 x28 x29 x30 (.slice bo bl bc) x32 x33 x26 x34 x35 x7 x8 W :=
  ⟨h.x, h.p0, h.p1, h.p2, h.p3, fun _ => rfl, h.p5, h.p6, h.p7, h.p8, h.p9, h.p10, h.p11⟩
theorem LY3S.s5 (h : LY3S W1 w FV mg nb bo bl bc SB j L x27 x28 x29 x30 x31 x32 x33 x26 x34 x35 x7 x8 W) : LY3S W1 w FV mg nb bo bl bc SB j (upd L 5) x27 x28 x29 x30 x31 (.string SB) x33 x26 x34 x35 x7 x8 W :=
  ⟨h.x, h.p0, h.p1, h.p2, h.p3, h.p4, fun _ => rfl, h.p6, h.p7, h.p8, h.p9, h.p10, h.p11⟩
theorem LY3S.s6 (h : LY3S W1 w FV mg nb bo bl bc SB j L x27 x28 x29 x30 x31 x32 x33 x26 x34 x35 x7 x8 W) : LY3S W1 w FV mg nb bo bl bc SB j (upd L 6) x27 x28 x29 x30 x31 x32 (.tuple #[.int .i64 ((j + 1 : Nat) : Int), .bool true]) x26 x34 x35 x7 x8 W :=
  ⟨h.x, h.p0, h.p1, h.p2, h.p3, h.p4, h.p5, fun _ => rfl, h.p7, h.p8, h.p9, h.p10, h.p11⟩
theorem LY3S.s7 (h : LY3S W1 w FV mg nb bo bl bc SB j L x27 x28 x29 x30 x31 x32 x33 x26 x34 x35 x7 x8 W) : LY3S W1 w FV mg nb bo bl bc SB j (upd L 7) x27 x28 x29 x30 x31 x32 x33 (.tuple #[.int .i64 ((j + 1 : Nat) : Int), .bool true]) x34 x35 x7 x8 W :=
  ⟨h.x, h.p0, h.p1, h.p2, h.p3, h.p4, h.p5, h.p6, fun _ => rfl, h.p8, h.p9, h.p10, h.p11⟩
theorem LY3S.s8 (h : LY3S W1 w FV mg nb bo bl bc SB j L x27 x28 x29 x30 x31 x32 x33 x26 x34 x35 x7 x8 W) : LY3S W1 w FV mg nb bo bl bc SB j (upd L 8) x27 x28 x29 x30 x31 x32 x33 x26 (.int .i64 ((j + 1 : Nat) : Int)) x35 x7 x8 W :=
  ⟨h.x, h.p0, h.p1, h.p2, h.p3, h.p4, h.p5, h.p6, h.p7, fun _ => rfl, h.p9, h.p10, h.p11⟩
theorem LY3S.s9 (h : LY3S W1 w FV mg nb bo bl bc SB j L x27 x28 x29 x30 x31 x32 x33 x26 x34 x35 x7 x8 W) : LY3S W1 w FV mg nb bo bl bc SB j (upd L 9) x27 x28 x29 x30 x31 x32 x33 x26 x34 (.bool true) x7 x8 W :=
  ⟨h.x, h.p0, h.p1, h.p2, h.p3, h.p4, h.p5, h.p6, h.p7, h.p8, fun _ => rfl, h.p10, h.p11⟩
theorem LY3S.s10 (h : LY3S W1 w FV mg nb bo bl bc SB j L x27 x28 x29 x30 x31 x32 x33 x26 x34 x35 x7 x8 W) : LY3S W1 w FV mg nb bo bl bc SB j (upd L 10) x27 x28 x29 x30 x31 x32 x33 x26 x34 x35 (.int .i64 ((j + 1 : Nat) : Int)) x8 W :=
  ⟨h.x, h.p0, h.p1, h.p2, h.p3, h.p4, h.p5, h.p6, h.p7, h.p8, h.p9, fun _ => rfl, h.p11⟩
theorem LY3S.s11 (h : LY3S W1 w FV mg nb bo bl bc SB j L x27 x28 x29 x30 x31 x32 x33 x26 x34 x35 x7 x8 W) : LY3S W1 w FV mg nb bo bl bc SB j (upd L 11) x27 x28 x29 x30 x31 x32 x33 x26 x34 x35 x7 (.bool true) W :=
  ⟨h.x, h.p0, h.p1, h.p2, h.p3, h.p4, h.p5, h.p6, h.p7, h.p8, h.p9, h.p10, fun _ => rfl⟩
end
@[reducible] def ILY3S (W1 : World) (w : World) (FV : List Value) (mg nb : Nat) (bo : Option Addr) (bl bc : Nat) (SB : ByteArray) (j : Nat) (y0 y1 y2 y3 y4 y5 y6 y9 y10 y11 y12 y13 y14 y15 y16 y17 y18 y19 y20 y21 y22 y23 y24 y25 y36 y37 y38 y39 y40 y41 y42 y43 y44 y45 y46 y47 y48 y49 y50 y51 y52 y53 y54 y55 y56 y57 y58 y59 y60 y61 y62 y63 : Value) : (Nat → Bool) → Act → World → Prop := fun L a W => ∃ x27 x28 x29 x30 x31 x32 x33 x26 x34 x35 x7 x8, a = ⟨#[y0, y1, y2, y3, y4, y5, y6, x7, x8, y9, y10, y11, y12, y13, y14, y15, y16, y17, y18, y19, y20, y21, y22, y23, y24, y25, x26, x27, x28, x29, x30, x31, x32, x33, x34, x35, y36, y37, y38, y39, y40, y41, y42, y43, y44, y45, y46, y47, y48, y49, y50, y51, y52, y53, y54, y55, y56, y57, y58, y59, y60, y61, y62, y63], []⟩ ∧ LY3S W1 w FV mg nb bo bl bc SB j L x27 x28 x29 x30 x31 x32 x33 x26 x34 x35 x7 x8 W
theorem LY3S.step {W1 : World} {w : World} {FV : List Value} {mg nb : Nat} {bo : Option Addr} {bl bc : Nat} {SB : ByteArray} {j : Nat} {y0 y1 y2 y3 y4 y5 y6 y9 y10 y11 y12 y13 y14 y15 y16 y17 y18 y19 y20 y21 y22 y23 y24 y25 y36 y37 y38 y39 y40 y41 y42 y43 y44 y45 y46 y47 y48 y49 y50 y51 y52 y53 y54 y55 y56 y57 y58 y59 y60 y61 y62 y63 : Value} {P : Program} {ops : Array Oper} {Q : Exit → Act → World → Prop} {i : Nat} {o : Oper} (hq : ∀ x27 x28 x29 x30 x31 x32 x33 x26 x34 x35 x7 x8 (L : Nat → Bool) (W : World), LY3S W1 w FV mg nb bo bl bc SB j L x27 x28 x29 x30 x31 x32 x33 x26 x34 x35 x7 x8 W → L i = false → (∀ j ∈ onesOf o, L j = true) → ∀ K : Act → World → Prop, Shut (∀ a' w', ILY3S W1 w FV mg nb bo bl bc SB j y0 y1 y2 y3 y4 y5 y6 y9 y10 y11 y12 y13 y14 y15 y16 y17 y18 y19 y20 y21 y22 y23 y24 y25 y36 y37 y38 y39 y40 y41 y42 y43 y44 y45 y46 y47 y48 y49 y50 y51 y52 y53 y54 y55 y56 y57 y58 y59 y60 y61 y62 y63 (upd L i) a' w' → K a' w') → if Region.wanted o (yielded ops (⟨#[y0, y1, y2, y3, y4, y5, y6, x7, x8, y9, y10, y11, y12, y13, y14, y15, y16, y17, y18, y19, y20, y21, y22, y23, y24, y25, x26, x27, x28, x29, x30, x31, x32, x33, x34, x35, y36, y37, y38, y39, y40, y41, y42, y43, y44, y45, y46, y47, y48, y49, y50, y51, y52, y53, y54, y55, y56, y57, y58, y59, y60, y61, y62, y63], []⟩ : Act).tmps) = true then Oper.wp P o ⟨#[y0, y1, y2, y3, y4, y5, y6, x7, x8, y9, y10, y11, y12, y13, y14, y15, y16, y17, y18, y19, y20, y21, y22, y23, y24, y25, x26, x27, x28, x29, x30, x31, x32, x33, x34, x35, y36, y37, y38, y39, y40, y41, y42, y43, y44, y45, y46, y47, y48, y49, y50, y51, y52, y53, y54, y55, y56, y57, y58, y59, y60, y61, y62, y63], []⟩ W K Q else K ((⟨#[y0, y1, y2, y3, y4, y5, y6, x7, x8, y9, y10, y11, y12, y13, y14, y15, y16, y17, y18, y19, y20, y21, y22, y23, y24, y25, x26, x27, x28, x29, x30, x31, x32, x33, x34, x35, y36, y37, y38, y39, y40, y41, y42, y43, y44, y45, y46, y47, y48, y49, y50, y51, y52, y53, y54, y55, y56, y57, y58, y59, y60, y61, y62, y63], []⟩ : Act).put o.dst undef) W) : StepI P ops (ILY3S W1 w FV mg nb bo bl bc SB j y0 y1 y2 y3 y4 y5 y6 y9 y10 y11 y12 y13 y14 y15 y16 y17 y18 y19 y20 y21 y22 y23 y24 y25 y36 y37 y38 y39 y40 y41 y42 y43 y44 y45 y46 y47 y48 y49 y50 y51 y52 y53 y54 y55 y56 y57 y58 y59 y60 y61 y62 y63) Q i o := by
  rintro L a W ⟨x27, x28, x29, x30, x31, x32, x33, x26, x34, x35, x7, x8, rfl, h⟩
  exact hq _ _ _ _ _ _ _ _ _ _ _ _ _ _ h
theorem LY3S.ends {W1 : World} {w : World} {FV : List Value} {mg nb : Nat} {bo : Option Addr} {bl bc : Nat} {SB : ByteArray} {j : Nat} {y0 y1 y2 y3 y4 y5 y6 y9 y10 y11 y12 y13 y14 y15 y16 y17 y18 y19 y20 y21 y22 y23 y24 y25 y36 y37 y38 y39 y40 y41 y42 y43 y44 y45 y46 y47 y48 y49 y50 y51 y52 y53 y54 y55 y56 y57 y58 y59 y60 y61 y62 y63 : Value} {mm_ : Nat} {Q : Exit → Act → World → Prop} (hq : ∀ x27 x28 x29 x30 x31 x32 x33 x26 x34 x35 x7 x8 (L : Nat → Bool) (W : World), (∀ j, j < mm_ → L j = true) → LY3S W1 w FV mg nb bo bl bc SB j L x27 x28 x29 x30 x31 x32 x33 x26 x34 x35 x7 x8 W → Q .normal ⟨#[y0, y1, y2, y3, y4, y5, y6, x7, x8, y9, y10, y11, y12, y13, y14, y15, y16, y17, y18, y19, y20, y21, y22, y23, y24, y25, x26, x27, x28, x29, x30, x31, x32, x33, x34, x35, y36, y37, y38, y39, y40, y41, y42, y43, y44, y45, y46, y47, y48, y49, y50, y51, y52, y53, y54, y55, y56, y57, y58, y59, y60, y61, y62, y63], []⟩ W) : ∀ L a' w', (∀ j, j < mm_ → L j = true) → ILY3S W1 w FV mg nb bo bl bc SB j y0 y1 y2 y3 y4 y5 y6 y9 y10 y11 y12 y13 y14 y15 y16 y17 y18 y19 y20 y21 y22 y23 y24 y25 y36 y37 y38 y39 y40 y41 y42 y43 y44 y45 y46 y47 y48 y49 y50 y51 y52 y53 y54 y55 y56 y57 y58 y59 y60 y61 y62 y63 L a' w' → Q .normal a' w' := by
  rintro L a W hall ⟨x27, x28, x29, x30, x31, x32, x33, x26, x34, x35, x7, x8, rfl, h⟩
  exact hq _ _ _ _ _ _ _ _ _ _ _ _ _ _ hall h
/-- What lay leaves. -/
def LayP (N mg rg nb so : Nat) (c : Cfg) (l : Secs) (B : List (List By)) (b : List By) (w : World) (e : Ending) (w' : World) : Prop := e = .returned (.int .i64 ((layC c l B b).1 : Int)) ∧ (∃ so' cap', MdM N w' mg rg nb so' cap' c l (layC c l B b).2) ∧ LyB (fun i => i = nb ∨ i = so ∨ i = mg) w w'
set_option maxHeartbeats 4000000 in
set_option maxRecDepth 100000 in
theorem lay_old {N : Nat} {w : World} {mg rg nb so cap : Nat} {c : Cfg} {l : Secs} {B : List (List By)} (h : MdM N w mg rg nb so cap c l B) (bo : Option Addr) (bc : Nat) (b : List By) (hb : IsB w bo b) (hnew : (findC c l b).wrong = 0 → (findC c l b).signed = true → ¬ c.size19 < b.length → (B.findIdx? (· == b)).isSome = true) :
    Calls Tryz.prog 75 #[.pointer (some ⟨mg, 0, none⟩), .agg (fdC (findC c l b)).toArray, .slice bo b.length bc] w (LayP N mg rg nb so c l B b w) := by
  obtain ⟨w1, hw1⟩ : ∃ w1, w1 = w.alloc (.cells (fdC (findC c l b)).toArray 89) := ⟨_, rfl⟩
  have hb1 : Below w.heap.size w w1 := by rw [hw1]; exact (Below.refl _ _).alloc (Nat.le_refl _) _
  have r1 : Row w1 w.heap.size 89 (fdC (findC c l b)) := by rw [hw1]; exact Row.at _ _ _ _ _ rfl rfl
  have c0 : w1.cell? ⟨w.heap.size, 0, none⟩ = some (.int .i64 (findC c l b).wrong) := r1.cell 0 _ rfl
  have c1 : w1.cell? ⟨w.heap.size, 1, none⟩ = some (.bool (findC c l b).signed) := r1.cell 1 _ rfl
  have c9 : w1.cell? ⟨mg, 9, none⟩ = some (.int .i64 c.size19) := (h.keep hb1).row.cell 9 _ rfl
  obtain ⟨R, HR⟩ : ∃ R, Hid (R = layC c l B b) := ⟨_, rfl⟩
  have MD : Hid (∀ W, Below w.heap.size w W → MdM N W mg rg nb so cap c l B) := fun W hW => h.keep hW
  have HB1 : Hid (YW w (fdC (findC c l b)) w1) := ⟨hb1, r1⟩
  have FIN : Hid (∀ (W : World) (n : Nat), Below w.heap.size w W → R = (n, B) → LayP N mg rg nb so c l B b w (.returned (.int .i64 (n : Int))) W) := fun W n hW e => by
    unfold LayP
    rw [← HR.out, e]
    exact ⟨rfl, ⟨so, cap, h.keep hW⟩, (LyB.refl w).keep hW⟩
  unfold layC at HR
  clear hb1 r1
  by_cases h0 : (findC c l b).wrong = 0
  · rw [h0] at c0
    cases hsg : (findC c l b).signed with
    | false =>
      have F0 := FIN.out
      have HQ : Hid (R = (0, B)) := HR.out.trans (if_pos (.inr (.inl hsg)))
      rw [hsg] at c1
      clear HR h0 hsg hnew h MD hb F0
      generalize findC c l b = F at *
      go_enter Tryz.func75, Tryz.ntmps75
      go_wp2_with (rw [← hw1]; have hz := hw1; clear hz hw1)
      go_ret
      exact FIN.out w1 0 HB1.out.bel HQ.out
    | true =>
      rw [hsg] at c1
      by_cases hz : c.size19 < b.length
      · have HQ : Hid (R = (0, B)) := HR.out.trans (if_pos (.inr (.inr hz)))
        clear HR h0 hsg hnew h MD hb
        generalize findC c l b = F at *
        generalize c.size19 = SZ at *
        generalize b.length = bl at *
        go_enter Tryz.func75, Tryz.ntmps75
        go_wp2_with (rw [← hw1]; have hz := hw1; clear hz hw1)
        go_ret
        exact FIN.out w1 0 HB1.out.bel HQ.out
      · have hj := hnew h0 hsg hz
        cases hf : B.findIdx? (· == b) with
        | none => rw [hf] at hj; cases hj
        | some j =>
          have HQ : Hid (R = (j + 1, B)) := by
            have := HR.out
            rw [if_neg (by rintro (q | q | q); exact q h0; rw [hsg] at q; cases q; exact hz q), hf] at this
            exact this
          have LK : Hid (∀ W, Below w.heap.size w W → (Instr.lookup 93 (.map (some nb)) (.string (strOf b)) true).run Tryz.prog W = .ok (.tuple #[.int .i64 ((j + 1 : Nat) : Int), .bool true]) W) := fun W hW => ms_look_some (MD.out W hW).num b j hf
          have CV : Hid (∀ W, Below w.heap.size w W → (convert 32 9 (.slice bo b.length bc)).run Tryz.prog W = .ok (.string (strOf b)) W) := fun W hW => conv_bytes W bo b.length bc b rfl (hb.below hW (Nat.le_refl _))
          have CM : Hid (∀ W, Below w.heap.size w W → W.cell? ⟨mg, 11, none⟩ = some (.map (some nb))) := fun W hW => (MD.out W hW).row.cell 11 _ rfl
          clear HR h0 hsg hnew h MD hb hf hj
          generalize findC c l b = F at *
          generalize c.size19 = SZ at *
          generalize strOf b = SB at *
          generalize b.length = bl at *
          go_enter Tryz.func75, Tryz.ntmps75
          go_wp2_with (rw [← hw1]; have hz := hw1; clear hz hw1)
          refine wp_region_inv (ILY3S w w (fdC F) mg nb bo bl bc SB j _ _ _ _ _ _ _ _ _ _ _ _ _ _ _ _ _ _ _ _ _ _ _ _ _ _ _ _ _ _ _ _ _ _ _ _ _ _ _ _ _ _ _ _ _ _ _ _ _ _ _ _) (by kernel_rfl) (by kernel_rfl) ⟨_, _, _, _, _, _, _, _, _, _, _, _, rfl, ⟨HB1.out.drew, fun k => (by cases k), fun k => (by cases k), fun k => (by cases k), fun k => (by cases k), fun k => (by cases k), fun k => (by cases k), fun k => (by cases k), fun k => (by cases k), fun k => (by cases k), fun k => (by cases k), fun k => (by cases k), fun k => (by cases k)⟩⟩ ?_ ?_
          · refine .cons ?_ (.cons ?_ (.cons ?_ (.cons ?_ (.cons ?_ (.cons ?_ (.cons ?_ (.cons ?_ (.cons ?_ (.cons ?_ (.cons ?_ (.cons ?_ .nil)))))))))))
            all_goals (refine LY3S.step ?_; intro x27 x28 x29 x30 x31 x32 x33 x26 x34 x35 x7 x8 L W hI hL hd K hK)
            · rw [if_pos (by rfl)]
              go_simp
              exact hK.out _ _ ⟨_, _, _, _, _, _, _, _, _, _, _, _, rfl, hI.s0⟩
            · have hx0 := hI.p0 (hd 0 (by decide))
              subst hx0
              rw [if_pos (by rfl)]
              go_simp
              exact hK.out _ _ ⟨_, _, _, _, _, _, _, _, _, _, _, _, rfl, hI.s1⟩
            · have hx1 := hI.p1 (hd 1 (by decide))
              subst hx1
              rw [if_pos (by rfl)]
              go_simp
              exact hK.out _ _ ⟨_, _, _, _, _, _, _, _, _, _, _, _, rfl, hI.s2⟩
            · have hx2 := hI.p2 (hd 2 (by decide))
              subst hx2
              rw [if_pos (by rfl)]
              have hc := CM.out _ hI.x.bel
              go_simp
              exact hK.out _ _ ⟨_, _, _, _, _, _, _, _, _, _, _, _, rfl, hI.s3⟩
            · rw [if_pos (by rfl)]
              go_simp
              exact hK.out _ _ ⟨_, _, _, _, _, _, _, _, _, _, _, _, rfl, hI.s4⟩
            · have hx4 := hI.p4 (hd 4 (by decide))
              subst hx4
              rw [if_pos (by rfl)]
              have hcv := CV.out _ hI.x.bel
              go_simp
              exact hK.out _ _ ⟨_, _, _, _, _, _, _, _, _, _, _, _, rfl, hI.s5⟩
            · have hx3 := hI.p3 (hd 3 (by decide))
              subst hx3
              have hx5 := hI.p5 (hd 5 (by decide))
              subst hx5
              rw [if_pos (by rfl)]
              have hlk := LK.out _ hI.x.bel
              go_simp
              exact hK.out _ _ ⟨_, _, _, _, _, _, _, _, _, _, _, _, rfl, hI.s6⟩
            · have hx6 := hI.p6 (hd 6 (by decide))
              subst hx6
              rw [if_pos (by rfl)]
              go_simp
              exact hK.out _ _ ⟨_, _, _, _, _, _, _, _, _, _, _, _, rfl, hI.s7⟩
            · have hx7 := hI.p7 (hd 7 (by decide))
              subst hx7
              rw [if_pos (by rfl)]
              go_simp
              exact hK.out _ _ ⟨_, _, _, _, _, _, _, _, _, _, _, _, rfl, hI.s8⟩
            · have hx7 := hI.p7 (hd 7 (by decide))
              subst hx7
              rw [if_pos (by rfl)]
              go_simp
              exact hK.out _ _ ⟨_, _, _, _, _, _, _, _, _, _, _, _, rfl, hI.s9⟩
            · have hx8 := hI.p8 (hd 8 (by decide))
              subst hx8
              rw [if_pos (by rfl)]
              go_simp
              exact hK.out _ _ ⟨_, _, _, _, _, _, _, _, _, _, _, _, rfl, hI.s10⟩
            · have hx9 := hI.p9 (hd 9 (by decide))
              subst hx9
              rw [if_pos (by rfl)]
              go_simp
              exact hK.out _ _ ⟨_, _, _, _, _, _, _, _, _, _, _, _, rfl, hI.s11⟩
          · refine LY3S.ends ?_; intro x27 x28 x29 x30 x31 x32 x33 x26 x34 x35 x7 x8 L W hall hI
            have hx0 := hI.p0 (hall 0 (by decide))
            subst hx0
            have hx1 := hI.p1 (hall 1 (by decide))
            subst hx1
            have hx2 := hI.p2 (hall 2 (by decide))
            subst hx2
            have hx3 := hI.p3 (hall 3 (by decide))
            subst hx3
            have hx4 := hI.p4 (hall 4 (by decide))
            subst hx4
            have hx5 := hI.p5 (hall 5 (by decide))
            subst hx5
            have hx6 := hI.p6 (hall 6 (by decide))
            subst hx6
            have hx7 := hI.p7 (hall 7 (by decide))
            subst hx7
            have hx8 := hI.p8 (hall 8 (by decide))
            subst hx8
            have hx9 := hI.p9 (hall 9 (by decide))
            subst hx9
            have hx10 := hI.p10 (hall 10 (by decide))
            subst hx10
            have hx11 := hI.p11 (hall 11 (by decide))
            subst hx11
            have hXe := hI.x
            clear hI hall
            try dsimp only
            go_wp2
            go_ret
            exact FIN.out W (j + 1) hXe.bel HQ.out
  · have HQ : Hid (R = (0, B)) := HR.out.trans (if_pos (.inl h0))
    clear HR hnew h MD hb
    generalize findC c l b = F at *
    go_enter Tryz.func75, Tryz.ntmps75
    go_wp2_with (rw [← hw1]; have hz := hw1; clear hz hw1)
    go_ret
    exact FIN.out w1 0 HB1.out.bel HQ.out
end Go.Proofs.YtpcgkjngpdplmaaGreatDoor
