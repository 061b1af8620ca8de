
import Derived.Test.YtpcgkjngpdplmaaGreatDoorN19P
/-! The code's model: find, of an image. (Printed by tools/genn19.py.) -/
namespace Go.Proofs.YtpcgkjngpdplmaaGreatDoor
open Go.RowKit Go.Maps
set_option linter.unusedVariables false
set_option linter.unusedSimpArgs false

/-- Besides: what was found so far. -/
structure FR (w : World) (G Gf : Nat) (IM : List Value) (f : Fd) (W : World) : Prop where
  fp : FP w G IM .nilIface 0 W
  row : Row W Gf 89 (fdC f)
  lo : G + 1 ≤ Gf
section
variable {w W W2 : World} {G Gf : Nat} {IM : List Value} {f f2 : Fd}
theorem FR.keep (h : FR w G Gf IM f W) (hb : Below W.heap.size W W2) : FR w G Gf IM f W2 := ⟨h.fp.keep hb, h.row.below hb h.row.lt, h.lo⟩
theorem FR.drew (h : FR w G Gf IM f W) : FR w G Gf IM f W.drew := ⟨h.fp.drew, h.row.drew, h.lo⟩
theorem FR.set (h : FR w G Gf IM f W) (i : Nat) (v : Value) (e : (fdC f).set i v = fdC f2) : FR w G Gf IM f2 (W.setCell ⟨Gf, i, none⟩ v) := ⟨h.fp.set h.lo i v, by rw [← e]; exact h.row.set i v, h.lo⟩
end
theorem own_low {N M : Nat} {w : World} {v : Value} {m : List By} (h : Own M w v m) (hN : N ≤ M) : Own N w v m := by
  refine ⟨⟨h.1.1, ?_⟩, Nat.le_trans hN h.2⟩
  rcases h.1.2 with h1 | ⟨g, c, cur, e, hg, hr⟩
  · exact .inl h1
  · exact .inr ⟨g, c, cur, e, Nat.le_trans hN hg, hr⟩
theorem own_nilc {N : Nat} {w : World} {ao : Option Addr} {n c : Nat} {m : List By} (h : Own N w (.slice ao n c) m) : ao = none → c = 0 := by
  rintro rfl
  rcases h.1.2 with ⟨h1, _⟩ | ⟨g, c', cur, h1, _⟩
  · injection h1
  · cases h1
structure FD2O (W1 : World) (w : World) (G : Nat) (IM : List Value) (ev : Value) (E : Int) (sl ky vr : Nat) (L : Nat → Bool) (x15 x16 x17 x18 x19 x20 x21 x22 x23 x7 : Value) (W : World) : Prop where
  x : AS (FP w G IM ev E) 89 (G + 1) (fdC fd0) (fdC ⟨E, false, sl, ky, vr⟩) (L 9) (L 10) x7 W
  p0 : L 0 = true → x15 = ev
  p1 : L 1 = true → x16 = .int .i64 E
  p2 : L 2 = true → x17 = .pointer (some ⟨G, 0, none⟩)
  p3 : L 3 = true → x18 = .int .i64 (sl : Int)
  p4 : L 4 = true → x19 = .pointer (some ⟨G, 1, none⟩)
  p5 : L 5 = true → x20 = .int .i64 (ky : Int)
  p6 : L 6 = true → x21 = .pointer (some ⟨G, 2, none⟩)
  p7 : L 7 = true → x22 = .int .i64 (vr : Int)
  p8 : L 8 = true → x23 = .agg (fdC ⟨E, false, sl, ky, vr⟩).toArray
  c10_9 : L 10 = true → L 9 = true
section
variable {W1 : World} {w : World} {G : Nat} {IM : List Value} {ev : Value} {E : Int} {sl ky vr : Nat} {L : Nat → Bool} {x15 x16 x17 x18 x19 x20 x21 x22 x23 x7 : Value} {W W2 : World}
theorem FD2O.s0 (h : FD2O W1 w G IM ev E sl ky vr L x15 x16 x17 x18 x19 x20 x21 x22 x23 x7 W) : FD2O W1 w G IM ev E sl ky vr (upd L 0) (ev) x16 x17 x18 x19 x20 x21 x22 x23 x7 W :=
  ⟨h.x, fun _ => rfl, h.p1, h.p2, h.p3, h.p4, h.p5, h.p6, h.p7, h.p8, h.c10_9⟩
theorem FD2O.s1 (h : FD2O W1 w G IM ev E sl ky vr L x15 x16 x17 x18 x19 x20 x21 x22 x23 x7 W) (hX : AS (FP w G IM ev E) 89 (G + 1) (fdC fd0) (fdC ⟨E, false, sl, ky, vr⟩) ((upd L 1) 9) ((upd L 1) 10) x7 W2) : FD2O W1 w G IM ev E sl ky vr (upd L 1) x15 (.int .i64 E) x17 x18 x19 x20 x21 x22 x23 x7 W2 :=
  ⟨hX, h.p0, fun _ => rfl, h.p2, h.p3, h.p4, h.p5, h.p6, h.p7, h.p8, h.c10_9⟩
theorem FD2O.s2 (h : FD2O W1 w G IM ev E sl ky vr L x15 x16 x17 x18 x19 x20 x21 x22 x23 x7 W) : FD2O W1 w G IM ev E sl ky vr (upd L 2) x15 x16 (.pointer (some ⟨G, 0, none⟩)) x18 x19 x20 x21 x22 x23 x7 W :=
  ⟨h.x, h.p0, h.p1, fun _ => rfl, h.p3, h.p4, h.p5, h.p6, h.p7, h.p8, h.c10_9⟩
theorem FD2O.s3 (h : FD2O W1 w G IM ev E sl ky vr L x15 x16 x17 x18 x19 x20 x21 x22 x23 x7 W) : FD2O W1 w G IM ev E sl ky vr (upd L 3) x15 x16 x17 (.int .i64 (sl : Int)) x19 x20 x21 x22 x23 x7 W :=
  ⟨h.x, h.p0, h.p1, h.p2, fun _ => rfl, h.p4, h.p5, h.p6, h.p7, h.p8, h.c10_9⟩
theorem FD2O.s4 (h : FD2O W1 w G IM ev E sl ky vr L x15 x16 x17 x18 x19 x20 x21 x22 x23 x7 W) : FD2O W1 w G IM ev E sl ky vr (upd L 4) x15 x16 x17 x18 (.pointer (some ⟨G, 1, none⟩)) x20 x21 x22 x23 x7 W :=
  ⟨h.x, h.p0, h.p1, h.p2, h.p3, fun _ => rfl, h.p5, h.p6, h.p7, h.p8, h.c10_9⟩
theorem FD2O.s5 (h : FD2O W1 w G IM ev E sl ky vr L x15 x16 x17 x18 x19 x20 x21 x22 x23 x7 W) : FD2O W1 w G IM ev E sl ky vr (upd L 5) x15 x16 x17 x18 x19 (.int .i64 (ky : Int)) x21 x22 x23 x7 W :=
  ⟨h.x, h.p0, h.p1, h.p2, h.p3, h.p4, fun _ => rfl, h.p6, h.p7, h.p8, h.c10_9⟩
theorem FD2O.s6 (h : FD2O W1 w G IM ev E sl ky vr L x15 x16 x17 x18 x19 x20 x21 x22 x23 x7 W) : FD2O W1 w G IM ev E sl ky vr (upd L 6) x15 x16 x17 x18 x19 x20 (.pointer (some ⟨G, 2, none⟩)) x22 x23 x7 W :=
  ⟨h.x, h.p0, h.p1, h.p2, h.p3, h.p4, h.p5, fun _ => rfl, h.p7, h.p8, h.c10_9⟩
theorem FD2O.s7 (h : FD2O W1 w G IM ev E sl ky vr L x15 x16 x17 x18 x19 x20 x21 x22 x23 x7 W) : FD2O W1 w G IM ev E sl ky vr (upd L 7) x15 x16 x17 x18 x19 x20 x21 (.int .i64 (vr : Int)) x23 x7 W :=
  ⟨h.x, h.p0, h.p1, h.p2, h.p3, h.p4, h.p5, h.p6, fun _ => rfl, h.p8, h.c10_9⟩
theorem FD2O.s8 (h : FD2O W1 w G IM ev E sl ky vr L x15 x16 x17 x18 x19 x20 x21 x22 x23 x7 W) : FD2O W1 w G IM ev E sl ky vr (upd L 8) x15 x16 x17 x18 x19 x20 x21 x22 (.agg (fdC ⟨E, false, sl, ky, vr⟩).toArray) x7 W :=
  ⟨h.x, h.p0, h.p1, h.p2, h.p3, h.p4, h.p5, h.p6, h.p7, fun _ => rfl, h.c10_9⟩
theorem FD2O.s9 (h : FD2O W1 w G IM ev E sl ky vr L x15 x16 x17 x18 x19 x20 x21 x22 x23 x7 W) {v : Value} (hX : AS (FP w G IM ev E) 89 (G + 1) (fdC fd0) (fdC ⟨E, false, sl, ky, vr⟩) ((upd L 9) 9) ((upd L 9) 10) v W2) : FD2O W1 w G IM ev E sl ky vr (upd L 9) x15 x16 x17 x18 x19 x20 x21 x22 x23 v W2 :=
  ⟨hX, h.p0, h.p1, h.p2, h.p3, h.p4, h.p5, h.p6, h.p7, h.p8, fun _ => rfl⟩
theorem FD2O.s10 (h : FD2O W1 w G IM ev E sl ky vr L x15 x16 x17 x18 x19 x20 x21 x22 x23 x7 W) (hX : AS (FP w G IM ev E) 89 (G + 1) (fdC fd0) (fdC ⟨E, false, sl, ky, vr⟩) ((upd L 10) 9) ((upd L 10) 10) x7 W2) (hc9 : L 9 = true) : FD2O W1 w G IM ev E sl ky vr (upd L 10) x15 x16 x17 x18 x19 x20 x21 x22 x23 x7 W2 :=
  ⟨hX, h.p0, h.p1, h.p2, h.p3, h.p4, h.p5, h.p6, h.p7, h.p8, fun _ => hc9⟩
end
@[reducible] def IFD2O (W1 : World) (w : World) (G : Nat) (IM : List Value) (ev : Value) (E : Int) (sl ky vr : Nat) (y0 y1 y2 y3 y4 y5 y6 y8 y9 y10 y11 y12 y13 y14 y24 y25 y26 y27 y28 y29 y30 y31 y32 y33 y34 y35 y36 y37 y38 y39 y40 y41 y42 y43 y44 y45 y46 y47 y48 y49 y50 y51 y52 y53 y54 y55 y56 y57 y58 y59 y60 y61 y62 y63 y64 y65 y66 y67 y68 y69 y70 y71 y72 : Value) : (Nat → Bool) → Act → World → Prop := fun L a W => ∃ x15 x16 x17 x18 x19 x20 x21 x22 x23 x7, a = ⟨#[y0, y1, y2, y3, y4, y5, y6, x7, y8, y9, y10, y11, y12, y13, y14, x15, x16, x17, x18, x19, x20, x21, x22, x23, y24, y25, y26, y27, y28, y29, y30, y31, y32, y33, y34, y35, y36, y37, y38, y39, y40, y41, y42, y43, y44, y45, y46, y47, y48, y49, y50, y51, y52, y53, y54, y55, y56, y57, y58, y59, y60, y61, y62, y63, y64, y65, y66, y67, y68, y69, y70, y71, y72], []⟩ ∧ FD2O W1 w G IM ev E sl ky vr L x15 x16 x17 x18 x19 x20 x21 x22 x23 x7 W
theorem FD2O.step {W1 : World} {w : World} {G : Nat} {IM : List Value} {ev : Value} {E : Int} {sl ky vr : Nat} {y0 y1 y2 y3 y4 y5 y6 y8 y9 y10 y11 y12 y13 y14 y24 y25 y26 y27 y28 y29 y30 y31 y32 y33 y34 y35 y36 y37 y38 y39 y40 y41 y42 y43 y44 y45 y46 y47 y48 y49 y50 y51 y52 y53 y54 y55 y56 y57 y58 y59 y60 y61 y62 y63 y64 y65 y66 y67 y68 y69 y70 y71 y72 : Value} {P : Program} {ops : Array Oper} {Q : Exit → Act → World → Prop} {i : Nat} {o : Oper} (hq : ∀ x15 x16 x17 x18 x19 x20 x21 x22 x23 x7 (L : Nat → Bool) (W : World), FD2O W1 w G IM ev E sl ky vr L x15 x16 x17 x18 x19 x20 x21 x22 x23 x7 W → L i = false → (∀ j ∈ onesOf o, L j = true) → ∀ K : Act → World → Prop, Shut (∀ a' w', IFD2O W1 w G IM ev E sl ky vr y0 y1 y2 y3 y4 y5 y6 y8 y9 y10 y11 y12 y13 y14 y24 y25 y26 y27 y28 y29 y30 y31 y32 y33 y34 y35 y36 y37 y38 y39 y40 y41 y42 y43 y44 y45 y46 y47 y48 y49 y50 y51 y52 y53 y54 y55 y56 y57 y58 y59 y60 y61 y62 y63 y64 y65 y66 y67 y68 y69 y70 y71 y72 (upd L i) a' w' → K a' w') → if Region.wanted o (yielded ops (⟨#[y0, y1, y2, y3, y4, y5, y6, x7, y8, y9, y10, y11, y12, y13, y14, x15, x16, x17, x18, x19, x20, x21, x22, x23, y24, y25, y26, y27, y28, y29, y30, y31, y32, y33, y34, y35, y36, y37, y38, y39, y40, y41, y42, y43, y44, y45, y46, y47, y48, y49, y50, y51, y52, y53, y54, y55, y56, y57, y58, y59, y60, y61, y62, y63, y64, y65, y66, y67, y68, y69, y70, y71, y72], []⟩ : Act).tmps) = true then Oper.wp P o ⟨#[y0, y1, y2, y3, y4, y5, y6, x7, y8, y9, y10, y11, y12, y13, y14, x15, x16, x17, x18, x19, x20, x21, x22, x23, y24, y25, y26, y27, y28, y29, y30, y31, y32, y33, y34, y35, y36, y37, y38, y39, y40, y41, y42, y43, y44, y45, y46, y47, y48, y49, y50, y51, y52, y53, y54, y55, y56, y57, y58, y59, y60, y61, y62, y63, y64, y65, y66, y67, y68, y69, y70, y71, y72], []⟩ W K Q else K ((⟨#[y0, y1, y2, y3, y4, y5, y6, x7, y8, y9, y10, y11, y12, y13, y14, x15, x16, x17, x18, x19, x20, x21, x22, x23, y24, y25, y26, y27, y28, y29, y30, y31, y32, y33, y34, y35, y36, y37, y38, y39, y40, y41, y42, y43, y44, y45, y46, y47, y48, y49, y50, y51, y52, y53, y54, y55, y56, y57, y58, y59, y60, y61, y62, y63, y64, y65, y66, y67, y68, y69, y70, y71, y72], []⟩ : Act).put o.dst undef) W) : StepI P ops (IFD2O W1 w G IM ev E sl ky vr y0 y1 y2 y3 y4 y5 y6 y8 y9 y10 y11 y12 y13 y14 y24 y25 y26 y27 y28 y29 y30 y31 y32 y33 y34 y35 y36 y37 y38 y39 y40 y41 y42 y43 y44 y45 y46 y47 y48 y49 y50 y51 y52 y53 y54 y55 y56 y57 y58 y59 y60 y61 y62 y63 y64 y65 y66 y67 y68 y69 y70 y71 y72) Q i o := by
  rintro L a W ⟨x15, x16, x17, x18, x19, x20, x21, x22, x23, x7, rfl, h⟩
  exact hq _ _ _ _ _ _ _ _ _ _ _ _ h
theorem FD2O.ends {W1 : World} {w : World} {G : Nat} {IM : List Value} {ev : Value} {E : Int} {sl ky vr : Nat} {y0 y1 y2 y3 y4 y5 y6 y8 y9 y10 y11 y12 y13 y14 y24 y25 y26 y27 y28 y29 y30 y31 y32 y33 y34 y35 y36 y37 y38 y39 y40 y41 y42 y43 y44 y45 y46 y47 y48 y49 y50 y51 y52 y53 y54 y55 y56 y57 y58 y59 y60 y61 y62 y63 y64 y65 y66 y67 y68 y69 y70 y71 y72 : Value} {mm_ : Nat} {Q : Exit → Act → World → Prop} (hq : ∀ x15 x16 x17 x18 x19 x20 x21 x22 x23 x7 (L : Nat → Bool) (W : World), (∀ j, j < mm_ → L j = true) → FD2O W1 w G IM ev E sl ky vr L x15 x16 x17 x18 x19 x20 x21 x22 x23 x7 W → Q .normal ⟨#[y0, y1, y2, y3, y4, y5, y6, x7, y8, y9, y10, y11, y12, y13, y14, x15, x16, x17, x18, x19, x20, x21, x22, x23, y24, y25, y26, y27, y28, y29, y30, y31, y32, y33, y34, y35, y36, y37, y38, y39, y40, y41, y42, y43, y44, y45, y46, y47, y48, y49, y50, y51, y52, y53, y54, y55, y56, y57, y58, y59, y60, y61, y62, y63, y64, y65, y66, y67, y68, y69, y70, y71, y72], []⟩ W) : ∀ L a' w', (∀ j, j < mm_ → L j = true) → IFD2O W1 w G IM ev E sl ky vr y0 y1 y2 y3 y4 y5 y6 y8 y9 y10 y11 y12 y13 y14 y24 y25 y26 y27 y28 y29 y30 y31 y32 y33 y34 y35 y36 y37 y38 y39 y40 y41 y42 y43 y44 y45 y46 y47 y48 y49 y50 y51 y52 y53 y54 y55 y56 y57 y58 y59 y60 y61 y62 y63 y64 y65 y66 y67 y68 y69 y70 y71 y72 L a' w' → Q .normal a' w' := by
  rintro L a W hall ⟨x15, x16, x17, x18, x19, x20, x21, x22, x23, x7, rfl, h⟩
  exact hq _ _ _ _ _ _ _ _ _ _ _ _ hall h
structure FD8N (W1 : World) (w : World) (G Gf : Nat) (IM : List Value) (f : Fd) (mg ky : Nat) (L : Nat → Bool) (x56 x57 x58 x59 x60 x61 x62 x63 x64 x65 x66 x67 x68 x69 x70 x55 : Value) (W : World) : Prop where
  x : FR w G Gf IM f W
  p0 : L 0 = true → x56 = .pointer (some ⟨mg, 0, none⟩)
  p1 : L 1 = true → x57 = .pointer (some ⟨G, 1, none⟩)
  p2 : L 2 = true → x58 = .int .i64 (ky : Int)
  p3 : L 3 = true → x59 = .bool false
  p4 : L 4 = true → x60 = .bool true
  p5 : L 5 = true → x61 = .bool true
  p14 : L 14 = true → x70 = .bool true
  p15 : L 15 = true → x55 = .bool true
section
variable {W1 : World} {w : World} {G Gf : Nat} {IM : List Value} {f : Fd} {mg ky : Nat} {L : Nat → Bool} {x56 x57 x58 x59 x60 x61 x62 x63 x64 x65 x66 x67 x68 x69 x70 x55 : Value} {W W2 : World}
theorem FD8N.s0 (h : FD8N W1 w G Gf IM f mg ky L x56 x57 x58 x59 x60 x61 x62 x63 x64 x65 x66 x67 x68 x69 x70 x55 W) : FD8N W1 w G Gf IM f mg ky (upd L 0) (.pointer (some ⟨mg, 0, none⟩)) x57 x58 x59 x60 x61 x62 x63 x64 x65 x66 x67 x68 x69 x70 x55 W :=
  ⟨h.x, fun _ => rfl, h.p1, h.p2, h.p3, h.p4, h.p5, h.p14, h.p15⟩
theorem FD8N.s1 (h : FD8N W1 w G Gf IM f mg ky L x56 x57 x58 x59 x60 x61 x62 x63 x64 x65 x66 x67 x68 x69 x70 x55 W) : FD8N W1 w G Gf IM f mg ky (upd L 1) x56 (.pointer (some ⟨G, 1, none⟩)) x58 x59 x60 x61 x62 x63 x64 x65 x66 x67 x68 x69 x70 x55 W :=
  ⟨h.x, h.p0, fun _ => rfl, h.p2, h.p3, h.p4, h.p5, h.p14, h.p15⟩
theorem FD8N.s2 (h : FD8N W1 w G Gf IM f mg ky L x56 x57 x58 x59 x60 x61 x62 x63 x64 x65 x66 x67 x68 x69 x70 x55 W) : FD8N W1 w G Gf IM f mg ky (upd L 2) x56 x57 (.int .i64 (ky : Int)) x59 x60 x61 x62 x63 x64 x65 x66 x67 x68 x69 x70 x55 W :=
  ⟨h.x, h.p0, h.p1, fun _ => rfl, h.p3, h.p4, h.p5, h.p14, h.p15⟩
theorem FD8N.s3 (h : FD8N W1 w G Gf IM f mg ky L x56 x57 x58 x59 x60 x61 x62 x63 x64 x65 x66 x67 x68 x69 x70 x55 W) (hX : FR w G Gf IM f W2) : FD8N W1 w G Gf IM f mg ky (upd L 3) x56 x57 x58 (.bool false) x60 x61 x62 x63 x64 x65 x66 x67 x68 x69 x70 x55 W2 :=
  ⟨hX, h.p0, h.p1, h.p2, fun _ => rfl, h.p4, h.p5, h.p14, h.p15⟩
theorem FD8N.s4 (h : FD8N W1 w G Gf IM f mg ky L x56 x57 x58 x59 x60 x61 x62 x63 x64 x65 x66 x67 x68 x69 x70 x55 W) : FD8N W1 w G Gf IM f mg ky (upd L 4) x56 x57 x58 x59 (.bool true) x61 x62 x63 x64 x65 x66 x67 x68 x69 x70 x55 W :=
  ⟨h.x, h.p0, h.p1, h.p2, h.p3, fun _ => rfl, h.p5, h.p14, h.p15⟩
theorem FD8N.s5 (h : FD8N W1 w G Gf IM f mg ky L x56 x57 x58 x59 x60 x61 x62 x63 x64 x65 x66 x67 x68 x69 x70 x55 W) : FD8N W1 w G Gf IM f mg ky (upd L 5) x56 x57 x58 x59 x60 (.bool true) x62 x63 x64 x65 x66 x67 x68 x69 x70 x55 W :=
  ⟨h.x, h.p0, h.p1, h.p2, h.p3, h.p4, fun _ => rfl, h.p14, h.p15⟩
theorem FD8N.s6 (h : FD8N W1 w G Gf IM f mg ky L x56 x57 x58 x59 x60 x61 x62 x63 x64 x65 x66 x67 x68 x69 x70 x55 W) : FD8N W1 w G Gf IM f mg ky (upd L 6) x56 x57 x58 x59 x60 x61 undef x63 x64 x65 x66 x67 x68 x69 x70 x55 W :=
  ⟨h.x, h.p0, h.p1, h.p2, h.p3, h.p4, h.p5, h.p14, h.p15⟩
theorem FD8N.s7 (h : FD8N W1 w G Gf IM f mg ky L x56 x57 x58 x59 x60 x61 x62 x63 x64 x65 x66 x67 x68 x69 x70 x55 W) : FD8N W1 w G Gf IM f mg ky (upd L 7) x56 x57 x58 x59 x60 x61 x62 undef x64 x65 x66 x67 x68 x69 x70 x55 W :=
  ⟨h.x, h.p0, h.p1, h.p2, h.p3, h.p4, h.p5, h.p14, h.p15⟩
theorem FD8N.s8 (h : FD8N W1 w G Gf IM f mg ky L x56 x57 x58 x59 x60 x61 x62 x63 x64 x65 x66 x67 x68 x69 x70 x55 W) : FD8N W1 w G Gf IM f mg ky (upd L 8) x56 x57 x58 x59 x60 x61 x62 x63 undef x65 x66 x67 x68 x69 x70 x55 W :=
  ⟨h.x, h.p0, h.p1, h.p2, h.p3, h.p4, h.p5, h.p14, h.p15⟩
theorem FD8N.s9 (h : FD8N W1 w G Gf IM f mg ky L x56 x57 x58 x59 x60 x61 x62 x63 x64 x65 x66 x67 x68 x69 x70 x55 W) : FD8N W1 w G Gf IM f mg ky (upd L 9) x56 x57 x58 x59 x60 x61 x62 x63 x64 undef x66 x67 x68 x69 x70 x55 W :=
  ⟨h.x, h.p0, h.p1, h.p2, h.p3, h.p4, h.p5, h.p14, h.p15⟩
theorem FD8N.s10 (h : FD8N W1 w G Gf IM f mg ky L x56 x57 x58 x59 x60 x61 x62 x63 x64 x65 x66 x67 x68 x69 x70 x55 W) : FD8N W1 w G Gf IM f mg ky (upd L 10) x56 x57 x58 x59 x60 x61 x62 x63 x64 x65 undef x67 x68 x69 x70 x55 W :=
  ⟨h.x, h.p0, h.p1, h.p2, h.p3, h.p4, h.p5, h.p14, h.p15⟩
theorem FD8N.s11 (h : FD8N W1 w G Gf IM f mg ky L x56 x57 x58 x59 x60 x61 x62 x63 x64 x65 x66 x67 x68 x69 x70 x55 W) : FD8N W1 w G Gf IM f mg ky (upd L 11) x56 x57 x58 x59 x60 x61 x62 x63 x64 x65 x66 undef x68 x69 x70 x55 W :=
  ⟨h.x, h.p0, h.p1, h.p2, h.p3, h.p4, h.p5, h.p14, h.p15⟩
theorem FD8N.s12 (h : FD8N W1 w G Gf IM f mg ky L x56 x57 x58 x59 x60 x61 x62 x63 x64 x65 x66 x67 x68 x69 x70 x55 W) : FD8N W1 w G Gf IM f mg ky (upd L 12) x56 x57 x58 x59 x60 x61 x62 x63 x64 x65 x66 x67 undef x69 x70 x55 W :=
  ⟨h.x, h.p0, h.p1, h.p2, h.p3, h.p4, h.p5, h.p14, h.p15⟩
theorem FD8N.s13 (h : FD8N W1 w G Gf IM f mg ky L x56 x57 x58 x59 x60 x61 x62 x63 x64 x65 x66 x67 x68 x69 x70 x55 W) : FD8N W1 w G Gf IM f mg ky (upd L 13) x56 x57 x58 x59 x60 x61 x62 x63 x64 x65 x66 x67 x68 undef x70 x55 W :=
  ⟨h.x, h.p0, h.p1, h.p2, h.p3, h.p4, h.p5, h.p14, h.p15⟩
theorem FD8N.s14 (h : FD8N W1 w G Gf IM f mg ky L x56 x57 x58 x59 x60 x61 x62 x63 x64 x65 x66 x67 x68 x69 x70 x55 W) : FD8N W1 w G Gf IM f mg ky (upd L 14) x56 x57 x58 x59 x60 x61 x62 x63 x64 x65 x66 x67 x68 x69 (.bool true) x55 W :=
  ⟨h.x, h.p0, h.p1, h.p2, h.p3, h.p4, h.p5, fun _ => rfl, h.p15⟩
theorem FD8N.s15 (h : FD8N W1 w G Gf IM f mg ky L x56 x57 x58 x59 x60 x61 x62 x63 x64 x65 x66 x67 x68 x69 x70 x55 W) : FD8N W1 w G Gf IM f mg ky (upd L 15) x56 x57 x58 x59 x60 x61 x62 x63 x64 x65 x66 x67 x68 x69 x70 (.bool true) W :=
  ⟨h.x, h.p0, h.p1, h.p2, h.p3, h.p4, h.p5, h.p14, fun _ => rfl⟩
end
@[reducible] def IFD8N (W1 : World) (w : World) (G Gf : Nat) (IM : List Value) (f : Fd) (mg ky : Nat) (y0 y1 y2 y3 y4 y5 y6 y7 y8 y9 y10 y11 y12 y13 y14 y15 y16 y17 y18 y19 y20 y21 y22 y23 y24 y25 y26 y27 y28 y29 y30 y31 y32 y33 y34 y35 y36 y37 y38 y39 y40 y41 y42 y43 y44 y45 y46 y47 y48 y49 y50 y51 y52 y53 y54 y71 y72 : Value) : (Nat → Bool) → Act → World → Prop := fun L a W => ∃ x56 x57 x58 x59 x60 x61 x62 x63 x64 x65 x66 x67 x68 x69 x70 x55, a = ⟨#[y0, y1, y2, y3, y4, y5, y6, y7, y8, y9, y10, y11, y12, y13, y14, y15, y16, y17, y18, y19, y20, y21, y22, y23, y24, y25, y26, y27, y28, y29, y30, y31, y32, y33, y34, y35, y36, y37, y38, y39, y40, y41, y42, y43, y44, y45, y46, y47, y48, y49, y50, y51, y52, y53, y54, x55, x56, x57, x58, x59, x60, x61, x62, x63, x64, x65, x66, x67, x68, x69, x70, y71, y72], []⟩ ∧ FD8N W1 w G Gf IM f mg ky L x56 x57 x58 x59 x60 x61 x62 x63 x64 x65 x66 x67 x68 x69 x70 x55 W
theorem FD8N.step {W1 : World} {w : World} {G Gf : Nat} {IM : List Value} {f : Fd} {mg ky : Nat} {y0 y1 y2 y3 y4 y5 y6 y7 y8 y9 y10 y11 y12 y13 y14 y15 y16 y17 y18 y19 y20 y21 y22 y23 y24 y25 y26 y27 y28 y29 y30 y31 y32 y33 y34 y35 y36 y37 y38 y39 y40 y41 y42 y43 y44 y45 y46 y47 y48 y49 y50 y51 y52 y53 y54 y71 y72 : Value} {P : Program} {ops : Array Oper} {Q : Exit → Act → World → Prop} {i : Nat} {o : Oper} (hq : ∀ x56 x57 x58 x59 x60 x61 x62 x63 x64 x65 x66 x67 x68 x69 x70 x55 (L : Nat → Bool) (W : World), FD8N W1 w G Gf IM f mg ky L x56 x57 x58 x59 x60 x61 x62 x63 x64 x65 x66 x67 x68 x69 x70 x55 W → L i = false → (∀ j ∈ onesOf o, L j = true) → ∀ K : Act → World → Prop, Shut (∀ a' w', IFD8N W1 w G Gf IM f mg ky y0 y1 y2 y3 y4 y5 y6 y7 y8 y9 y10 y11 y12 y13 y14 y15 y16 y17 y18 y19 y20 y21 y22 y23 y24 y25 y26 y27 y28 y29 y30 y31 y32 y33 y34 y35 y36 y37 y38 y39 y40 y41 y42 y43 y44 y45 y46 y47 y48 y49 y50 y51 y52 y53 y54 y71 y72 (upd L i) a' w' → K a' w') → if Region.wanted o (yielded ops (⟨#[y0, y1, y2, y3, y4, y5, y6, y7, y8, y9, y10, y11, y12, y13, y14, y15, y16, y17, y18, y19, y20, y21, y22, y23, y24, y25, y26, y27, y28, y29, y30, y31, y32, y33, y34, y35, y36, y37, y38, y39, y40, y41, y42, y43, y44, y45, y46, y47, y48, y49, y50, y51, y52, y53, y54, x55, x56, x57, x58, x59, x60, x61, x62, x63, x64, x65, x66, x67, x68, x69, x70, y71, y72], []⟩ : Act).tmps) = true then Oper.wp P o ⟨#[y0, y1, y2, y3, y4, y5, y6, y7, y8, y9, y10, y11, y12, y13, y14, y15, y16, y17, y18, y19, y20, y21, y22, y23, y24, y25, y26, y27, y28, y29, y30, y31, y32, y33, y34, y35, y36, y37, y38, y39, y40, y41, y42, y43, y44, y45, y46, y47, y48, y49, y50, y51, y52, y53, y54, x55, x56, x57, x58, x59, x60, x61, x62, x63, x64, x65, x66, x67, x68, x69, x70, y71, y72], []⟩ W K Q else K ((⟨#[y0, y1, y2, y3, y4, y5, y6, y7, y8, y9, y10, y11, y12, y13, y14, y15, y16, y17, y18, y19, y20, y21, y22, y23, y24, y25, y26, y27, y28, y29, y30, y31, y32, y33, y34, y35, y36, y37, y38, y39, y40, y41, y42, y43, y44, y45, y46, y47, y48, y49, y50, y51, y52, y53, y54, x55, x56, x57, x58, x59, x60, x61, x62, x63, x64, x65, x66, x67, x68, x69, x70, y71, y72], []⟩ : Act).put o.dst undef) W) : StepI P ops (IFD8N W1 w G Gf IM f mg ky y0 y1 y2 y3 y4 y5 y6 y7 y8 y9 y10 y11 y12 y13 y14 y15 y16 y17 y18 y19 y20 y21 y22 y23 y24 y25 y26 y27 y28 y29 y30 y31 y32 y33 y34 y35 y36 y37 y38 y39 y40 y41 y42 y43 y44 y45 y46 y47 y48 y49 y50 y51 y52 y53 y54 y71 y72) Q i o := by
  rintro L a W ⟨x56, x57, x58, x59, x60, x61, x62, x63, x64, x65, x66, x67, x68, x69, x70, x55, rfl, h⟩
  exact hq _ _ _ _ _ _ _ _ _ _ _ _ _ _ _ _ _ _ h
theorem FD8N.ends {W1 : World} {w : World} {G Gf : Nat} {IM : List Value} {f : Fd} {mg ky : Nat} {y0 y1 y2 y3 y4 y5 y6 y7 y8 y9 y10 y11 y12 y13 y14 y15 y16 y17 y18 y19 y20 y21 y22 y23 y24 y25 y26 y27 y28 y29 y30 y31 y32 y33 y34 y35 y36 y37 y38 y39 y40 y41 y42 y43 y44 y45 y46 y47 y48 y49 y50 y51 y52 y53 y54 y71 y72 : Value} {mm_ : Nat} {Q : Exit → Act → World → Prop} (hq : ∀ x56 x57 x58 x59 x60 x61 x62 x63 x64 x65 x66 x67 x68 x69 x70 x55 (L : Nat → Bool) (W : World), (∀ j, j < mm_ → L j = true) → FD8N W1 w G Gf IM f mg ky L x56 x57 x58 x59 x60 x61 x62 x63 x64 x65 x66 x67 x68 x69 x70 x55 W → Q .normal ⟨#[y0, y1, y2, y3, y4, y5, y6, y7, y8, y9, y10, y11, y12, y13, y14, y15, y16, y17, y18, y19, y20, y21, y22, y23, y24, y25, y26, y27, y28, y29, y30, y31, y32, y33, y34, y35, y36, y37, y38, y39, y40, y41, y42, y43, y44, y45, y46, y47, y48, y49, y50, y51, y52, y53, y54, x55, x56, x57, x58, x59, x60, x61, x62, x63, x64, x65, x66, x67, x68, x69, x70, y71, y72], []⟩ W) : ∀ L a' w', (∀ j, j < mm_ → L j = true) → IFD8N W1 w G Gf IM f mg ky y0 y1 y2 y3 y4 y5 y6 y7 y8 y9 y10 y11 y12 y13 y14 y15 y16 y17 y18 y19 y20 y21 y22 y23 y24 y25 y26 y27 y28 y29 y30 y31 y32 y33 y34 y35 y36 y37 y38 y39 y40 y41 y42 y43 y44 y45 y46 y47 y48 y49 y50 y51 y52 y53 y54 y71 y72 L a' w' → Q .normal a' w' := by
  rintro L a W hall ⟨x56, x57, x58, x59, x60, x61, x62, x63, x64, x65, x66, x67, x68, x69, x70, x55, rfl, h⟩
  exact hq _ _ _ _ _ _ _ _ _ _ _ _ _ _ _ _ _ _ hall h
structure FD8F (W1 : World) (w : World) (G Gf : Nat) (IM : List Value) (f : Fd) (mg ky : Nat) (rg : Nat) (L : Nat → Bool) (x56 x57 x58 x59 x60 x61 x62 x63 x64 x65 x66 x67 x68 x69 x70 x55 : Value) (W : World) : Prop where
  x : FR w G Gf IM f W
  p0 : L 0 = true → x56 = .pointer (some ⟨mg, 0, none⟩)
  p1 : L 1 = true → x57 = .pointer (some ⟨G, 1, none⟩)
  p2 : L 2 = true → x58 = .int .i64 (ky : Int)
  p3 : L 3 = true → x59 = .bool true
  p4 : L 4 = true → x60 = .bool false
  p5 : L 5 = true → x61 = .bool false
  p6 : L 6 = true → x62 = .pointer (some ⟨mg, 0, none⟩)
  p7 : L 7 = true → x63 = .pointer (some ⟨mg, 0, none⟩)
  p8 : L 8 = true → x64 = .pointer (some ⟨mg, 7, none⟩)
  p9 : L 9 = true → x65 = .pointer (some ⟨rg, 0, none⟩)
  p10 : L 10 = true → x66 = .pointer (some ⟨G, 1, none⟩)
  p11 : L 11 = true → x67 = .int .i64 (ky : Int)
  p12 : L 12 = true → x68 = .bool false
  p13 : L 13 = true → x69 = .bool true
  p14 : L 14 = true → x70 = .bool true
  p15 : L 15 = true → x55 = .bool true
section
variable {W1 : World} {w : World} {G Gf : Nat} {IM : List Value} {f : Fd} {mg ky : Nat} {rg : Nat} {L : Nat → Bool} {x56 x57 x58 x59 x60 x61 x62 x63 x64 x65 x66 x67 x68 x69 x70 x55 : Value} {W W2 : World}
theorem FD8F.s0 (h : FD8F W1 w G Gf IM f mg ky rg L x56 x57 x58 x59 x60 x61 x62 x63 x64 x65 x66 x67 x68 x69 x70 x55 W) : FD8F W1 w G Gf IM f mg ky rg (upd L 0) (.pointer (some ⟨mg, 0, none⟩)) x57 x58 x59 x60 x61 x62 x63 x64 x65 x66 x67 x68 x69 x70 x55 W :=
  ⟨h.x, fun _ => rfl, h.p1, h.p2, h.p3, h.p4, h.p5, h.p6, h.p7, h.p8, h.p9, h.p10, h.p11, h.p12, h.p13, h.p14, h.p15⟩
theorem FD8F.s1 (h : FD8F W1 w G Gf IM f mg ky rg L x56 x57 x58 x59 x60 x61 x62 x63 x64 x65 x66 x67 x68 x69 x70 x55 W) : FD8F W1 w G Gf IM f mg ky rg (upd L 1) x56 (.pointer (some ⟨G, 1, none⟩)) x58 x59 x60 x61 x62 x63 x64 x65 x66 x67 x68 x69 x70 x55 W :=
  ⟨h.x, h.p0, fun _ => rfl, h.p2, h.p3, h.p4, h.p5, h.p6, h.p7, h.p8, h.p9, h.p10, h.p11, h.p12, h.p13, h.p14, h.p15⟩
theorem FD8F.s2 (h : FD8F W1 w G Gf IM f mg ky rg L x56 x57 x58 x59 x60 x61 x62 x63 x64 x65 x66 x67 x68 x69 x70 x55 W) : FD8F W1 w G Gf IM f mg ky rg (upd L 2) x56 x57 (.int .i64 (ky : Int)) x59 x60 x61 x62 x63 x64 x65 x66 x67 x68 x69 x70 x55 W :=
  ⟨h.x, h.p0, h.p1, fun _ => rfl, h.p3, h.p4, h.p5, h.p6, h.p7, h.p8, h.p9, h.p10, h.p11, h.p12, h.p13, h.p14, h.p15⟩
theorem FD8F.s3 (h : FD8F W1 w G Gf IM f mg ky rg L x56 x57 x58 x59 x60 x61 x62 x63 x64 x65 x66 x67 x68 x69 x70 x55 W) (hX : FR w G Gf IM f W2) : FD8F W1 w G Gf IM f mg ky rg (upd L 3) x56 x57 x58 (.bool true) x60 x61 x62 x63 x64 x65 x66 x67 x68 x69 x70 x55 W2 :=
  ⟨hX, h.p0, h.p1, h.p2, fun _ => rfl, h.p4, h.p5, h.p6, h.p7, h.p8, h.p9, h.p10, h.p11, h.p12, h.p13, h.p14, h.p15⟩
theorem FD8F.s4 (h : FD8F W1 w G Gf IM f mg ky rg L x56 x57 x58 x59 x60 x61 x62 x63 x64 x65 x66 x67 x68 x69 x70 x55 W) : FD8F W1 w G Gf IM f mg ky rg (upd L 4) x56 x57 x58 x59 (.bool false) x61 x62 x63 x64 x65 x66 x67 x68 x69 x70 x55 W :=
  ⟨h.x, h.p0, h.p1, h.p2, h.p3, fun _ => rfl, h.p5, h.p6, h.p7, h.p8, h.p9, h.p10, h.p11, h.p12, h.p13, h.p14, h.p15⟩
theorem FD8F.s5 (h : FD8F W1 w G Gf IM f mg ky rg L x56 x57 x58 x59 x60 x61 x62 x63 x64 x65 x66 x67 x68 x69 x70 x55 W) : FD8F W1 w G Gf IM f mg ky rg (upd L 5) x56 x57 x58 x59 x60 (.bool false) x62 x63 x64 x65 x66 x67 x68 x69 x70 x55 W :=
  ⟨h.x, h.p0, h.p1, h.p2, h.p3, h.p4, fun _ => rfl, h.p6, h.p7, h.p8, h.p9, h.p10, h.p11, h.p12, h.p13, h.p14, h.p15⟩
theorem FD8F.s6 (h : FD8F W1 w G Gf IM f mg ky rg L x56 x57 x58 x59 x60 x61 x62 x63 x64 x65 x66 x67 x68 x69 x70 x55 W) : FD8F W1 w G Gf IM f mg ky rg (upd L 6) x56 x57 x58 x59 x60 x61 (.pointer (some ⟨mg, 0, none⟩)) x63 x64 x65 x66 x67 x68 x69 x70 x55 W :=
  ⟨h.x, h.p0, h.p1, h.p2, h.p3, h.p4, h.p5, fun _ => rfl, h.p7, h.p8, h.p9, h.p10, h.p11, h.p12, h.p13, h.p14, h.p15⟩
theorem FD8F.s7 (h : FD8F W1 w G Gf IM f mg ky rg L x56 x57 x58 x59 x60 x61 x62 x63 x64 x65 x66 x67 x68 x69 x70 x55 W) : FD8F W1 w G Gf IM f mg ky rg (upd L 7) x56 x57 x58 x59 x60 x61 x62 (.pointer (some ⟨mg, 0, none⟩)) x64 x65 x66 x67 x68 x69 x70 x55 W :=
  ⟨h.x, h.p0, h.p1, h.p2, h.p3, h.p4, h.p5, h.p6, fun _ => rfl, h.p8, h.p9, h.p10, h.p11, h.p12, h.p13, h.p14, h.p15⟩
theorem FD8F.s8 (h : FD8F W1 w G Gf IM f mg ky rg L x56 x57 x58 x59 x60 x61 x62 x63 x64 x65 x66 x67 x68 x69 x70 x55 W) : FD8F W1 w G Gf IM f mg ky rg (upd L 8) x56 x57 x58 x59 x60 x61 x62 x63 (.pointer (some ⟨mg, 7, none⟩)) x65 x66 x67 x68 x69 x70 x55 W :=
  ⟨h.x, h.p0, h.p1, h.p2, h.p3, h.p4, h.p5, h.p6, h.p7, fun _ => rfl, h.p9, h.p10, h.p11, h.p12, h.p13, h.p14, h.p15⟩
theorem FD8F.s9 (h : FD8F W1 w G Gf IM f mg ky rg L x56 x57 x58 x59 x60 x61 x62 x63 x64 x65 x66 x67 x68 x69 x70 x55 W) : FD8F W1 w G Gf IM f mg ky rg (upd L 9) x56 x57 x58 x59 x60 x61 x62 x63 x64 (.pointer (some ⟨rg, 0, none⟩)) x66 x67 x68 x69 x70 x55 W :=
  ⟨h.x, h.p0, h.p1, h.p2, h.p3, h.p4, h.p5, h.p6, h.p7, h.p8, fun _ => rfl, h.p10, h.p11, h.p12, h.p13, h.p14, h.p15⟩
theorem FD8F.s10 (h : FD8F W1 w G Gf IM f mg ky rg L x56 x57 x58 x59 x60 x61 x62 x63 x64 x65 x66 x67 x68 x69 x70 x55 W) : FD8F W1 w G Gf IM f mg ky rg (upd L 10) x56 x57 x58 x59 x60 x61 x62 x63 x64 x65 (.pointer (some ⟨G, 1, none⟩)) x67 x68 x69 x70 x55 W :=
  ⟨h.x, h.p0, h.p1, h.p2, h.p3, h.p4, h.p5, h.p6, h.p7, h.p8, h.p9, fun _ => rfl, h.p11, h.p12, h.p13, h.p14, h.p15⟩
theorem FD8F.s11 (h : FD8F W1 w G Gf IM f mg ky rg L x56 x57 x58 x59 x60 x61 x62 x63 x64 x65 x66 x67 x68 x69 x70 x55 W) : FD8F W1 w G Gf IM f mg ky rg (upd L 11) x56 x57 x58 x59 x60 x61 x62 x63 x64 x65 x66 (.int .i64 (ky : Int)) x68 x69 x70 x55 W :=
  ⟨h.x, h.p0, h.p1, h.p2, h.p3, h.p4, h.p5, h.p6, h.p7, h.p8, h.p9, h.p10, fun _ => rfl, h.p12, h.p13, h.p14, h.p15⟩
theorem FD8F.s12 (h : FD8F W1 w G Gf IM f mg ky rg L x56 x57 x58 x59 x60 x61 x62 x63 x64 x65 x66 x67 x68 x69 x70 x55 W) (hX : FR w G Gf IM f W2) : FD8F W1 w G Gf IM f mg ky rg (upd L 12) x56 x57 x58 x59 x60 x61 x62 x63 x64 x65 x66 x67 (.bool false) x69 x70 x55 W2 :=
  ⟨hX, h.p0, h.p1, h.p2, h.p3, h.p4, h.p5, h.p6, h.p7, h.p8, h.p9, h.p10, h.p11, fun _ => rfl, h.p13, h.p14, h.p15⟩
theorem FD8F.s13 (h : FD8F W1 w G Gf IM f mg ky rg L x56 x57 x58 x59 x60 x61 x62 x63 x64 x65 x66 x67 x68 x69 x70 x55 W) : FD8F W1 w G Gf IM f mg ky rg (upd L 13) x56 x57 x58 x59 x60 x61 x62 x63 x64 x65 x66 x67 x68 (.bool true) x70 x55 W :=
  ⟨h.x, h.p0, h.p1, h.p2, h.p3, h.p4, h.p5, h.p6, h.p7, h.p8, h.p9, h.p10, h.p11, h.p12, fun _ => rfl, h.p14, h.p15⟩
theorem FD8F.s14 (h : FD8F W1 w G Gf IM f mg ky rg L x56 x57 x58 x59 x60 x61 x62 x63 x64 x65 x66 x67 x68 x69 x70 x55 W) : FD8F W1 w G Gf IM f mg ky rg (upd L 14) x56 x57 x58 x59 x60 x61 x62 x63 x64 x65 x66 x67 x68 x69 (.bool true) x55 W :=
  ⟨h.x, h.p0, h.p1, h.p2, h.p3, h.p4, h.p5, h.p6, h.p7, h.p8, h.p9, h.p10, h.p11, h.p12, h.p13, fun _ => rfl, h.p15⟩
theorem FD8F.s15 (h : FD8F W1 w G Gf IM f mg ky rg L x56 x57 x58 x59 x60 x61 x62 x63 x64 x65 x66 x67 x68 x69 x70 x55 W) : FD8F W1 w G Gf IM f mg ky rg (upd L 15) x56 x57 x58 x59 x60 x61 x62 x63 x64 x65 x66 x67 x68 x69 x70 (.bool true) W :=
  ⟨h.x, h.p0, h.p1, h.p2, h.p3, h.p4, h.p5, h.p6, h.p7, h.p8, h.p9, h.p10, h.p11, h.p12, h.p13, h.p14, fun _ => rfl⟩
end
@[reducible] def IFD8F (W1 : World) (w : World) (G Gf : Nat) (IM : List Value) (f : Fd) (mg ky : Nat) (rg : Nat) (y0 y1 y2 y3 y4 y5 y6 y7 y8 y9 y10 y11 y12 y13 y14 y15 y16 y17 y18 y19 y20 y21 y22 y23 y24 y25 y26 y27 y28 y29 y30 y31 y32 y33 y34 y35 y36 y37 y38 y39 y40 y41 y42 y43 y44 y45 y46 y47 y48 y49 y50 y51 y52 y53 y54 y71 y72 : Value) : (Nat → Bool) → Act → World → Prop := fun L a W => ∃ x56 x57 x58 x59 x60 x61 x62 x63 x64 x65 x66 x67 x68 x69 x70 x55, a = ⟨#[y0, y1, y2, y3, y4, y5, y6, y7, y8, y9, y10, y11, y12, y13, y14, y15, y16, y17, y18, y19, y20, y21, y22, y23, y24, y25, y26, y27, y28, y29, y30, y31, y32, y33, y34, y35, y36, y37, y38, y39, y40, y41, y42, y43, y44, y45, y46, y47, y48, y49, y50, y51, y52, y53, y54, x55, x56, x57, x58, x59, x60, x61, x62, x63, x64, x65, x66, x67, x68, x69, x70, y71, y72], []⟩ ∧ FD8F W1 w G Gf IM f mg ky rg L x56 x57 x58 x59 x60 x61 x62 x63 x64 x65 x66 x67 x68 x69 x70 x55 W
theorem FD8F.step {W1 : World} {w : World} {G Gf : Nat} {IM : List Value} {f : Fd} {mg ky : Nat} {rg : Nat} {y0 y1 y2 y3 y4 y5 y6 y7 y8 y9 y10 y11 y12 y13 y14 y15 y16 y17 y18 y19 y20 y21 y22 y23 y24 y25 y26 y27 y28 y29 y30 y31 y32 y33 y34 y35 y36 y37 y38 y39 y40 y41 y42 y43 y44 y45 y46 y47 y48 y49 y50 y51 y52 y53 y54 y71 y72 : Value} {P : Program} {ops : Array Oper} {Q : Exit → Act → World → Prop} {i : Nat} {o : Oper} (hq : ∀ x56 x57 x58 x59 x60 x61 x62 x63 x64 x65 x66 x67 x68 x69 x70 x55 (L : Nat → Bool) (W : World), FD8F W1 w G Gf IM f mg ky rg L x56 x57 x58 x59 x60 x61 x62 x63 x64 x65 x66 x67 x68 x69 x70 x55 W → L i = false → (∀ j ∈ onesOf o, L j = true) → ∀ K : Act → World → Prop, Shut (∀ a' w', IFD8F W1 w G Gf IM f mg ky rg y0 y1 y2 y3 y4 y5 y6 y7 y8 y9 y10 y11 y12 y13 y14 y15 y16 y17 y18 y19 y20 y21 y22 y23 y24 y25 y26 y27 y28 y29 y30 y31 y32 y33 y34 y35 y36 y37 y38 y39 y40 y41 y42 y43 y44 y45 y46 y47 y48 y49 y50 y51 y52 y53 y54 y71 y72 (upd L i) a' w' → K a' w') → if Region.wanted o (yielded ops (⟨#[y0, y1, y2, y3, y4, y5, y6, y7, y8, y9, y10, y11, y12, y13, y14, y15, y16, y17, y18, y19, y20, y21, y22, y23, y24, y25, y26, y27, y28, y29, y30, y31, y32, y33, y34, y35, y36, y37, y38, y39, y40, y41, y42, y43, y44, y45, y46, y47, y48, y49, y50, y51, y52, y53, y54, x55, x56, x57, x58, x59, x60, x61, x62, x63, x64, x65, x66, x67, x68, x69, x70, y71, y72], []⟩ : Act).tmps) = true then Oper.wp P o ⟨#[y0, y1, y2, y3, y4, y5, y6, y7, y8, y9, y10, y11, y12, y13, y14, y15, y16, y17, y18, y19, y20, y21, y22, y23, y24, y25, y26, y27, y28, y29, y30, y31, y32, y33, y34, y35, y36, y37, y38, y39, y40, y41, y42, y43, y44, y45, y46, y47, y48, y49, y50, y51, y52, y53, y54, x55, x56, x57, x58, x59, x60, x61, x62, x63, x64, x65, x66, x67, x68, x69, x70, y71, y72], []⟩ W K Q else K ((⟨#[y0, y1, y2, y3, y4, y5, y6, y7, y8, y9, y10, y11, y12, y13, y14, y15, y16, y17, y18, y19, y20, y21, y22, y23, y24, y25, y26, y27, y28, y29, y30, y31, y32, y33, y34, y35, y36, y37, y38, y39, y40, y41, y42, y43, y44, y45, y46, y47, y48, y49, y50, y51, y52, y53, y54, x55, x56, x57, x58, x59, x60, x61, x62, x63, x64, x65, x66, x67, x68, x69, x70, y71, y72], []⟩ : Act).put o.dst undef) W) : StepI P ops (IFD8F W1 w G Gf IM f mg ky rg y0 y1 y2 y3 y4 y5 y6 y7 y8 y9 y10 y11 y12 y13 y14 y15 y16 y17 y18 y19 y20 y21 y22 y23 y24 y25 y26 y27 y28 y29 y30 y31 y32 y33 y34 y35 y36 y37 y38 y39 y40 y41 y42 y43 y44 y45 y46 y47 y48 y49 y50 y51 y52 y53 y54 y71 y72) Q i o := by
  rintro L a W ⟨x56, x57, x58, x59, x60, x61, x62, x63, x64, x65, x66, x67, x68, x69, x70, x55, rfl, h⟩
  exact hq _ _ _ _ _ _ _ _ _ _ _ _ _ _ _ _ _ _ h
theorem FD8F.ends {W1 : World} {w : World} {G Gf : Nat} {IM : List Value} {f : Fd} {mg ky : Nat} {rg : Nat} {y0 y1 y2 y3 y4 y5 y6 y7 y8 y9 y10 y11 y12 y13 y14 y15 y16 y17 y18 y19 y20 y21 y22 y23 y24 y25 y26 y27 y28 y29 y30 y31 y32 y33 y34 y35 y36 y37 y38 y39 y40 y41 y42 y43 y44 y45 y46 y47 y48 y49 y50 y51 y52 y53 y54 y71 y72 : Value} {mm_ : Nat} {Q : Exit → Act → World → Prop} (hq : ∀ x56 x57 x58 x59 x60 x61 x62 x63 x64 x65 x66 x67 x68 x69 x70 x55 (L : Nat → Bool) (W : World), (∀ j, j < mm_ → L j = true) → FD8F W1 w G Gf IM f mg ky rg L x56 x57 x58 x59 x60 x61 x62 x63 x64 x65 x66 x67 x68 x69 x70 x55 W → Q .normal ⟨#[y0, y1, y2, y3, y4, y5, y6, y7, y8, y9, y10, y11, y12, y13, y14, y15, y16, y17, y18, y19, y20, y21, y22, y23, y24, y25, y26, y27, y28, y29, y30, y31, y32, y33, y34, y35, y36, y37, y38, y39, y40, y41, y42, y43, y44, y45, y46, y47, y48, y49, y50, y51, y52, y53, y54, x55, x56, x57, x58, x59, x60, x61, x62, x63, x64, x65, x66, x67, x68, x69, x70, y71, y72], []⟩ W) : ∀ L a' w', (∀ j, j < mm_ → L j = true) → IFD8F W1 w G Gf IM f mg ky rg y0 y1 y2 y3 y4 y5 y6 y7 y8 y9 y10 y11 y12 y13 y14 y15 y16 y17 y18 y19 y20 y21 y22 y23 y24 y25 y26 y27 y28 y29 y30 y31 y32 y33 y34 y35 y36 y37 y38 y39 y40 y41 y42 y43 y44 y45 y46 y47 y48 y49 y50 y51 y52 y53 y54 y71 y72 L a' w' → Q .normal a' w' := by
  rintro L a W hall ⟨x56, x57, x58, x59, x60, x61, x62, x63, x64, x65, x66, x67, x68, x69, x70, x55, rfl, h⟩
  exact hq _ _ _ _ _ _ _ _ _ _ _ _ _ _ _ _ _ _ hall h
structure FD8T (W1 : World) (w : World) (G Gf : Nat) (IM : List Value) (f : Fd) (mg ky : Nat) (rg : Nat) (L : Nat → Bool) (x56 x57 x58 x59 x60 x61 x62 x63 x64 x65 x66 x67 x68 x69 x70 x55 : Value) (W : World) : Prop where
  x : FR w G Gf IM f W
  p0 : L 0 = true → x56 = .pointer (some ⟨mg, 0, none⟩)
  p1 : L 1 = true → x57 = .pointer (some ⟨G, 1, none⟩)
  p2 : L 2 = true → x58 = .int .i64 (ky : Int)
  p3 : L 3 = true → x59 = .bool true
  p4 : L 4 = true → x60 = .bool false
  p5 : L 5 = true → x61 = .bool false
  p6 : L 6 = true → x62 = .pointer (some ⟨mg, 0, none⟩)
  p7 : L 7 = true → x63 = .pointer (some ⟨mg, 0, none⟩)
  p8 : L 8 = true → x64 = .pointer (some ⟨mg, 7, none⟩)
  p9 : L 9 = true → x65 = .pointer (some ⟨rg, 0, none⟩)
  p10 : L 10 = true → x66 = .pointer (some ⟨G, 1, none⟩)
  p11 : L 11 = true → x67 = .int .i64 (ky : Int)
  p12 : L 12 = true → x68 = .bool true
  p13 : L 13 = true → x69 = .bool false
  p14 : L 14 = true → x70 = .bool false
  p15 : L 15 = true → x55 = .bool false
section
variable {W1 : World} {w : World} {G Gf : Nat} {IM : List Value} {f : Fd} {mg ky : Nat} {rg : Nat} {L : Nat → Bool} {x56 x57 x58 x59 x60 x61 x62 x63 x64 x65 x66 x67 x68 x69 x70 x55 : Value} {W W2 : World}
theorem FD8T.s0 (h : FD8T W1 w G Gf IM f mg ky rg L x56 x57 x58 x59 x60 x61 x62 x63 x64 x65 x66 x67 x68 x69 x70 x55 W) : FD8T W1 w G Gf IM f mg ky rg (upd L 0) (.pointer (some ⟨mg, 0, none⟩)) x57 x58 x59 x60 x61 x62 x63 x64 x65 x66 x67 x68 x69 x70 x55 W :=
  ⟨h.x, fun _ => rfl, h.p1, h.p2, h.p3, h.p4, h.p5, h.p6, h.p7, h.p8, h.p9, h.p10, h.p11, h.p12, h.p13, h.p14, h.p15⟩
theorem FD8T.s1 (h : FD8T W1 w G Gf IM f mg ky rg L x56 x57 x58 x59 x60 x61 x62 x63 x64 x65 x66 x67 x68 x69 x70 x55 W) : FD8T W1 w G Gf IM f mg ky rg (upd L 1) x56 (.pointer (some ⟨G, 1, none⟩)) x58 x59 x60 x61 x62 x63 x64 x65 x66 x67 x68 x69 x70 x55 W :=
  ⟨h.x, h.p0, fun _ => rfl, h.p2, h.p3, h.p4, h.p5, h.p6, h.p7, h.p8, h.p9, h.p10, h.p11, h.p12, h.p13, h.p14, h.p15⟩
theorem FD8T.s2 (h : FD8T W1 w G Gf IM f mg ky rg L x56 x57 x58 x59 x60 x61 x62 x63 x64 x65 x66 x67 x68 x69 x70 x55 W) : FD8T W1 w G Gf IM f mg ky rg (upd L 2) x56 x57 (.int .i64 (ky : Int)) x59 x60 x61 x62 x63 x64 x65 x66 x67 x68 x69 x70 x55 W :=
  ⟨h.x, h.p0, h.p1, fun _ => rfl, h.p3, h.p4, h.p5, h.p6, h.p7, h.p8, h.p9, h.p10, h.p11, h.p12, h.p13, h.p14, h.p15⟩
theorem FD8T.s3 (h : FD8T W1 w G Gf IM f mg ky rg L x56 x57 x58 x59 x60 x61 x62 x63 x64 x65 x66 x67 x68 x69 x70 x55 W) (hX : FR w G Gf IM f W2) : FD8T W1 w G Gf IM f mg ky rg (upd L 3) x56 x57 x58 (.bool true) x60 x61 x62 x63 x64 x65 x66 x67 x68 x69 x70 x55 W2 :=
  ⟨hX, h.p0, h.p1, h.p2, fun _ => rfl, h.p4, h.p5, h.p6, h.p7, h.p8, h.p9, h.p10, h.p11, h.p12, h.p13, h.p14, h.p15⟩
theorem FD8T.s4 (h : FD8T W1 w G Gf IM f mg ky rg L x56 x57 x58 x59 x60 x61 x62 x63 x64 x65 x66 x67 x68 x69 x70 x55 W) : FD8T W1 w G Gf IM f mg ky rg (upd L 4) x56 x57 x58 x59 (.bool false) x61 x62 x63 x64 x65 x66 x67 x68 x69 x70 x55 W :=
  ⟨h.x, h.p0, h.p1, h.p2, h.p3, fun _ => rfl, h.p5, h.p6, h.p7, h.p8, h.p9, h.p10, h.p11, h.p12, h.p13, h.p14, h.p15⟩
theorem FD8T.s5 (h : FD8T W1 w G Gf IM f mg ky rg L x56 x57 x58 x59 x60 x61 x62 x63 x64 x65 x66 x67 x68 x69 x70 x55 W) : FD8T W1 w G Gf IM f mg ky rg (upd L 5) x56 x57 x58 x59 x60 (.bool false) x62 x63 x64 x65 x66 x67 x68 x69 x70 x55 W :=
  ⟨h.x, h.p0, h.p1, h.p2, h.p3, h.p4, fun _ => rfl, h.p6, h.p7, h.p8, h.p9, h.p10, h.p11, h.p12, h.p13, h.p14, h.p15⟩
theorem FD8T.s6 (h : FD8T W1 w G Gf IM f mg ky rg L x56 x57 x58 x59 x60 x61 x62 x63 x64 x65 x66 x67 x68 x69 x70 x55 W) : FD8T W1 w G Gf IM f mg ky rg (upd L 6) x56 x57 x58 x59 x60 x61 (.pointer (some ⟨mg, 0, none⟩)) x63 x64 x65 x66 x67 x68 x69 x70 x55 W :=
  ⟨h.x, h.p0, h.p1, h.p2, h.p3, h.p4, h.p5, fun _ => rfl, h.p7, h.p8, h.p9, h.p10, h.p11, h.p12, h.p13, h.p14, h.p15⟩
theorem FD8T.s7 (h : FD8T W1 w G Gf IM f mg ky rg L x56 x57 x58 x59 x60 x61 x62 x63 x64 x65 x66 x67 x68 x69 x70 x55 W) : FD8T W1 w G Gf IM f mg ky rg (upd L 7) x56 x57 x58 x59 x60 x61 x62 (.pointer (some ⟨mg, 0, none⟩)) x64 x65 x66 x67 x68 x69 x70 x55 W :=
  ⟨h.x, h.p0, h.p1, h.p2, h.p3, h.p4, h.p5, h.p6, fun _ => rfl, h.p8, h.p9, h.p10, h.p11, h.p12, h.p13, h.p14, h.p15⟩
theorem FD8T.s8 (h : FD8T W1 w G Gf IM f mg ky rg L x56 x57 x58 x59 x60 x61 x62 x63 x64 x65 x66 x67 x68 x69 x70 x55 W) : FD8T W1 w G Gf IM f mg ky rg (upd L 8) x56 x57 x58 x59 x60 x61 x62 x63 (.pointer (some ⟨mg, 7, none⟩)) x65 x66 x67 x68 x69 x70 x55 W :=
  ⟨h.x, h.p0, h.p1, h.p2, h.p3, h.p4, h.p5, h.p6, h.p7, fun _ => rfl, h.p9, h.p10, h.p11, h.p12, h.p13, h.p14, h.p15⟩
theorem FD8T.s9 (h : FD8T W1 w G Gf IM f mg ky rg L x56 x57 x58 x59 x60 x61 x62 x63 x64 x65 x66 x67 x68 x69 x70 x55 W) : FD8T W1 w G Gf IM f mg ky rg (upd L 9) x56 x57 x58 x59 x60 x61 x62 x63 x64 (.pointer (some ⟨rg, 0, none⟩)) x66 x67 x68 x69 x70 x55 W :=
  ⟨h.x, h.p0, h.p1, h.p2, h.p3, h.p4, h.p5, h.p6, h.p7, h.p8, fun _ => rfl, h.p10, h.p11, h.p12, h.p13, h.p14, h.p15⟩
theorem FD8T.s10 (h : FD8T W1 w G Gf IM f mg ky rg L x56 x57 x58 x59 x60 x61 x62 x63 x64 x65 x66 x67 x68 x69 x70 x55 W) : FD8T W1 w G Gf IM f mg ky rg (upd L 10) x56 x57 x58 x59 x60 x61 x62 x63 x64 x65 (.pointer (some ⟨G, 1, none⟩)) x67 x68 x69 x70 x55 W :=
  ⟨h.x, h.p0, h.p1, h.p2, h.p3, h.p4, h.p5, h.p6, h.p7, h.p8, h.p9, fun _ => rfl, h.p11, h.p12, h.p13, h.p14, h.p15⟩
theorem FD8T.s11 (h : FD8T W1 w G Gf IM f mg ky rg L x56 x57 x58 x59 x60 x61 x62 x63 x64 x65 x66 x67 x68 x69 x70 x55 W) : FD8T W1 w G Gf IM f mg ky rg (upd L 11) x56 x57 x58 x59 x60 x61 x62 x63 x64 x65 x66 (.int .i64 (ky : Int)) x68 x69 x70 x55 W :=
  ⟨h.x, h.p0, h.p1, h.p2, h.p3, h.p4, h.p5, h.p6, h.p7, h.p8, h.p9, h.p10, fun _ => rfl, h.p12, h.p13, h.p14, h.p15⟩
theorem FD8T.s12 (h : FD8T W1 w G Gf IM f mg ky rg L x56 x57 x58 x59 x60 x61 x62 x63 x64 x65 x66 x67 x68 x69 x70 x55 W) (hX : FR w G Gf IM f W2) : FD8T W1 w G Gf IM f mg ky rg (upd L 12) x56 x57 x58 x59 x60 x61 x62 x63 x64 x65 x66 x67 (.bool true) x69 x70 x55 W2 :=
  ⟨hX, h.p0, h.p1, h.p2, h.p3, h.p4, h.p5, h.p6, h.p7, h.p8, h.p9, h.p10, h.p11, fun _ => rfl, h.p13, h.p14, h.p15⟩
theorem FD8T.s13 (h : FD8T W1 w G Gf IM f mg ky rg L x56 x57 x58 x59 x60 x61 x62 x63 x64 x65 x66 x67 x68 x69 x70 x55 W) : FD8T W1 w G Gf IM f mg ky rg (upd L 13) x56 x57 x58 x59 x60 x61 x62 x63 x64 x65 x66 x67 x68 (.bool false) x70 x55 W :=
  ⟨h.x, h.p0, h.p1, h.p2, h.p3, h.p4, h.p5, h.p6, h.p7, h.p8, h.p9, h.p10, h.p11, h.p12, fun _ => rfl, h.p14, h.p15⟩
theorem FD8T.s14 (h : FD8T W1 w G Gf IM f mg ky rg L x56 x57 x58 x59 x60 x61 x62 x63 x64 x65 x66 x67 x68 x69 x70 x55 W) : FD8T W1 w G Gf IM f mg ky rg (upd L 14) x56 x57 x58 x59 x60 x61 x62 x63 x64 x65 x66 x67 x68 x69 (.bool false) x55 W :=
  ⟨h.x, h.p0, h.p1, h.p2, h.p3, h.p4, h.p5, h.p6, h.p7, h.p8, h.p9, h.p10, h.p11, h.p12, h.p13, fun _ => rfl, h.p15⟩
theorem FD8T.s15 (h : FD8T W1 w G Gf IM f mg ky rg L x56 x57 x58 x59 x60 x61 x62 x63 x64 x65 x66 x67 x68 x69 x70 x55 W) : FD8T W1 w G Gf IM f mg ky rg (upd L 15) x56 x57 x58 x59 x60 x61 x62 x63 x64 x65 x66 x67 x68 x69 x70 (.bool false) W :=
  ⟨h.x, h.p0, h.p1, h.p2, h.p3, h.p4, h.p5, h.p6, h.p7, h.p8, h.p9, h.p10, h.p11, h.p12, h.p13, h.p14, fun _ => rfl⟩
end
@[reducible] def IFD8T (W1 : World) (w : World) (G Gf : Nat) (IM : List Value) (f : Fd) (mg ky : Nat) (rg : Nat) (y0 y1 y2 y3 y4 y5 y6 y7 y8 y9 y10 y11 y12 y13 y14 y15 y16 y17 y18 y19 y20 y21 y22 y23 y24 y25 y26 y27 y28 y29 y30 y31 y32 y33 y34 y35 y36 y37 y38 y39 y40 y41 y42 y43 y44 y45 y46 y47 y48 y49 y50 y51 y52 y53 y54 y71 y72 : Value) : (Nat → Bool) → Act → World → Prop := fun L a W => ∃ x56 x57 x58 x59 x60 x61 x62 x63 x64 x65 x66 x67 x68 x69 x70 x55, a = ⟨#[y0, y1, y2, y3, y4, y5, y6, y7, y8, y9, y10, y11, y12, y13, y14, y15, y16, y17, y18, y19, y20, y21, y22, y23, y24, y25, y26, y27, y28, y29, y30, y31, y32, y33, y34, y35, y36, y37, y38, y39, y40, y41, y42, y43, y44, y45, y46, y47, y48, y49, y50, y51, y52, y53, y54, x55, x56, x57, x58, x59, x60, x61, x62, x63, x64, x65, x66, x67, x68, x69, x70, y71, y72], []⟩ ∧ FD8T W1 w G Gf IM f mg ky rg L x56 x57 x58 x59 x60 x61 x62 x63 x64 x65 x66 x67 x68 x69 x70 x55 W
theorem FD8T.step {W1 : World} {w : World} {G Gf : Nat} {IM : List Value} {f : Fd} {mg ky : Nat} {rg : Nat} {y0 y1 y2 y3 y4 y5 y6 y7 y8 y9 y10 y11 y12 y13 y14 y15 y16 y17 y18 y19 y20 y21 y22 y23 y24 y25 y26 y27 y28 y29 y30 y31 y32 y33 y34 y35 y36 y37 y38 y39 y40 y41 y42 y43 y44 y45 y46 y47 y48 y49 y50 y51 y52 y53 y54 y71 y72 : Value} {P : Program} {ops : Array Oper} {Q : Exit → Act → World → Prop} {i : Nat} {o : Oper} (hq : ∀ x56 x57 x58 x59 x60 x61 x62 x63 x64 x65 x66 x67 x68 x69 x70 x55 (L : Nat → Bool) (W : World), FD8T W1 w G Gf IM f mg ky rg L x56 x57 x58 x59 x60 x61 x62 x63 x64 x65 x66 x67 x68 x69 x70 x55 W → L i = false → (∀ j ∈ onesOf o, L j = true) → ∀ K : Act → World → Prop, Shut (∀ a' w', IFD8T W1 w G Gf IM f mg ky rg y0 y1 y2 y3 y4 y5 y6 y7 y8 y9 y10 y11 y12 y13 y14 y15 y16 y17 y18 y19 y20 y21 y22 y23 y24 y25 y26 y27 y28 y29 y30 y31 y32 y33 y34 y35 y36 y37 y38 y39 y40 y41 y42 y43 y44 y45 y46 y47 y48 y49 y50 y51 y52 y53 y54 y71 y72 (upd L i) a' w' → K a' w') → if Region.wanted o (yielded ops (⟨#[y0, y1, y2, y3, y4, y5, y6, y7, y8, y9, y10, y11, y12, y13, y14, y15, y16, y17, y18, y19, y20, y21, y22, y23, y24, y25, y26, y27, y28, y29, y30, y31, y32, y33, y34, y35, y36, y37, y38, y39, y40, y41, y42, y43, y44, y45, y46, y47, y48, y49, y50, y51, y52, y53, y54, x55, x56, x57, x58, x59, x60, x61, x62, x63, x64, x65, x66, x67, x68, x69, x70, y71, y72], []⟩ : Act).tmps) = true then Oper.wp P o ⟨#[y0, y1, y2, y3, y4, y5, y6, y7, y8, y9, y10, y11, y12, y13, y14, y15, y16, y17, y18, y19, y20, y21, y22, y23, y24, y25, y26, y27, y28, y29, y30, y31, y32, y33, y34, y35, y36, y37, y38, y39, y40, y41, y42, y43, y44, y45, y46, y47, y48, y49, y50, y51, y52, y53, y54, x55, x56, x57, x58, x59, x60, x61, x62, x63, x64, x65, x66, x67, x68, x69, x70, y71, y72], []⟩ W K Q else K ((⟨#[y0, y1, y2, y3, y4, y5, y6, y7, y8, y9, y10, y11, y12, y13, y14, y15, y16, y17, y18, y19, y20, y21, y22, y23, y24, y25, y26, y27, y28, y29, y30, y31, y32, y33, y34, y35, y36, y37, y38, y39, y40, y41, y42, y43, y44, y45, y46, y47, y48, y49, y50, y51, y52, y53, y54, x55, x56, x57, x58, x59, x60, x61, x62, x63, x64, x65, x66, x67, x68, x69, x70, y71, y72], []⟩ : Act).put o.dst undef) W) : StepI P ops (IFD8T W1 w G Gf IM f mg ky rg y0 y1 y2 y3 y4 y5 y6 y7 y8 y9 y10 y11 y12 y13 y14 y15 y16 y17 y18 y19 y20 y21 y22 y23 y24 y25 y26 y27 y28 y29 y30 y31 y32 y33 y34 y35 y36 y37 y38 y39 y40 y41 y42 y43 y44 y45 y46 y47 y48 y49 y50 y51 y52 y53 y54 y71 y72) Q i o := by
  rintro L a W ⟨x56, x57, x58, x59, x60, x61, x62, x63, x64, x65, x66, x67, x68, x69, x70, x55, rfl, h⟩
  exact hq _ _ _ _ _ _ _ _ _ _ _ _ _ _ _ _ _ _ h
theorem FD8T.ends {W1 : World} {w : World} {G Gf : Nat} {IM : List Value} {f : Fd} {mg ky : Nat} {rg : Nat} {y0 y1 y2 y3 y4 y5 y6 y7 y8 y9 y10 y11 y12 y13 y14 y15 y16 y17 y18 y19 y20 y21 y22 y23 y24 y25 y26 y27 y28 y29 y30 y31 y32 y33 y34 y35 y36 y37 y38 y39 y40 y41 y42 y43 y44 y45 y46 y47 y48 y49 y50 y51 y52 y53 y54 y71 y72 : Value} {mm_ : Nat} {Q : Exit → Act → World → Prop} (hq : ∀ x56 x57 x58 x59 x60 x61 x62 x63 x64 x65 x66 x67 x68 x69 x70 x55 (L : Nat → Bool) (W : World), (∀ j, j < mm_ → L j = true) → FD8T W1 w G Gf IM f mg ky rg L x56 x57 x58 x59 x60 x61 x62 x63 x64 x65 x66 x67 x68 x69 x70 x55 W → Q .normal ⟨#[y0, y1, y2, y3, y4, y5, y6, y7, y8, y9, y10, y11, y12, y13, y14, y15, y16, y17, y18, y19, y20, y21, y22, y23, y24, y25, y26, y27, y28, y29, y30, y31, y32, y33, y34, y35, y36, y37, y38, y39, y40, y41, y42, y43, y44, y45, y46, y47, y48, y49, y50, y51, y52, y53, y54, x55, x56, x57, x58, x59, x60, x61, x62, x63, x64, x65, x66, x67, x68, x69, x70, y71, y72], []⟩ W) : ∀ L a' w', (∀ j, j < mm_ → L j = true) → IFD8T W1 w G Gf IM f mg ky rg y0 y1 y2 y3 y4 y5 y6 y7 y8 y9 y10 y11 y12 y13 y14 y15 y16 y17 y18 y19 y20 y21 y22 y23 y24 y25 y26 y27 y28 y29 y30 y31 y32 y33 y34 y35 y36 y37 y38 y39 y40 y41 y42 y43 y44 y45 y46 y47 y48 y49 y50 y51 y52 y53 y54 y71 y72 L a' w' → Q .normal a' w' := by
  rintro L a W hall ⟨x56, x57, x58, x59, x60, x61, x62, x63, x64, x65, x66, x67, x68, x69, x70, x55, rfl, h⟩
  exact hq _ _ _ _ _ _ _ _ _ _ _ _ _ _ _ _ _ _ hall h
structure FD3 (W1 : World) (w : World) (G Gf : Nat) (IM : List Value) (f : Fd) (mg ky : Nat) (rg : Nat) (bo : Option Addr) (bn bc : Nat) (BD : List By) (TB : List Value) (Sg : Bool) (L : Nat → Bool) (x25 x26 x27 x28 x29 x30 x31 x32 x33 x34 x35 x24 x36 x37 x8 x9 : Value) (W : World) : Prop where
  x : FR w G Gf IM f W
  p0 : L 0 = true → x25 = .pointer (some ⟨mg, 0, none⟩)
  p1 : L 1 = true → x26 = .pointer (some ⟨mg, 0, none⟩)
  p2 : L 2 = true → x27 = .pointer (some ⟨mg, 7, none⟩)
  p3 : L 3 = true → x28 = .pointer (some ⟨rg, 0, none⟩)
  p4 : L 4 = true → x29 = .pointer (some ⟨G, 1, none⟩)
  p5 : L 5 = true → x30 = .int .i64 (ky : Int)
  p6 : L 6 = true → x31 = .slice bo bn bc
  p7 : L 7 = true → ∃ ao c, x32 = .slice ao (bn - 32) c ∧ Own (w.heap.size) W (.slice ao (bn - 32) c) (BD)
  p8 : L 8 = true → x33 = .pointer (some ⟨G, 4, none⟩)
  p9 : L 9 = true → x34 = .agg TB.toArray
  p10 : L 10 = true → x35 = .tuple #[.bool Sg, .int .i64 0]
  p11 : L 11 = true → x24 = .tuple #[.bool Sg, .int .i64 0]
  p12 : L 12 = true → x36 = .bool Sg
  p13 : L 13 = true → x37 = .int .i64 0
  p14 : L 14 = true → x8 = .bool Sg
  p15 : L 15 = true → x9 = .int .i64 0
section
variable {W1 : World} {w : World} {G Gf : Nat} {IM : List Value} {f : Fd} {mg ky : Nat} {rg : Nat} {bo : Option Addr} {bn bc : Nat} {BD : List By} {TB : List Value} {Sg : Bool} {L : Nat → Bool} {x25 x26 x27 x28 x29 x30 x31 x32 x33 x34 x35 x24 x36 x37 x8 x9 : Value} {W W2 : World}
theorem FD3.s0 (h : FD3 W1 w G Gf IM f mg ky rg bo bn bc BD TB Sg L x25 x26 x27 x28 x29 x30 x31 x32 x33 x34 x35 x24 x36 x37 x8 x9 W) : FD3 W1 w G Gf IM f mg ky rg bo bn bc BD TB Sg (upd L 0) (.pointer (some ⟨mg, 0, none⟩)) x26 x27 x28 x29 x30 x31 x32 x33 x34 x35 x24 x36 x37 x8 x9 W :=
  ⟨h.x, fun _ => rfl, h.p1, h.p2, h.p3, h.p4, h.p5, h.p6, h.p7, h.p8, h.p9, h.p10, h.p11, h.p12, h.p13, h.p14, h.p15⟩
theorem FD3.s1 (h : FD3 W1 w G Gf IM f mg ky rg bo bn bc BD TB Sg L x25 x26 x27 x28 x29 x30 x31 x32 x33 x34 x35 x24 x36 x37 x8 x9 W) : FD3 W1 w G Gf IM f mg ky rg bo bn bc BD TB Sg (upd L 1) x25 (.pointer (some ⟨mg, 0, none⟩)) x27 x28 x29 x30 x31 x32 x33 x34 x35 x24 x36 x37 x8 x9 W :=
  ⟨h.x, h.p0, fun _ => rfl, h.p2, h.p3, h.p4, h.p5, h.p6, h.p7, h.p8, h.p9, h.p10, h.p11, h.p12, h.p13, h.p14, h.p15⟩
theorem FD3.s2 (h : FD3 W1 w G Gf IM f mg ky rg bo bn bc BD TB Sg L x25 x26 x27 x28 x29 x30 x31 x32 x33 x34 x35 x24 x36 x37 x8 x9 W) : FD3 W1 w G Gf IM f mg ky rg bo bn bc BD TB Sg (upd L 2) x25 x26 (.pointer (some ⟨mg, 7, none⟩)) x28 x29 x30 x31 x32 x33 x34 x35 x24 x36 x37 x8 x9 W :=
  ⟨h.x, h.p0, h.p1, fun _ => rfl, h.p3, h.p4, h.p5, h.p6, h.p7, h.p8, h.p9, h.p10, h.p11, h.p12, h.p13, h.p14, h.p15⟩
theorem FD3.s3 (h : FD3 W1 w G Gf IM f mg ky rg bo bn bc BD TB Sg L x25 x26 x27 x28 x29 x30 x31 x32 x33 x34 x35 x24 x36 x37 x8 x9 W) : FD3 W1 w G Gf IM f mg ky rg bo bn bc BD TB Sg (upd L 3) x25 x26 x27 (.pointer (some ⟨rg, 0, none⟩)) x29 x30 x31 x32 x33 x34 x35 x24 x36 x37 x8 x9 W :=
  ⟨h.x, h.p0, h.p1, h.p2, fun _ => rfl, h.p4, h.p5, h.p6, h.p7, h.p8, h.p9, h.p10, h.p11, h.p12, h.p13, h.p14, h.p15⟩
theorem FD3.s4 (h : FD3 W1 w G Gf IM f mg ky rg bo bn bc BD TB Sg L x25 x26 x27 x28 x29 x30 x31 x32 x33 x34 x35 x24 x36 x37 x8 x9 W) : FD3 W1 w G Gf IM f mg ky rg bo bn bc BD TB Sg (upd L 4) x25 x26 x27 x28 (.pointer (some ⟨G, 1, none⟩)) x30 x31 x32 x33 x34 x35 x24 x36 x37 x8 x9 W :=
  ⟨h.x, h.p0, h.p1, h.p2, h.p3, fun _ => rfl, h.p5, h.p6, h.p7, h.p8, h.p9, h.p10, h.p11, h.p12, h.p13, h.p14, h.p15⟩
theorem FD3.s5 (h : FD3 W1 w G Gf IM f mg ky rg bo bn bc BD TB Sg L x25 x26 x27 x28 x29 x30 x31 x32 x33 x34 x35 x24 x36 x37 x8 x9 W) : FD3 W1 w G Gf IM f mg ky rg bo bn bc BD TB Sg (upd L 5) x25 x26 x27 x28 x29 (.int .i64 (ky : Int)) x31 x32 x33 x34 x35 x24 x36 x37 x8 x9 W :=
  ⟨h.x, h.p0, h.p1, h.p2, h.p3, h.p4, fun _ => rfl, h.p6, h.p7, h.p8, h.p9, h.p10, h.p11, h.p12, h.p13, h.p14, h.p15⟩
theorem FD3.s6 (h : FD3 W1 w G Gf IM f mg ky rg bo bn bc BD TB Sg L x25 x26 x27 x28 x29 x30 x31 x32 x33 x34 x35 x24 x36 x37 x8 x9 W) : FD3 W1 w G Gf IM f mg ky rg bo bn bc BD TB Sg (upd L 6) x25 x26 x27 x28 x29 x30 (.slice bo bn bc) x32 x33 x34 x35 x24 x36 x37 x8 x9 W :=
  ⟨h.x, h.p0, h.p1, h.p2, h.p3, h.p4, h.p5, fun _ => rfl, h.p7, h.p8, h.p9, h.p10, h.p11, h.p12, h.p13, h.p14, h.p15⟩
theorem FD3.s7 (h : FD3 W1 w G Gf IM f mg ky rg bo bn bc BD TB Sg L x25 x26 x27 x28 x29 x30 x31 x32 x33 x34 x35 x24 x36 x37 x8 x9 W) {v : Value} (hX : FR w G Gf IM f W2) (hb3 : Below W.heap.size W W2) (ho : ∃ ao c, v = .slice ao (bn - 32) c ∧ Own (w.heap.size) W2 (.slice ao (bn - 32) c) (BD)) : FD3 W1 w G Gf IM f mg ky rg bo bn bc BD TB Sg (upd L 7) x25 x26 x27 x28 x29 x30 x31 v x33 x34 x35 x24 x36 x37 x8 x9 W2 :=
  ⟨hX, h.p0, h.p1, h.p2, h.p3, h.p4, h.p5, h.p6, fun _ => ho, h.p8, h.p9, h.p10, h.p11, h.p12, h.p13, h.p14, h.p15⟩
theorem FD3.s8 (h : FD3 W1 w G Gf IM f mg ky rg bo bn bc BD TB Sg L x25 x26 x27 x28 x29 x30 x31 x32 x33 x34 x35 x24 x36 x37 x8 x9 W) : FD3 W1 w G Gf IM f mg ky rg bo bn bc BD TB Sg (upd L 8) x25 x26 x27 x28 x29 x30 x31 x32 (.pointer (some ⟨G, 4, none⟩)) x34 x35 x24 x36 x37 x8 x9 W :=
  ⟨h.x, h.p0, h.p1, h.p2, h.p3, h.p4, h.p5, h.p6, h.p7, fun _ => rfl, h.p9, h.p10, h.p11, h.p12, h.p13, h.p14, h.p15⟩
theorem FD3.s9 (h : FD3 W1 w G Gf IM f mg ky rg bo bn bc BD TB Sg L x25 x26 x27 x28 x29 x30 x31 x32 x33 x34 x35 x24 x36 x37 x8 x9 W) : FD3 W1 w G Gf IM f mg ky rg bo bn bc BD TB Sg (upd L 9) x25 x26 x27 x28 x29 x30 x31 x32 x33 (.agg TB.toArray) x35 x24 x36 x37 x8 x9 W :=
  ⟨h.x, h.p0, h.p1, h.p2, h.p3, h.p4, h.p5, h.p6, h.p7, h.p8, fun _ => rfl, h.p10, h.p11, h.p12, h.p13, h.p14, h.p15⟩
theorem FD3.s10 (h : FD3 W1 w G Gf IM f mg ky rg bo bn bc BD TB Sg L x25 x26 x27 x28 x29 x30 x31 x32 x33 x34 x35 x24 x36 x37 x8 x9 W) (hX : FR w G Gf IM f W2) (hb3 : Below W.heap.size W W2) : FD3 W1 w G Gf IM f mg ky rg bo bn bc BD TB Sg (upd L 10) x25 x26 x27 x28 x29 x30 x31 x32 x33 x34 (.tuple #[.bool Sg, .int .i64 0]) x24 x36 x37 x8 x9 W2 :=
  ⟨hX, h.p0, h.p1, h.p2, h.p3, h.p4, h.p5, h.p6, fun k => let ⟨ao, c, h1, h2⟩ := h.p7 k; ⟨ao, c, h1, h2.keep hb3⟩, h.p8, h.p9, fun _ => rfl, h.p11, h.p12, h.p13, h.p14, h.p15⟩
theorem FD3.s11 (h : FD3 W1 w G Gf IM f mg ky rg bo bn bc BD TB Sg L x25 x26 x27 x28 x29 x30 x31 x32 x33 x34 x35 x24 x36 x37 x8 x9 W) : FD3 W1 w G Gf IM f mg ky rg bo bn bc BD TB Sg (upd L 11) x25 x26 x27 x28 x29 x30 x31 x32 x33 x34 x35 (.tuple #[.bool Sg, .int .i64 0]) x36 x37 x8 x9 W :=
  ⟨h.x, h.p0, h.p1, h.p2, h.p3, h.p4, h.p5, h.p6, h.p7, h.p8, h.p9, h.p10, fun _ => rfl, h.p12, h.p13, h.p14, h.p15⟩
theorem FD3.s12 (h : FD3 W1 w G Gf IM f mg ky rg bo bn bc BD TB Sg L x25 x26 x27 x28 x29 x30 x31 x32 x33 x34 x35 x24 x36 x37 x8 x9 W) : FD3 W1 w G Gf IM f mg ky rg bo bn bc BD TB Sg (upd L 12) x25 x26 x27 x28 x29 x30 x31 x32 x33 x34 x35 x24 (.bool Sg) x37 x8 x9 W :=
  ⟨h.x, h.p0, h.p1, h.p2, h.p3, h.p4, h.p5, h.p6, h.p7, h.p8, h.p9, h.p10, h.p11, fun _ => rfl, h.p13, h.p14, h.p15⟩
theorem FD3.s13 (h : FD3 W1 w G Gf IM f mg ky rg bo bn bc BD TB Sg L x25 x26 x27 x28 x29 x30 x31 x32 x33 x34 x35 x24 x36 x37 x8 x9 W) : FD3 W1 w G Gf IM f mg ky rg bo bn bc BD TB Sg (upd L 13) x25 x26 x27 x28 x29 x30 x31 x32 x33 x34 x35 x24 x36 (.int .i64 0) x8 x9 W :=
  ⟨h.x, h.p0, h.p1, h.p2, h.p3, h.p4, h.p5, h.p6, h.p7, h.p8, h.p9, h.p10, h.p11, h.p12, fun _ => rfl, h.p14, h.p15⟩
theorem FD3.s14 (h : FD3 W1 w G Gf IM f mg ky rg bo bn bc BD TB Sg L x25 x26 x27 x28 x29 x30 x31 x32 x33 x34 x35 x24 x36 x37 x8 x9 W) : FD3 W1 w G Gf IM f mg ky rg bo bn bc BD TB Sg (upd L 14) x25 x26 x27 x28 x29 x30 x31 x32 x33 x34 x35 x24 x36 x37 (.bool Sg) x9 W :=
  ⟨h.x, h.p0, h.p1, h.p2, h.p3, h.p4, h.p5, h.p6, h.p7, h.p8, h.p9, h.p10, h.p11, h.p12, h.p13, fun _ => rfl, h.p15⟩
theorem FD3.s15 (h : FD3 W1 w G Gf IM f mg ky rg bo bn bc BD TB Sg L x25 x26 x27 x28 x29 x30 x31 x32 x33 x34 x35 x24 x36 x37 x8 x9 W) : FD3 W1 w G Gf IM f mg ky rg bo bn bc BD TB Sg (upd L 15) x25 x26 x27 x28 x29 x30 x31 x32 x33 x34 x35 x24 x36 x37 x8 (.int .i64 0) W :=
  ⟨h.x, h.p0, h.p1, h.p2, h.p3, h.p4, h.p5, h.p6, h.p7, h.p8, h.p9, h.p10, h.p11, h.p12, h.p13, h.p14, fun _ => rfl⟩
end
@[reducible] def IFD3 (W1 : World) (w : World) (G Gf : Nat) (IM : List Value) (f : Fd) (mg ky : Nat) (rg : Nat) (bo : Option Addr) (bn bc : Nat) (BD : List By) (TB : List Value) (Sg : Bool) (y0 y1 y2 y3 y4 y5 y6 y7 y10 y11 y12 y13 y14 y15 y16 y17 y18 y19 y20 y21 y22 y23 y38 y39 y40 y41 y42 y43 y44 y45 y46 y47 y48 y49 y50 y51 y52 y53 y54 y55 y56 y57 y58 y59 y60 y61 y62 y63 y64 y65 y66 y67 y68 y69 y70 y71 y72 : Value) : (Nat → Bool) → Act → World → Prop := fun L a W => ∃ x25 x26 x27 x28 x29 x30 x31 x32 x33 x34 x35 x24 x36 x37 x8 x9, a = ⟨#[y0, y1, y2, y3, y4, y5, y6, y7, x8, x9, y10, y11, y12, y13, y14, y15, y16, y17, y18, y19, y20, y21, y22, y23, x24, x25, x26, x27, x28, x29, x30, x31, x32, x33, x34, x35, x36, x37, y38, y39, y40, y41, y42, y43, y44, y45, y46, y47, y48, y49, y50, y51, y52, y53, y54, y55, y56, y57, y58, y59, y60, y61, y62, y63, y64, y65, y66, y67, y68, y69, y70, y71, y72], []⟩ ∧ FD3 W1 w G Gf IM f mg ky rg bo bn bc BD TB Sg L x25 x26 x27 x28 x29 x30 x31 x32 x33 x34 x35 x24 x36 x37 x8 x9 W
theorem FD3.step {W1 : World} {w : World} {G Gf : Nat} {IM : List Value} {f : Fd} {mg ky : Nat} {rg : Nat} {bo : Option Addr} {bn bc : Nat} {BD : List By} {TB : List Value} {Sg : Bool} {y0 y1 y2 y3 y4 y5 y6 y7 y10 y11 y12 y13 y14 y15 y16 y17 y18 y19 y20 y21 y22 y23 y38 y39 y40 y41 y42 y43 y44 y45 y46 y47 y48 y49 y50 y51 y52 y53 y54 y55 y56 y57 y58 y59 y60 y61 y62 y63 y64 y65 y66 y67 y68 y69 y70 y71 y72 : Value} {P : Program} {ops : Array Oper} {Q : Exit → Act → World → Prop} {i : Nat} {o : Oper} (hq : ∀ x25 x26 x27 x28 x29 x30 x31 x32 x33 x34 x35 x24 x36 x37 x8 x9 (L : Nat → Bool) (W : World), FD3 W1 w G Gf IM f mg ky rg bo bn bc BD TB Sg L x25 x26 x27 x28 x29 x30 x31 x32 x33 x34 x35 x24 x36 x37 x8 x9 W → L i = false → (∀ j ∈ onesOf o, L j = true) → ∀ K : Act → World → Prop, Shut (∀ a' w', IFD3 W1 w G Gf IM f mg ky rg bo bn bc BD TB Sg y0 y1 y2 y3 y4 y5 y6 y7 y10 y11 y12 y13 y14 y15 y16 y17 y18 y19 y20 y21 y22 y23 y38 y39 y40 y41 y42 y43 y44 y45 y46 y47 y48 y49 y50 y51 y52 y53 y54 y55 y56 y57 y58 y59 y60 y61 y62 y63 y64 y65 y66 y67 y68 y69 y70 y71 y72 (upd L i) a' w' → K a' w') → if Region.wanted o (yielded ops (⟨#[y0, y1, y2, y3, y4, y5, y6, y7, x8, x9, y10, y11, y12, y13, y14, y15, y16, y17, y18, y19, y20, y21, y22, y23, x24, x25, x26, x27, x28, x29, x30, x31, x32, x33, x34, x35, x36, x37, y38, y39, y40, y41, y42, y43, y44, y45, y46, y47, y48, y49, y50, y51, y52, y53, y54, y55, y56, y57, y58, y59, y60, y61, y62, y63, y64, y65, y66, y67, y68, y69, y70, y71, y72], []⟩ : Act).tmps) = true then Oper.wp P o ⟨#[y0, y1, y2, y3, y4, y5, y6, y7, x8, x9, y10, y11, y12, y13, y14, y15, y16, y17, y18, y19, y20, y21, y22, y23, x24, x25, x26, x27, x28, x29, x30, x31, x32, x33, x34, x35, x36, x37, y38, y39, y40, y41, y42, y43, y44, y45, y46, y47, y48, y49, y50, y51, y52, y53, y54, y55, y56, y57, y58, y59, y60, y61, y62, y63, y64, y65, y66, y67, y68, y69, y70, y71, y72], []⟩ W K Q else K ((⟨#[y0, y1, y2, y3, y4, y5, y6, y7, x8, x9, y10, y11, y12, y13, y14, y15, y16, y17, y18, y19, y20, y21, y22, y23, x24, x25, x26, x27, x28, x29, x30, x31, x32, x33, x34, x35, x36, x37, y38, y39, y40, y41, y42, y43, y44, y45, y46, y47, y48, y49, y50, y51, y52, y53, y54, y55, y56, y57, y58, y59, y60, y61, y62, y63, y64, y65, y66, y67, y68, y69, y70, y71, y72], []⟩ : Act).put o.dst undef) W) : StepI P ops (IFD3 W1 w G Gf IM f mg ky rg bo bn bc BD TB Sg y0 y1 y2 y3 y4 y5 y6 y7 y10 y11 y12 y13 y14 y15 y16 y17 y18 y19 y20 y21 y22 y23 y38 y39 y40 y41 y42 y43 y44 y45 y46 y47 y48 y49 y50 y51 y52 y53 y54 y55 y56 y57 y58 y59 y60 y61 y62 y63 y64 y65 y66 y67 y68 y69 y70 y71 y72) Q i o := by
  rintro L a W ⟨x25, x26, x27, x28, x29, x30, x31, x32, x33, x34, x35, x24, x36, x37, x8, x9, rfl, h⟩
  exact hq _ _ _ _ _ _ _ _ _ _ _ _ _ _ _ _ _ _ h
theorem FD3.ends {W1 : World} {w : World} {G Gf : Nat} {IM : List Value} {f : Fd} {mg ky : Nat} {rg : Nat} {bo : Option Addr} {bn bc : Nat} {BD : List By} {TB : List Value} {Sg : Bool} {y0 y1 y2 y3 y4 y5 y6 y7 y10 y11 y12 y13 y14 y15 y16 y17 y18 y19 y20 y21 y22 y23 y38 y39 y40 y41 y42 y43 y44 y45 y46 y47 y48 y49 y50 y51 y52 y53 y54 y55 y56 y57 y58 y59 y60 y61 y62 y63 y64 y65 y66 y67 y68 y69 y70 y71 y72 : Value} {mm_ : Nat} {Q : Exit → Act → World → Prop} (hq : ∀ x25 x26 x27 x28 x29 x30 x31 x32 x33 x34 x35 x24 x36 x37 x8 x9 (L : Nat → Bool) (W : World), (∀ j, j < mm_ → L j = true) → FD3 W1 w G Gf IM f mg ky rg bo bn bc BD TB Sg L x25 x26 x27 x28 x29 x30 x31 x32 x33 x34 x35 x24 x36 x37 x8 x9 W → Q .normal ⟨#[y0, y1, y2, y3, y4, y5, y6, y7, x8, x9, y10, y11, y12, y13, y14, y15, y16, y17, y18, y19, y20, y21, y22, y23, x24, x25, x26, x27, x28, x29, x30, x31, x32, x33, x34, x35, x36, x37, y38, y39, y40, y41, y42, y43, y44, y45, y46, y47, y48, y49, y50, y51, y52, y53, y54, y55, y56, y57, y58, y59, y60, y61, y62, y63, y64, y65, y66, y67, y68, y69, y70, y71, y72], []⟩ W) : ∀ L a' w', (∀ j, j < mm_ → L j = true) → IFD3 W1 w G Gf IM f mg ky rg bo bn bc BD TB Sg y0 y1 y2 y3 y4 y5 y6 y7 y10 y11 y12 y13 y14 y15 y16 y17 y18 y19 y20 y21 y22 y23 y38 y39 y40 y41 y42 y43 y44 y45 y46 y47 y48 y49 y50 y51 y52 y53 y54 y55 y56 y57 y58 y59 y60 y61 y62 y63 y64 y65 y66 y67 y68 y69 y70 y71 y72 L a' w' → Q .normal a' w' := by
  rintro L a W hall ⟨x25, x26, x27, x28, x29, x30, x31, x32, x33, x34, x35, x24, x36, x37, x8, x9, rfl, h⟩
  exact hq _ _ _ _ _ _ _ _ _ _ _ _ _ _ _ _ _ _ hall h
/-- What find asks of the model. -/
structure FdIn (w : World) (mg rg : Nat) (c : Cfg) (l : Secs) : Prop where
  sl : w.cell? ⟨mg, 1, none⟩ = some (.int .i64 c.slots)
  ky : w.cell? ⟨mg, 4, none⟩ = some (.int .i64 c.keys)
  rp : w.cell? ⟨mg, 7, none⟩ = some (.pointer (some ⟨rg, 0, none⟩))
  ring : ∃ N M b0 vs, KgO N M w rg b0 vs l
  l256 : ∀ i, i < l.length → (l.getD i (0, [])).2.length ≤ 256
theorem FdIn.keep {w W : World} {mg rg : Nat} {c : Cfg} {l : Secs} (h : FdIn w mg rg c l) (hb : Below w.heap.size w W) : FdIn W mg rg c l :=
  ⟨(hb.cell (cell_lt h.sl)).trans h.sl, (hb.cell (cell_lt h.ky)).trans h.ky, (hb.cell (cell_lt h.rp)).trans h.rp, let ⟨N, M, b0, vs, k⟩ := h.ring; ⟨N, M, b0, vs, k.below hb⟩, h.l256⟩
set_option maxHeartbeats 8000000 in
set_option maxRecDepth 100000 in
theorem find_img (c : Cfg) (l : Secs) (mg rg : Nat) (bo : Option Addr) (bc : Nat) (b : List By) (w : World) (hM : FdIn w mg rg c l) (hb : IsB w bo b) (hnil : bo = none → bc = 0) (hcap : b.length ≤ bc) (hl : b.length ≤ 140737488351232) (sl k v : Nat) (p t : List By) (hp : parse b = .img sl k v p t) :
    Calls Tryz.prog 71 #[.pointer (some ⟨mg, 0, none⟩), .slice bo b.length bc] w fun e w' => e = .returned (.agg (fdC (findC c l b)).toArray) ∧ Below w.heap.size w w' := by
  have hF : findC c l b = if c.slots ≤ sl then ⟨5, false, sl, k, v⟩ else if c.keys ≤ k ∨ (fnd l k).isSome = false then ⟨13, false, sl, k, v⟩ else ⟨0, decide (sgnE l k = 0 ∧ sgn l k (b.take (b.length - 32)) = t), sl, k, v⟩ := by unfold findC; rw [hp]
  have hpi := parse_img hp
  have ht : t.length = 32 := hpi.2.2.2.2.1
  obtain ⟨w1, hw1⟩ : ∃ w1, w1 = w.alloc (.cells #[.int .i64 0, .bool false, .int .i64 0, .int .i64 0, .int .i64 0] 89) := ⟨_, rfl⟩
  have hb1 : Below w.heap.size w w1 := by rw [hw1]; exact (Below.refl _ _).alloc (Nat.le_refl _) _
  have r1 : Row w1 w.heap.size 89 (fdC fd0) := by rw [hw1]; exact Row.at w 89 (fdC fd0) _ _ rfl rfl
  have hz1 : w1.heap.size = w.heap.size + 1 := by rw [hw1]; simp
  have PA := cparse_img bo b.length bc b rfl w1 (hb.below hb1 (Nat.le_refl _)) hnil hcap sl k v p t hp
  have HB1 : Hid (Below w.heap.size w w1 ∧ Row w1 w.heap.size 89 (fdC fd0) ∧ w1.heap.size = w.heap.size + 1) := ⟨hb1, r1, hz1⟩
  have HSL : Hid (∀ W, Below w.heap.size w W → W.cell? ⟨mg, 1, none⟩ = some (.int .i64 c.slots)) := fun W h => (hM.keep h).sl
  have HKY : Hid (∀ W, Below w.heap.size w W → _) := fun W h => hasKey_any mg c (k : Int) W (hM.keep h).ky
  have HAS : Hid (∀ W, Below w.heap.size w W → Calls Tryz.prog 42 #[.pointer (some ⟨rg, 0, none⟩), .int .i64 (k : Int)] W fun e w' => e = .returned (.bool (fnd l k).isSome) ∧ w' = W) := fun W h => by
    obtain ⟨N, M, b0, vs, kk⟩ := (hM.keep h).ring
    exact chas_any kk k
  have CRG : Hid (∀ W, Below w.heap.size w W → W.cell? ⟨mg, 7, none⟩ = some (.pointer (some ⟨rg, 0, none⟩))) := fun W h => (hM.keep h).rp
  have BOD : Hid (∀ W, Below w.heap.size w W → _) := fun W h => cbody_any bo b.length bc b rfl W (hb.below h (Nat.le_refl _)) hnil hcap (by omega)
  have CHK : Hid (∀ (ao : Option Addr) (cc : Nat) W, Below w.heap.size w W → Own w.heap.size W (.slice ao (b.length - 32) cc) (b.take (b.length - 32)) → Calls Tryz.prog 88 #[.pointer (some ⟨rg, 0, none⟩), .int .i64 (k : Int), .slice ao (b.length - 32) cc, .agg (t.map B8).toArray] W fun e w' => e = .returned (.tuple #[.bool (decide (sgnE l k = 0 ∧ sgn l k (b.take (b.length - 32)) = t)), .int .i64 (sgnE l k)]) ∧ Below W.heap.size W w') := fun ao cc W h hown => by
    obtain ⟨N, M, b0, vs, kk⟩ := (hM.keep h).ring
    exact ccheck_any kk hM.l256 k ao (b.length - 32) cc (b.take (b.length - 32)) (by rw [List.length_take]; omega) (own_IsB hown) (own_cap hown) (own_nilc hown) (by omega) t ht
  have HE : Hid (sgnE l k = 0 ∨ ¬ sgnE l k = 0) := Classical.em _
  obtain ⟨FF, HFF⟩ : ∃ FF, Hid (FF = findC c l b) := ⟨_, rfl⟩
  rw [← HFF.out]
  rw [hF] at HFF
  have HTL : Hid (t.length = 32) := ht
  clear hb1 r1 hz1 hM hb hnil hcap hl hp hF hpi ht
  go_enter Tryz.func71, Tryz.ntmps71
  go_wp2_with (rw [← hw1]; have hz := hw1; clear hz hw1)
  refine PA.mono ?_
  rintro e w2 ⟨ao', c', rfl, hown, hb2⟩
  dsimp only
  obtain ⟨w3, hw3⟩ : ∃ w3, w3 = w2.alloc (.cells #[.int .i64 0, .int .i64 0, .int .i64 0, .slice none 0 0, .int .u8 0, .int .u8 0, .int .u8 0, .int .u8 0, .int .u8 0, .int .u8 0, .int .u8 0, .int .u8 0, .int .u8 0, .int .u8 0, .int .u8 0, .int .u8 0, .int .u8 0, .int .u8 0, .int .u8 0, .int .u8 0, .int .u8 0, .int .u8 0, .int .u8 0, .int .u8 0, .int .u8 0, .int .u8 0, .int .u8 0, .int .u8 0, .int .u8 0, .int .u8 0, .int .u8 0, .int .u8 0, .int .u8 0, .int .u8 0, .int .u8 0, .int .u8 0] 110) := ⟨_, rfl⟩
  have r3 : Row w3 w2.heap.size 110 zIm := by rw [hw3]; exact Row.at w2 110 zIm _ _ rfl rfl
  have LI : Hid ((imgC sl k v (.slice ao' p.length c') t).length = 36) := imgC_len _ _ _ _ _ HTL.out
  have K0 : Hid ((imgC sl k v (.slice ao' p.length c') t)[0]? = some (.int .i64 (sl : Int))) := rfl
  have K1 : Hid ((imgC sl k v (.slice ao' p.length c') t)[1]? = some (.int .i64 (k : Int))) := rfl
  have K2 : Hid ((imgC sl k v (.slice ao' p.length c') t)[2]? = some (.int .i64 (v : Int))) := rfl
  have KT : Hid (((imgC sl k v (.slice ao' p.length c') t).drop 4).take 32 = t.map B8) := by show (t.map B8).take 32 = _; rw [List.take_of_length_le (by rw [List.length_map, HTL.out]; omega)]
  have LT : Hid ((t.map B8).length = 32) := by show (t.map B8).length = 32; rw [List.length_map, HTL.out]
  have IOC : Hid (∀ x ∈ imgC sl k v (.slice ao' p.length c') t, x.oneCell' = true) := imgC_one _ _ _ ao' p.length c' _
  have P2 : Hid (∀ w4, Row w4 w2.heap.size 110 (imgC sl k v (.slice ao' p.length c') t) → SameBut w2.heap.size w3 w4 → FP w w2.heap.size (imgC sl k v (.slice ao' p.length c') t) .nilIface 0 w4) := fun w4 hr4 hs4 => by
    obtain ⟨x1, x2, x3⟩ := HB1.out
    have y1 : Below w.heap.size w w2 := x1.trans (hb2.mono x1.size)
    have y2 := hb2.size
    have y3 : Below w.heap.size w w3 := by rw [hw3]; exact y1.alloc y1.size _
    refine ⟨hs4.below y3 (by omega), ?_, hr4, .inl ⟨rfl, rfl⟩, by omega⟩
    have : Row w3 w.heap.size 89 (fdC fd0) := by rw [hw3]; exact (x2.below hb2 x2.lt).alloc _
    exact this.but hs4 (by omega)
  clear PA hown hb2 HB1
  generalize imgC sl k v (.slice ao' p.length c') t = IM at *
  go_wp2_with (first
    | (refine wpList_store_Row rfl 110 (.tmp 5) (.tmp 13) rfl w2.heap.size 110 0 zIm IM r3 (Nat.le_of_eq (by rw [LI.out]; rfl)) rfl rfl (by rw [LI.out]; kernel_rfl) IOC.out ?_; intro w4 hr4 hs4; have HS : Hid (FP w w2.heap.size IM .nilIface 0 w4) := P2.out w4 (row_whole hr4 (Nat.le_of_eq (by rw [LI.out]; rfl))) hs4; clear hr4 hs4 r3)
    | (rw [← hw3]; have hz := hw3; clear hz hw3))
  have SZ : Hid (w2.heap.size + 1 ≤ w4.drew.heap.size) := HS.out.img.lt
  clear P2 IOC LI
  generalize w2.heap.size = G at *
  have NU : Hid (∀ W, FP w G IM .nilIface 0 W → Calls Tryz.prog 87 #[.nilIface] W fun e w' => e = .returned (.int .i64 0) ∧ Below W.heap.size W w') := fun W h => number_nil W
  refine wp_region_inv (IFD2O w w G IM (.nilIface) 0 sl k v _ _ _ _ _ _ _ _ _ _ _ _ _ _ _ _ _ _ _ _ _ _ _ _ _ _ _ _ _ _ _ _ _ _ _ _ _ _ _ _ _ _ _ _ _ _ _ _ _ _ _ _ _ _ _ _ _ _ _ _ _ _ _) (by kernel_rfl) (by kernel_rfl) ⟨_, _, _, _, _, _, _, _, _, _, rfl, ⟨(AS.start HS.out.drew SZ.out), fun k => (by cases k), fun k => (by cases k), fun k => (by cases k), fun k => (by cases k), fun k => (by cases k), fun k => (by cases k), fun k => (by cases k), fun k => (by cases k), fun k => (by cases k), fun k => (by cases k)⟩⟩ ?_ ?_
  · refine .cons ?_ (.cons ?_ (.cons ?_ (.cons ?_ (.cons ?_ (.cons ?_ (.cons ?_ (.cons ?_ (.cons ?_ (.cons ?_ (.cons ?_ .nil))))))))))
    all_goals (refine FD2O.step ?_; intro x15 x16 x17 x18 x19 x20 x21 x22 x23 x7 L W hI hL hd K hK)
    · rw [if_pos (by rfl)]
      go_simp
      exact hK.out _ _ ⟨_, _, _, _, _, _, _, _, _, _, rfl, hI.s0⟩
    · have hx0 := hI.p0 (hd 0 (by decide))
      subst hx0
      rw [if_pos (by rfl)]
      go_simp
      refine (NU.out _ hI.x.pw).mono ?_
      rintro e W2 ⟨rfl, hb3⟩
      go_simp
      have hX := hI.x.keep (hI.x.pw.keep hb3) hb3
      exact hK.out _ _ ⟨_, _, _, _, _, _, _, _, _, _, rfl, hI.s1 hX⟩
    · rw [if_pos (by rfl)]
      go_simp
      exact hK.out _ _ ⟨_, _, _, _, _, _, _, _, _, _, rfl, hI.s2⟩
    · have hx2 := hI.p2 (hd 2 (by decide))
      subst hx2
      rw [if_pos (by rfl)]
      have hc := hI.x.pw.img.cell 0 _ K0.out
      go_simp
      exact hK.out _ _ ⟨_, _, _, _, _, _, _, _, _, _, rfl, hI.s3⟩
    · rw [if_pos (by rfl)]
      go_simp
      exact hK.out _ _ ⟨_, _, _, _, _, _, _, _, _, _, rfl, hI.s4⟩
    · have hx4 := hI.p4 (hd 4 (by decide))
      subst hx4
      rw [if_pos (by rfl)]
      have hc := hI.x.pw.img.cell 1 _ K1.out
      go_simp
      exact hK.out _ _ ⟨_, _, _, _, _, _, _, _, _, _, rfl, hI.s5⟩
    · rw [if_pos (by rfl)]
      go_simp
      exact hK.out _ _ ⟨_, _, _, _, _, _, _, _, _, _, rfl, hI.s6⟩
    · have hx6 := hI.p6 (hd 6 (by decide))
      subst hx6
      rw [if_pos (by rfl)]
      have hc := hI.x.pw.img.cell 2 _ K2.out
      go_simp
      exact hK.out _ _ ⟨_, _, _, _, _, _, _, _, _, _, rfl, hI.s7⟩
    · have hx1 := hI.p1 (hd 1 (by decide))
      subst hx1
      have hx3 := hI.p3 (hd 3 (by decide))
      subst hx3
      have hx5 := hI.p5 (hd 5 (by decide))
      subst hx5
      have hx7 := hI.p7 (hd 7 (by decide))
      subst hx7
      rw [if_pos (by rfl)]
      go_simp
      exact hK.out _ _ ⟨_, _, _, _, _, _, _, _, _, _, rfl, hI.s8⟩
    · have h11 : L 10 = false := Bool.eq_false_iff.2 (fun e => (by have h7 := hI.c10_9 e; rw [hL] at h7; exact Bool.noConfusion h7))
      have hx0 := hI.x
      rw [hL, h11] at hx0
      rw [if_pos (by rfl)]
      go_simp
      have hX := (hx0.alloc #[.int .i64 0, .bool false, .int .i64 0, .int .i64 0, .int .i64 0] rfl (hx0.pw.keep ((Below.refl _ _).alloc (Nat.le_refl _) _))).as2 h11
      exact hK.out _ _ ⟨_, _, _, _, _, _, _, _, _, _, rfl, hI.s9 hX⟩
    · have hx8 := hI.p8 (hd 8 (by decide))
      subst hx8
      have hx0 := hI.x
      have h10 := hd 9 (by decide)
      rw [h10, hL] at hx0
      obtain ⟨K_, hx, hlo, hrow⟩ := hx0.nw rfl
      subst hx
      refine step_store_Row rfl 89 _ _ rfl K_ 89 (fdC fd0) (fdC ⟨0, false, sl, k, v⟩) hrow rfl rfl rfl (by kernel_rfl) (fdC_one _) ?_
      intro W2 hr2 hs2
      have hX := (hx0.store (hx0.pw.but hs2 hlo) hr2 hs2).as1 h10
      exact hK.out _ _ ⟨_, _, _, _, _, _, _, _, _, _, rfl, hI.s10 hX (hd 9 (by decide))⟩
  · refine FD2O.ends ?_; intro x15 x16 x17 x18 x19 x20 x21 x22 x23 x7 L W hall hI
    have hx0 := hI.p0 (hall 0 (by decide))
    subst hx0
    have hx1 := hI.p1 (hall 1 (by decide))
    subst hx1
    have hx2 := hI.p2 (hall 2 (by decide))
    subst hx2
    have hx3 := hI.p3 (hall 3 (by decide))
    subst hx3
    have hx4 := hI.p4 (hall 4 (by decide))
    subst hx4
    have hx5 := hI.p5 (hall 5 (by decide))
    subst hx5
    have hx6 := hI.p6 (hall 6 (by decide))
    subst hx6
    have hx7 := hI.p7 (hall 7 (by decide))
    subst hx7
    have hx8 := hI.p8 (hall 8 (by decide))
    subst hx8
    have hXe := hI.x
    rw [hall 9 (by decide)] at hXe
    rw [hall 10 (by decide)] at hXe
    clear hI hall
    try dsimp only
    obtain ⟨Gf, hx, hlo, hrow⟩ := hXe.nw rfl
    subst hx
    have hR : FR w G Gf IM ⟨0, false, sl, k, v⟩ W := ⟨hXe.pw, hrow, hlo⟩
    have c0 : W.cell? ⟨Gf, 0, none⟩ = some (.int .i64 0) := hR.row.cell 0 _ rfl
    have ci : W.cell? ⟨G, 0, none⟩ = some (.int .i64 (sl : Int)) := hR.fp.img.cell 0 _ K0.out
    have HR : Hid (FR w G Gf IM ⟨0, false, sl, k, v⟩ W) := hR
    have cS := HSL.out _ hR.fp.bel
    have HSC := hasSlot_any mg c (sl : Int) W cS
    have j0 : (0 : Int) ≤ (sl : Int) := by omega
    clear hXe HS SZ NU hlo hrow hR HSL
    by_cases h1 : c.slots ≤ sl
    · have HQ : Hid (FF = ⟨5, false, sl, k, v⟩) := HFF.out.trans (if_pos h1)
      have d1 : decide (0 ≤ (sl : Int) ∧ (sl : Int) < c.slots) = false := decide_eq_false (fun q => by omega)
      rw [d1] at HSC
      clear d1 h1 HFF
      go_wp2_with fail
      refine HSC.mono ?_
      rintro e w5 ⟨rfl, hb5⟩
      dsimp only
      have HR5 : Hid (FR w G Gf IM ⟨0, false, sl, k, v⟩ w5) := HR.out.keep hb5
      have c5 : w5.cell? ⟨Gf, 0, none⟩ = some (.int .i64 0) := HR5.out.row.cell 0 _ rfl
      have f5 : w5.frozen? ⟨Gf, 0, none⟩ = false := HR5.out.row.frozen 0
      obtain ⟨w6, hw6⟩ : ∃ w6, w6 = w5.setCell ⟨Gf, 0, none⟩ (.int .i64 5) := ⟨_, rfl⟩
      have HL : Hid (FR w G Gf IM ⟨5, false, sl, k, v⟩ w6) := by rw [hw6]; exact HR5.out.set 0 _ rfl
      clear HR5 HR hb5 HSC
      have rr : Row w6 w.heap.size 89 (fdC fd0) := HL.out.fp.res
      have rf : Row w6 Gf 89 (fdC ⟨5, false, sl, k, v⟩) := HL.out.row
      have LF : Hid ((fdC ⟨5, false, sl, k, v⟩).length = 5) := rfl
      go_wp2_with (first
        | (rw [← hw6]; have hz := hw6; clear hz hw6)
        | (refine wpList_load_whole_g ?_ 89 (.tmp 7) rfl Gf 89 5 (fdC ⟨5, false, sl, k, v⟩) rf rfl _ LF.out Tryz.underlying89 rfl (by kernel_rfl) ?_; · rfl)
        | (refine wpList_store_Row rfl 89 (.tmp 4) (.tmp 72) rfl w.heap.size 89 0 (fdC fd0) (fdC ⟨5, false, sl, k, v⟩) rr (Nat.le_refl _) rfl rfl (by kernel_rfl) (fdC_one _) ?_; intro w9 hr9 hs9; have r9 := row_whole hr9 (Nat.le_refl _); have HB9 : Hid (Below w.heap.size w w9) := hs9.below HL.out.fp.bel (Nat.le_refl _); clear hr9 hs9))
      refine bodyPost_ret (results_Row Tryz.results71 _ w9 w.heap.size 89 _ _ rfl r9 Tryz.underlying89 rfl (by kernel_rfl)) rfl ?_
      exact ⟨by rw [HQ.out], HB9.out⟩
    · have HFG : Hid _ := HFF.out.trans (if_neg h1)
      have j1 : (sl : Int) < c.slots := by omega
      have HR5 : Hid (FR w G Gf IM ⟨0, false, sl, k, v⟩ W) := HR.out
      clear HFF h1 HR
      by_cases h2 : c.keys ≤ k
      · have HQ : Hid (FF = ⟨13, false, sl, k, v⟩) := HFG.out.trans (if_pos (.inl h2))
        have d2 : decide (0 ≤ (k : Int) ∧ (k : Int) < c.keys) = false := decide_eq_false (fun q => by omega)
        rw [d2] at HKY
        clear HFG d2 h2
        go_wp2
        refine wp_region_inv (IFD8N w w G Gf IM ⟨0, false, sl, k, v⟩ mg k _ _ _ _ _ _ _ _ _ _ _ _ _ _ _ _ _ _ _ _ _ _ _ _ _ _ _ _ _ _ _ _ _ _ _ _ _ _ _ _ _ _ _ _ _ _ _ _ _ _ _ _ _ _ _ _ _) (by kernel_rfl) (by kernel_rfl) ⟨_, _, _, _, _, _, _, _, _, _, _, _, _, _, _, _, rfl, ⟨HR5.out.drew, fun k => (by cases k), fun k => (by cases k), fun k => (by cases k), fun k => (by cases k), fun k => (by cases k), fun k => (by cases k), fun k => (by cases k), fun k => (by cases k)⟩⟩ ?_ ?_
        · refine .cons ?_ (.cons ?_ (.cons ?_ (.cons ?_ (.cons ?_ (.cons ?_ (.cons ?_ (.cons ?_ (.cons ?_ (.cons ?_ (.cons ?_ (.cons ?_ (.cons ?_ (.cons ?_ (.cons ?_ (.cons ?_ .nil)))))))))))))))
          all_goals (refine FD8N.step ?_; intro x56 x57 x58 x59 x60 x61 x62 x63 x64 x65 x66 x67 x68 x69 x70 x55 L W hI hL hd K hK)
          · rw [if_pos (by rfl)]
            go_simp
            exact hK.out _ _ ⟨_, _, _, _, _, _, _, _, _, _, _, _, _, _, _, _, rfl, hI.s0⟩
          · rw [if_pos (by rfl)]
            go_simp
            exact hK.out _ _ ⟨_, _, _, _, _, _, _, _, _, _, _, _, _, _, _, _, rfl, hI.s1⟩
          · have hx1 := hI.p1 (hd 1 (by decide))
            subst hx1
            rw [if_pos (by rfl)]
            have hc := hI.x.fp.img.cell 1 _ K1.out
            go_simp
            exact hK.out _ _ ⟨_, _, _, _, _, _, _, _, _, _, _, _, _, _, _, _, rfl, hI.s2⟩
          · have hx0 := hI.p0 (hd 0 (by decide))
            subst hx0
            have hx2 := hI.p2 (hd 2 (by decide))
            subst hx2
            rw [if_pos (by rfl)]
            go_simp
            refine (HKY.out _ hI.x.fp.bel).mono ?_
            rintro e W2 ⟨rfl, hb3⟩
            go_simp
            have hX := hI.x.keep hb3
            exact hK.out _ _ ⟨_, _, _, _, _, _, _, _, _, _, _, _, _, _, _, _, rfl, hI.s3 hX⟩
          · have hx3 := hI.p3 (hd 3 (by decide))
            subst hx3
            rw [if_pos (by rfl)]
            go_simp
            exact hK.out _ _ ⟨_, _, _, _, _, _, _, _, _, _, _, _, _, _, _, _, rfl, hI.s4⟩
          · have hx4 := hI.p4 (hd 4 (by decide))
            subst hx4
            rw [if_pos (by rfl)]
            go_simp
            exact hK.out _ _ ⟨_, _, _, _, _, _, _, _, _, _, _, _, _, _, _, _, rfl, hI.s5⟩
          · have hx5 := hI.p5 (hd 5 (by decide))
            subst hx5
            rw [if_neg (by first | decide | exact Bool.false_ne_true)]
            exact hK.out _ _ ⟨_, _, _, _, _, _, _, _, _, _, _, _, _, _, _, _, rfl, hI.s6⟩
          · have hx5 := hI.p5 (hd 5 (by decide))
            subst hx5
            rw [if_neg (by first | decide | exact Bool.false_ne_true)]
            exact hK.out _ _ ⟨_, _, _, _, _, _, _, _, _, _, _, _, _, _, _, _, rfl, hI.s7⟩
          · have hx5 := hI.p5 (hd 5 (by decide))
            subst hx5
            rw [if_neg (by first | decide | exact Bool.false_ne_true)]
            exact hK.out _ _ ⟨_, _, _, _, _, _, _, _, _, _, _, _, _, _, _, _, rfl, hI.s8⟩
          · have hx5 := hI.p5 (hd 5 (by decide))
            subst hx5
            rw [if_neg (by first | decide | exact Bool.false_ne_true)]
            exact hK.out _ _ ⟨_, _, _, _, _, _, _, _, _, _, _, _, _, _, _, _, rfl, hI.s9⟩
          · have hx5 := hI.p5 (hd 5 (by decide))
            subst hx5
            rw [if_neg (by first | decide | exact Bool.false_ne_true)]
            exact hK.out _ _ ⟨_, _, _, _, _, _, _, _, _, _, _, _, _, _, _, _, rfl, hI.s10⟩
          · have hx5 := hI.p5 (hd 5 (by decide))
            subst hx5
            rw [if_neg (by first | decide | exact Bool.false_ne_true)]
            exact hK.out _ _ ⟨_, _, _, _, _, _, _, _, _, _, _, _, _, _, _, _, rfl, hI.s11⟩
          · have hx5 := hI.p5 (hd 5 (by decide))
            subst hx5
            rw [if_neg (by first | decide | exact Bool.false_ne_true)]
            exact hK.out _ _ ⟨_, _, _, _, _, _, _, _, _, _, _, _, _, _, _, _, rfl, hI.s12⟩
          · have hx5 := hI.p5 (hd 5 (by decide))
            subst hx5
            rw [if_neg (by first | decide | exact Bool.false_ne_true)]
            exact hK.out _ _ ⟨_, _, _, _, _, _, _, _, _, _, _, _, _, _, _, _, rfl, hI.s13⟩
          · have hx5 := hI.p5 (hd 5 (by decide))
            subst hx5
            rw [if_pos (by rfl)]
            go_simp
            exact hK.out _ _ ⟨_, _, _, _, _, _, _, _, _, _, _, _, _, _, _, _, rfl, hI.s14⟩
          · have hx14 := hI.p14 (hd 14 (by decide))
            subst hx14
            rw [if_pos (by rfl)]
            go_simp
            exact hK.out _ _ ⟨_, _, _, _, _, _, _, _, _, _, _, _, _, _, _, _, rfl, hI.s15⟩
        · refine FD8N.ends ?_; intro x56 x57 x58 x59 x60 x61 x62 x63 x64 x65 x66 x67 x68 x69 x70 x55 L W hall hI
          have hx0 := hI.p0 (hall 0 (by decide))
          subst hx0
          have hx1 := hI.p1 (hall 1 (by decide))
          subst hx1
          have hx2 := hI.p2 (hall 2 (by decide))
          subst hx2
          have hx3 := hI.p3 (hall 3 (by decide))
          subst hx3
          have hx4 := hI.p4 (hall 4 (by decide))
          subst hx4
          have hx5 := hI.p5 (hall 5 (by decide))
          subst hx5
          have hx14 := hI.p14 (hall 14 (by decide))
          subst hx14
          have hx15 := hI.p15 (hall 15 (by decide))
          subst hx15
          have hXe := hI.x
          clear hI hall
          try dsimp only
          have c5 : W.cell? ⟨Gf, 0, none⟩ = some (.int .i64 0) := hXe.row.cell 0 _ rfl
          have f5 : W.frozen? ⟨Gf, 0, none⟩ = false := hXe.row.frozen 0
          obtain ⟨w6, hw6⟩ : ∃ w6, w6 = W.setCell ⟨Gf, 0, none⟩ (.int .i64 13) := ⟨_, rfl⟩
          have HL : Hid (FR w G Gf IM ⟨13, false, sl, k, v⟩ w6) := by rw [hw6]; exact hXe.set 0 _ rfl
          clear hXe HR5
          have rr : Row w6 w.heap.size 89 (fdC fd0) := HL.out.fp.res
          have rf : Row w6 Gf 89 (fdC ⟨13, false, sl, k, v⟩) := HL.out.row
          have LF : Hid ((fdC ⟨13, false, sl, k, v⟩).length = 5) := rfl
          go_wp2_with (first
            | (rw [← hw6]; have hz := hw6; clear hz hw6)
            | (refine wpList_load_whole_g ?_ 89 (.tmp 7) rfl Gf 89 5 (fdC ⟨13, false, sl, k, v⟩) rf rfl _ LF.out Tryz.underlying89 rfl (by kernel_rfl) ?_; · rfl)
            | (refine wpList_store_Row rfl 89 (.tmp 4) (.tmp 72) rfl w.heap.size 89 0 (fdC fd0) (fdC ⟨13, false, sl, k, v⟩) rr (Nat.le_refl _) rfl rfl (by kernel_rfl) (fdC_one _) ?_; intro w9 hr9 hs9; have r9 := row_whole hr9 (Nat.le_refl _); have HB9 : Hid (Below w.heap.size w w9) := hs9.below HL.out.fp.bel (Nat.le_refl _); clear hr9 hs9))
          refine bodyPost_ret (results_Row Tryz.results71 _ w9 w.heap.size 89 _ _ rfl r9 Tryz.underlying89 rfl (by kernel_rfl)) rfl ?_
          exact ⟨by rw [HQ.out], HB9.out⟩
      · have d2 : decide (0 ≤ (k : Int) ∧ (k : Int) < c.keys) = true := decide_eq_true ⟨by omega, by omega⟩
        rw [d2] at HKY
        clear d2
        cases hq : (fnd l k).isSome with
        | false =>
          rw [hq] at HAS
          have HQ : Hid (FF = ⟨13, false, sl, k, v⟩) := HFG.out.trans (if_pos (.inr hq))
          clear HFG h2 hq
          go_wp2
          refine wp_region_inv (IFD8F w w G Gf IM ⟨0, false, sl, k, v⟩ mg k rg _ _ _ _ _ _ _ _ _ _ _ _ _ _ _ _ _ _ _ _ _ _ _ _ _ _ _ _ _ _ _ _ _ _ _ _ _ _ _ _ _ _ _ _ _ _ _ _ _ _ _ _ _ _ _ _ _) (by kernel_rfl) (by kernel_rfl) ⟨_, _, _, _, _, _, _, _, _, _, _, _, _, _, _, _, rfl, ⟨HR5.out.drew, fun k => (by cases k), fun k => (by cases k), fun k => (by cases k), fun k => (by cases k), fun k => (by cases k), fun k => (by cases k), fun k => (by cases k), fun k => (by cases k), fun k => (by cases k), fun k => (by cases k), fun k => (by cases k), fun k => (by cases k), fun k => (by cases k), fun k => (by cases k), fun k => (by cases k), fun k => (by cases k)⟩⟩ ?_ ?_
          · refine .cons ?_ (.cons ?_ (.cons ?_ (.cons ?_ (.cons ?_ (.cons ?_ (.cons ?_ (.cons ?_ (.cons ?_ (.cons ?_ (.cons ?_ (.cons ?_ (.cons ?_ (.cons ?_ (.cons ?_ (.cons ?_ .nil)))))))))))))))
            all_goals (refine FD8F.step ?_; intro x56 x57 x58 x59 x60 x61 x62 x63 x64 x65 x66 x67 x68 x69 x70 x55 L W hI hL hd K hK)
            · rw [if_pos (by rfl)]
              go_simp
              exact hK.out _ _ ⟨_, _, _, _, _, _, _, _, _, _, _, _, _, _, _, _, rfl, hI.s0⟩
            · rw [if_pos (by rfl)]
              go_simp
              exact hK.out _ _ ⟨_, _, _, _, _, _, _, _, _, _, _, _, _, _, _, _, rfl, hI.s1⟩
            · have hx1 := hI.p1 (hd 1 (by decide))
              subst hx1
              rw [if_pos (by rfl)]
              have hc := hI.x.fp.img.cell 1 _ K1.out
              go_simp
              exact hK.out _ _ ⟨_, _, _, _, _, _, _, _, _, _, _, _, _, _, _, _, rfl, hI.s2⟩
            · have hx0 := hI.p0 (hd 0 (by decide))
              subst hx0
              have hx2 := hI.p2 (hd 2 (by decide))
              subst hx2
              rw [if_pos (by rfl)]
              go_simp
              refine (HKY.out _ hI.x.fp.bel).mono ?_
              rintro e W2 ⟨rfl, hb3⟩
              go_simp
              have hX := hI.x.keep hb3
              exact hK.out _ _ ⟨_, _, _, _, _, _, _, _, _, _, _, _, _, _, _, _, rfl, hI.s3 hX⟩
            · have hx3 := hI.p3 (hd 3 (by decide))
              subst hx3
              rw [if_pos (by rfl)]
              go_simp
              exact hK.out _ _ ⟨_, _, _, _, _, _, _, _, _, _, _, _, _, _, _, _, rfl, hI.s4⟩
            · have hx4 := hI.p4 (hd 4 (by decide))
              subst hx4
              rw [if_pos (by rfl)]
              go_simp
              exact hK.out _ _ ⟨_, _, _, _, _, _, _, _, _, _, _, _, _, _, _, _, rfl, hI.s5⟩
            · have hx5 := hI.p5 (hd 5 (by decide))
              subst hx5
              rw [if_pos (by rfl)]
              go_simp
              exact hK.out _ _ ⟨_, _, _, _, _, _, _, _, _, _, _, _, _, _, _, _, rfl, hI.s6⟩
            · have hx6 := hI.p6 (hd 6 (by decide))
              subst hx6
              have hx5 := hI.p5 (hd 5 (by decide))
              subst hx5
              rw [if_pos (by rfl)]
              go_simp
              exact hK.out _ _ ⟨_, _, _, _, _, _, _, _, _, _, _, _, _, _, _, _, rfl, hI.s7⟩
            · have hx7 := hI.p7 (hd 7 (by decide))
              subst hx7
              have hx5 := hI.p5 (hd 5 (by decide))
              subst hx5
              rw [if_pos (by rfl)]
              go_simp
              exact hK.out _ _ ⟨_, _, _, _, _, _, _, _, _, _, _, _, _, _, _, _, rfl, hI.s8⟩
            · have hx8 := hI.p8 (hd 8 (by decide))
              subst hx8
              have hx5 := hI.p5 (hd 5 (by decide))
              subst hx5
              rw [if_pos (by rfl)]
              have hc := CRG.out _ hI.x.fp.bel
              go_simp
              exact hK.out _ _ ⟨_, _, _, _, _, _, _, _, _, _, _, _, _, _, _, _, rfl, hI.s9⟩
            · have hx5 := hI.p5 (hd 5 (by decide))
              subst hx5
              rw [if_pos (by rfl)]
              go_simp
              exact hK.out _ _ ⟨_, _, _, _, _, _, _, _, _, _, _, _, _, _, _, _, rfl, hI.s10⟩
            · have hx10 := hI.p10 (hd 10 (by decide))
              subst hx10
              have hx5 := hI.p5 (hd 5 (by decide))
              subst hx5
              rw [if_pos (by rfl)]
              have hc := hI.x.fp.img.cell 1 _ K1.out
              go_simp
              exact hK.out _ _ ⟨_, _, _, _, _, _, _, _, _, _, _, _, _, _, _, _, rfl, hI.s11⟩
            · have hx9 := hI.p9 (hd 9 (by decide))
              subst hx9
              have hx11 := hI.p11 (hd 11 (by decide))
              subst hx11
              have hx5 := hI.p5 (hd 5 (by decide))
              subst hx5
              rw [if_pos (by rfl)]
              go_simp
              refine (HAS.out _ hI.x.fp.bel).mono ?_
              rintro e W2 ⟨rfl, rfl⟩
              go_simp
              have hX := hI.x
              exact hK.out _ _ ⟨_, _, _, _, _, _, _, _, _, _, _, _, _, _, _, _, rfl, hI.s12 hX⟩
            · have hx12 := hI.p12 (hd 12 (by decide))
              subst hx12
              have hx5 := hI.p5 (hd 5 (by decide))
              subst hx5
              rw [if_pos (by rfl)]
              go_simp
              exact hK.out _ _ ⟨_, _, _, _, _, _, _, _, _, _, _, _, _, _, _, _, rfl, hI.s13⟩
            · have hx5 := hI.p5 (hd 5 (by decide))
              subst hx5
              have hx13 := hI.p13 (hd 13 (by decide))
              subst hx13
              rw [if_pos (by rfl)]
              go_simp
              exact hK.out _ _ ⟨_, _, _, _, _, _, _, _, _, _, _, _, _, _, _, _, rfl, hI.s14⟩
            · have hx14 := hI.p14 (hd 14 (by decide))
              subst hx14
              rw [if_pos (by rfl)]
              go_simp
              exact hK.out _ _ ⟨_, _, _, _, _, _, _, _, _, _, _, _, _, _, _, _, rfl, hI.s15⟩
          · refine FD8F.ends ?_; intro x56 x57 x58 x59 x60 x61 x62 x63 x64 x65 x66 x67 x68 x69 x70 x55 L W hall hI
            have hx0 := hI.p0 (hall 0 (by decide))
            subst hx0
            have hx1 := hI.p1 (hall 1 (by decide))
            subst hx1
            have hx2 := hI.p2 (hall 2 (by decide))
            subst hx2
            have hx3 := hI.p3 (hall 3 (by decide))
            subst hx3
            have hx4 := hI.p4 (hall 4 (by decide))
            subst hx4
            have hx5 := hI.p5 (hall 5 (by decide))
            subst hx5
            have hx6 := hI.p6 (hall 6 (by decide))
            subst hx6
            have hx7 := hI.p7 (hall 7 (by decide))
            subst hx7
            have hx8 := hI.p8 (hall 8 (by decide))
            subst hx8
            have hx9 := hI.p9 (hall 9 (by decide))
            subst hx9
            have hx10 := hI.p10 (hall 10 (by decide))
            subst hx10
            have hx11 := hI.p11 (hall 11 (by decide))
            subst hx11
            have hx12 := hI.p12 (hall 12 (by decide))
            subst hx12
            have hx13 := hI.p13 (hall 13 (by decide))
            subst hx13
            have hx14 := hI.p14 (hall 14 (by decide))
            subst hx14
            have hx15 := hI.p15 (hall 15 (by decide))
            subst hx15
            have hXe := hI.x
            clear hI hall
            try dsimp only
            have c5 : W.cell? ⟨Gf, 0, none⟩ = some (.int .i64 0) := hXe.row.cell 0 _ rfl
            have f5 : W.frozen? ⟨Gf, 0, none⟩ = false := hXe.row.frozen 0
            obtain ⟨w6, hw6⟩ : ∃ w6, w6 = W.setCell ⟨Gf, 0, none⟩ (.int .i64 13) := ⟨_, rfl⟩
            have HL : Hid (FR w G Gf IM ⟨13, false, sl, k, v⟩ w6) := by rw [hw6]; exact hXe.set 0 _ rfl
            clear hXe HR5
            have rr : Row w6 w.heap.size 89 (fdC fd0) := HL.out.fp.res
            have rf : Row w6 Gf 89 (fdC ⟨13, false, sl, k, v⟩) := HL.out.row
            have LF : Hid ((fdC ⟨13, false, sl, k, v⟩).length = 5) := rfl
            go_wp2_with (first
              | (rw [← hw6]; have hz := hw6; clear hz hw6)
              | (refine wpList_load_whole_g ?_ 89 (.tmp 7) rfl Gf 89 5 (fdC ⟨13, false, sl, k, v⟩) rf rfl _ LF.out Tryz.underlying89 rfl (by kernel_rfl) ?_; · rfl)
              | (refine wpList_store_Row rfl 89 (.tmp 4) (.tmp 72) rfl w.heap.size 89 0 (fdC fd0) (fdC ⟨13, false, sl, k, v⟩) rr (Nat.le_refl _) rfl rfl (by kernel_rfl) (fdC_one _) ?_; intro w9 hr9 hs9; have r9 := row_whole hr9 (Nat.le_refl _); have HB9 : Hid (Below w.heap.size w w9) := hs9.below HL.out.fp.bel (Nat.le_refl _); clear hr9 hs9))
            refine bodyPost_ret (results_Row Tryz.results71 _ w9 w.heap.size 89 _ _ rfl r9 Tryz.underlying89 rfl (by kernel_rfl)) rfl ?_
            exact ⟨by rw [HQ.out], HB9.out⟩
        | true =>
          rw [hq] at HAS
          have HQ0 : Hid (FF = ⟨0, decide (sgnE l k = 0 ∧ sgn l k (b.take (b.length - 32)) = t), sl, k, v⟩) := HFG.out.trans (if_neg (fun h => by rcases h with h | h; exact h2 h; rw [hq] at h; cases h))
          have HE0 : Hid (sgnE l k = 0 → sgnE l k = 0) := fun h => h
          have hse : sgnE l k = 0 := by
            unfold sgnE
            cases hf : fnd l k with
            | none => rw [hf] at hq; cases hq
            | some i => rfl
          rw [hse] at CHK HQ0
          clear HFG h2 hq HE HE0 hse
          generalize decide ((0 : Int) = 0 ∧ sgn l k (b.take (b.length - 32)) = t) = Sg at *
          go_wp2
          refine wp_region_inv (IFD8T w w G Gf IM ⟨0, false, sl, k, v⟩ mg k rg _ _ _ _ _ _ _ _ _ _ _ _ _ _ _ _ _ _ _ _ _ _ _ _ _ _ _ _ _ _ _ _ _ _ _ _ _ _ _ _ _ _ _ _ _ _ _ _ _ _ _ _ _ _ _ _ _) (by kernel_rfl) (by kernel_rfl) ⟨_, _, _, _, _, _, _, _, _, _, _, _, _, _, _, _, rfl, ⟨HR5.out.drew, fun k => (by cases k), fun k => (by cases k), fun k => (by cases k), fun k => (by cases k), fun k => (by cases k), fun k => (by cases k), fun k => (by cases k), fun k => (by cases k), fun k => (by cases k), fun k => (by cases k), fun k => (by cases k), fun k => (by cases k), fun k => (by cases k), fun k => (by cases k), fun k => (by cases k), fun k => (by cases k)⟩⟩ ?_ ?_
          · refine .cons ?_ (.cons ?_ (.cons ?_ (.cons ?_ (.cons ?_ (.cons ?_ (.cons ?_ (.cons ?_ (.cons ?_ (.cons ?_ (.cons ?_ (.cons ?_ (.cons ?_ (.cons ?_ (.cons ?_ (.cons ?_ .nil)))))))))))))))
            all_goals (refine FD8T.step ?_; intro x56 x57 x58 x59 x60 x61 x62 x63 x64 x65 x66 x67 x68 x69 x70 x55 L W hI hL hd K hK)
            · rw [if_pos (by rfl)]
              go_simp
              exact hK.out _ _ ⟨_, _, _, _, _, _, _, _, _, _, _, _, _, _, _, _, rfl, hI.s0⟩
            · rw [if_pos (by rfl)]
              go_simp
              exact hK.out _ _ ⟨_, _, _, _, _, _, _, _, _, _, _, _, _, _, _, _, rfl, hI.s1⟩
            · have hx1 := hI.p1 (hd 1 (by decide))
              subst hx1
              rw [if_pos (by rfl)]
              have hc := hI.x.fp.img.cell 1 _ K1.out
              go_simp
              exact hK.out _ _ ⟨_, _, _, _, _, _, _, _, _, _, _, _, _, _, _, _, rfl, hI.s2⟩
            · have hx0 := hI.p0 (hd 0 (by decide))
              subst hx0
              have hx2 := hI.p2 (hd 2 (by decide))
              subst hx2
              rw [if_pos (by rfl)]
              go_simp
              refine (HKY.out _ hI.x.fp.bel).mono ?_
              rintro e W2 ⟨rfl, hb3⟩
              go_simp
              have hX := hI.x.keep hb3
              exact hK.out _ _ ⟨_, _, _, _, _, _, _, _, _, _, _, _, _, _, _, _, rfl, hI.s3 hX⟩
            · have hx3 := hI.p3 (hd 3 (by decide))
              subst hx3
              rw [if_pos (by rfl)]
              go_simp
              exact hK.out _ _ ⟨_, _, _, _, _, _, _, _, _, _, _, _, _, _, _, _, rfl, hI.s4⟩
            · have hx4 := hI.p4 (hd 4 (by decide))
              subst hx4
              rw [if_pos (by rfl)]
              go_simp
              exact hK.out _ _ ⟨_, _, _, _, _, _, _, _, _, _, _, _, _, _, _, _, rfl, hI.s5⟩
            · have hx5 := hI.p5 (hd 5 (by decide))
              subst hx5
              rw [if_pos (by rfl)]
              go_simp
              exact hK.out _ _ ⟨_, _, _, _, _, _, _, _, _, _, _, _, _, _, _, _, rfl, hI.s6⟩
            · have hx6 := hI.p6 (hd 6 (by decide))
              subst hx6
              have hx5 := hI.p5 (hd 5 (by decide))
              subst hx5
              rw [if_pos (by rfl)]
              go_simp
              exact hK.out _ _ ⟨_, _, _, _, _, _, _, _, _, _, _, _, _, _, _, _, rfl, hI.s7⟩
            · have hx7 := hI.p7 (hd 7 (by decide))
              subst hx7
              have hx5 := hI.p5 (hd 5 (by decide))
              subst hx5
              rw [if_pos (by rfl)]
              go_simp
              exact hK.out _ _ ⟨_, _, _, _, _, _, _, _, _, _, _, _, _, _, _, _, rfl, hI.s8⟩
            · have hx8 := hI.p8 (hd 8 (by decide))
              subst hx8
              have hx5 := hI.p5 (hd 5 (by decide))
              subst hx5
              rw [if_pos (by rfl)]
              have hc := CRG.out _ hI.x.fp.bel
              go_simp
              exact hK.out _ _ ⟨_, _, _, _, _, _, _, _, _, _, _, _, _, _, _, _, rfl, hI.s9⟩
            · have hx5 := hI.p5 (hd 5 (by decide))
              subst hx5
              rw [if_pos (by rfl)]
              go_simp
              exact hK.out _ _ ⟨_, _, _, _, _, _, _, _, _, _, _, _, _, _, _, _, rfl, hI.s10⟩
            · have hx10 := hI.p10 (hd 10 (by decide))
              subst hx10
              have hx5 := hI.p5 (hd 5 (by decide))
              subst hx5
              rw [if_pos (by rfl)]
              have hc := hI.x.fp.img.cell 1 _ K1.out
              go_simp
              exact hK.out _ _ ⟨_, _, _, _, _, _, _, _, _, _, _, _, _, _, _, _, rfl, hI.s11⟩
            · have hx9 := hI.p9 (hd 9 (by decide))
              subst hx9
              have hx11 := hI.p11 (hd 11 (by decide))
              subst hx11
              have hx5 := hI.p5 (hd 5 (by decide))
              subst hx5
              rw [if_pos (by rfl)]
              go_simp
              refine (HAS.out _ hI.x.fp.bel).mono ?_
              rintro e W2 ⟨rfl, rfl⟩
              go_simp
              have hX := hI.x
              exact hK.out _ _ ⟨_, _, _, _, _, _, _, _, _, _, _, _, _, _, _, _, rfl, hI.s12 hX⟩
            · have hx12 := hI.p12 (hd 12 (by decide))
              subst hx12
              have hx5 := hI.p5 (hd 5 (by decide))
              subst hx5
              rw [if_pos (by rfl)]
              go_simp
              exact hK.out _ _ ⟨_, _, _, _, _, _, _, _, _, _, _, _, _, _, _, _, rfl, hI.s13⟩
            · have hx5 := hI.p5 (hd 5 (by decide))
              subst hx5
              have hx13 := hI.p13 (hd 13 (by decide))
              subst hx13
              rw [if_pos (by rfl)]
              go_simp
              exact hK.out _ _ ⟨_, _, _, _, _, _, _, _, _, _, _, _, _, _, _, _, rfl, hI.s14⟩
            · have hx14 := hI.p14 (hd 14 (by decide))
              subst hx14
              rw [if_pos (by rfl)]
              go_simp
              exact hK.out _ _ ⟨_, _, _, _, _, _, _, _, _, _, _, _, _, _, _, _, rfl, hI.s15⟩
          · refine FD8T.ends ?_; intro x56 x57 x58 x59 x60 x61 x62 x63 x64 x65 x66 x67 x68 x69 x70 x55 L W hall hI
            have hx0 := hI.p0 (hall 0 (by decide))
            subst hx0
            have hx1 := hI.p1 (hall 1 (by decide))
            subst hx1
            have hx2 := hI.p2 (hall 2 (by decide))
            subst hx2
            have hx3 := hI.p3 (hall 3 (by decide))
            subst hx3
            have hx4 := hI.p4 (hall 4 (by decide))
            subst hx4
            have hx5 := hI.p5 (hall 5 (by decide))
            subst hx5
            have hx6 := hI.p6 (hall 6 (by decide))
            subst hx6
            have hx7 := hI.p7 (hall 7 (by decide))
            subst hx7
            have hx8 := hI.p8 (hall 8 (by decide))
            subst hx8
            have hx9 := hI.p9 (hall 9 (by decide))
            subst hx9
            have hx10 := hI.p10 (hall 10 (by decide))
            subst hx10
            have hx11 := hI.p11 (hall 11 (by decide))
            subst hx11
            have hx12 := hI.p12 (hall 12 (by decide))
            subst hx12
            have hx13 := hI.p13 (hall 13 (by decide))
            subst hx13
            have hx14 := hI.p14 (hall 14 (by decide))
            subst hx14
            have hx15 := hI.p15 (hall 15 (by decide))
            subst hx15
            have hXe := hI.x
            clear hI hall
            try dsimp only
            have HR6 : Hid (FR w G Gf IM ⟨0, false, sl, k, v⟩ W) := hXe
            clear hXe HR5
            generalize b.take (b.length - 32) = BD at *
            generalize b.length = bn at *
            go_wp2
            refine wp_region_inv (IFD3 w w G Gf IM ⟨0, false, sl, k, v⟩ mg k rg bo bn bc BD (t.map B8) Sg _ _ _ _ _ _ _ _ _ _ _ _ _ _ _ _ _ _ _ _ _ _ _ _ _ _ _ _ _ _ _ _ _ _ _ _ _ _ _ _ _ _ _ _ _ _ _ _ _ _ _ _ _ _ _ _ _) (by kernel_rfl) (by kernel_rfl) ⟨_, _, _, _, _, _, _, _, _, _, _, _, _, _, _, _, rfl, ⟨HR6.out.drew, fun k => (by cases k), fun k => (by cases k), fun k => (by cases k), fun k => (by cases k), fun k => (by cases k), fun k => (by cases k), fun k => (by cases k), fun k => (by cases k), fun k => (by cases k), fun k => (by cases k), fun k => (by cases k), fun k => (by cases k), fun k => (by cases k), fun k => (by cases k), fun k => (by cases k), fun k => (by cases k)⟩⟩ ?_ ?_
            · refine .cons ?_ (.cons ?_ (.cons ?_ (.cons ?_ (.cons ?_ (.cons ?_ (.cons ?_ (.cons ?_ (.cons ?_ (.cons ?_ (.cons ?_ (.cons ?_ (.cons ?_ (.cons ?_ (.cons ?_ (.cons ?_ .nil)))))))))))))))
              all_goals (refine FD3.step ?_; intro x25 x26 x27 x28 x29 x30 x31 x32 x33 x34 x35 x24 x36 x37 x8 x9 L W hI hL hd K hK)
              · rw [if_pos (by rfl)]
                go_simp
                exact hK.out _ _ ⟨_, _, _, _, _, _, _, _, _, _, _, _, _, _, _, _, rfl, hI.s0⟩
              · have hx0 := hI.p0 (hd 0 (by decide))
                subst hx0
                rw [if_pos (by rfl)]
                go_simp
                exact hK.out _ _ ⟨_, _, _, _, _, _, _, _, _, _, _, _, _, _, _, _, rfl, hI.s1⟩
              · have hx1 := hI.p1 (hd 1 (by decide))
                subst hx1
                rw [if_pos (by rfl)]
                go_simp
                exact hK.out _ _ ⟨_, _, _, _, _, _, _, _, _, _, _, _, _, _, _, _, rfl, hI.s2⟩
              · have hx2 := hI.p2 (hd 2 (by decide))
                subst hx2
                rw [if_pos (by rfl)]
                have hc := CRG.out _ hI.x.fp.bel
                go_simp
                exact hK.out _ _ ⟨_, _, _, _, _, _, _, _, _, _, _, _, _, _, _, _, rfl, hI.s3⟩
              · rw [if_pos (by rfl)]
                go_simp
                exact hK.out _ _ ⟨_, _, _, _, _, _, _, _, _, _, _, _, _, _, _, _, rfl, hI.s4⟩
              · have hx4 := hI.p4 (hd 4 (by decide))
                subst hx4
                rw [if_pos (by rfl)]
                have hc := hI.x.fp.img.cell 1 _ K1.out
                go_simp
                exact hK.out _ _ ⟨_, _, _, _, _, _, _, _, _, _, _, _, _, _, _, _, rfl, hI.s5⟩
              · rw [if_pos (by rfl)]
                go_simp
                exact hK.out _ _ ⟨_, _, _, _, _, _, _, _, _, _, _, _, _, _, _, _, rfl, hI.s6⟩
              · have hx6 := hI.p6 (hd 6 (by decide))
                subst hx6
                rw [if_pos (by rfl)]
                go_simp
                refine (BOD.out _ hI.x.fp.bel).mono ?_
                rintro e W2 ⟨ao3, c3, rfl, ho, hb3⟩
                go_simp
                have hX := hI.x.keep hb3
                have ho3 : ∃ ao c, (Value.slice ao3 (bn - 32) c3) = .slice ao (bn - 32) c ∧ Own w.heap.size W2 (.slice ao (bn - 32) c) BD := ⟨_, _, rfl, own_low ho hI.x.fp.bel.size⟩
                exact hK.out _ _ ⟨_, _, _, _, _, _, _, _, _, _, _, _, _, _, _, _, rfl, hI.s7 hX hb3 ho3⟩
              · rw [if_pos (by rfl)]
                go_simp
                exact hK.out _ _ ⟨_, _, _, _, _, _, _, _, _, _, _, _, _, _, _, _, rfl, hI.s8⟩
              · have hx8 := hI.p8 (hd 8 (by decide))
                subst hx8
                refine step_load_part (by rfl) 37 _ rfl G 4 110 32 IM hI.x.fp.img rfl _ (t.map B8) KT.out LT.out Tryz.underlying37 rfl (by kernel_rfl) ?_
                exact hK.out _ _ ⟨_, _, _, _, _, _, _, _, _, _, _, _, _, _, _, _, rfl, hI.s9⟩
              · have hx3 := hI.p3 (hd 3 (by decide))
                subst hx3
                have hx5 := hI.p5 (hd 5 (by decide))
                subst hx5
                obtain ⟨ao7, c7, hx7, ho7⟩ := hI.p7 (hd 7 (by decide))
                subst hx7
                have hx9 := hI.p9 (hd 9 (by decide))
                subst hx9
                rw [if_pos (by rfl)]
                go_simp
                refine (CHK.out _ _ _ hI.x.fp.bel ho7).mono ?_
                rintro e W2 ⟨rfl, hb3⟩
                go_simp
                have hX := hI.x.keep hb3
                exact hK.out _ _ ⟨_, _, _, _, _, _, _, _, _, _, _, _, _, _, _, _, rfl, hI.s10 hX hb3⟩
              · have hx10 := hI.p10 (hd 10 (by decide))
                subst hx10
                rw [if_pos (by rfl)]
                go_simp
                exact hK.out _ _ ⟨_, _, _, _, _, _, _, _, _, _, _, _, _, _, _, _, rfl, hI.s11⟩
              · have hx11 := hI.p11 (hd 11 (by decide))
                subst hx11
                rw [if_pos (by rfl)]
                go_simp
                exact hK.out _ _ ⟨_, _, _, _, _, _, _, _, _, _, _, _, _, _, _, _, rfl, hI.s12⟩
              · have hx11 := hI.p11 (hd 11 (by decide))
                subst hx11
                rw [if_pos (by rfl)]
                go_simp
                exact hK.out _ _ ⟨_, _, _, _, _, _, _, _, _, _, _, _, _, _, _, _, rfl, hI.s13⟩
              · have hx12 := hI.p12 (hd 12 (by decide))
                subst hx12
                rw [if_pos (by rfl)]
                go_simp
                exact hK.out _ _ ⟨_, _, _, _, _, _, _, _, _, _, _, _, _, _, _, _, rfl, hI.s14⟩
              · have hx13 := hI.p13 (hd 13 (by decide))
                subst hx13
                rw [if_pos (by rfl)]
                go_simp
                exact hK.out _ _ ⟨_, _, _, _, _, _, _, _, _, _, _, _, _, _, _, _, rfl, hI.s15⟩
            · refine FD3.ends ?_; intro x25 x26 x27 x28 x29 x30 x31 x32 x33 x34 x35 x24 x36 x37 x8 x9 L W hall hI
              have hx0 := hI.p0 (hall 0 (by decide))
              subst hx0
              have hx1 := hI.p1 (hall 1 (by decide))
              subst hx1
              have hx2 := hI.p2 (hall 2 (by decide))
              subst hx2
              have hx3 := hI.p3 (hall 3 (by decide))
              subst hx3
              have hx4 := hI.p4 (hall 4 (by decide))
              subst hx4
              have hx5 := hI.p5 (hall 5 (by decide))
              subst hx5
              have hx6 := hI.p6 (hall 6 (by decide))
              subst hx6
              obtain ⟨ao7, c7, hx7, ho7⟩ := hI.p7 (hall 7 (by decide))
              subst hx7
              have hx8 := hI.p8 (hall 8 (by decide))
              subst hx8
              have hx9 := hI.p9 (hall 9 (by decide))
              subst hx9
              have hx10 := hI.p10 (hall 10 (by decide))
              subst hx10
              have hx11 := hI.p11 (hall 11 (by decide))
              subst hx11
              have hx12 := hI.p12 (hall 12 (by decide))
              subst hx12
              have hx13 := hI.p13 (hall 13 (by decide))
              subst hx13
              have hx14 := hI.p14 (hall 14 (by decide))
              subst hx14
              have hx15 := hI.p15 (hall 15 (by decide))
              subst hx15
              have hXe := hI.x
              clear hI hall
              try dsimp only
              have c5 : W.cell? ⟨Gf, 1, none⟩ = some (.bool false) := hXe.row.cell 1 _ rfl
              have f5 : W.frozen? ⟨Gf, 1, none⟩ = false := hXe.row.frozen 1
              obtain ⟨w6, hw6⟩ : ∃ w6, w6 = W.setCell ⟨Gf, 1, none⟩ (.bool Sg) := ⟨_, rfl⟩
              have HQ : Hid (FF = ⟨0, Sg, sl, k, v⟩) := HQ0.out
              have HL : Hid (FR w G Gf IM ⟨0, Sg, sl, k, v⟩ w6) := by rw [hw6]; exact hXe.set 1 _ rfl
              clear hXe HR6 HQ0
              cases Sg with
              | false =>
                have rr : Row w6 w.heap.size 89 (fdC fd0) := HL.out.fp.res
                have rf : Row w6 Gf 89 (fdC ⟨0, false, sl, k, v⟩) := HL.out.row
                have LF : Hid ((fdC ⟨0, false, sl, k, v⟩).length = 5) := rfl
                go_wp2_with (first
                  | (rw [← hw6]; have hz := hw6; clear hz hw6)
                  | (refine wpList_load_whole_g ?_ 89 (.tmp 7) rfl Gf 89 5 (fdC ⟨0, false, sl, k, v⟩) rf rfl _ LF.out Tryz.underlying89 rfl (by kernel_rfl) ?_; · rfl)
                  | (refine wpList_store_Row rfl 89 (.tmp 4) (.tmp 72) rfl w.heap.size 89 0 (fdC fd0) (fdC ⟨0, false, sl, k, v⟩) rr (Nat.le_refl _) rfl rfl (by kernel_rfl) (fdC_one _) ?_; intro w9 hr9 hs9; have r9 := row_whole hr9 (Nat.le_refl _); have HB9 : Hid (Below w.heap.size w w9) := hs9.below HL.out.fp.bel (Nat.le_refl _); clear hr9 hs9))
                refine bodyPost_ret (results_Row Tryz.results71 _ w9 w.heap.size 89 _ _ rfl r9 Tryz.underlying89 rfl (by kernel_rfl)) rfl ?_
                exact ⟨by rw [HQ.out], HB9.out⟩
              | true =>
                have rr : Row w6 w.heap.size 89 (fdC fd0) := HL.out.fp.res
                have rf : Row w6 Gf 89 (fdC ⟨0, true, sl, k, v⟩) := HL.out.row
                have LF : Hid ((fdC ⟨0, true, sl, k, v⟩).length = 5) := rfl
                go_wp2_with (first
                  | (rw [← hw6]; have hz := hw6; clear hz hw6)
                  | (refine wpList_load_whole_g ?_ 89 (.tmp 7) rfl Gf 89 5 (fdC ⟨0, true, sl, k, v⟩) rf rfl _ LF.out Tryz.underlying89 rfl (by kernel_rfl) ?_; · rfl)
                  | (refine wpList_store_Row rfl 89 (.tmp 4) (.tmp 72) rfl w.heap.size 89 0 (fdC fd0) (fdC ⟨0, true, sl, k, v⟩) rr (Nat.le_refl _) rfl rfl (by kernel_rfl) (fdC_one _) ?_; intro w9 hr9 hs9; have r9 := row_whole hr9 (Nat.le_refl _); have HB9 : Hid (Below w.heap.size w w9) := hs9.below HL.out.fp.bel (Nat.le_refl _); clear hr9 hs9))
                refine bodyPost_ret (results_Row Tryz.results71 _ w9 w.heap.size 89 _ _ rfl r9 Tryz.underlying89 rfl (by kernel_rfl)) rfl ?_
                exact ⟨by rw [HQ.out], HB9.out⟩
end Go.Proofs.YtpcgkjngpdplmaaGreatDoor
