
import Derived.Test.YtpcgkjngpdplmaaGreatDoorI11Code
import Derived.Test.YtpcgkjngpdplmaaGreatDoorI11CPo
import Derived.Test.YtpcgkjngpdplmaaGreatDoorI11CM
import Derived.Test.YtpcgkjngpdplmaaGreatDoorK12Code
/-! The code's model: find. (Printed by tools/genn19.py.) -/
namespace Go.Proofs.YtpcgkjngpdplmaaGreatDoor
open Go.RowKit Go.Maps
set_option linter.unusedVariables false
set_option linter.unusedSimpArgs false

abbrev zIm : List Value := imgC 0 0 0 (.slice none 0 0) (List.replicate 32 0)
/-- What find goes by: the result's cell, the image, an error. -/
structure FP (w : World) (G : Nat) (IM : List Value) (ev : Value) (E : Int) (W : World) : Prop where
  bel : Below w.heap.size w W
  res : Row W w.heap.size 89 (fdC fd0)
  img : Row W G 110 IM
  err : ev = .nilIface ∧ E = 0 ∨ ∃ ge At, ev = .iface 155 (.pointer (some ⟨ge, 0, none⟩)) ∧ ge < G ∧ Row W ge 167 [.int .i64 E, .int .i64 At]
  lo : w.heap.size + 1 ≤ G
section
variable {w W W2 : World} {G : Nat} {IM : List Value} {ev : Value} {E : Int}
theorem FP.keep (h : FP w G IM ev E W) (hb : Below W.heap.size W W2) : FP w G IM ev E W2 :=
  ⟨h.bel.trans (hb.mono h.bel.size), h.res.below hb h.res.lt, h.img.below hb h.img.lt, h.err.imp_right (fun ⟨ge, At, a, b, d⟩ => ⟨ge, At, a, b, d.below hb d.lt⟩), h.lo⟩
theorem FP.drew (h : FP w G IM ev E W) : FP w G IM ev E W.drew := h.keep ⟨rfl, rfl, rfl, Nat.le_refl _, fun _ _ => rfl⟩
theorem FP.but (h : FP w G IM ev E W) {K : Nat} (hs : SameBut K W W2) (hK : G + 1 ≤ K) : FP w G IM ev E W2 :=
  have hl := h.lo
  ⟨hs.below h.bel (by omega), h.res.but hs (by omega), h.img.but hs (by omega), h.err.imp_right (fun ⟨ge, At, a, b, d⟩ => ⟨ge, At, a, b, d.but hs (by omega)⟩), h.lo⟩
theorem FP.set (h : FP w G IM ev E W) {K : Nat} (hK : G + 1 ≤ K) (i : Nat) (v : Value) : FP w G IM ev E (W.setCell ⟨K, i, none⟩ v) := h.but (SameBut.setCell K i v W) hK
theorem FP.number (h : FP w G IM ev E W) (hg : HG w) (h0 : 0 < w.heap.size) : Calls Tryz.prog 87 #[ev] W fun e w' => e = .returned (.int .i64 E) ∧ Below W.heap.size W w' := by
  rcases h.err with ⟨rfl, rfl⟩ | ⟨ge, At, rfl, _, hr⟩
  · exact number_nil W
  · exact number_wrong ge E At W (hg.below h.bel h0) hr
end
structure FD2W (W1 : World) (w : World) (G : Nat) (IM : List Value) (ev : Value) (E : Int) (sl ky vr : Nat) (L : Nat → Bool) (x15 x16 x17 x18 x19 x20 x21 x22 x23 x7 : Value) (W : World) : Prop where
  x : AS (FP w G IM ev E) 89 (G + 1) (fdC fd0) (fdC ⟨E, false, sl, ky, vr⟩) (L 9) (L 10) x7 W
  p0 : L 0 = true → x15 = ev
  p1 : L 1 = true → x16 = .int .i64 E
  p2 : L 2 = true → x17 = .pointer (some ⟨G, 0, none⟩)
  p3 : L 3 = true → x18 = .int .i64 (sl : Int)
  p4 : L 4 = true → x19 = .pointer (some ⟨G, 1, none⟩)
  p5 : L 5 = true → x20 = .int .i64 (ky : Int)
  p6 : L 6 = true → x21 = .pointer (some ⟨G, 2, none⟩)
  p7 : L 7 = true → x22 = .int .i64 (vr : Int)
  p8 : L 8 = true → x23 = .agg (fdC ⟨E, false, sl, ky, vr⟩).toArray
  c10_9 : L 10 = true → L 9 = true
section
variable {W1 : World} {w : World} {G : Nat} {IM : List Value} {ev : Value} {E : Int} {sl ky vr : Nat} {L : Nat → Bool} {x15 x16 x17 x18 x19 x20 x21 x22 x23 x7 : Value} {W W2 : World}
theorem FD2W.s0 (h : FD2W W1 w G IM ev E sl ky vr L x15 x16 x17 x18 x19 x20 x21 x22 x23 x7 W) : FD2W W1 w G IM ev E sl ky vr (upd L 0) (ev) x16 x17 x18 x19 x20 x21 x22 x23 x7 W :=
  ⟨h.x, fun _ => rfl, h.p1, h.p2, h.p3, h.p4, h.p5, h.p6, h.p7, h.p8, h.c10_9⟩
theorem FD2W.s1 (h : FD2W W1 w G IM ev E sl ky vr L x15 x16 x17 x18 x19 x20 x21 x22 x23 x7 W) (hX : AS (FP w G IM ev E) 89 (G + 1) (fdC fd0) (fdC ⟨E, false, sl, ky, vr⟩) ((upd L 1) 9) ((upd L 1) 10) x7 W2) : FD2W W1 w G IM ev E sl ky vr (upd L 1) x15 (.int .i64 E) x17 x18 x19 x20 x21 x22 x23 x7 W2 :=
  ⟨hX, h.p0, fun _ => rfl, h.p2, h.p3, h.p4, h.p5, h.p6, h.p7, h.p8, h.c10_9⟩
theorem FD2W.s2 (h : FD2W W1 w G IM ev E sl ky vr L x15 x16 x17 x18 x19 x20 x21 x22 x23 x7 W) : FD2W W1 w G IM ev E sl ky vr (upd L 2) x15 x16 (.pointer (some ⟨G, 0, none⟩)) x18 x19 x20 x21 x22 x23 x7 W :=
  ⟨h.x, h.p0, h.p1, fun _ => rfl, h.p3, h.p4, h.p5, h.p6, h.p7, h.p8, h.c10_9⟩
theorem FD2W.s3 (h : FD2W W1 w G IM ev E sl ky vr L x15 x16 x17 x18 x19 x20 x21 x22 x23 x7 W) : FD2W W1 w G IM ev E sl ky vr (upd L 3) x15 x16 x17 (.int .i64 (sl : Int)) x19 x20 x21 x22 x23 x7 W :=
  ⟨h.x, h.p0, h.p1, h.p2, fun _ => rfl, h.p4, h.p5, h.p6, h.p7, h.p8, h.c10_9⟩
theorem FD2W.s4 (h : FD2W W1 w G IM ev E sl ky vr L x15 x16 x17 x18 x19 x20 x21 x22 x23 x7 W) : FD2W W1 w G IM ev E sl ky vr (upd L 4) x15 x16 x17 x18 (.pointer (some ⟨G, 1, none⟩)) x20 x21 x22 x23 x7 W :=
  ⟨h.x, h.p0, h.p1, h.p2, h.p3, fun _ => rfl, h.p5, h.p6, h.p7, h.p8, h.c10_9⟩
theorem FD2W.s5 (h : FD2W W1 w G IM ev E sl ky vr L x15 x16 x17 x18 x19 x20 x21 x22 x23 x7 W) : FD2W W1 w G IM ev E sl ky vr (upd L 5) x15 x16 x17 x18 x19 (.int .i64 (ky : Int)) x21 x22 x23 x7 W :=
  ⟨h.x, h.p0, h.p1, h.p2, h.p3, h.p4, fun _ => rfl, h.p6, h.p7, h.p8, h.c10_9⟩
theorem FD2W.s6 (h : FD2W W1 w G IM ev E sl ky vr L x15 x16 x17 x18 x19 x20 x21 x22 x23 x7 W) : FD2W W1 w G IM ev E sl ky vr (upd L 6) x15 x16 x17 x18 x19 x20 (.pointer (some ⟨G, 2, none⟩)) x22 x23 x7 W :=
  ⟨h.x, h.p0, h.p1, h.p2, h.p3, h.p4, h.p5, fun _ => rfl, h.p7, h.p8, h.c10_9⟩
theorem FD2W.s7 (h : FD2W W1 w G IM ev E sl ky vr L x15 x16 x17 x18 x19 x20 x21 x22 x23 x7 W) : FD2W W1 w G IM ev E sl ky vr (upd L 7) x15 x16 x17 x18 x19 x20 x21 (.int .i64 (vr : Int)) x23 x7 W :=
  ⟨h.x, h.p0, h.p1, h.p2, h.p3, h.p4, h.p5, h.p6, fun _ => rfl, h.p8, h.c10_9⟩
theorem FD2W.s8 (h : FD2W W1 w G IM ev E sl ky vr L x15 x16 x17 x18 x19 x20 x21 x22 x23 x7 W) : FD2W W1 w G IM ev E sl ky vr (upd L 8) x15 x16 x17 x18 x19 x20 x21 x22 (.agg (fdC ⟨E, false, sl, ky, vr⟩).toArray) x7 W :=
  ⟨h.x, h.p0, h.p1, h.p2, h.p3, h.p4, h.p5, h.p6, h.p7, fun _ => rfl, h.c10_9⟩
theorem FD2W.s9 (h : FD2W W1 w G IM ev E sl ky vr L x15 x16 x17 x18 x19 x20 x21 x22 x23 x7 W) {v : Value} (hX : AS (FP w G IM ev E) 89 (G + 1) (fdC fd0) (fdC ⟨E, false, sl, ky, vr⟩) ((upd L 9) 9) ((upd L 9) 10) v W2) : FD2W W1 w G IM ev E sl ky vr (upd L 9) x15 x16 x17 x18 x19 x20 x21 x22 x23 v W2 :=
  ⟨hX, h.p0, h.p1, h.p2, h.p3, h.p4, h.p5, h.p6, h.p7, h.p8, fun _ => rfl⟩
theorem FD2W.s10 (h : FD2W W1 w G IM ev E sl ky vr L x15 x16 x17 x18 x19 x20 x21 x22 x23 x7 W) (hX : AS (FP w G IM ev E) 89 (G + 1) (fdC fd0) (fdC ⟨E, false, sl, ky, vr⟩) ((upd L 10) 9) ((upd L 10) 10) x7 W2) (hc9 : L 9 = true) : FD2W W1 w G IM ev E sl ky vr (upd L 10) x15 x16 x17 x18 x19 x20 x21 x22 x23 x7 W2 :=
  ⟨hX, h.p0, h.p1, h.p2, h.p3, h.p4, h.p5, h.p6, h.p7, h.p8, fun _ => hc9⟩
end
@[reducible] def IFD2W (W1 : World) (w : World) (G : Nat) (IM : List Value) (ev : Value) (E : Int) (sl ky vr : Nat) (y0 y1 y2 y3 y4 y5 y6 y8 y9 y10 y11 y12 y13 y14 y24 y25 y26 y27 y28 y29 y30 y31 y32 y33 y34 y35 y36 y37 y38 y39 y40 y41 y42 y43 y44 y45 y46 y47 y48 y49 y50 y51 y52 y53 y54 y55 y56 y57 y58 y59 y60 y61 y62 y63 y64 y65 y66 y67 y68 y69 y70 y71 y72 : Value) : (Nat → Bool) → Act → World → Prop := fun L a W => ∃ x15 x16 x17 x18 x19 x20 x21 x22 x23 x7, a = ⟨#[y0, y1, y2, y3, y4, y5, y6, x7, y8, y9, y10, y11, y12, y13, y14, x15, x16, x17, x18, x19, x20, x21, x22, x23, y24, y25, y26, y27, y28, y29, y30, y31, y32, y33, y34, y35, y36, y37, y38, y39, y40, y41, y42, y43, y44, y45, y46, y47, y48, y49, y50, y51, y52, y53, y54, y55, y56, y57, y58, y59, y60, y61, y62, y63, y64, y65, y66, y67, y68, y69, y70, y71, y72], []⟩ ∧ FD2W W1 w G IM ev E sl ky vr L x15 x16 x17 x18 x19 x20 x21 x22 x23 x7 W
theorem FD2W.step {W1 : World} {w : World} {G : Nat} {IM : List Value} {ev : Value} {E : Int} {sl ky vr : Nat} {y0 y1 y2 y3 y4 y5 y6 y8 y9 y10 y11 y12 y13 y14 y24 y25 y26 y27 y28 y29 y30 y31 y32 y33 y34 y35 y36 y37 y38 y39 y40 y41 y42 y43 y44 y45 y46 y47 y48 y49 y50 y51 y52 y53 y54 y55 y56 y57 y58 y59 y60 y61 y62 y63 y64 y65 y66 y67 y68 y69 y70 y71 y72 : Value} {P : Program} {ops : Array Oper} {Q : Exit → Act → World → Prop} {i : Nat} {o : Oper} (hq : ∀ x15 x16 x17 x18 x19 x20 x21 x22 x23 x7 (L : Nat → Bool) (W : World), FD2W W1 w G IM ev E sl ky vr L x15 x16 x17 x18 x19 x20 x21 x22 x23 x7 W → L i = false → (∀ j ∈ onesOf o, L j = true) → ∀ K : Act → World → Prop, Shut (∀ a' w', IFD2W W1 w G IM ev E sl ky vr y0 y1 y2 y3 y4 y5 y6 y8 y9 y10 y11 y12 y13 y14 y24 y25 y26 y27 y28 y29 y30 y31 y32 y33 y34 y35 y36 y37 y38 y39 y40 y41 y42 y43 y44 y45 y46 y47 y48 y49 y50 y51 y52 y53 y54 y55 y56 y57 y58 y59 y60 y61 y62 y63 y64 y65 y66 y67 y68 y69 y70 y71 y72 (upd L i) a' w' → K a' w') → if Region.wanted o (yielded ops (⟨#[y0, y1, y2, y3, y4, y5, y6, x7, y8, y9, y10, y11, y12, y13, y14, x15, x16, x17, x18, x19, x20, x21, x22, x23, y24, y25, y26, y27, y28, y29, y30, y31, y32, y33, y34, y35, y36, y37, y38, y39, y40, y41, y42, y43, y44, y45, y46, y47, y48, y49, y50, y51, y52, y53, y54, y55, y56, y57, y58, y59, y60, y61, y62, y63, y64, y65, y66, y67, y68, y69, y70, y71, y72], []⟩ : Act).tmps) = true then Oper.wp P o ⟨#[y0, y1, y2, y3, y4, y5, y6, x7, y8, y9, y10, y11, y12, y13, y14, x15, x16, x17, x18, x19, x20, x21, x22, x23, y24, y25, y26, y27, y28, y29, y30, y31, y32, y33, y34, y35, y36, y37, y38, y39, y40, y41, y42, y43, y44, y45, y46, y47, y48, y49, y50, y51, y52, y53, y54, y55, y56, y57, y58, y59, y60, y61, y62, y63, y64, y65, y66, y67, y68, y69, y70, y71, y72], []⟩ W K Q else K ((⟨#[y0, y1, y2, y3, y4, y5, y6, x7, y8, y9, y10, y11, y12, y13, y14, x15, x16, x17, x18, x19, x20, x21, x22, x23, y24, y25, y26, y27, y28, y29, y30, y31, y32, y33, y34, y35, y36, y37, y38, y39, y40, y41, y42, y43, y44, y45, y46, y47, y48, y49, y50, y51, y52, y53, y54, y55, y56, y57, y58, y59, y60, y61, y62, y63, y64, y65, y66, y67, y68, y69, y70, y71, y72], []⟩ : Act).put o.dst undef) W) : StepI P ops (IFD2W W1 w G IM ev E sl ky vr y0 y1 y2 y3 y4 y5 y6 y8 y9 y10 y11 y12 y13 y14 y24 y25 y26 y27 y28 y29 y30 y31 y32 y33 y34 y35 y36 y37 y38 y39 y40 y41 y42 y43 y44 y45 y46 y47 y48 y49 y50 y51 y52 y53 y54 y55 y56 y57 y58 y59 y60 y61 y62 y63 y64 y65 y66 y67 y68 y69 y70 y71 y72) Q i o := by
  rintro L a W ⟨x15, x16, x17, x18, x19, x20, x21, x22, x23, x7, rfl, h⟩
  exact hq _ _ _ _ _ _ _ _ _ _ _ _ h
theorem FD2W.ends {W1 : World} {w : World} {G : Nat} {IM : List Value} {ev : Value} {E : Int} {sl ky vr : Nat} {y0 y1 y2 y3 y4 y5 y6 y8 y9 y10 y11 y12 y13 y14 y24 y25 y26 y27 y28 y29 y30 y31 y32 y33 y34 y35 y36 y37 y38 y39 y40 y41 y42 y43 y44 y45 y46 y47 y48 y49 y50 y51 y52 y53 y54 y55 y56 y57 y58 y59 y60 y61 y62 y63 y64 y65 y66 y67 y68 y69 y70 y71 y72 : Value} {mm_ : Nat} {Q : Exit → Act → World → Prop} (hq : ∀ x15 x16 x17 x18 x19 x20 x21 x22 x23 x7 (L : Nat → Bool) (W : World), (∀ j, j < mm_ → L j = true) → FD2W W1 w G IM ev E sl ky vr L x15 x16 x17 x18 x19 x20 x21 x22 x23 x7 W → Q .normal ⟨#[y0, y1, y2, y3, y4, y5, y6, x7, y8, y9, y10, y11, y12, y13, y14, x15, x16, x17, x18, x19, x20, x21, x22, x23, y24, y25, y26, y27, y28, y29, y30, y31, y32, y33, y34, y35, y36, y37, y38, y39, y40, y41, y42, y43, y44, y45, y46, y47, y48, y49, y50, y51, y52, y53, y54, y55, y56, y57, y58, y59, y60, y61, y62, y63, y64, y65, y66, y67, y68, y69, y70, y71, y72], []⟩ W) : ∀ L a' w', (∀ j, j < mm_ → L j = true) → IFD2W W1 w G IM ev E sl ky vr y0 y1 y2 y3 y4 y5 y6 y8 y9 y10 y11 y12 y13 y14 y24 y25 y26 y27 y28 y29 y30 y31 y32 y33 y34 y35 y36 y37 y38 y39 y40 y41 y42 y43 y44 y45 y46 y47 y48 y49 y50 y51 y52 y53 y54 y55 y56 y57 y58 y59 y60 y61 y62 y63 y64 y65 y66 y67 y68 y69 y70 y71 y72 L a' w' → Q .normal a' w' := by
  rintro L a W hall ⟨x15, x16, x17, x18, x19, x20, x21, x22, x23, x7, rfl, h⟩
  exact hq _ _ _ _ _ _ _ _ _ _ _ _ hall h

set_option maxHeartbeats 4000000 in
set_option maxRecDepth 100000 in
theorem find_wrong (c : Cfg) (l : Secs) (mg : Nat) (bo : Option Addr) (bc : Nat) (b : List By) (w : World) (hg : HG w) (hb : IsB w bo b) (hnil : bo = none → bc = 0) (hcap : b.length ≤ bc) (hl : b.length ≤ 140737488351232) (e0 a0 : Nat) (hp : parse b = .wrong e0 a0) :
    Calls Tryz.prog 71 #[.pointer (some ⟨mg, 0, none⟩), .slice bo b.length bc] w fun e w' => e = .returned (.agg (fdC (findC c l b)).toArray) ∧ Below w.heap.size w w' := by
  have h4 := parse_wrong hp
  have hF : findC c l b = ⟨e0, false, 0, 0, 0⟩ := by unfold findC; rw [hp]
  rw [hF]
  obtain ⟨w1, hw1⟩ : ∃ w1, w1 = w.alloc (.cells #[.int .i64 0, .bool false, .int .i64 0, .int .i64 0, .int .i64 0] 89) := ⟨_, rfl⟩
  have hb1 : Below w.heap.size w w1 := by rw [hw1]; exact (Below.refl _ _).alloc (Nat.le_refl _) _
  have r1 : Row w1 w.heap.size 89 (fdC fd0) := by rw [hw1]; exact Row.at w 89 (fdC fd0) _ _ rfl rfl
  have hz1 : w1.heap.size = w.heap.size + 1 := by rw [hw1]; simp
  have PA := cparse_wrong bo b.length bc b rfl w1 (hb.below hb1 (Nat.le_refl _)) hnil hcap hl e0 a0 hp
  have HG0 : Hid (HG w) := hg
  have H0 : Hid (0 < w.heap.size) := hg.lt
  have HB1 : Hid (Below w.heap.size w w1 ∧ Row w1 w.heap.size 89 (fdC fd0) ∧ w1.heap.size = w.heap.size + 1) := ⟨hb1, r1, hz1⟩
  clear hb1 r1 hz1 hg hb hnil hcap hl hp hF
  go_enter Tryz.func71, Tryz.ntmps71
  go_wp2_with (rw [← hw1]; have hz := hw1; clear hz hw1)
  refine PA.mono ?_
  rintro e w2 ⟨ao', c', ge, rfl, hown, hge, hrw, hb2⟩
  dsimp only
  obtain ⟨w3, hw3⟩ : ∃ w3, w3 = w2.alloc (.cells #[.int .i64 0, .int .i64 0, .int .i64 0, .slice none 0 0, .int .u8 0, .int .u8 0, .int .u8 0, .int .u8 0, .int .u8 0, .int .u8 0, .int .u8 0, .int .u8 0, .int .u8 0, .int .u8 0, .int .u8 0, .int .u8 0, .int .u8 0, .int .u8 0, .int .u8 0, .int .u8 0, .int .u8 0, .int .u8 0, .int .u8 0, .int .u8 0, .int .u8 0, .int .u8 0, .int .u8 0, .int .u8 0, .int .u8 0, .int .u8 0, .int .u8 0, .int .u8 0, .int .u8 0, .int .u8 0, .int .u8 0, .int .u8 0] 110) := ⟨_, rfl⟩
  have r3 : Row w3 w2.heap.size 110 zIm := by rw [hw3]; exact Row.at w2 110 zIm _ _ rfl rfl
  have LI : Hid ((imgC 0 0 0 (.slice ao' 0 c') (List.replicate 32 0)).length = 36) := rfl
  have K0 : Hid ((imgC 0 0 0 (.slice ao' 0 c') (List.replicate 32 0))[0]? = some (.int .i64 ((0 : Nat) : Int))) := rfl
  have K1 : Hid ((imgC 0 0 0 (.slice ao' 0 c') (List.replicate 32 0))[1]? = some (.int .i64 ((0 : Nat) : Int))) := rfl
  have K2 : Hid ((imgC 0 0 0 (.slice ao' 0 c') (List.replicate 32 0))[2]? = some (.int .i64 ((0 : Nat) : Int))) := rfl
  have IOC : Hid (∀ x ∈ imgC 0 0 0 (.slice ao' 0 c') (List.replicate 32 0), x.oneCell' = true) := imgC_one 0 0 0 ao' 0 c' _
  have hge2 := hrw.lt
  have P2 : Hid (∀ w4, Row w4 w2.heap.size 110 (imgC 0 0 0 (.slice ao' 0 c') (List.replicate 32 0)) → SameBut w2.heap.size w3 w4 → FP w w2.heap.size (imgC 0 0 0 (.slice ao' 0 c') (List.replicate 32 0)) (.iface 155 (.pointer (some ⟨ge, 0, none⟩))) (e0 : Int) w4) := fun w4 hr4 hs4 => by
    obtain ⟨x1, x2, x3⟩ := HB1.out
    have y1 : Below w.heap.size w w2 := x1.trans (hb2.mono x1.size)
    have y2 := hb2.size
    have y3 : Below w.heap.size w w3 := by rw [hw3]; exact y1.alloc y1.size _
    refine ⟨hs4.below y3 (by omega), ?_, hr4, .inr ⟨ge, a0, rfl, hge2, ?_⟩, by omega⟩
    · have : Row w3 w.heap.size 89 (fdC fd0) := by rw [hw3]; exact (x2.below hb2 x2.lt).alloc _
      exact this.but hs4 (by omega)
    · have : Row w3 ge 167 [.int .i64 (e0 : Int), .int .i64 (a0 : Int)] := by rw [hw3]; exact hrw.alloc _
      exact this.but hs4 (by omega)
  clear PA hown hge hge2 hrw hb2 HB1
  generalize imgC 0 0 0 (.slice ao' 0 c') (List.replicate 32 0) = IM at *
  go_wp2_with (first
    | (refine wpList_store_Row rfl 110 (.tmp 5) (.tmp 13) rfl w2.heap.size 110 0 zIm IM r3 (Nat.le_of_eq (by rw [LI.out]; rfl)) rfl rfl (by rw [LI.out]; kernel_rfl) IOC.out ?_; intro w4 hr4 hs4; have HS : Hid (FP w w2.heap.size IM (.iface 155 (.pointer (some ⟨ge, 0, none⟩))) (e0 : Int) w4) := P2.out w4 (row_whole hr4 (Nat.le_of_eq (by rw [LI.out]; rfl))) hs4; clear hr4 hs4 r3)
    | (rw [← hw3]; have hz := hw3; clear hz hw3))
  have SZ : Hid (w2.heap.size + 1 ≤ w4.drew.heap.size) := HS.out.img.lt
  clear P2 IOC LI
  generalize w2.heap.size = G at *
  have NU : Hid (∀ W, FP w G IM (.iface 155 (.pointer (some ⟨ge, 0, none⟩))) (e0 : Int) W → _) := fun W h => h.number HG0.out H0.out
  refine wp_region_inv (IFD2W w w G IM (.iface 155 (.pointer (some ⟨ge, 0, none⟩))) (e0 : Int) 0 0 0 _ _ _ _ _ _ _ _ _ _ _ _ _ _ _ _ _ _ _ _ _ _ _ _ _ _ _ _ _ _ _ _ _ _ _ _ _ _ _ _ _ _ _ _ _ _ _ _ _ _ _ _ _ _ _ _ _ _ _ _ _ _ _) (by kernel_rfl) (by kernel_rfl) ⟨_, _, _, _, _, _, _, _, _, _, rfl, ⟨(AS.start HS.out.drew SZ.out), fun k => (by cases k), fun k => (by cases k), fun k => (by cases k), fun k => (by cases k), fun k => (by cases k), fun k => (by cases k), fun k => (by cases k), fun k => (by cases k), fun k => (by cases k), fun k => (by cases k)⟩⟩ ?_ ?_
  · refine .cons ?_ (.cons ?_ (.cons ?_ (.cons ?_ (.cons ?_ (.cons ?_ (.cons ?_ (.cons ?_ (.cons ?_ (.cons ?_ (.cons ?_ .nil))))))))))
    all_goals (refine FD2W.step ?_; intro x15 x16 x17 x18 x19 x20 x21 x22 x23 x7 L W hI hL hd K hK)
    · rw [if_pos (by rfl)]
      go_simp
      exact hK.out _ _ ⟨_, _, _, _, _, _, _, _, _, _, rfl, hI.s0⟩
    · have hx0 := hI.p0 (hd 0 (by decide))
      subst hx0
      rw [if_pos (by rfl)]
      go_simp
      refine (NU.out _ hI.x.pw).mono ?_
      rintro e W2 ⟨rfl, hb3⟩
      go_simp
      have hX := hI.x.keep (hI.x.pw.keep hb3) hb3
      exact hK.out _ _ ⟨_, _, _, _, _, _, _, _, _, _, rfl, hI.s1 hX⟩
    · rw [if_pos (by rfl)]
      go_simp
      exact hK.out _ _ ⟨_, _, _, _, _, _, _, _, _, _, rfl, hI.s2⟩
    · have hx2 := hI.p2 (hd 2 (by decide))
      subst hx2
      rw [if_pos (by rfl)]
      have hc := hI.x.pw.img.cell 0 _ K0.out
      go_simp
      exact hK.out _ _ ⟨_, _, _, _, _, _, _, _, _, _, rfl, hI.s3⟩
    · rw [if_pos (by rfl)]
      go_simp
      exact hK.out _ _ ⟨_, _, _, _, _, _, _, _, _, _, rfl, hI.s4⟩
    · have hx4 := hI.p4 (hd 4 (by decide))
      subst hx4
      rw [if_pos (by rfl)]
      have hc := hI.x.pw.img.cell 1 _ K1.out
      go_simp
      exact hK.out _ _ ⟨_, _, _, _, _, _, _, _, _, _, rfl, hI.s5⟩
    · rw [if_pos (by rfl)]
      go_simp
      exact hK.out _ _ ⟨_, _, _, _, _, _, _, _, _, _, rfl, hI.s6⟩
    · have hx6 := hI.p6 (hd 6 (by decide))
      subst hx6
      rw [if_pos (by rfl)]
      have hc := hI.x.pw.img.cell 2 _ K2.out
      go_simp
      exact hK.out _ _ ⟨_, _, _, _, _, _, _, _, _, _, rfl, hI.s7⟩
    · have hx1 := hI.p1 (hd 1 (by decide))
      subst hx1
      have hx3 := hI.p3 (hd 3 (by decide))
      subst hx3
      have hx5 := hI.p5 (hd 5 (by decide))
      subst hx5
      have hx7 := hI.p7 (hd 7 (by decide))
      subst hx7
      rw [if_pos (by rfl)]
      go_simp
      exact hK.out _ _ ⟨_, _, _, _, _, _, _, _, _, _, rfl, hI.s8⟩
    · have h11 : L 10 = false := Bool.eq_false_iff.2 (fun e => (by have h7 := hI.c10_9 e; rw [hL] at h7; exact Bool.noConfusion h7))
      have hx0 := hI.x
      rw [hL, h11] at hx0
      rw [if_pos (by rfl)]
      go_simp
      have hX := (hx0.alloc #[.int .i64 0, .bool false, .int .i64 0, .int .i64 0, .int .i64 0] rfl (hx0.pw.keep ((Below.refl _ _).alloc (Nat.le_refl _) _))).as2 h11
      exact hK.out _ _ ⟨_, _, _, _, _, _, _, _, _, _, rfl, hI.s9 hX⟩
    · have hx8 := hI.p8 (hd 8 (by decide))
      subst hx8
      have hx0 := hI.x
      have h10 := hd 9 (by decide)
      rw [h10, hL] at hx0
      obtain ⟨K_, hx, hlo, hrow⟩ := hx0.nw rfl
      subst hx
      refine step_store_Row rfl 89 _ _ rfl K_ 89 (fdC fd0) (fdC ⟨(e0 : Int), false, 0, 0, 0⟩) hrow rfl rfl rfl (by kernel_rfl) (fdC_one _) ?_
      intro W2 hr2 hs2
      have hX := (hx0.store (hx0.pw.but hs2 hlo) hr2 hs2).as1 h10
      exact hK.out _ _ ⟨_, _, _, _, _, _, _, _, _, _, rfl, hI.s10 hX (hd 9 (by decide))⟩
  · refine FD2W.ends ?_; intro x15 x16 x17 x18 x19 x20 x21 x22 x23 x7 L W hall hI
    have hx0 := hI.p0 (hall 0 (by decide))
    subst hx0
    have hx1 := hI.p1 (hall 1 (by decide))
    subst hx1
    have hx2 := hI.p2 (hall 2 (by decide))
    subst hx2
    have hx3 := hI.p3 (hall 3 (by decide))
    subst hx3
    have hx4 := hI.p4 (hall 4 (by decide))
    subst hx4
    have hx5 := hI.p5 (hall 5 (by decide))
    subst hx5
    have hx6 := hI.p6 (hall 6 (by decide))
    subst hx6
    have hx7 := hI.p7 (hall 7 (by decide))
    subst hx7
    have hx8 := hI.p8 (hall 8 (by decide))
    subst hx8
    have hXe := hI.x
    rw [hall 9 (by decide)] at hXe
    rw [hall 10 (by decide)] at hXe
    clear hI hall
    try dsimp only
    obtain ⟨Gf, hx, hlo, hrow⟩ := hXe.nw rfl
    subst hx
    change Row W Gf 89 (fdC ⟨(e0 : Int), false, 0, 0, 0⟩) at hrow
    have c0 : W.cell? ⟨Gf, 0, none⟩ = some (.int .i64 (e0 : Int)) := hrow.cell 0 _ rfl
    have ne : ¬ (e0 : Int) = 0 := by omega
    have rr : Row W w.heap.size 89 (fdC fd0) := hXe.pw.res
    have HB : Hid (Below w.heap.size w W) := hXe.pw.bel
    have LF : Hid ((fdC ⟨(e0 : Int), false, 0, 0, 0⟩).length = 5) := rfl
    clear hXe HS SZ NU HG0 H0 K0 K1 K2 hlo h4
    go_wp2_with (first
      | (refine wpList_load_whole_g ?_ 89 (.tmp 7) rfl Gf 89 5 (fdC ⟨(e0 : Int), false, 0, 0, 0⟩) hrow rfl _ LF.out Tryz.underlying89 rfl (by kernel_rfl) ?_; · rfl)
      | (refine wpList_store_Row rfl 89 (.tmp 4) (.tmp 72) rfl w.heap.size 89 0 (fdC fd0) (fdC ⟨(e0 : Int), false, 0, 0, 0⟩) rr (Nat.le_refl _) rfl rfl (by kernel_rfl) (fdC_one _) ?_; intro w9 hr9 hs9; have r9 := row_whole hr9 (Nat.le_refl _); have HB9 : Hid (Below w.heap.size w w9) := hs9.below HB.out (Nat.le_refl _); clear hr9 hs9))
    refine bodyPost_ret (results_Row Tryz.results71 _ w9 w.heap.size 89 _ _ rfl r9 Tryz.underlying89 rfl (by kernel_rfl)) rfl ?_
    exact ⟨rfl, HB9.out⟩
end Go.Proofs.YtpcgkjngpdplmaaGreatDoor
