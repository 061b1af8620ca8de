
import Derived.Test.YtcpdanjbnijoiaaGreatDoorI11Parse
/-! The reference's Parse of an image. (Printed by tools/genrparse.py.) -/
namespace Go.Proofs.YtcpdanjbnijoiaaGreatDoor
open Go.RowKit

theorem imgz_one (s k v : Nat) : ∀ x ∈ imgC s k v (.slice none 0 0) (List.replicate 32 0), x.oneCell' = true := by
  intro x hx
  simp [imgC] at hx
  rcases hx with rfl | rfl | rfl | rfl | rfl <;> rfl

theorem imgC_one (s k v : Int) (ao : Option Addr) (n c : Nat) (t : List By) : ∀ x ∈ imgC s k v (.slice ao n c) t, x.oneCell' = true := by
  intro x hx
  simp only [imgC, List.mem_append, List.mem_cons, List.not_mem_nil, or_false] at hx
  rcases hx with (rfl | rfl | rfl | rfl) | hx
  · rfl
  · rfl
  · rfl
  · rfl
  · exact B8_one t x hx
theorem imgC_setpl (s k v : Int) (a b : Value) (t : List By) : (imgC s k v a t).set 3 b = imgC s k v b t := rfl
theorem imgC_setb (s k v : Int) (pl : Value) (t : List By) (j : Nat) (y : By) : (imgC s k v pl t).set (4 + j) (.int .u8 (y.toNat : Int)) = imgC s k v pl (t.set j y) := by
  unfold imgC
  rw [List.set_append_right _ _ (by simp)]
  simp [List.map_set, B8]

theorem PW.below {w W W2 : World} {ao : Option Addr} {b : List By} {N : Nat} (h : PW w ao b W) (hb : Below N W W2) (hN : w.heap.size + 2 ≤ N) : PW w ao b W2 :=
  ⟨h.bel.trans (hb.mono (by omega)), h.img.below hb (by omega), h.wrg.below hb (by omega), h.isb0⟩

/-- While the struct is made. -/
structure PO (w W1 : World) (ao : Option Addr) (b : List By) (s k v : Nat) (l1 l2 : Bool) (W : World) : Prop where
  pw : PW w ao b W
  le : W1.heap.size ≤ W.heap.size
  lo : w.heap.size + 2 ≤ W1.heap.size
  ord : l2 = true → l1 = true
  sz0 : l1 = false → W.heap.size = W1.heap.size
  row1 : l1 = true → l2 = false → Row W W1.heap.size 100 zImg
  row2 : l1 = true → l2 = true → Row W W1.heap.size 100 (imgC s k v (.slice none 0 0) (List.replicate 32 0))
theorem PO.mk1 {w W1 W : World} {ao : Option Addr} {b : List By} {s k v : Nat} {l1 l2 : Bool} (h : PO w W1 ao b s k v l1 l2 W) (hl : l1 = false) (hz : W.heap.size = W1.heap.size) : PO w W1 ao b s k v true l2 (W.alloc (.cells zImg.toArray 100)) :=
  ⟨h.pw.below ((Below.refl W.heap.size W).alloc (Nat.le_refl _) _) (by have := h.lo; omega), by simp; have := h.le; omega, h.lo, fun _ => rfl, fun k => (by cases k), fun _ _ => Row.at W 100 zImg _ _ hz.symm rfl, fun _ k => (by have := h.ord k; rw [hl] at this; cases this)⟩
theorem PO.st {w W1 W W2 : World} {ao : Option Addr} {b : List By} {s k v : Nat} {l1 l2 : Bool} (h : PO w W1 ao b s k v l1 l2 W) (hl : l1 = true) (hr : Row W2 W1.heap.size 100 (imgC s k v (.slice none 0 0) (List.replicate 32 0))) (hs : SameBut W1.heap.size W W2) : PO w W1 ao b s k v l1 true W2 :=
  ⟨h.pw.below (hs.below (Below.refl _ _) (Nat.le_refl _)) h.lo, by rw [hs.size]; exact h.le, h.lo, fun _ => hl, fun k => (by rw [hl] at k; cases k), fun _ k => (by cases k), fun _ _ => hr⟩

structure P18 (W1 : World) (w : World) (B off X cap : Nat) (b : List By) (s k v : Nat) (L : Nat → Bool) (x61 x62 x63 x64 x65 x66 x67 x68 x69 x70 x71 x72 x7 : Value) (W : World) : Prop where
  x : PO w W1 (some ⟨B, off, none⟩) b s k v (L 12) (L 13) W
  p0 : L 0 = true → x61 = .slice (some ⟨B, off, none⟩) (X + 48) cap
  p1 : L 1 = true → x62 = .pointer (some ⟨B, off + 5, none⟩)
  p2 : L 2 = true → x63 = .int .u8 (s : Int)
  p3 : L 3 = true → x64 = .int .i64 (s : Int)
  p4 : L 4 = true → x65 = .slice (some ⟨B, off, none⟩) (X + 48) cap
  p5 : L 5 = true → x66 = .pointer (some ⟨B, off + 6, none⟩)
  p6 : L 6 = true → x67 = .int .u8 (k : Int)
  p7 : L 7 = true → x68 = .int .i64 (k : Int)
  p8 : L 8 = true → x69 = .slice (some ⟨B, off, none⟩) (X + 48) cap
  p9 : L 9 = true → x70 = .slice (some ⟨B, off + 8, none⟩) (X + 40) (cap - 8)
  p10 : L 10 = true → x71 = .int .i64 (v : Int)
  p11 : L 11 = true → x72 = .agg (imgC s k v (.slice none 0 0) (List.replicate 32 0)).toArray
  p12 : L 12 = true → x7 = .pointer (some ⟨W1.heap.size, 0, none⟩)
section
variable {W1 : World} {w : World} {B off X cap : Nat} {b : List By} {s k v : Nat} {L : Nat → Bool} {x61 x62 x63 x64 x65 x66 x67 x68 x69 x70 x71 x72 x7 : Value} {W W2 : World}
theorem P18.s0 (h : P18 W1 w B off X cap b s k v L x61 x62 x63 x64 x65 x66 x67 x68 x69 x70 x71 x72 x7 W) : P18 W1 w B off X cap b s k v (upd L 0) (.slice (some ⟨B, off, none⟩) (X + 48) cap) x62 x63 x64 x65 x66 x67 x68 x69 x70 x71 x72 x7 W :=
  ⟨h.x, fun _ => rfl, h.p1, h.p2, h.p3, h.p4, h.p5, h.p6, h.p7, h.p8, h.p9, h.p10, h.p11, h.p12⟩
theorem P18.s1 (h : P18 W1 w B off X cap b s k v L x61 x62 x63 x64 x65 x66 x67 x68 x69 x70 x71 x72 x7 W) : P18 W1 w B off X cap b s k v (upd L 1) x61 (.pointer (some ⟨B, off + 5, none⟩)) x63 x64 x65 x66 x67 x68 x69 x70 x71 x72 x7 W :=
  ⟨h.x, h.p0, fun _ => rfl, h.p2, h.p3, h.p4, h.p5, h.p6, h.p7, h.p8, h.p9, h.p10, h.p11, h.p12⟩
theorem P18.s2 (h : P18 W1 w B off X cap b s k v L x61 x62 x63 x64 x65 x66 x67 x68 x69 x70 x71 x72 x7 W) : P18 W1 w B off X cap b s k v (upd L 2) x61 x62 (.int .u8 (s : Int)) x64 x65 x66 x67 x68 x69 x70 x71 x72 x7 W :=
  ⟨h.x, h.p0, h.p1, fun _ => rfl, h.p3, h.p4, h.p5, h.p6, h.p7, h.p8, h.p9, h.p10, h.p11, h.p12⟩
theorem P18.s3 (h : P18 W1 w B off X cap b s k v L x61 x62 x63 x64 x65 x66 x67 x68 x69 x70 x71 x72 x7 W) : P18 W1 w B off X cap b s k v (upd L 3) x61 x62 x63 (.int .i64 (s : Int)) x65 x66 x67 x68 x69 x70 x71 x72 x7 W :=
  ⟨h.x, h.p0, h.p1, h.p2, fun _ => rfl, h.p4, h.p5, h.p6, h.p7, h.p8, h.p9, h.p10, h.p11, h.p12⟩
theorem P18.s4 (h : P18 W1 w B off X cap b s k v L x61 x62 x63 x64 x65 x66 x67 x68 x69 x70 x71 x72 x7 W) : P18 W1 w B off X cap b s k v (upd L 4) x61 x62 x63 x64 (.slice (some ⟨B, off, none⟩) (X + 48) cap) x66 x67 x68 x69 x70 x71 x72 x7 W :=
  ⟨h.x, h.p0, h.p1, h.p2, h.p3, fun _ => rfl, h.p5, h.p6, h.p7, h.p8, h.p9, h.p10, h.p11, h.p12⟩
theorem P18.s5 (h : P18 W1 w B off X cap b s k v L x61 x62 x63 x64 x65 x66 x67 x68 x69 x70 x71 x72 x7 W) : P18 W1 w B off X cap b s k v (upd L 5) x61 x62 x63 x64 x65 (.pointer (some ⟨B, off + 6, none⟩)) x67 x68 x69 x70 x71 x72 x7 W :=
  ⟨h.x, h.p0, h.p1, h.p2, h.p3, h.p4, fun _ => rfl, h.p6, h.p7, h.p8, h.p9, h.p10, h.p11, h.p12⟩
theorem P18.s6 (h : P18 W1 w B off X cap b s k v L x61 x62 x63 x64 x65 x66 x67 x68 x69 x70 x71 x72 x7 W) : P18 W1 w B off X cap b s k v (upd L 6) x61 x62 x63 x64 x65 x66 (.int .u8 (k : Int)) x68 x69 x70 x71 x72 x7 W :=
  ⟨h.x, h.p0, h.p1, h.p2, h.p3, h.p4, h.p5, fun _ => rfl, h.p7, h.p8, h.p9, h.p10, h.p11, h.p12⟩
theorem P18.s7 (h : P18 W1 w B off X cap b s k v L x61 x62 x63 x64 x65 x66 x67 x68 x69 x70 x71 x72 x7 W) : P18 W1 w B off X cap b s k v (upd L 7) x61 x62 x63 x64 x65 x66 x67 (.int .i64 (k : Int)) x69 x70 x71 x72 x7 W :=
  ⟨h.x, h.p0, h.p1, h.p2, h.p3, h.p4, h.p5, h.p6, fun _ => rfl, h.p8, h.p9, h.p10, h.p11, h.p12⟩
theorem P18.s8 (h : P18 W1 w B off X cap b s k v L x61 x62 x63 x64 x65 x66 x67 x68 x69 x70 x71 x72 x7 W) : P18 W1 w B off X cap b s k v (upd L 8) x61 x62 x63 x64 x65 x66 x67 x68 (.slice (some ⟨B, off, none⟩) (X + 48) cap) x70 x71 x72 x7 W :=
  ⟨h.x, h.p0, h.p1, h.p2, h.p3, h.p4, h.p5, h.p6, h.p7, fun _ => rfl, h.p9, h.p10, h.p11, h.p12⟩
theorem P18.s9 (h : P18 W1 w B off X cap b s k v L x61 x62 x63 x64 x65 x66 x67 x68 x69 x70 x71 x72 x7 W) : P18 W1 w B off X cap b s k v (upd L 9) x61 x62 x63 x64 x65 x66 x67 x68 x69 (.slice (some ⟨B, off + 8, none⟩) (X + 40) (cap - 8)) x71 x72 x7 W :=
  ⟨h.x, h.p0, h.p1, h.p2, h.p3, h.p4, h.p5, h.p6, h.p7, h.p8, fun _ => rfl, h.p10, h.p11, h.p12⟩
theorem P18.s10 (h : P18 W1 w B off X cap b s k v L x61 x62 x63 x64 x65 x66 x67 x68 x69 x70 x71 x72 x7 W) (hX : PO w W1 (some ⟨B, off, none⟩) b s k v ((upd L 10) 12) ((upd L 10) 13) W2) : P18 W1 w B off X cap b s k v (upd L 10) x61 x62 x63 x64 x65 x66 x67 x68 x69 x70 (.int .i64 (v : Int)) x72 x7 W2 :=
  ⟨hX, h.p0, h.p1, h.p2, h.p3, h.p4, h.p5, h.p6, h.p7, h.p8, h.p9, fun _ => rfl, h.p11, h.p12⟩
theorem P18.s11 (h : P18 W1 w B off X cap b s k v L x61 x62 x63 x64 x65 x66 x67 x68 x69 x70 x71 x72 x7 W) : P18 W1 w B off X cap b s k v (upd L 11) x61 x62 x63 x64 x65 x66 x67 x68 x69 x70 x71 (.agg (imgC s k v (.slice none 0 0) (List.replicate 32 0)).toArray) x7 W :=
  ⟨h.x, h.p0, h.p1, h.p2, h.p3, h.p4, h.p5, h.p6, h.p7, h.p8, h.p9, h.p10, fun _ => rfl, h.p12⟩
theorem P18.s12 (h : P18 W1 w B off X cap b s k v L x61 x62 x63 x64 x65 x66 x67 x68 x69 x70 x71 x72 x7 W) (hX : PO w W1 (some ⟨B, off, none⟩) b s k v ((upd L 12) 12) ((upd L 12) 13) W2) : P18 W1 w B off X cap b s k v (upd L 12) x61 x62 x63 x64 x65 x66 x67 x68 x69 x70 x71 x72 (.pointer (some ⟨W1.heap.size, 0, none⟩)) W2 :=
  ⟨hX, h.p0, h.p1, h.p2, h.p3, h.p4, h.p5, h.p6, h.p7, h.p8, h.p9, h.p10, h.p11, fun _ => rfl⟩
theorem P18.s13 (h : P18 W1 w B off X cap b s k v L x61 x62 x63 x64 x65 x66 x67 x68 x69 x70 x71 x72 x7 W) (hX : PO w W1 (some ⟨B, off, none⟩) b s k v ((upd L 13) 12) ((upd L 13) 13) W2) : P18 W1 w B off X cap b s k v (upd L 13) x61 x62 x63 x64 x65 x66 x67 x68 x69 x70 x71 x72 x7 W2 :=
  ⟨hX, h.p0, h.p1, h.p2, h.p3, h.p4, h.p5, h.p6, h.p7, h.p8, h.p9, h.p10, h.p11, h.p12⟩
end
@[reducible] def IP18 (W1 : World) (w : World) (B off X cap : Nat) (b : List By) (s k v : Nat) (y0 y1 y2 y3 y4 y5 y6 y8 y9 y10 y11 y12 y13 y14 y15 y16 y17 y18 y19 y20 y21 y22 y23 y24 y25 y26 y27 y28 y29 y30 y31 y32 y33 y34 y35 y36 y37 y38 y39 y40 y41 y42 y43 y44 y45 y46 y47 y48 y49 y50 y51 y52 y53 y54 y55 y56 y57 y58 y59 y60 y73 y74 y75 y76 y77 y78 y79 y80 y81 y82 y83 y84 y85 y86 y87 y88 y89 y90 y91 y92 y93 y94 y95 y96 : Value) : (Nat → Bool) → Act → World → Prop := fun L a W => ∃ x61 x62 x63 x64 x65 x66 x67 x68 x69 x70 x71 x72 x7, a = ⟨#[y0, y1, y2, y3, y4, y5, y6, x7, y8, y9, y10, y11, y12, y13, y14, y15, y16, y17, y18, y19, y20, y21, y22, y23, y24, y25, y26, y27, y28, y29, y30, y31, y32, y33, y34, y35, y36, y37, y38, y39, y40, y41, y42, y43, y44, y45, y46, y47, y48, y49, y50, y51, y52, y53, y54, y55, y56, y57, y58, y59, y60, x61, x62, x63, x64, x65, x66, x67, x68, x69, x70, x71, x72, y73, y74, y75, y76, y77, y78, y79, y80, y81, y82, y83, y84, y85, y86, y87, y88, y89, y90, y91, y92, y93, y94, y95, y96], []⟩ ∧ P18 W1 w B off X cap b s k v L x61 x62 x63 x64 x65 x66 x67 x68 x69 x70 x71 x72 x7 W
theorem P18.step {W1 : World} {w : World} {B off X cap : Nat} {b : List By} {s k v : Nat} {y0 y1 y2 y3 y4 y5 y6 y8 y9 y10 y11 y12 y13 y14 y15 y16 y17 y18 y19 y20 y21 y22 y23 y24 y25 y26 y27 y28 y29 y30 y31 y32 y33 y34 y35 y36 y37 y38 y39 y40 y41 y42 y43 y44 y45 y46 y47 y48 y49 y50 y51 y52 y53 y54 y55 y56 y57 y58 y59 y60 y73 y74 y75 y76 y77 y78 y79 y80 y81 y82 y83 y84 y85 y86 y87 y88 y89 y90 y91 y92 y93 y94 y95 y96 : Value} {P : Program} {ops : Array Oper} {Q : Exit → Act → World → Prop} {i : Nat} {o : Oper} (hq : ∀ x61 x62 x63 x64 x65 x66 x67 x68 x69 x70 x71 x72 x7 (L : Nat → Bool) (W : World), P18 W1 w B off X cap b s k v L x61 x62 x63 x64 x65 x66 x67 x68 x69 x70 x71 x72 x7 W → L i = false → (∀ j ∈ onesOf o, L j = true) → ∀ K : Act → World → Prop, Shut (∀ a' w', IP18 W1 w B off X cap b s k v y0 y1 y2 y3 y4 y5 y6 y8 y9 y10 y11 y12 y13 y14 y15 y16 y17 y18 y19 y20 y21 y22 y23 y24 y25 y26 y27 y28 y29 y30 y31 y32 y33 y34 y35 y36 y37 y38 y39 y40 y41 y42 y43 y44 y45 y46 y47 y48 y49 y50 y51 y52 y53 y54 y55 y56 y57 y58 y59 y60 y73 y74 y75 y76 y77 y78 y79 y80 y81 y82 y83 y84 y85 y86 y87 y88 y89 y90 y91 y92 y93 y94 y95 y96 (upd L i) a' w' → K a' w') → if Region.wanted o (yielded ops (⟨#[y0, y1, y2, y3, y4, y5, y6, x7, y8, y9, y10, y11, y12, y13, y14, y15, y16, y17, y18, y19, y20, y21, y22, y23, y24, y25, y26, y27, y28, y29, y30, y31, y32, y33, y34, y35, y36, y37, y38, y39, y40, y41, y42, y43, y44, y45, y46, y47, y48, y49, y50, y51, y52, y53, y54, y55, y56, y57, y58, y59, y60, x61, x62, x63, x64, x65, x66, x67, x68, x69, x70, x71, x72, y73, y74, y75, y76, y77, y78, y79, y80, y81, y82, y83, y84, y85, y86, y87, y88, y89, y90, y91, y92, y93, y94, y95, y96], []⟩ : Act).tmps) = true then Oper.wp P o ⟨#[y0, y1, y2, y3, y4, y5, y6, x7, y8, y9, y10, y11, y12, y13, y14, y15, y16, y17, y18, y19, y20, y21, y22, y23, y24, y25, y26, y27, y28, y29, y30, y31, y32, y33, y34, y35, y36, y37, y38, y39, y40, y41, y42, y43, y44, y45, y46, y47, y48, y49, y50, y51, y52, y53, y54, y55, y56, y57, y58, y59, y60, x61, x62, x63, x64, x65, x66, x67, x68, x69, x70, x71, x72, y73, y74, y75, y76, y77, y78, y79, y80, y81, y82, y83, y84, y85, y86, y87, y88, y89, y90, y91, y92, y93, y94, y95, y96], []⟩ W K Q else K ((⟨#[y0, y1, y2, y3, y4, y5, y6, x7, y8, y9, y10, y11, y12, y13, y14, y15, y16, y17, y18, y19, y20, y21, y22, y23, y24, y25, y26, y27, y28, y29, y30, y31, y32, y33, y34, y35, y36, y37, y38, y39, y40, y41, y42, y43, y44, y45, y46, y47, y48, y49, y50, y51, y52, y53, y54, y55, y56, y57, y58, y59, y60, x61, x62, x63, x64, x65, x66, x67, x68, x69, x70, x71, x72, y73, y74, y75, y76, y77, y78, y79, y80, y81, y82, y83, y84, y85, y86, y87, y88, y89, y90, y91, y92, y93, y94, y95, y96], []⟩ : Act).put o.dst undef) W) : StepI P ops (IP18 W1 w B off X cap b s k v y0 y1 y2 y3 y4 y5 y6 y8 y9 y10 y11 y12 y13 y14 y15 y16 y17 y18 y19 y20 y21 y22 y23 y24 y25 y26 y27 y28 y29 y30 y31 y32 y33 y34 y35 y36 y37 y38 y39 y40 y41 y42 y43 y44 y45 y46 y47 y48 y49 y50 y51 y52 y53 y54 y55 y56 y57 y58 y59 y60 y73 y74 y75 y76 y77 y78 y79 y80 y81 y82 y83 y84 y85 y86 y87 y88 y89 y90 y91 y92 y93 y94 y95 y96) Q i o := by
  rintro L a W ⟨x61, x62, x63, x64, x65, x66, x67, x68, x69, x70, x71, x72, x7, rfl, h⟩
  exact hq _ _ _ _ _ _ _ _ _ _ _ _ _ _ _ h
theorem P18.ends {W1 : World} {w : World} {B off X cap : Nat} {b : List By} {s k v : Nat} {y0 y1 y2 y3 y4 y5 y6 y8 y9 y10 y11 y12 y13 y14 y15 y16 y17 y18 y19 y20 y21 y22 y23 y24 y25 y26 y27 y28 y29 y30 y31 y32 y33 y34 y35 y36 y37 y38 y39 y40 y41 y42 y43 y44 y45 y46 y47 y48 y49 y50 y51 y52 y53 y54 y55 y56 y57 y58 y59 y60 y73 y74 y75 y76 y77 y78 y79 y80 y81 y82 y83 y84 y85 y86 y87 y88 y89 y90 y91 y92 y93 y94 y95 y96 : Value} {mm_ : Nat} {Q : Exit → Act → World → Prop} (hq : ∀ x61 x62 x63 x64 x65 x66 x67 x68 x69 x70 x71 x72 x7 (L : Nat → Bool) (W : World), (∀ j, j < mm_ → L j = true) → P18 W1 w B off X cap b s k v L x61 x62 x63 x64 x65 x66 x67 x68 x69 x70 x71 x72 x7 W → Q .normal ⟨#[y0, y1, y2, y3, y4, y5, y6, x7, y8, y9, y10, y11, y12, y13, y14, y15, y16, y17, y18, y19, y20, y21, y22, y23, y24, y25, y26, y27, y28, y29, y30, y31, y32, y33, y34, y35, y36, y37, y38, y39, y40, y41, y42, y43, y44, y45, y46, y47, y48, y49, y50, y51, y52, y53, y54, y55, y56, y57, y58, y59, y60, x61, x62, x63, x64, x65, x66, x67, x68, x69, x70, x71, x72, y73, y74, y75, y76, y77, y78, y79, y80, y81, y82, y83, y84, y85, y86, y87, y88, y89, y90, y91, y92, y93, y94, y95, y96], []⟩ W) : ∀ L a' w', (∀ j, j < mm_ → L j = true) → IP18 W1 w B off X cap b s k v y0 y1 y2 y3 y4 y5 y6 y8 y9 y10 y11 y12 y13 y14 y15 y16 y17 y18 y19 y20 y21 y22 y23 y24 y25 y26 y27 y28 y29 y30 y31 y32 y33 y34 y35 y36 y37 y38 y39 y40 y41 y42 y43 y44 y45 y46 y47 y48 y49 y50 y51 y52 y53 y54 y55 y56 y57 y58 y59 y60 y73 y74 y75 y76 y77 y78 y79 y80 y81 y82 y83 y84 y85 y86 y87 y88 y89 y90 y91 y92 y93 y94 y95 y96 L a' w' → Q .normal a' w' := by
  rintro L a W hall ⟨x61, x62, x63, x64, x65, x66, x67, x68, x69, x70, x71, x72, x7, rfl, h⟩
  exact hq _ _ _ _ _ _ _ _ _ _ _ _ _ _ _ hall h
set_option maxHeartbeats 2000000 in
set_option maxRecDepth 100000 in
theorem rparse_ok (ao : Option Addr) (n cap : Nat) (b : List By) (hb0 : b.length = n) (w : World) (hb : IsB w ao b) (hcap : n ≤ cap) (hn : n ≤ 524288) (hs : scan b 0 16 = none) (X : Nat) (hX : num4 (b.drop 12) = X) (hne : n = X + 48) (s k v : Nat) (h5 : (b.getD 5 0).toNat = s) (h6 : (b.getD 6 0).toNat = k) (h8 : num4 (b.drop 8) = v) :
    Calls Tryz.prog 67 #[.slice ao n cap] w fun e w' => ∃ ao' c', e = .returned (.tuple #[.agg (imgC s k v (.slice ao' X c') (b.drop (X + 16))).toArray, .agg #[.int .i64 0, .int .i64 0]]) ∧ Own w.heap.size w' (.slice ao' X c') ((b.drop 16).take X) ∧ Below w.heap.size w w' := by
  have i1 : ¬ (524288 : Int) < (n : Int) := by omega
  have P0 := PW.start w ao b hb
  have HB0 : Hid (b.length = n) := hb0
  have HS : Hid (scan b 0 (16 - 0) = none) := hs
  have HX : Hid (num4 (b.drop 12) = X) := hX
  have H5 : Hid ((b.getD 5 0).toNat = s) := h5
  have H6 : Hid ((b.getD 6 0).toNat = k) := h6
  have H8 : Hid (num4 (b.drop 8) = v) := h8
  have HNE : Hid (n = X + 48) := hne
  clear hb hb0 hs hX h5 h6 h8 hne
  go_enter Tryz.func67, Tryz.ntmps67
  go_wp2_with fail
  go_loopw [4] (fun i wr => ∃ q : Nat, q ≤ 16 ∧ q ≤ n ∧ i = .int .i64 q ∧ Hid (scan b q (16 - q) = none) ∧ PW w ao b wr) (fun i _ => 16 - (intOf i).toNat)
  case atStart => exact ⟨0, by omega, by omega, rfl, HS, P0⟩
  case round =>
    clear HS P0
    obtain ⟨q, hq, hqn, rfl, HQ, PQ⟩ := hrel
    by_cases hq16 : q < 16
    · have i2 : (q : Int) < 16 := by omega
      have hsc := HQ.out
      rw [scan_at b q _ hq16 rfl, HB0.out] at hsc
      by_cases hqe : q = n
      · rw [if_pos hqe] at hsc; cases hsc
      · have i3 : ((q : Int) == (n : Int)) = false := by rw [beq_eq_false_iff_ne]; omega
        have i4 : (q : Int) < (n : Int) := by omega
        have i5 : (0 : Int) ≤ (q : Int) := by omega
        rw [if_neg hqe] at hsc
        obtain ⟨B, off, rfl, hc⟩ := PQ.cell q (by rw [HB0.out]; omega)
        have MU : Hid (∀ W, Calls Tryz.prog 84 #[.int .i64 q, .int .u8 ((b.getD q 0).toNat : Int)] W fun e w' => e = .returned (.bool (mst q (b.getD q 0).toNat)) ∧ w' = W) := fun W => must_any q (b.getD q 0) W
        generalize (b.getD q 0).toNat = y at *
        cases hm : mst q y
        · rw [hm] at hsc
          simp only [Bool.false_eq_true, if_false] at hsc
          cases hsc
        · rw [hm] at hsc
          simp only [if_true] at hsc
          have HSC : Hid (scan b (q + 1) (16 - (q + 1)) = none) := hsc
          rw [hm] at MU
          clear hsc HQ
          go_wp2_with (go_at_call 84; refine (MU.out _).mono ?_; rintro e w' ⟨rfl, rfl⟩)
          exact ⟨⟨q + 1, by omega, by omega, by go_num, HSC, PQ⟩, by simp [intOf]; omega⟩
    · obtain rfl : q = 16 := by omega
      clear hq HQ hq16
      obtain ⟨B, off, rfl, _⟩ := PQ.cell 0 (by rw [HB0.out]; omega)
      obtain rfl : n = X + 48 := HNE.out
      have NU12 : Hid (∀ cc, Calls Tryz.prog 85 #[.slice (some ⟨B, off + 12, none⟩) (X + 36) cc] wr fun e w' => e = .returned (.int .i64 X) ∧ w' = wr) := fun cc => by
        have := number_any B (off + 12) (X + 36) cc (b.drop 12) (by rw [List.length_drop, HB0.out]; omega) (by omega) wr (PQ.dropCells 12)
        rw [HX.out] at this; exact this
      have NU : Hid (∀ cc W, PW w (some ⟨B, off, none⟩) b W → Calls Tryz.prog 85 #[.slice (some ⟨B, off + 8, none⟩) (X + 40) cc] W fun e w' => e = .returned (.int .i64 v) ∧ w' = W) := fun cc W h => by
        have := number_any B (off + 8) (X + 40) cc (b.drop 8) (by rw [List.length_drop, HB0.out]; omega) (by omega) W (h.dropCells 8)
        rw [H8.out] at this; exact this
      have HC5 : Hid (∀ W, PW w (some ⟨B, off, none⟩) b W → W.cell? ⟨B, off + 5, none⟩ = some (.int .u8 (s : Int))) := fun W h => by
        obtain ⟨B', off', e, hc⟩ := h.cell 5 (by rw [HB0.out]; omega)
        injection e with e; injection e with e1 e2; subst e1 e2; rw [hc, H5.out]
      have HC6 : Hid (∀ W, PW w (some ⟨B, off, none⟩) b W → W.cell? ⟨B, off + 6, none⟩ = some (.int .u8 (k : Int))) := fun W h => by
        obtain ⟨B', off', e, hc⟩ := h.cell 6 (by rw [HB0.out]; omega)
        injection e with e; injection e with e1 e2; subst e1 e2; rw [hc, H6.out]
      have j1 : ¬ (524240 : Int) < (X : Int) := by omega
      have z1 : IntKind.i64.wrap ((X : Int) + 16) = (X : Int) + 16 := i64_in _ (by omega) (by omega)
      have z2 : IntKind.i64.wrap ((X : Int) + 16 + 32) = (X : Int) + 48 := by rw [i64_in _ (by omega) (by omega)]; omega
      go_wp2_with fail
      refine (NU12.out _).mono ?_
      rintro e W1 ⟨rfl, rfl⟩
      clear hn hqn NU12
      have HZ : Hid (PO w W1 (some ⟨B, off, none⟩) b s k v false false W1.drew) := ⟨PQ.below (Below.refl _ _).drew PQ.wrg.lt, Nat.le_refl _, PQ.wrg.lt, fun h => (by cases h), fun _ => rfl, fun h => (by cases h), fun h => (by cases h)⟩
      have b5 : (5 : Int) < (X : Int) + 48 := by omega
      have b6 : (6 : Int) < (X : Int) + 48 := by omega
      have b8 : (8 : Int) ≤ (X : Int) + 48 := by omega
      have hws : IntKind.i64.wrap (s : Int) = s := by have := (b.getD 5 0).isLt; rw [H5.out] at this; exact i64_in _ (by omega) (by omega)
      have hwk : IntKind.i64.wrap (k : Int) = k := by have := (b.getD 6 0).isLt; rw [H6.out] at this; exact i64_in _ (by omega) (by omega)
      have hc8 : ¬ cap = 8 := by omega
      clear i1
      go_wp2_with fail
      refine wp_region_inv (IP18 W1 w B off X cap b s k v _ _ _ _ _ _ _ _ _ _ _ _ _ _ _ _ _ _ _ _ _ _ _ _ _ _ _ _ _ _ _ _ _ _ _ _ _ _ _ _ _ _ _ _ _ _ _ _ _ _ _ _ _ _ _ _ _ _ _ _ _ _ _ _ _ _ _ _ _ _ _ _ _ _ _ _ _ _ _ _ _ _ _ _) (by kernel_rfl) (by kernel_rfl) ⟨_, _, _, _, _, _, _, _, _, _, _, _, _, rfl, ⟨HZ.out, fun k => (by cases k), fun k => (by cases k), fun k => (by cases k), fun k => (by cases k), fun k => (by cases k), fun k => (by cases k), fun k => (by cases k), fun k => (by cases k), fun k => (by cases k), fun k => (by cases k), fun k => (by cases k), fun k => (by cases k), fun k => (by cases k)⟩⟩ ?_ ?_
      · refine .cons ?_ (.cons ?_ (.cons ?_ (.cons ?_ (.cons ?_ (.cons ?_ (.cons ?_ (.cons ?_ (.cons ?_ (.cons ?_ (.cons ?_ (.cons ?_ (.cons ?_ (.cons ?_ .nil)))))))))))))
        all_goals (refine P18.step ?_; intro x61 x62 x63 x64 x65 x66 x67 x68 x69 x70 x71 x72 x7 L W hI hL hd K hK)
        · rw [if_pos (by rfl)]
          go_simp
          exact hK.out _ _ ⟨_, _, _, _, _, _, _, _, _, _, _, _, _, rfl, hI.s0⟩
        · have hx0 := hI.p0 (hd 0 (by decide))
          subst hx0
          rw [if_pos (by rfl)]
          go_simp
          exact hK.out _ _ ⟨_, _, _, _, _, _, _, _, _, _, _, _, _, rfl, hI.s1⟩
        · have hx1 := hI.p1 (hd 1 (by decide))
          subst hx1
          rw [if_pos (by rfl)]
          have c5 := HC5.out _ hI.x.pw
          go_simp
          exact hK.out _ _ ⟨_, _, _, _, _, _, _, _, _, _, _, _, _, rfl, hI.s2⟩
        · have hx2 := hI.p2 (hd 2 (by decide))
          subst hx2
          rw [if_pos (by rfl)]
          go_simp
          exact hK.out _ _ ⟨_, _, _, _, _, _, _, _, _, _, _, _, _, rfl, hI.s3⟩
        · rw [if_pos (by rfl)]
          go_simp
          exact hK.out _ _ ⟨_, _, _, _, _, _, _, _, _, _, _, _, _, rfl, hI.s4⟩
        · have hx4 := hI.p4 (hd 4 (by decide))
          subst hx4
          rw [if_pos (by rfl)]
          go_simp
          exact hK.out _ _ ⟨_, _, _, _, _, _, _, _, _, _, _, _, _, rfl, hI.s5⟩
        · have hx5 := hI.p5 (hd 5 (by decide))
          subst hx5
          rw [if_pos (by rfl)]
          have c6 := HC6.out _ hI.x.pw
          go_simp
          exact hK.out _ _ ⟨_, _, _, _, _, _, _, _, _, _, _, _, _, rfl, hI.s6⟩
        · have hx6 := hI.p6 (hd 6 (by decide))
          subst hx6
          rw [if_pos (by rfl)]
          go_simp
          exact hK.out _ _ ⟨_, _, _, _, _, _, _, _, _, _, _, _, _, rfl, hI.s7⟩
        · rw [if_pos (by rfl)]
          go_simp
          exact hK.out _ _ ⟨_, _, _, _, _, _, _, _, _, _, _, _, _, rfl, hI.s8⟩
        · have hx8 := hI.p8 (hd 8 (by decide))
          subst hx8
          rw [if_pos (by rfl)]
          go_simp
          exact hK.out _ _ ⟨_, _, _, _, _, _, _, _, _, _, _, _, _, rfl, hI.s9⟩
        · have hx9 := hI.p9 (hd 9 (by decide))
          subst hx9
          rw [if_pos (by rfl)]
          go_simp
          refine (NU.out _ _ hI.x.pw).mono ?_
          rintro e W2 ⟨rfl, rfl⟩
          go_simp
          exact hK.out _ _ ⟨_, _, _, _, _, _, _, _, _, _, _, _, _, rfl, hI.s10 (hI.x)⟩
        · have hx3 := hI.p3 (hd 3 (by decide))
          subst hx3
          have hx7 := hI.p7 (hd 7 (by decide))
          subst hx7
          have hx10 := hI.p10 (hd 10 (by decide))
          subst hx10
          rw [if_pos (by rfl)]
          go_simp
          exact hK.out _ _ ⟨_, _, _, _, _, _, _, _, _, _, _, _, _, rfl, hI.s11⟩
        · have hz : W.heap.size = W1.heap.size := hI.x.sz0 hL
          rw [if_pos (by rfl)]
          go_simp
          exact hK.out _ _ ⟨_, _, _, _, _, _, _, _, _, _, _, _, _, rfl, hI.s12 (hI.x.mk1 hL hz)⟩
        · have hx12 := hI.p12 (hd 12 (by decide))
          subst hx12
          have hx11 := hI.p11 (hd 11 (by decide))
          subst hx11
          refine step_store_Row rfl 100 _ _ rfl W1.heap.size 100 zImg (imgC s k v (.slice none 0 0) (List.replicate 32 0)) (hI.x.row1 (hd 12 (by decide)) hL) rfl rfl rfl (by kernel_rfl) (imgz_one s k v) ?_
          intro W2 hr2 hs2
          exact hK.out _ _ ⟨_, _, _, _, _, _, _, _, _, _, _, _, _, rfl, hI.s13 (hI.x.st (hd 12 (by decide)) hr2 hs2)⟩
      · refine P18.ends ?_; intro x61 x62 x63 x64 x65 x66 x67 x68 x69 x70 x71 x72 x7 L W hall hI
        have hx0 := hI.p0 (hall 0 (by decide))
        subst hx0
        have hx1 := hI.p1 (hall 1 (by decide))
        subst hx1
        have hx2 := hI.p2 (hall 2 (by decide))
        subst hx2
        have hx3 := hI.p3 (hall 3 (by decide))
        subst hx3
        have hx4 := hI.p4 (hall 4 (by decide))
        subst hx4
        have hx5 := hI.p5 (hall 5 (by decide))
        subst hx5
        have hx6 := hI.p6 (hall 6 (by decide))
        subst hx6
        have hx7 := hI.p7 (hall 7 (by decide))
        subst hx7
        have hx8 := hI.p8 (hall 8 (by decide))
        subst hx8
        have hx9 := hI.p9 (hall 9 (by decide))
        subst hx9
        have hx10 := hI.p10 (hall 10 (by decide))
        subst hx10
        have hx11 := hI.p11 (hall 11 (by decide))
        subst hx11
        have hx12 := hI.p12 (hall 12 (by decide))
        subst hx12
        have hXe := hI.x
        rw [hall 12 (by decide)] at hXe
        rw [hall 13 (by decide)] at hXe
        clear hI hall
        try dsimp only
        have r0 := hXe.row2 rfl rfl
        have hle := hXe.le
        have hlo := hXe.lo
        have PX : Hid (PW w (some ⟨B, off, none⟩) b W) := hXe.pw
        have hG : W1.heap.size < W.heap.size := r0.lt
        generalize hGG : W1.heap.size = G at *
        clear hXe HZ hGG PQ NU HC5 HC6
        have z3 : IntKind.i64.wrap ((X : Int) + 48 - 32) = (X : Int) + 16 := by rw [i64_in _ (by omega) (by omega)]; omega
        have c16 : ¬ cap = 16 := by omega
        have hc2 : (X : Int) + 16 ≤ (cap : Int) := by omega
        have ho := own_empty W.heap.size W (Nat.le_refl _) #[] rfl
        have b0 : Below W.heap.size W (W.alloc (.cells #[] 5)) := (Below.refl _ _).alloc (Nat.le_refl _) _
        have IB : Hid (∀ W', Below W.heap.size W W' → IsB W' (some ⟨B, off + 16, none⟩) ((b.drop 16).take X)) := fun W' h => by
          refine isB_take (.inr ⟨B, off + 16, rfl, (PX.out.below h (by omega)).dropCells 16⟩) X
        have HPL : Hid (((b.drop 16).take X).length = X) := by show _ = _; rw [List.length_take, List.length_drop, HB0.out]; omega
        obtain ⟨PB, hPB⟩ : ∃ PB, (b.drop 16).take X = PB := ⟨_, rfl⟩
        rw [hPB] at IB HPL
        have HPB : Hid ((b.drop 16).take X = PB) := hPB
        clear hPB
        go_wp2_with (at_builtin; refine wpList_append_more rfl (.tmp 74) (.tmp 78) rfl W.heap.size W (some ⟨W.heap.size, 0, none⟩) 0 0 [] rfl rfl ho b0 (some ⟨B, off + 16, none⟩) X (cap - 16) PB rfl HPL.out (IB.out _ b0) (fun h => by cases h) (by omega) ?_; intro ao4 c5 w4 ho4 hb4; rw [Nat.zero_add] at ho4; have r4 := r0.below hb4 hG; have cc := r4.cell 3 _ rfl; have ff := r4.frozen 3)
        have HTL : Hid ((b.drop (X + 16)).length = 32) := by show _ = _; rw [List.length_drop, HB0.out]; omega
        have rs := r4.set 3 (.slice ao4 X c5)
        rw [imgC_setpl] at rs
        have sb := SameBut.setCell G 3 (.slice ao4 X c5) w4
        have hne4 : ao4 ≠ some ⟨G, 0, none⟩ := fun h => by
          subst h
          have := ho4.lt.1
          omega
        have os : Own W.heap.size (w4.setCell ⟨G, 3, none⟩ (.slice ao4 X c5)) (.slice ao4 X c5) PB := ho4.but sb hne4
        have PS : PW w (some ⟨B, off, none⟩) b (w4.setCell ⟨G, 3, none⟩ (.slice ao4 X c5)) := (PX.out.below hb4 (by omega)).below (sb.below (Below.refl _ _) (Nat.le_refl _)) hlo
        have HNA : Hid (ao4 ≠ some ⟨G, 0, none⟩) := hne4
        have HDC : Hid (∀ W', PW w (some ⟨B, off, none⟩) b W' → ∀ q, q < 32 → W'.cell? ⟨B, off + (X + 16 + q), none⟩ = some (.int .u8 (((b.drop (X + 16)).getD q 0).toNat : Int))) := fun W' h q hq => by
          have hq' : q < (b.drop (X + 16)).length := by rw [HTL.out]; exact hq
          have := h.dropCells (X + 16) q _ (List.getElem?_eq_getElem hq')
          rw [getD_lt hq', ← Nat.add_assoc]; exact this
        generalize w4.setCell ⟨G, 3, none⟩ (.slice ao4 X c5) = w5 at *
        clear r0 ho b0 hb4 ho4 r4 cc ff sb hne4 hc8 c16 hws hwk b5 b6 b8 z1 z2 hc2
        obtain ⟨TG, hTG⟩ : ∃ TG, b.drop (X + 16) = TG := ⟨_, rfl⟩
        rw [hTG] at HDC HTL
        have HTG : Hid (b.drop (X + 16) = TG) := hTG
        clear hTG IB
        go_loopw [9] (fun i wr => ∃ q : Nat, q ≤ 32 ∧ i = .int .i64 q ∧ Row wr G 100 (imgC s k v (.slice ao4 X c5) (part TG 32 q)) ∧ Own W.heap.size wr (.slice ao4 X c5) PB ∧ PW w (some ⟨B, off, none⟩) b wr) (fun i _ => 32 - (intOf i).toNat)
        case atStart => exact ⟨0, by omega, rfl, rs, os, PS⟩
        case round =>
          clear rs os PS
          obtain ⟨q, hq, rfl, rq, oq, pq⟩ := hrel
          by_cases hlt : q < 32
          · have i1 : (q : Int) < 32 := by omega
            have i0 : (0 : Int) ≤ (q : Int) := by omega
            have z4 : IntKind.i64.wrap ((X : Int) + 16 + (q : Int)) = ((X + 16 + q : Nat) : Int) := by rw [i64_in _ (by omega) (by omega)]; omega
            have i2 : ((X + 16 + q : Nat) : Int) < (X : Int) + 48 := by omega
            have i3 : (0 : Int) ≤ ((X + 16 + q : Nat) : Int) := by omega
            have cb := HDC.out _ pq q hlt
            have ct := rq.cell (4 + q) _ (imgC_tag s k v _ _ q (by rw [part_len TG 32 q HTL.out hq]; exact hlt))
            have ft := rq.frozen (4 + q)
            have E : Hid (part TG 32 (q + 1) = (part TG 32 q).set q (TG.getD q 0)) := (part_set TG 32 q HTL.out hlt).symm
            have rset := rq.set (4 + q) (.int .u8 ((TG.getD q 0).toNat : Int))
            rw [imgC_setb, ← E.out] at rset
            have sb := SameBut.setCell G (4 + q) (.int .u8 ((TG.getD q 0).toNat : Int)) wr
            have FIN : Hid (Row (wr.setCell ⟨G, 4 + q, none⟩ (.int .u8 ((TG.getD q 0).toNat : Int))) G 100 (imgC s k v (.slice ao4 X c5) (part TG 32 (q + 1))) ∧ Own W.heap.size (wr.setCell ⟨G, 4 + q, none⟩ (.int .u8 ((TG.getD q 0).toNat : Int))) (.slice ao4 X c5) PB ∧ PW w (some ⟨B, off, none⟩) b (wr.setCell ⟨G, 4 + q, none⟩ (.int .u8 ((TG.getD q 0).toNat : Int)))) :=
              ⟨rset, oq.but sb HNA.out, pq.below (sb.below (Below.refl _ _) (Nat.le_refl _)) hlo⟩
            generalize (part TG 32 q).getD q 0 = old at ct
            generalize hy : TG.getD q 0 = y at *
            generalize hXq : X + 16 + q = M at *
            clear rset sb E rq oq hy
            go_wp2
            obtain ⟨f1, f2, f3⟩ := FIN.out
            exact ⟨⟨q + 1, by omega, by go_num, f1, f2, f3⟩, by simp [intOf]; omega⟩
          · obtain rfl : q = 32 := by omega
            rw [part_all TG 32 HTL.out] at rq
            have hil := imgC_len s k v (.slice ao4 X c5) TG HTL.out
            have h1 := imgC_one s k v ao4 X c5 TG
            generalize hIM : imgC s k v (.slice ao4 X c5) TG = IM at *
            clear hlt hq
            go_wp2_with (first | (refine wpList_load_Row rfl 100 _ rfl _ _ IM rq rfl _ Tryz.underlying100 rfl (by rw [hil]; kernel_rfl) ?_) | (refine wpList_store_Row rfl 100 _ _ rfl w.heap.size 100 0 zImg IM pq.img (by rw [hil]; exact Nat.le_refl _) rfl rfl (by rw [hil]; kernel_rfl) h1 ?_; intro w2 hr2 hs2) | (refine wpList_store_Row rfl 111 _ _ rfl (w.heap.size + 1) 111 0 _ [.int .i64 0, .int .i64 0] (pq.wrg.but hs2 (by omega)) (Nat.le_refl _) rfl rfl (by kernel_rfl) (by simp [Value.oneCell']) ?_; intro w3 hr3 hs3))
            have q2 := (row_whole hr2 (by rw [hil]; exact Nat.le_of_eq zImg_len)).but hs3 (by omega)
            have q3 := row_whole hr3 (by simp)
            refine bodyPost_ret_by (results_rowrow Tryz.results67 _ w3 w.heap.size 100 (w.heap.size + 1) 111 _ _ _ _ rfl q2 Tryz.underlying100 rfl (by rw [hil]; kernel_rfl) rfl q3 Tryz.underlying111 rfl (by kernel_rfl)) rfl ⟨ao4, c5, ?_, ?_, ?_⟩
            · rw [HTG.out, hIM]
            · rw [HPB.out]
              refine own_le ((oq.but hs2 ?_).but hs3 ?_) (by omega)
              · intro h; subst h; have := oq.lt.1; omega
              · intro h; subst h; have := oq.lt.1; omega
            · exact hs3.below (hs2.below pq.bel (Nat.le_refl _)) (by omega)
end Go.Proofs.YtcpdanjbnijoiaaGreatDoor
