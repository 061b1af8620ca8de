
import Derived.Test.YtngfdofjflmhhaaC4Act
import Derived.Test.YtngfdofjflmhhaaR4CopyC
/-! The code's chip: lower. (Printed by tools/genlow.py.) -/
namespace Go.Proofs.Ytngfdofjflmhhaa
open Go.RowKit

theorem bits8_not (x : By) : bits .xor .u8 (if IntKind.u8.signed = true then -1 else IntKind.u8.max) (x.toNat : Int) = ((~~~x).toNat : Int) := by
  revert x; decide +kernel
theorem or8 (x y : By) : ((x.toNat ||| y.toNat : Nat) : Int) = ((x ||| y).toNat : Int) := by simp
theorem and8 (x y : By) : ((x.toNat &&& y.toNat : Nat) : Int) = ((x &&& y).toNat : Int) := by simp

/-- What lower leaves of a cell. -/
def lowCell (m was x : List By) : List By := (List.range 32).map fun i => was.getD i 0 &&& (x.getD i 0 ||| ~~~ bitsAt m i)
theorem lowCell_len (m was x : List By) : (lowCell m was x).length = 32 := by simp [lowCell]
theorem lowCell_get (m was x : List By) (k : Nat) (hk : k < 32) : (lowCell m was x).getD k 0 = was.getD k 0 &&& (x.getD k 0 ||| ~~~ bitsAt m k) := by
  unfold lowCell
  rw [List.getD_eq_getElem?_getD, List.getElem?_map, List.getElem?_range hk]; rfl

/-- Values laid over others, from a place on. -/
def putAt (cs : List Value) (o : Nat) (new : List Value) : List Value := cs.take o ++ new ++ cs.drop (o + new.length)
theorem putAt_len (cs : List Value) (o : Nat) (new : List Value) (h : o + new.length ≤ cs.length) : (putAt cs o new).length = cs.length := by
  simp [putAt]; omega
theorem putAt_get (cs : List Value) (o : Nat) (new : List Value) (k : Nat) (ho : o ≤ cs.length) (hk : k < new.length) : (putAt cs o new)[o + k]? = new[k]? := by
  unfold putAt
  rw [List.append_assoc, List.getElem?_append_right (by simp; omega), List.length_take, Nat.min_eq_left ho, show o + k - o = k by omega, List.getElem?_append_left hk]
theorem putAt_set (cs : List Value) (o : Nat) (new : List Value) (k : Nat) (v : Value) (ho : o ≤ cs.length) (hk : k < new.length) : (putAt cs o new).set (o + k) v = putAt cs o (new.set k v) := by
  unfold putAt
  have e : (cs.take o).length = o := by rw [List.length_take, Nat.min_eq_left ho]
  rw [List.append_assoc, List.set_append_right _ _ (by omega), e, show o + k - o = k by omega, List.set_append_left _ _ hk, List.length_set, ← List.append_assoc]
theorem putAt_self (cs : List Value) (o n : Nat) (new : List Value) (h : (cs.drop o).take n = new) (hn : new.length = n) : putAt cs o new = cs := by
  unfold putAt
  rw [hn, ← h, List.append_assoc, ← List.drop_drop, List.take_append_drop, List.take_append_drop]

structure LoI (w0 : World) (B o k X : Nat) (M : ByteArray) (wb xb mb nm ob nb : By) (L : Nat → Bool) (x10 x11 x12 x13 x14 x15 x16 x17 x18 x19 x20 x21 x22 x23 x24 x25 : Value) (W : World) : Prop where
  wz : L 16 = false → W = w0
  wo : L 16 = true → W = w0.setCell ⟨B, o + k, none⟩ (.int .u8 (nb.toNat : Int))
  p0 : L 0 = true → x10 = .pointer (some ⟨B, o, none⟩)
  p1 : L 1 = true → x11 = .int .i64 (k : Int)
  p2 : L 2 = true → x12 = .pointer (some ⟨B, o, none⟩)
  p3 : L 3 = true → x13 = .pointer (some ⟨B, o + k, none⟩)
  p4 : L 4 = true → x14 = .int .u8 ((wb).toNat : Int)
  p5 : L 5 = true → x15 = .int .i64 (k : Int)
  p6 : L 6 = true → x16 = .pointer (some ⟨X, k, none⟩)
  p7 : L 7 = true → x17 = .int .u8 ((xb).toNat : Int)
  p8 : L 8 = true → x18 = .string M
  p9 : L 9 = true → x19 = .int .i64 (k : Int)
  p10 : L 10 = true → x20 = .int .u8 ((mb).toNat : Int)
  p11 : L 11 = true → x21 = .int .u8 ((nm).toNat : Int)
  p12 : L 12 = true → x22 = .int .u8 ((ob).toNat : Int)
  p13 : L 13 = true → x23 = .int .u8 ((nb).toNat : Int)
  p14 : L 14 = true → x24 = .pointer (some ⟨B, o, none⟩)
  p15 : L 15 = true → x25 = .pointer (some ⟨B, o + k, none⟩)
  l16_13 : L 16 = true → L 13 = true
  l13_4 : L 13 = true → L 4 = true
  l13_12 : L 13 = true → L 12 = true
  l12_7 : L 12 = true → L 7 = true
section
variable {w0 : World} {B o k X : Nat} {M : ByteArray} {wb xb mb nm ob nb : By} {L : Nat → Bool} {x10 x11 x12 x13 x14 x15 x16 x17 x18 x19 x20 x21 x22 x23 x24 x25 : Value} {W : World}
theorem LoI.zero (w0 : World) (B o k X : Nat) (M : ByteArray) (wb xb mb nm ob nb : By) (x10 x11 x12 x13 x14 x15 x16 x17 x18 x19 x20 x21 x22 x23 x24 x25 : Value) : LoI w0 B o k X M wb xb mb nm ob nb (fun _ => false) x10 x11 x12 x13 x14 x15 x16 x17 x18 x19 x20 x21 x22 x23 x24 x25 (w0) := by
  constructor <;> first | exact fun _ => rfl | (intros; contradiction)
theorem LoI.s0 (h : LoI w0 B o k X M wb xb mb nm ob nb L x10 x11 x12 x13 x14 x15 x16 x17 x18 x19 x20 x21 x22 x23 x24 x25 W) : LoI w0 B o k X M wb xb mb nm ob nb (upd L 0) (.pointer (some ⟨B, o, none⟩)) x11 x12 x13 x14 x15 x16 x17 x18 x19 x20 x21 x22 x23 x24 x25 W :=
  ⟨h.wz, h.wo, fun _ => rfl, h.p1, h.p2, h.p3, h.p4, h.p5, h.p6, h.p7, h.p8, h.p9, h.p10, h.p11, h.p12, h.p13, h.p14, h.p15, h.l16_13, h.l13_4, h.l13_12, h.l12_7⟩
theorem LoI.s1 (h : LoI w0 B o k X M wb xb mb nm ob nb L x10 x11 x12 x13 x14 x15 x16 x17 x18 x19 x20 x21 x22 x23 x24 x25 W) : LoI w0 B o k X M wb xb mb nm ob nb (upd L 1) x10 (.int .i64 (k : Int)) x12 x13 x14 x15 x16 x17 x18 x19 x20 x21 x22 x23 x24 x25 W :=
  ⟨h.wz, h.wo, h.p0, fun _ => rfl, h.p2, h.p3, h.p4, h.p5, h.p6, h.p7, h.p8, h.p9, h.p10, h.p11, h.p12, h.p13, h.p14, h.p15, h.l16_13, h.l13_4, h.l13_12, h.l12_7⟩
theorem LoI.s2 (h : LoI w0 B o k X M wb xb mb nm ob nb L x10 x11 x12 x13 x14 x15 x16 x17 x18 x19 x20 x21 x22 x23 x24 x25 W) : LoI w0 B o k X M wb xb mb nm ob nb (upd L 2) x10 x11 (.pointer (some ⟨B, o, none⟩)) x13 x14 x15 x16 x17 x18 x19 x20 x21 x22 x23 x24 x25 W :=
  ⟨h.wz, h.wo, h.p0, h.p1, fun _ => rfl, h.p3, h.p4, h.p5, h.p6, h.p7, h.p8, h.p9, h.p10, h.p11, h.p12, h.p13, h.p14, h.p15, h.l16_13, h.l13_4, h.l13_12, h.l12_7⟩
theorem LoI.s3 (h : LoI w0 B o k X M wb xb mb nm ob nb L x10 x11 x12 x13 x14 x15 x16 x17 x18 x19 x20 x21 x22 x23 x24 x25 W) : LoI w0 B o k X M wb xb mb nm ob nb (upd L 3) x10 x11 x12 (.pointer (some ⟨B, o + k, none⟩)) x14 x15 x16 x17 x18 x19 x20 x21 x22 x23 x24 x25 W :=
  ⟨h.wz, h.wo, h.p0, h.p1, h.p2, fun _ => rfl, h.p4, h.p5, h.p6, h.p7, h.p8, h.p9, h.p10, h.p11, h.p12, h.p13, h.p14, h.p15, h.l16_13, h.l13_4, h.l13_12, h.l12_7⟩
theorem LoI.s4 (h : LoI w0 B o k X M wb xb mb nm ob nb L x10 x11 x12 x13 x14 x15 x16 x17 x18 x19 x20 x21 x22 x23 x24 x25 W) : LoI w0 B o k X M wb xb mb nm ob nb (upd L 4) x10 x11 x12 x13 (.int .u8 ((wb).toNat : Int)) x15 x16 x17 x18 x19 x20 x21 x22 x23 x24 x25 W :=
  ⟨h.wz, h.wo, h.p0, h.p1, h.p2, h.p3, fun _ => rfl, h.p5, h.p6, h.p7, h.p8, h.p9, h.p10, h.p11, h.p12, h.p13, h.p14, h.p15, h.l16_13, fun _ => rfl, h.l13_12, h.l12_7⟩
theorem LoI.s5 (h : LoI w0 B o k X M wb xb mb nm ob nb L x10 x11 x12 x13 x14 x15 x16 x17 x18 x19 x20 x21 x22 x23 x24 x25 W) : LoI w0 B o k X M wb xb mb nm ob nb (upd L 5) x10 x11 x12 x13 x14 (.int .i64 (k : Int)) x16 x17 x18 x19 x20 x21 x22 x23 x24 x25 W :=
  ⟨h.wz, h.wo, h.p0, h.p1, h.p2, h.p3, h.p4, fun _ => rfl, h.p6, h.p7, h.p8, h.p9, h.p10, h.p11, h.p12, h.p13, h.p14, h.p15, h.l16_13, h.l13_4, h.l13_12, h.l12_7⟩
theorem LoI.s6 (h : LoI w0 B o k X M wb xb mb nm ob nb L x10 x11 x12 x13 x14 x15 x16 x17 x18 x19 x20 x21 x22 x23 x24 x25 W) : LoI w0 B o k X M wb xb mb nm ob nb (upd L 6) x10 x11 x12 x13 x14 x15 (.pointer (some ⟨X, k, none⟩)) x17 x18 x19 x20 x21 x22 x23 x24 x25 W :=
  ⟨h.wz, h.wo, h.p0, h.p1, h.p2, h.p3, h.p4, h.p5, fun _ => rfl, h.p7, h.p8, h.p9, h.p10, h.p11, h.p12, h.p13, h.p14, h.p15, h.l16_13, h.l13_4, h.l13_12, h.l12_7⟩
theorem LoI.s7 (h : LoI w0 B o k X M wb xb mb nm ob nb L x10 x11 x12 x13 x14 x15 x16 x17 x18 x19 x20 x21 x22 x23 x24 x25 W) : LoI w0 B o k X M wb xb mb nm ob nb (upd L 7) x10 x11 x12 x13 x14 x15 x16 (.int .u8 ((xb).toNat : Int)) x18 x19 x20 x21 x22 x23 x24 x25 W :=
  ⟨h.wz, h.wo, h.p0, h.p1, h.p2, h.p3, h.p4, h.p5, h.p6, fun _ => rfl, h.p8, h.p9, h.p10, h.p11, h.p12, h.p13, h.p14, h.p15, h.l16_13, h.l13_4, h.l13_12, fun _ => rfl⟩
theorem LoI.s8 (h : LoI w0 B o k X M wb xb mb nm ob nb L x10 x11 x12 x13 x14 x15 x16 x17 x18 x19 x20 x21 x22 x23 x24 x25 W) : LoI w0 B o k X M wb xb mb nm ob nb (upd L 8) x10 x11 x12 x13 x14 x15 x16 x17 (.string M) x19 x20 x21 x22 x23 x24 x25 W :=
  ⟨h.wz, h.wo, h.p0, h.p1, h.p2, h.p3, h.p4, h.p5, h.p6, h.p7, fun _ => rfl, h.p9, h.p10, h.p11, h.p12, h.p13, h.p14, h.p15, h.l16_13, h.l13_4, h.l13_12, h.l12_7⟩
theorem LoI.s9 (h : LoI w0 B o k X M wb xb mb nm ob nb L x10 x11 x12 x13 x14 x15 x16 x17 x18 x19 x20 x21 x22 x23 x24 x25 W) : LoI w0 B o k X M wb xb mb nm ob nb (upd L 9) x10 x11 x12 x13 x14 x15 x16 x17 x18 (.int .i64 (k : Int)) x20 x21 x22 x23 x24 x25 W :=
  ⟨h.wz, h.wo, h.p0, h.p1, h.p2, h.p3, h.p4, h.p5, h.p6, h.p7, h.p8, fun _ => rfl, h.p10, h.p11, h.p12, h.p13, h.p14, h.p15, h.l16_13, h.l13_4, h.l13_12, h.l12_7⟩
theorem LoI.s10 (h : LoI w0 B o k X M wb xb mb nm ob nb L x10 x11 x12 x13 x14 x15 x16 x17 x18 x19 x20 x21 x22 x23 x24 x25 W) : LoI w0 B o k X M wb xb mb nm ob nb (upd L 10) x10 x11 x12 x13 x14 x15 x16 x17 x18 x19 (.int .u8 ((mb).toNat : Int)) x21 x22 x23 x24 x25 W :=
  ⟨h.wz, h.wo, h.p0, h.p1, h.p2, h.p3, h.p4, h.p5, h.p6, h.p7, h.p8, h.p9, fun _ => rfl, h.p11, h.p12, h.p13, h.p14, h.p15, h.l16_13, h.l13_4, h.l13_12, h.l12_7⟩
theorem LoI.s11 (h : LoI w0 B o k X M wb xb mb nm ob nb L x10 x11 x12 x13 x14 x15 x16 x17 x18 x19 x20 x21 x22 x23 x24 x25 W) : LoI w0 B o k X M wb xb mb nm ob nb (upd L 11) x10 x11 x12 x13 x14 x15 x16 x17 x18 x19 x20 (.int .u8 ((nm).toNat : Int)) x22 x23 x24 x25 W :=
  ⟨h.wz, h.wo, h.p0, h.p1, h.p2, h.p3, h.p4, h.p5, h.p6, h.p7, h.p8, h.p9, h.p10, fun _ => rfl, h.p12, h.p13, h.p14, h.p15, h.l16_13, h.l13_4, h.l13_12, h.l12_7⟩
theorem LoI.s12 (h : LoI w0 B o k X M wb xb mb nm ob nb L x10 x11 x12 x13 x14 x15 x16 x17 x18 x19 x20 x21 x22 x23 x24 x25 W) (h7 : L 7 = true) : LoI w0 B o k X M wb xb mb nm ob nb (upd L 12) x10 x11 x12 x13 x14 x15 x16 x17 x18 x19 x20 x21 (.int .u8 ((ob).toNat : Int)) x23 x24 x25 W :=
  ⟨h.wz, h.wo, h.p0, h.p1, h.p2, h.p3, h.p4, h.p5, h.p6, h.p7, h.p8, h.p9, h.p10, h.p11, fun _ => rfl, h.p13, h.p14, h.p15, h.l16_13, h.l13_4, fun _ => rfl, fun _ => h7⟩
theorem LoI.s13 (h : LoI w0 B o k X M wb xb mb nm ob nb L x10 x11 x12 x13 x14 x15 x16 x17 x18 x19 x20 x21 x22 x23 x24 x25 W) (h4 : L 4 = true) (h12 : L 12 = true) : LoI w0 B o k X M wb xb mb nm ob nb (upd L 13) x10 x11 x12 x13 x14 x15 x16 x17 x18 x19 x20 x21 x22 (.int .u8 ((nb).toNat : Int)) x24 x25 W :=
  ⟨h.wz, h.wo, h.p0, h.p1, h.p2, h.p3, h.p4, h.p5, h.p6, h.p7, h.p8, h.p9, h.p10, h.p11, h.p12, fun _ => rfl, h.p14, h.p15, fun _ => rfl, fun _ => h4, fun _ => h12, h.l12_7⟩
theorem LoI.s14 (h : LoI w0 B o k X M wb xb mb nm ob nb L x10 x11 x12 x13 x14 x15 x16 x17 x18 x19 x20 x21 x22 x23 x24 x25 W) : LoI w0 B o k X M wb xb mb nm ob nb (upd L 14) x10 x11 x12 x13 x14 x15 x16 x17 x18 x19 x20 x21 x22 x23 (.pointer (some ⟨B, o, none⟩)) x25 W :=
  ⟨h.wz, h.wo, h.p0, h.p1, h.p2, h.p3, h.p4, h.p5, h.p6, h.p7, h.p8, h.p9, h.p10, h.p11, h.p12, h.p13, fun _ => rfl, h.p15, h.l16_13, h.l13_4, h.l13_12, h.l12_7⟩
theorem LoI.s15 (h : LoI w0 B o k X M wb xb mb nm ob nb L x10 x11 x12 x13 x14 x15 x16 x17 x18 x19 x20 x21 x22 x23 x24 x25 W) : LoI w0 B o k X M wb xb mb nm ob nb (upd L 15) x10 x11 x12 x13 x14 x15 x16 x17 x18 x19 x20 x21 x22 x23 x24 (.pointer (some ⟨B, o + k, none⟩)) W :=
  ⟨h.wz, h.wo, h.p0, h.p1, h.p2, h.p3, h.p4, h.p5, h.p6, h.p7, h.p8, h.p9, h.p10, h.p11, h.p12, h.p13, h.p14, fun _ => rfl, h.l16_13, h.l13_4, h.l13_12, h.l12_7⟩
theorem LoI.s16 (h : LoI w0 B o k X M wb xb mb nm ob nb L x10 x11 x12 x13 x14 x15 x16 x17 x18 x19 x20 x21 x22 x23 x24 x25 W) (h13 : L 13 = true) : LoI w0 B o k X M wb xb mb nm ob nb (upd L 16) x10 x11 x12 x13 x14 x15 x16 x17 x18 x19 x20 x21 x22 x23 x24 x25 (w0.setCell ⟨B, o + k, none⟩ (.int .u8 (nb.toNat : Int))) :=
  ⟨fun k => (by cases k), fun _ => rfl, h.p0, h.p1, h.p2, h.p3, h.p4, h.p5, h.p6, h.p7, h.p8, h.p9, h.p10, h.p11, h.p12, h.p13, h.p14, h.p15, fun _ => h13, h.l13_4, h.l13_12, h.l12_7⟩
theorem LoI.w4 (h : LoI w0 B o k X M wb xb mb nm ob nb L x10 x11 x12 x13 x14 x15 x16 x17 x18 x19 x20 x21 x22 x23 x24 x25 W) (hL : L 4 = false) : W = w0 := h.wz (by cases k : L 16 with | false => rfl | true => exact absurd (h.l13_4 (h.l16_13 (k))) (by rw [hL]; decide))
theorem LoI.w7 (h : LoI w0 B o k X M wb xb mb nm ob nb L x10 x11 x12 x13 x14 x15 x16 x17 x18 x19 x20 x21 x22 x23 x24 x25 W) (hL : L 7 = false) : W = w0 := h.wz (by cases k : L 16 with | false => rfl | true => exact absurd (h.l12_7 (h.l13_12 (h.l16_13 (k)))) (by rw [hL]; decide))
end
@[reducible] def ILoI (w0 : World) (B o k X : Nat) (M : ByteArray) (wb xb mb nm ob nb : By) (y0 y1 y2 y3 y4 y5 y6 y7 y8 y9 y26 : Value) : (Nat → Bool) → Act → World → Prop := fun L a W => ∃ x10 x11 x12 x13 x14 x15 x16 x17 x18 x19 x20 x21 x22 x23 x24 x25, a = ⟨#[y0, y1, y2, y3, y4, y5, y6, y7, y8, y9, x10, x11, x12, x13, x14, x15, x16, x17, x18, x19, x20, x21, x22, x23, x24, x25, y26], []⟩ ∧ LoI w0 B o k X M wb xb mb nm ob nb L x10 x11 x12 x13 x14 x15 x16 x17 x18 x19 x20 x21 x22 x23 x24 x25 W

end Go.Proofs.Ytngfdofjflmhhaa
