
import Derived.Test.YtcpdanjbnijoiaaDoorR4EraseW
import Derived.Test.YtcpdanjbnijoiaaDoorR4CopyC
/-! The code's chip: lower. (Printed by tools/genlow.py.) -/
namespace Go.Proofs.YtcpdanjbnijoiaaDoor
open Go.RowKit

theorem bits8_not (x : By) : bits .xor .u8 (if IntKind.u8.signed = true then -1 else IntKind.u8.max) (x.toNat : Int) = ((~~~x).toNat : Int) := by
  revert x; decide +kernel
theorem or8 (x y : By) : ((x.toNat ||| y.toNat : Nat) : Int) = ((x ||| y).toNat : Int) := by simp
theorem and8 (x y : By) : ((x.toNat &&& y.toNat : Nat) : Int) = ((x &&& y).toNat : Int) := by simp

/-- What lower leaves of a cell. -/
def lowCell (m was x : List By) : List By := (List.range 32).map fun i => was.getD i 0 &&& (x.getD i 0 ||| ~~~ bitsAt m i)
theorem lowCell_len (m was x : List By) : (lowCell m was x).length = 32 := by simp [lowCell]
theorem lowCell_get (m was x : List By) (k : Nat) (hk : k < 32) : (lowCell m was x).getD k 0 = was.getD k 0 &&& (x.getD k 0 ||| ~~~ bitsAt m k) := by
  unfold lowCell
  rw [List.getD_eq_getElem?_getD, List.getElem?_map, List.getElem?_range hk]; rfl

/-- Values laid over others, from a place on. -/
def putAt (cs : List Value) (o : Nat) (new : List Value) : List Value := cs.take o ++ new ++ cs.drop (o + new.length)
theorem putAt_len (cs : List Value) (o : Nat) (new : List Value) (h : o + new.length ≤ cs.length) : (putAt cs o new).length = cs.length := by
  simp [putAt]; omega
theorem putAt_get (cs : List Value) (o : Nat) (new : List Value) (k : Nat) (ho : o ≤ cs.length) (hk : k < new.length) : (putAt cs o new)[o + k]? = new[k]? := by
  unfold putAt
  rw [List.append_assoc, List.getElem?_append_right (by simp; omega), List.length_take, Nat.min_eq_left ho, show o + k - o = k by omega, List.getElem?_append_left hk]
theorem putAt_set (cs : List Value) (o : Nat) (new : List Value) (k : Nat) (v : Value) (ho : o ≤ cs.length) (hk : k < new.length) : (putAt cs o new).set (o + k) v = putAt cs o (new.set k v) := by
  unfold putAt
  have e : (cs.take o).length = o := by rw [List.length_take, Nat.min_eq_left ho]
  rw [List.append_assoc, List.set_append_right _ _ (by omega), e, show o + k - o = k by omega, List.set_append_left _ _ hk, List.length_set, ← List.append_assoc]
theorem putAt_self (cs : List Value) (o n : Nat) (new : List Value) (h : (cs.drop o).take n = new) (hn : new.length = n) : putAt cs o new = cs := by
  unfold putAt
  rw [hn, ← h, List.append_assoc, ← List.drop_drop, List.take_append_drop, List.take_append_drop]

structure LoI (w0 : World) (B o k X : Nat) (M : ByteArray) (wb xb mb nm ob nb : By) (L : Nat → Bool) (x10 x11 x12 x13 x14 x15 x16 x17 x18 x19 x20 x21 x22 x23 x24 x25 : Value) (W : World) : Prop where
  wz : L 16 = false → W = w0
  wo : L 16 = true → W = w0.setCell ⟨B, o + k, none⟩ (.int .u8 (nb.toNat : Int))
  p0 : L 0 = true → x10 = .pointer (some ⟨B, o, none⟩)
  p1 : L 1 = true → x11 = .int .i64 (k : Int)
  p2 : L 2 = true → x12 = .pointer (some ⟨B, o, none⟩)
  p3 : L 3 = true → x13 = .pointer (some ⟨B, o + k, none⟩)
  p4 : L 4 = true → x14 = .int .u8 ((wb).toNat : Int)
  p5 : L 5 = true → x15 = .int .i64 (k : Int)
  p6 : L 6 = true → x16 = .pointer (some ⟨X, k, none⟩)
  p7 : L 7 = true → x17 = .int .u8 ((xb).toNat : Int)
  p8 : L 8 = true → x18 = .string M
  p9 : L 9 = true → x19 = .int .i64 (k : Int)
  p10 : L 10 = true → x20 = .int .u8 ((mb).toNat : Int)
  p11 : L 11 = true → x21 = .int .u8 ((nm).toNat : Int)
  p12 : L 12 = true → x22 = .int .u8 ((ob).toNat : Int)
  p13 : L 13 = true → x23 = .int .u8 ((nb).toNat : Int)
  p14 : L 14 = true → x24 = .pointer (some ⟨B, o, none⟩)
  p15 : L 15 = true → x25 = .pointer (some ⟨B, o + k, none⟩)
  l16_13 : L 16 = true → L 13 = true
  l13_4 : L 13 = true → L 4 = true
  l13_12 : L 13 = true → L 12 = true
  l12_7 : L 12 = true → L 7 = true
section
variable {w0 : World} {B o k X : Nat} {M : ByteArray} {wb xb mb nm ob nb : By} {L : Nat → Bool} {x10 x11 x12 x13 x14 x15 x16 x17 x18 x19 x20 x21 x22 x23 x24 x25 : Value} {W : World}
theorem LoI.zero (w0 : World) (B o k X : Nat) (M : ByteArray) (wb xb mb nm ob nb : By) (x10 x11 x12 x13 x14 x15 x16 x17 x18 x19 x20 x21 x22 x23 x24 x25 : Value) : LoI w0 B o k X M wb xb mb nm ob nb (fun _ => false) x10 x11 x12 x13 x14 x15 x16 x17 x18 x19 x20 x21 x22 x23 x24 x25 (w0) := by
  constructor <;> first | exact fun _ => rfl | (intros; contradiction)
theorem LoI.s0 (h : LoI w0 B o k X M wb xb mb nm ob nb L x10 x11 x12 x13 x14 x15 x16 x17 x18 x19 x20 x21 x22 x23 x24 x25 W) : LoI w0 B o k X M wb xb mb nm ob nb (upd L 0) (.pointer (some ⟨B, o, none⟩)) x11 x12 x13 x14 x15 x16 x17 x18 x19 x20 x21 x22 x23 x24 x25 W :=
  ⟨h.wz, h.wo, fun _ => rfl, h.p1, h.p2, h.p3, h.p4, h.p5, h.p6, h.p7, h.p8, h.p9, h.p10, h.p11, h.p12, h.p13, h.p14, h.p15, h.l16_13, h.l13_4, h.l13_12, h.l12_7⟩
theorem LoI.s1 (h : LoI w0 B o k X M wb xb mb nm ob nb L x10 x11 x12 x13 x14 x15 x16 x17 x18 x19 x20 x21 x22 x23 x24 x25 W) : LoI w0 B o k X M wb xb mb nm ob nb (upd L 1) x10 (.int .i64 (k : Int)) x12 x13 x14 x15 x16 x17 x18 x19 x20 x21 x22 x23 x24 x25 W :=
  ⟨h.wz, h.wo, h.p0, fun _ => rfl, h.p2, h.p3, h.p4, h.p5, h.p6, h.p7, h.p8, h.p9, h.p10, h.p11, h.p12, h.p13, h.p14, h.p15, h.l16_13, h.l13_4, h.l13_12, h.l12_7⟩
theorem LoI.s2 (h : LoI w0 B o k X M wb xb mb nm ob nb L x10 x11 x12 x13 x14 x15 x16 x17 x18 x19 x20 x21 x22 x23 x24 x25 W) : LoI w0 B o k X M wb xb mb nm ob nb (upd L 2) x10 x11 (.pointer (some ⟨B, o, none⟩)) x13 x14 x15 x16 x17 x18 x19 x20 x21 x22 x23 x24 x25 W :=
  ⟨h.wz, h.wo, h.p0, h.p1, fun _ => rfl, h.p3, h.p4, h.p5, h.p6, h.p7, h.p8, h.p9, h.p10, h.p11, h.p12, h.p13, h.p14, h.p15, h.l16_13, h.l13_4, h.l13_12, h.l12_7⟩
theorem LoI.s3 (h : LoI w0 B o k X M wb xb mb nm ob nb L x10 x11 x12 x13 x14 x15 x16 x17 x18 x19 x20 x21 x22 x23 x24 x25 W) : LoI w0 B o k X M wb xb mb nm ob nb (upd L 3) x10 x11 x12 (.pointer (some ⟨B, o + k, none⟩)) x14 x15 x16 x17 x18 x19 x20 x21 x22 x23 x24 x25 W :=
  ⟨h.wz, h.wo, h.p0, h.p1, h.p2, fun _ => rfl, h.p4, h.p5, h.p6, h.p7, h.p8, h.p9, h.p10, h.p11, h.p12, h.p13, h.p14, h.p15, h.l16_13, h.l13_4, h.l13_12, h.l12_7⟩
theorem LoI.s4 (h : LoI w0 B o k X M wb xb mb nm ob nb L x10 x11 x12 x13 x14 x15 x16 x17 x18 x19 x20 x21 x22 x23 x24 x25 W) : LoI w0 B o k X M wb xb mb nm ob nb (upd L 4) x10 x11 x12 x13 (.int .u8 ((wb).toNat : Int)) x15 x16 x17 x18 x19 x20 x21 x22 x23 x24 x25 W :=
  ⟨h.wz, h.wo, h.p0, h.p1, h.p2, h.p3, fun _ => rfl, h.p5, h.p6, h.p7, h.p8, h.p9, h.p10, h.p11, h.p12, h.p13, h.p14, h.p15, h.l16_13, fun _ => rfl, h.l13_12, h.l12_7⟩
theorem LoI.s5 (h : LoI w0 B o k X M wb xb mb nm ob nb L x10 x11 x12 x13 x14 x15 x16 x17 x18 x19 x20 x21 x22 x23 x24 x25 W) : LoI w0 B o k X M wb xb mb nm ob nb (upd L 5) x10 x11 x12 x13 x14 (.int .i64 (k : Int)) x16 x17 x18 x19 x20 x21 x22 x23 x24 x25 W :=
  ⟨h.wz, h.wo, h.p0, h.p1, h.p2, h.p3, h.p4, fun _ => rfl, h.p6, h.p7, h.p8, h.p9, h.p10, h.p11, h.p12, h.p13, h.p14, h.p15, h.l16_13, h.l13_4, h.l13_12, h.l12_7⟩
theorem LoI.s6 (h : LoI w0 B o k X M wb xb mb nm ob nb L x10 x11 x12 x13 x14 x15 x16 x17 x18 x19 x20 x21 x22 x23 x24 x25 W) : LoI w0 B o k X M wb xb mb nm ob nb (upd L 6) x10 x11 x12 x13 x14 x15 (.pointer (some ⟨X, k, none⟩)) x17 x18 x19 x20 x21 x22 x23 x24 x25 W :=
  ⟨h.wz, h.wo, h.p0, h.p1, h.p2, h.p3, h.p4, h.p5, fun _ => rfl, h.p7, h.p8, h.p9, h.p10, h.p11, h.p12, h.p13, h.p14, h.p15, h.l16_13, h.l13_4, h.l13_12, h.l12_7⟩
theorem LoI.s7 (h : LoI w0 B o k X M wb xb mb nm ob nb L x10 x11 x12 x13 x14 x15 x16 x17 x18 x19 x20 x21 x22 x23 x24 x25 W) : LoI w0 B o k X M wb xb mb nm ob nb (upd L 7) x10 x11 x12 x13 x14 x15 x16 (.int .u8 ((xb).toNat : Int)) x18 x19 x20 x21 x22 x23 x24 x25 W :=
  ⟨h.wz, h.wo, h.p0, h.p1, h.p2, h.p3, h.p4, h.p5, h.p6, fun _ => rfl, h.p8, h.p9, h.p10, h.p11, h.p12, h.p13, h.p14, h.p15, h.l16_13, h.l13_4, h.l13_12, fun _ => rfl⟩
theorem LoI.s8 (h : LoI w0 B o k X M wb xb mb nm ob nb L x10 x11 x12 x13 x14 x15 x16 x17 x18 x19 x20 x21 x22 x23 x24 x25 W) : LoI w0 B o k X M wb xb mb nm ob nb (upd L 8) x10 x11 x12 x13 x14 x15 x16 x17 (.string M) x19 x20 x21 x22 x23 x24 x25 W :=
  ⟨h.wz, h.wo, h.p0, h.p1, h.p2, h.p3, h.p4, h.p5, h.p6, h.p7, fun _ => rfl, h.p9, h.p10, h.p11, h.p12, h.p13, h.p14, h.p15, h.l16_13, h.l13_4, h.l13_12, h.l12_7⟩
theorem LoI.s9 (h : LoI w0 B o k X M wb xb mb nm ob nb L x10 x11 x12 x13 x14 x15 x16 x17 x18 x19 x20 x21 x22 x23 x24 x25 W) : LoI w0 B o k X M wb xb mb nm ob nb (upd L 9) x10 x11 x12 x13 x14 x15 x16 x17 x18 (.int .i64 (k : Int)) x20 x21 x22 x23 x24 x25 W :=
  ⟨h.wz, h.wo, h.p0, h.p1, h.p2, h.p3, h.p4, h.p5, h.p6, h.p7, h.p8, fun _ => rfl, h.p10, h.p11, h.p12, h.p13, h.p14, h.p15, h.l16_13, h.l13_4, h.l13_12, h.l12_7⟩
theorem LoI.s10 (h : LoI w0 B o k X M wb xb mb nm ob nb L x10 x11 x12 x13 x14 x15 x16 x17 x18 x19 x20 x21 x22 x23 x24 x25 W) : LoI w0 B o k X M wb xb mb nm ob nb (upd L 10) x10 x11 x12 x13 x14 x15 x16 x17 x18 x19 (.int .u8 ((mb).toNat : Int)) x21 x22 x23 x24 x25 W :=
  ⟨h.wz, h.wo, h.p0, h.p1, h.p2, h.p3, h.p4, h.p5, h.p6, h.p7, h.p8, h.p9, fun _ => rfl, h.p11, h.p12, h.p13, h.p14, h.p15, h.l16_13, h.l13_4, h.l13_12, h.l12_7⟩
theorem LoI.s11 (h : LoI w0 B o k X M wb xb mb nm ob nb L x10 x11 x12 x13 x14 x15 x16 x17 x18 x19 x20 x21 x22 x23 x24 x25 W) : LoI w0 B o k X M wb xb mb nm ob nb (upd L 11) x10 x11 x12 x13 x14 x15 x16 x17 x18 x19 x20 (.int .u8 ((nm).toNat : Int)) x22 x23 x24 x25 W :=
  ⟨h.wz, h.wo, h.p0, h.p1, h.p2, h.p3, h.p4, h.p5, h.p6, h.p7, h.p8, h.p9, h.p10, fun _ => rfl, h.p12, h.p13, h.p14, h.p15, h.l16_13, h.l13_4, h.l13_12, h.l12_7⟩
theorem LoI.s12 (h : LoI w0 B o k X M wb xb mb nm ob nb L x10 x11 x12 x13 x14 x15 x16 x17 x18 x19 x20 x21 x22 x23 x24 x25 W) (h7 : L 7 = true) : LoI w0 B o k X M wb xb mb nm ob nb (upd L 12) x10 x11 x12 x13 x14 x15 x16 x17 x18 x19 x20 x21 (.int .u8 ((ob).toNat : Int)) x23 x24 x25 W :=
  ⟨h.wz, h.wo, h.p0, h.p1, h.p2, h.p3, h.p4, h.p5, h.p6, h.p7, h.p8, h.p9, h.p10, h.p11, fun _ => rfl, h.p13, h.p14, h.p15, h.l16_13, h.l13_4, fun _ => rfl, fun _ => h7⟩
theorem LoI.s13 (h : LoI w0 B o k X M wb xb mb nm ob nb L x10 x11 x12 x13 x14 x15 x16 x17 x18 x19 x20 x21 x22 x23 x24 x25 W) (h4 : L 4 = true) (h12 : L 12 = true) : LoI w0 B o k X M wb xb mb nm ob nb (upd L 13) x10 x11 x12 x13 x14 x15 x16 x17 x18 x19 x20 x21 x22 (.int .u8 ((nb).toNat : Int)) x24 x25 W :=
  ⟨h.wz, h.wo, h.p0, h.p1, h.p2, h.p3, h.p4, h.p5, h.p6, h.p7, h.p8, h.p9, h.p10, h.p11, h.p12, fun _ => rfl, h.p14, h.p15, fun _ => rfl, fun _ => h4, fun _ => h12, h.l12_7⟩
theorem LoI.s14 (h : LoI w0 B o k X M wb xb mb nm ob nb L x10 x11 x12 x13 x14 x15 x16 x17 x18 x19 x20 x21 x22 x23 x24 x25 W) : LoI w0 B o k X M wb xb mb nm ob nb (upd L 14) x10 x11 x12 x13 x14 x15 x16 x17 x18 x19 x20 x21 x22 x23 (.pointer (some ⟨B, o, none⟩)) x25 W :=
  ⟨h.wz, h.wo, h.p0, h.p1, h.p2, h.p3, h.p4, h.p5, h.p6, h.p7, h.p8, h.p9, h.p10, h.p11, h.p12, h.p13, fun _ => rfl, h.p15, h.l16_13, h.l13_4, h.l13_12, h.l12_7⟩
theorem LoI.s15 (h : LoI w0 B o k X M wb xb mb nm ob nb L x10 x11 x12 x13 x14 x15 x16 x17 x18 x19 x20 x21 x22 x23 x24 x25 W) : LoI w0 B o k X M wb xb mb nm ob nb (upd L 15) x10 x11 x12 x13 x14 x15 x16 x17 x18 x19 x20 x21 x22 x23 x24 (.pointer (some ⟨B, o + k, none⟩)) W :=
  ⟨h.wz, h.wo, h.p0, h.p1, h.p2, h.p3, h.p4, h.p5, h.p6, h.p7, h.p8, h.p9, h.p10, h.p11, h.p12, h.p13, h.p14, fun _ => rfl, h.l16_13, h.l13_4, h.l13_12, h.l12_7⟩
theorem LoI.s16 (h : LoI w0 B o k X M wb xb mb nm ob nb L x10 x11 x12 x13 x14 x15 x16 x17 x18 x19 x20 x21 x22 x23 x24 x25 W) (h13 : L 13 = true) : LoI w0 B o k X M wb xb mb nm ob nb (upd L 16) x10 x11 x12 x13 x14 x15 x16 x17 x18 x19 x20 x21 x22 x23 x24 x25 (w0.setCell ⟨B, o + k, none⟩ (.int .u8 (nb.toNat : Int))) :=
  ⟨fun k => (by cases k), fun _ => rfl, h.p0, h.p1, h.p2, h.p3, h.p4, h.p5, h.p6, h.p7, h.p8, h.p9, h.p10, h.p11, h.p12, h.p13, h.p14, h.p15, fun _ => h13, h.l13_4, h.l13_12, h.l12_7⟩
theorem LoI.w4 (h : LoI w0 B o k X M wb xb mb nm ob nb L x10 x11 x12 x13 x14 x15 x16 x17 x18 x19 x20 x21 x22 x23 x24 x25 W) (hL : L 4 = false) : W = w0 := h.wz (by cases k : L 16 with | false => rfl | true => exact absurd (h.l13_4 (h.l16_13 (k))) (by rw [hL]; decide))
theorem LoI.w7 (h : LoI w0 B o k X M wb xb mb nm ob nb L x10 x11 x12 x13 x14 x15 x16 x17 x18 x19 x20 x21 x22 x23 x24 x25 W) (hL : L 7 = false) : W = w0 := h.wz (by cases k : L 16 with | false => rfl | true => exact absurd (h.l12_7 (h.l13_12 (h.l16_13 (k)))) (by rw [hL]; decide))
end
@[reducible] def ILoI (w0 : World) (B o k X : Nat) (M : ByteArray) (wb xb mb nm ob nb : By) (y0 y1 y2 y3 y4 y5 y6 y7 y8 y9 y26 : Value) : (Nat → Bool) → Act → World → Prop := fun L a W => ∃ x10 x11 x12 x13 x14 x15 x16 x17 x18 x19 x20 x21 x22 x23 x24 x25, a = ⟨#[y0, y1, y2, y3, y4, y5, y6, y7, y8, y9, x10, x11, x12, x13, x14, x15, x16, x17, x18, x19, x20, x21, x22, x23, x24, x25, y26], []⟩ ∧ LoI w0 B o k X M wb xb mb nm ob nb L x10 x11 x12 x13 x14 x15 x16 x17 x18 x19 x20 x21 x22 x23 x24 x25 W

set_option maxHeartbeats 2000000 in
set_option maxRecDepth 100000 in
theorem lower_any (M : ByteArray) (m : List By) (hM : StrIs M m) (hm : m ≠ []) (B o : Nat) (cs : List Value) (was x : List By) (hx : x.length = 32) (hwas : was.length = 32) (w : World) (hr : Row w B 40 cs) (ho : o + 32 ≤ cs.length) (hseg : (cs.drop o).take 32 = was.map B8) :
    Calls Tryd.prog 57 #[.string M, .pointer (some ⟨B, o, none⟩), .agg (x.map B8).toArray] w fun e w' => e = .returned (.tuple #[]) ∧ Row w' B 40 (putAt cs o ((lowCell m was x).map B8)) ∧ KeptL [B] w w' := by
  have hB := hr.lt
  have rx : Row (w.alloc (.cells (x.map B8).toArray 40)) w.heap.size 40 (x.map B8) := Row.at _ _ _ _ _ rfl rfl
  have b0 : Below w.heap.size w (w.alloc (.cells (x.map B8).toArray 40)) := (Below.refl _ _).alloc (Nat.le_refl _) _
  have hr0 : Row (w.alloc (.cells (x.map B8).toArray 40)) B 40 (putAt cs o ((mixd (lowCell m was x) was 0).map B8)) := by
    rw [mixd_zero, putAt_self cs o 32 _ hseg (by simp [hwas])]; exact hr.alloc _
  have kl0 : KeptL [B] w (w.alloc (.cells (x.map B8).toArray 40)) := (KeptL.refl _ _).below b0 (Nat.le_refl _)
  have HMI : Hid (∀ i W, Calls Tryd.prog 56 #[.string M, .int .i64 ((i : Nat) : Int)] W fun e w' => e = .returned (.int .u8 ((bitsAt m i).toNat : Int)) ∧ w' = W) := fun i W => mat_any M m hM hm i W
  have hNl := lowCell_len m was x
  have HG : Hid (∀ k, k < 32 → (lowCell m was x).getD k 0 = was.getD k 0 &&& (x.getD k 0 ||| ~~~ bitsAt m k)) := fun k hk => lowCell_get m was x k hk
  generalize lowCell m was x = NEW at *
  generalize hW0 : w.alloc (.cells (x.map B8).toArray 40) = W0 at *
  clear hr hseg hM hm
  go_enter Tryd.func57, Tryd.ntmps57
  go_wp2
  go_loopw [7] (fun i wr => ∃ k : Nat, k ≤ 32 ∧ i = .int .i64 k ∧ Row wr B 40 (putAt cs o ((mixd NEW was k).map B8)) ∧ Row wr w.heap.size 40 (x.map B8) ∧ KeptL [B] w wr) (fun i _ => 32 - (intOf i).toNat)
  case atStart => exact ⟨0, by omega, rfl, hr0, rx, kl0⟩
  case round =>
    clear hr0 rx kl0 b0 hW0
    obtain ⟨k, hk, rfl, hr, rx, kl⟩ := hrel
    by_cases hlt : k < 32
    · have y0 : (0 : Int) ≤ (k : Int) := by omega
      have y1 : (k : Int) < 32 := by omega
      have hml : (mixd NEW was k).length = 32 := by unfold mixd; simp; omega
      have cx : wr.cell? ⟨w.heap.size, k, none⟩ = some (.int .u8 ((x.getD k 0).toNat : Int)) := rx.cell k _ (by rw [List.getElem?_map, List.getD_eq_getElem?_getD, List.getElem?_eq_getElem (by omega)]; rfl)
      have cw : wr.cell? ⟨B, o + k, none⟩ = some (.int .u8 ((was.getD k 0).toNat : Int)) := hr.cell (o + k) _ (by
        rw [putAt_get _ _ _ _ (by omega) (by rw [List.length_map, hml]; exact hlt), List.getElem?_map, ← mixd_get NEW was k hNl hlt, List.getD_eq_getElem?_getD, List.getElem?_eq_getElem (by omega)]; rfl)
      have fw := hr.frozen (o + k)
      have HM : Hid (∀ W, Calls Tryd.prog 56 #[.string M, .int .i64 (k : Int)] W fun e w' => e = .returned (.int .u8 ((bitsAt m k).toNat : Int)) ∧ w' = W) := fun W => HMI.out k W
      have hg := HG.out k hlt
      have hnx : Hid (Row (wr.drew.setCell ⟨B, o + k, none⟩ (.int .u8 ((was.getD k 0 &&& (x.getD k 0 ||| ~~~ bitsAt m k)).toNat : Int))) B 40 (putAt cs o ((mixd NEW was (k + 1)).map B8)) ∧ Row (wr.drew.setCell ⟨B, o + k, none⟩ (.int .u8 ((was.getD k 0 &&& (x.getD k 0 ||| ~~~ bitsAt m k)).toNat : Int))) w.heap.size 40 (x.map B8) ∧ KeptL [B] w (wr.drew.setCell ⟨B, o + k, none⟩ (.int .u8 ((was.getD k 0 &&& (x.getD k 0 ||| ~~~ bitsAt m k)).toNat : Int)))) := by
        have d : Dr wr wr.drew := ⟨1, rfl⟩
        have sb := SameBut.setCell B (o + k) (.int .u8 ((was.getD k 0 &&& (x.getD k 0 ||| ~~~ bitsAt m k)).toNat : Int)) wr.drew
        refine ⟨?_, (rx.dr d).but sb (by omega), (kl.dr d).but sb (.inl (by simp))⟩
        have h1 := (hr.dr d).set (o + k) (.int .u8 ((was.getD k 0 &&& (x.getD k 0 ||| ~~~ bitsAt m k)).toNat : Int))
        rw [putAt_set _ _ _ _ _ (by omega) (by rw [List.length_map, hml]; exact hlt)] at h1
        rw [← mixd_set NEW was k hNl hwas hlt, List.map_set, hg]
        exact h1
      clear hg hr rx kl
      generalize bitsAt m k = mb at *
      generalize was.getD k 0 = wb at *
      generalize x.getD k 0 = xb at *
      have HN := bits8_not mb
      generalize ~~~mb = nm at *
      have HO := bits8_or xb nm
      generalize xb ||| nm = ob at *
      have HD := bits8_and wb ob
      generalize wb &&& ob = nb at *
      replace HN : Hid (bits .xor .u8 (if IntKind.u8.signed = true then -1 else IntKind.u8.max) (mb.toNat : Int) = (nm.toNat : Int)) := HN
      replace HO : Hid (bits .or .u8 (xb.toNat : Int) (nm.toNat : Int) = (ob.toNat : Int)) := HO
      replace HD : Hid (bits .and .u8 (wb.toNat : Int) (ob.toNat : Int) = (nb.toNat : Int)) := HD
      go_wp2
      refine wp_region_inv (ILoI wr.drew B o k w.heap.size M wb xb mb nm ob nb _ _ _ _ _ _ _ _ _ _ _) (by kernel_rfl) (by kernel_rfl) ⟨_, _, _, _, _, _, _, _, _, _, _, _, _, _, _, _, rfl, LoI.zero wr.drew B o k w.heap.size M wb xb mb nm ob nb _ _ _ _ _ _ _ _ _ _ _ _ _ _ _ _⟩ ?_ ?_
      · refine .cons ?_ (.cons ?_ (.cons ?_ (.cons ?_ (.cons ?_ (.cons ?_ (.cons ?_ (.cons ?_ (.cons ?_ (.cons ?_ (.cons ?_ (.cons ?_ (.cons ?_ (.cons ?_ (.cons ?_ (.cons ?_ (.cons ?_ .nil))))))))))))))))
        all_goals (rintro L a W ⟨x10, x11, x12, x13, x14, x15, x16, x17, x18, x19, x20, x21, x22, x23, x24, x25, rfl, hI⟩ hL hd K hK)
        · rw [if_pos (by rfl)]
          go_simp
          exact hK.out _ _ ⟨_, _, _, _, _, _, _, _, _, _, _, _, _, _, _, _, rfl, hI.s0⟩
        · rw [if_pos (by rfl)]
          go_simp
          exact hK.out _ _ ⟨_, _, _, _, _, _, _, _, _, _, _, _, _, _, _, _, rfl, hI.s1⟩
        · have hx0 := hI.p0 (hd 0 (by decide))
          subst hx0
          rw [if_pos (by rfl)]
          go_simp
          exact hK.out _ _ ⟨_, _, _, _, _, _, _, _, _, _, _, _, _, _, _, _, rfl, hI.s2⟩
        · have hx2 := hI.p2 (hd 2 (by decide))
          subst hx2
          have hx1 := hI.p1 (hd 1 (by decide))
          subst hx1
          rw [if_pos (by rfl)]
          go_simp
          exact hK.out _ _ ⟨_, _, _, _, _, _, _, _, _, _, _, _, _, _, _, _, rfl, hI.s3⟩
        · have hx3 := hI.p3 (hd 3 (by decide))
          subst hx3
          have hW := hI.w4 hL
          subst hW
          rw [if_pos (by rfl)]
          go_simp
          exact hK.out _ _ ⟨_, _, _, _, _, _, _, _, _, _, _, _, _, _, _, _, rfl, hI.s4⟩
        · rw [if_pos (by rfl)]
          go_simp
          exact hK.out _ _ ⟨_, _, _, _, _, _, _, _, _, _, _, _, _, _, _, _, rfl, hI.s5⟩
        · have hx5 := hI.p5 (hd 5 (by decide))
          subst hx5
          rw [if_pos (by rfl)]
          go_simp
          exact hK.out _ _ ⟨_, _, _, _, _, _, _, _, _, _, _, _, _, _, _, _, rfl, hI.s6⟩
        · have hx6 := hI.p6 (hd 6 (by decide))
          subst hx6
          have hW := hI.w7 hL
          subst hW
          rw [if_pos (by rfl)]
          go_simp
          exact hK.out _ _ ⟨_, _, _, _, _, _, _, _, _, _, _, _, _, _, _, _, rfl, hI.s7⟩
        · rw [if_pos (by rfl)]
          go_simp
          exact hK.out _ _ ⟨_, _, _, _, _, _, _, _, _, _, _, _, _, _, _, _, rfl, hI.s8⟩
        · rw [if_pos (by rfl)]
          go_simp
          exact hK.out _ _ ⟨_, _, _, _, _, _, _, _, _, _, _, _, _, _, _, _, rfl, hI.s9⟩
        · have hx8 := hI.p8 (hd 8 (by decide))
          subst hx8
          have hx9 := hI.p9 (hd 9 (by decide))
          subst hx9
          rw [if_pos (by rfl)]
          go_simp
          refine (HM.out _).mono ?_
          rintro e w3 ⟨rfl, rfl⟩
          exact hK.out _ _ ⟨_, _, _, _, _, _, _, _, _, _, _, _, _, _, _, _, rfl, hI.s10⟩
        · have hx10 := hI.p10 (hd 10 (by decide))
          subst hx10
          rw [if_pos (by rfl)]
          go_simp
          rw [HN.out]
          exact hK.out _ _ ⟨_, _, _, _, _, _, _, _, _, _, _, _, _, _, _, _, rfl, hI.s11⟩
        · have hx7 := hI.p7 (hd 7 (by decide))
          subst hx7
          have hx11 := hI.p11 (hd 11 (by decide))
          subst hx11
          rw [if_pos (by rfl)]
          go_simp
          rw [HO.out]
          exact hK.out _ _ ⟨_, _, _, _, _, _, _, _, _, _, _, _, _, _, _, _, rfl, hI.s12 (hd 7 (by decide))⟩
        · have hx4 := hI.p4 (hd 4 (by decide))
          subst hx4
          have hx12 := hI.p12 (hd 12 (by decide))
          subst hx12
          rw [if_pos (by rfl)]
          go_simp
          rw [HD.out]
          exact hK.out _ _ ⟨_, _, _, _, _, _, _, _, _, _, _, _, _, _, _, _, rfl, hI.s13 (hd 4 (by decide)) (hd 12 (by decide))⟩
        · have hx0 := hI.p0 (hd 0 (by decide))
          subst hx0
          rw [if_pos (by rfl)]
          go_simp
          exact hK.out _ _ ⟨_, _, _, _, _, _, _, _, _, _, _, _, _, _, _, _, rfl, hI.s14⟩
        · have hx14 := hI.p14 (hd 14 (by decide))
          subst hx14
          have hx1 := hI.p1 (hd 1 (by decide))
          subst hx1
          rw [if_pos (by rfl)]
          go_simp
          exact hK.out _ _ ⟨_, _, _, _, _, _, _, _, _, _, _, _, _, _, _, _, rfl, hI.s15⟩
        · have hx15 := hI.p15 (hd 15 (by decide))
          subst hx15
          have hx13 := hI.p13 (hd 13 (by decide))
          subst hx13
          have hW := hI.wz hL
          subst hW
          rw [if_pos (by rfl)]
          go_simp
          exact hK.out _ _ ⟨_, _, _, _, _, _, _, _, _, _, _, _, _, _, _, _, rfl, hI.s16 (hd 13 (by decide))⟩
      · rintro L a W hall ⟨x10, x11, x12, x13, x14, x15, x16, x17, x18, x19, x20, x21, x22, x23, x24, x25, rfl, hI⟩
        have hW := hI.wo (hall 16 (by decide))
        subst hW
        have hx0 := hI.p0 (hall 0 (by decide))
        have hx1 := hI.p1 (hall 1 (by decide))
        have hx2 := hI.p2 (hall 2 (by decide))
        have hx3 := hI.p3 (hall 3 (by decide))
        have hx4 := hI.p4 (hall 4 (by decide))
        have hx5 := hI.p5 (hall 5 (by decide))
        have hx6 := hI.p6 (hall 6 (by decide))
        have hx7 := hI.p7 (hall 7 (by decide))
        have hx8 := hI.p8 (hall 8 (by decide))
        have hx9 := hI.p9 (hall 9 (by decide))
        have hx10 := hI.p10 (hall 10 (by decide))
        have hx11 := hI.p11 (hall 11 (by decide))
        have hx12 := hI.p12 (hall 12 (by decide))
        have hx13 := hI.p13 (hall 13 (by decide))
        have hx14 := hI.p14 (hall 14 (by decide))
        have hx15 := hI.p15 (hall 15 (by decide))
        subst hx0 hx1 hx2 hx3 hx4 hx5 hx6 hx7 hx8 hx9 hx10 hx11 hx12 hx13 hx14 hx15
        clear hI hall
        try dsimp only
        go_wp2
        exact ⟨⟨k + 1, by omega, by go_num, hnx.out⟩, by simp [intOf]; omega⟩
    · obtain rfl : k = 32 := by omega
      have y1 : ¬ ((32 : Nat) : Int) < 32 := by omega
      rw [mixd_end NEW was hNl hwas] at hr
      go_wp2
      go_end0
      exact ⟨rfl, hr, kl⟩
end Go.Proofs.YtcpdanjbnijoiaaDoor
