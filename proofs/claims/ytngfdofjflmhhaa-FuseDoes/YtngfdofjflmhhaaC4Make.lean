import Derived.Test.YtngfdofjflmhhaaC4Blow
import Derived.Laws.MakeOwn
import Derived.Laws.CopyOwn

/-! The code's chip: blank, raise. (Printed by tools/genraise.py.) -/
namespace Go.Proofs.Ytngfdofjflmhhaa
open Go.RowKit

set_option maxHeartbeats 1000000 in
set_option maxRecDepth 100000 in
theorem cblank_any (w : World) : Calls Try.prog 52 #[] w fun e w' => e = .returned (.agg ((List.replicate 32 (255#8 : By)).map B8).toArray) ∧ Below w.heap.size w w' := by
  have r0 := Row.at w 72 ((List.replicate 32 (0 : By)).map B8) _ _ rfl rfl
  have b0 : ∀ o1, Below w.heap.size w (w.alloc o1) := fun o1 => (Below.refl _ _).alloc (Nat.le_refl _) _
  go_enter Try.func52, Try.ntmps52
  go_wp2
  go_loopw [3] (fun iv wr => ∃ k : Nat, k ≤ 32 ∧ iv = .int .i64 k ∧ Row wr (w.heap.size + 1) 72 ((List.replicate k (255#8 : By) ++ List.replicate (32 - k) 0).map B8) ∧ Row wr w.heap.size 72 ((List.replicate 32 (0 : By)).map B8) ∧ Below w.heap.size w wr) (fun iv _ => 32 - (intOf iv).toNat)
  case atStart => exact ⟨0, by omega, rfl, Row.at _ _ _ _ _ (by simp) rfl, r0.alloc _, (b0 _).alloc (by simp) _⟩
  case round =>
    clear r0
    obtain ⟨k, hk, rfl, r1, r2, b1⟩ := hrel
    by_cases hlt : k < 32
    · have y0 : (0 : Int) ≤ (k : Int) := by omega
      have y1 : (k : Int) < 32 := by omega
      have hl : (List.replicate k (255#8 : By) ++ List.replicate (32 - k) 0).length = 32 := by simp; omega
      have ck : ∃ v, wr.cell? ⟨w.heap.size + 1, k, none⟩ = some v := ⟨_, r1.cell k _ (List.getElem?_eq_getElem (by rw [List.length_map, hl]; exact hlt))⟩
      obtain ⟨v0, ck⟩ := ck
      have fk := r1.frozen k
      have r3 := r1.set k (.int .u8 255)
      rw [map_set_255, blank_set k hlt] at r3
      have HR : Hid (Row (wr.setCell ⟨w.heap.size + 1, k, none⟩ (.int .u8 255)) (w.heap.size + 1) 72 ((List.replicate (k + 1) (255#8 : By) ++ List.replicate (32 - (k + 1)) 0).map B8)) := r3
      clear r3 hl r1
      have sb := SameBut.setCell (w.heap.size + 1) k (.int .u8 255) wr
      go_wp2
      exact ⟨⟨k + 1, by omega, by go_num, HR.out, r2.but sb (by omega), sb.below b1 (by omega)⟩, by simp [intOf]; omega⟩
    · obtain rfl : k = 32 := by omega
      have y1 : ¬ ((32 : Nat) : Int) < 32 := by omega
      replace r1 : Row wr (w.heap.size + 1) 72 ((List.replicate 32 (255#8 : By)).map B8) := by simpa using r1
      clear hlt hk
      go_wp2_with (first | (refine wpList_load_Row rfl 72 _ rfl _ _ _ r1 rfl _ Try.underlying72 rfl (by kernel_rfl) ?_) | (refine wpList_store_Row rfl 72 _ _ rfl _ _ 0 _ ((List.replicate 32 (255#8 : By)).map B8) r2 (by simp) rfl rfl (by kernel_rfl) (B8_one _) ?_; intro w9 hr9 hs9))
      have hr := row_whole hr9 (by simp)
      exact bodyPost_ret_by (results_Row Try.results52 _ w9 w.heap.size 72 _ _ rfl hr Try.underlying72 rfl (by kernel_rfl)) rfl ⟨rfl, hs9.below b1 (Nat.le_refl _)⟩

/-- What raise leaves, from cell to cell, from byte to byte. -/
def raisen (m : List By) (pg : List (List By)) (c j : Nat) : List (List By) := (erasing true m pg c).set c (mixd (eraseCell true m c (pg.getD c [])) (pg.getD c []) j)
theorem erasing_zero (cut : Bool) (m : List By) (pg : List (List By)) : erasing cut m pg 0 = pg := by simp [erasing]
theorem erasing_end (cut : Bool) (m : List By) (pg : List (List By)) : erasing cut m pg pg.length = erasePage cut m pg := by
  unfold erasing
  rw [List.drop_length, List.append_nil, List.take_of_length_le (by simp [erasePage])]
theorem getD32 {pg : List (List By)} (h8 : ∀ x ∈ pg, x.length = 32) {c : Nat} (hc : c < pg.length) : (pg.getD c []).length = 32 := by
  rw [List.getD_eq_getElem?_getD, List.getElem?_eq_getElem hc]; exact h8 _ (List.getElem_mem hc)
theorem set_getD (l : List (List By)) (c : Nat) (hc : c < l.length) : l.set c (l.getD c []) = l := by
  apply List.ext_getElem?
  intro j
  rw [List.getElem?_set]
  by_cases hj : c = j
  · subst hj; rw [if_pos rfl, if_pos hc, List.getD_eq_getElem?_getD, List.getElem?_eq_getElem hc]; rfl
  · rw [if_neg hj]
theorem raisen_zero (m : List By) (pg : List (List By)) (c : Nat) (hc : c < pg.length) : raisen m pg c 0 = erasing true m pg c := by
  unfold raisen
  rw [mixd_zero]
  have h1 := set_getD (erasing true m pg c) c (by rw [erasing_len _ _ _ _ (by omega)]; exact hc)
  rw [erasing_get true m pg c hc] at h1
  exact h1
theorem raisen_end (m : List By) (pg : List (List By)) (c : Nat) (h8 : ∀ x ∈ pg, x.length = 32) (hc : c < pg.length) : raisen m pg c 32 = erasing true m pg (c + 1) := by
  unfold raisen
  rw [mixd_end _ _ (eraseCell_len _ _ _ _) (getD32 h8 hc), erasing_set true m pg c hc]
theorem erasing_8 (m : List By) (pg : List (List By)) (c : Nat) (h8 : ∀ x ∈ pg, x.length = 32) : ∀ x ∈ erasing true m pg c, x.length = 32 := by
  intro x hx
  unfold erasing at hx
  rcases List.mem_append.1 hx with hx | hx
  · have := List.mem_of_mem_take hx
    unfold erasePage at this
    obtain ⟨i, hi, rfl⟩ := List.mem_mapIdx.1 this
    exact eraseCell_len _ _ _ _
  · exact h8 x (List.mem_of_mem_drop hx)
theorem raisen_8 (m : List By) (pg : List (List By)) (c j : Nat) (h8 : ∀ x ∈ pg, x.length = 32) (hc : c < pg.length) (hj : j ≤ 32) : ∀ x ∈ raisen m pg c j, x.length = 32 := by
  intro x hx
  rcases List.mem_or_eq_of_mem_set hx with hx | rfl
  · exact erasing_8 m pg c h8 x hx
  · have h1 := getD32 h8 hc
    have h2 := eraseCell_len true m c (pg.getD c [])
    unfold mixd
    rw [List.length_append, List.length_take, List.length_drop]; omega
theorem raisen_len (m : List By) (pg : List (List By)) (c j : Nat) (hc : c < pg.length) : (raisen m pg c j).length = pg.length := by
  unfold raisen; rw [List.length_set, erasing_len _ _ _ _ (by omega)]
theorem raisen_at (m : List By) (pg : List (List By)) (c j : Nat) (hc : c < pg.length) : (raisen m pg c j).getD c [] = mixd (eraseCell true m c (pg.getD c [])) (pg.getD c []) j := by
  unfold raisen
  rw [List.getD_eq_getElem?_getD, List.getElem?_set_self (by rw [erasing_len _ _ _ _ (by omega)]; exact hc)]; rfl
theorem raisen_get (m : List By) (pg : List (List By)) (rst : List Value) (c j : Nat) (h8 : ∀ x ∈ pg, x.length = 32) (hc : c < pg.length) (hj : j < 32) : ((raisen m pg c j).flatten.map B8 ++ rst)[c * 32 + j]? = some (B8 ((pg.getD c []).getD j 0)) := by
  have hl := flat_len _ (raisen_8 m pg c j h8 hc (by omega))
  have hrl := raisen_len m pg c j hc
  rw [List.getElem?_append_left (by rw [List.length_map, hl]; omega), List.getElem?_map, Nat.mul_comm, flat_get _ (raisen_8 m pg c j h8 hc (by omega)) c j (by omega) hj, raisen_at m pg c j hc, mixd_get _ _ j (eraseCell_len _ _ _ _) hj]; rfl
theorem raisen_step (m : List By) (pg : List (List By)) (rst : List Value) (c j : Nat) (h8 : ∀ x ∈ pg, x.length = 32) (hc : c < pg.length) (hj : j < 32) : ((raisen m pg c j).flatten.map B8 ++ rst).set (c * 32 + j) (B8 ((pg.getD c []).getD j 0 ||| bitsAt m (32 * c + j))) = (raisen m pg c (j + 1)).flatten.map B8 ++ rst := by
  have h8' := raisen_8 m pg c j h8 hc (by omega)
  have hl := flat_len _ h8'
  have hrl := raisen_len m pg c j hc
  rw [List.set_append_left _ _ (by rw [List.length_map, hl]; omega), ← List.map_set, Nat.mul_comm c 32, flat_set _ h8' c j _ (by omega) hj, raisen_at m pg c j hc]
  have e : eraseByte true (bitsAt m (32 * c + j)) ((pg.getD c []).getD j 0) = (pg.getD c []).getD j 0 ||| bitsAt m (32 * c + j) := rfl
  rw [← e, ← eraseCell_get true m c _ j hj, mixd_set _ _ j (eraseCell_len _ _ _ _) (getD32 h8 hc) hj]
  unfold raisen
  rw [List.set_set]
theorem raise_blank (m : List By) (pg : List (List By)) (c : Nat) (hc : c < pg.length) (hb : pg.getD c [] = List.replicate 32 255#8) : erasing true m pg (c + 1) = erasing true m pg c := by
  rw [← erasing_set true m pg c hc]
  have e : eraseCell true m c (pg.getD c []) = pg.getD c [] := by
    rw [hb]
    unfold eraseCell
    apply List.ext_getElem (by simp)
    intro i h1 h2
    have hi : i < 32 := by simpa using h1
    simp only [List.getElem_map, List.getElem_range, List.getElem_replicate, eraseByte, if_true]
    rw [List.getD_eq_getElem?_getD, List.getElem?_replicate, if_pos hi]
    simp only [Option.getD_some]
    apply BitVec.eq_of_getLsbD_eq
    intro k hk
    have h255 : (255#8 : By) = BitVec.allOnes 8 := by decide
    rw [h255, BitVec.getLsbD_or, BitVec.getLsbD_allOnes]
    simp [hk]
  rw [e]
  have h1 := set_getD (erasing true m pg c) c (by rw [erasing_len _ _ _ _ (by omega)]; exact hc)
  rw [erasing_get true m pg c hc] at h1
  exact h1

structure RaI (w0 : World) (B PL cap c j : Nat) (M : ByteArray) (wb mb nb : By) (L : Nat → Bool) (x22 x23 x24 x25 x26 x27 x28 x29 x30 x31 x32 x33 x34 x35 x36 : Value) (W : World) : Prop where
  wz : L 15 = false → W = w0
  wo : L 15 = true → W = w0.setCell ⟨B, c * 32 + j, none⟩ (.int .u8 (nb.toNat : Int))
  p0 : L 0 = true → x22 = .slice (some ⟨B, 0, none⟩) PL cap
  p1 : L 1 = true → x23 = .int .i64 (c : Int)
  p2 : L 2 = true → x24 = .int .i64 (j : Int)
  p3 : L 3 = true → x25 = .pointer (some ⟨B, c * 32, none⟩)
  p4 : L 4 = true → x26 = .pointer (some ⟨B, c * 32 + j, none⟩)
  p5 : L 5 = true → x27 = .int .u8 ((wb).toNat : Int)
  p6 : L 6 = true → x28 = .string M
  p7 : L 7 = true → x29 = .int .i64 (c : Int)
  p8 : L 8 = true → x30 = .int .i64 ((c : Int) * 32)
  p9 : L 9 = true → x31 = .int .i64 (j : Int)
  p10 : L 10 = true → x32 = .int .i64 ((c : Int) * 32 + (j : Int))
  p11 : L 11 = true → x33 = .int .u8 ((mb).toNat : Int)
  p12 : L 12 = true → x34 = .int .u8 ((nb).toNat : Int)
  p13 : L 13 = true → x35 = .pointer (some ⟨B, c * 32, none⟩)
  p14 : L 14 = true → x36 = .pointer (some ⟨B, c * 32 + j, none⟩)
  l15_12 : L 15 = true → L 12 = true
  l12_5 : L 12 = true → L 5 = true
section
variable {w0 : World} {B PL cap c j : Nat} {M : ByteArray} {wb mb nb : By} {L : Nat → Bool} {x22 x23 x24 x25 x26 x27 x28 x29 x30 x31 x32 x33 x34 x35 x36 : Value} {W : World}
theorem RaI.zero (w0 : World) (B PL cap c j : Nat) (M : ByteArray) (wb mb nb : By) (x22 x23 x24 x25 x26 x27 x28 x29 x30 x31 x32 x33 x34 x35 x36 : Value) : RaI w0 B PL cap c j M wb mb nb (fun _ => false) x22 x23 x24 x25 x26 x27 x28 x29 x30 x31 x32 x33 x34 x35 x36 (w0) := by
  constructor <;> first | exact fun _ => rfl | (intros; contradiction)
theorem RaI.s0 (h : RaI w0 B PL cap c j M wb mb nb L x22 x23 x24 x25 x26 x27 x28 x29 x30 x31 x32 x33 x34 x35 x36 W) : RaI w0 B PL cap c j M wb mb nb (upd L 0) (.slice (some ⟨B, 0, none⟩) PL cap) x23 x24 x25 x26 x27 x28 x29 x30 x31 x32 x33 x34 x35 x36 W :=
  ⟨h.wz, h.wo, fun _ => rfl, h.p1, h.p2, h.p3, h.p4, h.p5, h.p6, h.p7, h.p8, h.p9, h.p10, h.p11, h.p12, h.p13, h.p14, h.l15_12, h.l12_5⟩
theorem RaI.s1 (h : RaI w0 B PL cap c j M wb mb nb L x22 x23 x24 x25 x26 x27 x28 x29 x30 x31 x32 x33 x34 x35 x36 W) : RaI w0 B PL cap c j M wb mb nb (upd L 1) x22 (.int .i64 (c : Int)) x24 x25 x26 x27 x28 x29 x30 x31 x32 x33 x34 x35 x36 W :=
  ⟨h.wz, h.wo, h.p0, fun _ => rfl, h.p2, h.p3, h.p4, h.p5, h.p6, h.p7, h.p8, h.p9, h.p10, h.p11, h.p12, h.p13, h.p14, h.l15_12, h.l12_5⟩
theorem RaI.s2 (h : RaI w0 B PL cap c j M wb mb nb L x22 x23 x24 x25 x26 x27 x28 x29 x30 x31 x32 x33 x34 x35 x36 W) : RaI w0 B PL cap c j M wb mb nb (upd L 2) x22 x23 (.int .i64 (j : Int)) x25 x26 x27 x28 x29 x30 x31 x32 x33 x34 x35 x36 W :=
  ⟨h.wz, h.wo, h.p0, h.p1, fun _ => rfl, h.p3, h.p4, h.p5, h.p6, h.p7, h.p8, h.p9, h.p10, h.p11, h.p12, h.p13, h.p14, h.l15_12, h.l12_5⟩
theorem RaI.s3 (h : RaI w0 B PL cap c j M wb mb nb L x22 x23 x24 x25 x26 x27 x28 x29 x30 x31 x32 x33 x34 x35 x36 W) : RaI w0 B PL cap c j M wb mb nb (upd L 3) x22 x23 x24 (.pointer (some ⟨B, c * 32, none⟩)) x26 x27 x28 x29 x30 x31 x32 x33 x34 x35 x36 W :=
  ⟨h.wz, h.wo, h.p0, h.p1, h.p2, fun _ => rfl, h.p4, h.p5, h.p6, h.p7, h.p8, h.p9, h.p10, h.p11, h.p12, h.p13, h.p14, h.l15_12, h.l12_5⟩
theorem RaI.s4 (h : RaI w0 B PL cap c j M wb mb nb L x22 x23 x24 x25 x26 x27 x28 x29 x30 x31 x32 x33 x34 x35 x36 W) : RaI w0 B PL cap c j M wb mb nb (upd L 4) x22 x23 x24 x25 (.pointer (some ⟨B, c * 32 + j, none⟩)) x27 x28 x29 x30 x31 x32 x33 x34 x35 x36 W :=
  ⟨h.wz, h.wo, h.p0, h.p1, h.p2, h.p3, fun _ => rfl, h.p5, h.p6, h.p7, h.p8, h.p9, h.p10, h.p11, h.p12, h.p13, h.p14, h.l15_12, h.l12_5⟩
theorem RaI.s5 (h : RaI w0 B PL cap c j M wb mb nb L x22 x23 x24 x25 x26 x27 x28 x29 x30 x31 x32 x33 x34 x35 x36 W) : RaI w0 B PL cap c j M wb mb nb (upd L 5) x22 x23 x24 x25 x26 (.int .u8 ((wb).toNat : Int)) x28 x29 x30 x31 x32 x33 x34 x35 x36 W :=
  ⟨h.wz, h.wo, h.p0, h.p1, h.p2, h.p3, h.p4, fun _ => rfl, h.p6, h.p7, h.p8, h.p9, h.p10, h.p11, h.p12, h.p13, h.p14, h.l15_12, fun _ => rfl⟩
theorem RaI.s6 (h : RaI w0 B PL cap c j M wb mb nb L x22 x23 x24 x25 x26 x27 x28 x29 x30 x31 x32 x33 x34 x35 x36 W) : RaI w0 B PL cap c j M wb mb nb (upd L 6) x22 x23 x24 x25 x26 x27 (.string M) x29 x30 x31 x32 x33 x34 x35 x36 W :=
  ⟨h.wz, h.wo, h.p0, h.p1, h.p2, h.p3, h.p4, h.p5, fun _ => rfl, h.p7, h.p8, h.p9, h.p10, h.p11, h.p12, h.p13, h.p14, h.l15_12, h.l12_5⟩
theorem RaI.s7 (h : RaI w0 B PL cap c j M wb mb nb L x22 x23 x24 x25 x26 x27 x28 x29 x30 x31 x32 x33 x34 x35 x36 W) : RaI w0 B PL cap c j M wb mb nb (upd L 7) x22 x23 x24 x25 x26 x27 x28 (.int .i64 (c : Int)) x30 x31 x32 x33 x34 x35 x36 W :=
  ⟨h.wz, h.wo, h.p0, h.p1, h.p2, h.p3, h.p4, h.p5, h.p6, fun _ => rfl, h.p8, h.p9, h.p10, h.p11, h.p12, h.p13, h.p14, h.l15_12, h.l12_5⟩
theorem RaI.s8 (h : RaI w0 B PL cap c j M wb mb nb L x22 x23 x24 x25 x26 x27 x28 x29 x30 x31 x32 x33 x34 x35 x36 W) : RaI w0 B PL cap c j M wb mb nb (upd L 8) x22 x23 x24 x25 x26 x27 x28 x29 (.int .i64 ((c : Int) * 32)) x31 x32 x33 x34 x35 x36 W :=
  ⟨h.wz, h.wo, h.p0, h.p1, h.p2, h.p3, h.p4, h.p5, h.p6, h.p7, fun _ => rfl, h.p9, h.p10, h.p11, h.p12, h.p13, h.p14, h.l15_12, h.l12_5⟩
theorem RaI.s9 (h : RaI w0 B PL cap c j M wb mb nb L x22 x23 x24 x25 x26 x27 x28 x29 x30 x31 x32 x33 x34 x35 x36 W) : RaI w0 B PL cap c j M wb mb nb (upd L 9) x22 x23 x24 x25 x26 x27 x28 x29 x30 (.int .i64 (j : Int)) x32 x33 x34 x35 x36 W :=
  ⟨h.wz, h.wo, h.p0, h.p1, h.p2, h.p3, h.p4, h.p5, h.p6, h.p7, h.p8, fun _ => rfl, h.p10, h.p11, h.p12, h.p13, h.p14, h.l15_12, h.l12_5⟩
theorem RaI.s10 (h : RaI w0 B PL cap c j M wb mb nb L x22 x23 x24 x25 x26 x27 x28 x29 x30 x31 x32 x33 x34 x35 x36 W) : RaI w0 B PL cap c j M wb mb nb (upd L 10) x22 x23 x24 x25 x26 x27 x28 x29 x30 x31 (.int .i64 ((c : Int) * 32 + (j : Int))) x33 x34 x35 x36 W :=
  ⟨h.wz, h.wo, h.p0, h.p1, h.p2, h.p3, h.p4, h.p5, h.p6, h.p7, h.p8, h.p9, fun _ => rfl, h.p11, h.p12, h.p13, h.p14, h.l15_12, h.l12_5⟩
theorem RaI.s11 (h : RaI w0 B PL cap c j M wb mb nb L x22 x23 x24 x25 x26 x27 x28 x29 x30 x31 x32 x33 x34 x35 x36 W) : RaI w0 B PL cap c j M wb mb nb (upd L 11) x22 x23 x24 x25 x26 x27 x28 x29 x30 x31 x32 (.int .u8 ((mb).toNat : Int)) x34 x35 x36 W :=
  ⟨h.wz, h.wo, h.p0, h.p1, h.p2, h.p3, h.p4, h.p5, h.p6, h.p7, h.p8, h.p9, h.p10, fun _ => rfl, h.p12, h.p13, h.p14, h.l15_12, h.l12_5⟩
theorem RaI.s12 (h : RaI w0 B PL cap c j M wb mb nb L x22 x23 x24 x25 x26 x27 x28 x29 x30 x31 x32 x33 x34 x35 x36 W) (h5 : L 5 = true) : RaI w0 B PL cap c j M wb mb nb (upd L 12) x22 x23 x24 x25 x26 x27 x28 x29 x30 x31 x32 x33 (.int .u8 ((nb).toNat : Int)) x35 x36 W :=
  ⟨h.wz, h.wo, h.p0, h.p1, h.p2, h.p3, h.p4, h.p5, h.p6, h.p7, h.p8, h.p9, h.p10, h.p11, fun _ => rfl, h.p13, h.p14, fun _ => rfl, fun _ => h5⟩
theorem RaI.s13 (h : RaI w0 B PL cap c j M wb mb nb L x22 x23 x24 x25 x26 x27 x28 x29 x30 x31 x32 x33 x34 x35 x36 W) : RaI w0 B PL cap c j M wb mb nb (upd L 13) x22 x23 x24 x25 x26 x27 x28 x29 x30 x31 x32 x33 x34 (.pointer (some ⟨B, c * 32, none⟩)) x36 W :=
  ⟨h.wz, h.wo, h.p0, h.p1, h.p2, h.p3, h.p4, h.p5, h.p6, h.p7, h.p8, h.p9, h.p10, h.p11, h.p12, fun _ => rfl, h.p14, h.l15_12, h.l12_5⟩
theorem RaI.s14 (h : RaI w0 B PL cap c j M wb mb nb L x22 x23 x24 x25 x26 x27 x28 x29 x30 x31 x32 x33 x34 x35 x36 W) : RaI w0 B PL cap c j M wb mb nb (upd L 14) x22 x23 x24 x25 x26 x27 x28 x29 x30 x31 x32 x33 x34 x35 (.pointer (some ⟨B, c * 32 + j, none⟩)) W :=
  ⟨h.wz, h.wo, h.p0, h.p1, h.p2, h.p3, h.p4, h.p5, h.p6, h.p7, h.p8, h.p9, h.p10, h.p11, h.p12, h.p13, fun _ => rfl, h.l15_12, h.l12_5⟩
theorem RaI.s15 (h : RaI w0 B PL cap c j M wb mb nb L x22 x23 x24 x25 x26 x27 x28 x29 x30 x31 x32 x33 x34 x35 x36 W) (h12 : L 12 = true) : RaI w0 B PL cap c j M wb mb nb (upd L 15) x22 x23 x24 x25 x26 x27 x28 x29 x30 x31 x32 x33 x34 x35 x36 (w0.setCell ⟨B, c * 32 + j, none⟩ (.int .u8 (nb.toNat : Int))) :=
  ⟨fun k => (by cases k), fun _ => rfl, h.p0, h.p1, h.p2, h.p3, h.p4, h.p5, h.p6, h.p7, h.p8, h.p9, h.p10, h.p11, h.p12, h.p13, h.p14, fun _ => h12, h.l12_5⟩
theorem RaI.w5 (h : RaI w0 B PL cap c j M wb mb nb L x22 x23 x24 x25 x26 x27 x28 x29 x30 x31 x32 x33 x34 x35 x36 W) (hL : L 5 = false) : W = w0 := h.wz (by cases k : L 15 with | false => rfl | true => exact absurd (h.l12_5 (h.l15_12 (k))) (by rw [hL]; decide))
end
@[reducible] def IRaI (w0 : World) (B PL cap c j : Nat) (M : ByteArray) (wb mb nb : By) (y0 y1 y2 y3 y4 y5 y6 y7 y8 y9 y10 y11 y12 y13 y14 y15 y16 y17 y18 y19 y20 y21 y37 y38 : Value) : (Nat → Bool) → Act → World → Prop := fun L a W => ∃ x22 x23 x24 x25 x26 x27 x28 x29 x30 x31 x32 x33 x34 x35 x36, a = ⟨#[y0, y1, y2, y3, y4, y5, y6, y7, y8, y9, y10, y11, y12, y13, y14, y15, y16, y17, y18, y19, y20, y21, x22, x23, x24, x25, x26, x27, x28, x29, x30, x31, x32, x33, x34, x35, x36, y37, y38], []⟩ ∧ RaI w0 B PL cap c j M wb mb nb L x22 x23 x24 x25 x26 x27 x28 x29 x30 x31 x32 x33 x34 x35 x36 W

end Go.Proofs.Ytngfdofjflmhhaa


/-! The code's chip: Erase, Config. -/
namespace Go.Proofs.Ytngfdofjflmhhaa
open Go.RowKit

theorem raise_page (s : RS) (m : List By) (pg : List (List By)) (hl : (pg.length : Int) = s.c.cells) (hm : ∀ i : Nat, (i : Int) < 32 * s.c.cells → bitsAt m i = if s.cut then bitsAt s.mask i else 255#8) : erasePage true m pg = erasePage s.cut s.mask pg := by
  unfold erasePage
  apply List.ext_getElem (by simp)
  intro c h1 h2
  have hc : c < pg.length := by simpa using h1
  rw [List.getElem_mapIdx, List.getElem_mapIdx]
  unfold eraseCell
  apply List.map_congr_left
  intro i hi
  rw [List.mem_range] at hi
  rw [hm (32 * c + i) (by omega)]
  unfold eraseByte
  by_cases hb : s.cut = true
  · simp only [hb, if_true]
  · simp only [hb, Bool.false_eq_true, if_false, if_true]
    apply BitVec.eq_of_getLsbD_eq
    intro k hk
    have h255 : (255#8 : By) = BitVec.allOnes 8 := by decide
    rw [h255, BitVec.getLsbD_or, BitVec.getLsbD_allOnes]
    simp [hk]

end Go.Proofs.Ytngfdofjflmhhaa


/-! make and copy: rows of one value; a copy over a whole row. -/
namespace Go.Proofs.Ytngfdofjflmhhaa
open Go.RowKit

theorem made_same (z : Array Value) (v : Value) (n : Nat) (hz : 0 < z.size) (hv : ∀ i, (h : i < z.size) → z[i] = v) : madeCells z n = (List.replicate n v).toArray := by
  unfold madeCells
  apply Array.ext
  · simp
  · intro i h1 h2
    have hm : i % z.size < z.size := Nat.mod_lt _ hz
    simp only [Array.getElem_map, Array.getElem_range, List.getElem_toArray, List.getElem_replicate]
    rw [getElem!_pos z (i % z.size) hm]
    exact hv _ hm

/-- A slice type whose elements' zero is one value in all its cells. -/
structure ElZ (T e size bytes : Nat) (v : Value) : Prop where
  und : Try.prog.underlying T = some (.slice e)
  info : ∃ z, (Try.prog.info? e).map (fun i => (i.zero, i.size, i.bytes)) = some (some z, size, bytes) ∧ 0 < z.cells.size ∧ ∀ i, (h : i < z.cells.size) → z.cells[i] = v

theorem elz_ints : ElZ 25 3 1 8 (.int .i64 0) := ⟨Try.underlying25, _, el_ints.info, by simp [Value.cells], fun i h => by simp [Value.cells] at h ⊢⟩
theorem elz_bools : ElZ 26 4 1 1 (.bool false) := ⟨Try.underlying26, _, el_bools.info, by simp [Value.cells], fun i h => by simp [Value.cells] at h ⊢⟩
theorem elz_pages : ElZ 24 70 1 24 (.slice none 0 0) := ⟨Try.underlying24, _, el_pages.info, by simp [Value.cells], fun i h => by simp [Value.cells] at h ⊢⟩
theorem elz_cells : ElZ 70 72 32 32 (.int .u8 0) := ⟨Try.underlying70, _, el_cells.info, by simp [Value.cells], fun i h => by
  simp only [Value.cells, List.map_replicate, List.getElem_toArray, List.getElem_replicate]; rfl⟩

theorem run_make_same {T e size bytes : Nat} {v : Value} (E : ElZ T e size bytes v) (n : Nat) (hb : bytes * n ≤ 281474976710656) (h63 : n ≤ 9223372036854775807) (w : World) :
    (Instr.makeSlice T (.int .i64 (n : Int)) (.int .i64 (n : Int))).run Try.prog w = .ok (.slice (some ⟨w.heap.size, 0, none⟩) n n) (w.alloc (.cells (List.replicate (n * size) v).toArray e)) := by
  obtain ⟨z, hi0, hz0, hzv⟩ := E.info
  obtain ⟨i0, hi, hz1, hz2, hz3⟩ := info_parts hi0
  have hb' : (i0.bytes : Int) * (n : Int) ≤ 281474976710656 := by
    have h1 : ((bytes * n : Nat) : Int) ≤ 281474976710656 := by omega
    rw [hz3]
    rwa [Int.natCast_mul] at h1
  have hr := run_make (P := Try.prog) w T e i0 z E.und hi hz1 .i64 .i64 (n : Int) (n : Int) (by omega) (Int.le_refl _) hb' (by omega)
  rw [hz2, Int.toNat_natCast, made_same z.cells v _ hz0 hzv] at hr
  exact hr

theorem step_make {T e size bytes : Nat} {v : Value} (E : ElZ T e size bytes v) {ops : Array Oper} {o : Oper} {a : Act} {w : World} {K : Act → World → Prop} {Q : Exit → Act → World → Prop} {X : Prop} (hgd : o.guard = none) (x : Operand) (ho : o.op = .makeSlice T x x)
    (n : Nat) (hx : a.eval x = .int .i64 (n : Int)) (hb : bytes * n ≤ 281474976710656) (h63 : n ≤ 9223372036854775807)
    (h : K (a.put o.dst (.slice (some ⟨w.heap.size, 0, none⟩) n n)) (w.alloc (.cells (List.replicate (n * size) v).toArray e))) : if Region.wanted o (yielded ops a.tmps) = true then Oper.wp Try.prog o a w K Q else X := by
  have hw : Region.wanted o (yielded ops a.tmps) = true := by simp [Region.wanted, hgd]
  rw [if_pos hw]
  unfold Oper.wp execOp
  simp only [ho, hx, run_make_same E n hb h63 w, Sem.run_bind, Result.andThen_ok, Sem.run_pure]
  exact h

theorem run_copy_whole (w : World) (dT sT ty elem size : Nat) (hu : Try.prog.underlying dT = some (.slice elem)) (hs : (Try.prog.info? elem).map (·.size) = some size) (hpos : 0 < size) (g n dCap : Nat) (sp : Option Addr) (sCap : Nat) (old cs : List Value) (t : Nat)
    (hr : Row w g t old) (hl : old.length = cs.length) (hcs : cs.length = n * size) (hsrc : IsL w sp cs) (h1 : ∀ v ∈ cs, v.oneCell' = true) :
    ∃ w', (Builtin.copy_ #[dT, sT] ty #[.slice (some ⟨g, 0, none⟩) n dCap, .slice sp n sCap]).run Try.prog w = .ok (goInt n) w' ∧ Row w' g t cs ∧ SameBut g w w' := by
  cases hq : Try.prog.info? elem with
  | none => simp [hq] at hs
  | some i =>
    have hi : i.size = size := by simpa [hq] using hs
    have key : ∀ a : Addr, (∀ j v, cs[j]? = some v → w.cell? (a.add j) = some v) → ∃ w', (Builtin.copy_ #[dT, sT] ty #[.slice (some ⟨g, 0, none⟩) n dCap, .slice (some a) n sCap]).run Try.prog w = .ok (goInt n) w' ∧ Row w' g t cs ∧ SameBut g w w' := by
      intro a hsrc
      have hld := run_loadCells_list (P := Try.prog) w a cs hsrc
      have hst := run_storeCells_at Try.prog g 0 t cs 0 old.toArray w hr (by simp [hl]) h1
      have e : ((old.toArray.toList.take (0 + 0)) ++ cs ++ old.toArray.toList.drop (0 + 0 + cs.length)).toArray = cs.toArray := by
        have : old.drop cs.length = [] := List.drop_eq_nil_of_le (by omega)
        simp [this]
      rw [e] at hst
      refine ⟨w.setRow g cs.toArray, ?_, setRow_heap w g old.toArray cs.toArray t (0, 0) hr, ⟨rfl, rfl, rfl, by simp [World.setRow], fun k hk => setRow_other w g k _ hk⟩⟩
      simp [Builtin.copy_, run_underlying hu, Builtin.lenOf, Builtin.firstCells, sizeOf, typeInfo, hq, hi, ← hcs, hld, hst]
    rcases hsrc with h0 | ⟨B, off, rfl, hc⟩
    · subst h0
      have hn0 : n = 0 := by
        have : n * size = 0 := by rw [← hcs]; rfl
        rcases Nat.mul_eq_zero.1 this with h | h
        · exact h
        · omega
      cases sp with
      | some a => exact key a (by simp)
      | none =>
        subst hn0
        have ho : old = [] := List.eq_nil_of_length_eq_zero hl
        refine ⟨w, ?_, by rw [← ho]; exact hr, SameBut.refl _ _⟩
        simp [Builtin.copy_, run_underlying hu, Builtin.lenOf, Builtin.firstCells, sizeOf, typeInfo, hq, storeCells]
    · exact key _ (fun j v hj => by rw [Addr.add_mid]; exact hc j v hj)

theorem wpList_copy_whole {ops : Array Oper} {rest : List Oper} {o : Oper} {a : Act} {w : World} {Q : Exit → Act → World → Prop} (hgd : o.guard = none) (d s : Operand) (dT sT elem size : Nat)
    (ho : o.op = .call { callee := .builtin .copy, args := #[d, s], argTypes := #[dT, sT] }) (hu : Try.prog.underlying dT = some (.slice elem)) (hs : (Try.prog.info? elem).map (·.size) = some size) (hpos : 0 < size)
    (g n dCap : Nat) (sp : Option Addr) (sCap : Nat) (hd : a.eval d = .slice (some ⟨g, 0, none⟩) n dCap) (hsv : a.eval s = .slice sp n sCap) (old cs : List Value) (t : Nat)
    (hr : Row w g t old) (hl : old.length = cs.length) (hcs : cs.length = n * size) (hsrc : IsL w sp cs) (h1 : ∀ v ∈ cs, v.oneCell' = true)
    (h : ∀ w', Row w' g t cs → SameBut g w w' → wpList Try.prog ops Q rest (a.put o.dst (goInt n)) w') : wpList Try.prog ops Q (o :: rest) a w := by
  refine wpList_plain hgd fun K hK => ?_
  obtain ⟨w', hrun, h2, h3⟩ := run_copy_whole w dT sT o.type elem size hu hs hpos g n dCap sp sCap old cs t hr hl hcs hsrc h1
  unfold Oper.wp
  simp [execOp, ho, resolve, invoke, builtin, hd, hsv, hrun, Result.andThen]
  exact hK _ _ (h w' h2 h3)
end Go.Proofs.Ytngfdofjflmhhaa
