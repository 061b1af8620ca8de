
import Derived.Test.YtcpdanjbnijoiaaGreatDoorC4Blow
/-! The code's chip: blank, raise. (Printed by tools/genraise.py.) -/
namespace Go.Proofs.YtcpdanjbnijoiaaGreatDoor
open Go.RowKit

set_option maxHeartbeats 1000000 in
set_option maxRecDepth 100000 in
theorem cblank_any (w : World) : Calls Tryz.prog 55 #[] w fun e w' => e = .returned (.agg ((List.replicate 32 (255#8 : By)).map B8).toArray) ∧ Below w.heap.size w w' := by
  have r0 := Row.at w 55 ((List.replicate 32 (0 : By)).map B8) _ _ rfl rfl
  have b0 : ∀ o1, Below w.heap.size w (w.alloc o1) := fun o1 => (Below.refl _ _).alloc (Nat.le_refl _) _
  go_enter Tryz.func55, Tryz.ntmps55
  go_wp2
  go_loopw [3] (fun iv wr => ∃ k : Nat, k ≤ 32 ∧ iv = .int .i64 k ∧ Row wr (w.heap.size + 1) 55 ((List.replicate k (255#8 : By) ++ List.replicate (32 - k) 0).map B8) ∧ Row wr w.heap.size 55 ((List.replicate 32 (0 : By)).map B8) ∧ Below w.heap.size w wr) (fun iv _ => 32 - (intOf iv).toNat)
  case atStart => exact ⟨0, by omega, rfl, Row.at _ _ _ _ _ (by simp) rfl, r0.alloc _, (b0 _).alloc (by simp) _⟩
  case round =>
    clear r0
    obtain ⟨k, hk, rfl, r1, r2, b1⟩ := hrel
    by_cases hlt : k < 32
    · have y0 : (0 : Int) ≤ (k : Int) := by omega
      have y1 : (k : Int) < 32 := by omega
      have hl : (List.replicate k (255#8 : By) ++ List.replicate (32 - k) 0).length = 32 := by simp; omega
      have ck : ∃ v, wr.cell? ⟨w.heap.size + 1, k, none⟩ = some v := ⟨_, r1.cell k _ (List.getElem?_eq_getElem (by rw [List.length_map, hl]; exact hlt))⟩
      obtain ⟨v0, ck⟩ := ck
      have fk := r1.frozen k
      have r3 := r1.set k (.int .u8 255)
      rw [map_set_255, blank_set k hlt] at r3
      have HR : Hid (Row (wr.setCell ⟨w.heap.size + 1, k, none⟩ (.int .u8 255)) (w.heap.size + 1) 55 ((List.replicate (k + 1) (255#8 : By) ++ List.replicate (32 - (k + 1)) 0).map B8)) := r3
      clear r3 hl r1
      have sb := SameBut.setCell (w.heap.size + 1) k (.int .u8 255) wr
      go_wp2
      exact ⟨⟨k + 1, by omega, by go_num, HR.out, r2.but sb (by omega), sb.below b1 (by omega)⟩, by simp [intOf]; omega⟩
    · obtain rfl : k = 32 := by omega
      have y1 : ¬ ((32 : Nat) : Int) < 32 := by omega
      replace r1 : Row wr (w.heap.size + 1) 55 ((List.replicate 32 (255#8 : By)).map B8) := by simpa using r1
      clear hlt hk
      go_wp2_with (first | (refine wpList_load_Row rfl 55 _ rfl _ _ _ r1 rfl _ Tryz.underlying55 rfl (by kernel_rfl) ?_) | (refine wpList_store_Row rfl 55 _ _ rfl _ _ 0 _ ((List.replicate 32 (255#8 : By)).map B8) r2 (by simp) rfl rfl (by kernel_rfl) (B8_one _) ?_; intro w9 hr9 hs9))
      have hr := row_whole hr9 (by simp)
      exact bodyPost_ret_by (results_Row Tryz.results55 _ w9 w.heap.size 55 _ _ rfl hr Tryz.underlying55 rfl (by kernel_rfl)) rfl ⟨rfl, hs9.below b1 (Nat.le_refl _)⟩

/-- What raise leaves, from cell to cell, from byte to byte. -/
def raisen (m : List By) (pg : List (List By)) (c j : Nat) : List (List By) := (erasing true m pg c).set c (mixd (eraseCell true m c (pg.getD c [])) (pg.getD c []) j)
theorem erasing_zero (cut : Bool) (m : List By) (pg : List (List By)) : erasing cut m pg 0 = pg := by simp [erasing]
theorem erasing_end (cut : Bool) (m : List By) (pg : List (List By)) : erasing cut m pg pg.length = erasePage cut m pg := by
  unfold erasing
  rw [List.drop_length, List.append_nil, List.take_of_length_le (by simp [erasePage])]
theorem getD32 {pg : List (List By)} (h8 : ∀ x ∈ pg, x.length = 32) {c : Nat} (hc : c < pg.length) : (pg.getD c []).length = 32 := by
  rw [List.getD_eq_getElem?_getD, List.getElem?_eq_getElem hc]; exact h8 _ (List.getElem_mem hc)
theorem set_getD (l : List (List By)) (c : Nat) (hc : c < l.length) : l.set c (l.getD c []) = l := by
  apply List.ext_getElem?
  intro j
  rw [List.getElem?_set]
  by_cases hj : c = j
  · subst hj; rw [if_pos rfl, if_pos hc, List.getD_eq_getElem?_getD, List.getElem?_eq_getElem hc]; rfl
  · rw [if_neg hj]
theorem raisen_zero (m : List By) (pg : List (List By)) (c : Nat) (hc : c < pg.length) : raisen m pg c 0 = erasing true m pg c := by
  unfold raisen
  rw [mixd_zero]
  have h1 := set_getD (erasing true m pg c) c (by rw [erasing_len _ _ _ _ (by omega)]; exact hc)
  rw [erasing_get true m pg c hc] at h1
  exact h1
theorem raisen_end (m : List By) (pg : List (List By)) (c : Nat) (h8 : ∀ x ∈ pg, x.length = 32) (hc : c < pg.length) : raisen m pg c 32 = erasing true m pg (c + 1) := by
  unfold raisen
  rw [mixd_end _ _ (eraseCell_len _ _ _ _) (getD32 h8 hc), erasing_set true m pg c hc]
theorem erasing_8 (m : List By) (pg : List (List By)) (c : Nat) (h8 : ∀ x ∈ pg, x.length = 32) : ∀ x ∈ erasing true m pg c, x.length = 32 := by
  intro x hx
  unfold erasing at hx
  rcases List.mem_append.1 hx with hx | hx
  · have := List.mem_of_mem_take hx
    unfold erasePage at this
    obtain ⟨i, hi, rfl⟩ := List.mem_mapIdx.1 this
    exact eraseCell_len _ _ _ _
  · exact h8 x (List.mem_of_mem_drop hx)
theorem raisen_8 (m : List By) (pg : List (List By)) (c j : Nat) (h8 : ∀ x ∈ pg, x.length = 32) (hc : c < pg.length) (hj : j ≤ 32) : ∀ x ∈ raisen m pg c j, x.length = 32 := by
  intro x hx
  rcases List.mem_or_eq_of_mem_set hx with hx | rfl
  · exact erasing_8 m pg c h8 x hx
  · have h1 := getD32 h8 hc
    have h2 := eraseCell_len true m c (pg.getD c [])
    unfold mixd
    rw [List.length_append, List.length_take, List.length_drop]; omega
theorem raisen_len (m : List By) (pg : List (List By)) (c j : Nat) (hc : c < pg.length) : (raisen m pg c j).length = pg.length := by
  unfold raisen; rw [List.length_set, erasing_len _ _ _ _ (by omega)]
theorem raisen_at (m : List By) (pg : List (List By)) (c j : Nat) (hc : c < pg.length) : (raisen m pg c j).getD c [] = mixd (eraseCell true m c (pg.getD c [])) (pg.getD c []) j := by
  unfold raisen
  rw [List.getD_eq_getElem?_getD, List.getElem?_set_self (by rw [erasing_len _ _ _ _ (by omega)]; exact hc)]; rfl
theorem raisen_get (m : List By) (pg : List (List By)) (rst : List Value) (c j : Nat) (h8 : ∀ x ∈ pg, x.length = 32) (hc : c < pg.length) (hj : j < 32) : ((raisen m pg c j).flatten.map B8 ++ rst)[c * 32 + j]? = some (B8 ((pg.getD c []).getD j 0)) := by
  have hl := flat_len _ (raisen_8 m pg c j h8 hc (by omega))
  have hrl := raisen_len m pg c j hc
  rw [List.getElem?_append_left (by rw [List.length_map, hl]; omega), List.getElem?_map, Nat.mul_comm, flat_get _ (raisen_8 m pg c j h8 hc (by omega)) c j (by omega) hj, raisen_at m pg c j hc, mixd_get _ _ j (eraseCell_len _ _ _ _) hj]; rfl
theorem raisen_step (m : List By) (pg : List (List By)) (rst : List Value) (c j : Nat) (h8 : ∀ x ∈ pg, x.length = 32) (hc : c < pg.length) (hj : j < 32) : ((raisen m pg c j).flatten.map B8 ++ rst).set (c * 32 + j) (B8 ((pg.getD c []).getD j 0 ||| bitsAt m (32 * c + j))) = (raisen m pg c (j + 1)).flatten.map B8 ++ rst := by
  have h8' := raisen_8 m pg c j h8 hc (by omega)
  have hl := flat_len _ h8'
  have hrl := raisen_len m pg c j hc
  rw [List.set_append_left _ _ (by rw [List.length_map, hl]; omega), ← List.map_set, Nat.mul_comm c 32, flat_set _ h8' c j _ (by omega) hj, raisen_at m pg c j hc]
  have e : eraseByte true (bitsAt m (32 * c + j)) ((pg.getD c []).getD j 0) = (pg.getD c []).getD j 0 ||| bitsAt m (32 * c + j) := rfl
  rw [← e, ← eraseCell_get true m c _ j hj, mixd_set _ _ j (eraseCell_len _ _ _ _) (getD32 h8 hc) hj]
  unfold raisen
  rw [List.set_set]
theorem raise_blank (m : List By) (pg : List (List By)) (c : Nat) (hc : c < pg.length) (hb : pg.getD c [] = List.replicate 32 255#8) : erasing true m pg (c + 1) = erasing true m pg c := by
  rw [← erasing_set true m pg c hc]
  have e : eraseCell true m c (pg.getD c []) = pg.getD c [] := by
    rw [hb]
    unfold eraseCell
    apply List.ext_getElem (by simp)
    intro i h1 h2
    have hi : i < 32 := by simpa using h1
    simp only [List.getElem_map, List.getElem_range, List.getElem_replicate, eraseByte, if_true]
    rw [List.getD_eq_getElem?_getD, List.getElem?_replicate, if_pos hi]
    simp only [Option.getD_some]
    apply BitVec.eq_of_getLsbD_eq
    intro k hk
    have h255 : (255#8 : By) = BitVec.allOnes 8 := by decide
    rw [h255, BitVec.getLsbD_or, BitVec.getLsbD_allOnes]
    simp [hk]
  rw [e]
  have h1 := set_getD (erasing true m pg c) c (by rw [erasing_len _ _ _ _ (by omega)]; exact hc)
  rw [erasing_get true m pg c hc] at h1
  exact h1

structure RaI (w0 : World) (B PL cap c j : Nat) (M : ByteArray) (wb mb nb : By) (L : Nat → Bool) (x22 x23 x24 x25 x26 x27 x28 x29 x30 x31 x32 x33 x34 x35 x36 : Value) (W : World) : Prop where
  wz : L 15 = false → W = w0
  wo : L 15 = true → W = w0.setCell ⟨B, c * 32 + j, none⟩ (.int .u8 (nb.toNat : Int))
  p0 : L 0 = true → x22 = .slice (some ⟨B, 0, none⟩) PL cap
  p1 : L 1 = true → x23 = .int .i64 (c : Int)
  p2 : L 2 = true → x24 = .int .i64 (j : Int)
  p3 : L 3 = true → x25 = .pointer (some ⟨B, c * 32, none⟩)
  p4 : L 4 = true → x26 = .pointer (some ⟨B, c * 32 + j, none⟩)
  p5 : L 5 = true → x27 = .int .u8 ((wb).toNat : Int)
  p6 : L 6 = true → x28 = .string M
  p7 : L 7 = true → x29 = .int .i64 (c : Int)
  p8 : L 8 = true → x30 = .int .i64 ((c : Int) * 32)
  p9 : L 9 = true → x31 = .int .i64 (j : Int)
  p10 : L 10 = true → x32 = .int .i64 ((c : Int) * 32 + (j : Int))
  p11 : L 11 = true → x33 = .int .u8 ((mb).toNat : Int)
  p12 : L 12 = true → x34 = .int .u8 ((nb).toNat : Int)
  p13 : L 13 = true → x35 = .pointer (some ⟨B, c * 32, none⟩)
  p14 : L 14 = true → x36 = .pointer (some ⟨B, c * 32 + j, none⟩)
  l15_12 : L 15 = true → L 12 = true
  l12_5 : L 12 = true → L 5 = true
section
variable {w0 : World} {B PL cap c j : Nat} {M : ByteArray} {wb mb nb : By} {L : Nat → Bool} {x22 x23 x24 x25 x26 x27 x28 x29 x30 x31 x32 x33 x34 x35 x36 : Value} {W : World}
theorem RaI.zero (w0 : World) (B PL cap c j : Nat) (M : ByteArray) (wb mb nb : By) (x22 x23 x24 x25 x26 x27 x28 x29 x30 x31 x32 x33 x34 x35 x36 : Value) : RaI w0 B PL cap c j M wb mb nb (fun _ => false) x22 x23 x24 x25 x26 x27 x28 x29 x30 x31 x32 x33 x34 x35 x36 (w0) := by
  constructor <;> first | exact fun _ => rfl | (intros; contradiction)
theorem RaI.s0 (h : RaI w0 B PL cap c j M wb mb nb L x22 x23 x24 x25 x26 x27 x28 x29 x30 x31 x32 x33 x34 x35 x36 W) : RaI w0 B PL cap c j M wb mb nb (upd L 0) (.slice (some ⟨B, 0, none⟩) PL cap) x23 x24 x25 x26 x27 x28 x29 x30 x31 x32 x33 x34 x35 x36 W :=
  ⟨h.wz, h.wo, fun _ => rfl, h.p1, h.p2, h.p3, h.p4, h.p5, h.p6, h.p7, h.p8, h.p9, h.p10, h.p11, h.p12, h.p13, h.p14, h.l15_12, h.l12_5⟩
theorem RaI.s1 (h : RaI w0 B PL cap c j M wb mb nb L x22 x23 x24 x25 x26 x27 x28 x29 x30 x31 x32 x33 x34 x35 x36 W) : RaI w0 B PL cap c j M wb mb nb (upd L 1) x22 (.int .i64 (c : Int)) x24 x25 x26 x27 x28 x29 x30 x31 x32 x33 x34 x35 x36 W :=
  ⟨h.wz, h.wo, h.p0, fun _ => rfl, h.p2, h.p3, h.p4, h.p5, h.p6, h.p7, h.p8, h.p9, h.p10, h.p11, h.p12, h.p13, h.p14, h.l15_12, h.l12_5⟩
theorem RaI.s2 (h : RaI w0 B PL cap c j M wb mb nb L x22 x23 x24 x25 x26 x27 x28 x29 x30 x31 x32 x33 x34 x35 x36 W) : RaI w0 B PL cap c j M wb mb nb (upd L 2) x22 x23 (.int .i64 (j : Int)) x25 x26 x27 x28 x29 x30 x31 x32 x33 x34 x35 x36 W :=
  ⟨h.wz, h.wo, h.p0, h.p1, fun _ => rfl, h.p3, h.p4, h.p5, h.p6, h.p7, h.p8, h.p9, h.p10, h.p11, h.p12, h.p13, h.p14, h.l15_12, h.l12_5⟩
theorem RaI.s3 (h : RaI w0 B PL cap c j M wb mb nb L x22 x23 x24 x25 x26 x27 x28 x29 x30 x31 x32 x33 x34 x35 x36 W) : RaI w0 B PL cap c j M wb mb nb (upd L 3) x22 x23 x24 (.pointer (some ⟨B, c * 32, none⟩)) x26 x27 x28 x29 x30 x31 x32 x33 x34 x35 x36 W :=
  ⟨h.wz, h.wo, h.p0, h.p1, h.p2, fun _ => rfl, h.p4, h.p5, h.p6, h.p7, h.p8, h.p9, h.p10, h.p11, h.p12, h.p13, h.p14, h.l15_12, h.l12_5⟩
theorem RaI.s4 (h : RaI w0 B PL cap c j M wb mb nb L x22 x23 x24 x25 x26 x27 x28 x29 x30 x31 x32 x33 x34 x35 x36 W) : RaI w0 B PL cap c j M wb mb nb (upd L 4) x22 x23 x24 x25 (.pointer (some ⟨B, c * 32 + j, none⟩)) x27 x28 x29 x30 x31 x32 x33 x34 x35 x36 W :=
  ⟨h.wz, h.wo, h.p0, h.p1, h.p2, h.p3, fun _ => rfl, h.p5, h.p6, h.p7, h.p8, h.p9, h.p10, h.p11, h.p12, h.p13, h.p14, h.l15_12, h.l12_5⟩
theorem RaI.s5 (h : RaI w0 B PL cap c j M wb mb nb L x22 x23 x24 x25 x26 x27 x28 x29 x30 x31 x32 x33 x34 x35 x36 W) : RaI w0 B PL cap c j M wb mb nb (upd L 5) x22 x23 x24 x25 x26 (.int .u8 ((wb).toNat : Int)) x28 x29 x30 x31 x32 x33 x34 x35 x36 W :=
  ⟨h.wz, h.wo, h.p0, h.p1, h.p2, h.p3, h.p4, fun _ => rfl, h.p6, h.p7, h.p8, h.p9, h.p10, h.p11, h.p12, h.p13, h.p14, h.l15_12, fun _ => rfl⟩
theorem RaI.s6 (h : RaI w0 B PL cap c j M wb mb nb L x22 x23 x24 x25 x26 x27 x28 x29 x30 x31 x32 x33 x34 x35 x36 W) : RaI w0 B PL cap c j M wb mb nb (upd L 6) x22 x23 x24 x25 x26 x27 (.string M) x29 x30 x31 x32 x33 x34 x35 x36 W :=
  ⟨h.wz, h.wo, h.p0, h.p1, h.p2, h.p3, h.p4, h.p5, fun _ => rfl, h.p7, h.p8, h.p9, h.p10, h.p11, h.p12, h.p13, h.p14, h.l15_12, h.l12_5⟩
theorem RaI.s7 (h : RaI w0 B PL cap c j M wb mb nb L x22 x23 x24 x25 x26 x27 x28 x29 x30 x31 x32 x33 x34 x35 x36 W) : RaI w0 B PL cap c j M wb mb nb (upd L 7) x22 x23 x24 x25 x26 x27 x28 (.int .i64 (c : Int)) x30 x31 x32 x33 x34 x35 x36 W :=
  ⟨h.wz, h.wo, h.p0, h.p1, h.p2, h.p3, h.p4, h.p5, h.p6, fun _ => rfl, h.p8, h.p9, h.p10, h.p11, h.p12, h.p13, h.p14, h.l15_12, h.l12_5⟩
theorem RaI.s8 (h : RaI w0 B PL cap c j M wb mb nb L x22 x23 x24 x25 x26 x27 x28 x29 x30 x31 x32 x33 x34 x35 x36 W) : RaI w0 B PL cap c j M wb mb nb (upd L 8) x22 x23 x24 x25 x26 x27 x28 x29 (.int .i64 ((c : Int) * 32)) x31 x32 x33 x34 x35 x36 W :=
  ⟨h.wz, h.wo, h.p0, h.p1, h.p2, h.p3, h.p4, h.p5, h.p6, h.p7, fun _ => rfl, h.p9, h.p10, h.p11, h.p12, h.p13, h.p14, h.l15_12, h.l12_5⟩
theorem RaI.s9 (h : RaI w0 B PL cap c j M wb mb nb L x22 x23 x24 x25 x26 x27 x28 x29 x30 x31 x32 x33 x34 x35 x36 W) : RaI w0 B PL cap c j M wb mb nb (upd L 9) x22 x23 x24 x25 x26 x27 x28 x29 x30 (.int .i64 (j : Int)) x32 x33 x34 x35 x36 W :=
  ⟨h.wz, h.wo, h.p0, h.p1, h.p2, h.p3, h.p4, h.p5, h.p6, h.p7, h.p8, fun _ => rfl, h.p10, h.p11, h.p12, h.p13, h.p14, h.l15_12, h.l12_5⟩
theorem RaI.s10 (h : RaI w0 B PL cap c j M wb mb nb L x22 x23 x24 x25 x26 x27 x28 x29 x30 x31 x32 x33 x34 x35 x36 W) : RaI w0 B PL cap c j M wb mb nb (upd L 10) x22 x23 x24 x25 x26 x27 x28 x29 x30 x31 (.int .i64 ((c : Int) * 32 + (j : Int))) x33 x34 x35 x36 W :=
  ⟨h.wz, h.wo, h.p0, h.p1, h.p2, h.p3, h.p4, h.p5, h.p6, h.p7, h.p8, h.p9, fun _ => rfl, h.p11, h.p12, h.p13, h.p14, h.l15_12, h.l12_5⟩
theorem RaI.s11 (h : RaI w0 B PL cap c j M wb mb nb L x22 x23 x24 x25 x26 x27 x28 x29 x30 x31 x32 x33 x34 x35 x36 W) : RaI w0 B PL cap c j M wb mb nb (upd L 11) x22 x23 x24 x25 x26 x27 x28 x29 x30 x31 x32 (.int .u8 ((mb).toNat : Int)) x34 x35 x36 W :=
  ⟨h.wz, h.wo, h.p0, h.p1, h.p2, h.p3, h.p4, h.p5, h.p6, h.p7, h.p8, h.p9, h.p10, fun _ => rfl, h.p12, h.p13, h.p14, h.l15_12, h.l12_5⟩
theorem RaI.s12 (h : RaI w0 B PL cap c j M wb mb nb L x22 x23 x24 x25 x26 x27 x28 x29 x30 x31 x32 x33 x34 x35 x36 W) (h5 : L 5 = true) : RaI w0 B PL cap c j M wb mb nb (upd L 12) x22 x23 x24 x25 x26 x27 x28 x29 x30 x31 x32 x33 (.int .u8 ((nb).toNat : Int)) x35 x36 W :=
  ⟨h.wz, h.wo, h.p0, h.p1, h.p2, h.p3, h.p4, h.p5, h.p6, h.p7, h.p8, h.p9, h.p10, h.p11, fun _ => rfl, h.p13, h.p14, fun _ => rfl, fun _ => h5⟩
theorem RaI.s13 (h : RaI w0 B PL cap c j M wb mb nb L x22 x23 x24 x25 x26 x27 x28 x29 x30 x31 x32 x33 x34 x35 x36 W) : RaI w0 B PL cap c j M wb mb nb (upd L 13) x22 x23 x24 x25 x26 x27 x28 x29 x30 x31 x32 x33 x34 (.pointer (some ⟨B, c * 32, none⟩)) x36 W :=
  ⟨h.wz, h.wo, h.p0, h.p1, h.p2, h.p3, h.p4, h.p5, h.p6, h.p7, h.p8, h.p9, h.p10, h.p11, h.p12, fun _ => rfl, h.p14, h.l15_12, h.l12_5⟩
theorem RaI.s14 (h : RaI w0 B PL cap c j M wb mb nb L x22 x23 x24 x25 x26 x27 x28 x29 x30 x31 x32 x33 x34 x35 x36 W) : RaI w0 B PL cap c j M wb mb nb (upd L 14) x22 x23 x24 x25 x26 x27 x28 x29 x30 x31 x32 x33 x34 x35 (.pointer (some ⟨B, c * 32 + j, none⟩)) W :=
  ⟨h.wz, h.wo, h.p0, h.p1, h.p2, h.p3, h.p4, h.p5, h.p6, h.p7, h.p8, h.p9, h.p10, h.p11, h.p12, h.p13, fun _ => rfl, h.l15_12, h.l12_5⟩
theorem RaI.s15 (h : RaI w0 B PL cap c j M wb mb nb L x22 x23 x24 x25 x26 x27 x28 x29 x30 x31 x32 x33 x34 x35 x36 W) (h12 : L 12 = true) : RaI w0 B PL cap c j M wb mb nb (upd L 15) x22 x23 x24 x25 x26 x27 x28 x29 x30 x31 x32 x33 x34 x35 x36 (w0.setCell ⟨B, c * 32 + j, none⟩ (.int .u8 (nb.toNat : Int))) :=
  ⟨fun k => (by cases k), fun _ => rfl, h.p0, h.p1, h.p2, h.p3, h.p4, h.p5, h.p6, h.p7, h.p8, h.p9, h.p10, h.p11, h.p12, h.p13, h.p14, fun _ => h12, h.l12_5⟩
theorem RaI.w5 (h : RaI w0 B PL cap c j M wb mb nb L x22 x23 x24 x25 x26 x27 x28 x29 x30 x31 x32 x33 x34 x35 x36 W) (hL : L 5 = false) : W = w0 := h.wz (by cases k : L 15 with | false => rfl | true => exact absurd (h.l12_5 (h.l15_12 (k))) (by rw [hL]; decide))
end
@[reducible] def IRaI (w0 : World) (B PL cap c j : Nat) (M : ByteArray) (wb mb nb : By) (y0 y1 y2 y3 y4 y5 y6 y7 y8 y9 y10 y11 y12 y13 y14 y15 y16 y17 y18 y19 y20 y21 y37 y38 : Value) : (Nat → Bool) → Act → World → Prop := fun L a W => ∃ x22 x23 x24 x25 x26 x27 x28 x29 x30 x31 x32 x33 x34 x35 x36, a = ⟨#[y0, y1, y2, y3, y4, y5, y6, y7, y8, y9, y10, y11, y12, y13, y14, y15, y16, y17, y18, y19, y20, y21, x22, x23, x24, x25, x26, x27, x28, x29, x30, x31, x32, x33, x34, x35, x36, y37, y38], []⟩ ∧ RaI w0 B PL cap c j M wb mb nb L x22 x23 x24 x25 x26 x27 x28 x29 x30 x31 x32 x33 x34 x35 x36 W

set_option maxHeartbeats 4000000 in
set_option maxRecDepth 100000 in
theorem raise_any (M : ByteArray) (m : List By) (hM : StrIs M m) (hm : m ≠ []) (B PL cap : Nat) (pg : List (List By)) (rst : List Value) (hPL : pg.length = PL) (hPL2 : PL ≤ 256) (h8 : ∀ x ∈ pg, x.length = 32) (w : World) (hr : Row w B 55 (pg.flatten.map B8 ++ rst)) :
    Calls Tryz.prog 75 #[.string M, .slice (some ⟨B, 0, none⟩) PL cap] w fun e w' => e = .returned (.tuple #[]) ∧ Row w' B 55 ((erasePage true m pg).flatten.map B8 ++ rst) ∧ KeptL [B] w w' := by
  have hB := hr.lt
  obtain ⟨BL, hBL⟩ : ∃ BL : List By, BL = List.replicate 32 255#8 := ⟨_, rfl⟩
  have hBl : BL.length = 32 := by rw [hBL]; simp
  have HBK : Hid (∀ W, Calls Tryz.prog 55 #[] W fun e w' => e = .returned (.agg (BL.map B8).toArray) ∧ Below W.heap.size W w') := fun W => by rw [hBL]; exact cblank_any W
  have HMI : Hid (∀ (i : Nat) (W : World), Calls Tryz.prog 86 #[.string M, .int .i64 (i : Int)] W fun e w' => e = .returned (.int .u8 ((bitsAt m i).toNat : Int)) ∧ w' = W) := fun i W => mat_any M m hM hm i W
  have HRD : Hid (∀ W c j, c < PL → j < 32 → Row W B 55 ((raisen m pg c j).flatten.map B8 ++ rst) → W.cell? ⟨B, c * 32 + j, none⟩ = some (.int .u8 (((pg.getD c []).getD j 0).toNat : Int))) := fun W c j hc hj hW => hW.cell _ _ (raisen_get m pg rst c j h8 (by omega) hj)
  have HST : Hid (∀ W c j (v : By), c < PL → j < 32 → v = (pg.getD c []).getD j 0 ||| bitsAt m (32 * c + j) → Row W B 55 ((raisen m pg c j).flatten.map B8 ++ rst) → Row (W.setCell ⟨B, c * 32 + j, none⟩ (.int .u8 (v.toNat : Int))) B 55 ((raisen m pg c (j + 1)).flatten.map B8 ++ rst)) := by
    intro W c j v hc hj hv hW
    have := hW.set (c * 32 + j) (B8 v)
    rw [hv, raisen_step m pg rst c j h8 (by omega) hj] at this
    rw [hv]; exact this
  have HIN : Hid (∀ W c, c < PL → Row W B 55 ((erasing true m pg c).flatten.map B8 ++ rst) → Row W B 55 ((raisen m pg c 0).flatten.map B8 ++ rst)) := fun W c hc hW => by rw [raisen_zero m pg c (by omega)]; exact hW
  have HOUT : Hid (∀ W c, c < PL → Row W B 55 ((raisen m pg c 32).flatten.map B8 ++ rst) → Row W B 55 ((erasing true m pg (c + 1)).flatten.map B8 ++ rst)) := fun W c hc hW => by rw [← raisen_end m pg c h8 (by omega)]; exact hW
  have HBL : Hid (∀ W c, c < PL → pg.getD c [] = BL → Row W B 55 ((erasing true m pg c).flatten.map B8 ++ rst) → Row W B 55 ((erasing true m pg (c + 1)).flatten.map B8 ++ rst)) := fun W c hc hb hW => by rw [raise_blank m pg c (by omega) (by rw [hb, hBL])]; exact hW
  have HRG : Hid (∀ W c, c < PL → Row W B 55 ((erasing true m pg c).flatten.map B8 ++ rst) → W.rangeAt B (c * 32) ((pg.getD c []).map B8)) := by
    intro W c hc hW
    have h1 := hW.range (c * 32) 32
    have he8 := erasing_8 m pg c h8
    have hel := erasing_len true m pg c (by omega)
    have hfl := flat_len _ he8
    rw [Nat.mul_comm c 32, List.drop_append_of_le_length (by rw [List.length_map, hfl]; omega), List.take_append_of_le_length (by rw [List.length_drop, List.length_map, hfl]; omega), ← List.map_drop, ← List.map_take, flat_seg _ he8 c (by omega), erasing_get true m pg c (by omega)] at h1
    rw [Nat.mul_comm c 32]; exact h1
  have HE : Hid (erasing true m pg PL = erasePage true m pg) := by show _ = _; rw [← hPL]; exact erasing_end true m pg
  have H32 : Hid (∀ c, c < PL → (pg.getD c []).length = 32) := fun c hc => getD32 h8 (by omega)
  have hr0 : Hid (Row w B 55 ((erasing true m pg 0).flatten.map B8 ++ rst)) := by rw [erasing_zero]; exact hr
  have HQ : Hid (∀ c W, c < PL → (Op.equalIn 10000 55 (.agg ((pg.getD c []).map B8).toArray) (.agg (BL.map B8).toArray)).run Tryz.prog W = .ok (decide (pg.getD c [] = BL)) W) := fun c W hc => eq_cell _ _ (H32.out c hc) hBl W
  clear hr hM hm h8 hBL
  go_enter Tryz.func75, Tryz.ntmps75
  go_wp2_with fail
  refine (HBK.out w).mono ?_
  rintro e w1 ⟨rfl, hb1⟩
  have hz1 := hb1.size
  have hr1 : Hid (Row w1 B 55 ((erasing true m pg 0).flatten.map B8 ++ rst)) := (hb1.block _ hB).trans hr0.out
  have kl1 : KeptL [B] w w1 := (KeptL.refl _ _).below hb1 (Nat.le_refl _)
  clear hb1 hr0
  generalize hBB : w1.heap.size = BB at *
  go_wp2_with (refine wpList_store_Row rfl 55 _ _ rfl BB 55 0 ((List.replicate 32 (0 : By)).map B8) (BL.map B8) (Row.at _ _ _ _ _ hBB.symm rfl) (by simp [hBl]) rfl rfl (by rw [List.length_map, hBl]; kernel_rfl) (B8_one _) ?_; intro w2 hr2 hs2)
  have rb := row_whole hr2 (by simp [hBl])
  have bl2 : Below w1.heap.size w1 w2 := hs2.below ((Below.refl _ _).alloc (Nat.le_refl _) _) (by omega)
  have hr3 : Hid (Row w2 B 55 ((erasing true m pg 0).flatten.map B8 ++ rst)) := (bl2.block _ (by omega)).trans hr1.out
  have kl2 := kl1.below bl2 (by omega)
  clear hr2 hs2 bl2 kl1 hr1
  go_loopw [10] (fun iv wr => ∃ c : Nat, c ≤ PL ∧ iv = .int .i64 c ∧ Hid (Row wr B 55 ((erasing true m pg c).flatten.map B8 ++ rst)) ∧ Row wr BB 55 (BL.map B8) ∧ KeptL [B] w wr) (fun iv _ => PL - (intOf iv).toNat)
  case atStart => exact ⟨0, by omega, rfl, hr3, rb, kl2⟩
  case round =>
    clear hr3 rb kl2
    obtain ⟨c, hc, rfl, hrc, rb, kl⟩ := hrel
    by_cases hlt : c < PL
    · have y0 : (0 : Int) ≤ (c : Int) := by omega
      have y1 : (c : Int) < (PL : Int) := by omega
      have hq := HQ.out c
      have hrg := HRG.out wr c hlt hrc.out
      have h32 := H32.out c hlt
      obtain ⟨eqb, heb⟩ : ∃ b, decide (pg.getD c [] = BL) = b := ⟨_, rfl⟩
      have hq' : ∀ W, (Op.equalIn 10000 55 (.agg ((pg.getD c []).map B8).toArray) (.agg (BL.map B8).toArray)).run Tryz.prog W = .ok eqb W := fun W => by rw [← heb]; exact hq W hlt
      have HEB : Hid (decide (pg.getD c [] = BL) = eqb) := heb
      clear heb hq
      have HX : Hid (∀ X, X = pg.getD c [] → X = pg.getD c []) := fun _ h => h
      go_wp2
      refine wp_region_still_lit (by kernel_rfl) (by kernel_rfl) ?_
      have hdz : Dr wr { wr with drawn := wr.drawn + 1 } := ⟨1, rfl⟩
      generalize { wr with drawn := wr.drawn + 1 } = wz at hdz ⊢
      have rgz : wz.rangeAt B (c * 32) ((pg.getD c []).map B8) := fun j v hv => hdz.cell (hrg j v hv)
      have rbz := rb.dr hdz
      have rgb : wz.rangeAt BB 0 (BL.map B8) := by have := rbz.range 0 32; rw [List.drop_zero, List.take_of_length_le (by simp [hBl])] at this; exact this
      have hrz : Hid (Row wz B 55 ((erasing true m pg c).flatten.map B8 ++ rst)) := hrc.out.dr hdz
      have klz := kl.dr hdz
      clear hrg rb hrc kl hdz
      have hq'' := hq'
      generalize hXX : pg.getD c [] = XX at rgz h32 hq''
      generalize hYY : List.replicate 32 (255#8 : By) = YY at rgb hq''
      still_step
      still_step
      still_step
      refine wpStill_load_range rfl 55 _ rfl B (c * 32) 32 _ rgz rfl _ (by rw [List.length_map]; exact h32) Tryz.underlying55 rfl (by kernel_rfl) ?_
      refine wpStill_load_range rfl 55 _ rfl BB 0 32 _ rgb rfl _ (by rw [List.length_map]; exact hBl) Tryz.underlying55 rfl (by kernel_rfl) ?_
      still_step
      refine wpStill_nil ?_
      clear hXX
      clear rgz rgb hq'' hq' h32
      cases eqb
      · have hin : Hid (Row wz B 55 ((raisen m pg c 0).flatten.map B8 ++ rst)) := HIN.out wz c hlt hrz.out
        clear hrz
        go_wp2
        go_loopw [19] (fun jv wq => ∃ j : Nat, j ≤ 32 ∧ jv = .int .i64 j ∧ Hid (Row wq B 55 ((raisen m pg c j).flatten.map B8 ++ rst)) ∧ Row wq BB 55 (BL.map B8) ∧ KeptL [B] w wq) (fun jv _ => 32 - (intOf jv).toNat)
        case atStart => exact ⟨0, by omega, rfl, hin, rbz, klz⟩
        case round =>
          clear hin rbz klz
          obtain ⟨j, hj, rfl, hrj, rb, kl⟩ := hrel
          by_cases hjl : j < 32
          · have z0 : (0 : Int) ≤ (j : Int) := by omega
            have z1 : (j : Int) < 32 := by omega
            have cw := HRD.out wr c j hlt hjl hrj.out
            have fw := hrj.out.frozen (c * 32 + j)
            have j1 : IntKind.i64.wrap ((c : Int) * 32) = (c : Int) * 32 := i64_in _ (by omega) (by omega)
            have j2 : IntKind.i64.wrap ((c : Int) * 32 + (j : Int)) = (c : Int) * 32 + (j : Int) := i64_in _ (by omega) (by omega)
            have HM : Hid (∀ W, Calls Tryz.prog 86 #[.string M, .int .i64 ((c : Int) * 32 + (j : Int))] W fun e w' => e = .returned (.int .u8 ((bitsAt m (32 * c + j)).toNat : Int)) ∧ w' = W) := fun W => by
              have := HMI.out (32 * c + j) W
              rw [show ((32 * c + j : Nat) : Int) = (c : Int) * 32 + (j : Int) by omega] at this
              exact this
            have hnx : Hid (∀ v : By, v = (pg.getD c []).getD j 0 ||| bitsAt m (32 * c + j) → Row (wr.drew.setCell ⟨B, c * 32 + j, none⟩ (.int .u8 (v.toNat : Int))) B 55 ((raisen m pg c (j + 1)).flatten.map B8 ++ rst) ∧ Row (wr.drew.setCell ⟨B, c * 32 + j, none⟩ (.int .u8 (v.toNat : Int))) BB 55 (BL.map B8) ∧ KeptL [B] w (wr.drew.setCell ⟨B, c * 32 + j, none⟩ (.int .u8 (v.toNat : Int)))) := by
              intro v hv
              have d : Dr wr wr.drew := ⟨1, rfl⟩
              have sb := SameBut.setCell B (c * 32 + j) (.int .u8 (v.toNat : Int)) wr.drew
              exact ⟨HST.out _ c j v hlt hjl hv (hrj.out.dr d), (rb.dr d).but sb (by omega), (kl.dr d).but sb (.inl (by simp))⟩
            generalize bitsAt m (32 * c + j) = mb at *
            generalize (pg.getD c []).getD j 0 = wb at *
            have HO := bits8_or wb mb
            obtain ⟨nb, hnb⟩ : ∃ nb, nb = wb ||| mb := ⟨_, rfl⟩
            rw [← hnb] at HO
            replace HO : Hid (bits .or .u8 (wb.toNat : Int) (mb.toNat : Int) = (nb.toNat : Int)) := HO
            have hny := hnx.out nb hnb
            have HNY : Hid (Row (wr.drew.setCell ⟨B, c * 32 + j, none⟩ (.int .u8 (nb.toNat : Int))) B 55 ((raisen m pg c (j + 1)).flatten.map B8 ++ rst) ∧ Row (wr.drew.setCell ⟨B, c * 32 + j, none⟩ (.int .u8 (nb.toNat : Int))) BB 55 (BL.map B8) ∧ KeptL [B] w (wr.drew.setCell ⟨B, c * 32 + j, none⟩ (.int .u8 (nb.toNat : Int)))) := hny
            clear hrj rb kl hny hnx hnb
            go_wp2
            refine wp_region_inv (IRaI wr.drew B PL cap c j M wb mb nb _ _ _ _ _ _ _ _ _ _ _ _ _ _ _ _ _ _ _ _ _ _ _ _) (by kernel_rfl) (by kernel_rfl) ⟨_, _, _, _, _, _, _, _, _, _, _, _, _, _, _, rfl, RaI.zero wr.drew B PL cap c j M wb mb nb _ _ _ _ _ _ _ _ _ _ _ _ _ _ _⟩ ?_ ?_
            · refine .cons ?_ (.cons ?_ (.cons ?_ (.cons ?_ (.cons ?_ (.cons ?_ (.cons ?_ (.cons ?_ (.cons ?_ (.cons ?_ (.cons ?_ (.cons ?_ (.cons ?_ (.cons ?_ (.cons ?_ (.cons ?_ .nil)))))))))))))))
              all_goals (rintro L a W ⟨x22, x23, x24, x25, x26, x27, x28, x29, x30, x31, x32, x33, x34, x35, x36, rfl, hI⟩ hL hd K hK)
              · rw [if_pos (by rfl)]
                go_simp
                exact hK.out _ _ ⟨_, _, _, _, _, _, _, _, _, _, _, _, _, _, _, rfl, hI.s0⟩
              · rw [if_pos (by rfl)]
                go_simp
                exact hK.out _ _ ⟨_, _, _, _, _, _, _, _, _, _, _, _, _, _, _, rfl, hI.s1⟩
              · rw [if_pos (by rfl)]
                go_simp
                exact hK.out _ _ ⟨_, _, _, _, _, _, _, _, _, _, _, _, _, _, _, rfl, hI.s2⟩
              · have hx0 := hI.p0 (hd 0 (by decide))
                subst hx0
                have hx1 := hI.p1 (hd 1 (by decide))
                subst hx1
                rw [if_pos (by rfl)]
                go_simp
                exact hK.out _ _ ⟨_, _, _, _, _, _, _, _, _, _, _, _, _, _, _, rfl, hI.s3⟩
              · have hx3 := hI.p3 (hd 3 (by decide))
                subst hx3
                have hx2 := hI.p2 (hd 2 (by decide))
                subst hx2
                rw [if_pos (by rfl)]
                go_simp
                exact hK.out _ _ ⟨_, _, _, _, _, _, _, _, _, _, _, _, _, _, _, rfl, hI.s4⟩
              · have hx4 := hI.p4 (hd 4 (by decide))
                subst hx4
                have hW := hI.w5 hL
                subst hW
                rw [if_pos (by rfl)]
                go_simp
                exact hK.out _ _ ⟨_, _, _, _, _, _, _, _, _, _, _, _, _, _, _, rfl, hI.s5⟩
              · rw [if_pos (by rfl)]
                go_simp
                exact hK.out _ _ ⟨_, _, _, _, _, _, _, _, _, _, _, _, _, _, _, rfl, hI.s6⟩
              · rw [if_pos (by rfl)]
                go_simp
                exact hK.out _ _ ⟨_, _, _, _, _, _, _, _, _, _, _, _, _, _, _, rfl, hI.s7⟩
              · have hx7 := hI.p7 (hd 7 (by decide))
                subst hx7
                rw [if_pos (by rfl)]
                go_simp
                exact hK.out _ _ ⟨_, _, _, _, _, _, _, _, _, _, _, _, _, _, _, rfl, hI.s8⟩
              · rw [if_pos (by rfl)]
                go_simp
                exact hK.out _ _ ⟨_, _, _, _, _, _, _, _, _, _, _, _, _, _, _, rfl, hI.s9⟩
              · have hx8 := hI.p8 (hd 8 (by decide))
                subst hx8
                have hx9 := hI.p9 (hd 9 (by decide))
                subst hx9
                rw [if_pos (by rfl)]
                go_simp
                exact hK.out _ _ ⟨_, _, _, _, _, _, _, _, _, _, _, _, _, _, _, rfl, hI.s10⟩
              · have hx6 := hI.p6 (hd 6 (by decide))
                subst hx6
                have hx10 := hI.p10 (hd 10 (by decide))
                subst hx10
                rw [if_pos (by rfl)]
                go_simp
                refine (HM.out _).mono ?_
                rintro e w3 ⟨rfl, rfl⟩
                exact hK.out _ _ ⟨_, _, _, _, _, _, _, _, _, _, _, _, _, _, _, rfl, hI.s11⟩
              · have hx5 := hI.p5 (hd 5 (by decide))
                subst hx5
                have hx11 := hI.p11 (hd 11 (by decide))
                subst hx11
                rw [if_pos (by rfl)]
                go_simp
                rw [HO.out]
                exact hK.out _ _ ⟨_, _, _, _, _, _, _, _, _, _, _, _, _, _, _, rfl, hI.s12 (hd 5 (by decide))⟩
              · have hx0 := hI.p0 (hd 0 (by decide))
                subst hx0
                have hx1 := hI.p1 (hd 1 (by decide))
                subst hx1
                rw [if_pos (by rfl)]
                go_simp
                exact hK.out _ _ ⟨_, _, _, _, _, _, _, _, _, _, _, _, _, _, _, rfl, hI.s13⟩
              · have hx13 := hI.p13 (hd 13 (by decide))
                subst hx13
                have hx2 := hI.p2 (hd 2 (by decide))
                subst hx2
                rw [if_pos (by rfl)]
                go_simp
                exact hK.out _ _ ⟨_, _, _, _, _, _, _, _, _, _, _, _, _, _, _, rfl, hI.s14⟩
              · have hx14 := hI.p14 (hd 14 (by decide))
                subst hx14
                have hx12 := hI.p12 (hd 12 (by decide))
                subst hx12
                have hW := hI.wz hL
                subst hW
                rw [if_pos (by rfl)]
                go_simp
                exact hK.out _ _ ⟨_, _, _, _, _, _, _, _, _, _, _, _, _, _, _, rfl, hI.s15 (hd 12 (by decide))⟩
            · rintro L a W hall ⟨x22, x23, x24, x25, x26, x27, x28, x29, x30, x31, x32, x33, x34, x35, x36, rfl, hI⟩
              have hW := hI.wo (hall 15 (by decide))
              subst hW
              have hx0 := hI.p0 (hall 0 (by decide))
              have hx1 := hI.p1 (hall 1 (by decide))
              have hx2 := hI.p2 (hall 2 (by decide))
              have hx3 := hI.p3 (hall 3 (by decide))
              have hx4 := hI.p4 (hall 4 (by decide))
              have hx5 := hI.p5 (hall 5 (by decide))
              have hx6 := hI.p6 (hall 6 (by decide))
              have hx7 := hI.p7 (hall 7 (by decide))
              have hx8 := hI.p8 (hall 8 (by decide))
              have hx9 := hI.p9 (hall 9 (by decide))
              have hx10 := hI.p10 (hall 10 (by decide))
              have hx11 := hI.p11 (hall 11 (by decide))
              have hx12 := hI.p12 (hall 12 (by decide))
              have hx13 := hI.p13 (hall 13 (by decide))
              have hx14 := hI.p14 (hall 14 (by decide))
              subst hx0 hx1 hx2 hx3 hx4 hx5 hx6 hx7 hx8 hx9 hx10 hx11 hx12 hx13 hx14
              clear hI hall
              try dsimp only
              go_wp2
              exact ⟨⟨j + 1, by omega, by go_num, HNY.out⟩, by simp [intOf]; omega⟩
          · obtain rfl : j = 32 := by omega
            have z1 : ¬ ((32 : Nat) : Int) < 32 := by omega
            have hnx : Hid (Row wr B 55 ((erasing true m pg (c + 1)).flatten.map B8 ++ rst)) := HOUT.out wr c hlt hrj.out
            clear hjl hj hrj
            go_wp2
            exact ⟨⟨c + 1, by omega, by go_num, hnx, rb, kl⟩, by simp [intOf]; omega⟩
      · have heq : pg.getD c [] = BL := by have := HEB.out; simpa using this
        have hnx : Hid (Row wz B 55 ((erasing true m pg (c + 1)).flatten.map B8 ++ rst)) := HBL.out wz c hlt heq hrz.out
        clear hrz heq
        go_wp2
        exact ⟨⟨c + 1, by omega, by go_num, hnx, rbz, klz⟩, by simp [intOf]; omega⟩
    · obtain rfl : c = PL := by omega
      have y1 : ¬ (c : Int) < (c : Int) := by omega
      have hrf := hrc.out
      rw [HE.out] at hrf
      have HRF : Hid (Row wr B 55 ((erasePage true m pg).flatten.map B8 ++ rst)) := hrf
      clear hrf hrc hlt hc
      go_wp2
      go_end0
      exact ⟨rfl, (by rw [← List.map_flatten]; exact HRF.out), kl⟩
end Go.Proofs.YtcpdanjbnijoiaaGreatDoor
