
import Derived.Test.YtcpdanjbnijoiaaGreatDoorI11Ref3
/-! The reference's Parse. -/
namespace Go.Proofs.YtcpdanjbnijoiaaGreatDoor
open Go.RowKit

/-- An image of nothing. -/
def zImg : List Value := imgC 0 0 0 (.slice none 0 0) (List.replicate 32 0)
theorem zImg_len : zImg.length = 36 := rfl
theorem zImg_one : ∀ v ∈ zImg, v.oneCell' = true := by
  intro v hv
  have : v ∈ zImg := hv
  simp [zImg, imgC] at this
  rcases this with rfl | rfl | rfl <;> rfl

theorem scan_end (b : List By) : scan b 16 (16 - 16) = none := rfl

set_option maxHeartbeats 1000000 in
set_option maxRecDepth 100000 in
theorem rparse_long (ao : Option Addr) (n cap : Nat) (w : World) (hn : 524288 < n) :
    Calls Tryz.prog 67 #[.slice ao n cap] w fun e w' => e = .returned (.tuple #[.agg zImg.toArray, .agg #[.int .i64 4, .int .i64 524288]]) ∧ Below w.heap.size w w' := by
  have i1 : (524288 : Int) < (n : Int) := by omega
  have r0 := Row.at w 100 zImg _ _ rfl rfl
  have r1 : Row ((w.alloc (.cells zImg.toArray 100)).alloc (.cells #[.int .i64 0, .int .i64 0] 111)) (w.heap.size + 1) 111 [.int .i64 0, .int .i64 0] := Row.at _ _ _ _ _ (by simp) rfl
  have r0' := r0.alloc (.cells #[.int .i64 0, .int .i64 0] 111)
  have b0 : Below w.heap.size w ((w.alloc (.cells zImg.toArray 100)).alloc (.cells #[.int .i64 0, .int .i64 0] 111)) := ((Below.refl _ _).alloc (Nat.le_refl _) _).alloc (by simp) _
  clear r0
  go_enter Tryz.func67, Tryz.ntmps67
  go_wp2_with (first | (refine wpList_store_Row rfl 100 _ _ rfl w.heap.size 100 0 zImg zImg r0' (Nat.le_refl _) rfl rfl (by kernel_rfl) zImg_one ?_; intro w2 hr2 hs2) | (refine wpList_store_Row rfl 111 _ _ rfl (w.heap.size + 1) 111 0 _ [.int .i64 4, .int .i64 524288] (r1.but hs2 (by omega)) (Nat.le_refl _) rfl rfl (by kernel_rfl) (by simp [Value.oneCell']) ?_; intro w3 hr3 hs3))
  have q2 := (row_whole hr2 (by simp)).but hs3 (by omega)
  have q3 := row_whole hr3 (by simp)
  refine bodyPost_ret_by (results_rowrow Tryz.results67 _ w3 w.heap.size 100 (w.heap.size + 1) 111 _ _ _ _ rfl q2 Tryz.underlying100 rfl (by kernel_rfl) rfl q3 Tryz.underlying111 rfl (by kernel_rfl)) rfl ⟨rfl, ?_⟩
  exact hs3.below (hs2.below b0 (Nat.le_refl _)) (by omega)

/-- What Parse begins with, and keeps while it reads. -/
structure PW (w : World) (ao : Option Addr) (b : List By) (W : World) : Prop where
  bel : Below w.heap.size w W
  img : Row W w.heap.size 100 zImg
  wrg : Row W (w.heap.size + 1) 111 [.int .i64 0, .int .i64 0]
  isb0 : IsB w ao b
theorem PW.isb {w W : World} {ao : Option Addr} {b : List By} (h : PW w ao b W) : IsB W ao b := h.isb0.below h.bel (Nat.le_refl _)
theorem PW.start (w : World) (ao : Option Addr) (b : List By) (hb : IsB w ao b) : PW w ao b ((w.alloc (.cells zImg.toArray 100)).alloc (.cells #[.int .i64 0, .int .i64 0] 111)) := by
  have b0 : Below w.heap.size w ((w.alloc (.cells zImg.toArray 100)).alloc (.cells #[.int .i64 0, .int .i64 0] 111)) := ((Below.refl _ _).alloc (Nat.le_refl _) _).alloc (by simp) _
  exact ⟨b0, (Row.at w 100 zImg _ _ rfl rfl).alloc _, Row.at _ _ _ _ _ (by simp) rfl, hb⟩
theorem PW.cell {w W : World} {ao : Option Addr} {b : List By} (h : PW w ao b W) (j : Nat) (hj : j < b.length) : ∃ B off, ao = some ⟨B, off, none⟩ ∧ W.cell? ⟨B, off + j, none⟩ = some (.int .u8 ((b.getD j 0).toNat : Int)) := by
  rcases h.isb with rfl | ⟨B, off, rfl, hc⟩
  · simp at hj
  · exact ⟨B, off, rfl, by rw [hc j b[j] (List.getElem?_eq_getElem hj), getD_lt hj]; rfl⟩

set_option maxHeartbeats 2000000 in
set_option maxRecDepth 100000 in
theorem rparse_scan (ao : Option Addr) (n cap : Nat) (b : List By) (hb0 : b.length = n) (w : World) (hb : IsB w ao b) (hn : n ≤ 524288) (e0 a0 : Nat) (hs : scan b 0 16 = some (e0, a0)) :
    Calls Tryz.prog 67 #[.slice ao n cap] w fun e w' => e = .returned (.tuple #[.agg zImg.toArray, .agg #[.int .i64 e0, .int .i64 a0]]) ∧ Below w.heap.size w w' := by
  have i1 : ¬ (524288 : Int) < (n : Int) := by omega
  have P0 := PW.start w ao b hb
  have HB0 : Hid (b.length = n) := hb0
  have HS : Hid (scan b 0 (16 - 0) = some (e0, a0)) := hs
  clear hb hb0 hs
  go_enter Tryz.func67, Tryz.ntmps67
  go_wp2_with fail
  go_loopw [4] (fun i wr => ∃ q : Nat, q ≤ 16 ∧ q ≤ n ∧ i = .int .i64 q ∧ Hid (scan b q (16 - q) = some (e0, a0)) ∧ PW w ao b wr) (fun i _ => 16 - (intOf i).toNat)
  case atStart => exact ⟨0, by omega, by omega, rfl, HS, P0⟩
  case round =>
    clear HS P0
    obtain ⟨q, hq, hqn, rfl, HQ, PQ⟩ := hrel
    have hq16 : q < 16 := by
      rcases Nat.lt_or_ge q 16 with h | h
      · exact h
      · obtain rfl : q = 16 := by omega
        have := HQ.out; rw [scan_end] at this; cases this
    have i2 : (q : Int) < 16 := by omega
    have hsc := HQ.out
    rw [scan_at b q _ hq16 rfl, HB0.out] at hsc
    by_cases hqe : q = n
    · have i3 : ((q : Int) == (n : Int)) = true := by rw [hqe]; simp
      rw [if_pos hqe] at hsc
      subst hqe
      injection hsc with hsc
      injection hsc with h1 h2
      subst h1; subst h2
      go_wp2_with (first | (refine wpList_store_Row rfl 100 _ _ rfl w.heap.size 100 0 zImg zImg PQ.img (Nat.le_refl _) rfl rfl (by kernel_rfl) zImg_one ?_; intro w2 hr2 hs2) | (refine wpList_store_Row rfl 111 _ _ rfl (w.heap.size + 1) 111 0 _ [.int .i64 6, .int .i64 q] (PQ.wrg.but hs2 (by omega)) (Nat.le_refl _) rfl rfl (by kernel_rfl) (by simp [Value.oneCell']) ?_; intro w3 hr3 hs3))
      have q2 := (row_whole hr2 (by simp)).but hs3 (by omega)
      have q3 := row_whole hr3 (by simp)
      refine bodyPost_ret_by (results_rowrow Tryz.results67 _ w3 w.heap.size 100 (w.heap.size + 1) 111 _ _ _ _ rfl q2 Tryz.underlying100 rfl (by kernel_rfl) rfl q3 Tryz.underlying111 rfl (by kernel_rfl)) rfl ⟨rfl, ?_⟩
      exact hs3.below (hs2.below PQ.bel (Nat.le_refl _)) (by omega)
    · have i3 : ((q : Int) == (n : Int)) = false := by rw [beq_eq_false_iff_ne]; omega
      have i4 : (q : Int) < (n : Int) := by omega
      have i5 : (0 : Int) ≤ (q : Int) := by omega
      rw [if_neg hqe] at hsc
      obtain ⟨B, off, rfl, hc⟩ := PQ.cell q (by rw [HB0.out]; omega)
      have MU : Hid (∀ W, Calls Tryz.prog 84 #[.int .i64 q, .int .u8 ((b.getD q 0).toNat : Int)] W fun e w' => e = .returned (.bool (mst q (b.getD q 0).toNat)) ∧ w' = W) := fun W => must_any q (b.getD q 0) W
      generalize (b.getD q 0).toNat = y at *
      cases hm : mst q y
      · rw [hm] at hsc
        simp only [Bool.false_eq_true, if_false] at hsc
        injection hsc with hsc
        injection hsc with h1 h2
        subst h1; subst h2
        rw [hm] at MU
        go_wp2_with (first | (go_at_call 84; refine (MU.out _).mono ?_; rintro e w' ⟨rfl, rfl⟩) | (refine wpList_store_Row rfl 100 _ _ rfl w.heap.size 100 0 zImg zImg PQ.img (Nat.le_refl _) rfl rfl (by kernel_rfl) zImg_one ?_; intro w2 hr2 hs2) | (refine wpList_store_Row rfl 111 _ _ rfl (w.heap.size + 1) 111 0 _ [.int .i64 5, .int .i64 q] (PQ.wrg.but hs2 (by omega)) (Nat.le_refl _) rfl rfl (by kernel_rfl) (by simp [Value.oneCell']) ?_; intro w3 hr3 hs3))
        have q2 := (row_whole hr2 (by simp)).but hs3 (by omega)
        have q3 := row_whole hr3 (by simp)
        refine bodyPost_ret_by (results_rowrow Tryz.results67 _ w3 w.heap.size 100 (w.heap.size + 1) 111 _ _ _ _ rfl q2 Tryz.underlying100 rfl (by kernel_rfl) rfl q3 Tryz.underlying111 rfl (by kernel_rfl)) rfl ⟨rfl, ?_⟩
        exact hs3.below (hs2.below PQ.bel (Nat.le_refl _)) (by omega)
      · rw [hm] at hsc
        simp only [if_true] at hsc
        have HSC : Hid (scan b (q + 1) (16 - (q + 1)) = some (e0, a0)) := hsc
        rw [hm] at MU
        clear hsc HQ
        go_wp2_with (go_at_call 84; refine (MU.out _).mono ?_; rintro e w' ⟨rfl, rfl⟩)
        exact ⟨⟨q + 1, by omega, by omega, by go_num, HSC, PQ⟩, by simp [intOf]; omega⟩

theorem PW.dropCells {w W : World} {B off : Nat} {b : List By} (h : PW w (some ⟨B, off, none⟩) b W) (k : Nat) : ∀ j v, (b.drop k)[j]? = some v → W.cell? ⟨B, off + k + j, none⟩ = some (B8 v) := by
  intro j v hj
  rw [List.getElem?_drop] at hj
  rcases h.isb with rfl | ⟨B', off', e, hc⟩
  · simp at hj
  · injection e with e; injection e with e1 e2
    subst e1 e2
    rw [Nat.add_assoc]; exact hc _ _ hj

set_option maxHeartbeats 2000000 in
set_option maxRecDepth 100000 in
theorem rparse_bad (ao : Option Addr) (n cap : Nat) (b : List By) (hb0 : b.length = n) (w : World) (hb : IsB w ao b) (hcap : n ≤ cap) (hn : n ≤ 524288) (hs : scan b 0 16 = none) (X : Nat) (hX : num4 (b.drop 12) = X) (e0 a0 : Nat) (hne : (524240 < X ∧ e0 = 5 ∧ a0 = 12) ∨ (X ≤ 524240 ∧ n < X + 48 ∧ e0 = 6 ∧ a0 = n) ∨ (X ≤ 524240 ∧ X + 48 < n ∧ e0 = 7 ∧ a0 = X + 48)) :
    Calls Tryz.prog 67 #[.slice ao n cap] w fun e w' => e = .returned (.tuple #[.agg zImg.toArray, .agg #[.int .i64 e0, .int .i64 a0]]) ∧ Below w.heap.size w w' := by
  have i1 : ¬ (524288 : Int) < (n : Int) := by omega
  have P0 := PW.start w ao b hb
  have HB0 : Hid (b.length = n) := hb0
  have HS : Hid (scan b 0 (16 - 0) = none) := hs
  have HX : Hid (num4 (b.drop 12) = X) := hX
  have hXl := num4_lt (b.drop 12)
  rw [hX] at hXl
  clear hb hb0 hs hX
  go_enter Tryz.func67, Tryz.ntmps67
  go_wp2_with fail
  go_loopw [4] (fun i wr => ∃ q : Nat, q ≤ 16 ∧ q ≤ n ∧ i = .int .i64 q ∧ Hid (scan b q (16 - q) = none) ∧ PW w ao b wr) (fun i _ => 16 - (intOf i).toNat)
  case atStart => exact ⟨0, by omega, by omega, rfl, HS, P0⟩
  case round =>
    clear HS P0
    obtain ⟨q, hq, hqn, rfl, HQ, PQ⟩ := hrel
    by_cases hq16 : q < 16
    · have i2 : (q : Int) < 16 := by omega
      have hsc := HQ.out
      rw [scan_at b q _ hq16 rfl, HB0.out] at hsc
      by_cases hqe : q = n
      · rw [if_pos hqe] at hsc; cases hsc
      · have i3 : ((q : Int) == (n : Int)) = false := by rw [beq_eq_false_iff_ne]; omega
        have i4 : (q : Int) < (n : Int) := by omega
        have i5 : (0 : Int) ≤ (q : Int) := by omega
        rw [if_neg hqe] at hsc
        obtain ⟨B, off, rfl, hc⟩ := PQ.cell q (by rw [HB0.out]; omega)
        have MU : Hid (∀ W, Calls Tryz.prog 84 #[.int .i64 q, .int .u8 ((b.getD q 0).toNat : Int)] W fun e w' => e = .returned (.bool (mst q (b.getD q 0).toNat)) ∧ w' = W) := fun W => must_any q (b.getD q 0) W
        generalize (b.getD q 0).toNat = y at *
        cases hm : mst q y
        · rw [hm] at hsc
          simp only [Bool.false_eq_true, if_false] at hsc
          cases hsc
        · rw [hm] at hsc
          simp only [if_true] at hsc
          have HSC : Hid (scan b (q + 1) (16 - (q + 1)) = none) := hsc
          rw [hm] at MU
          clear hsc HQ
          go_wp2_with (go_at_call 84; refine (MU.out _).mono ?_; rintro e w' ⟨rfl, rfl⟩)
          exact ⟨⟨q + 1, by omega, by omega, by go_num, HSC, PQ⟩, by simp [intOf]; omega⟩
    · obtain rfl : q = 16 := by omega
      clear hq HQ hq16
      obtain ⟨B, off, rfl, _⟩ := PQ.cell 0 (by rw [HB0.out]; omega)
      have hcl := PQ.dropCells 12
      obtain ⟨m, rfl⟩ : ∃ m, n = m + 16 := ⟨n - 16, by omega⟩
      have NU : Hid (∀ cc, Calls Tryz.prog 85 #[.slice (some ⟨B, off + 12, none⟩) (m + 4) cc] wr fun e w' => e = .returned (.int .i64 X) ∧ w' = wr) := fun cc => by
        have := number_any B (off + 12) (m + 4) cc (b.drop 12) (by rw [List.length_drop, HB0.out]; omega) (by omega) wr hcl
        rw [HX.out] at this; exact this
      clear hcl HX
      rcases hne with ⟨g1, rfl, rfl⟩ | ⟨g1, g2, rfl, rfl⟩ | ⟨g1, g2, rfl, rfl⟩
      · have j1 : (524240 : Int) < (X : Int) := by omega
        go_wp2_with (first | (go_at_call 85; refine (NU.out _).mono ?_; rintro e w' ⟨rfl, rfl⟩) | (refine wpList_store_Row rfl 100 _ _ rfl w.heap.size 100 0 zImg zImg PQ.img (Nat.le_refl _) rfl rfl (by kernel_rfl) zImg_one ?_; intro w2 hr2 hs2) | (refine wpList_store_Row rfl 111 _ _ rfl (w.heap.size + 1) 111 0 _ [.int .i64 (5), .int .i64 (12)] (PQ.wrg.but hs2 (by omega)) (Nat.le_refl _) rfl rfl (by kernel_rfl) (by simp [Value.oneCell']) ?_; intro w3 hr3 hs3))
        have q2 := (row_whole hr2 (by simp)).but hs3 (by omega)
        have q3 := row_whole hr3 (by simp)
        refine bodyPost_ret_by (results_rowrow Tryz.results67 _ w3 w.heap.size 100 (w.heap.size + 1) 111 _ _ _ _ rfl q2 Tryz.underlying100 rfl (by kernel_rfl) rfl q3 Tryz.underlying111 rfl (by kernel_rfl)) rfl ⟨?_, ?_⟩
        · first | rfl | simp
        · exact hs3.below (hs2.below PQ.bel (Nat.le_refl _)) (by omega)
      · have j1 : ¬ (524240 : Int) < (X : Int) := by omega
        have j2 : (m : Int) + 16 < (X : Int) + 48 := by omega
        have k1 : (m : Int) ≤ 524272 := by omega
        go_wp2_with fail
        refine (NU.out _).mono ?_
        rintro e w' ⟨rfl, rfl⟩
        have z1 : IntKind.i64.wrap ((X : Int) + 16) = (X : Int) + 16 := i64_in _ (by omega) (by omega)
        have z2 : IntKind.i64.wrap ((X : Int) + 16 + 32) = (X : Int) + 48 := by rw [i64_in _ (by omega) (by omega)]; omega
        clear hXl hn hcap hqn i1 g1 g2
        go_wp2_with (first | (refine wpList_store_Row rfl 100 _ _ rfl w.heap.size 100 0 zImg zImg PQ.img (Nat.le_refl _) rfl rfl (by kernel_rfl) zImg_one ?_; intro w2 hr2 hs2) | (refine wpList_store_Row rfl 111 _ _ rfl (w.heap.size + 1) 111 0 _ [.int .i64 (6), .int .i64 ((m : Int) + 16)] (PQ.wrg.but hs2 (by omega)) (Nat.le_refl _) rfl rfl (by kernel_rfl) (by simp [Value.oneCell']) ?_; intro w3 hr3 hs3))
        have q2 := (row_whole hr2 (by simp)).but hs3 (by omega)
        have q3 := row_whole hr3 (by simp)
        refine bodyPost_ret_by (results_rowrow Tryz.results67 _ w3 w.heap.size 100 (w.heap.size + 1) 111 _ _ _ _ rfl q2 Tryz.underlying100 rfl (by kernel_rfl) rfl q3 Tryz.underlying111 rfl (by kernel_rfl)) rfl ⟨?_, ?_⟩
        · first | rfl | simp
        · exact hs3.below (hs2.below PQ.bel (Nat.le_refl _)) (by omega)
      · have j1 : ¬ (524240 : Int) < (X : Int) := by omega
        have j2 : ¬ (m : Int) + 16 < (X : Int) + 48 := by omega
        have j3 : (X : Int) + 48 < (m : Int) + 16 := by omega
        have k1 : (m : Int) ≤ 524272 := by omega
        go_wp2_with fail
        refine (NU.out _).mono ?_
        rintro e w' ⟨rfl, rfl⟩
        have z1 : IntKind.i64.wrap ((X : Int) + 16) = (X : Int) + 16 := i64_in _ (by omega) (by omega)
        have z2 : IntKind.i64.wrap ((X : Int) + 16 + 32) = (X : Int) + 48 := by rw [i64_in _ (by omega) (by omega)]; omega
        clear hXl hn hcap hqn i1 g1 g2
        go_wp2_with (first | (refine wpList_store_Row rfl 100 _ _ rfl w.heap.size 100 0 zImg zImg PQ.img (Nat.le_refl _) rfl rfl (by kernel_rfl) zImg_one ?_; intro w2 hr2 hs2) | (refine wpList_store_Row rfl 111 _ _ rfl (w.heap.size + 1) 111 0 _ [.int .i64 (7), .int .i64 ((X : Int) + 48)] (PQ.wrg.but hs2 (by omega)) (Nat.le_refl _) rfl rfl (by kernel_rfl) (by simp [Value.oneCell']) ?_; intro w3 hr3 hs3))
        have q2 := (row_whole hr2 (by simp)).but hs3 (by omega)
        have q3 := row_whole hr3 (by simp)
        refine bodyPost_ret_by (results_rowrow Tryz.results67 _ w3 w.heap.size 100 (w.heap.size + 1) 111 _ _ _ _ rfl q2 Tryz.underlying100 rfl (by kernel_rfl) rfl q3 Tryz.underlying111 rfl (by kernel_rfl)) rfl ⟨?_, ?_⟩
        · first | rfl | simp
        · exact hs3.below (hs2.below PQ.bel (Nat.le_refl _)) (by omega)
end Go.Proofs.YtcpdanjbnijoiaaGreatDoor
