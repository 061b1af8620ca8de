
import Derived.Test.YtpcgkjngpdplmaaGreatDoorI11CM
/-! The code's firstWrong. -/
namespace Go.Proofs.YtpcgkjngpdplmaaGreatDoor
open Go.RowKit
set_option linter.unusedVariables false

/-- The places behind the head's numbers bear any byte. -/
theorem scan_tail (b : List By) : ∀ (k i : Nat), 8 ≤ i → i + k = 16 → i ≤ b.length → scan b i k = if b.length < 16 then some (6, b.length) else none
  | 0, i, h8, hk, hl => by rw [if_neg (by omega)]; rfl
  | k + 1, i, h8, hk, hl => by
    have hm : mst i (b.getD i 0).toNat = true := by
      unfold mst
      rw [if_neg (by omega), if_neg (by omega), if_neg (by omega), if_neg (by omega), if_neg (by omega), if_neg (by omega), if_neg (by omega), if_neg (by omega)]
    rw [scan]
    by_cases he : i = b.length
    · rw [if_pos he, if_pos (by omega), he]
    · rw [if_neg he, if_pos hm]
      exact scan_tail b k (i + 1) (by omega) (by omega) (by omega)

/-- What firstWrong answers where something is wrong. -/
def FW (w : World) (e0 a0 : Int) (e : Ending) (w' : World) : Prop :=
  ∃ g, e = .returned (.pointer (some ⟨g, 0, none⟩)) ∧ w.heap.size ≤ g ∧ Row w' g 167 [.int .i64 e0, .int .i64 a0] ∧ Below w.heap.size w w'
theorem FW.mk' (w : World) (E A : Int) : FW w E A (.returned (.pointer (some ⟨w.heap.size, 0, none⟩))) (w.alloc (.cells #[.int .i64 E, .int .i64 A] 167)) :=
  ⟨w.heap.size, rfl, Nat.le_refl _, Row.at w 167 _ _ _ rfl rfl, (Below.refl _ _).alloc (Nat.le_refl _) _⟩

set_option maxHeartbeats 1000000 in
set_option maxRecDepth 100000 in
theorem first_long (ao : Option Addr) (n cap : Nat) (w : World) (hn : 524288 < n) :
    Calls Tryz.prog 96 #[.slice ao n cap] w (FW w 4 524288) := by
  have i1 : (524288 : Int) < (n : Int) := by omega
  go_enter Tryz.func96, Tryz.ntmps96
  go_wp2
  go_ret
  exact FW.mk' _ _ _

theorem isb_cell {W : World} {ao : Option Addr} {b : List By} (h : IsB W ao b) (j : Nat) (hj : j < b.length) : ∃ B off, ao = some ⟨B, off, none⟩ ∧ W.cell? ⟨B, off + j, none⟩ = some (.int .u8 ((b.getD j 0).toNat : Int)) := by
  rcases h with rfl | ⟨B, off, rfl, hc⟩
  · simp at hj
  · exact ⟨B, off, rfl, by rw [hc j b[j] (List.getElem?_eq_getElem hj), getD_lt hj]; rfl⟩
theorem isb_drop {W : World} {B off : Nat} {b : List By} (h : IsB W (some ⟨B, off, none⟩) b) (k : Nat) : ∀ j v, (b.drop k)[j]? = some v → W.cell? ⟨B, off + k + j, none⟩ = some (B8 v) := by
  intro j v hj
  rw [List.getElem?_drop] at hj
  rcases h with rfl | ⟨B', off', e, hc⟩
  · simp at hj
  · injection e with e; injection e with e1 e2
    subst e1 e2
    rw [Nat.add_assoc]; exact hc _ _ hj

set_option maxHeartbeats 2000000 in
set_option maxRecDepth 100000 in
theorem first_scanA (ao : Option Addr) (n cap : Nat) (b : List By) (hb0 : b.length = n) (w : World) (hb : IsB w ao b) (hn : n ≤ 524288) (h8 : n ≤ 8) (e0 a0 : Nat) (hs : scan b 0 16 = some (e0, a0)) :
    Calls Tryz.prog 96 #[.slice ao n cap] w (FW w e0 a0) := by
  have i1 : ¬ (524288 : Int) < (n : Int) := by omega
  have HB0 : Hid (b.length = n) := hb0
  have HIB : Hid (IsB w ao b) := hb
  have HS : Hid (scan b 0 (16 - 0) = some (e0, a0)) := hs
  have k8 : (n : Int) ≤ 8 := by omega
  clear hb hb0 hs
  go_enter Tryz.func96, Tryz.ntmps96
  go_wp2_with fail
  go_loopw [14] (fun i wr => ∃ q : Nat, q ≤ n ∧ i = .int .i64 q ∧ Hid (scan b q (16 - q) = some (e0, a0)) ∧ wr = w) (fun i _ => 16 - (intOf i).toNat)
  case atStart => exact ⟨0, by omega, rfl, HS, rfl⟩
  case round =>
    clear HS
    obtain ⟨q, hq, rfl, HQ, hwr⟩ := hrel
    subst hwr
    have hsc := HQ.out
    by_cases hqe : q < n
    · have i3 : (q : Int) < (n : Int) := by omega
      have i4 : (q : Int) < (n : Int) := by omega
      have i5 : (0 : Int) ≤ (q : Int) := by omega
      rw [scan_at b q _ (by omega) rfl, HB0.out, if_neg (by omega)] at hsc
      obtain ⟨B, off, rfl, hc⟩ := isb_cell HIB.out q (by rw [HB0.out]; omega)
      have MU : Hid (∀ W, Calls Tryz.prog 106 #[.int .i64 q, .int .u8 ((b.getD q 0).toNat : Int)] W fun e w' => e = .returned (.bool (mst q (b.getD q 0).toNat)) ∧ w' = W) := fun W => fits_any q (by omega) (b.getD q 0) W
      generalize (b.getD q 0).toNat = y at *
      cases hm : mst q y
      · rw [hm] at hsc
        simp only [Bool.false_eq_true, if_false] at hsc
        injection hsc with hsc
        injection hsc with h1 h2
        subst h1; subst h2
        rw [hm] at MU
        go_wp2_with (go_at_call 106; refine (MU.out _).mono ?_; rintro e w' ⟨rfl, rfl⟩)
        go_ret
        exact FW.mk' _ _ _
      · rw [hm] at hsc
        simp only [if_true] at hsc
        have HSC : Hid (scan b (q + 1) (16 - (q + 1)) = some (e0, a0)) := hsc
        rw [hm] at MU
        clear hsc HQ
        go_wp2_with (go_at_call 106; refine (MU.out _).mono ?_; rintro e w' ⟨rfl, rfl⟩)
        exact ⟨⟨q + 1, by omega, by go_num, HSC, by first | rfl | trivial⟩, by simp [intOf]; omega⟩
    · obtain rfl : q = n := by omega
      rw [scan_at b q _ (by omega) rfl, HB0.out, if_pos rfl] at hsc
      injection hsc with hsc
      injection hsc with h1 h2
      subst h1; subst h2
      have k16 : (q : Int) < 16 := by omega
      clear HQ HB0
      go_wp2
      go_ret
      exact FW.mk' _ _ _

set_option maxHeartbeats 2000000 in
set_option maxRecDepth 100000 in
theorem first_scanB (ao : Option Addr) (n cap : Nat) (b : List By) (hb0 : b.length = n) (w : World) (hb : IsB w ao b) (hn : n ≤ 524288) (h8 : 8 < n) (e0 a0 : Nat) (hs : scan b 0 16 = some (e0, a0)) :
    Calls Tryz.prog 96 #[.slice ao n cap] w (FW w e0 a0) := by
  have i1 : ¬ (524288 : Int) < (n : Int) := by omega
  have HB0 : Hid (b.length = n) := hb0
  have HIB : Hid (IsB w ao b) := hb
  have HS : Hid (scan b 0 (16 - 0) = some (e0, a0)) := hs
  have k8 : (8 : Int) < (n : Int) := by omega
  clear hb hb0 hs
  go_enter Tryz.func96, Tryz.ntmps96
  go_wp2_with fail
  go_loopw [14] (fun i wr => ∃ q : Nat, q ≤ 8 ∧ i = .int .i64 q ∧ Hid (scan b q (16 - q) = some (e0, a0)) ∧ wr = w) (fun i _ => 16 - (intOf i).toNat)
  case atStart => exact ⟨0, by omega, rfl, HS, rfl⟩
  case round =>
    clear HS
    obtain ⟨q, hq, rfl, HQ, hwr⟩ := hrel
    subst hwr
    have hsc := HQ.out
    by_cases hqe : q < 8
    · have i3 : (q : Int) < (8 : Int) := by omega
      have i4 : (q : Int) < (n : Int) := by omega
      have i5 : (0 : Int) ≤ (q : Int) := by omega
      rw [scan_at b q _ (by omega) rfl, HB0.out, if_neg (by omega)] at hsc
      obtain ⟨B, off, rfl, hc⟩ := isb_cell HIB.out q (by rw [HB0.out]; omega)
      have MU : Hid (∀ W, Calls Tryz.prog 106 #[.int .i64 q, .int .u8 ((b.getD q 0).toNat : Int)] W fun e w' => e = .returned (.bool (mst q (b.getD q 0).toNat)) ∧ w' = W) := fun W => fits_any q (by omega) (b.getD q 0) W
      generalize (b.getD q 0).toNat = y at *
      cases hm : mst q y
      · rw [hm] at hsc
        simp only [Bool.false_eq_true, if_false] at hsc
        injection hsc with hsc
        injection hsc with h1 h2
        subst h1; subst h2
        rw [hm] at MU
        go_wp2_with (go_at_call 106; refine (MU.out _).mono ?_; rintro e w' ⟨rfl, rfl⟩)
        go_ret
        exact FW.mk' _ _ _
      · rw [hm] at hsc
        simp only [if_true] at hsc
        have HSC : Hid (scan b (q + 1) (16 - (q + 1)) = some (e0, a0)) := hsc
        rw [hm] at MU
        clear hsc HQ
        go_wp2_with (go_at_call 106; refine (MU.out _).mono ?_; rintro e w' ⟨rfl, rfl⟩)
        exact ⟨⟨q + 1, by omega, by go_num, HSC, by first | rfl | trivial⟩, by simp [intOf]; omega⟩
    · obtain rfl : q = 8 := by omega
      rw [scan_tail b _ 8 (by omega) rfl (by rw [HB0.out]; omega), HB0.out] at hsc
      by_cases h16 : n < 16
      · rw [if_pos h16] at hsc
        injection hsc with hsc
        injection hsc with h1 h2
        subst h1; subst h2
        have k16 : (n : Int) < 16 := by omega
        clear HQ HB0
        go_wp2
        go_ret
        exact FW.mk' _ _ _
      · rw [if_neg h16] at hsc; cases hsc

set_option maxHeartbeats 2000000 in
set_option maxRecDepth 100000 in
theorem first_bad (ao : Option Addr) (n cap : Nat) (b : List By) (hb0 : b.length = n) (w : World) (hb : IsB w ao b) (hn : n ≤ 524288) (hcap : n ≤ cap) (hs : scan b 0 16 = none) (X : Nat) (hX : num4 (b.drop 12) = X) (e0 a0 : Nat) (hne : (524240 < X ∧ e0 = 5 ∧ a0 = 12) ∨ (X ≤ 524240 ∧ n < X + 48 ∧ e0 = 6 ∧ a0 = n) ∨ (X ≤ 524240 ∧ X + 48 < n ∧ e0 = 7 ∧ a0 = X + 48)) :
    Calls Tryz.prog 96 #[.slice ao n cap] w (FW w e0 a0) := by
  have i1 : ¬ (524288 : Int) < (n : Int) := by omega
  have HB0 : Hid (b.length = n) := hb0
  have HIB : Hid (IsB w ao b) := hb
  have HS : Hid (scan b 0 (16 - 0) = none) := hs
  have HX : Hid (num4 (b.drop 12) = X) := hX
  have hXl := num4_lt (b.drop 12)
  rw [hX] at hXl
  have h16 : 16 ≤ n := by have := (scan_none 16 0 (by omega) hs).1; omega
  have k8 : (8 : Int) < (n : Int) := by omega
  clear hb hb0 hs hX
  go_enter Tryz.func96, Tryz.ntmps96
  go_wp2_with fail
  go_loopw [14] (fun i wr => ∃ q : Nat, q ≤ 8 ∧ i = .int .i64 q ∧ Hid (scan b q (16 - q) = none) ∧ wr = w) (fun i _ => 16 - (intOf i).toNat)
  case atStart => exact ⟨0, by omega, rfl, HS, rfl⟩
  case round =>
    clear HS
    obtain ⟨q, hq, rfl, HQ, hwr⟩ := hrel
    subst hwr
    have hsc := HQ.out
    by_cases hqe : q < 8
    · have i3 : (q : Int) < (8 : Int) := by omega
      have i4 : (q : Int) < (n : Int) := by omega
      have i5 : (0 : Int) ≤ (q : Int) := by omega
      rw [scan_at b q _ (by omega) rfl, HB0.out, if_neg (by omega)] at hsc
      obtain ⟨B, off, rfl, hc⟩ := isb_cell HIB.out q (by rw [HB0.out]; omega)
      have MU : Hid (∀ W, Calls Tryz.prog 106 #[.int .i64 q, .int .u8 ((b.getD q 0).toNat : Int)] W fun e w' => e = .returned (.bool (mst q (b.getD q 0).toNat)) ∧ w' = W) := fun W => fits_any q (by omega) (b.getD q 0) W
      generalize (b.getD q 0).toNat = y at *
      cases hm : mst q y
      · rw [hm] at hsc
        simp only [Bool.false_eq_true, if_false] at hsc
        cases hsc
      · rw [hm] at hsc
        simp only [if_true] at hsc
        have HSC : Hid (scan b (q + 1) (16 - (q + 1)) = none) := hsc
        rw [hm] at MU
        clear hsc HQ
        go_wp2_with (go_at_call 106; refine (MU.out _).mono ?_; rintro e w' ⟨rfl, rfl⟩)
        exact ⟨⟨q + 1, by omega, by go_num, HSC, by first | rfl | trivial⟩, by simp [intOf]; omega⟩
    · obtain rfl : q = 8 := by omega
      have hl16 : 16 ≤ n := by
        rw [scan_tail b _ 8 (by omega) rfl (by rw [HB0.out]; omega), HB0.out] at hsc
        by_cases h16 : n < 16
        · rw [if_pos h16] at hsc; cases hsc
        · omega
      clear hsc HQ
      obtain ⟨B, off, rfl, _⟩ := isb_cell HIB.out 0 (by rw [HB0.out]; omega)
      have hcl := isb_drop HIB.out 12
      have NU : Hid (∀ cc, Calls Tryz.prog 97 #[.slice (some ⟨B, off + 12, none⟩) 4 cc] wr fun e w' => e = .returned (.int .u64 X) ∧ w' = wr) := fun cc => by
        have := cnumber_any B (off + 12) cc (b.drop 12) (by rw [List.length_drop, HB0.out]; omega) wr hcl
        rw [HX.out] at this; exact this
      clear hcl HX
      have k1 : (16 : Int) ≤ (cap : Int) := by omega
      have k16 : ¬ (n : Int) < 16 := by omega
      rcases hne with ⟨g1, rfl, rfl⟩ | ⟨g1, g2, rfl, rfl⟩ | ⟨g1, g2, rfl, rfl⟩
      · have j1 : (524240 : Int) < (X : Int) := by omega
        go_wp2_with fail
        refine (NU.out _).mono ?_
        rintro e w' ⟨rfl, rfl⟩
        dsimp only
        go_wp2
        go_ret
        exact FW.mk' _ _ _
      · have j1 : ¬ (524240 : Int) < (X : Int) := by omega
        have j2 : (a0 : Int) < 16 + (X : Int) + 32 := by omega
        go_wp2_with fail
        refine (NU.out _).mono ?_
        rintro e w' ⟨rfl, rfl⟩
        dsimp only
        have z0 : IntKind.i64.wrap (X : Int) = (X : Int) := i64_in _ (by omega) (by omega)
        have z1 : IntKind.i64.wrap (16 + (X : Int)) = 16 + (X : Int) := i64_in _ (by omega) (by omega)
        have z2 : IntKind.i64.wrap (16 + (X : Int) + 32) = 16 + (X : Int) + 32 := i64_in _ (by omega) (by omega)
        clear hXl hn hcap i1 g1 g2 NU
        go_wp2
        go_ret
        exact FW.mk' _ _ _
      · have j1 : ¬ (524240 : Int) < (X : Int) := by omega
        have j2 : ¬ (n : Int) < 16 + (X : Int) + 32 := by omega
        have j3 : 16 + (X : Int) + 32 < (n : Int) := by omega
        have z3 : Hid (16 + (X : Int) + 32 = ((X + 48 : Nat) : Int)) := by show _ = _; omega
        go_wp2_with fail
        refine (NU.out _).mono ?_
        rintro e w' ⟨rfl, rfl⟩
        dsimp only
        have z0 : IntKind.i64.wrap (X : Int) = (X : Int) := i64_in _ (by omega) (by omega)
        have z1 : IntKind.i64.wrap (16 + (X : Int)) = 16 + (X : Int) := i64_in _ (by omega) (by omega)
        have z2 : IntKind.i64.wrap (16 + (X : Int) + 32) = 16 + (X : Int) + 32 := i64_in _ (by omega) (by omega)
        clear hXl hn hcap i1 g1 g2 NU
        go_wp2
        go_ret
        have := FW.mk' w' 7 (16 + (X : Int) + 32)
        rw [z3.out] at this
        rw [z3.out]
        exact this

set_option maxHeartbeats 2000000 in
set_option maxRecDepth 100000 in
theorem first_ok (ao : Option Addr) (n cap : Nat) (b : List By) (hb0 : b.length = n) (w : World) (hb : IsB w ao b) (hn : n ≤ 524288) (hcap : n ≤ cap) (hs : scan b 0 16 = none) (X : Nat) (hX : num4 (b.drop 12) = X) (hne : n = X + 48) :
    Calls Tryz.prog 96 #[.slice ao n cap] w fun e w' => e = .returned (.pointer none) ∧ w' = w := by
  have i1 : ¬ (524288 : Int) < (n : Int) := by omega
  have HB0 : Hid (b.length = n) := hb0
  have HIB : Hid (IsB w ao b) := hb
  have HS : Hid (scan b 0 (16 - 0) = none) := hs
  have HX : Hid (num4 (b.drop 12) = X) := hX
  have h16 : 16 ≤ n := by omega
  have k8 : (8 : Int) < (n : Int) := by omega
  have HNE : Hid (n = X + 48) := hne
  clear hb hb0 hs hX hne
  go_enter Tryz.func96, Tryz.ntmps96
  go_wp2_with fail
  go_loopw [14] (fun i wr => ∃ q : Nat, q ≤ 8 ∧ i = .int .i64 q ∧ Hid (scan b q (16 - q) = none) ∧ wr = w) (fun i _ => 16 - (intOf i).toNat)
  case atStart => exact ⟨0, by omega, rfl, HS, rfl⟩
  case round =>
    clear HS
    obtain ⟨q, hq, rfl, HQ, hwr⟩ := hrel
    subst hwr
    have hsc := HQ.out
    by_cases hqe : q < 8
    · have i3 : (q : Int) < (8 : Int) := by omega
      have i4 : (q : Int) < (n : Int) := by omega
      have i5 : (0 : Int) ≤ (q : Int) := by omega
      rw [scan_at b q _ (by omega) rfl, HB0.out, if_neg (by omega)] at hsc
      obtain ⟨B, off, rfl, hc⟩ := isb_cell HIB.out q (by rw [HB0.out]; omega)
      have MU : Hid (∀ W, Calls Tryz.prog 106 #[.int .i64 q, .int .u8 ((b.getD q 0).toNat : Int)] W fun e w' => e = .returned (.bool (mst q (b.getD q 0).toNat)) ∧ w' = W) := fun W => fits_any q (by omega) (b.getD q 0) W
      generalize (b.getD q 0).toNat = y at *
      cases hm : mst q y
      · rw [hm] at hsc
        simp only [Bool.false_eq_true, if_false] at hsc
        cases hsc
      · rw [hm] at hsc
        simp only [if_true] at hsc
        have HSC : Hid (scan b (q + 1) (16 - (q + 1)) = none) := hsc
        rw [hm] at MU
        clear hsc HQ
        go_wp2_with (go_at_call 106; refine (MU.out _).mono ?_; rintro e w' ⟨rfl, rfl⟩)
        exact ⟨⟨q + 1, by omega, by go_num, HSC, by first | rfl | trivial⟩, by simp [intOf]; omega⟩
    · obtain rfl : q = 8 := by omega
      have hl16 : 16 ≤ n := by
        rw [scan_tail b _ 8 (by omega) rfl (by rw [HB0.out]; omega), HB0.out] at hsc
        by_cases h16 : n < 16
        · rw [if_pos h16] at hsc; cases hsc
        · omega
      clear hsc HQ
      obtain ⟨B, off, rfl, _⟩ := isb_cell HIB.out 0 (by rw [HB0.out]; omega)
      have hcl := isb_drop HIB.out 12
      have NU : Hid (∀ cc, Calls Tryz.prog 97 #[.slice (some ⟨B, off + 12, none⟩) 4 cc] wr fun e w' => e = .returned (.int .u64 X) ∧ w' = wr) := fun cc => by
        have := cnumber_any B (off + 12) cc (b.drop 12) (by rw [List.length_drop, HB0.out]; omega) wr hcl
        rw [HX.out] at this; exact this
      clear hcl HX
      have k1 : (16 : Int) ≤ (cap : Int) := by omega
      have k16 : ¬ (n : Int) < 16 := by omega
      have hne := HNE.out
      have j1 : ¬ (524240 : Int) < (X : Int) := by omega
      have j2 : ¬ (n : Int) < 16 + (X : Int) + 32 := by omega
      have j3 : ¬ 16 + (X : Int) + 32 < (n : Int) := by omega
      clear hne
      go_wp2_with fail
      refine (NU.out _).mono ?_
      rintro e w' ⟨rfl, rfl⟩
      dsimp only
      have hne := HNE.out
      have z0 : IntKind.i64.wrap (X : Int) = (X : Int) := i64_in _ (by omega) (by omega)
      have z1 : IntKind.i64.wrap (16 + (X : Int)) = 16 + (X : Int) := i64_in _ (by omega) (by omega)
      have z2 : IntKind.i64.wrap (16 + (X : Int) + 32) = 16 + (X : Int) + 32 := i64_in _ (by omega) (by omega)
      clear hn hcap i1 NU hne
      go_wp2
      go_ret
      exact ⟨rfl, rfl⟩

/-- firstWrong of what is no image. -/
theorem first_wrong (ao : Option Addr) (n cap : Nat) (b : List By) (hb0 : b.length = n) (w : World) (hb : IsB w ao b) (hcap : n ≤ cap) (e0 a0 : Nat) (h : parse b = .wrong e0 a0) :
    Calls Tryz.prog 96 #[.slice ao n cap] w (FW w e0 a0) := by
  unfold parse at h
  rw [hb0] at h
  split at h
  · injection h with h; injection h with h1 h2; subst h1 h2
    exact first_long ao n cap w (by assumption)
  · rename_i hl
    split at h
    · rename_i e i hs
      injection h with h; injection h with h1 h2; subst h1 h2
      rcases Nat.lt_or_ge 8 n with h8 | h8
      · exact first_scanB ao n cap b hb0 w hb (by omega) h8 _ _ hs
      · exact first_scanA ao n cap b hb0 w hb (by omega) h8 _ _ hs
    · rename_i hs
      simp only at h
      obtain ⟨X, hX⟩ : ∃ X, num4 (b.drop 12) = X := ⟨_, rfl⟩
      rw [hX] at h
      refine first_bad ao n cap b hb0 w hb (by omega) hcap hs X hX e0 a0 ?_
      split at h
      · injection h with h; injection h with h1 h2; exact .inl ⟨by assumption, h1.symm, h2.symm⟩
      · split at h
        · injection h with h; injection h with h1 h2; exact .inr (.inl ⟨by omega, by assumption, h1.symm, h2.symm⟩)
        · split at h
          · injection h with h; injection h with h1 h2; exact .inr (.inr ⟨by omega, by assumption, h1.symm, h2.symm⟩)
          · cases h
end Go.Proofs.YtpcgkjngpdplmaaGreatDoor
