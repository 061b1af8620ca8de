
import Derived.Test.YtgpnbiaghokjkaaDoorD21Str
/-! Layer 21, the document's answer: between, May, pages, fuses, blank. -/
namespace Go.Proofs.YtgpnbiaghokjkaaDoor
open Go.RowKit
set_option linter.unusedVariables false
set_option linter.unusedSimpArgs false
set_option maxRecDepth 100000

set_option maxHeartbeats 1000000 in
theorem r21between_any (n lo hi : Int) (b : Bool) (hb : decide (lo ≤ n ∧ n ≤ hi) = b) (w : World) :
    Calls Tryd.prog 41 #[.int .i64 n, .int .i64 lo, .int .i64 hi] w fun e w' => e = .returned (.bool b) ∧ w' = w := by
  have HB : Hid (decide (lo ≤ n ∧ n ≤ hi) = b) := hb
  clear hb
  by_cases h1 : lo ≤ n
  · have b1 : decide (lo ≤ n) = true := by simpa using h1
    by_cases h2 : n ≤ hi
    · have b2 : decide (n ≤ hi) = true := by simpa using h2
      go_enter Tryd.func41, Tryd.ntmps41
      go_wp2
      go_ret
      exact ⟨by rw [← HB.out]; simp [h1, h2], rfl⟩
    · have b2 : decide (n ≤ hi) = false := by simpa using h2
      go_enter Tryd.func41, Tryd.ntmps41
      go_wp2
      go_ret
      exact ⟨by rw [← HB.out]; simp [h1, h2], rfl⟩
  · have b1 : decide (lo ≤ n) = false := by simpa using h1
    go_enter Tryd.func41, Tryd.ntmps41
    go_wp2
    go_ret
    exact ⟨by rw [← HB.out]; simp; omega, rfl⟩

set_option maxHeartbeats 2000000 in
theorem r21may_any (c : Cfg) (w : World) :
    Calls Tryd.prog 21 #[.agg c.vals.toArray] w fun e w' => e = .returned (.bool (decide (c.may = 0))) ∧ Below w.heap.size w w' := by
  obtain ⟨b1, h1⟩ : ∃ b, decide (1 ≤ c.slots ∧ c.slots ≤ 8) = b := ⟨_, rfl⟩
  obtain ⟨b2, h2⟩ : ∃ b, decide (c.slots + 3 ≤ c.cells ∧ c.cells ≤ 256) = b := ⟨_, rfl⟩
  obtain ⟨b3, h3⟩ : ∃ b, decide (1 ≤ c.fuses ∧ c.fuses ≤ 64) = b := ⟨_, rfl⟩
  obtain ⟨b4, h4⟩ : ∃ b, decide (1 ≤ c.step ∧ c.step ≤ 65536) = b := ⟨_, rfl⟩
  obtain ⟨b5, h5⟩ : ∃ b, decide (1 ≤ c.keys ∧ c.keys ≤ 64) = b := ⟨_, rfl⟩
  obtain ⟨b6, h6⟩ : ∃ b, decide (0 ≤ c.erases ∧ c.erases ≤ 65536) = b := ⟨_, rfl⟩
  obtain ⟨b7, h7⟩ : ∃ b, decide (0 ≤ c.area ∧ c.area ≤ 64) = b := ⟨_, rfl⟩
  have HM : Hid (decide (c.may = 0) = ((b1 && (b2 && (b3 && b4))) && (b5 && (b6 && b7)))) := by
    show _ = _
    simp only [Cfg.may, Cfg.a, Cfg.b, h1, h2, h3, h4, h5, h6, h7]
    cases ((b1 && (b2 && (b3 && b4))) && (b5 && (b6 && b7))) <;> rfl
  have W1 := fun w => r21between_any c.slots 1 8 b1 h1 w
  have W2 := fun w => r21between_any c.cells (c.slots + 3) 256 b2 h2 w
  have W3 := fun w => r21between_any c.fuses 1 64 b3 h3 w
  have W4 := fun w => r21between_any c.step 1 65536 b4 h4 w
  have W5 := fun w => r21between_any c.keys 1 64 b5 h5 w
  have W6 := fun w => r21between_any c.erases 0 65536 b6 h6 w
  have W7 := fun w => r21between_any c.area 0 64 b7 h7 w
  have hsl : b1 = true → 1 ≤ c.slots ∧ c.slots ≤ 8 := fun e => by rw [e] at h1; simpa using h1
  have HSL : Hid (b1 = true → 1 ≤ c.slots ∧ c.slots ≤ 8) := hsl
  clear h1 h2 h3 h4 h5 h6 h7 hsl
  generalize decide (c.may = 0) = MB at *
  obtain ⟨cells, slots, fuses, step, keys, erases, area⟩ := c
  simp only [Cfg.vals] at *
  have r0 : Row (w.alloc (.cells #[.int .i64 cells, .int .i64 slots, .int .i64 fuses, .int .i64 step, .int .i64 keys, .int .i64 erases, .int .i64 area] 24)) w.heap.size 24 [.int .i64 cells, .int .i64 slots, .int .i64 fuses, .int .i64 step, .int .i64 keys, .int .i64 erases, .int .i64 area] := Row.at _ _ _ _ _ rfl rfl
  have hb0 : Below w.heap.size w (w.alloc (.cells #[.int .i64 cells, .int .i64 slots, .int .i64 fuses, .int .i64 step, .int .i64 keys, .int .i64 erases, .int .i64 area] 24)) := (Below.refl _ _).alloc (Nat.le_refl _) _
  obtain ⟨W0, hW0⟩ : ∃ W0, W0 = w.alloc (.cells #[.int .i64 cells, .int .i64 slots, .int .i64 fuses, .int .i64 step, .int .i64 keys, .int .i64 erases, .int .i64 area] 24) := ⟨_, rfl⟩
  rw [← hW0] at r0 hb0
  have c0 := r0.cell 0 _ rfl
  have c1 := r0.cell 1 _ rfl
  have c2 := r0.cell 2 _ rfl
  have c3 := r0.cell 3 _ rfl
  have c4 := r0.cell 4 _ rfl
  have c5 := r0.cell 5 _ rfl
  have c6 := r0.cell 6 _ rfl
  clear r0
  go_enter Tryd.func21, Tryd.ntmps21
  go_upto_region 1 with fail
  rw [← hW0]
  clear hW0
  go_wp2_with fail
  refine (W1 _).mono ?_
  rintro e w1 ⟨rfl, hw1⟩
  obtain rfl := hw1.symm
  dsimp only
  cases b1
  · go_wp2
    go_ret
    exact ⟨by rw [HM.out]; rfl, hb0⟩
  obtain ⟨q1, q2⟩ := HSL.out rfl
  have wq : IntKind.i64.wrap (slots + 3) = slots + 3 := i64_in _ (by omega) (by omega)
  go_wp2_with fail
  refine (W2 _).mono ?_
  rintro e w2 ⟨rfl, hw2⟩
  obtain rfl := hw2.symm
  dsimp only
  cases b2
  · go_wp2
    go_ret
    exact ⟨by rw [HM.out]; rfl, hb0⟩
  go_wp2_with fail
  refine (W3 _).mono ?_
  rintro e w3 ⟨rfl, hw3⟩
  obtain rfl := hw3.symm
  dsimp only
  cases b3
  · go_wp2
    go_ret
    exact ⟨by rw [HM.out]; rfl, hb0⟩
  go_wp2_with fail
  refine (W4 _).mono ?_
  rintro e w4 ⟨rfl, hw4⟩
  obtain rfl := hw4.symm
  dsimp only
  cases b4
  · go_wp2
    go_ret
    exact ⟨by rw [HM.out]; rfl, hb0⟩
  go_wp2_with fail
  refine (W5 _).mono ?_
  rintro e w5 ⟨rfl, hw5⟩
  obtain rfl := hw5.symm
  dsimp only
  cases b5
  · go_wp2
    go_ret
    exact ⟨by rw [HM.out]; rfl, hb0⟩
  go_wp2_with fail
  refine (W6 _).mono ?_
  rintro e w6 ⟨rfl, hw6⟩
  obtain rfl := hw6.symm
  dsimp only
  cases b6
  · go_wp2
    go_ret
    exact ⟨by rw [HM.out]; rfl, hb0⟩
  go_wp2_with fail
  refine (W7 _).mono ?_
  rintro e w7 ⟨rfl, hw7⟩
  obtain rfl := hw7.symm
  dsimp only
  cases b7 <;> (go_wp2; go_ret; exact ⟨by rw [HM.out]; rfl, hb0⟩)

set_option maxHeartbeats 1000000 in
theorem r21pages_any (c : Cfg) (h0 : 0 ≤ c.area) (h1 : c.area ≤ 64) (w : World) :
    Calls Tryd.prog 32 #[.agg c.vals.toArray] w fun e w' => e = .returned (.int .i64 (2 + 2 * c.area)) ∧ Below w.heap.size w w' := by
  have r0 := Row.at w 24 c.vals _ _ rfl rfl
  have b1 : Below w.heap.size w (w.alloc (.cells c.vals.toArray 24)) := (Below.refl _ _).alloc (Nat.le_refl _) _
  have c6 := r0.cell 6 (.int .i64 c.area) rfl
  have y1 : IntKind.i64.wrap (2 * c.area) = 2 * c.area := i64_in _ (by omega) (by omega)
  have y2 : IntKind.i64.wrap (2 + 2 * c.area) = 2 + 2 * c.area := i64_in _ (by omega) (by omega)
  clear r0
  generalize c.vals = CV at *
  generalize c.area = AR at *
  go_enter Tryd.func32, Tryd.ntmps32
  go_wp2
  go_ret
  exact ⟨rfl, b1⟩
set_option maxHeartbeats 1000000 in
theorem r21fuses_any (c : Cfg) (hm : 1 ≤ c.slots * c.fuses ∧ c.slots * c.fuses ≤ 512) (h0 : 1 ≤ c.keys) (h1 : c.keys ≤ 64) (w : World) :
    Calls Tryd.prog 42 #[.agg c.vals.toArray] w fun e w' => e = .returned (.int .i64 (c.slots * c.fuses + c.keys)) ∧ Below w.heap.size w w' := by
  have r0 := Row.at w 24 c.vals _ _ rfl rfl
  have b1 : Below w.heap.size w (w.alloc (.cells c.vals.toArray 24)) := (Below.refl _ _).alloc (Nat.le_refl _) _
  have c1 := r0.cell 1 (.int .i64 c.slots) rfl
  have c2 := r0.cell 2 (.int .i64 c.fuses) rfl
  have c4 := r0.cell 4 (.int .i64 c.keys) rfl
  have y1 : IntKind.i64.wrap (c.slots * c.fuses) = c.slots * c.fuses := i64_in _ (by omega) (by omega)
  have y2 : IntKind.i64.wrap (c.slots * c.fuses + c.keys) = c.slots * c.fuses + c.keys := i64_in _ (by omega) (by omega)
  clear r0
  generalize c.vals = CV at *
  generalize c.slots = SL at *
  generalize c.fuses = FZ at *
  generalize c.keys = KS at *
  generalize hSF : SL * FZ = SF at *
  go_enter Tryd.func42, Tryd.ntmps42
  go_wp2
  go_ret
  exact ⟨rfl, b1⟩

theorem blank_ne {x : List By} {i : Nat} (hx : x.length = 32) (hi : i < 32) (h : ¬ x.getD i 0 = 255#8) : ¬ x = List.replicate 32 255#8 := fun e => h (by rw [e, List.getD_eq_getElem?_getD, List.getElem?_replicate, if_pos hi]; rfl)
theorem blank_all {x : List By} (hx : x.length = 32) (h : ∀ i, i < 32 → x.getD i 0 = 255#8) : x = List.replicate 32 255#8 := by
  apply List.ext_getElem (by simp [hx])
  intro i h1 h2
  have := h i (by omega)
  rw [List.getD_eq_getElem?_getD, List.getElem?_eq_getElem h1] at this
  rw [List.getElem_replicate]
  exact this
set_option maxHeartbeats 1000000 in
theorem r21blank_any (x : List By) (hx : x.length = 32) (w : World) :
    Calls Tryd.prog 25 #[.agg (x.map B8).toArray] w fun e w' => e = .returned (.bool (decide (x = List.replicate 32 255#8))) ∧ Below w.heap.size w w' := by
  have r0 := Row.at w 56 (x.map B8) _ _ rfl rfl
  have b1 : Below w.heap.size w (w.alloc (.cells (x.map B8).toArray 56)) := (Below.refl _ _).alloc (Nat.le_refl _) _
  have HC : Hid (∀ W, W = w.alloc (.cells (x.map B8).toArray 56) → ∀ i : Nat, i < 32 → W.cell? ⟨w.heap.size, i, none⟩ = some (.int .u8 ((x.getD i 0).toNat : Int))) := by
    rintro W rfl i hi
    exact r0.cell i _ (by rw [List.getElem?_map, List.getElem?_eq_getElem (by omega), List.getD_eq_getElem?_getD, List.getElem?_eq_getElem (by omega)]; rfl)
  have HN : Hid (∀ i, i < 32 → ¬ x.getD i 0 = 255#8 → decide (x = List.replicate 32 255#8) = false) := fun i hi h => decide_eq_false (blank_ne hx hi h)
  have HY : Hid ((∀ i, i < 32 → x.getD i 0 = 255#8) → decide (x = List.replicate 32 255#8) = true) := fun h => decide_eq_true (blank_all hx h)
  clear r0
  generalize decide (x = List.replicate 32 255#8) = R at *
  go_enter Tryd.func25, Tryd.ntmps25
  go_wp2_with fail
  generalize hW0 : w.alloc (.cells (x.map B8).toArray 56) = W0 at *
  go_loopw [3] (fun iv wr => ∃ i : Nat, i ≤ 32 ∧ iv = .int .i64 i ∧ wr = W0 ∧ Hid (∀ j, j < i → x.getD j 0 = 255#8)) (fun iv _ => 32 - (intOf iv).toNat)
  case atStart => exact ⟨0, by omega, rfl, rfl, fun j hj => by omega⟩
  case round =>
    obtain ⟨i, hi, rfl, rfl, HT⟩ := hrel
    by_cases hlt : i < 32
    · have y0 : (0 : Int) ≤ (i : Int) := by omega
      have y1 : (i : Int) < 32 := by omega
      have cc := HC.out _ rfl i hlt
      by_cases hb : x.getD i 0 = 255#8
      · have HS : Hid (∀ j, j < i + 1 → x.getD j 0 = 255#8) := fun j hj => by
          by_cases e : j = i
          · rw [e]; exact hb
          · exact HT.out j (by omega)
        rw [hb] at cc
        clear HT hb
        go_wp2
        exact ⟨⟨i + 1, by omega, by go_num, by first | trivial | rfl, HS⟩, by simp [intOf]; omega⟩
      · have HF : Hid (R = false) := HN.out i hlt hb
        have hq : (((x.getD i 0).toNat : Int) != 255) = true := by
          rw [bne_iff_ne]
          intro e
          exact hb (BitVec.eq_of_toNat_eq (by show (x.getD i 0).toNat = 255; omega))
        clear HT hb
        generalize (x.getD i 0).toNat = y at *
        go_wp2
        go_ret
        exact ⟨by rw [HF.out]; rfl, b1⟩
    · obtain rfl : i = 32 := by omega
      have HF : Hid (R = true) := HY.out HT.out
      clear HT
      go_wp2
      go_ret
      exact ⟨by rw [HF.out]; rfl, b1⟩
end Go.Proofs.YtgpnbiaghokjkaaDoor
