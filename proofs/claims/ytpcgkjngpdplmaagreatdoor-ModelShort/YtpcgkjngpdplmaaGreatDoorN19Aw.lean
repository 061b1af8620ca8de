
import Derived.Test.YtpcgkjngpdplmaaGreatDoorN19Ex
/-! The law of layer 19: awake. (Printed by tools/genn19.py.) -/
namespace Go.Proofs.YtpcgkjngpdplmaaGreatDoor
open Go.RowKit
set_option linter.unusedVariables false
set_option linter.unusedSimpArgs false

/-- The document's first example. -/
def awC : Cfg := ⟨8, 1, 2, 3, 1, 0, 0⟩
def awS : List SP := [⟨2, 0, 0, []⟩, ⟨1, 0, 0, []⟩]
def awA (v : Int) : List AN := [⟨0, 1, false, zH⟩, ⟨0, v, false, zH⟩]
theorem sec_nil19 (W : World) : SecIn W 0 0 [] [] := ⟨fun i hi => absurd hi (by simp), fun i hi => absurd hi (by simp), fun i hi => absurd hi (by simp)⟩
theorem aw_one : explC awC [] awS (awA 1) = (true, 0) := by decide +kernel
theorem aw_two : explC awC [] awS (awA 2) = (false, 1) := by decide +kernel
abbrev awCells : List Value := [.int .i64 2, .int .i64 0, .int .i64 0, .slice none 0 0, .int .i64 1, .int .i64 0, .int .i64 0, .slice none 0 0]
theorem aw_stp {W : World} {g : Nat} (h : Row W g 34 awCells) : StpIn W (some ⟨g, 0, none⟩) awS := by
  intro i hi
  have hi2 : i < 2 := hi
  rcases (by omega : i = 0 ∨ i = 1) with rfl | rfl
  · exact ⟨g, 0, none, 0, rfl, h.cell 0 _ rfl, h.cell 1 _ rfl, h.cell 2 _ rfl, h.cell 3 _ rfl, .inl rfl, Nat.le_refl _, fun _ => rfl⟩
  · exact ⟨g, 0, none, 0, rfl, h.cell 4 _ rfl, h.cell 5 _ rfl, h.cell 6 _ rfl, h.cell 7 _ rfl, .inl rfl, Nat.le_refl _, fun _ => rfl⟩
theorem aw_ans {W : World} {g : Nat} (v : Int) (hv : 0 ≤ v ∧ v ≤ 2) (h : Row W g 39 (anC ⟨0, 1, false, zH⟩ 2 ++ anC ⟨0, v, false, zH⟩ 2)) : AnsIn W (some ⟨g, 0, none⟩) (awA v) := by
  intro i hi
  have hi2 : i < 2 := hi
  have r0 := h.range 0 36
  have r1 := h.range 36 36
  rcases (by omega : i = 0 ∨ i = 1) with rfl | rfl
  · exact ⟨g, 0, 2, rfl, r0, ⟨(by show (-9223372036854775808 : Int) ≤ 0 ∧ (0 : Int) ≤ 9223372036854775807; omega), (by show (-9223372036854775808 : Int) ≤ 1 ∧ (1 : Int) ≤ 9223372036854775807; omega), rfl⟩⟩
  · exact ⟨g, 0, 2, rfl, r1, ⟨(by show (-9223372036854775808 : Int) ≤ 0 ∧ (0 : Int) ≤ 9223372036854775807; omega), (by show -9223372036854775808 ≤ v ∧ v ≤ 9223372036854775807; omega), rfl⟩⟩

set_option maxHeartbeats 4000000 in
set_option maxRecDepth 100000 in
theorem awake19_any (w : World) (hg : HG w) : Calls Tryz.prog 5 #[] w fun en w' => en = .returned (.bool true) ∧ Below w.heap.size w w' := by
  have MX : Hid (∀ (v : Int) W g1 g2, (0 ≤ v ∧ v ≤ 2) → Below w.heap.size w W → Row W g1 34 awCells → Row W g2 39 (anC ⟨0, 1, false, zH⟩ 2 ++ anC ⟨0, v, false, zH⟩ 2) → Calls Tryz.prog 7 #[.agg awC.vals.toArray, .slice none 0 0, .slice (some ⟨g1, 0, none⟩) 2 2, .slice (some ⟨g2, 0, none⟩) 2 2] W fun en w' => en = .returned (explV (explC awC [] awS (awA v))) ∧ Below W.heap.size W w') := fun v W g1 g2 hv hb h1 h2 =>
    expl_any awC [] awS (awA v) W (hg.below hb hg.lt) none 0 (some ⟨g1, 0, none⟩) 2 (some ⟨g2, 0, none⟩) 2 ⟨⟨0, 0, [], fun h => absurd h (by simp), sec_nil19 W⟩, aw_stp h1, aw_ans v hv h2, fun _ => rfl, fun h => (by cases h), fun h => (by cases h), Nat.le_refl _, Nat.le_refl _, Nat.le_refl _, (by decide), (by show 2 ≤ _; decide), (by decide)⟩
  clear hg
  have r0 : Row (w.alloc (.cells #[.int .i64 0, .int .i64 0, .int .i64 0, .int .i64 0, .int .i64 0, .int .i64 0, .int .i64 0] 23)) w.heap.size 23 [.int .i64 0, .int .i64 0, .int .i64 0, .int .i64 0, .int .i64 0, .int .i64 0, .int .i64 0] := Row.at w _ _ _ _ rfl rfl
  have HB0 : Hid (Below w.heap.size w (w.alloc (.cells #[.int .i64 0, .int .i64 0, .int .i64 0, .int .i64 0, .int .i64 0, .int .i64 0, .int .i64 0] 23))) := (Below.refl _ _).alloc (Nat.le_refl _) _
  have lv : Hid (awC.vals.length = 7) := rfl
  go_enter Tryz.func5, Tryz.ntmps5
  go_wp2_with (first
    | (refine wpList_store_Row rfl 23 (.tmp 1) (.tmp 7) rfl w.heap.size 23 0 [.int .i64 0, .int .i64 0, .int .i64 0, .int .i64 0, .int .i64 0, .int .i64 0, .int .i64 0] awC.vals r0 (Nat.le_refl _) rfl rfl (by kernel_rfl) (by decide) ?_; intro w1 hr1 hs1; have R1 : Hid (Row w1 w.heap.size 23 awC.vals) := row_whole hr1 (Nat.le_refl _); have HB1 : Hid (Below w.heap.size w w1) := hs1.below HB0.out (Nat.le_refl _); clear hr1 hs1)
    | (have hz := R1; clear hz; (refine wpList_load_whole_g ?_ 23 (.tmp 1) rfl w.heap.size 23 7 awC.vals (R1.out.alloc _) rfl _ lv.out Tryz.underlying23 rfl (by kernel_rfl) ?_; · rfl)))
  refine (MX.out 1 _ w1.heap.size (w1.heap.size + 1) (by decide) ((HB1.out.alloc HB1.out.size _).alloc (by have := HB1.out.size; simp; omega) _) ((Row.at w1 34 awCells _ _ rfl rfl).alloc _) (Row.at _ _ _ _ _ (by simp) rfl)).mono ?_
  rw [aw_one]
  rintro en w2 ⟨rfl, hb2⟩
  dsimp only [explV]
  have RS : Hid (Row w2 w1.heap.size 34 awCells) := ((Row.at w1 34 awCells _ _ rfl rfl).alloc _).below hb2 (by simp; omega)
  have R2 : Hid (Row w2 w.heap.size 23 awC.vals) := ((R1.out.alloc _).alloc _).below hb2 (by have := R1.out.lt; simp; omega)
  have HB2 : Hid (Below w.heap.size w w2) := ((HB1.out.alloc HB1.out.size _).alloc (by have := HB1.out.size; simp; omega) _).trans (hb2.mono (by have := HB1.out.size; simp; omega))
  generalize w1.heap.size = g1 at *
  clear hb2 R1 HB1 r0 HB0
  go_wp2_with (first
    | (refine wpList_load_whole_g ?_ 23 (.tmp 1) rfl w.heap.size 23 7 awC.vals R2.out rfl _ lv.out Tryz.underlying23 rfl (by kernel_rfl) ?_; · rfl))
  refine (MX.out 2 _ g1 w2.heap.size (by decide) (HB2.out.alloc HB2.out.size _) (RS.out.alloc _) (Row.at _ _ _ _ _ rfl rfl)).mono ?_
  rw [aw_two]
  rintro en w3 ⟨rfl, hb3⟩
  dsimp only [explV]
  have HB3 : Hid (Below w.heap.size w w3) := (HB2.out.alloc HB2.out.size _).trans (hb3.mono (by have := HB2.out.size; simp; omega))
  clear hb3 R2 RS HB2
  go_wp2
  go_ret
  exact ⟨rfl, HB3.out⟩

end Go.Proofs.YtpcgkjngpdplmaaGreatDoor
