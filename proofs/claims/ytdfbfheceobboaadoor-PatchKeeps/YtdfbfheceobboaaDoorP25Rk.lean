
import Derived.Test.YtdfbfheceobboaaDoorP25Rj
/-! The code's patch: Read. -/
namespace Go.Proofs.YtdfbfheceobboaaDoor
open Go.RowKit
set_option linter.unusedVariables false
set_option linter.unusedSimpArgs false
set_option maxRecDepth 100000

theorem infoC_lenk {x : PX} (h : PXok x) : (infoC x).length = 68 := infC_len h.lo h.ln _ _ _ _
theorem infoC_onek (x : PX) : ∀ v ∈ infoC x, v.oneCell' = true := infC_one _ _ _ _ _ _
set_option maxHeartbeats 1000000 in
theorem cread_any (w : World) (po : Option Addr) (n pc : Nat) (p : List By) (hp : SlB w.heap.size w po n pc p) (hn : n ≤ 140737488351232) : Calls Tryd.prog 17 #[.slice po n pc] w (CRd w p) := by
  obtain ⟨W0, hW0⟩ : ∃ W0, W0 = w.alloc (.cells zInf.toArray 47) := ⟨_, rfl⟩
  have hb0 : Below w.heap.size w W0 := by rw [hW0]; exact (Below.refl _ _).alloc (Nat.le_refl _) _
  have R0 : Hid (Row W0 w.heap.size 47 zInf) := by show Row _ _ _ _; rw [hW0]; exact Row.at w _ _ _ _ rfl rfl
  have B0 : Hid (Below w.heap.size w W0) := hb0
  have FT := ctake_any W0 po n pc p ((hp.keep hb0).raise hb0.size (Nat.le_refl _)) hn
  clear hp
  cases hS : readR p with
  | error eb =>
    obtain ⟨ke, be⟩ := eb
    have HX : Hid (readR p = .error (ke, be)) := hS
    rw [hS] at FT
    clear hb0 hS
    go_enter Tryd.func17, Tryd.ntmps17
    go_wp2_with (have hz := hW0; clear hz; refine wpList_at25 hW0 ?_; clear hW0)
    refine FT.mono ?_
    rintro e w1 ⟨hb1, g1, rfl, hw1⟩
    have R1 : Hid (Row w1 w.heap.size 47 zInf ∧ Row w1 g1 52 [.int .i64 (ke : Int), .int .i64 (be : Int)] ∧ Below w.heap.size w w1) := ⟨R0.out.below hb1 R0.out.lt, hw1, B0.out.trans (hb1.mono B0.out.size)⟩
    have HZ : Hid (Row (w1.alloc (.cells zInf.toArray 47)) w1.heap.size 47 zInf) := Row.at w1 _ _ _ _ rfl rfl
    clear hb1 hw1 R0 B0 FT
    dsimp only
    go_wp2_with (first
      | (have hz := HZ; clear hz; refine wpList_store_Row rfl 47 (.tmp 4) (.tmp 10) rfl w1.heap.size 47 0 zInf zInf HZ.out (Nat.le_refl _) rfl rfl (by kernel_rfl) zInf_one ?_; intro w4 hr4 hs4; have R4 : Hid (Row w4 w.heap.size 47 zInf ∧ Row w4 g1 52 [.int .i64 (ke : Int), .int .i64 (be : Int)] ∧ Below w.heap.size w w4 ∧ g1 ≠ w.heap.size) := (by
          have k1 := R1.out.1.lt
          have k2 := R1.out.2.1.lt
          refine ⟨(R1.out.1.alloc _).but hs4 (by omega), (R1.out.2.1.alloc _).but hs4 (by omega), hs4.below (R1.out.2.2.alloc R1.out.2.2.size _) R1.out.2.2.size, fun e => ?_⟩
          subst e
          have h1 : w1.heap[w.heap.size]? = _ := R1.out.2.1
          have h2 : w1.heap[w.heap.size]? = _ := R1.out.1
          rw [h1] at h2; injection h2 with h2; injection h2 with _ h2; cases h2); clear HZ R1 hr4 hs4)
      | (have hz := R4; clear hz; refine wpList_store_Row rfl 47 (.tmp 2) (.tmp 15) rfl w.heap.size 47 0 zInf zInf R4.out.1 (Nat.le_refl _) rfl rfl (by kernel_rfl) zInf_one ?_; intro w8 hr8 hs8; have q8 := row_whole hr8 (by simp); have H8 : Hid (CRd w p (.returned (.tuple #[.agg zInf.toArray, .iface 48 (.pointer (some ⟨g1, 0, none⟩))])) w8) := (by unfold CRd; rw [HX.out]; exact ⟨hs8.below R4.out.2.2.1 (Nat.le_refl _), _, rfl, g1, rfl, R4.out.2.1.but hs8 R4.out.2.2.2⟩); clear R4 hr8 hs8))
    refine bodyPost_ret_by (results_rowtmp Tryd.results17 _ w8 w.heap.size 47 _ _ rfl q8 Tryd.underlying47 rfl (by kernel_rfl)) rfl ?_
    exact H8.out
  | ok x =>
    have hok := readR_ok hS
    have HX : Hid (readR p = .ok x) := hS
    rw [hS] at FT
    have L0 : Hid ((infoC x).length = 68) := infoC_lenk hok
    have O0 : Hid (∀ v ∈ infoC x, v.oneCell' = true) := infoC_onek x
    have HE : Hid (∀ W, Below w.heap.size w W → CRd w p (.returned (.tuple #[.agg (infoC x).toArray, .nilIface])) W) := fun W h => by
      unfold CRd
      rw [HX.out]
      exact ⟨h, rfl⟩
    clear hb0 hS hok HX
    have FT2 : Calls Tryd.prog 15 #[.slice po n pc] W0 fun e w' => Below W0.heap.size W0 w' ∧ ∃ lo lc, e = .returned (.tuple #[.agg (infoC x).toArray, .slice lo x.l.length lc, .pointer none]) := FT.mono fun e w' h => ⟨h.1, let ⟨lo, lc, h2, _⟩ := h.2; ⟨lo, lc, h2⟩⟩
    clear FT
    generalize infoC x = IC at *
    go_enter Tryd.func17, Tryd.ntmps17
    go_wp2_with (have hz := hW0; clear hz; refine wpList_at25 hW0 ?_; clear hW0)
    refine FT2.mono ?_
    rintro e w1 ⟨hb1, lo, lc, rfl⟩
    have R1 : Hid (Row w1 w.heap.size 47 zInf ∧ Below w.heap.size w w1) := ⟨R0.out.below hb1 R0.out.lt, B0.out.trans (hb1.mono B0.out.size)⟩
    have HZ : Hid (Row (w1.alloc (.cells zInf.toArray 47)) w1.heap.size 47 zInf) := Row.at w1 _ _ _ _ rfl rfl
    clear hb1 R0 B0 FT2
    dsimp only
    go_wp2_with (first
      | (have hz := HZ; clear hz; refine wpList_store_Row rfl 47 (.tmp 4) (.tmp 10) rfl w1.heap.size 47 0 zInf IC HZ.out (by rw [L0.out]; exact Nat.le_refl _) rfl rfl (by rw [L0.out]; kernel_rfl) O0.out ?_; intro w4 hr4 hs4; have R4 : Hid (Row w4 w.heap.size 47 zInf ∧ Row w4 w1.heap.size 47 IC ∧ Below w.heap.size w w4) := (by
          have k1 := R1.out.1.lt
          exact ⟨(R1.out.1.alloc _).but hs4 (by omega), row_whole hr4 (by rw [L0.out]; exact Nat.le_refl _), hs4.below (R1.out.2.alloc R1.out.2.size _) R1.out.2.size⟩); clear HZ R1 hr4 hs4)
      | (have hz := R4; clear hz; refine wpList_load_Row rfl 47 (.tmp 4) rfl w1.heap.size 47 IC R4.out.2.1 rfl _ Tryd.underlying47 rfl (by rw [L0.out]; kernel_rfl) ?_)
      | (have hz := R4; clear hz; refine wpList_store_Row rfl 47 (.tmp 2) (.tmp 18) rfl w.heap.size 47 0 zInf IC R4.out.1 (by rw [L0.out]; exact Nat.le_refl _) rfl rfl (by rw [L0.out]; kernel_rfl) O0.out ?_; intro w8 hr8 hs8; have q8 := row_whole hr8 (by rw [L0.out]; exact Nat.le_refl _); have H8 : Hid (CRd w p (.returned (.tuple #[.agg IC.toArray, .nilIface])) w8) := HE.out _ (hs8.below R4.out.2.2 (Nat.le_refl _)); clear R4 hr8 hs8))
    refine bodyPost_ret_by (results_rowtmp Tryd.results17 _ w8 w.heap.size 47 _ _ rfl q8 Tryd.underlying47 rfl (by rw [L0.out]; kernel_rfl)) rfl ?_
    exact H8.out
end Go.Proofs.YtdfbfheceobboaaDoor
