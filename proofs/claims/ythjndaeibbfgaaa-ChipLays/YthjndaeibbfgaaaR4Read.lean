import Derived.Test.YthjndaeibbfgaaaR4Mem
namespace Go.Proofs.Ythjndaeibbfgaaa
open Go.RowKit

theorem results_Row_tmp {fn : Func} {p u : Tmp} {ty : TypeId} (h : fn.results = #[.cell p ty, .tmp u]) (tmps : Array Value) (w : World) (g t : Nat) (cs : List Value) (d : TypeDesc)
    (hp : tmps.getD p undef = .pointer (some ⟨g, 0, none⟩)) (hr : Row w g t cs) (hu : Try.prog.underlying ty = some d) (hd : d.isRow = true) (hi : (Try.prog.info? ty).map (·.size) = some cs.length) :
    (results fn tmps).run Try.prog w = .ok (.tuple #[.agg cs.toArray, tmps.getD u undef]) w := by
  rw [results_cell_tmp h]
  have hl := run_loadVar_mid (P := Try.prog) w g 0 ty cs d (by have := hr.range 0 cs.length; simpa using this) hu hd hi
  simp [hp, asAddr, hl]

set_option maxHeartbeats 1000000 in
set_option maxRecDepth 100000 in
theorem read_any (F : RF) (s : RS) (p c : Int) (w : World) (h : RAt w F s) :
    Calls Try.prog 50 #[.pointer (some ⟨F.g, 0, none⟩), .int .i64 p, .int .i64 c] w fun e w' => e = .returned (.tuple #[.agg ((if s.at p c = 0 then s.cell p.toNat c.toNat else List.replicate 32 0).map B8).toArray, .int .i64 (s.at p c)]) ∧ Below w.heap.size w w' := by
  have b0 : ∀ o1, Below w.heap.size w (w.alloc o1) := fun o1 => (Below.refl _ _).alloc (Nat.le_refl _) _
  have r0 := Row.at w 49 ((List.replicate 32 (0 : By)).map B8) _ _ rfl rfl
  have ha : ∀ o1, RAt (w.alloc o1) F s := fun o1 => h.keep (fun B hB => Below.heap_alloc w o1 B (h.blt B hB))
  have HA : Hid (∀ o1, RAt (w.alloc o1) F s) := ha
  by_cases h0 : s.at p c = 0
  · obtain ⟨_, i1, i2, i3, i4⟩ := at_zero h0
    rw [h0, if_pos rfl]
    obtain ⟨pn, rfl⟩ := Int.eq_ofNat_of_zero_le i1
    obtain ⟨cn, rfl⟩ := Int.eq_ofNat_of_zero_le i3
    simp only [Int.toNat_natCast]
    have hpl : pn < s.pages.length := by omega
    obtain ⟨k1, k2⟩ := h.ok.pgLen pn hpl
    have hx32 : (s.cell pn cn).length = 32 := by
      unfold RS.cell
      rw [List.getD_eq_getElem?_getD, List.getElem?_eq_getElem (by omega)]
      exact k2 _ (List.getElem_mem _)
    have c7 := fun o1 => (ha o1).cPages
    obtain ⟨q, hq, cp, pr, _, _, _⟩ := h.pageAt pn hpl
    have hqB : q.1 < w.heap.size := pr.lt
    have hpB : F.pB < w.heap.size := h.pg.lt
    replace cp := fun o1 => ((b0 o1).cell (p := ⟨F.pB, pn, none⟩) hpB).trans cp
    obtain ⟨rst, rp⟩ := pr
    have HRP : Hid (∀ o1, Row (w.alloc o1) q.1 49 ((s.pages.getD pn []).flatten.map B8 ++ rst)) := fun o1 => rp.alloc o1
    have hseg : (((s.pages.getD pn []).flatten.map B8 ++ rst).drop (32 * cn)).take 32 = (s.cell pn cn).map B8 := by
      have hfl := flat_len _ k2
      rw [List.drop_append_of_le_length (by rw [List.length_map, hfl]; omega), List.take_append_of_le_length (by rw [List.length_drop, List.length_map, hfl]; omega), ← List.map_drop, ← List.map_take, flat_seg _ k2 cn (by omega)]; rfl
    have HSEG : Hid ((((s.pages.getD pn []).flatten.map B8 ++ rst).drop (cn * 32)).take 32 = (s.cell pn cn).map B8) := by rw [Nat.mul_comm]; exact hseg
    have i5 : (cn : Int) < ((s.pages.getD pn []).length : Int) := by omega
    generalize hPL : (s.pages.getD pn []).length = PL at *
    generalize s.cell pn cn = X at *
    generalize (s.pages.getD pn []).flatten.map B8 ++ rst = RR at *
    clear k1 k2 hseg rp hq ha hPL
    go_enter Try.func50, Try.ntmps50
    go_wp2_with fail
    refine (at_any F s pn cn _ (HA.out _)).mono ?_
    rw [h0]
    rintro e w1 ⟨rfl, rfl⟩
    go_wp2_with (first
      | (refine wpList_load_part rfl 49 _ rfl q.1 (cn * 32) 49 32 RR (HRP.out _) rfl _ (X.map B8) HSEG.out (by rw [List.length_map]; exact hx32) Try.underlying49 rfl (by kernel_rfl) ?_)
      | (refine wpList_store_Row rfl 49 _ _ rfl _ _ 0 _ (X.map B8) r0 (by simp [hx32]) rfl rfl (by rw [List.length_map, hx32]; kernel_rfl) (B8_one _) ?_; intro w9 hr9 hs9))
    have hr := row_whole hr9 (by simp [hx32])
    exact bodyPost_ret_by (results_Row_tmp Try.results50 _ w9 w.heap.size 49 _ _ rfl hr Try.underlying49 rfl (by rw [List.length_map, hx32]; kernel_rfl)) rfl ⟨rfl, hs9.below (b0 _) (Nat.le_refl _)⟩
  · rw [if_neg h0]
    generalize hf : s.at p c = f at *
    have HF : Hid (s.at p c = f) := hf
    have e1 : (f != 0) = true := by rw [bne_iff_ne]; exact h0
    clear hf ha
    go_enter Try.func50, Try.ntmps50
    go_wp2_with fail
    refine (at_any F s p c _ (HA.out _)).mono ?_
    rw [HF.out]
    rintro e w1 ⟨rfl, rfl⟩
    go_wp2_with (refine wpList_store_Row rfl 49 _ _ rfl _ _ 0 _ ((List.replicate 32 (0 : By)).map B8) r0 (by simp) rfl rfl (by kernel_rfl) (B8_one _) ?_; intro w9 hr9 hs9)
    have hr := row_whole hr9 (by simp)
    exact bodyPost_ret_by (results_Row_tmp Try.results50 _ w9 w.heap.size 49 _ _ rfl hr Try.underlying49 rfl (by kernel_rfl)) rfl ⟨rfl, hs9.below (b0 _) (Nat.le_refl _)⟩
end Go.Proofs.Ythjndaeibbfgaaa
