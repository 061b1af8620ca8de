import Derived.Test.YtikakngpbahhgaaA
namespace Go.Proofs.Ytikakngpbahhgaa
open Go.RowKit

set_option maxHeartbeats 400000 in
set_option maxRecDepth 100000 in
theorem firstState_any (w : World) : Calls Try.prog 37 #[] w fun e w' => e = .returned (.agg (init8.list.map U).toArray) ∧ Below w.heap.size w w' := by
  go_enter Try.func37, Try.ntmps37
  go_wp2_with (refine wpList_store_Row rfl 42 _ _ rfl w.heap.size 42 0 ((List.replicate 8 (0 : Wd)).map U) (init8.list.map U) (Row.at _ _ _ _ _ rfl rfl) (by simp [S8.list]) rfl rfl (by kernel_rfl) (U_one _) ?_; intro w1 hr hs)
  exact bodyPost_ret_by (results_Row Try.results37 _ w1 w.heap.size 42 _ _ rfl (by simpa [S8.list] using hr) Try.underlying42 rfl (by kernel_rfl)) rfl ⟨rfl, hs.below ((Below.refl _ _).alloc (Nat.le_refl _) _) (Nat.le_refl _)⟩

set_option maxHeartbeats 400000 in
set_option maxRecDepth 100000 in
theorem begins_any (w : World) : Calls Try.prog 30 #[] w fun e w' => e = .returned (.agg (init8.list.map U).toArray) ∧ Below w.heap.size w w' := by
  go_enter Try.func30, Try.ntmps30
  go_wp2_with (refine wpList_store_Row rfl 42 _ _ rfl w.heap.size 42 0 ((List.replicate 8 (0 : Wd)).map U) (init8.list.map U) (Row.at _ _ _ _ _ rfl rfl) (by simp [S8.list]) rfl rfl (by kernel_rfl) (U_one _) ?_; intro w1 hr hs)
  exact bodyPost_ret_by (results_Row Try.results30 _ w1 w.heap.size 42 _ _ rfl (by simpa [S8.list] using hr) Try.underlying42 rfl (by kernel_rfl)) rfl ⟨rfl, hs.below ((Below.refl _ _).alloc (Nat.le_refl _) _) (Nat.le_refl _)⟩

theorem row64 {w : World} {g : Nat} {l : List Wd} (hl : l.length = 64) (h : Row w g 58 (((List.replicate 64 (0 : Wd)).map U).take 0 ++ l.map U ++ ((List.replicate 64 (0 : Wd)).map U).drop (0 + (l.map U).length))) : Row w g 58 (l.map U) := by
  rw [List.take_zero, List.nil_append, List.drop_eq_nil_of_le (by simp [hl]), List.append_nil] at h
  exact h

set_option maxHeartbeats 400000 in
set_option maxRecDepth 100000 in
theorem roundWords_any (w : World) : Calls Try.prog 24 #[] w fun e w' => e = .returned (.agg (Kt.map U).toArray) ∧ Below w.heap.size w w' := by
  go_enter Try.func24, Try.ntmps24
  go_wp2_with (refine wpList_store_Row rfl 58 _ _ rfl w.heap.size 58 0 ((List.replicate 64 (0 : Wd)).map U) (Kt.map U) (Row.at _ _ _ _ _ rfl rfl) (by rw [List.length_map, Kt_len, List.length_map, List.length_replicate]; decide) rfl rfl (by kernel_rfl) (U_one _) ?_; intro w1 hr0 hs; have hr := row64 Kt_len hr0; clear hr0)
  exact bodyPost_ret_by (results_Row Try.results24 _ w1 w.heap.size 58 _ _ rfl hr Try.underlying58 rfl (by kernel_rfl)) rfl ⟨rfl, hs.below ((Below.refl _ _).alloc (Nat.le_refl _) _) (Nat.le_refl _)⟩

set_option maxHeartbeats 400000 in
set_option maxRecDepth 100000 in
theorem rounds_any (w : World) : Calls Try.prog 31 #[] w fun e w' => e = .returned (.agg (Kt.map U).toArray) ∧ Below w.heap.size w w' := by
  go_enter Try.func31, Try.ntmps31
  go_wp2_with (refine wpList_store_Row rfl 58 _ _ rfl w.heap.size 58 0 ((List.replicate 64 (0 : Wd)).map U) (Kt.map U) (Row.at _ _ _ _ _ rfl rfl) (by rw [List.length_map, Kt_len, List.length_map, List.length_replicate]; decide) rfl rfl (by kernel_rfl) (U_one _) ?_; intro w1 hr0 hs; have hr := row64 Kt_len hr0; clear hr0)
  exact bodyPost_ret_by (results_Row Try.results31 _ w1 w.heap.size 58 _ _ rfl hr Try.underlying58 rfl (by kernel_rfl)) rfl ⟨rfl, hs.below ((Below.refl _ _).alloc (Nat.le_refl _) _) (Nat.le_refl _)⟩

end Go.Proofs.Ytikakngpbahhgaa
