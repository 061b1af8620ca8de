
import Derived.Test.YthegfkcegmeklaaA
namespace Go.Proofs.Ythegfkcegmeklaa
open Go.RowKit

set_option maxHeartbeats 400000 in
set_option maxRecDepth 100000 in
theorem firstState_any (w : World) : Calls Try.prog 57 #[] w fun e w' => e = .returned (.agg (init8.list.map U).toArray) ∧ Below w.heap.size w w' := by
  go_enter Try.func57, Try.ntmps57
  go_wp2_with (refine wpList_store_Row rfl 84 _ _ rfl w.heap.size 84 0 ((List.replicate 8 (0 : Wd)).map U) (init8.list.map U) (Row.at _ _ _ _ _ rfl rfl) (by simp [S8.list]) rfl rfl (by kernel_rfl) (U_one _) ?_; intro w1 hr hs)
  exact bodyPost_ret_by (results_Row Try.results57 _ w1 w.heap.size 84 _ _ rfl (by simpa [S8.list] using hr) Try.underlying84 rfl (by kernel_rfl)) rfl ⟨rfl, hs.below ((Below.refl _ _).alloc (Nat.le_refl _) _) (Nat.le_refl _)⟩

set_option maxHeartbeats 400000 in
set_option maxRecDepth 100000 in
theorem begins_any (w : World) : Calls Try.prog 48 #[] w fun e w' => e = .returned (.agg (init8.list.map U).toArray) ∧ Below w.heap.size w w' := by
  go_enter Try.func48, Try.ntmps48
  go_wp2_with (refine wpList_store_Row rfl 84 _ _ rfl w.heap.size 84 0 ((List.replicate 8 (0 : Wd)).map U) (init8.list.map U) (Row.at _ _ _ _ _ rfl rfl) (by simp [S8.list]) rfl rfl (by kernel_rfl) (U_one _) ?_; intro w1 hr hs)
  exact bodyPost_ret_by (results_Row Try.results48 _ w1 w.heap.size 84 _ _ rfl (by simpa [S8.list] using hr) Try.underlying84 rfl (by kernel_rfl)) rfl ⟨rfl, hs.below ((Below.refl _ _).alloc (Nat.le_refl _) _) (Nat.le_refl _)⟩

theorem row64 {w : World} {g : Nat} {l : List Wd} (hl : l.length = 64) (h : Row w g 86 (((List.replicate 64 (0 : Wd)).map U).take 0 ++ l.map U ++ ((List.replicate 64 (0 : Wd)).map U).drop (0 + (l.map U).length))) : Row w g 86 (l.map U) := by
  rw [List.take_zero, List.nil_append, List.drop_eq_nil_of_le (by simp [hl]), List.append_nil] at h
  exact h

set_option maxHeartbeats 400000 in
set_option maxRecDepth 100000 in
theorem roundWords_any (w : World) : Calls Try.prog 58 #[] w fun e w' => e = .returned (.agg (Kt.map U).toArray) ∧ Below w.heap.size w w' := by
  go_enter Try.func58, Try.ntmps58
  go_wp2_with (refine wpList_store_Row rfl 86 _ _ rfl w.heap.size 86 0 ((List.replicate 64 (0 : Wd)).map U) (Kt.map U) (Row.at _ _ _ _ _ rfl rfl) (by rw [List.length_map, Kt_len, List.length_map, List.length_replicate]; decide) rfl rfl (by kernel_rfl) (U_one _) ?_; intro w1 hr0 hs; have hr := row64 Kt_len hr0; clear hr0)
  exact bodyPost_ret_by (results_Row Try.results58 _ w1 w.heap.size 86 _ _ rfl hr Try.underlying86 rfl (by kernel_rfl)) rfl ⟨rfl, hs.below ((Below.refl _ _).alloc (Nat.le_refl _) _) (Nat.le_refl _)⟩

set_option maxHeartbeats 400000 in
set_option maxRecDepth 100000 in
theorem rounds_any (w : World) : Calls Try.prog 49 #[] w fun e w' => e = .returned (.agg (Kt.map U).toArray) ∧ Below w.heap.size w w' := by
  go_enter Try.func49, Try.ntmps49
  go_wp2_with (refine wpList_store_Row rfl 86 _ _ rfl w.heap.size 86 0 ((List.replicate 64 (0 : Wd)).map U) (Kt.map U) (Row.at _ _ _ _ _ rfl rfl) (by rw [List.length_map, Kt_len, List.length_map, List.length_replicate]; decide) rfl rfl (by kernel_rfl) (U_one _) ?_; intro w1 hr0 hs; have hr := row64 Kt_len hr0; clear hr0)
  exact bodyPost_ret_by (results_Row Try.results49 _ w1 w.heap.size 86 _ _ rfl hr Try.underlying86 rfl (by kernel_rfl)) rfl ⟨rfl, hs.below ((Below.refl _ _).alloc (Nat.le_refl _) _) (Nat.le_refl _)⟩

end Go.Proofs.Ythegfkcegmeklaa
