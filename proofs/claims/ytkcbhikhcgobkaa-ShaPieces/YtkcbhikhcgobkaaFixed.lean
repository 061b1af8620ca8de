import Derived.Test.YtkcbhikhcgobkaaOf
namespace Go.Proofs.Ytkcbhikhcgobkaa
open Go.RowKit

theorem sha_abc : sha [97#8, 98#8, 99#8] = [186#8, 120#8, 22#8, 191#8, 143#8, 1#8, 207#8, 234#8, 65#8, 65#8, 64#8, 222#8, 93#8, 174#8, 34#8, 35#8, 176#8, 3#8, 97#8, 163#8, 150#8, 23#8, 122#8, 156#8, 180#8, 16#8, 255#8, 97#8, 242#8, 0#8, 21#8, 173#8] := by decide +kernel

set_option maxHeartbeats 1000000 in
set_option maxRecDepth 100000 in
theorem fixed_any (w : World) : Calls Try.prog 7 #[] w fun e w' => e = .returned (.bool true) ∧ Below w.heap.size w w' := by
  go_enter Try.func7, Try.ntmps7
  go_wp2_with fail
  have r0 : Row (w.alloc (.cells #[.int .u8 97, .int .u8 98, .int .u8 99] 5)) w.heap.size 5 ([97#8, 98#8, 99#8].map B8) := Row.at _ _ _ _ _ rfl rfl
  have b0 : Below w.heap.size w (w.alloc (.cells #[.int .u8 97, .int .u8 98, .int .u8 99] 5)) := (Below.refl _ _).alloc (Nat.le_refl _) _
  have isb : IsB (w.alloc (.cells #[.int .u8 97, .int .u8 98, .int .u8 99] 5)) (some ⟨w.heap.size, 0, none⟩) [97#8, 98#8, 99#8] := by
    refine .inr ⟨w.heap.size, 0, rfl, fun j v hj => ?_⟩
    rw [Nat.zero_add]
    exact r0.cell j _ (by rw [List.getElem?_map, hj]; rfl)
  refine (of_any (some ⟨w.heap.size, 0, none⟩) 3 [97#8, 98#8, 99#8] _ isb (by simp) (by simp)).mono ?_
  rintro e w1 ⟨rfl, hb1⟩
  have bb : Below w.heap.size w w1 := b0.trans (hb1.mono (by simp))
  have hsz : w.heap.size < w1.heap.size := by have := hb1.size; simp at this; omega
  rw [sha_abc]
  clear hb1 isb r0 b0
  generalize hsm : ([186#8, 120#8, 22#8, 191#8, 143#8, 1#8, 207#8, 234#8, 65#8, 65#8, 64#8, 222#8, 93#8, 174#8, 34#8, 35#8, 176#8, 3#8, 97#8, 163#8, 150#8, 23#8, 122#8, 156#8, 180#8, 16#8, 255#8, 97#8, 242#8, 0#8, 21#8, 173#8] : List By) = sm
  have hsl : sm.length = 32 := by rw [← hsm]; rfl
  have v0 : sm[0]? = some 186#8 := by rw [← hsm]; rfl
  have v1 : sm[1]? = some 120#8 := by rw [← hsm]; rfl
  have v15 : sm[15]? = some 35#8 := by rw [← hsm]; rfl
  have v31 : sm[31]? = some 173#8 := by rw [← hsm]; rfl
  clear hsm
  generalize hHB : w1.heap.size = HB at *
  go_wp2_with (refine wpList_store_Row rfl 24 _ _ rfl HB 24 0 ((List.replicate 32 (0 : By)).map B8) (sm.map B8) (Row.at _ _ _ _ _ hHB.symm rfl) (by simp [hsl]) rfl rfl (by rw [List.length_map, hsl]; kernel_rfl) (B8_one _) ?_; intro w2 hr2 hs2; have r2 := row_whole hr2 (by simp [hsl]); have c0 : w2.cell? ⟨HB, 0, none⟩ = some (.int .u8 186) := r2.cell 0 _ (by rw [List.getElem?_map, v0]; rfl); have c1 : w2.cell? ⟨HB, 1, none⟩ = some (.int .u8 120) := r2.cell 1 _ (by rw [List.getElem?_map, v1]; rfl); have c15 : w2.cell? ⟨HB, 15, none⟩ = some (.int .u8 35) := r2.cell 15 _ (by rw [List.getElem?_map, v15]; rfl); have c31 : w2.cell? ⟨HB, 31, none⟩ = some (.int .u8 173) := r2.cell 31 _ (by rw [List.getElem?_map, v31]; rfl))
  go_ret
  exact ⟨rfl, hs2.below (bb.alloc (by omega) _) (by omega)⟩
end Go.Proofs.Ytkcbhikhcgobkaa
