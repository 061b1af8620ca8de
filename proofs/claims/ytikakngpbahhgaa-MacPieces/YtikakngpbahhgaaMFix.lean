import Derived.Test.YtikakngpbahhgaaMOf
import Derived.Lib.SlBytesConst
namespace Go.Proofs.Ytikakngpbahhgaa
open Go.RowKit

def kJ : List By := [74#8, 101#8, 102#8, 101#8]
def mJ : List By := [119#8, 104#8, 97#8, 116#8, 32#8, 100#8, 111#8, 32#8, 121#8, 97#8, 32#8, 119#8, 97#8, 110#8, 116#8, 32#8, 102#8, 111#8, 114#8, 32#8, 110#8, 111#8, 116#8, 104#8, 105#8, 110#8, 103#8, 63#8]
def tJ : List By := [91#8, 220#8, 193#8, 70#8, 191#8, 96#8, 117#8, 78#8, 106#8, 4#8, 36#8, 38#8, 8#8, 149#8, 117#8, 199#8, 90#8, 0#8, 63#8, 8#8, 157#8, 39#8, 57#8, 131#8, 157#8, 236#8, 88#8, 185#8, 100#8, 236#8, 56#8, 67#8]
theorem tag_jefe : tag kJ mJ = tJ := by decide +kernel

theorem isb_marked {w : World} {g t : Nat} {fz : Nat × Nat} {l : List By} (h : w.heap[g]? = some (.cells (l.map B8).toArray t fz)) : IsB w (some ⟨g, 0, none⟩) l :=
  .inr ⟨g, 0, rfl, fun j v hj => by rw [Nat.zero_add, cell_of_row w g j _ t fz h]; simp [hj]⟩

theorem macTag_n (ao bo : Option Addr) (na ca nb cb : Nat) (k b : List By) (hna : k.length = na) (hnb : b.length = nb) (t : List By) (ht : tag k b = t) (w : World) (hk : IsB w ao k) (hb : IsB w bo b) (hca : na ≤ ca) (hcb : nb ≤ cb)
    (hma : na ≤ 140737488353280) (hmb : nb ≤ 140737488353000) :
    Calls Try.prog 7 #[.slice ao na ca, .slice bo nb cb] w fun e w' => e = .returned (.agg (t.map B8).toArray) ∧ Below w.heap.size w w' := by
  subst ht; exact mac_any ao bo na ca nb cb k b hna hnb w hk hb hca hcb hma hmb
theorem refTag_n (ao bo : Option Addr) (na ca nb cb : Nat) (k b : List By) (hna : k.length = na) (hnb : b.length = nb) (t : List By) (ht : tag k b = t) (w : World) (hk : IsB w ao k) (hb : IsB w bo b) (hnk : ao = none → ca = 0) (hbk : bo = none → cb = 0)
    (hma : na ≤ 140737488353280) (hmb : nb ≤ 140737488353000) :
    Calls Try.prog 8 #[.slice ao na ca, .slice bo nb cb] w fun e w' => e = .returned (.agg (t.map B8).toArray) ∧ Below w.heap.size w w' := by
  subst ht; exact refMac_any ao bo na ca nb cb k b hna hnb w hk hb hnk hbk hma hmb

set_option maxHeartbeats 1000000 in
set_option maxRecDepth 100000 in
theorem fixed_any (w : World) : Calls Try.prog 11 #[] w fun e w' => e = .returned (.bool true) ∧ Below w.heap.size w w' := by
  have kc1 := Lib.run_convert_bytes_const (P := Try.prog) w 22 5 #[.int .u8 74, .int .u8 101, .int .u8 102, .int .u8 101] 4 4 Try.underlying22 Try.underlying5
  have kc2 := fun o1 : Obj => Lib.run_convert_bytes_const (P := Try.prog) (w.alloc o1) 22 5 #[.int .u8 119, .int .u8 104, .int .u8 97, .int .u8 116, .int .u8 32, .int .u8 100, .int .u8 111, .int .u8 32, .int .u8 121, .int .u8 97, .int .u8 32, .int .u8 119, .int .u8 97, .int .u8 110, .int .u8 116, .int .u8 32, .int .u8 102, .int .u8 111, .int .u8 114, .int .u8 32, .int .u8 110, .int .u8 111, .int .u8 116, .int .u8 104, .int .u8 105, .int .u8 110, .int .u8 103, .int .u8 63] 28 28 Try.underlying22 Try.underlying5
  have hz : ∀ o1 : Obj, (w.alloc o1).heap.size = w.heap.size + 1 := fun o1 => by simp
  simp only [hz] at kc2
  have i0 : IsB ((w.alloc (.cells (kJ.map B8).toArray 5 (4, 5))).alloc (.cells (mJ.map B8).toArray 5 (28, 29))) (some ⟨w.heap.size, 0, none⟩) kJ := isb_marked ((Below.heap_alloc _ _ _ (by simp)).trans (heap_alloc_new w _))
  have i1 : IsB ((w.alloc (.cells (kJ.map B8).toArray 5 (4, 5))).alloc (.cells (mJ.map B8).toArray 5 (28, 29))) (some ⟨w.heap.size + 1, 0, none⟩) mJ := isb_marked (by have := heap_alloc_new (w.alloc (.cells (kJ.map B8).toArray 5 (4, 5))) (.cells (mJ.map B8).toArray 5 (28, 29)); simpa using this)
  have b0 : Below w.heap.size w ((w.alloc (.cells (kJ.map B8).toArray 5 (4, 5))).alloc (.cells (mJ.map B8).toArray 5 (28, 29))) := ((Below.refl _ _).alloc (Nat.le_refl _) _).alloc (by simp) _
  have hm := macTag_n (some ⟨w.heap.size, 0, none⟩) (some ⟨w.heap.size + 1, 0, none⟩) 4 4 28 28 kJ mJ rfl rfl tJ tag_jefe _ i0 i1 (by omega) (by omega) (by omega) (by omega)
  clear i0 i1 hz
  go_enter Try.func11, Try.ntmps11
  go_wp2_with fail
  refine hm.mono ?_
  rintro e w1 ⟨rfl, hb1⟩
  have bb : Below w.heap.size w w1 := b0.trans (hb1.mono b0.size)
  have hsz := bb.size
  clear hb1 b0 hm
  generalize hsm : tJ = sm
  have hsl : sm.length = 32 := by rw [← hsm]; rfl
  have v0 : sm[0]? = some 91#8 := by rw [← hsm]; rfl
  have v1 : sm[1]? = some 220#8 := by rw [← hsm]; rfl
  have v31 : sm[31]? = some 67#8 := by rw [← hsm]; rfl
  clear hsm
  generalize hHB : w1.heap.size = HB at *
  go_wp2_with (refine wpList_store_Row rfl 24 _ _ rfl HB 24 0 ((List.replicate 32 (0 : By)).map B8) (sm.map B8) (Row.at _ _ _ _ _ hHB.symm rfl) (by simp [hsl]) rfl rfl (by rw [List.length_map, hsl]; kernel_rfl) (B8_one _) ?_; intro w2 hr2 hs2; have r2 := row_whole hr2 (by simp [hsl]); have c0 : w2.cell? ⟨HB, 0, none⟩ = some (.int .u8 91) := r2.cell 0 _ (by rw [List.getElem?_map, v0]; rfl); have c1 : w2.cell? ⟨HB, 1, none⟩ = some (.int .u8 220) := r2.cell 1 _ (by rw [List.getElem?_map, v1]; rfl); have c31 : w2.cell? ⟨HB, 31, none⟩ = some (.int .u8 67) := r2.cell 31 _ (by rw [List.getElem?_map, v31]; rfl))
  have b2 : Below w.heap.size w w2 := hs2.below (bb.alloc (by omega) _) (by omega)
  clear c0 c1 c31 hs2 hr2 r2
  have q1 : decide (([] : List By) = []) = true := by decide
  refine (equal_any none none 0 0 0 0 [] [] rfl rfl w2 (.inl rfl) (.inl rfl) (by omega) (by omega)).mono ?_
  rw [q1]
  rintro e w3 ⟨rfl, rfl⟩
  have r3 : Row (w3.alloc (.cells #[.int .u8 1] 5)) w3.heap.size 5 ([1#8].map B8) := Row.at _ _ _ _ _ rfl rfl
  have r4 : Row ((w3.alloc (.cells #[.int .u8 1] 5)).alloc (.cells #[.int .u8 2] 5)) (w3.heap.size + 1) 5 ([2#8].map B8) := Row.at _ _ _ _ _ (by simp) rfl
  have r3' := r3.alloc (.cells #[.int .u8 2] 5)
  have b4 : Below w.heap.size w ((w3.alloc (.cells #[.int .u8 1] 5)).alloc (.cells #[.int .u8 2] 5)) := (b2.alloc b2.size _).alloc (by have := b2.size; simp; omega) _
  have hq := equal_any (some ⟨w3.heap.size, 0, none⟩) (some ⟨w3.heap.size + 1, 0, none⟩) 1 1 1 1 [1#8] [2#8] rfl rfl _ (row_isb r3') (row_isb r4) (by omega) (by omega)
  have q2 : decide (([1#8] : List By) = [2#8]) = false := by decide
  rw [q2] at hq
  clear r3 r4 r3'
  go_wp2_with fail
  refine hq.mono ?_
  rintro e w5 ⟨rfl, rfl⟩
  go_wp2
  go_ret
  exact ⟨rfl, b4⟩
end Go.Proofs.Ytikakngpbahhgaa
