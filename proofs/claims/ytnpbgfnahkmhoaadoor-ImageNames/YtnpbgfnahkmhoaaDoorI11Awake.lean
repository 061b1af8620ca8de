
import Derived.Test.YtnpbgfnahkmhoaaDoorI11Code
import Derived.Test.YtnpbgfnahkmhoaaDoorI11Told
import Derived.DeepKeys
/-! awake: some answers that the document fixes. -/
namespace Go.Proofs.YtnpbgfnahkmhoaaDoor
open Go.RowKit

def cA : List By := cover 1 2 258 [170#8]
theorem cA_len : cA.length = 17 := rfl
theorem parse_cA (t : List By) (ht : t.length = 32) : parse (cA ++ t) = .img 1 2 258 [170#8] t := parse_cover 1 2 258 [170#8] t (by omega) (by omega) (by omega) (by simp) ht
theorem parse_nil : parse [] = .wrong 6 0 := rfl
theorem eq_wrong (a b : Nat) (ha : a < 4294967296) (hb : b < 4294967296) (w : World) : (Op.equalIn 10000 39 (.agg #[.int .i64 a, .int .i64 b]) (.agg #[.int .i64 a, .int .i64 b])).run Tryd.prog w = .ok true w := by
  have hf : (Value.agg #[.int .i64 a, .int .i64 b]).formed Tryd.prog 39 = true := by
    simp [Value.formed, Tryd.underlying39, show Tryd.prog.cellsOf 39 = 2 by kernel_rfl]
  have hk' : Tryd.prog.keyLits 2 39 (Value.agg #[.int .i64 a, .int .i64 b]).cells.toList = some [.int .i64 a, .int .i64 b] := by
    have w1 : (Lit.int .i64 (a : Int)).wf = true := WalkArith.wf_i64 (by omega)
    have w2 : (Lit.int .i64 (b : Int)).wf = true := WalkArith.wf_i64 (by omega)
    have c3 : Tryd.prog.cellsOf 3 = 1 := by kernel_rfl
    have c28 : Tryd.prog.cellsOf 28 = 1 := by kernel_rfl
    simp [Program.keyLits, Tryd.underlying39, Tryd.underlying3, Tryd.underlying28, Value.cells, w1, w2, c3, c28]
    exact (show (2 : Nat) = Tryd.prog.cellsOf 39 by kernel_rfl)
  obtain ⟨r, hr, hiff⟩ := run_equalIn_deep (P := Tryd.prog) 9998 2 39 (by kernel_rfl) w 2 2 _ _ _ _ hf hf hk' hk'
  rw [hr, hiff.2 rfl]

set_option maxHeartbeats 1000000 in
set_option maxRecDepth 100000 in
theorem awake_any (w : World) (hg : HG w) : Calls Tryd.prog 9 #[] w fun e w' => e = .returned (.bool true) ∧ Below w.heap.size w w' := by
  have HGW : Hid (HG w) := hg
  have b1 : Below w.heap.size w (w.alloc (.cells #[.int .u8 170] 5)) := (Below.refl _ _).alloc (Nat.le_refl _) _
  have ib : IsB (w.alloc (.cells #[.int .u8 170] 5)) (some ⟨w.heap.size, 0, none⟩) [170#8] := row_isb (Row.at w 5 [B8 170#8] _ _ rfl rfl)
  have MK := cmake_ok none 0 0 [] rfl 1 2 258 (some ⟨w.heap.size, 0, none⟩) 1 1 [170#8] (List.replicate 32 0) rfl rfl _ (.inl rfl) (fun _ => rfl) (by omega) (by omega) ib (fun h => by cases h) (by omega) (by omega) (by omega) (by omega) (by omega)
  have htl : (tag [] cA).length = 32 := tag_len _ _
  have PC := parse_cA (tag [] cA) htl
  change Calls _ _ _ _ (fun e w' => ∃ ao' c', e = .returned (.tuple #[.slice ao' 49 c', .int .i64 0]) ∧ Own _ w' (.slice ao' 49 c') (cA ++ tag [] cA) ∧ Below _ _ w') at MK
  generalize tag [] cA = TG at *
  clear hg ib
  go_enter Tryd.func9, Tryd.ntmps9
  go_wp2_with fail
  refine MK.mono ?_
  rintro e w2 ⟨ao2, c2, rfl, ho2, hb2⟩
  rw [show (w.alloc (.cells #[.int .u8 170] 5)).heap.size = w.heap.size + 1 by simp] at ho2 hb2
  have bb2 := b1.trans (hb2.mono (by omega))
  obtain ⟨l2, n2, k2, _⟩ := own_isb ho2
  clear MK b1 hb2
  obtain ⟨gb, rfl, _, _⟩ := ho2.at (by omega)
  have PA := cparse_img (some ⟨gb, 0, none⟩) 49 c2 (cA ++ TG) l2 w2 (own_IsB ho2) n2 (by omega) 1 2 258 [170#8] TG PC
  clear PC
  go_wp2_with fail
  refine PA.mono ?_
  clear PA
  rintro e w3 ⟨ao3, c3, rfl, _, hb3⟩
  have ho3 := ho2.keep hb3
  have bb3 := bb2.trans (hb3.mono bb2.size)
  have hil := imgC_len 1 2 258 (.slice ao3 1 c3) TG htl
  have h1 := imgC_one 1 2 258 ao3 1 c3 TG
  have i0 : (imgC 1 2 258 (.slice ao3 1 c3) TG)[0]? = some (.int .i64 1) := rfl
  have i1 : (imgC 1 2 258 (.slice ao3 1 c3) TG)[1]? = some (.int .i64 2) := rfl
  have i2 : (imgC 1 2 258 (.slice ao3 1 c3) TG)[2]? = some (.int .i64 258) := rfl
  change (imgC ((1 : Nat) : Int) ((2 : Nat) : Int) ((258 : Nat) : Int) (.slice ao3 1 c3) TG).length = 36 at hil
  have e0 : imgC ((1 : Nat) : Int) ((2 : Nat) : Int) ((258 : Nat) : Int) (.slice ao3 [170#8].length c3) TG = imgC 1 2 258 (.slice ao3 1 c3) TG := rfl
  rw [e0]
  change (imgC 1 2 258 (.slice ao3 1 c3) TG).length = 36 at hil
  generalize imgC 1 2 258 (.slice ao3 1 c3) TG = IM at *
  clear e0 hb3 ho2 bb2
  generalize hG3 : w3.heap.size = G3 at *
  have rz := Row.at w3 27 zImg zImg.toArray G3 hG3.symm rfl
  have b4 : Below w.heap.size w (w3.alloc (.cells zImg.toArray 27)) := bb3.alloc (by have := bb3.size; omega) _
  have ho4 := ho3.keep ((Below.refl w3.heap.size w3).alloc (Nat.le_refl _) (.cells zImg.toArray 27))
  go_wp2_with (refine wpList_store_Row rfl 27 _ _ rfl G3 27 0 zImg IM rz (by rw [hil]; exact Nat.le_refl _) rfl rfl (by rw [hil]; kernel_rfl) h1 ?_; intro w4 hr4 hs4)
  have r4 := row_whole hr4 (by rw [hil]; exact Nat.le_of_eq zImg_len)
  have hgb : gb ≠ G3 := by have := ho3.lt.2; omega
  have o4 := ho4.but hs4 (fun h => by injection h with h; injection h with h; exact hgb h)
  have bb4 := hs4.below b4 (by have := bb3.size; omega)
  clear hr4 hs4 ho4 b4 rz ho3 bb3
  have PB := cparse_wrong none 0 0 [] rfl w4 (.inl rfl) (fun _ => rfl) (by omega) (by omega) 6 0 parse_nil
  refine PB.mono ?_
  clear PB
  rintro e w5 ⟨ao5, c5, ge, rfl, _, hge, re5, hb5⟩
  replace o4 := o4.keep hb5
  replace r4 := r4.below hb5 r4.lt
  have bb5 := bb4.trans (hb5.mono bb4.size)
  have h2 := imgC_one 0 0 0 ao5 0 c5 (List.replicate 32 0)
  have hil2 := imgC_len 0 0 0 (.slice ao5 0 c5) (List.replicate 32 0) rfl
  generalize imgC 0 0 0 (.slice ao5 0 c5) (List.replicate 32 0) = IM2 at *
  clear hb5 bb4 hG3
  generalize hG5 : w5.heap.size = G5 at *
  have rz := Row.at w5 27 zImg zImg.toArray G5 hG5.symm rfl
  have hg3 := r4.lt
  have hge5 := re5.lt
  have hgb5 := o4.lt.2
  have b4 : Below w.heap.size w (w5.alloc (.cells zImg.toArray 27)) := bb5.alloc (by have := bb5.size; omega) _
  replace o4 := o4.keep ((Below.refl w5.heap.size w5).alloc (Nat.le_refl _) (.cells zImg.toArray 27))
  replace r4 := r4.alloc (.cells zImg.toArray 27)
  replace re5 := re5.alloc (.cells zImg.toArray 27)
  go_wp2_with (refine wpList_store_Row rfl 27 _ _ rfl G5 27 0 zImg IM2 rz (by rw [hil2]; exact Nat.le_refl _) rfl rfl (by rw [hil2]; kernel_rfl) h2 ?_; intro w6 _ hs6)
  have o6 := o4.but hs6 (fun h => by injection h with h; injection h with h; omega)
  have r6 := r4.but hs6 (by omega)
  have e6 := re5.but hs6 (by omega)
  have bb6 := hs6.below b4 (by have := bb5.size; omega)
  clear hs6 b4 o4 r4 re5 rz bb5
  refine (told_wrong ge 6 0 w6 (HGW.out.below bb6 HGW.out.lt) e6 (by omega)).mono ?_
  rintro e w7 ⟨rfl, hb7⟩
  replace o6 := o6.keep hb7
  replace r6 := r6.below hb7 r6.lt
  have bb7 := bb6.trans (hb7.mono bb6.size)
  clear hb7 e6 bb6
  have o8 := fun o1 => o6.keep ((Below.refl w7.heap.size w7).alloc (Nat.le_refl _) o1)
  have r8 := fun o1 => r6.alloc o1
  have bb8 : ∀ o1, Below w.heap.size w (w7.alloc o1) := fun o1 => bb7.alloc bb7.size _
  have HCB : Hid (∀ W, IsB W (some ⟨gb, 0, none⟩) (cA ++ TG) → Calls Tryd.prog 17 #[.slice (some ⟨gb, 0, none⟩) 49 c2] W fun e w' => ∃ ao' c', e = .returned (.slice ao' 17 c') ∧ Own W.heap.size w' (.slice ao' 17 c') ((cA ++ TG).take 17) ∧ Below W.heap.size W w') := fun W h => cbody_any (some ⟨gb, 0, none⟩) 49 c2 (cA ++ TG) l2 W h (fun h => by cases h) (by omega) (by omega)
  have c8 := (o8 (.cells #[.int .i64 6, .int .i64 0] 39)).cell 8 (by omega)
  have c9 := (o8 (.cells #[.int .i64 6, .int .i64 0] 39)).cell 9 (by omega)
  have t8 : (cA ++ TG).getD 8 0 = 2#8 := rfl
  have t9 : (cA ++ TG).getD 9 0 = 1#8 := rfl
  rw [t8] at c8
  rw [t9] at c9
  change _ = some (Value.int .u8 2) at c8
  change _ = some (Value.int .u8 1) at c9
  have x0 := (r8 (.cells #[.int .i64 6, .int .i64 0] 39)).cell 0 _ i0
  have x1 := (r8 (.cells #[.int .i64 6, .int .i64 0] 39)).cell 1 _ i1
  have x2 := (r8 (.cells #[.int .i64 6, .int .i64 0] 39)).cell 2 _ i2
  have qe := eq_wrong 6 0 (by omega) (by omega)
  have IB8 := own_IsB (o8 (.cells #[.int .i64 6, .int .i64 0] 39))
  have BB8 := bb8 (.cells #[.int .i64 6, .int .i64 0] 39)
  clear o8 r8 bb8 t8 t9 hil2 h2 hil h1 i0 i1 i2 hG5 o6 r6
  go_wp2_with (go_at_call 17; refine (HCB.out _ IB8).mono ?_; rintro e w9 ⟨ao9, c9', rfl, _, hb9⟩)
  go_ret
  exact ⟨rfl, BB8.trans (hb9.mono BB8.size)⟩
end Go.Proofs.YtnpbgfnahkmhoaaDoor
