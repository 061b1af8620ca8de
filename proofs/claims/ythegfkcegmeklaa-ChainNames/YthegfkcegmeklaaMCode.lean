
import Derived.Test.YthegfkcegmeklaaMRefOf
import Derived.Test.YthegfkcegmeklaaOf
/-! The code's HMAC. -/
namespace Go.Proofs.Ythegfkcegmeklaa
open Go.RowKit

theorem of_n (ao : Option Addr) (cap n : Nat) (m : List By) (hn : m.length = n) (sm : List By) (hsm : sha m = sm) (w : World) (hb : IsB w ao m) (hcap : n ≤ cap) (hm : n ≤ 140737488353280) :
    Calls Try.prog 31 #[.slice ao n cap] w fun e w' => e = .returned (.agg (sm.map B8).toArray) ∧ Below w.heap.size w w' := by
  subst hn; subst hsm; exact of_any ao cap m w hb hcap hm

theorem kb_splice (L : List By) (_ : L.length ≤ 64) : splice ((List.replicate 64 (0 : By)).map B8) 0 (L.map B8) = (L ++ List.replicate (64 - L.length) 0).map B8 := by
  rw [splice, List.take_zero, List.nil_append, Nat.zero_add, List.length_map, List.map_append, ← List.map_drop, List.drop_replicate]

set_option maxHeartbeats 1000000 in
set_option maxRecDepth 100000 in
theorem blockKey_any (ao : Option Addr) (cap nk : Nat) (k : List By) (hk : k.length = nk) (w : World) (hb : IsB w ao k) (hcap : nk ≤ cap) (hm : nk ≤ 140737488353280) :
    Calls Try.prog 65 #[.slice ao nk cap] w fun e w' => e = .returned (.agg ((kb k).map B8).toArray) ∧ Below w.heap.size w w' := by
  have HK : Hid (k.length = nk) := hk
  have IB : Hid (IsB w ao k) := hb
  clear hk hb
  have hkbl := kb_len k
  have b0 : ∀ o1, Below w.heap.size w (w.alloc o1) := fun o1 => (Below.refl _ _).alloc (Nat.le_refl _) _
  have r0 := Row.at w 93 ((List.replicate 64 (0 : By)).map B8) _ _ rfl rfl
  by_cases hlong : 64 < nk
  · have i0 : (64 : Int) < (nk : Int) := by omega
    have HKB : Hid (kb k = sha k ++ List.replicate (64 - (sha k).length) 0) := by show _ = _; rw [kb_long k (by rw [HK.out]; exact hlong), shaLen]
    have hl32 := shaLen k
    generalize hL0 : sha k = L at *
    have HS : Hid (sha k = L) := hL0
    clear hL0
    go_enter Try.func65, Try.ntmps65
    go_wp2_with fail
    refine (of_n ao cap nk k HK.out L HS.out _ (IB.out.below (b0 _) (Nat.le_refl _)) hcap hm).mono ?_
    rintro e w1 ⟨rfl, hb1⟩
    replace r0 := r0.below hb1 (by simp)
    have bb : Below w.heap.size w w1 := (b0 _).trans (hb1.mono (by simp))
    clear hb1
    have hz0 := r0.lt
    generalize hHB : w1.heap.size = HB at *
    have hmin : (L.map B8).length = Nat.min 32 64 := by rw [List.length_map, hl32]; rfl
    have hfit : 0 + (L.map B8).length ≤ ((List.replicate 64 (0 : By)).map B8).length := by rw [List.length_map, hl32, List.length_map, List.length_replicate]; omega
    have HSRC : Hid (∀ w2 : World, Row w2 HB 32 (L.map B8) → ∀ o1, ∀ j v, (L.map B8)[j]? = some v → (w2.alloc o1).cell? (Addr.add ⟨HB, 0, none⟩ j) = some v) := fun w2 r2 o1 j v hj => by
      rw [Addr.add_mid, Nat.zero_add]; exact (r2.alloc o1).cell j v hj
    go_wp2_with (first
      | (refine wpList_store_Row rfl 32 _ _ rfl HB 32 0 ((List.replicate 32 (0 : By)).map B8) (L.map B8) (Row.at _ _ _ _ _ hHB.symm rfl) (by simp [hl32]) rfl rfl (by rw [List.length_map, hl32]; kernel_rfl) (B8_one _) ?_; intro w2 hr2 hs2; have r2 := row_whole hr2 (by simp [hl32]); have bl2 : Below w1.heap.size w1 w2 := hs2.below ((Below.refl _ _).alloc (Nat.le_refl _) _) (by omega); have r02 := r0.below bl2 (by omega); have bb2 := bb.trans (bl2.mono (by omega)); have hz2 : HB < w2.heap.size := r2.lt; have rk := Row.at w2 93 ((List.replicate 64 (0 : By)).map B8) _ _ rfl rfl)
      | (refine wpList_copy_splice rfl (.tmp 11) (.tmp 12) 36 36 rfl 5 Try.underlying36 (by kernel_rfl) _ _ 64 64 32 32 rfl rfl w2.heap.size 0 ((List.replicate 64 (0 : By)).map B8) 93 rk (L.map B8) hmin (fun _ => ⟨rfl, ⟨HB, 0, none⟩, rfl, HSRC.out w2 r2 _⟩) hfit (B8_one _) w2.heap.size w2 ((Below.refl _ _).alloc (Nat.le_refl _) _) (Nat.le_refl _) ?_; intro w4 hr4 hb4; have r4 : Row w4 w2.heap.size 93 ((kb k).map B8) := by (have h4 := hr4.out; rw [kb_splice L (by omega), ← HKB.out] at h4; exact h4))
      | (refine wpList_load_Row rfl 93 _ rfl _ _ _ r4 rfl _ Try.underlying93 rfl (by rw [List.length_map, hkbl]; kernel_rfl) ?_)
      | (refine wpList_store_Row rfl 93 _ _ rfl w.heap.size 93 0 _ ((kb k).map B8) (r02.below hb4 (by omega)) (by simp [hkbl]) rfl rfl (by rw [List.length_map, hkbl]; kernel_rfl) (B8_one _) ?_; intro w9 hr9 hs9))
    have hr := row_whole hr9 (by simp [hkbl])
    exact bodyPost_ret_by (results_Row Try.results65 _ w9 w.heap.size 93 _ _ rfl hr Try.underlying93 rfl (by rw [List.length_map, hkbl]; kernel_rfl)) rfl ⟨rfl, hs9.below (bb2.trans (hb4.mono (by omega))) (Nat.le_refl _)⟩
  · have i0 : ¬ (64 : Int) < (nk : Int) := by omega
    have HKB : Hid (kb k = k ++ List.replicate (64 - k.length) 0) := by show _ = _; rw [kb_short k (by rw [HK.out]; omega)]
    have b1 : ∀ o1 o2, Below (w.heap.size + 1) (w.alloc o1) ((w.alloc o1).alloc o2) := fun o1 o2 => (Below.refl _ _).alloc (by simp) _
    have rk : Row ((w.alloc (.cells ((List.replicate 64 (0 : By)).map B8).toArray 93)).alloc (.cells ((List.replicate 64 (0 : By)).map B8).toArray 93)) (w.heap.size + 1) 93 ((List.replicate 64 (0 : By)).map B8) := Row.at _ _ _ _ _ (by simp) rfl
    have ib : Hid (∀ o1 o2, IsB ((w.alloc o1).alloc o2) ao k) := fun o1 o2 => (IB.out.below (b0 o1) (Nat.le_refl _)).below (b1 o1 o2) (by simp)
    go_enter Try.func65, Try.ntmps65
    go_wp2_with (first
      | (refine wpList_copy_splice rfl (.tmp 11) (.tmp 12) 36 36 rfl 5 Try.underlying36 (by kernel_rfl) _ _ 64 64 nk cap rfl rfl (w.heap.size + 1) 0 ((List.replicate 64 (0 : By)).map B8) 93 rk (k.map B8) (by rw [List.length_map, HK.out]; show nk = min nk 64; omega) (fun hp => ⟨rfl, by
            rcases ib.out _ _ with h | ⟨B, off, rfl, hc⟩
            · rw [h] at hp; simp at hp
            · refine ⟨⟨B, off, none⟩, rfl, fun j v hj => ?_⟩
              rw [List.getElem?_map] at hj
              cases hx : k[j]? with
              | none => rw [hx] at hj; cases hj
              | some x => rw [hx] at hj; injection hj with hj; subst hj; rw [Addr.add_mid]; exact hc j x hx⟩) (by have := HK.out; simp; omega) (B8_one _) (w.heap.size + 1) _ (b1 _ _) (Nat.le_refl _) ?_; intro w4 hr4 hb4; have r4 : Row w4 (w.heap.size + 1) 93 ((kb k).map B8) := by (have h4 := hr4.out; rw [kb_splice k (by have := HK.out; omega), ← HKB.out] at h4; exact h4))
      | (refine wpList_load_Row rfl 93 _ rfl _ _ _ r4 rfl _ Try.underlying93 rfl (by rw [List.length_map, hkbl]; kernel_rfl) ?_)
      | (refine wpList_store_Row rfl 93 _ _ rfl w.heap.size 93 0 _ ((kb k).map B8) (r0.below hb4 (by omega)) (by simp [hkbl]) rfl rfl (by rw [List.length_map, hkbl]; kernel_rfl) (B8_one _) ?_; intro w9 hr9 hs9))
    have hr := row_whole hr9 (by simp [hkbl])
    exact bodyPost_ret_by (results_Row Try.results65 _ w9 w.heap.size 93 _ _ rfl hr Try.underlying93 rfl (by rw [List.length_map, hkbl]; kernel_rfl)) rfl ⟨rfl, hs9.below ((b0 _).trans (hb4.mono (by omega))) (Nat.le_refl _)⟩
end Go.Proofs.Ythegfkcegmeklaa
