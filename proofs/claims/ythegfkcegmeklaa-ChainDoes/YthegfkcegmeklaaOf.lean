
import Derived.Test.YthegfkcegmeklaaSum
namespace Go.Proofs.Ythegfkcegmeklaa
open Go.RowKit

theorem sha_len (m : List By) : (sha m).length = 32 := rfl

set_option maxHeartbeats 1000000 in
set_option maxRecDepth 100000 in
theorem of_any (ao : Option Addr) (cap : Nat) (m : List By) (w : World) (hb : IsB w ao m) (hcap : m.length ≤ cap) (hm : m.length ≤ 140737488353280) :
    Calls Try.prog 31 #[.slice ao m.length cap] w fun e w' => e = .returned (.agg ((sha m).map B8).toArray) ∧ Below w.heap.size w w' := by
  go_enter Try.func31, Try.ntmps31
  go_wp2_with fail
  have r0 := Row.at w 32 ((List.replicate 32 (0 : By)).map B8) _ _ rfl rfl
  have b1 : Below w.heap.size w (w.alloc (.cells ((List.replicate 32 (0 : By)).map B8).toArray 32)) := (Below.refl _ _).alloc (Nat.le_refl _) _
  have hz1 : (w.alloc (.cells ((List.replicate 32 (0 : By)).map B8).toArray 32)).heap.size = w.heap.size + 1 := by simp
  have nw := new_any (w.alloc (.cells ((List.replicate 32 (0 : By)).map B8).toArray 32))
  rw [hz1] at nw
  refine nw.mono ?_
  clear nw
  rintro e w2 ⟨g, rfl, hg, rg, hb2⟩
  replace r0 := r0.below hb2 (by omega)
  replace b1 := b1.trans (hb2.mono (by omega))
  clear hb2 hz1
  have dg : Dig w2 g [] := ⟨List.replicate 64 0, by simp, by simp, by simpa [hs] using rg⟩
  have hg2 := rg.lt
  have isb : IsBn g w2 ao m := by
    rcases hb.below b1 (Nat.le_refl _) with h | ⟨B, off, rfl, hc⟩
    · exact .inl h
    · refine .inr ⟨B, off, rfl, fun j v hj => ⟨?_, hc j v hj⟩⟩
      rcases hb with h | ⟨B', off', h', hc'⟩
      · rw [h] at hj; simp at hj
      · injection h' with h'
        injection h' with hB
        have := block_lt_of_cell (hc' j v hj)
        simp at this
        omega
  clear hb rg
  generalize hN : w.heap.size = N at *
  go_wp2_with fail
  refine (write_any g [] ao cap m w2 dg isb hcap (by simp; omega) (by omega)).mono ?_
  rintro e w3 ⟨rfl, dg3, k3⟩
  rw [List.nil_append] at dg3
  replace r0 := r0.kept k3 (by omega)
  replace b1 := k3.toBelow b1 (by omega) (by omega)
  clear k3 dg isb
  go_wp2_with fail
  refine (sum_any g m w3 dg3 (by omega)).mono ?_
  rintro e w4 ⟨rfl, hb4⟩
  have hz3 := r0.lt
  replace r0 := r0.below hb4 hz3
  replace b1 := b1.trans (hb4.mono (by omega))
  clear hb4 dg3
  have hsl := sha_len m
  generalize hsm : sha m = sm at *
  have HSM : Hid (sha m = sm) := hsm
  clear hsm
  go_wp2_with (refine wpList_store_Row rfl 32 _ _ rfl _ _ 0 _ (sm.map B8) r0 (by simp [hsl]) rfl rfl (by rw [List.length_map, hsl]; kernel_rfl) (B8_one _) ?_; intro w9 hr9 hs9)
  have hr := row_whole hr9 (by simp [hsl])
  exact bodyPost_ret_by (results_Row Try.results31 _ w9 N 32 _ _ rfl hr Try.underlying32 rfl (by rw [List.length_map, hsl]; kernel_rfl)) rfl ⟨by rw [HSM.out], by rw [hN]; exact hs9.below b1 (Nat.le_refl _)⟩
end Go.Proofs.Ythegfkcegmeklaa
