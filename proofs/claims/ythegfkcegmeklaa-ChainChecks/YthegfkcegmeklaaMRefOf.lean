
import Derived.Test.YthegfkcegmeklaaMRef
namespace Go.Proofs.Ythegfkcegmeklaa
open Go.RowKit

set_option maxHeartbeats 1000000 in
set_option maxRecDepth 100000 in
theorem refMac_any (ao bo : Option Addr) (na ca nb cb : Nat) (k b : List By) (hna : k.length = na) (hnb : b.length = nb) (w : World) (hk : IsB w ao k) (hb : IsB w bo b) (hnk : ao = none → ca = 0) (hbk : bo = none → cb = 0)
    (hma : na ≤ 140737488353280) (hmb : nb ≤ 140737488353000) :
    Calls Try.prog 38 #[.slice ao na ca, .slice bo nb cb] w fun e w' => e = .returned (.agg ((tag k b).map B8).toArray) ∧ Below w.heap.size w w' := by
  have HA : Hid (k.length = na) := hna
  have HB : Hid (b.length = nb) := hnb
  have IK : Hid (IsB w ao k) := hk
  have IB : Hid (IsB w bo b) := hb
  clear hna hnb hk hb
  have HT : Hid (tag k b = sha (tn (kb k) 92#8 ++ sha (tn (kb k) 54#8 ++ b))) := rfl
  have hkbl := kb_len k
  have b0 : ∀ o1, Below w.heap.size w (w.alloc o1) := fun o1 => (Below.refl _ _).alloc (Nat.le_refl _) _
  go_enter Try.func38, Try.ntmps38
  go_wp2_with fail
  have r0 := Row.at w 32 ((List.replicate 32 (0 : By)).map B8) _ _ rfl rfl
  refine (block_any ao ca na k HA.out _ (IK.out.below (b0 _) (Nat.le_refl _)) hnk hma).mono ?_
  rintro e w1 ⟨ao1, c1, rfl, ho1, hb1⟩
  replace r0 := r0.below hb1 (by simp)
  have bb : Below w.heap.size w w1 := (b0 _).trans (hb1.mono (by simp))
  have i54 := tn_len (kb k) 54#8
  have i92 := tn_len (kb k) 92#8
  rw [hkbl] at i54 i92
  generalize kb k = K at *
  clear hb1
  go_wp2_with fail
  refine (over_any ao1 c1 64 K 54#8 hkbl w1 (own_IsB ho1) (by omega)).mono ?_
  rintro e w2 ⟨ao2, c2, rfl, ho2, hb2⟩
  have ib2 : Hid (IsB w2 bo b) := IB.out.below (bb.trans (hb2.mono bb.size)) (Nat.le_refl _)
  go_wp2_with (at_builtin; refine wpList_append_more rfl (.tmp 12) (.tmp 13) rfl w1.heap.size w1 ao2 64 c2 _ rfl i54 ho2 hb2 bo nb cb b rfl HB.out ib2.out hbk (by omega) ?_; intro ao3 c3 w3 ho3 hb3)
  replace r0 := r0.below hb3 r0.lt
  replace bb := bb.trans (hb3.mono bb.size)
  replace ho1 := ho1.keep hb3
  obtain ⟨hl3, hn3, hc3, _⟩ := own_isb ho3
  have is3 : Hid (IsB w3 ao3 (tn K 54#8 ++ b)) := own_IsB ho3
  clear hb2 hb3 ho2 ho3 ib2
  generalize hI : tn K 54#8 ++ b = I at *
  have hsl := shaLen I
  generalize hS : sha I = S at *
  have HS : Hid (sha I = S) := hS
  clear hS hI
  refine (ref_n ao3 c3 (64 + nb) I hl3 S HS.out _ is3.out hn3 (by omega)).mono ?_
  rintro e w4 ⟨rfl, hb4⟩
  replace r0 := r0.below hb4 r0.lt
  replace bb := bb.trans (hb4.mono bb.size)
  replace ho1 := ho1.keep hb4
  clear hb4 is3
  have hz4 := r0.lt
  generalize hHB : w4.heap.size = HB at *
  go_wp2_with (refine wpList_store_Row rfl 32 _ _ rfl HB 32 0 ((List.replicate 32 (0 : By)).map B8) (S.map B8) (Row.at _ _ _ _ _ hHB.symm rfl) (by simp [hsl]) rfl rfl (by rw [List.length_map, hsl]; kernel_rfl) (B8_one _) ?_; intro w5 hr5 hs5; have r5 := row_whole hr5 (by simp [hsl]); have bl5 : Below w4.heap.size w4 w5 := hs5.below ((Below.refl _ _).alloc (Nat.le_refl _) _) (by omega))
  replace r0 := r0.below bl5 (by omega)
  replace bb := bb.trans (bl5.mono (by omega))
  replace ho1 := ho1.keep bl5
  clear bl5 hr5 hs5 hHB
  have is1 : Hid (IsB w5 ao1 K) := own_IsB ho1
  clear ho1
  have hz5 := r5.lt
  go_region_law (first
    | (go_simp; go_at_call 53; refine (over_any ao1 c1 64 K 92#8 hkbl _ (is1.out.below (Below.refl _ _).drew (Nat.le_refl _)) (by omega)).mono ?_; rintro e w6 ⟨ao6, c6, rfl, ho6, hb6⟩; have r6 := r5.drew.below hb6 (by simpa using hz5); go_simp)
    | (refine step_append_more rfl (.tmp 18) (.tmp 19) rfl _ _ ao6 64 c6 _ rfl i92 ho6 hb6 _ 32 _ S rfl hsl (row_isb r6) (fun h => by cases h) (by omega) ?_; intro ao7 c7 w7 ho7 hb7))
  all_goals
    replace ho7 : Own w5.heap.size w7 (.slice ao7 96 c7) (tn K 92#8 ++ S) := ho7
    have b7 : Below w5.heap.size w5 w7 := ((Below.refl _ _).drew).trans hb7
    replace r0 := r0.below b7 r0.lt
    replace bb := bb.trans (b7.mono bb.size)
    obtain ⟨hl7, hn7, hc7, _⟩ := own_isb ho7
    have is7 : Hid (IsB w7 ao7 (tn K 92#8 ++ S)) := own_IsB ho7
    clear b7 hb7 ho7 ho6 hb6 r6 r5
    generalize hO : tn K 92#8 ++ S = O at *
    have hsl2 := shaLen O
    generalize hS2 : sha O = S2 at *
    have HS2 : Hid (sha O = S2) := hS2
    clear hS2 hO
    go_wp2_with fail
    refine (ref_n ao7 c7 96 O hl7 S2 HS2.out _ is7.out hn7 (by omega)).mono ?_
    rintro e w8 ⟨rfl, hb8⟩
    replace r0 := r0.below hb8 r0.lt
    replace bb := bb.trans (hb8.mono bb.size)
    clear hb8 is7
    generalize hN : w.heap.size = N at *
    go_wp2_with (refine wpList_store_Row rfl 32 _ _ rfl _ _ 0 _ (S2.map B8) r0 (by simp [hsl2]) rfl rfl (by rw [List.length_map, hsl2]; kernel_rfl) (B8_one _) ?_; intro w9 hr9 hs9)
    have hr := row_whole hr9 (by simp [hsl2])
    exact bodyPost_ret_by (results_Row Try.results38 _ w9 N 32 _ _ rfl hr Try.underlying32 rfl (by rw [List.length_map, hsl2]; kernel_rfl)) rfl ⟨by rw [HT.out], by rw [hN]; exact hs9.below bb (Nat.le_refl _)⟩
end Go.Proofs.Ythegfkcegmeklaa
