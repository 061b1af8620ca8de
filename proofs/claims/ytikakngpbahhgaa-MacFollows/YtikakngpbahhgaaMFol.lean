import Derived.Test.YtikakngpbahhgaaMOpen
namespace Go.Proofs.Ytikakngpbahhgaa
open Go.RowKit

set_option maxHeartbeats 1000000 in
set_option maxRecDepth 100000 in
theorem follows_any (ao bo : Option Addr) (na ca nb cb : Nat) (k b : List By) (hna : k.length = na) (hnb : b.length = nb) (w : World) (hk : IsB w ao k) (hb : IsB w bo b) (hnk : ao = none → ca = 0) (hca : na ≤ ca) (hcb : nb ≤ cb)
    (hma : na ≤ 140737488351232) (hmb : nb ≤ 140737488351232) :
    Calls Try.prog 6 #[.slice ao na ca, .slice bo nb cb] w fun e w' => e = .returned (.bool true) ∧ Below w.heap.size w w' := by
  have HA : Hid (k.length = na) := hna
  have HB : Hid (b.length = nb) := hnb
  have IK : Hid (∀ w', Below w.heap.size w w' → IsB w' ao k) := fun w' h => hk.below h (Nat.le_refl _)
  have IB : Hid (∀ w', Below w.heap.size w w' → IsB w' bo b) := fun w' h => hb.below h (Nat.le_refl _)
  have i1 : IsB w ao k := hk
  clear hna hnb hk hb
  obtain ⟨t, ht⟩ : ∃ t, t = tag k b := ⟨_, rfl⟩
  have HT : Hid (tag k b = t) := ht.symm
  have q1 := eq_self t (by rw [ht]; exact tag_len k b)
  clear ht
  have C1 : Hid (∀ w', Below w.heap.size w w' → Calls Try.prog 7 #[.slice ao na ca, .slice bo nb cb] w' fun e w'' => e = .returned (.agg (t.map B8).toArray) ∧ Below w'.heap.size w' w'') :=
    fun w' h => macTag_n ao bo na ca nb cb k b HA.out HB.out t HT.out w' (IK.out _ h) (IB.out _ h) hca hcb (by omega) (by omega)
  by_cases hlong : 64 < na
  · have j0 : (64 : Int) < (na : Int) := by omega
    have hl32 := shaLen k
    have HTS : Hid (tag (sha k) b = t) := by show _ = _; rw [tag_hash k b (by rw [HA.out]; exact hlong)]; exact HT.out
    generalize hL0 : sha k = L at *
    have HS : Hid (sha k = L) := hL0
    clear hL0
    go_enter Try.func6, Try.ntmps6
    go_wp2_with fail
    refine (of_n ao ca na k HA.out L HS.out _ i1 hca (by omega)).mono ?_
    rintro e w1 ⟨rfl, b1⟩
    generalize hHB : w1.heap.size = GB at *
    have hz1 := b1.size
    go_wp2_with (refine wpList_store_Row rfl 24 _ _ rfl GB 24 0 ((List.replicate 32 (0 : By)).map B8) (L.map B8) (Row.at _ _ _ _ _ hHB.symm rfl) (by simp [hl32]) rfl rfl (by rw [List.length_map, hl32]; kernel_rfl) (B8_one _) ?_; intro w2 hr2 hs2)
    have r2 := row_whole hr2 (by simp [hl32])
    have b2 : Below w.heap.size w w2 := hs2.below (b1.alloc (by omega) _) (by omega)
    have hz2 := r2.lt
    clear hr2 hs2 b1
    go_region_held3 (fun _ => True) (trivial) (first
      | (go_at_call 7; refine (macTag_n (some ⟨GB, 0, none⟩) bo 32 32 nb cb L b hl32 HB.out t HTS.out _ (row_isb r3) (IB.out _ bb3) (by omega) hcb (by omega) (by omega)).mono ?_; rintro e w4 ⟨rfl, hb4⟩; have bb4 := bb3.trans (hb4.mono bb3.size))
      | (go_at_call 7; refine (C1.out _ (b2.trans (((Below.refl _ _).drew).mono b2.size))).mono ?_; rintro e w3 ⟨rfl, hb3⟩; have b3 : Below w2.heap.size w2 w3 := ((Below.refl _ _).drew).trans hb3; have r3 := r2.below b3 hz2; have bb3 := b2.trans (b3.mono b2.size))
      | (go_at_call 11; refine (fixed_any _).mono ?_; rintro e w5 ⟨rfl, hb5⟩; have bb5 := bb4.trans (hb5.mono bb4.size)))
    go_wp2
    go_ret
    exact ⟨rfl, bb5⟩
  · have j0 : ¬ (64 : Int) < (na : Int) := by omega
    go_enter Try.func6, Try.ntmps6
    go_wp2_with (at_builtin; refine wpList_append_IsB rfl (.const _) (.tmp 22) rfl ao ca na k HA.out.symm rfl rfl i1 hnk (by have := HA.out; omega) ?_; intro v1 w1 ho1 hb1)
    obtain ⟨ao1, c1, rfl⟩ := own_form ho1
    rw [HA.out] at ho1
    rw [HA.out]
    go_loopw [6] (fun v wr => ∃ z n c : Nat, ∃ ao', Hid (na + z ≤ 64) ∧ Hid (n = na + z) ∧ v = .slice ao' n c ∧ Own w.heap.size wr (.slice ao' n c) (k ++ List.replicate z 0) ∧ Below w.heap.size w wr)
      (fun v _ => 64 - slen v)
    case atStart => exact ⟨0, na, c1, ao1, by show _ ≤ _; omega, rfl, rfl, by simpa using ho1, hb1⟩
    case round =>
      clear ho1 hb1
      obtain ⟨z, n, c, ao', hz, hn, rfl, ho, hbl⟩ := hrel
      have hz1 := hz.out
      have hn1 := hn.out
      by_cases hlt : n < 64
      · have i1 : (n : Int) < 64 := by omega
        have hLz : Hid ((k ++ List.replicate z 0).length = n) := by show _ = _; rw [List.length_append, List.length_replicate, HA.out]; omega
        have e : Hid (k ++ List.replicate (z + 1) 0 = (k ++ List.replicate z 0) ++ [0#8]) := by
          show _ = _
          rw [List.replicate_succ']; simp
        generalize k ++ List.replicate z 0 = LL at ho e hLz
        clear hz1 hn1
        go_wp2_with (at_builtin; refine wpList_append_one rfl (.tmp 27) (.tmp 28) rfl w.heap.size _ w _ LL 0#8 _ rfl _ rfl rfl rfl ho hbl n hLz.out (by omega) ?_; intro g3 c3 w3 ho3 hb3)
        refine ⟨⟨z + 1, n + 1, c3, _, ?_, ?_, rfl, ?_, hb3⟩, ?_⟩
        · show _ ≤ _
          have := hn.out; omega
        · show _ = _
          rw [hn.out]; omega
        · rw [e.out]; exact ho3
        · simp [slen]; omega
      · obtain rfl : n = 64 := by omega
        have HTW : Hid (tag (k ++ List.replicate z 0) b = t) := by show _ = _; rw [tag_wide k b z (by rw [HA.out]; exact hz1)]; exact HT.out
        generalize hLL : k ++ List.replicate z 0 = LL at *
        obtain ⟨l1, n1, cc1, _⟩ := own_isb ho
        clear hlt hz1 hn1 hLL
        go_wp2_with fail
        refine (C1.out _ hbl).mono ?_
        rintro e w3 ⟨rfl, hb3⟩
        have b3 := hbl.trans (hb3.mono hbl.size)
        have is3 : IsB w3 ao' LL := (own_IsB ho).below hb3 (Nat.le_refl _)
        clear hb3 ho hbl
        go_wp2_with fail
        refine (macTag_n ao' bo 64 c nb cb LL b l1 HB.out t HTW.out _ is3 (IB.out _ b3) (by omega) hcb (by omega) (by omega)).mono ?_
        rintro e w4 ⟨rfl, hb4⟩
        have b4 := b3.trans (hb4.mono b3.size)
        clear hb4 is3
        go_wp2_with fail
        refine (fixed_any _).mono ?_
        rintro e w5 ⟨rfl, hb5⟩
        go_wp2
        go_ret
        exact ⟨rfl, b4.trans (hb5.mono b4.size)⟩
end Go.Proofs.Ytikakngpbahhgaa
