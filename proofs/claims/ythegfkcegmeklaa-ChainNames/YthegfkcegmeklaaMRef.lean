
import Derived.Test.YthegfkcegmeklaaMMath
/-! The document's HMAC, as the reference computes it. -/
namespace Go.Proofs.Ythegfkcegmeklaa
open Go.RowKit

theorem ref_n (ao : Option Addr) (cap n : Nat) (m : List By) (hn : m.length = n) (sm : List By) (hsm : sha m = sm) (w : World) (hb : IsB w ao m) (hnil : ao = none → cap = 0) (hm : n ≤ 140737488353280) :
    Calls Try.prog 34 #[.slice ao n cap] w fun e w' => e = .returned (.agg (sm.map B8).toArray) ∧ Below w.heap.size w w' := by
  subst hn; subst hsm; exact refOf_any ao cap m w hb hnil hm
theorem row_isb {w : World} {g t : Nat} {l : List By} (h : Row w g t (l.map B8)) : IsB w (some ⟨g, 0, none⟩) l :=
  .inr ⟨g, 0, rfl, fun j v hj => by rw [Nat.zero_add]; exact h.cell j _ (by rw [List.getElem?_map, hj]; rfl)⟩

set_option maxHeartbeats 1000000 in
set_option maxRecDepth 100000 in
theorem block_any (ao : Option Addr) (cap nk : Nat) (k : List By) (hk : k.length = nk) (w : World) (hb : IsB w ao k) (hnil : ao = none → cap = 0) (hm : nk ≤ 140737488353280) :
    Calls Try.prog 52 #[.slice ao nk cap] w fun e w' => ∃ ao' c, e = .returned (.slice ao' 64 c) ∧ Own w.heap.size w' (.slice ao' 64 c) (kb k) ∧ Below w.heap.size w w' := by
  have HK : Hid (k.length = nk) := hk
  have IB : Hid (IsB w ao k) := hb
  clear hk hb
  have b0 : ∀ o1, Below w.heap.size w (w.alloc o1) := fun o1 => (Below.refl _ _).alloc (Nat.le_refl _) _
  by_cases hlong : 64 < nk
  · have i0 : (64 : Int) < (nk : Int) := by omega
    have HKB : Hid (kb k = sha k ++ List.replicate (64 - (sha k).length) 0) := by show _ = _; rw [kb_long k (by rw [HK.out]; exact hlong), shaLen]
    have hl32 := shaLen k
    generalize hL0 : sha k = L at *
    have HS : Hid (sha k = L) := hL0
    clear hL0
    go_enter Try.func52, Try.ntmps52
    go_wp2_with fail
    refine (ref_n ao cap nk k HK.out L HS.out _ (IB.out.below (b0 _) (Nat.le_refl _)) hnil hm).mono ?_
    rintro e w1 ⟨rfl, hb1⟩
    have ow : Own w.heap.size w1 (.slice (some ⟨w.heap.size, 0, none⟩) 0 0) [] := (own_empty _ w (Nat.le_refl _) _ rfl).keep hb1
    have bb : Below w.heap.size w w1 := (b0 _).trans (hb1.mono (by simp))
    clear hb1
    have hz1 := bb.size
    generalize hHB : w1.heap.size = HB at *
    go_wp2_with (first
      | (refine wpList_store_Row rfl 32 _ _ rfl HB 32 0 ((List.replicate 32 (0 : By)).map B8) (L.map B8) (Row.at _ _ _ _ _ hHB.symm rfl) (by simp [hl32]) rfl rfl (by rw [List.length_map, hl32]; kernel_rfl) (B8_one _) ?_; intro w2 hr2 hs2; have r2 := row_whole hr2 (by simp [hl32]); have bl2 : Below w1.heap.size w1 w2 := hs2.below ((Below.refl _ _).alloc (Nat.le_refl _) _) (by omega); have ow2 := ow.keep bl2; have bb2 := bb.trans (bl2.mono bb.size))
      | (at_builtin; refine wpList_append_more rfl (.tmp 11) (.tmp 12) rfl w.heap.size w _ 0 0 [] rfl rfl ow2 bb2 _ 32 _ L rfl hl32 (row_isb r2) (fun h => by cases h) (by omega) ?_; intro ao1 c1 w3 ho1 hb1))
    rw [List.nil_append] at ho1
    rw [Nat.zero_add] at ho1
    have hL64 : Hid (L.length ≤ 64) := by show _ ≤ _; omega
    clear r2 ow2 bb2 bl2 hs2 hr2 ow bb
    have hL : L.length = 32 := (own_isb ho1).1
    have HL : Hid (L.length = 32) := hL
    have HN : Hid (32 ≤ 64) := by rw [← hL]; exact hL64.out
    clear hL
    go_wp2
    go_loopw [3] (fun v wr => ∃ z n c : Nat, ∃ ao', Hid (32 + z ≤ 64) ∧ Hid (n = 32 + z) ∧ v = .slice ao' n c ∧ Own w.heap.size wr (.slice ao' n c) (L ++ List.replicate z 0) ∧ Below w.heap.size w wr)
      (fun v _ => 64 - slen v)
    case atStart => exact ⟨0, 32, c1, ao1, by show _ ≤ _; have := HN.out; omega, rfl, rfl, by simpa using ho1, hb1⟩
    case round =>
      clear ho1 hb1
      obtain ⟨z, n, c, ao', hz, hn, rfl, ho, hbl⟩ := hrel
      have hz1 := hz.out
      have hn1 := hn.out
      by_cases hlt : n < 64
      · have i1 : (n : Int) < 64 := by omega
        have hLz : Hid ((L ++ List.replicate z 0).length = n) := by show _ = _; rw [List.length_append, List.length_replicate, HL.out]; omega
        have e : Hid (L ++ List.replicate (z + 1) 0 = (L ++ List.replicate z 0) ++ [0#8]) := by
          show _ = _
          rw [List.replicate_succ']; simp
        generalize L ++ List.replicate z 0 = LL at ho e hLz
        clear hz1 hn1
        go_wp2_with (at_builtin; refine wpList_append_one rfl (.tmp 20) (.tmp 21) rfl w.heap.size _ w _ LL 0#8 _ rfl _ rfl rfl rfl ho hbl n hLz.out (by omega) ?_; intro g3 c3 w3 ho3 hb3)
        refine ⟨⟨z + 1, n + 1, c3, _, ?_, ?_, rfl, ?_, hb3⟩, ?_⟩
        · show _ ≤ _
          have := hn.out; omega
        · show _ = _
          rw [hn.out]; omega
        · rw [e.out]; exact ho3
        · simp [slen]; omega
      · obtain rfl : n = 64 := by omega
        obtain rfl : z = 64 - 32 := by omega
        clear hlt hz1 hn1
        go_wp2
        go_ret
        refine ⟨ao', c, rfl, ?_, hbl⟩
        have e1 := HKB.out
        rw [HL.out] at e1
        rw [e1]; exact ho
  · have i0 : ¬ (64 : Int) < (nk : Int) := by omega
    have HKB : Hid (kb k = k ++ List.replicate (64 - k.length) 0) := by show _ = _; rw [kb_short k (by rw [HK.out]; omega)]
    generalize hL0 : k = L at *
    have hL64 : Hid (L.length ≤ 64) := by show _ ≤ _; rw [HK.out]; omega
    go_enter Try.func52, Try.ntmps52
    go_wp2_with (at_builtin; refine wpList_append_more rfl (.tmp 14) (.tmp 15) rfl w.heap.size w _ 0 0 [] rfl rfl (own_empty _ w (Nat.le_refl _) _ rfl) (b0 _) ao nk cap L rfl HK.out (IB.out.below (b0 _) (Nat.le_refl _)) hnil (by omega) ?_; intro ao1 c1 w3 ho1 hb1)
    rw [List.nil_append] at ho1
    rw [Nat.zero_add] at ho1
    have hL : L.length = nk := (own_isb ho1).1
    have HL : Hid (L.length = nk) := hL
    have HN : Hid (nk ≤ 64) := by rw [← hL]; exact hL64.out
    clear hL
    go_wp2
    go_loopw [3] (fun v wr => ∃ z n c : Nat, ∃ ao', Hid (nk + z ≤ 64) ∧ Hid (n = nk + z) ∧ v = .slice ao' n c ∧ Own w.heap.size wr (.slice ao' n c) (L ++ List.replicate z 0) ∧ Below w.heap.size w wr)
      (fun v _ => 64 - slen v)
    case atStart => exact ⟨0, nk, c1, ao1, by show _ ≤ _; have := HN.out; omega, rfl, rfl, by simpa using ho1, hb1⟩
    case round =>
      clear ho1 hb1
      obtain ⟨z, n, c, ao', hz, hn, rfl, ho, hbl⟩ := hrel
      have hz1 := hz.out
      have hn1 := hn.out
      by_cases hlt : n < 64
      · have i1 : (n : Int) < 64 := by omega
        have hLz : Hid ((L ++ List.replicate z 0).length = n) := by show _ = _; rw [List.length_append, List.length_replicate, HL.out]; omega
        have e : Hid (L ++ List.replicate (z + 1) 0 = (L ++ List.replicate z 0) ++ [0#8]) := by
          show _ = _
          rw [List.replicate_succ']; simp
        generalize L ++ List.replicate z 0 = LL at ho e hLz
        clear hz1 hn1
        go_wp2_with (at_builtin; refine wpList_append_one rfl (.tmp 20) (.tmp 21) rfl w.heap.size _ w _ LL 0#8 _ rfl _ rfl rfl rfl ho hbl n hLz.out (by omega) ?_; intro g3 c3 w3 ho3 hb3)
        refine ⟨⟨z + 1, n + 1, c3, _, ?_, ?_, rfl, ?_, hb3⟩, ?_⟩
        · show _ ≤ _
          have := hn.out; omega
        · show _ = _
          rw [hn.out]; omega
        · rw [e.out]; exact ho3
        · simp [slen]; omega
      · obtain rfl : n = 64 := by omega
        obtain rfl : z = 64 - nk := by omega
        clear hlt hz1 hn1
        go_wp2
        go_ret
        refine ⟨ao', c, rfl, ?_, hbl⟩
        have e1 := HKB.out
        rw [HL.out] at e1
        rw [e1]; exact ho

set_option maxHeartbeats 1000000 in
set_option maxRecDepth 100000 in
theorem over_any (ao : Option Addr) (cap n : Nat) (m : List By) (x : By) (hn : m.length = n) (w : World) (hb : IsB w ao m) (hm : n ≤ 140737488353280) :
    Calls Try.prog 53 #[.slice ao n cap, .int .u8 (x.toNat : Int)] w fun e w' => ∃ ao' c, e = .returned (.slice ao' n c) ∧ Own w.heap.size w' (.slice ao' n c) (tn m x) ∧ Below w.heap.size w w' := by
  have HM : Hid (m.length = n) := hn
  have IB : Hid (IsB w ao m) := hb
  clear hn hb
  have b0 : ∀ o1, Below w.heap.size w (w.alloc o1) := fun o1 => (Below.refl _ _).alloc (Nat.le_refl _) _
  go_enter Try.func53, Try.ntmps53
  go_wp2
  go_loopw [5, 6] (fun v i wr => ∃ k c : Nat, ∃ ao', k ≤ n ∧ i = .int .i64 k ∧ v = .slice ao' k c ∧ Own w.heap.size wr (.slice ao' k c) (tn (m.take k) x) ∧ Below w.heap.size w wr)
    (fun _ i _ => n - (intOf i).toNat)
  case atStart => exact ⟨0, 0, _, by omega, rfl, rfl, own_empty _ w (Nat.le_refl _) _ rfl, b0 _⟩
  case round =>
    obtain ⟨k, c, ao', hk, rfl, rfl, ho, hbl⟩ := hrel
    by_cases hlt : k < n
    · have i1 : (k : Int) < (n : Int) := by omega
      have i0 : (0 : Int) ≤ (k : Int) := by omega
      obtain ⟨B, off, rfl, hc⟩ := IB.out.cell k (by have := HM.out; omega)
      replace hc := (hbl.cell (p := ⟨B, off + k, none⟩) (by have := block_lt_of_cell hc; simpa using this)).trans hc
      have E : Hid (tn (m.take (k + 1)) x = tn (m.take k) x ++ [m.getD k 0 ^^^ x]) := tn_take m x k (by rw [HM.out]; exact hlt)
      have HLk : Hid ((tn (m.take k) x).length = k) := by show _ = _; rw [tn_len, List.length_take, HM.out]; omega
      generalize tn (m.take k) x = LL at *
      generalize m.getD k 0 = y at hc E
      go_wp2_with (at_builtin; refine wpList_append_one rfl (.tmp 14) (.tmp 21) rfl w.heap.size _ w _ LL (y ^^^ x) _ (by simp [bits8_xor]) _ rfl rfl rfl ho hbl k HLk.out (by omega) ?_; intro g3 c3 w3 ho3 hb3)
      refine ⟨⟨k + 1, c3, _, by omega, by go_num, rfl, ?_, hb3⟩, by simp [intOf]; omega⟩
      rw [E.out]; exact ho3
    · obtain rfl : k = n := by omega
      have i1 : ¬ (k : Int) < (k : Int) := by omega
      have E : Hid (m.take k = m) := by show _ = _; exact List.take_of_length_le (by rw [HM.out]; exact Nat.le_refl _)
      clear hlt hk
      go_wp2
      go_ret
      rw [E.out] at ho
      exact ⟨ao', c, rfl, ho, hbl⟩
end Go.Proofs.Ythegfkcegmeklaa
