import Derived.Test.YtjooabgjkjnhhaaGreatDoorPadded
import Derived.BigQuiet
import Derived.Test.YtjooabgjkjnhhaaGreatDoorOpenA
import Derived.Test.YtjooabgjkjnhhaaGreatDoorT24Math

/-! Rows of bytes held against each other: the code's, and the document's. -/
namespace Go.Proofs.YtjooabgjkjnhhaaGreatDoor
open Go.RowKit

theorem bv8_ofInt (x : By) : BitVec.ofInt 8 (x.toNat : Int) = x := by
  rw [BitVec.ofInt_natCast, BitVec.ofNat_toNat, BitVec.setWidth_eq]
theorem bits8_xor (x y : By) : bits .xor .u8 (x.toNat : Int) (y.toNat : Int) = ((x ^^^ y).toNat : Int) := by
  show IntKind.u8.wrap ((BitVec.ofInt 8 (x.toNat : Int) ^^^ BitVec.ofInt 8 (y.toNat : Int)).toNat : Int) = _
  rw [bv8_ofInt, bv8_ofInt, IntKind.wrap_u8']
  have := b8_lt (x ^^^ y)
  omega

theorem IsB.cell {w : World} {ao : Option Addr} {m : List By} (h : IsB w ao m) (j : Nat) (hj : j < m.length) : ∃ B off, ao = some ⟨B, off, none⟩ ∧ w.cell? ⟨B, off + j, none⟩ = some (.int .u8 ((m.getD j 0).toNat : Int)) := by
  rcases h with rfl | ⟨B, off, rfl, hc⟩
  · simp at hj
  · refine ⟨B, off, rfl, ?_⟩
    have := hc j (m.getD j 0) (by rw [List.getD_eq_getElem?_getD, List.getElem?_eq_getElem hj]; rfl)
    exact this

end Go.Proofs.YtjooabgjkjnhhaaGreatDoor


/-! The document's HMAC on lists of bytes. -/
namespace Go.Proofs.YtjooabgjkjnhhaaGreatDoor
open Go.RowKit

def kh (k : List By) : List By := if 64 < k.length then sha k else k
/-- A key's block key. -/
def kb (k : List By) : List By := kh k ++ List.replicate (64 - (kh k).length) 0
/-- Bytes, each under exclusive or with one. -/
def tn (l : List By) (x : By) : List By := l.map (· ^^^ x)
/-- The tag of bytes under a key. -/
def tag (k b : List By) : List By := sha (tn (kb k) 92#8 ++ sha (tn (kb k) 54#8 ++ b))

theorem shaLen (m : List By) : (sha m).length = 32 := rfl
theorem tag_len (k b : List By) : (tag k b).length = 32 := rfl
theorem kh_le (k : List By) : (kh k).length ≤ 64 := by
  unfold kh
  split
  · rw [shaLen]; omega
  · omega
theorem kb_len (k : List By) : (kb k).length = 64 := by
  have := kh_le k
  unfold kb
  rw [List.length_append, List.length_replicate]; omega
theorem tn_len (l : List By) (x : By) : (tn l x).length = l.length := by simp [tn]
theorem tn_take (l : List By) (x : By) (k : Nat) (hk : k < l.length) : tn (l.take (k + 1)) x = tn (l.take k) x ++ [l.getD k 0 ^^^ x] := by
  unfold tn
  rw [List.take_add_one, List.map_append, List.getElem?_eq_getElem hk, List.getD_eq_getElem?_getD, List.getElem?_eq_getElem hk]; rfl
theorem kb_short (k : List By) (h : k.length ≤ 64) : kb k = k ++ List.replicate (64 - k.length) 0 := by
  have e : kh k = k := by unfold kh; rw [if_neg (by omega)]
  unfold kb; rw [e]
theorem kb_long (k : List By) (h : 64 < k.length) : kb k = sha k ++ List.replicate 32 0 := by
  have e : kh k = sha k := by unfold kh; rw [if_pos h]
  unfold kb; rw [e, shaLen]
end Go.Proofs.YtjooabgjkjnhhaaGreatDoor


/-! The document's HMAC, as the reference computes it. -/
namespace Go.Proofs.YtjooabgjkjnhhaaGreatDoor
open Go.RowKit

theorem ref_n (ao : Option Addr) (cap n : Nat) (m : List By) (hn : m.length = n) (sm : List By) (hsm : sha m = sm) (w : World) (hb : IsB w ao m) (hnil : ao = none → cap = 0) (hm : n ≤ 140737488353280) :
    Calls Tryz.prog 54 #[.slice ao n cap] w fun e w' => e = .returned (.agg (sm.map B8).toArray) ∧ Below w.heap.size w w' := by
  subst hn; subst hsm; exact refOf_any ao cap m w hb hnil hm
theorem row_isb {w : World} {g t : Nat} {l : List By} (h : Row w g t (l.map B8)) : IsB w (some ⟨g, 0, none⟩) l :=
  .inr ⟨g, 0, rfl, fun j v hj => by rw [Nat.zero_add]; exact h.cell j _ (by rw [List.getElem?_map, hj]; rfl)⟩

set_option maxHeartbeats 1000000 in
set_option maxRecDepth 100000 in
theorem block_any (ao : Option Addr) (cap nk : Nat) (k : List By) (hk : k.length = nk) (w : World) (hb : IsB w ao k) (hnil : ao = none → cap = 0) (hm : nk ≤ 140737488353280) :
    Calls Tryz.prog 52 #[.slice ao nk cap] w fun e w' => ∃ ao' c, e = .returned (.slice ao' 64 c) ∧ Own w.heap.size w' (.slice ao' 64 c) (kb k) ∧ Below w.heap.size w w' := by
  have HK : Hid (k.length = nk) := hk
  have IB : Hid (IsB w ao k) := hb
  clear hk hb
  have b0 : ∀ o1, Below w.heap.size w (w.alloc o1) := fun o1 => (Below.refl _ _).alloc (Nat.le_refl _) _
  by_cases hlong : 64 < nk
  · have i0 : (64 : Int) < (nk : Int) := by omega
    have HKB : Hid (kb k = sha k ++ List.replicate (64 - (sha k).length) 0) := by show _ = _; rw [kb_long k (by rw [HK.out]; exact hlong), shaLen]
    have hl32 := shaLen k
    generalize hL0 : sha k = L at *
    have HS : Hid (sha k = L) := hL0
    clear hL0
    go_enter Tryz.func52, Tryz.ntmps52
    go_wp2_with fail
    refine (ref_n ao cap nk k HK.out L HS.out _ (IB.out.below (b0 _) (Nat.le_refl _)) hnil hm).mono ?_
    rintro e w1 ⟨rfl, hb1⟩
    have ow : Own w.heap.size w1 (.slice (some ⟨w.heap.size, 0, none⟩) 0 0) [] := (own_empty _ w (Nat.le_refl _) _ rfl).keep hb1
    have bb : Below w.heap.size w w1 := (b0 _).trans (hb1.mono (by simp))
    clear hb1
    have hz1 := bb.size
    generalize hHB : w1.heap.size = HB at *
    go_wp2_with (first
      | (refine wpList_store_Row rfl 26 _ _ rfl HB 26 0 ((List.replicate 32 (0 : By)).map B8) (L.map B8) (Row.at _ _ _ _ _ hHB.symm rfl) (by simp [hl32]) rfl rfl (by rw [List.length_map, hl32]; kernel_rfl) (B8_one _) ?_; intro w2 hr2 hs2; have r2 := row_whole hr2 (by simp [hl32]); have bl2 : Below w1.heap.size w1 w2 := hs2.below ((Below.refl _ _).alloc (Nat.le_refl _) _) (by omega); have ow2 := ow.keep bl2; have bb2 := bb.trans (bl2.mono bb.size))
      | (at_builtin; refine wpList_append_more rfl (.tmp 11) (.tmp 12) rfl w.heap.size w _ 0 0 [] rfl rfl ow2 bb2 _ 32 _ L rfl hl32 (row_isb r2) (fun h => by cases h) (by omega) ?_; intro ao1 c1 w3 ho1 hb1))
    rw [List.nil_append] at ho1
    rw [Nat.zero_add] at ho1
    have hL64 : Hid (L.length ≤ 64) := by show _ ≤ _; omega
    clear r2 ow2 bb2 bl2 hs2 hr2 ow bb
    have hL : L.length = 32 := (own_isb ho1).1
    have HL : Hid (L.length = 32) := hL
    have HN : Hid (32 ≤ 64) := by rw [← hL]; exact hL64.out
    clear hL
    go_wp2
    go_loopw [3] (fun v wr => ∃ z n c : Nat, ∃ ao', Hid (32 + z ≤ 64) ∧ Hid (n = 32 + z) ∧ v = .slice ao' n c ∧ Own w.heap.size wr (.slice ao' n c) (L ++ List.replicate z 0) ∧ Below w.heap.size w wr)
      (fun v _ => 64 - slen v)
    case atStart => exact ⟨0, 32, c1, ao1, by show _ ≤ _; have := HN.out; omega, rfl, rfl, by simpa using ho1, hb1⟩
    case round =>
      clear ho1 hb1
      obtain ⟨z, n, c, ao', hz, hn, rfl, ho, hbl⟩ := hrel
      have hz1 := hz.out
      have hn1 := hn.out
      by_cases hlt : n < 64
      · have i1 : (n : Int) < 64 := by omega
        have hLz : Hid ((L ++ List.replicate z 0).length = n) := by show _ = _; rw [List.length_append, List.length_replicate, HL.out]; omega
        have e : Hid (L ++ List.replicate (z + 1) 0 = (L ++ List.replicate z 0) ++ [0#8]) := by
          show _ = _
          rw [List.replicate_succ']; simp
        generalize L ++ List.replicate z 0 = LL at ho e hLz
        clear hz1 hn1
        go_wp2_with (at_builtin; refine wpList_append_one rfl (.tmp 20) (.tmp 21) rfl w.heap.size _ w _ LL 0#8 _ rfl _ rfl rfl rfl ho hbl n hLz.out (by omega) ?_; intro g3 c3 w3 ho3 hb3)
        refine ⟨⟨z + 1, n + 1, c3, _, ?_, ?_, rfl, ?_, hb3⟩, ?_⟩
        · show _ ≤ _
          have := hn.out; omega
        · show _ = _
          rw [hn.out]; omega
        · rw [e.out]; exact ho3
        · simp [slen]; omega
      · obtain rfl : n = 64 := by omega
        obtain rfl : z = 64 - 32 := by omega
        clear hlt hz1 hn1
        go_wp2
        go_ret
        refine ⟨ao', c, rfl, ?_, hbl⟩
        have e1 := HKB.out
        rw [HL.out] at e1
        rw [e1]; exact ho
  · have i0 : ¬ (64 : Int) < (nk : Int) := by omega
    have HKB : Hid (kb k = k ++ List.replicate (64 - k.length) 0) := by show _ = _; rw [kb_short k (by rw [HK.out]; omega)]
    generalize hL0 : k = L at *
    have hL64 : Hid (L.length ≤ 64) := by show _ ≤ _; rw [HK.out]; omega
    go_enter Tryz.func52, Tryz.ntmps52
    go_wp2_with (at_builtin; refine wpList_append_more rfl (.tmp 14) (.tmp 15) rfl w.heap.size w _ 0 0 [] rfl rfl (own_empty _ w (Nat.le_refl _) _ rfl) (b0 _) ao nk cap L rfl HK.out (IB.out.below (b0 _) (Nat.le_refl _)) hnil (by omega) ?_; intro ao1 c1 w3 ho1 hb1)
    rw [List.nil_append] at ho1
    rw [Nat.zero_add] at ho1
    have hL : L.length = nk := (own_isb ho1).1
    have HL : Hid (L.length = nk) := hL
    have HN : Hid (nk ≤ 64) := by rw [← hL]; exact hL64.out
    clear hL
    go_wp2
    go_loopw [3] (fun v wr => ∃ z n c : Nat, ∃ ao', Hid (nk + z ≤ 64) ∧ Hid (n = nk + z) ∧ v = .slice ao' n c ∧ Own w.heap.size wr (.slice ao' n c) (L ++ List.replicate z 0) ∧ Below w.heap.size w wr)
      (fun v _ => 64 - slen v)
    case atStart => exact ⟨0, nk, c1, ao1, by show _ ≤ _; have := HN.out; omega, rfl, rfl, by simpa using ho1, hb1⟩
    case round =>
      clear ho1 hb1
      obtain ⟨z, n, c, ao', hz, hn, rfl, ho, hbl⟩ := hrel
      have hz1 := hz.out
      have hn1 := hn.out
      by_cases hlt : n < 64
      · have i1 : (n : Int) < 64 := by omega
        have hLz : Hid ((L ++ List.replicate z 0).length = n) := by show _ = _; rw [List.length_append, List.length_replicate, HL.out]; omega
        have e : Hid (L ++ List.replicate (z + 1) 0 = (L ++ List.replicate z 0) ++ [0#8]) := by
          show _ = _
          rw [List.replicate_succ']; simp
        generalize L ++ List.replicate z 0 = LL at ho e hLz
        clear hz1 hn1
        go_wp2_with (at_builtin; refine wpList_append_one rfl (.tmp 20) (.tmp 21) rfl w.heap.size _ w _ LL 0#8 _ rfl _ rfl rfl rfl ho hbl n hLz.out (by omega) ?_; intro g3 c3 w3 ho3 hb3)
        refine ⟨⟨z + 1, n + 1, c3, _, ?_, ?_, rfl, ?_, hb3⟩, ?_⟩
        · show _ ≤ _
          have := hn.out; omega
        · show _ = _
          rw [hn.out]; omega
        · rw [e.out]; exact ho3
        · simp [slen]; omega
      · obtain rfl : n = 64 := by omega
        obtain rfl : z = 64 - nk := by omega
        clear hlt hz1 hn1
        go_wp2
        go_ret
        refine ⟨ao', c, rfl, ?_, hbl⟩
        have e1 := HKB.out
        rw [HL.out] at e1
        rw [e1]; exact ho

set_option maxHeartbeats 1000000 in
set_option maxRecDepth 100000 in
theorem over_any (ao : Option Addr) (cap n : Nat) (m : List By) (x : By) (hn : m.length = n) (w : World) (hb : IsB w ao m) (hm : n ≤ 140737488353280) :
    Calls Tryz.prog 53 #[.slice ao n cap, .int .u8 (x.toNat : Int)] w fun e w' => ∃ ao' c, e = .returned (.slice ao' n c) ∧ Own w.heap.size w' (.slice ao' n c) (tn m x) ∧ Below w.heap.size w w' := by
  have HM : Hid (m.length = n) := hn
  have IB : Hid (IsB w ao m) := hb
  clear hn hb
  have b0 : ∀ o1, Below w.heap.size w (w.alloc o1) := fun o1 => (Below.refl _ _).alloc (Nat.le_refl _) _
  go_enter Tryz.func53, Tryz.ntmps53
  go_wp2
  go_loopw [5, 6] (fun v i wr => ∃ k c : Nat, ∃ ao', k ≤ n ∧ i = .int .i64 k ∧ v = .slice ao' k c ∧ Own w.heap.size wr (.slice ao' k c) (tn (m.take k) x) ∧ Below w.heap.size w wr)
    (fun _ i _ => n - (intOf i).toNat)
  case atStart => exact ⟨0, 0, _, by omega, rfl, rfl, own_empty _ w (Nat.le_refl _) _ rfl, b0 _⟩
  case round =>
    obtain ⟨k, c, ao', hk, rfl, rfl, ho, hbl⟩ := hrel
    by_cases hlt : k < n
    · have i1 : (k : Int) < (n : Int) := by omega
      have i0 : (0 : Int) ≤ (k : Int) := by omega
      obtain ⟨B, off, rfl, hc⟩ := IB.out.cell k (by have := HM.out; omega)
      replace hc := (hbl.cell (p := ⟨B, off + k, none⟩) (by have := block_lt_of_cell hc; simpa using this)).trans hc
      have E : Hid (tn (m.take (k + 1)) x = tn (m.take k) x ++ [m.getD k 0 ^^^ x]) := tn_take m x k (by rw [HM.out]; exact hlt)
      have HLk : Hid ((tn (m.take k) x).length = k) := by show _ = _; rw [tn_len, List.length_take, HM.out]; omega
      generalize tn (m.take k) x = LL at *
      generalize m.getD k 0 = y at hc E
      go_wp2_with (at_builtin; refine wpList_append_one rfl (.tmp 14) (.tmp 21) rfl w.heap.size _ w _ LL (y ^^^ x) _ (by simp [bits8_xor]) _ rfl rfl rfl ho hbl k HLk.out (by omega) ?_; intro g3 c3 w3 ho3 hb3)
      refine ⟨⟨k + 1, c3, _, by omega, by go_num, rfl, ?_, hb3⟩, by simp [intOf]; omega⟩
      rw [E.out]; exact ho3
    · obtain rfl : k = n := by omega
      have i1 : ¬ (k : Int) < (k : Int) := by omega
      have E : Hid (m.take k = m) := by show _ = _; exact List.take_of_length_le (by rw [HM.out]; exact Nat.le_refl _)
      clear hlt hk
      go_wp2
      go_ret
      rw [E.out] at ho
      exact ⟨ao', c, rfl, ho, hbl⟩
end Go.Proofs.YtjooabgjkjnhhaaGreatDoor


namespace Go.Proofs.YtjooabgjkjnhhaaGreatDoor
open Go.RowKit

set_option maxHeartbeats 1000000 in
set_option maxRecDepth 100000 in
theorem refMac_any (ao bo : Option Addr) (na ca nb cb : Nat) (k b : List By) (hna : k.length = na) (hnb : b.length = nb) (w : World) (hk : IsB w ao k) (hb : IsB w bo b) (hnk : ao = none → ca = 0) (hbk : bo = none → cb = 0)
    (hma : na ≤ 140737488353280) (hmb : nb ≤ 140737488353000) :
    Calls Tryz.prog 38 #[.slice ao na ca, .slice bo nb cb] w fun e w' => e = .returned (.agg ((tag k b).map B8).toArray) ∧ Below w.heap.size w w' := by
  have HA : Hid (k.length = na) := hna
  have HB : Hid (b.length = nb) := hnb
  have IK : Hid (IsB w ao k) := hk
  have IB : Hid (IsB w bo b) := hb
  clear hna hnb hk hb
  have HT : Hid (tag k b = sha (tn (kb k) 92#8 ++ sha (tn (kb k) 54#8 ++ b))) := rfl
  have hkbl := kb_len k
  have b0 : ∀ o1, Below w.heap.size w (w.alloc o1) := fun o1 => (Below.refl _ _).alloc (Nat.le_refl _) _
  go_enter Tryz.func38, Tryz.ntmps38
  go_wp2_with fail
  have r0 := Row.at w 26 ((List.replicate 32 (0 : By)).map B8) _ _ rfl rfl
  refine (block_any ao ca na k HA.out _ (IK.out.below (b0 _) (Nat.le_refl _)) hnk hma).mono ?_
  rintro e w1 ⟨ao1, c1, rfl, ho1, hb1⟩
  replace r0 := r0.below hb1 (by simp)
  have bb : Below w.heap.size w w1 := (b0 _).trans (hb1.mono (by simp))
  have i54 := tn_len (kb k) 54#8
  have i92 := tn_len (kb k) 92#8
  rw [hkbl] at i54 i92
  generalize kb k = K at *
  clear hb1
  go_wp2_with fail
  refine (over_any ao1 c1 64 K 54#8 hkbl w1 (own_IsB ho1) (by omega)).mono ?_
  rintro e w2 ⟨ao2, c2, rfl, ho2, hb2⟩
  have ib2 : Hid (IsB w2 bo b) := IB.out.below (bb.trans (hb2.mono bb.size)) (Nat.le_refl _)
  go_wp2_with (at_builtin; refine wpList_append_more rfl (.tmp 12) (.tmp 13) rfl w1.heap.size w1 ao2 64 c2 _ rfl i54 ho2 hb2 bo nb cb b rfl HB.out ib2.out hbk (by omega) ?_; intro ao3 c3 w3 ho3 hb3)
  replace r0 := r0.below hb3 r0.lt
  replace bb := bb.trans (hb3.mono bb.size)
  replace ho1 := ho1.keep hb3
  obtain ⟨hl3, hn3, hc3, _⟩ := own_isb ho3
  have is3 : Hid (IsB w3 ao3 (tn K 54#8 ++ b)) := own_IsB ho3
  clear hb2 hb3 ho2 ho3 ib2
  generalize hI : tn K 54#8 ++ b = I at *
  have hsl := shaLen I
  generalize hS : sha I = S at *
  have HS : Hid (sha I = S) := hS
  clear hS hI
  refine (ref_n ao3 c3 (64 + nb) I hl3 S HS.out _ is3.out hn3 (by omega)).mono ?_
  rintro e w4 ⟨rfl, hb4⟩
  replace r0 := r0.below hb4 r0.lt
  replace bb := bb.trans (hb4.mono bb.size)
  replace ho1 := ho1.keep hb4
  clear hb4 is3
  have hz4 := r0.lt
  generalize hHB : w4.heap.size = HB at *
  go_wp2_with (refine wpList_store_Row rfl 26 _ _ rfl HB 26 0 ((List.replicate 32 (0 : By)).map B8) (S.map B8) (Row.at _ _ _ _ _ hHB.symm rfl) (by simp [hsl]) rfl rfl (by rw [List.length_map, hsl]; kernel_rfl) (B8_one _) ?_; intro w5 hr5 hs5; have r5 := row_whole hr5 (by simp [hsl]); have bl5 : Below w4.heap.size w4 w5 := hs5.below ((Below.refl _ _).alloc (Nat.le_refl _) _) (by omega))
  replace r0 := r0.below bl5 (by omega)
  replace bb := bb.trans (bl5.mono (by omega))
  replace ho1 := ho1.keep bl5
  clear bl5 hr5 hs5 hHB
  have is1 : Hid (IsB w5 ao1 K) := own_IsB ho1
  clear ho1
  have hz5 := r5.lt
  go_region_law (first
    | (go_simp; go_at_call 53; refine (over_any ao1 c1 64 K 92#8 hkbl _ (is1.out.below (Below.refl _ _).drew (Nat.le_refl _)) (by omega)).mono ?_; rintro e w6 ⟨ao6, c6, rfl, ho6, hb6⟩; have r6 := r5.drew.below hb6 (by simpa using hz5); go_simp)
    | (refine step_append_more rfl (.tmp 18) (.tmp 19) rfl _ _ ao6 64 c6 _ rfl i92 ho6 hb6 _ 32 _ S rfl hsl (row_isb r6) (fun h => by cases h) (by omega) ?_; intro ao7 c7 w7 ho7 hb7))
  all_goals
    replace ho7 : Own w5.heap.size w7 (.slice ao7 96 c7) (tn K 92#8 ++ S) := ho7
    have b7 : Below w5.heap.size w5 w7 := ((Below.refl _ _).drew).trans hb7
    replace r0 := r0.below b7 r0.lt
    replace bb := bb.trans (b7.mono bb.size)
    obtain ⟨hl7, hn7, hc7, _⟩ := own_isb ho7
    have is7 : Hid (IsB w7 ao7 (tn K 92#8 ++ S)) := own_IsB ho7
    clear b7 hb7 ho7 ho6 hb6 r6 r5
    generalize hO : tn K 92#8 ++ S = O at *
    have hsl2 := shaLen O
    generalize hS2 : sha O = S2 at *
    have HS2 : Hid (sha O = S2) := hS2
    clear hS2 hO
    go_wp2_with fail
    refine (ref_n ao7 c7 96 O hl7 S2 HS2.out _ is7.out hn7 (by omega)).mono ?_
    rintro e w8 ⟨rfl, hb8⟩
    replace r0 := r0.below hb8 r0.lt
    replace bb := bb.trans (hb8.mono bb.size)
    clear hb8 is7
    generalize hN : w.heap.size = N at *
    go_wp2_with (refine wpList_store_Row rfl 26 _ _ rfl _ _ 0 _ (S2.map B8) r0 (by simp [hsl2]) rfl rfl (by rw [List.length_map, hsl2]; kernel_rfl) (B8_one _) ?_; intro w9 hr9 hs9)
    have hr := row_whole hr9 (by simp [hsl2])
    exact bodyPost_ret_by (results_Row Tryz.results38 _ w9 N 26 _ _ rfl hr Tryz.underlying26 rfl (by rw [List.length_map, hsl2]; kernel_rfl)) rfl ⟨by rw [HT.out], by rw [hN]; exact hs9.below bb (Nat.le_refl _)⟩
end Go.Proofs.YtjooabgjkjnhhaaGreatDoor


/-! The reference's token: within, only, eight, a caveat's bytes. (Printed by tools/gent24.py.) -/
namespace Go.Proofs.YtjooabgjkjnhhaaGreatDoor
open Go.RowKit
set_option linter.unusedVariables false
set_option linter.unusedSimpArgs false

def cvC (c : Cv) : List Value := [.int .i64 c.k, .int .i64 c.s, .int .i64 c.f, .int .i64 c.t, .int .u64 (c.z : Int)]
def Cv.ok (c : Cv) : Prop := (-9223372036854775808 ≤ c.k ∧ c.k < 9223372036854775808) ∧ (-9223372036854775808 ≤ c.s ∧ c.s < 9223372036854775808) ∧ (-9223372036854775808 ≤ c.f ∧ c.f < 9223372036854775808) ∧ (-9223372036854775808 ≤ c.t ∧ c.t < 9223372036854775808) ∧ c.z < 18446744073709551616

set_option maxHeartbeats 1000000 in
theorem r24within_any (a b : Int) (w : World) : Calls Tryz.prog 51 #[.int .i64 a, .int .i64 b] w fun e w' => e = .returned (.bool (decide (0 ≤ a ∧ a ≤ b))) ∧ Below w.heap.size w w' := by
  go_enter Tryz.func51, Tryz.ntmps51
  by_cases h1 : 0 ≤ a
  · by_cases h2 : a ≤ b
    · go_wp2
      go_ret
      exact ⟨by simp [h1, h2], Below.refl _ _⟩
    · go_wp2
      go_ret
      exact ⟨by simp [h1, h2], Below.refl _ _⟩
  · go_wp2
    go_ret
    exact ⟨by simp; omega, Below.refl _ _⟩

set_option maxHeartbeats 4000000 in
set_option maxRecDepth 100000 in
theorem r24only_any (k s f t : Int) (z : Nat) (b1 b2 b3 b4 : Bool) (w : World) : Calls Tryz.prog 50 #[.agg #[.int .i64 k, .int .i64 s, .int .i64 f, .int .i64 t, .int .u64 (z : Int)], .bool b1, .bool b2, .bool b3, .bool b4] w fun e w' => e = .returned (.bool ((b1 || s == 0) && (b2 || f == 0) && (b3 || t == 0) && (b4 || z == 0))) ∧ Below w.heap.size w w' := by
  have HB : Hid (Below w.heap.size w (w.alloc (.cells #[.int .i64 k, .int .i64 s, .int .i64 f, .int .i64 t, .int .u64 (z : Int)] 50))) := (Below.refl _ _).alloc (Nat.le_refl _) _
  have HF : Hid True := trivial
  go_enter Tryz.func50, Tryz.ntmps50
  cases b1 with
  | true =>
    cases b2 with
    | true =>
      cases b3 with
      | true =>
        cases b4 with
        | true =>
          go_wp2
          go_ret
          exact ⟨by simp [HF.out], HB.out⟩
        | false =>
          by_cases h4 : z = 0
          · subst h4
            go_wp2
            go_ret
            exact ⟨by simp [HF.out], HB.out⟩
          · have y4 : (z == 0) = false := by rw [beq_eq_false_iff_ne]; exact h4
            have x4 : ((z : Int) == 0) = false := by rw [beq_eq_false_iff_ne]; omega
            go_wp2
            go_ret
            exact ⟨by simp [HF.out, h4], HB.out⟩
      | false =>
        by_cases h3 : t = 0
        · subst h3
          cases b4 with
          | true =>
            go_wp2
            go_ret
            exact ⟨by simp [HF.out], HB.out⟩
          | false =>
            by_cases h4 : z = 0
            · subst h4
              go_wp2
              go_ret
              exact ⟨by simp [HF.out], HB.out⟩
            · have y4 : (z == 0) = false := by rw [beq_eq_false_iff_ne]; exact h4
              have x4 : ((z : Int) == 0) = false := by rw [beq_eq_false_iff_ne]; omega
              go_wp2
              go_ret
              exact ⟨by simp [HF.out, h4], HB.out⟩
        · have y3 : (t == 0) = false := by rw [beq_eq_false_iff_ne]; exact h3
          go_wp2
          go_ret
          exact ⟨by simp [HF.out, h3], HB.out⟩
    | false =>
      by_cases h2 : f = 0
      · subst h2
        cases b3 with
        | true =>
          cases b4 with
          | true =>
            go_wp2
            go_ret
            exact ⟨by simp [HF.out], HB.out⟩
          | false =>
            by_cases h4 : z = 0
            · subst h4
              go_wp2
              go_ret
              exact ⟨by simp [HF.out], HB.out⟩
            · have y4 : (z == 0) = false := by rw [beq_eq_false_iff_ne]; exact h4
              have x4 : ((z : Int) == 0) = false := by rw [beq_eq_false_iff_ne]; omega
              go_wp2
              go_ret
              exact ⟨by simp [HF.out, h4], HB.out⟩
        | false =>
          by_cases h3 : t = 0
          · subst h3
            cases b4 with
            | true =>
              go_wp2
              go_ret
              exact ⟨by simp [HF.out], HB.out⟩
            | false =>
              by_cases h4 : z = 0
              · subst h4
                go_wp2
                go_ret
                exact ⟨by simp [HF.out], HB.out⟩
              · have y4 : (z == 0) = false := by rw [beq_eq_false_iff_ne]; exact h4
                have x4 : ((z : Int) == 0) = false := by rw [beq_eq_false_iff_ne]; omega
                go_wp2
                go_ret
                exact ⟨by simp [HF.out, h4], HB.out⟩
          · have y3 : (t == 0) = false := by rw [beq_eq_false_iff_ne]; exact h3
            go_wp2
            go_ret
            exact ⟨by simp [HF.out, h3], HB.out⟩
      · have y2 : (f == 0) = false := by rw [beq_eq_false_iff_ne]; exact h2
        go_wp2
        go_ret
        exact ⟨by simp [HF.out, h2], HB.out⟩
  | false =>
    by_cases h1 : s = 0
    · subst h1
      cases b2 with
      | true =>
        cases b3 with
        | true =>
          cases b4 with
          | true =>
            go_wp2
            go_ret
            exact ⟨by simp [HF.out], HB.out⟩
          | false =>
            by_cases h4 : z = 0
            · subst h4
              go_wp2
              go_ret
              exact ⟨by simp [HF.out], HB.out⟩
            · have y4 : (z == 0) = false := by rw [beq_eq_false_iff_ne]; exact h4
              have x4 : ((z : Int) == 0) = false := by rw [beq_eq_false_iff_ne]; omega
              go_wp2
              go_ret
              exact ⟨by simp [HF.out, h4], HB.out⟩
        | false =>
          by_cases h3 : t = 0
          · subst h3
            cases b4 with
            | true =>
              go_wp2
              go_ret
              exact ⟨by simp [HF.out], HB.out⟩
            | false =>
              by_cases h4 : z = 0
              · subst h4
                go_wp2
                go_ret
                exact ⟨by simp [HF.out], HB.out⟩
              · have y4 : (z == 0) = false := by rw [beq_eq_false_iff_ne]; exact h4
                have x4 : ((z : Int) == 0) = false := by rw [beq_eq_false_iff_ne]; omega
                go_wp2
                go_ret
                exact ⟨by simp [HF.out, h4], HB.out⟩
          · have y3 : (t == 0) = false := by rw [beq_eq_false_iff_ne]; exact h3
            go_wp2
            go_ret
            exact ⟨by simp [HF.out, h3], HB.out⟩
      | false =>
        by_cases h2 : f = 0
        · subst h2
          cases b3 with
          | true =>
            cases b4 with
            | true =>
              go_wp2
              go_ret
              exact ⟨by simp [HF.out], HB.out⟩
            | false =>
              by_cases h4 : z = 0
              · subst h4
                go_wp2
                go_ret
                exact ⟨by simp [HF.out], HB.out⟩
              · have y4 : (z == 0) = false := by rw [beq_eq_false_iff_ne]; exact h4
                have x4 : ((z : Int) == 0) = false := by rw [beq_eq_false_iff_ne]; omega
                go_wp2
                go_ret
                exact ⟨by simp [HF.out, h4], HB.out⟩
          | false =>
            by_cases h3 : t = 0
            · subst h3
              cases b4 with
              | true =>
                go_wp2
                go_ret
                exact ⟨by simp [HF.out], HB.out⟩
              | false =>
                by_cases h4 : z = 0
                · subst h4
                  go_wp2
                  go_ret
                  exact ⟨by simp [HF.out], HB.out⟩
                · have y4 : (z == 0) = false := by rw [beq_eq_false_iff_ne]; exact h4
                  have x4 : ((z : Int) == 0) = false := by rw [beq_eq_false_iff_ne]; omega
                  go_wp2
                  go_ret
                  exact ⟨by simp [HF.out, h4], HB.out⟩
            · have y3 : (t == 0) = false := by rw [beq_eq_false_iff_ne]; exact h3
              go_wp2
              go_ret
              exact ⟨by simp [HF.out, h3], HB.out⟩
        · have y2 : (f == 0) = false := by rw [beq_eq_false_iff_ne]; exact h2
          go_wp2
          go_ret
          exact ⟨by simp [HF.out, h2], HB.out⟩
    · have y1 : (s == 0) = false := by rw [beq_eq_false_iff_ne]; exact h1
      go_wp2
      go_ret
      exact ⟨by simp [HF.out, h1], HB.out⟩

theorem le8_num (n : Nat) : le8 n = (List.range 8).map fun i => BitVec.ofNat 8 (n / 2 ^ (8 * i)) := by
  simp [le8, List.range_succ]
def nB (n k : Nat) : List By := (List.range k).map fun i => BitVec.ofNat 8 (n / 2 ^ (8 * i))
theorem nB_succ (n k : Nat) : nB n (k + 1) = nB n k ++ [BitVec.ofNat 8 (n / 2 ^ (8 * k))] := by simp [nB, List.range_succ]

set_option maxHeartbeats 1000000 in
set_option maxRecDepth 100000 in
theorem r24eight_any (N : Nat) (a0 w : World) (hbl : Below N a0 w) (ao : Option Addr) (nD capD : Nat) (m : List By) (ho : Own N w (.slice ao nD capD) m) (x : Nat) (hx : x < 18446744073709551616) (hnD : nD ≤ 1000000) :
    Calls Tryz.prog 55 #[.slice ao nD capD, .int .u64 x] w fun e w' => ∃ ao' c', e = .returned (.slice ao' (nD + 8) c') ∧ Own N w' (.slice ao' (nD + 8) c') (m ++ le8 x) ∧ Below N a0 w' := by
  have HO : Hid (Own N w (.slice ao nD capD) (m ++ nB x 0)) := by
    show Own N w (.slice ao nD capD) (m ++ nB x 0)
    simpa [nB] using ho
  have HB : Hid (Below N a0 w) := hbl
  clear ho hbl
  go_enter Tryz.func55, Tryz.ntmps55
  go_wp2
  go_loopw [0, 5] (fun bv iv wr => ∃ (i : Nat) (bo : Option Addr) (bc : Nat), i ≤ 8 ∧ bv = .slice bo (nD + i) bc ∧ iv = .int .i64 i ∧ Hid (Own N wr (.slice bo (nD + i) bc) (m ++ nB x i) ∧ Below N a0 wr)) (fun _ iv _ => 8 - (intOf iv).toNat)
  case atStart => exact ⟨0, ao, capD, by omega, rfl, rfl, HO.out, HB.out⟩
  case round =>
    clear HO HB
    obtain ⟨i, bo, bc, hi, rfl, rfl, HI⟩ := hrel
    by_cases hlt : i < 8
    · have y0 : (0 : Int) ≤ (i : Int) := by omega
      have y1 : (i : Int) < 8 := by omega
      have z1 : IntKind.i64.wrap (8 * (i : Int)) = 8 * (i : Int) := i64_in _ (by omega) (by omega)
      have HYY : Hid ((x : Int) / 2 ^ (8 * i) % 256 = ((BitVec.ofNat 8 (x / 2 ^ (8 * i))).toNat : Int)) := by
        show _ = _
        rw [BitVec.toNat_ofNat]
        simp [Int.natCast_ediv, Int.natCast_emod, Int.natCast_pow]
      have HL : Hid ((m ++ nB x i).length = nD + i) := HI.out.1.len
      go_wp2_with (at_builtin; refine wpList_append_one rfl (.tmp 10) (.tmp 16) rfl N 5 a0 (.slice bo (nD + i) bc) (m ++ nB x i) _ _ HYY.out wr.heap.size rfl rfl rfl HI.out.1 HI.out.2 (nD + i) HL.out (by omega) ?_; intro g2 c2 w2 ho2 hb2)
      exact ⟨⟨i + 1, _, c2, by omega, rfl, by go_num, ⟨by rw [nB_succ, ← List.append_assoc]; exact ho2, hb2⟩⟩, by simp [intOf]; omega⟩
    · obtain rfl : i = 8 := by omega
      have y1 : ¬ ((8 : Nat) : Int) < 8 := by omega
      have HI2 : Hid (Own N wr (.slice bo (nD + 8) bc) (m ++ le8 x) ∧ Below N a0 wr) := ⟨by rw [le8_num]; exact HI.out.1, HI.out.2⟩
      clear HI
      go_wp2
      go_ret
      exact ⟨bo, bc, rfl, HI2.out.1, HI2.out.2⟩

theorem u64N_cast (f : Int) : ((u64N f : Nat) : Int) = f % 18446744073709551616 := by unfold u64N; omega
theorem ofInt_mod (k : Int) : ((BitVec.ofInt 8 k).toNat : Int) = k % 256 := by rw [BitVec.toNat_ofInt]; omega

set_option maxHeartbeats 2000000 in
set_option maxRecDepth 100000 in
theorem r24cBytes_any (c : Cv) (hz : c.z < 18446744073709551616) (w : World) : Calls Tryz.prog 39 #[.agg (cvC c).toArray] w fun e w' => ∃ ao c', e = .returned (.slice ao 26 c') ∧ Own w.heap.size w' (.slice ao 26 c') (cvB c) ∧ Below w.heap.size w w' := by
  obtain ⟨k, s, f, t, z⟩ := c
  dsimp only at hz
  show Calls Tryz.prog 39 #[.agg #[.int .i64 k, .int .i64 s, .int .i64 f, .int .i64 t, .int .u64 (z : Int)]] w _
  obtain ⟨W1, hW1⟩ : ∃ W1, W1 = w.alloc (.cells #[.int .i64 k, .int .i64 s, .int .i64 f, .int .i64 t, .int .u64 (z : Int)] 50) := ⟨_, rfl⟩
  have r0 : Row W1 w.heap.size 50 [.int .i64 k, .int .i64 s, .int .i64 f, .int .i64 t, .int .u64 (z : Int)] := by rw [hW1]; exact Row.at w _ _ _ _ rfl rfl
  have b1 : Below w.heap.size w W1 := by rw [hW1]; exact (Below.refl _ _).alloc (Nat.le_refl _) _
  have hz1 : W1.heap.size = w.heap.size + 1 := by rw [hW1]; simp
  have ho : Own (w.heap.size + 1) (W1.alloc (.cells #[.int .u8 (k % 256), .int .u8 (s % 256)] 5)) (.slice (some ⟨w.heap.size + 1, 0, none⟩) 2 2) [BitVec.ofInt 8 k, BitVec.ofInt 8 s] := by
    have e : ([BitVec.ofInt 8 k, BitVec.ofInt 8 s].map B8).toArray = #[.int .u8 (k % 256), .int .u8 (s % 256)] := by
      simp only [List.map_cons, List.map_nil, B8, ofInt_mod]
    have := own_new (w.heap.size + 1) W1 (by omega) [BitVec.ofInt 8 k, BitVec.ofInt 8 s] _ rfl 2 rfl (by omega)
    rw [hz1, e] at this
    exact this
  have b2 : Below (w.heap.size + 1) W1 (W1.alloc (.cells #[.int .u8 (k % 256), .int .u8 (s % 256)] 5)) := (Below.refl _ _).alloc (by omega) _
  have F1 := r24eight_any (w.heap.size + 1) W1 _ b2 _ 2 2 _ ho (u64N f) (u64N_lt f) (by omega)
  rw [u64N_cast] at F1
  have HR : Hid (∀ W, Below (w.heap.size + 1) W1 W → Row W w.heap.size 50 [.int .i64 k, .int .i64 s, .int .i64 f, .int .i64 t, .int .u64 (z : Int)]) := fun W h => r0.below h (by omega)
  have HB1 : Hid (Below w.heap.size w W1) := b1
  have HZ1 : Hid (W1.heap.size = w.heap.size + 1) := hz1
  rw [hW1] at F1
  clear ho b2 r0 b1 hz1
  go_enter Tryz.func39, Tryz.ntmps39
  go_wp2_with fail
  refine F1.mono ?_
  clear F1
  rw [← hW1]
  clear hW1
  rintro e w2 ⟨ao2, q2, rfl, ho2, hb2⟩
  have c3 := (HR.out _ hb2).cell 3 _ rfl
  have F2 := r24eight_any (w.heap.size + 1) W1 w2 hb2 ao2 10 q2 _ ho2 (u64N t) (u64N_lt t) (by omega)
  rw [u64N_cast] at F2
  clear ho2 hb2
  dsimp only
  go_wp2_with fail
  refine F2.mono ?_
  clear F2 c3
  rintro e w3 ⟨ao3, q3, rfl, ho3, hb3⟩
  have c4 := (HR.out _ hb3).cell 4 _ rfl
  have F3 := r24eight_any (w.heap.size + 1) W1 w3 hb3 ao3 18 q3 _ ho3 z hz (by omega)
  clear ho3 hb3
  dsimp only
  go_wp2_with fail
  refine F3.mono ?_
  clear F3 c4
  rintro e w4 ⟨ao4, q4, rfl, ho4, hb4⟩
  have HF : Hid (Own w.heap.size w4 (.slice ao4 26 q4) (cvB ⟨k, s, f, t, z⟩) ∧ Below w.heap.size w w4) := ⟨own_le ho4 (by omega), HB1.out.trans (hb4.mono (by omega))⟩
  clear ho4 hb4
  dsimp only
  go_wp2_with fail
  go_ret
  exact ⟨ao4, q4, rfl, HF.out.1, HF.out.2⟩
end Go.Proofs.YtjooabgjkjnhhaaGreatDoor
