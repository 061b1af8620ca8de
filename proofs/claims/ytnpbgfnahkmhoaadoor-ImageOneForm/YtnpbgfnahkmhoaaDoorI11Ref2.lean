
import Derived.Test.YtnpbgfnahkmhoaaDoorI11Ref
/-! The reference's Tagged, Make, Body. -/
namespace Go.Proofs.YtnpbgfnahkmhoaaDoor
open Go.RowKit

theorem imgC_tag (s k v : Int) (pl : Value) (t : List By) (j : Nat) (hj : j < t.length) : (imgC s k v pl t)[4 + j]? = some (.int .u8 ((t.getD j 0).toNat : Int)) := by
  unfold imgC
  rw [List.getElem?_append_right (by simp)]
  simp [hj, B8]

set_option maxHeartbeats 1000000 in
set_option maxRecDepth 100000 in
theorem tagged_any (s k v : Nat) (ao : Option Addr) (n cap : Nat) (p t : List By) (hp : p.length = n) (ht : t.length = 32) (w : World) (hb : IsB w ao p) (hnil : ao = none → cap = 0) (hs : s < 8) (hk : k < 64) (hv : v < 4294967296) (hn : n ≤ 524240) :
    Calls Tryd.prog 28 #[.agg (imgC s k v (.slice ao n cap) t).toArray] w fun e w' => ∃ ao' c', e = .returned (.slice ao' (n + 48) c') ∧ Own w.heap.size w' (.slice ao' (n + 48) c') (cover s k v p ++ t) ∧ Below w.heap.size w w' := by
  have HT : Hid (t.length = 32) := ht
  have HCL : Hid ((cover s k v p).length = n + 16) := by show _ = _; rw [cover_len, hp]
  have r0 := Row.at w 27 (imgC s k v (.slice ao n cap) t) _ _ rfl rfl
  have b1 : Below w.heap.size w (w.alloc (.cells (imgC s k v (.slice ao n cap) t).toArray 27)) := (Below.refl _ _).alloc (Nat.le_refl _) _
  have hz : (w.alloc (.cells (imgC s k v (.slice ao n cap) t).toArray 27)).heap.size = w.heap.size + 1 := by simp
  have C1 := cover_any s k v ao n cap p t hp _ (hb.below b1 (Nat.le_refl _)) hnil hs hk hv hn
  have hil := imgC_len s k v (.slice ao n cap) t ht
  have XT : Hid (∀ j, j < 32 → (imgC s k v (.slice ao n cap) t)[4 + j]? = some (.int .u8 ((t.getD j 0).toNat : Int))) := fun j hj => imgC_tag s k v _ t j (by rw [ht]; exact hj)
  clear hb ht hp hnil hs hk hv
  generalize cover s k v p = CV at *
  generalize imgC s k v (.slice ao n cap) t = IM at *
  go_enter Tryd.func28, Tryd.ntmps28
  go_wp2_with (refine wpList_load_Row rfl 27 _ rfl _ _ IM r0 rfl _ Tryd.underlying27 rfl (by rw [hil]; kernel_rfl) ?_)
  refine C1.mono ?_
  rintro e w2 ⟨ao2, c2, rfl, ho2, hb2⟩
  rw [hz] at ho2 hb2
  have R0 : Hid (∀ W, Below (w.heap.size + 1) (w.alloc (.cells IM.toArray 27)) W → Row W w.heap.size 27 IM) := fun W h => r0.below h (by omega)
  clear C1 r0
  go_wp2_with fail
  go_loopw [3, 4] (fun b i wr => ∃ q c : Nat, ∃ ao', q ≤ 32 ∧ i = .int .i64 q ∧ b = .slice ao' (n + 16 + q) c ∧ Own (w.heap.size + 1) wr (.slice ao' (n + 16 + q) c) (CV ++ t.take q) ∧ Below (w.heap.size + 1) (w.alloc (.cells IM.toArray 27)) wr)
    (fun _ i _ => 32 - (intOf i).toNat)
  case atStart => exact ⟨0, c2, ao2, by omega, rfl, rfl, by simpa using ho2, hb2⟩
  case round =>
    clear ho2 hb2
    obtain ⟨q, c, ao', hq, rfl, rfl, ho, hbl⟩ := hrel
    by_cases hlt : q < 32
    · have i1 : (q : Int) < 32 := by omega
      have i0 : (0 : Int) ≤ (q : Int) := by omega
      have c4 := (R0.out _ hbl).cell (4 + q) _ (XT.out q hlt)
      have E : Hid (CV ++ t.take (q + 1) = (CV ++ t.take q) ++ [t.getD q 0]) := by
        show _ = _
        rw [List.take_add_one, List.getElem?_eq_getElem (by rw [HT.out]; exact hlt), List.getD_eq_getElem?_getD, List.getElem?_eq_getElem (by rw [HT.out]; exact hlt)]; simp
      have HLq : Hid ((CV ++ t.take q).length = n + 16 + q) := by show _ = _; rw [List.length_append, List.length_take, HT.out, HCL.out]; omega
      generalize CV ++ t.take q = LL at *
      generalize t.getD q 0 = y at c4 E
      go_wp2_with (at_builtin; refine wpList_append_one rfl (.tmp 11) (.tmp 16) rfl (w.heap.size + 1) _ _ _ LL y _ rfl _ rfl rfl rfl ho hbl (n + 16 + q) HLq.out (by omega) ?_; intro g3 c3 w3 ho3 hb3)
      refine ⟨⟨q + 1, c3, _, by omega, by go_num, rfl, ?_, hb3⟩, by simp [intOf]; omega⟩
      rw [E.out]; exact ho3
    · obtain rfl : q = 32 := by omega
      have E : Hid (t.take 32 = t) := by show _ = _; exact List.take_of_length_le (by rw [HT.out]; exact Nat.le_refl _)
      clear hlt hq
      go_wp2
      go_ret
      rw [E.out] at ho
      exact ⟨ao', c, rfl, own_le ho (by omega), b1.trans (hbl.mono (by omega))⟩

theorem imgC_settag (s k v : Int) (pl : Value) (t t' : List By) (ht : t.length = 32) (ht' : t'.length = 32) : (imgC s k v pl t).take 4 ++ t'.map B8 ++ (imgC s k v pl t).drop (4 + (t'.map B8).length) = imgC s k v pl t' := by
  have e1 : (imgC s k v pl t).take 4 = [.int .i64 s, .int .i64 k, .int .i64 v, pl] := rfl
  rw [e1, List.drop_of_length_le (by rw [imgC_len s k v pl t ht]; simp [ht'])]
  simp [imgC]

set_option maxHeartbeats 1000000 in
set_option maxRecDepth 100000 in
theorem rmake_bad (so : Option Addr) (sn sc : Nat) (s k v : Int) (ao : Option Addr) (n cap : Nat) (t : List By) (ht : t.length = 32) (w : World) (E : Int) (hm : may s k v n = E) (hE : ¬ E = 0) :
    Calls Tryd.prog 11 #[.slice so sn sc, .agg (imgC s k v (.slice ao n cap) t).toArray] w fun e w' => e = .returned (.tuple #[.slice none 0 0, .int .i64 E]) ∧ Below w.heap.size w w' := by
  have r0 := Row.at w 27 (imgC s k v (.slice ao n cap) t) _ _ rfl rfl
  have b1 : Below w.heap.size w (w.alloc (.cells (imgC s k v (.slice ao n cap) t).toArray 27)) := (Below.refl _ _).alloc (Nat.le_refl _) _
  have M1 := may_any s k v ao n cap t (w.alloc (.cells (imgC s k v (.slice ao n cap) t).toArray 27))
  have hil := imgC_len s k v (.slice ao n cap) t ht
  rw [hm] at M1
  have hq : (E == 0) = false := by simpa using hE
  generalize imgC s k v (.slice ao n cap) t = IM at *
  clear hm
  go_enter Tryd.func11, Tryd.ntmps11
  go_wp2_with (refine wpList_load_Row rfl 27 _ rfl _ _ IM r0 rfl _ Tryd.underlying27 rfl (by rw [hil]; kernel_rfl) ?_)
  refine M1.mono ?_
  rintro e w2 ⟨rfl, hb2⟩
  go_wp2
  go_ret2
  exact ⟨rfl, b1.trans (hb2.mono (by simp))⟩

theorem may_ok (s k v n : Nat) (hs : s < 8) (hk : k < 64) (hv : v < 4294967296) (hn : n ≤ 524240) : may s k v n = 0 := by
  unfold may; rw [if_neg (by omega), if_neg (by omega)]

set_option maxHeartbeats 1000000 in
set_option maxRecDepth 100000 in
theorem rmake_ok (so : Option Addr) (sn sc : Nat) (sec : List By) (hsec : sec.length = sn) (s k v : Nat) (ao : Option Addr) (n cap : Nat) (p t : List By) (hp : p.length = n) (ht : t.length = 32) (w : World)
    (hsb : IsB w so sec) (hsn : so = none → sc = 0) (hsl : sn ≤ 140737488353280) (hb : IsB w ao p) (hnil : ao = none → cap = 0) (hs : s < 8) (hk : k < 64) (hv : v < 4294967296) (hn : n ≤ 524240) :
    Calls Tryd.prog 11 #[.slice so sn sc, .agg (imgC s k v (.slice ao n cap) t).toArray] w fun e w' => ∃ ao' c', e = .returned (.tuple #[.slice ao' (n + 48) c', .int .i64 0]) ∧ Own w.heap.size w' (.slice ao' (n + 48) c') (cover s k v p ++ tag sec (cover s k v p)) ∧ Below w.heap.size w w' := by
  have r0 := Row.at w 27 (imgC s k v (.slice ao n cap) t) _ _ rfl rfl
  have b1 : Below w.heap.size w (w.alloc (.cells (imgC s k v (.slice ao n cap) t).toArray 27)) := (Below.refl _ _).alloc (Nat.le_refl _) _
  have hz : (w.alloc (.cells (imgC s k v (.slice ao n cap) t).toArray 27)).heap.size = w.heap.size + 1 := by simp
  have M1 := may_any s k v ao n cap t (w.alloc (.cells (imgC s k v (.slice ao n cap) t).toArray 27))
  rw [may_ok s k v n hs hk hv hn] at M1
  have hil := imgC_len s k v (.slice ao n cap) t ht
  have HCL : (cover s k v p).length = n + 16 := by rw [cover_len, hp]
  have C1 : Hid (∀ W, Below w.heap.size w W → Calls Tryd.prog 27 #[.agg (imgC s k v (.slice ao n cap) t).toArray] W fun e w' => ∃ ao' c', e = .returned (.slice ao' (n + 16) c') ∧ Own W.heap.size w' (.slice ao' (n + 16) c') (cover s k v p) ∧ Below W.heap.size W w') :=
    fun W h => cover_any s k v ao n cap p t hp W (hb.below h (Nat.le_refl _)) hnil hs hk hv hn
  have SB : Hid (∀ W, Below w.heap.size w W → IsB W so sec) := fun W h => hsb.below h (Nat.le_refl _)
  have HSEC : Hid (sec.length = sn) := hsec
  have HSN : Hid (so = none → sc = 0) := hsn
  have HTL : Hid ((tag sec (cover s k v p)).length = 32) := tag_len _ _
  have T1 : Hid (∀ W, Below w.heap.size w W → Calls Tryd.prog 28 #[.agg (imgC s k v (.slice ao n cap) (tag sec (cover s k v p))).toArray] W fun e w' => ∃ ao' c', e = .returned (.slice ao' (n + 48) c') ∧ Own W.heap.size w' (.slice ao' (n + 48) c') (cover s k v p ++ tag sec (cover s k v p)) ∧ Below W.heap.size W w') :=
    fun W h => tagged_any s k v ao n cap p _ hp (tag_len _ _) W (hb.below h (Nat.le_refl _)) hnil hs hk hv hn
  have ES := imgC_settag s k v (.slice ao n cap) t (tag sec (cover s k v p)) ht (tag_len _ _)
  have hil2 := imgC_len s k v (.slice ao n cap) (tag sec (cover s k v p)) (tag_len _ _)
  have RT : Hid (∀ (bo : Option Addr) (nb cb : Nat) (W : World), nb = n + 16 → IsB W so sec → IsB W bo (cover s k v p) → (bo = none → cb = 0) → Calls Tryd.prog 20 #[.slice so sn sc, .slice bo nb cb] W fun e w' => e = .returned (.agg ((tag sec (cover s k v p)).map B8).toArray) ∧ Below W.heap.size W w') :=
    fun bo nb cb W h1 h2 h3 h4 => refMac_any so bo sn sc nb cb sec (cover s k v p) hsec (by rw [HCL, h1]) W h2 h3 hsn h4 hsl (by omega)
  generalize imgC s k v (.slice ao n cap) (tag sec (cover s k v p)) = IM2 at *
  generalize tag sec (cover s k v p) = TG at *
  generalize cover s k v p = CV at *
  generalize imgC s k v (.slice ao n cap) t = IM at *
  clear hs hk hv ht hp hb hsb hnil hsec hsn
  go_enter Tryd.func11, Tryd.ntmps11
  go_wp2_with (refine wpList_load_Row rfl 27 _ rfl _ _ IM r0 rfl _ Tryd.underlying27 rfl (by rw [hil]; kernel_rfl) ?_)
  refine M1.mono ?_
  rintro e w2 ⟨rfl, hb2⟩
  rw [hz] at hb2
  have r2 := r0.below hb2 (by omega)
  have bb := b1.trans (hb2.mono (by omega))
  clear M1 r0
  go_wp2_with (refine wpList_load_Row rfl 27 _ rfl _ _ IM r2 rfl _ Tryd.underlying27 rfl (by rw [hil]; kernel_rfl) ?_)
  refine (C1.out _ bb).mono ?_
  rintro e w3 ⟨ao3, c3, rfl, ho3, hb3⟩
  replace r2 := r2.below hb3 r2.lt
  have bb3 := bb.trans (hb3.mono bb.size)
  obtain ⟨l3, n3, k3, _⟩ := own_isb ho3
  go_wp2_with fail
  refine (RT.out ao3 (n + 16) c3 w3 rfl (SB.out _ bb3) (own_IsB ho3) n3).mono ?_
  rintro e w4 ⟨rfl, hb4⟩
  replace r2 := r2.below hb4 r2.lt
  have bb4 := bb3.trans (hb4.mono bb3.size)
  have htl := HTL.out
  go_wp2_with (first | (refine wpList_store_Row rfl 25 _ _ rfl w.heap.size 27 4 IM (TG.map B8) r2 (by rw [hil, List.length_map, htl]; omega) rfl rfl (by rw [List.length_map, htl]; kernel_rfl) (B8_one _) ?_; intro w5 hr5 hs5; rw [ES] at hr5) | (refine wpList_load_Row rfl 27 _ rfl _ _ IM2 hr5 rfl _ Tryd.underlying27 rfl (by rw [hil2]; kernel_rfl) ?_))
  have bb5 := hs5.below bb4 (Nat.le_refl _)
  refine (T1.out _ bb5).mono ?_
  rintro e w6 ⟨ao6, c6, rfl, ho6, hb6⟩
  go_wp2
  go_ret2
  exact ⟨ao6, c6, rfl, own_le ho6 bb5.size, bb5.trans (hb6.mono bb5.size)⟩

set_option maxHeartbeats 1000000 in
set_option maxRecDepth 100000 in
/-- Body: all but the last 32 bytes; nothing, if there are fewer. -/
theorem rbody_short (ao : Option Addr) (n cap : Nat) (w : World) (hn : n < 32) :
    Calls Tryd.prog 18 #[.slice ao n cap] w fun e w' => e = .returned (.slice none 0 0) ∧ w' = w := by
  have i1 : (n : Int) < 32 := by omega
  go_enter Tryd.func18, Tryd.ntmps18
  go_wp2
  go_ret
  exact ⟨rfl, rfl⟩

theorem isB_take {w : World} {ao : Option Addr} {b : List By} (h : IsB w ao b) (k : Nat) : IsB w ao (b.take k) := by
  rcases h with rfl | ⟨B, off, rfl, hc⟩
  · left; simp
  · right
    refine ⟨B, off, rfl, fun j v hj => hc j v ?_⟩
    rw [List.getElem?_take] at hj
    split at hj
    · exact hj
    · cases hj

set_option maxHeartbeats 1000000 in
set_option maxRecDepth 100000 in
theorem rbody_long (ao : Option Addr) (n cap : Nat) (b : List By) (hb0 : b.length = n) (w : World) (hb : IsB w ao b) (hcap : n ≤ cap) (hl : n ≤ 140737488353280) (hn : 32 ≤ n) :
    Calls Tryd.prog 18 #[.slice ao n cap] w fun e w' => ∃ ao' c', e = .returned (.slice ao' (n - 32) c') ∧ Own w.heap.size w' (.slice ao' (n - 32) c') (b.take (n - 32)) ∧ Below w.heap.size w w' := by
  obtain ⟨B, off, rfl, _⟩ : ∃ B off, ao = some ⟨B, off, none⟩ ∧ True := by
    rcases hb with rfl | ⟨B, off, h, _⟩
    · simp at hb0; omega
    · exact ⟨B, off, h, trivial⟩
  have HBL : Hid ((b.take (n - 32)).length = n - 32) := by show _ = _; rw [List.length_take, hb0]; omega
  have IB : Hid (∀ W, Below w.heap.size w W → IsB W (some ⟨B, off, none⟩) (b.take (n - 32))) := fun W h => isB_take (hb.below h (Nat.le_refl _)) _
  have ho := own_empty w.heap.size w (Nat.le_refl _) #[] rfl
  have b0 : Below w.heap.size w (w.alloc (.cells #[] 5)) := (Below.refl _ _).alloc (Nat.le_refl _) _
  clear hb hb0
  obtain ⟨m, rfl⟩ : ∃ m, n = m + 32 := ⟨n - 32, by omega⟩
  rw [Nat.add_sub_cancel] at *
  have i1 : ¬ (((m + 32 : Nat) : Int) < 32) := by omega
  have i2 : ((m + 32 : Nat) : Int) - 32 = (m : Int) := by omega
  have i3 : (0 : Int) ≤ (m : Int) := by omega
  have i4 : (m : Int) ≤ (cap : Int) := by omega
  go_enter Tryd.func18, Tryd.ntmps18
  go_wp2_with (at_builtin; refine wpList_append_more rfl (.tmp 8) (.tmp 13) rfl w.heap.size w (some ⟨w.heap.size, 0, none⟩) 0 0 [] rfl rfl ho b0 (some ⟨B, off, none⟩) m cap (b.take m) rfl HBL.out (IB.out _ b0) (fun h => by cases h) (by omega) ?_; intro ao4 c5 w4 ho4 hb4)
  go_ret
  refine ⟨ao4, c5, rfl, ?_, hb4⟩
  rw [Nat.zero_add] at ho4
  exact ho4
end Go.Proofs.YtnpbgfnahkmhoaaDoor
