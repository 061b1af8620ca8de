
import Derived.Test.YtnpbgfnahkmhoaaDoorI11Awake
/-! The laws' own walks: ImageNames, ImageMakes. -/
namespace Go.Proofs.YtnpbgfnahkmhoaaDoor
open Go.RowKit

set_option maxHeartbeats 1000000 in
set_option maxRecDepth 100000 in
theorem names_any (w : World) (hg : HG w) : Calls Tryd.prog 3 #[] w fun e w' => e = .returned (.bool true) ∧ Below w.heap.size w w' := by
  go_enter Tryd.func3, Tryd.ntmps3
  go_wp2_with (go_at_call 9; refine (awake_any _ hg).mono ?_; rintro e w2 ⟨rfl, hb2⟩)
  go_ret
  exact ⟨rfl, hb2⟩

theorem may_zero {s k v : Int} {n : Nat} (h : may s k v n = 0) : ∃ a b c : Nat, s = a ∧ k = b ∧ v = c ∧ a < 8 ∧ b < 64 ∧ c < 4294967296 ∧ n ≤ 524240 := by
  unfold may at h
  split at h
  · omega
  · split at h
    · omega
    · exact ⟨s.toNat, k.toNat, v.toNat, by omega, by omega, by omega, by omega, by omega, by omega, by omega⟩

/-- What Make tells of bytes. -/
def mkd (sec : List By) (s k v : Nat) (p : List By) : List By := cover s k v p ++ tag sec (cover s k v p)
theorem mkd_len (sec : List By) (s k v : Nat) (p : List By) : (mkd sec s k v p).length = p.length + 48 := by
  unfold mkd; rw [List.length_append, cover_len, tag_len]

set_option maxHeartbeats 1000000 in
set_option maxRecDepth 100000 in
theorem makes_any (so : Option Addr) (sn sc : Nat) (sec : List By) (hsec : sec.length = sn) (s k v : Int) (ao : Option Addr) (n cap : Nat) (p t : List By) (hp : p.length = n) (ht : t.length = 32) (w : World) (hg : HG w)
    (hsb : IsB w so sec) (hsn : so = none → sc = 0) (hsc : sn ≤ sc) (hsl : sn ≤ 140737488351232) (hb : IsB w ao p) (hnil : ao = none → cap = 0) (hcap : n ≤ cap) (hl : n ≤ 140737488351232) :
    Calls Tryd.prog 4 #[.slice so sn sc, .agg (imgC s k v (.slice ao n cap) t).toArray] w fun e w' => e = .returned (.bool true) ∧ Below w.heap.size w w' := by
  have b1 : Below w.heap.size w (w.alloc (.cells (imgC s k v (.slice ao n cap) t).toArray 27)) := (Below.refl _ _).alloc (Nat.le_refl _) _
  have r0 := Row.at w 27 (imgC s k v (.slice ao n cap) t) _ _ rfl rfl
  have hil := imgC_len s k v (.slice ao n cap) t ht
  have AW := awake_any _ (hg.below b1 hg.lt)
  have SB : Hid (∀ W, Below w.heap.size w W → IsB W so sec) := fun W h => hsb.below h (Nat.le_refl _)
  have PB : Hid (∀ W, Below w.heap.size w W → IsB W ao p) := fun W h => hb.below h (Nat.le_refl _)
  by_cases hm : may s k v n = 0
  · obtain ⟨a, b, c, rfl, rfl, rfl, ha, hb', hc, hn⟩ := may_zero hm
    have C1 : Hid (∀ W, Below w.heap.size w W → Calls Tryd.prog 10 #[.slice so sn sc, .agg (imgC a b c (.slice ao n cap) t).toArray] W fun e w' => ∃ ao' c', e = .returned (.tuple #[.slice ao' (n + 48) c', .int .i64 0]) ∧ Own W.heap.size w' (.slice ao' (n + 48) c') (mkd sec a b c p) ∧ Below W.heap.size W w') :=
      fun W h => cmake_ok so sn sc sec hsec a b c ao n cap p t hp ht W (SB.out W h) hsn hsc hsl (PB.out W h) hnil hcap ha hb' hc hn
    have C2 : Hid (∀ W, Below w.heap.size w W → Calls Tryd.prog 11 #[.slice so sn sc, .agg (imgC a b c (.slice ao n cap) t).toArray] W fun e w' => ∃ ao' c', e = .returned (.tuple #[.slice ao' (n + 48) c', .int .i64 0]) ∧ Own W.heap.size w' (.slice ao' (n + 48) c') (mkd sec a b c p) ∧ Below W.heap.size W w') :=
      fun W h => rmake_ok so sn sc sec hsec a b c ao n cap p t hp ht W (SB.out W h) hsn (by omega) (PB.out W h) hnil ha hb' hc hn
    have HML : Hid ((mkd sec a b c p).length = n + 48) := by show _ = _; rw [mkd_len, hp]
    generalize mkd sec a b c p = MK at *
    generalize imgC a b c (.slice ao n cap) t = IM at *
    clear hm hsb hb hsn hsc hsl hnil hcap hl hp ht hsec ha hb' hc
    go_enter Tryd.func4, Tryd.ntmps4
    go_wp2_with fail
    refine AW.mono ?_
    rintro e w2 ⟨rfl, hb2⟩
    have bb2 := b1.trans (hb2.mono (by simp))
    replace r0 := r0.below hb2 (by simp)
    clear hb2 b1 AW
    go_wp2_with (refine wpList_load_Row rfl 27 _ rfl _ _ IM r0 rfl _ Tryd.underlying27 rfl (by rw [hil]; kernel_rfl) ?_)
    refine (C1.out _ bb2).mono ?_
    rintro e w3 ⟨ao3, c3, rfl, ho3, hb3⟩
    have bb3 := bb2.trans (hb3.mono bb2.size)
    replace r0 := r0.below hb3 r0.lt
    clear hb3
    go_wp2_with (refine wpList_load_Row rfl 27 _ rfl _ _ IM r0 rfl _ Tryd.underlying27 rfl (by rw [hil]; kernel_rfl) ?_)
    refine (C2.out _ bb3).mono ?_
    rintro e w4 ⟨ao4, c4, rfl, ho4, hb4⟩
    have bb4 := bb3.trans (hb4.mono bb3.size)
    have cv1 := conv_bytes w4 ao3 (n + 48) c3 MK HML.out ((own_IsB ho3).below hb4 (Nat.le_refl _))
    have cv2 := conv_bytes w4 ao4 (n + 48) c4 MK HML.out (own_IsB ho4)
    clear hb4 ho3 ho4 r0
    generalize strOf MK = S at *
    go_wp2
    go_ret
    exact ⟨rfl, bb4⟩
  · have C1 : Hid (∀ W, Below w.heap.size w W → Calls Tryd.prog 10 #[.slice so sn sc, .agg (imgC s k v (.slice ao n cap) t).toArray] W fun e w' => ∃ ao' c', e = .returned (.tuple #[.slice ao' 0 c', .int .i64 (may s k v n)]) ∧ Own W.heap.size w' (.slice ao' 0 c') [] ∧ Below W.heap.size W w') :=
      fun W h => cmake_bad so sn sc sec hsec s k v ao n cap p t hp ht W (SB.out W h) hsn hsc hsl (PB.out W h) hnil hcap hl _ rfl hm
    have C2 : Hid (∀ W, Below w.heap.size w W → Calls Tryd.prog 11 #[.slice so sn sc, .agg (imgC s k v (.slice ao n cap) t).toArray] W fun e w' => e = .returned (.tuple #[.slice none 0 0, .int .i64 (may s k v n)]) ∧ Below W.heap.size W w') :=
      fun W h => rmake_bad so sn sc s k v ao n cap t ht W _ rfl hm
    generalize may s k v n = E at *
    generalize imgC s k v (.slice ao n cap) t = IM at *
    clear hm hsb hb hsn hsc hsl hnil hcap hl hp ht hsec
    go_enter Tryd.func4, Tryd.ntmps4
    go_wp2_with fail
    refine AW.mono ?_
    rintro e w2 ⟨rfl, hb2⟩
    have bb2 := b1.trans (hb2.mono (by simp))
    replace r0 := r0.below hb2 (by simp)
    clear hb2 b1 AW
    go_wp2_with (refine wpList_load_Row rfl 27 _ rfl _ _ IM r0 rfl _ Tryd.underlying27 rfl (by rw [hil]; kernel_rfl) ?_)
    refine (C1.out _ bb2).mono ?_
    rintro e w3 ⟨ao3, c3, rfl, ho3, hb3⟩
    have bb3 := bb2.trans (hb3.mono bb2.size)
    replace r0 := r0.below hb3 r0.lt
    clear hb3
    go_wp2_with (refine wpList_load_Row rfl 27 _ rfl _ _ IM r0 rfl _ Tryd.underlying27 rfl (by rw [hil]; kernel_rfl) ?_)
    refine (C2.out _ bb3).mono ?_
    rintro e w4 ⟨rfl, hb4⟩
    have bb4 := bb3.trans (hb4.mono bb3.size)
    have cv1 := conv_bytes w4 ao3 0 c3 [] rfl ((own_IsB ho3).below hb4 (Nat.le_refl _))
    have cv2 := conv_bytes w4 none 0 0 [] rfl (.inl rfl)
    clear hb4 ho3 r0
    generalize strOf [] = S at *
    go_wp2
    go_ret
    exact ⟨rfl, bb4⟩
end Go.Proofs.YtnpbgfnahkmhoaaDoor
