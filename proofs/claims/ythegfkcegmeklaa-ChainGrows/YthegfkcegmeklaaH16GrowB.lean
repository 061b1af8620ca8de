
import Derived.Test.YthegfkcegmeklaaH16Grow
/-! ChainGrows from its beginning, of any chain in code. -/
namespace Go.Proofs.Ythegfkcegmeklaa
open Go.RowKit
set_option linter.unusedVariables false

theorem FW.pushes {Lg : (Nat → Prop) → World → Addr → List EvV → Prop} (C : Chn Lg) {w : World} {a : Addr} {xs : List EvV} {R R2 : List (Nat × Nat × List Value)} {W W' : World} (h : FW Lg w a xs R W) (hb : Below W.heap.size W W') (hr : ∀ t ∈ R2, Row W' t.1 t.2.1 t.2.2 ∧ W.heap.size ≤ t.1) : FW Lg w a xs (R2 ++ R) W' := by
  obtain ⟨S0, k1, k2, k3, k4⟩ := h
  refine ⟨S0, C.keep k1 (fun j hj => hb.block j (C.lt k1 j hj)) hb.size, k2, k3.trans (hb.mono k3.size), fun t ht => ?_⟩
  rcases List.mem_append.1 ht with ht | ht
  · exact ⟨(hr t ht).1, fun hs => by have := C.lt k1 _ hs; have := (hr t ht).2; omega⟩
  · exact ⟨(k4 t ht).1.below hb (k4 t ht).1.lt, (k4 t ht).2⟩

set_option maxHeartbeats 4000000 in
set_option maxRecDepth 1000000 in
theorem grows_any {Lg : (Nat → Prop) → World → Addr → List EvV → Prop} (C : Chn Lg) (w : World)
    (ao : Option Addr) (n cap B off : Nat) (xs : List EvV) (hn : xs.length = n) (hn47 : n ≤ 140737488355328) (hao : 0 < n → ao = some ⟨B, off, none⟩) (hin : EvIn w B off xs)
    (bo : Option Addr) (m bc D dff : Nat) (ys : List EvV) (hm : ys.length = m) (hm47 : m ≤ 140737488355328) (hbo : 0 < m → bo = some ⟨D, dff, none⟩) (hiy : EvIn w D dff ys) (x : EvV) (hx : EvOk x) :
    Calls Try.prog 7 #[.slice ao n cap, .slice bo m bc, .agg (evC x).toArray] w (KP w) := by
  obtain ⟨W1, hW1⟩ : ∃ W1, W1 = w.alloc (.cells (evC x).toArray 35) := ⟨_, rfl⟩
  have b1 : Below w.heap.size w W1 := by rw [hW1]; exact (Below.refl _ _).alloc (Nat.le_refl _) _
  have r5 : Row W1 w.heap.size 35 (evC x) := by rw [hW1]; exact Row.at _ _ _ _ _ rfl rfl
  have HB1 : Hid (Below w.heap.size w W1) := b1
  have R5 : Hid (Row W1 w.heap.size 35 (evC x)) := r5
  have HFX : Hid (∀ W, Calls Try.prog 8 #[] W fun e w' => e = .returned (.bool true) ∧ Below W.heap.size W w') := fun W => fixed_any C W
  have FIN : Hid (∀ W, Below w.heap.size w W → ∀ e w', (e = Ending.returned (.bool true) ∧ Below W.heap.size W w') → KP w e w') := fun W hW e w' h => ⟨h.1, hW.trans (h.2.mono hW.size)⟩
  clear b1 r5
  by_cases hbig : 1023 < n ∨ 1023 < m
  · clear C R5 hin hiy hn hm hao hbo
    by_cases h1 : 1023 < n
    · have i1 : (n : Int) > 1023 := by omega
      have i2 : (1023 : Int) < (n : Int) := by omega
      go_enter Try.func7, Try.ntmps7
      go_wp2_with fail
      rw [← hW1]
      refine (HFX.out _).mono ?_
      rintro e w9 ⟨rfl, hb9⟩
      dsimp only
      have HBE : Hid (Below w.heap.size w w9) := HB1.out.trans (hb9.mono HB1.out.size)
      clear hb9
      go_wp2
      go_ret
      exact ⟨rfl, HBE.out⟩
    · have i1 : ¬ (n : Int) > 1023 := by omega
      have i2 : ¬ (1023 : Int) < (n : Int) := by omega
      have i3 : (m : Int) > 1023 := by omega
      have i4 : (1023 : Int) < (m : Int) := by omega
      go_enter Try.func7, Try.ntmps7
      go_wp2_with fail
      rw [← hW1]
      refine (HFX.out _).mono ?_
      rintro e w9 ⟨rfl, hb9⟩
      dsimp only
      have HBE : Hid (Below w.heap.size w w9) := HB1.out.trans (hb9.mono HB1.out.size)
      clear hb9
      go_wp2
      go_ret
      exact ⟨rfl, HBE.out⟩
  have i1 : ¬ (n : Int) > 1023 := by omega
  have i2 : ¬ (1023 : Int) < (n : Int) := by omega
  have i3 : ¬ (m : Int) > 1023 := by omega
  have i4 : ¬ (1023 : Int) < (m : Int) := by omega
  have HN : Hid (n ≤ 1023 ∧ m ≤ 1023) := (⟨by omega, by omega⟩ : n ≤ 1023 ∧ m ≤ 1023)
  have tx : xs.take 1024 = xs := List.take_of_length_le (by omega)
  have ty : ys.take 1024 = ys := List.take_of_length_le (by omega)
  have HIN : Hid (∀ W, Below w.heap.size w W → EvIn W B off xs ∧ EvIn W D dff ys) := fun W hW => ⟨hin.keep hW, hiy.keep hW⟩
  have LGX : Hid (∀ W, Below w.heap.size w W → Calls Try.prog 21 #[.slice ao n cap] W fun e w' => ∃ a S, e = .returned (.pointer (some a)) ∧ Lg S w' a xs ∧ (∀ j, S j → W.heap.size ≤ j) ∧ Below W.heap.size W w') := fun W hW => by
    have := logged_any C W ao n cap B off xs hn hn47 hao (HIN.out W hW).1
    rw [tx] at this; exact this
  have LGY : Hid (∀ W, Below w.heap.size w W → Calls Try.prog 21 #[.slice bo m bc] W fun e w' => ∃ a S, e = .returned (.pointer (some a)) ∧ Lg S w' a ys ∧ (∀ j, S j → W.heap.size ≤ j) ∧ Below W.heap.size W w') := fun W hW => by
    have := logged_any C W bo m bc D dff ys hm hm47 hbo (HIN.out W hW).2
    rw [ty] at this; exact this
  have HC : Hid (Chn Lg) := C
  have RGX : Hid (∀ a S W, Lg S W a xs → Calls Try.prog 11 #[.pointer (some a)] W fun e w' => ∃ S', e = .returned (.agg ((reg xs).map B8).toArray) ∧ Lg S' w' a xs ∧ (∀ j, S' j → S j ∨ W.heap.size ≤ j) ∧ But S W w') := fun a S W hl => C.register hl
  have RGY : Hid (∀ a S W, Lg S W a ys → Calls Try.prog 11 #[.pointer (some a)] W fun e w' => ∃ S', e = .returned (.agg ((reg ys).map B8).toArray) ∧ Lg S' w' a ys ∧ (∀ j, S' j → S j ∨ W.heap.size ≤ j) ∧ But S W w') := fun a S W hl => C.register hl
  have lRC : ((reg xs).map B8).length = 32 := by rw [List.length_map]; exact reg_len _
  have lSC : ((reg ys).map B8).length = 32 := by rw [List.length_map]; exact reg_len _
  have oRC : Hid (∀ v ∈ (reg xs).map B8, v.oneCell' = true) := B8_one _
  have oSC : Hid (∀ v ∈ (reg ys).map B8, v.oneCell' = true) := B8_one _
  have lEC := evC_len hx
  have NX : Hid (∀ (W : World) (lp : Addr) (g5 g9 g10 : Nat), FW Lg w lp xs [(g10, 32, (reg ys).map B8), (g9, 32, (reg xs).map B8), (g5, 35, evC x)] W → ∀ c2 c3 c4 c6 c8 c11 c12 c13 c14 c15 c16 c17 c18 c19 c20 c21 c22 c23 c24 c25 c26 c27 c28 c29 c30 c31 c32 c33 c34 c35 c36 c37 c38 c39 c40 c41 c42 c43 c44 c45 c46 c47 c48 c49 c50 c51 c52 c53 c54 c55 c56 c57 c58 c59 c60 c61 c62 c63 c64 c65 c66 c67 c68 c69 c70 c71 c72 c73 c74 c75 c76 c77 c78 c79 c80 c81 c82 c83 c84 : Value, Code.wp Try.prog (dropS 5 (Try.f7.body.getD .skip)) (bodyPost Try.prog Try.f7 (KP w)) ⟨#[.slice ao n cap, .slice bo m bc, c2, c3, c4, .pointer (some ⟨g5, 0, none⟩), c6, .pointer (some lp), c8, .pointer (some ⟨g9, 0, none⟩), .pointer (some ⟨g10, 0, none⟩), c11, c12, c13, c14, c15, c16, c17, c18, c19, c20, c21, c22, c23, c24, c25, c26, c27, c28, c29, c30, c31, c32, c33, c34, c35, c36, c37, c38, c39, c40, c41, c42, c43, c44, c45, c46, c47, c48, c49, c50, c51, c52, c53, c54, c55, c56, c57, c58, c59, c60, c61, c62, c63, c64, c65, c66, c67, c68, c69, c70, c71, c72, c73, c74, c75, c76, c77, c78, c79, c80, c81, c82, c83, c84], []⟩ W) := fun W lp g5 g9 g10 hF c2 c3 c4 c6 c8 c11 c12 c13 c14 c15 c16 c17 c18 c19 c20 c21 c22 c23 c24 c25 c26 c27 c28 c29 c30 c31 c32 c33 c34 c35 c36 c37 c38 c39 c40 c41 c42 c43 c44 c45 c46 c47 c48 c49 c50 c51 c52 c53 c54 c55 c56 c57 c58 c59 c60 c61 c62 c63 c64 c65 c66 c67 c68 c69 c70 c71 c72 c73 c74 c75 c76 c77 c78 c79 c80 c81 c82 c83 c84 => gst5 C w W lp g5 g9 g10 ao n cap B off xs hn (by omega) hao hin bo m bc D dff ys hm (by omega) hbo hiy x hx hF c2 c3 c4 c6 c8 c11 c12 c13 c14 c15 c16 c17 c18 c19 c20 c21 c22 c23 c24 c25 c26 c27 c28 c29 c30 c31 c32 c33 c34 c35 c36 c37 c38 c39 c40 c41 c42 c43 c44 c45 c46 c47 c48 c49 c50 c51 c52 c53 c54 c55 c56 c57 c58 c59 c60 c61 c62 c63 c64 c65 c66 c67 c68 c69 c70 c71 c72 c73 c74 c75 c76 c77 c78 c79 c80 c81 c82 c83 c84
  have hz1 : W1.heap.size = w.heap.size + 1 := by rw [hW1]; simp
  have HZ1 : Hid (W1.heap.size = w.heap.size + 1) := hz1
  clear C hin hiy hn hm hao hbo hx tx ty hbig HIN hz1
  generalize hRC : (reg xs).map B8 = RC at *
  generalize hSC : (reg ys).map B8 = SC at *
  generalize hEC : evC x = EC at *
  clear hRC hSC hEC
  go_enter Try.func7, Try.ntmps7
  refine wp_seq_k fun K hK => ?_
  have HKK : Hid _ := hK
  clear hK
  go_wp2_with fail
  refine HKK.out _ _ ?_
  clear HKK
  rw [← hW1]
  clear hW1
  refine wp_seq_k fun K hK => ?_
  have HKK : Hid _ := hK
  clear hK
  go_wp2_with fail
  refine HKK.out _ _ ?_
  clear HKK
  refine wp_seq_k fun K hK => ?_
  have HKK : Hid _ := hK
  clear hK
  go_wp2_with fail
  refine (LGX.out _ HB1.out).mono ?_
  clear LGX
  rintro e w2 ⟨a, S, rfl, hl, hs, hb2⟩
  dsimp only
  have HX2 : Hid (Lg S w2 a xs ∧ (∀ j, S j → W1.heap.size ≤ j) ∧ Below W1.heap.size W1 w2) := ⟨hl, hs, hb2⟩
  clear hl hs hb2
  go_wp2_with fail
  refine (LGY.out _ (HB1.out.trans (HX2.out.2.2.mono HB1.out.size))).mono ?_
  clear LGY
  rintro e w3 ⟨a2, S2, rfl, hl2, hs2, hb3⟩
  dsimp only
  have HX3 : Hid (Lg S w3 a xs ∧ Lg S2 w3 a2 ys ∧ (∀ j, S j → W1.heap.size ≤ j) ∧ (∀ j, S2 j → W1.heap.size ≤ j) ∧ (∀ j, S j → ¬ S2 j) ∧ Below W1.heap.size W1 w3) := by
    obtain ⟨k1, k2, k3⟩ := HX2.out
    refine ⟨HC.out.keep k1 (fun j hj => hb3.block j (HC.out.lt k1 j hj)) hb3.size, hl2, k2, fun j hj => Nat.le_trans k3.size (hs2 j hj), fun j h1 h2 => ?_, k3.trans (hb3.mono k3.size)⟩
    have := HC.out.lt k1 j h1
    have := hs2 j h2
    omega
  clear HX2 hl2 hs2 hb3
  go_wp2
  refine HKK.out _ _ ?_
  clear HKK
  refine wp_seq_k fun K hK => ?_
  have HKK : Hid _ := hK
  clear hK
  go_wp2
  refine HKK.out _ _ ?_
  clear HKK
  refine wp_seq_k fun K hK => ?_
  have HKK : Hid _ := hK
  clear hK
  go_wp2_with fail
  refine (RGX.out _ _ _ HX3.out.1).mono ?_
  clear RGX
  rintro e w4 ⟨S', rfl, hl4, hs4, hb4⟩
  dsimp only
  have HX4 : Hid (Lg S' w4 a xs ∧ Lg S2 w4 a2 ys ∧ (∀ j, S' j → W1.heap.size ≤ j) ∧ (∀ j, S2 j → W1.heap.size ≤ j) ∧ (∀ j, S' j → ¬ S2 j) ∧ Below W1.heap.size W1 w4) := by
    obtain ⟨k1, k2, k3, k4, k5, k6⟩ := HX3.out
    refine ⟨hl4, HC.out.keep k2 (fun j hj => hb4.block j (HC.out.lt k2 j hj) fun h => k5 j h hj) hb4.size, fun j hj => (hs4 j hj).elim (k3 j) fun h => Nat.le_trans k6.size h, k4, fun j h1 h2 => ?_, k6.trans (hb4.below k6.size k3)⟩
    rcases hs4 j h1 with h | h
    · exact k5 j h h2
    · have := HC.out.lt k2 j h2
      omega
  clear HX3 hl4 hs4 hb4
  go_wp2_with fail
  refine (RGY.out _ _ _ HX4.out.2.1).mono ?_
  clear RGY
  rintro e w5 ⟨S5, rfl, hl5, hs5, hb5⟩
  dsimp only
  have HX5 : Hid (Lg S' w5 a xs ∧ (∀ j, S' j → W1.heap.size ≤ j) ∧ Below W1.heap.size W1 w5) := by
    obtain ⟨k1, k2, k3, k4, k5, k6⟩ := HX4.out
    exact ⟨HC.out.keep k1 (fun j hj => hb5.block j (HC.out.lt k1 j hj) (k5 j hj)) hb5.size, k3, k6.trans (hb5.below k6.size k4)⟩
  clear HX4 hl5 hs5 hb5
  have F5 : Hid (FW Lg w a xs [(w.heap.size, 35, EC)] w5) := by
    obtain ⟨k1, k2, k3⟩ := HX5.out
    have hz := HZ1.out
    refine ⟨S', k1, fun j hj => by have := k2 j hj; omega, HB1.out.trans (k3.mono (by omega)), fun t ht => ?_⟩
    rw [List.mem_singleton] at ht
    subst ht
    exact ⟨R5.out.below k3 (by show w.heap.size < _; omega), fun h => by have := k2 _ h; simp only at this; omega⟩
  clear HX5
  have r9 : Row ((w5.alloc (.cells z32.toArray 32)).alloc (.cells z32.toArray 32)) w5.heap.size 32 z32 := (Row.at w5 _ _ _ _ rfl rfl).alloc _
  have r10 : Row ((w5.alloc (.cells z32.toArray 32)).alloc (.cells z32.toArray 32)) (w5.heap.size + 1) 32 z32 := Row.at _ _ _ _ _ (by simp) rfl
  have b5 : Below w5.heap.size w5 ((w5.alloc (.cells z32.toArray 32)).alloc (.cells z32.toArray 32)) := ((Below.refl _ _).alloc (Nat.le_refl _) _).alloc (by simp) _
  have R9 : Hid (Row ((w5.alloc (.cells z32.toArray 32)).alloc (.cells z32.toArray 32)) w5.heap.size 32 z32) := r9
  have R10 : Hid (Row ((w5.alloc (.cells z32.toArray 32)).alloc (.cells z32.toArray 32)) (w5.heap.size + 1) 32 z32) := r10
  have B5 : Hid (Below w5.heap.size w5 ((w5.alloc (.cells z32.toArray 32)).alloc (.cells z32.toArray 32))) := b5
  clear r9 r10 b5
  go_wp2_with (first
    | (refine wpList_store_Row rfl 32 (.tmp 9) _ rfl w5.heap.size 32 0 z32 RC R9.out (by rw [lRC]; exact Nat.le_refl _) rfl rfl (by rw [lRC]; kernel_rfl) oRC.out ?_; intro w6a h6a s6a; have q9 : Hid (Row w6a w5.heap.size 32 RC) := row_whole h6a (by rw [lRC]; exact Nat.le_refl _); have q10 : Hid (Row w6a (w5.heap.size + 1) 32 z32) := R10.out.but s6a (by omega); have b6 : Hid (Below w5.heap.size w5 w6a) := s6a.below B5.out (Nat.le_refl _); clear h6a s6a)
    | (refine wpList_store_Row rfl 32 (.tmp 10) _ rfl (w5.heap.size + 1) 32 0 z32 SC q10.out (by rw [lSC]; exact Nat.le_refl _) rfl rfl (by rw [lSC]; kernel_rfl) oSC.out ?_; intro w6 h6 s6))
  have F6 : FW Lg w a xs [(w5.heap.size + 1, 32, SC), (w5.heap.size, 32, RC), (w.heap.size, 35, EC)] w6 := by
    refine FW.pushes HC.out F5.out (R2 := [(w5.heap.size + 1, 32, SC), (w5.heap.size, 32, RC)]) (s6.below b6.out (by omega)) fun t ht => ?_
    rcases List.mem_cons.1 ht with rfl | ht
    · exact ⟨row_whole h6 (by rw [lSC]; exact Nat.le_refl _), by show w5.heap.size ≤ w5.heap.size + 1; omega⟩
    · rw [List.mem_singleton] at ht
      subst ht
      exact ⟨q9.out.but s6 (by omega), Nat.le_refl _⟩
  refine HKK.out _ _ ?_
  exact NX.out _ _ _ _ _ F6 _ _ _ _ _ _ _ _ _ _ _ _ _ _ _ _ _ _ _ _ _ _ _ _ _ _ _ _ _ _ _ _ _ _ _ _ _ _ _ _ _ _ _ _ _ _ _ _ _ _ _ _ _ _ _ _ _ _ _ _ _ _ _ _ _ _ _ _ _ _ _ _ _ _ _ _ _ _ _
end Go.Proofs.Ythegfkcegmeklaa
