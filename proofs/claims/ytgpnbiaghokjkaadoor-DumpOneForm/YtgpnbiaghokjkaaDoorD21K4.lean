import Derived.Test.YtgpnbiaghokjkaaDoorD21K3
import Derived.Test.YtgpnbiaghokjkaaDoorD21OnM
import Derived.Test.YtgpnbiaghokjkaaDoorR4Fresh
import Derived.Test.YtgpnbiaghokjkaaDoorD21Fits
/-! Layer 21, the landed code: a cell's bytes taken off a line; the blank cell. (Printed by tools/genc21.py.) -/
namespace Go.Proofs.YtgpnbiaghokjkaaDoor
open Go.RowKit
set_option linter.unusedVariables false
set_option linter.unusedSimpArgs false
set_option maxRecDepth 100000

theorem hexC_hv : ∀ (x : List By), ∀ b ∈ hexC x, (hv b).isSome = true
  | [], b, h => by cases h
  | y :: x, b, h => by
    unfold hexC at h
    rw [List.flatMap_cons] at h
    rcases List.mem_append.1 h with h | h
    · have hy := y.isLt
      unfold hexB at h
      rcases List.mem_cons.1 h with rfl | h
      · rw [(hx_facts _ (by omega)).1]; rfl
      · rw [List.mem_singleton.1 h, (hx_facts _ (by omega)).1]; rfl
    · exact hexC_hv x b h
theorem unhex_none {t : List By} (j : Nat) (hj : j < t.length) (h : hv (t.getD j 0) = none) : unhex t = none := by
  cases hu : unhex t with
  | none => rfl
  | some x =>
    exfalso
    obtain ⟨e1, _⟩ := unhex_some t x hu
    have hm : t.getD j 0 ∈ hexC x := by
      rw [e1, List.getD_eq_getElem?_getD, List.getElem?_eq_getElem hj]
      exact List.getElem_mem hj
    have := hexC_hv x _ hm
    rw [h] at this
    cases this
theorem rng0 {W : World} {X t : Nat} {cs : List Value} (h : Row W X t cs) : W.rangeAt X 0 cs := by
  have := h.range 0 cs.length
  simpa using this
/-- Around the drawn order of a byte's two digits. -/
structure WZ (W1 : World) (X i VV : Nat) (pa pb la lb ls : Bool) (W : World) : Prop where
  z : ls = false → W = W1.drew
  s : ls = true → W = W1.drew.setCell ⟨X, i, none⟩ (.int .u8 (VV : Int))
  pa : la = true → pa = true
  pb : lb = true → pb = true
section
variable {W1 : World} {X i VV : Nat} {pa pb la lb ls : Bool} {W : World}
theorem WZ.zero : WZ W1 X i VV pa pb false false false W1.drew := ⟨fun _ => rfl, fun e => (by cases e), fun e => (by cases e), fun e => (by cases e)⟩
theorem WZ.a (h : WZ W1 X i VV pa pb la lb ls W) (e : pa = true) : WZ W1 X i VV pa pb true lb ls W := ⟨h.z, h.s, fun _ => e, h.pb⟩
theorem WZ.b (h : WZ W1 X i VV pa pb la lb ls W) (e : pb = true) : WZ W1 X i VV pa pb la true ls W := ⟨h.z, h.s, h.pa, fun _ => e⟩
theorem WZ.st (h : WZ W1 X i VV pa pb la lb ls W1.drew) : WZ W1 X i VV pa pb la lb true (W1.drew.setCell ⟨X, i, none⟩ (.int .u8 (VV : Int))) := ⟨fun e => (by cases e), fun _ => rfl, h.pa, h.pb⟩
theorem WZ.any (h : WZ W1 X i VV pa pb la lb ls W) : W = W1.drew ∨ W = W1.drew.setCell ⟨X, i, none⟩ (.int .u8 (VV : Int)) := by
  cases ls with
  | false => exact .inl (h.z rfl)
  | true => exact .inr (h.s rfl)
end
/-- Around the drawn order of a row's store. -/
structure WS (W1 : World) (B T : Nat) (XC : List Value) (ls : Bool) (W : World) : Prop where
  z : ls = false → W = W1.drew
  s : ls = true → Row W B T XC
  sb : ls = true → SameBut B W1.drew W
section
variable {W1 : World} {B T : Nat} {XC : List Value} {ls : Bool} {W W2 : World}
theorem WS.zero : WS W1 B T XC false W1.drew := ⟨fun _ => rfl, fun e => (by cases e), fun e => (by cases e)⟩
theorem WS.st (h : WS W1 B T XC ls W) (hl : ls = false) (hr : Row W2 B T XC) (hs : SameBut B W W2) : WS W1 B T XC true W2 := ⟨fun e => (by cases e), fun _ => hr, fun _ => by rw [← h.z hl]; exact hs⟩
theorem WS.row (h : WS W1 B T XC ls W) {X t : Nat} {cs : List Value} (hr : Row W1 X t cs) (hne : X ≠ B) : Row W X t cs := by
  cases ls with
  | false => rw [h.z rfl]; exact hr.dr ⟨1, rfl⟩
  | true => exact (hr.dr ⟨1, rfl⟩).but (h.sb rfl) hne
end
def digB (b : Bool) (n : Nat) : Ending := match b with | true => .returned (.int .u8 (n : Int)) | false => pan 5
theorem digit_b (b : By) (w : World) : Calls Tryd.prog 79 #[.int .u8 (b.toNat : Int)] w fun e w' => e = digB (hv b).isSome ((hv b).getD 0) ∧ w' = w := by
  refine (digit_any b w).mono ?_
  rintro e w' ⟨rfl, rfl⟩
  refine ⟨?_, rfl⟩
  unfold digE digB
  cases hv b <;> rfl
theorem or_hex : ∀ a b : Fin 16, bits .or .u8 ((16 * a.val : Nat) : Int) ((b.val : Nat) : Int) = ((16 * a.val + b.val : Nat) : Int) := by decide +kernel
/-- What cellOf tells. -/
def hexE (r : List By) : Ending := match hexR r with | some (x, u) => .returned (.tuple #[.agg (x.map B8).toArray, .string (strOf u)]) | none => pan 5
theorem hexTo2 (t : List By) (i : Nat) (hi : i < 32) : (hexTo t (2 * i)).set i (BitVec.ofNat 8 (16 * hN t (2 * i) + hN t (2 * i + 1))) = hexTo t (2 * (i + 1)) := by
  refine List.ext_getElem? fun k => ?_
  rw [List.getElem?_set, hexTo_len]
  by_cases hk : k < 32
  · rw [List.getElem?_eq_getElem (by rw [hexTo_len]; exact hk), List.getElem?_eq_getElem (by rw [hexTo_len]; exact hk)]
    have g1 := hexTo_get t (2 * i) k hk
    have g2 := hexTo_get t (2 * (i + 1)) k hk
    rw [List.getD_eq_getElem?_getD, List.getElem?_eq_getElem (by rw [hexTo_len]; exact hk)] at g1 g2
    simp only [Option.getD_some] at g1 g2
    rw [g1, g2]
    by_cases hik : i = k
    · subst hik
      rw [if_pos rfl, if_pos hi, if_pos (by omega)]
    · rw [if_neg hik]
      by_cases h1 : 2 * k + 1 < 2 * i
      · rw [if_pos h1, if_pos (by omega)]
      · rw [if_neg h1, if_neg (by omega), if_neg (by omega), if_neg (by omega)]
  · rw [if_neg (by omega), List.getElem?_eq_none (by rw [hexTo_len]; omega), List.getElem?_eq_none (by rw [hexTo_len]; omega)]
structure Ce7 (W1 : World) (X ci J J1 : Nat) (SS : ByteArray) (AV AH A16 BV BH VV : Nat) (pa pb : Bool) (L : Nat → Bool) (x15 x16 x17 x18 x19 x20 x21 x22 x23 x24 x25 x26 x27 x28 x29 : Value) (W : World) : Prop where
  x : WZ W1 X ci VV pa pb (L 5) (L 12) (L 15) W
  p0 : L 0 = true → x15 = .int .i64 (ci : Int)
  p1 : L 1 = true → x16 = .string SS
  p2 : L 2 = true → x17 = .int .i64 (ci : Int)
  p3 : L 3 = true → x18 = .int .i64 (J : Int)
  p4 : L 4 = true → x19 = .int .u8 (AV : Int)
  p5 : L 5 = true → x20 = .int .u8 (AH : Int)
  p6 : L 6 = true → x21 = .int .u8 (A16 : Int)
  p7 : L 7 = true → x22 = .string SS
  p8 : L 8 = true → x23 = .int .i64 (ci : Int)
  p9 : L 9 = true → x24 = .int .i64 (J : Int)
  p10 : L 10 = true → x25 = .int .i64 (J1 : Int)
  p11 : L 11 = true → x26 = .int .u8 (BV : Int)
  p12 : L 12 = true → x27 = .int .u8 (BH : Int)
  p13 : L 13 = true → x28 = .int .u8 (VV : Int)
  p14 : L 14 = true → x29 = .pointer (some ⟨X, ci, none⟩)
section
variable {W1 : World} {X ci J J1 : Nat} {SS : ByteArray} {AV AH A16 BV BH VV : Nat} {pa pb : Bool} {L : Nat → Bool} {x15 x16 x17 x18 x19 x20 x21 x22 x23 x24 x25 x26 x27 x28 x29 : Value} {W W2 : World}
end
@[reducible] def ICe7 (W1 : World) (X ci J J1 : Nat) (SS : ByteArray) (AV AH A16 BV BH VV : Nat) (pa pb : Bool) (y0 y1 y2 y3 y4 y5 y6 y7 y8 y9 y10 y11 y12 y13 y14 y30 y31 y32 y33 : Value) : (Nat → Bool) → Act → World → Prop := fun L a W => ∃ x15 x16 x17 x18 x19 x20 x21 x22 x23 x24 x25 x26 x27 x28 x29, a = ⟨#[y0, y1, y2, y3, y4, y5, y6, y7, y8, y9, y10, y11, y12, y13, y14, x15, x16, x17, x18, x19, x20, x21, x22, x23, x24, x25, x26, x27, x28, x29, y30, y31, y32, y33], []⟩ ∧ Ce7 W1 X ci J J1 SS AV AH A16 BV BH VV pa pb L x15 x16 x17 x18 x19 x20 x21 x22 x23 x24 x25 x26 x27 x28 x29 W
structure Ce9 (W1 : World) (B T : Nat) (XC : List Value) (SS SD : ByteArray) (L : Nat → Bool) (x31 x32 x33 x3 : Value) (W : World) : Prop where
  x : WS W1 B T XC (L 3) W
  p0 : L 0 = true → x31 = .agg XC.toArray
  p1 : L 1 = true → x32 = .string SS
  p2 : L 2 = true → x33 = .string SD
  p4 : L 4 = true → x3 = .string SD
section
variable {W1 : World} {B T : Nat} {XC : List Value} {SS SD : ByteArray} {L : Nat → Bool} {x31 x32 x33 x3 : Value} {W W2 : World}
end
@[reducible] def ICe9 (W1 : World) (B T : Nat) (XC : List Value) (SS SD : ByteArray) (y0 y1 y2 y4 y5 y6 y7 y8 y9 y10 y11 y12 y13 y14 y15 y16 y17 y18 y19 y20 y21 y22 y23 y24 y25 y26 y27 y28 y29 y30 : Value) : (Nat → Bool) → Act → World → Prop := fun L a W => ∃ x31 x32 x33 x3, a = ⟨#[y0, y1, y2, x3, y4, y5, y6, y7, y8, y9, y10, y11, y12, y13, y14, y15, y16, y17, y18, y19, y20, y21, y22, y23, y24, y25, y26, y27, y28, y29, y30, x31, x32, x33], []⟩ ∧ Ce9 W1 B T XC SS SD L x31 x32 x33 x3 W
set_option maxHeartbeats 4000000 in
theorem cellOf_any (r : List By) (hr : r.length ≤ 140737488355328) (w : World) : Calls Tryd.prog 74 #[.string (strOf r)] w fun e w' => e = hexE r ∧ Below w.heap.size w w' := by
  have HA : Hid (∀ W : World, Calls Tryd.prog 66 #[.string (strOf r), .string { data := #[32] }] W fun e w' => e = aftE r [32#8] ∧ w' = W) := fun W => by
    rw [k_blank]; exact after_any r [32#8] hr (by decide) W
  have r0 := Row.at w 56 ((List.replicate 32 (0#8 : By)).map B8) _ _ rfl rfl
  have b0 : Below w.heap.size w (w.alloc (.cells ((List.replicate 32 (0#8 : By)).map B8).toArray 56)) := (Below.refl _ _).alloc (Nat.le_refl _) _
  obtain ⟨W0, hW0⟩ : ∃ W0, W0 = w.alloc (.cells ((List.replicate 32 (0#8 : By)).map B8).toArray 56) := ⟨_, rfl⟩
  rw [← hW0] at r0 b0
  have z0 : W0.heap.size = w.heap.size + 1 := by rw [hW0]; simp
  by_cases h1 : r.take 1 = [32#8]
  · have HE : aftE r [32#8] = .returned (.string (strOf (r.drop 1))) := by unfold aftE; exact if_pos h1
    rw [HE] at HA
    clear HE
    have hsl : (r.drop 1).length ≤ 140737488355328 := by rw [List.length_drop]; omega
    have HN : Hid (hexR r = if 64 ≤ (r.drop 1).length then (match unhex ((r.drop 1).take 64) with | some x => some (x, (r.drop 1).drop 64) | none => none) else none) := by
      show hexR r = _
      unfold hexR
      rw [List.drop_drop]
      by_cases h64 : 64 ≤ (r.drop 1).length
      · rw [if_pos ⟨h1, h64⟩, if_pos h64]; rfl
      · rw [if_neg (fun h => h64 h.2), if_neg h64]
    generalize r.drop 1 = s at *
    have slen : ∀ W : World, (Builtin.len_ #[9] 3 #[.string (strOf s)]).run Tryd.prog W = .ok (goInt s.length) W := fun W => str_len s 3 W
    by_cases h64 : 64 ≤ s.length
    · have y64 : (64 : Int) ≤ (s.length : Int) := by omega
      rw [if_pos h64] at HN
      have SIX : Hid (∀ (i : Nat), i < s.length → ∀ W : World, (Instr.index 9 (.string (strOf s)) (.int .i64 (i : Int))).run Tryd.prog W = .ok (.int .u8 ((s.getD i 0).toNat : Int)) W) := fun i hi W => str_index s .i64 i hi W
      have SFR : Hid (∀ W : World, (Instr.slice 9 (.string (strOf s)) (some (.int .i64 64)) none none).run Tryd.prog W = .ok (.string (strOf (s.drop 64))) W) := fun W => str_from s .i64 64 h64 W
      have TG : Hid (∀ j, j < 64 → (s.take 64).getD j 0 = s.getD j 0) := fun j hj => by
        show (s.take 64).getD j 0 = s.getD j 0
        rw [List.getD_eq_getElem?_getD, List.getElem?_take_of_lt hj, List.getD_eq_getElem?_getD]
      have hTl : (s.take 64).length = 64 := by rw [List.length_take]; omega
      obtain ⟨tt, htt⟩ : ∃ tt, s.take 64 = tt := ⟨_, rfl⟩
      rw [htt] at TG hTl HN
      clear htt
      have r1 := Row.at W0 56 ((List.replicate 32 (0#8 : By)).map B8) _ _ rfl rfl
      have q1 := r0.alloc (.cells ((List.replicate 32 (0#8 : By)).map B8).toArray 56)
      have b1 : Below w.heap.size w (W0.alloc (.cells ((List.replicate 32 (0#8 : By)).map B8).toArray 56)) := b0.alloc (by omega) _
      obtain ⟨W1, hW1⟩ : ∃ W1, W1 = W0.alloc (.cells ((List.replicate 32 (0#8 : By)).map B8).toArray 56) := ⟨_, rfl⟩
      rw [← hW1] at r1 q1 b1
      rw [z0] at r1
      obtain ⟨SS, hSS⟩ : ∃ SS, strOf s = SS := ⟨_, rfl⟩
      rw [hSS] at slen SIX SFR HA
      obtain ⟨SD, hSD⟩ : ∃ SD, strOf (s.drop 64) = SD := ⟨_, rfl⟩
      rw [hSD] at SFR
      have HSD : Hid (strOf (s.drop 64) = SD) := hSD
      clear hSS hSD h1 b0 r0
      generalize strOf r = SR at *
      have Q1 : Hid (Row W1 w.heap.size 56 ((List.replicate 32 (0#8 : By)).map B8)) := q1
      have R1 : Hid (Row W1 (w.heap.size + 1) 56 ((hexTo tt (2 * 0)).map B8)) := by
        show Row _ _ _ _
        rw [Nat.mul_zero, hexTo_zero]; exact r1
      have B1 : Hid (Below w.heap.size w W1) := b1
      clear q1 r1 b1
      go_enter Tryd.func74, Tryd.ntmps74
      go_upto_region 1 with fail
      rw [show (#[.int .u8 0, .int .u8 0, .int .u8 0, .int .u8 0, .int .u8 0, .int .u8 0, .int .u8 0, .int .u8 0, .int .u8 0, .int .u8 0, .int .u8 0, .int .u8 0, .int .u8 0, .int .u8 0, .int .u8 0, .int .u8 0, .int .u8 0, .int .u8 0, .int .u8 0, .int .u8 0, .int .u8 0, .int .u8 0, .int .u8 0, .int .u8 0, .int .u8 0, .int .u8 0, .int .u8 0, .int .u8 0, .int .u8 0, .int .u8 0, .int .u8 0, .int .u8 0] : Array Value) = ((List.replicate 32 (0#8 : By)).map B8).toArray from rfl, ← hW0]
      clear hW0
      go_upto_region 3 with (refine (HA.out _).mono ?_; rintro e w1 ⟨rfl, hw1⟩; rw [hw1]; clear hw1 w1)
      try rw [z0]
      try rw [show (#[.int .u8 0, .int .u8 0, .int .u8 0, .int .u8 0, .int .u8 0, .int .u8 0, .int .u8 0, .int .u8 0, .int .u8 0, .int .u8 0, .int .u8 0, .int .u8 0, .int .u8 0, .int .u8 0, .int .u8 0, .int .u8 0, .int .u8 0, .int .u8 0, .int .u8 0, .int .u8 0, .int .u8 0, .int .u8 0, .int .u8 0, .int .u8 0, .int .u8 0, .int .u8 0, .int .u8 0, .int .u8 0, .int .u8 0, .int .u8 0, .int .u8 0, .int .u8 0] : Array Value) = ((List.replicate 32 (0#8 : By)).map B8).toArray from rfl]
      rw [← hW1]
      clear hW1 HA z0
      go_wp2_with (refine (must_t _).mono ?_; rintro e w1 ⟨rfl, hw1⟩; rw [hw1]; clear hw1 w1)
      go_loopw [12] (fun iv wr => ∃ i : Nat, i ≤ 32 ∧ iv = .int .i64 i ∧ Hid (Row wr (w.heap.size + 1) 56 ((hexTo tt (2 * i)).map B8)) ∧ Hid (Row wr w.heap.size 56 ((List.replicate 32 (0#8 : By)).map B8)) ∧ Hid (Below w.heap.size w wr) ∧ Hid (∀ j, j < 2 * i → hv (tt.getD j 0) = some (hN tt j))) (fun iv _ => 32 - (intOf iv).toNat)
      case atStart => exact ⟨0, by omega, rfl, R1, Q1, B1, fun j hj => by omega⟩
      case round =>
        clear R1 Q1 B1
        obtain ⟨i, hi, rfl, HR, HQ, HB, HV⟩ := hrel
        by_cases hlt : i < 32
        · have y0 : (0 : Int) ≤ (i : Int) := by omega
          have y1 : (i : Int) < 32 := by omega
          have HW1 : Hid (IntKind.i64.wrap (2 * (i : Int)) = ((2 * i : Nat) : Int)) := by show IntKind.i64.wrap _ = _; rw [i64_in _ (by omega) (by omega)]; omega
          have HW2 : Hid (IntKind.i64.wrap (((2 * i : Nat) : Int) + 1) = ((2 * i + 1 : Nat) : Int)) := by show IntKind.i64.wrap _ = _; rw [i64_in _ (by omega) (by omega)]; omega
          have HSA : Hid (∀ W : World, (Instr.index 9 (.string SS) (.int .i64 ((2 * i : Nat) : Int))).run Tryd.prog W = .ok (.int .u8 ((tt.getD (2 * i) 0).toNat : Int)) W) := fun W => by rw [TG.out _ (by omega)]; exact SIX.out (2 * i) (by omega) W
          have HSB : Hid (∀ W : World, (Instr.index 9 (.string SS) (.int .i64 ((2 * i + 1 : Nat) : Int))).run Tryd.prog W = .ok (.int .u8 ((tt.getD (2 * i + 1) 0).toNat : Int)) W) := fun W => by rw [TG.out _ (by omega)]; exact SIX.out (2 * i + 1) (by omega) W
          have HDA : Hid (∀ W : World, Calls Tryd.prog 79 #[.int .u8 ((tt.getD (2 * i) 0).toNat : Int)] W fun e w' => e = digB (hv (tt.getD (2 * i) 0)).isSome (hN tt (2 * i)) ∧ w' = W) := fun W => digit_b _ W
          have HDB : Hid (∀ W : World, Calls Tryd.prog 79 #[.int .u8 ((tt.getD (2 * i + 1) 0).toNat : Int)] W fun e w' => e = digB (hv (tt.getD (2 * i + 1) 0)).isSome (hN tt (2 * i + 1)) ∧ w' = W) := fun W => digit_b _ W
          have la := hN_lt tt (2 * i)
          have lb := hN_lt tt (2 * i + 1)
          have HSH : Hid ((hN tt (2 * i) : Int) * 16 % 256 = ((16 * hN tt (2 * i) : Nat) : Int) ∧ (hN tt (2 * i) : Int) * 2 ^ 4 % 256 = ((16 * hN tt (2 * i) : Nat) : Int) ∧ IntKind.u8.wrap ((hN tt (2 * i) : Int) * 2 ^ 4) = ((16 * hN tt (2 * i) : Nat) : Int) ∧ IntKind.u8.wrap ((hN tt (2 * i) : Int) * 16) = ((16 * hN tt (2 * i) : Nat) : Int)) := by
            refine ⟨by omega, by omega, ?_, ?_⟩
            · rw [u8_in _ (by omega) (by omega)]; omega
            · rw [u8_in _ (by omega) (by omega)]; omega
          have HOR : Hid (bits .or .u8 ((16 * hN tt (2 * i) : Nat) : Int) ((hN tt (2 * i + 1) : Nat) : Int) = ((16 * hN tt (2 * i) + hN tt (2 * i + 1) : Nat) : Int)) := or_hex ⟨hN tt (2 * i), la⟩ ⟨hN tt (2 * i + 1), lb⟩
          have HIX : Hid ((i : Int) < 32) := y1
          have HI0 : Hid ((0 : Int) ≤ (i : Int) ∧ i < 32) := ⟨y0, hlt⟩
          have hcell := HR.out.cell i (B8 ((hexTo tt (2 * i)).getD i 0)) (by rw [List.getElem?_map, List.getD_eq_getElem?_getD, List.getElem?_eq_getElem (by rw [hexTo_len]; exact hlt)]; rfl)
          have HC : Hid (wr.drew.cell? ⟨w.heap.size + 1, i, none⟩ = some (B8 ((hexTo tt (2 * i)).getD i 0))) := hcell
          have HF : Hid (wr.drew.frozen? ⟨w.heap.size + 1, i, none⟩ = false) := HR.out.frozen _
          have HST : Hid (Row (wr.drew.setCell ⟨w.heap.size + 1, i, none⟩ (.int .u8 ((16 * hN tt (2 * i) + hN tt (2 * i + 1) : Nat) : Int))) (w.heap.size + 1) 56 ((hexTo tt (2 * (i + 1))).map B8)) := by
            show Row _ _ _ _
            have := (HR.out.dr ⟨1, rfl⟩).set i (.int .u8 ((16 * hN tt (2 * i) + hN tt (2 * i + 1) : Nat) : Int))
            rw [← hexTo2 tt i hlt, List.map_set]
            have e : B8 (BitVec.ofNat 8 (16 * hN tt (2 * i) + hN tt (2 * i + 1))) = .int .u8 ((16 * hN tt (2 * i) + hN tt (2 * i + 1) : Nat) : Int) := by
              unfold B8; rw [BitVec.toNat_ofNat, Nat.mod_eq_of_lt (by omega)]
            rw [e]; exact this
          have HPA : Hid ((hv (tt.getD (2 * i) 0)).isSome = false → hexR r = none) := fun h => by
            rw [HN.out, unhex_none (2 * i) (by omega) (by simpa using h)]
          have HPB : Hid ((hv (tt.getD (2 * i + 1) 0)).isSome = false → hexR r = none) := fun h => by
            rw [HN.out, unhex_none (2 * i + 1) (by omega) (by simpa using h)]
          have HVA : Hid ((hv (tt.getD (2 * i) 0)).isSome = true → hv (tt.getD (2 * i) 0) = some (hN tt (2 * i))) := fun h => by
            unfold hN; cases hh : hv (tt.getD (2 * i) 0) with
            | none => rw [hh] at h; cases h
            | some n => rfl
          have HVB : Hid ((hv (tt.getD (2 * i + 1) 0)).isSome = true → hv (tt.getD (2 * i + 1) 0) = some (hN tt (2 * i + 1))) := fun h => by
            unfold hN; cases hh : hv (tt.getD (2 * i + 1) 0) with
            | none => rw [hh] at h; cases h
            | some n => rfl
          clear hcell la lb
          generalize (hv (tt.getD (2 * i) 0)).isSome = pa at *
          generalize (hv (tt.getD (2 * i + 1) 0)).isSome = pb at *
          generalize (tt.getD (2 * i) 0).toNat = AV at *
          generalize (tt.getD (2 * i + 1) 0).toNat = BV at *
          generalize hVV : 16 * hN tt (2 * i) + hN tt (2 * i + 1) = VV at *
          generalize h16 : 16 * hN tt (2 * i) = A16 at *
          generalize hAH : hN tt (2 * i) = AH at *
          generalize hBH : hN tt (2 * i + 1) = BH at *
          generalize hJ : 2 * i = J at *
          have hJ1 : ∃ J1, J + 1 = J1 := ⟨_, rfl⟩
          obtain ⟨J1, hJ1⟩ := hJ1
          rw [hJ1] at HW2 HSB
          have HBL : Hid (∀ W, (W = wr.drew ∨ W = wr.drew.setCell ⟨w.heap.size + 1, i, none⟩ (.int .u8 (VV : Int))) → Below w.heap.size w W) := fun W h => by
            have hb := Below_dr HB.out ⟨1, rfl⟩
            rcases h with h | h
            · rw [h]; exact hb
            · rw [h]; exact (SameBut.setCell _ _ _ _).below hb (by omega)
          have HPN : Hid (∀ W, (pa = false ∨ pb = false) → (W = wr.drew ∨ W = wr.drew.setCell ⟨w.heap.size + 1, i, none⟩ (.int .u8 (VV : Int))) → hexE r = pan 5 ∧ Below w.heap.size w W) := fun W h hw => ⟨by unfold hexE; rw [show hexR r = none from h.elim HPA.out HPB.out], HBL.out W hw⟩
          go_wp2
          refine wp_region_inv (ICe7 wr (w.heap.size + 1) i J J1 SS AV AH A16 BV BH VV pa pb _ _ _ _ _ _ _ _ _ _ _ _ _ _ _ _ _ _ _) (by kernel_rfl) (by kernel_rfl) ⟨_, _, _, _, _, _, _, _, _, _, _, _, _, _, _, rfl, ⟨WZ.zero, fun k => (by cases k), fun k => (by cases k), fun k => (by cases k), fun k => (by cases k), fun k => (by cases k), fun k => (by cases k), fun k => (by cases k), fun k => (by cases k), fun k => (by cases k), fun k => (by cases k), fun k => (by cases k), fun k => (by cases k), fun k => (by cases k), fun k => (by cases k), fun k => (by cases k)⟩⟩ ?_ ?_
          · refine .cons ?_ (.cons ?_ (.cons ?_ (.cons ?_ (.cons ?_ (.cons ?_ (.cons ?_ (.cons ?_ (.cons ?_ (.cons ?_ (.cons ?_ (.cons ?_ (.cons ?_ (.cons ?_ (.cons ?_ (.cons ?_ .nil)))))))))))))))
            all_goals (rintro L _ W ⟨x15, x16, x17, x18, x19, x20, x21, x22, x23, x24, x25, x26, x27, x28, x29, rfl, hI⟩ hL hd K hK)
            · rw [if_pos (by rfl)]
              go_simp
              exact hK.out _ _ ⟨_, _, _, _, _, _, _, _, _, _, _, _, _, _, _, rfl, { hI with p0 := fun _ => rfl }⟩
            · rw [if_pos (by rfl)]
              go_simp
              exact hK.out _ _ ⟨_, _, _, _, _, _, _, _, _, _, _, _, _, _, _, rfl, { hI with p1 := fun _ => rfl }⟩
            · rw [if_pos (by rfl)]
              go_simp
              exact hK.out _ _ ⟨_, _, _, _, _, _, _, _, _, _, _, _, _, _, _, rfl, { hI with p2 := fun _ => rfl }⟩
            · obtain rfl := hI.p2 (hd 2 (by decide))
              rw [if_pos (by rfl)]
              have h1 := HW1.out
              go_simp
              exact hK.out _ _ ⟨_, _, _, _, _, _, _, _, _, _, _, _, _, _, _, rfl, { hI with p3 := fun _ => rfl }⟩
            · obtain rfl := hI.p1 (hd 1 (by decide))
              obtain rfl := hI.p3 (hd 3 (by decide))
              rw [if_pos (by rfl)]
              have h1 := HSA.out W
              go_simp
              exact hK.out _ _ ⟨_, _, _, _, _, _, _, _, _, _, _, _, _, _, _, rfl, { hI with p4 := fun _ => rfl }⟩
            · obtain rfl := hI.p4 (hd 4 (by decide))
              rw [if_pos (by rfl)]
              go_simp
              refine (HDA.out W).mono ?_
              rintro e W2 ⟨he, hw2⟩
              rw [hw2]; clear hw2 W2
              by_cases hp : pa = false
              · rw [he, show digB pa AH = pan 5 from by rw [hp]; rfl]
                obtain ⟨h8, h9⟩ := HPN.out W (.inl hp) hI.x.any
                exact ⟨rfl, h8.symm, h9⟩
              have hq : pa = true := by simpa using hp
              rw [he, show digB pa AH = .returned (.int .u8 (AH : Int)) from by rw [hq]; rfl]
              dsimp only
              have hX := hI.x.a hq
              exact hK.out _ _ ⟨_, _, _, _, _, _, _, _, _, _, _, _, _, _, _, rfl, { hI with x := hX, p5 := fun _ => rfl }⟩
            · obtain rfl := hI.p5 (hd 5 (by decide))
              rw [if_pos (by rfl)]
              obtain ⟨h1, h2, h3, h4⟩ := HSH.out
              go_simp
              exact hK.out _ _ ⟨_, _, _, _, _, _, _, _, _, _, _, _, _, _, _, rfl, { hI with p6 := fun _ => rfl }⟩
            · rw [if_pos (by rfl)]
              go_simp
              exact hK.out _ _ ⟨_, _, _, _, _, _, _, _, _, _, _, _, _, _, _, rfl, { hI with p7 := fun _ => rfl }⟩
            · rw [if_pos (by rfl)]
              go_simp
              exact hK.out _ _ ⟨_, _, _, _, _, _, _, _, _, _, _, _, _, _, _, rfl, { hI with p8 := fun _ => rfl }⟩
            · obtain rfl := hI.p8 (hd 8 (by decide))
              rw [if_pos (by rfl)]
              have h1 := HW1.out
              go_simp
              exact hK.out _ _ ⟨_, _, _, _, _, _, _, _, _, _, _, _, _, _, _, rfl, { hI with p9 := fun _ => rfl }⟩
            · obtain rfl := hI.p9 (hd 9 (by decide))
              rw [if_pos (by rfl)]
              have h1 := HW2.out
              go_simp
              exact hK.out _ _ ⟨_, _, _, _, _, _, _, _, _, _, _, _, _, _, _, rfl, { hI with p10 := fun _ => rfl }⟩
            · obtain rfl := hI.p7 (hd 7 (by decide))
              obtain rfl := hI.p10 (hd 10 (by decide))
              rw [if_pos (by rfl)]
              have h1 := HSB.out W
              go_simp
              exact hK.out _ _ ⟨_, _, _, _, _, _, _, _, _, _, _, _, _, _, _, rfl, { hI with p11 := fun _ => rfl }⟩
            · obtain rfl := hI.p11 (hd 11 (by decide))
              rw [if_pos (by rfl)]
              go_simp
              refine (HDB.out W).mono ?_
              rintro e W2 ⟨he, hw2⟩
              rw [hw2]; clear hw2 W2
              by_cases hp : pb = false
              · rw [he, show digB pb BH = pan 5 from by rw [hp]; rfl]
                obtain ⟨h8, h9⟩ := HPN.out W (.inr hp) hI.x.any
                exact ⟨rfl, h8.symm, h9⟩
              have hq : pb = true := by simpa using hp
              rw [he, show digB pb BH = .returned (.int .u8 (BH : Int)) from by rw [hq]; rfl]
              dsimp only
              have hX := hI.x.b hq
              exact hK.out _ _ ⟨_, _, _, _, _, _, _, _, _, _, _, _, _, _, _, rfl, { hI with x := hX, p12 := fun _ => rfl }⟩
            · obtain rfl := hI.p6 (hd 6 (by decide))
              obtain rfl := hI.p12 (hd 12 (by decide))
              rw [if_pos (by rfl)]
              have h1 := HOR.out
              go_simp
              exact hK.out _ _ ⟨_, _, _, _, _, _, _, _, _, _, _, _, _, _, _, rfl, { hI with p13 := fun _ => rfl }⟩
            · obtain rfl := hI.p0 (hd 0 (by decide))
              rw [if_pos (by rfl)]
              have h1 := HIX.out
              obtain ⟨h2, h3⟩ := HI0.out
              go_simp
              exact hK.out _ _ ⟨_, _, _, _, _, _, _, _, _, _, _, _, _, _, _, rfl, { hI with p14 := fun _ => rfl }⟩
            · obtain rfl := hI.p14 (hd 14 (by decide))
              obtain rfl := hI.p13 (hd 13 (by decide))
              have hw := hI.x.z hL
              subst hw
              rw [if_pos (by rfl)]
              have hc := HC.out
              have hf := HF.out
              go_simp
              have hX := hI.x.st
              exact hK.out _ _ ⟨_, _, _, _, _, _, _, _, _, _, _, _, _, _, _, rfl, { hI with x := hX }⟩
          · rintro L _ W hall ⟨x15, x16, x17, x18, x19, x20, x21, x22, x23, x24, x25, x26, x27, x28, x29, rfl, hI⟩
            obtain rfl := hI.p0 (hall 0 (by decide))
            obtain rfl := hI.p1 (hall 1 (by decide))
            obtain rfl := hI.p2 (hall 2 (by decide))
            obtain rfl := hI.p3 (hall 3 (by decide))
            obtain rfl := hI.p4 (hall 4 (by decide))
            obtain rfl := hI.p5 (hall 5 (by decide))
            obtain rfl := hI.p6 (hall 6 (by decide))
            obtain rfl := hI.p7 (hall 7 (by decide))
            obtain rfl := hI.p8 (hall 8 (by decide))
            obtain rfl := hI.p9 (hall 9 (by decide))
            obtain rfl := hI.p10 (hall 10 (by decide))
            obtain rfl := hI.p11 (hall 11 (by decide))
            obtain rfl := hI.p12 (hall 12 (by decide))
            obtain rfl := hI.p13 (hall 13 (by decide))
            obtain rfl := hI.p14 (hall 14 (by decide))
            have hXe := hI.x
            rw [hall 5 (by decide)] at hXe
            rw [hall 12 (by decide)] at hXe
            rw [hall 15 (by decide)] at hXe
            clear hI hall
            try dsimp only
            have hpa := hXe.pa rfl
            have hpb := hXe.pb rfl
            have hW := hXe.s rfl
            clear hXe
            have HR2 : Hid (Row W (w.heap.size + 1) 56 ((hexTo tt (2 * (i + 1))).map B8)) := by rw [hW]; exact HST.out
            have HQ2 : Hid (Row W w.heap.size 56 ((List.replicate 32 (0#8 : By)).map B8)) := by rw [hW]; exact (HQ.out.dr ⟨1, rfl⟩).but (SameBut.setCell _ _ _ _) (by omega)
            have HB2 : Hid (Below w.heap.size w W) := HBL.out W (.inr hW)
            have HV2 : Hid (∀ j, j < 2 * (i + 1) → hv (tt.getD j 0) = some (hN tt j)) := fun j hj => by
              by_cases h1 : j < J
              · exact HV.out j h1
              · by_cases h2 : j = J
                · rw [h2, hAH]; exact HVA.out hpa
                · have h3 : j = J1 := by omega
                  rw [h3, ← hJ1, hBH]; exact HVB.out hpb
            clear hW HR HQ HB HV HST HBL HPN HPA HPB HVA HVB
            go_wp2
            exact ⟨⟨i + 1, by omega, by go_num, HR2, HQ2, HB2, HV2⟩, by simp [intOf]; omega⟩
        · obtain rfl : i = 32 := by omega
          have HX : Hid (unhex tt = some (hexTo tt 64)) := hexTo_end tt hTl (fun j hj => HV.out j (by omega))
          have HX2 : Hid (hexR r = some (hexTo tt 64, s.drop 64)) := by
            show hexR r = _
            rw [HN.out, HX.out]
          have hR := HR.out
          have hQ := HQ.out
          have lx : ((hexTo tt (2 * 32)).map B8).length = 32 := by rw [List.length_map, hexTo_len]
          have ox : Hid (∀ v ∈ (hexTo tt (2 * 32)).map B8, v.oneCell' = true) := B8_one _
          have sfr := SFR.out
          obtain ⟨XC, hXC⟩ : ∃ XC, (hexTo tt (2 * 32)).map B8 = XC := ⟨_, rfl⟩
          rw [hXC] at hR lx ox
          have HXL : Hid ((hexTo tt 64).map B8 = XC) := hXC
          clear hXC
          clear HR HQ HV HX HN SIX TG SFR
          go_wp2
          refine wp_region_inv (ICe9 wr w.heap.size 56 XC SS SD _ _ _ _ _ _ _ _ _ _ _ _ _ _ _ _ _ _ _ _ _ _ _ _ _ _ _ _ _ _) (by kernel_rfl) (by kernel_rfl) ⟨_, _, _, _, rfl, ⟨WS.zero, fun k => (by cases k), fun k => (by cases k), fun k => (by cases k), fun k => (by cases k)⟩⟩ ?_ ?_
          · refine .cons ?_ (.cons ?_ (.cons ?_ (.cons ?_ (.cons ?_ .nil))))
            all_goals (rintro L _ W ⟨x31, x32, x33, x3, rfl, hI⟩ hL hd K hK)
            · refine step_load_rng' (by rfl) 56 _ rfl (w.heap.size + 1) 0 XC (rng0 (hI.x.row hR (by omega))) rfl _ Tryd.underlying56 rfl (by rw [lx]; kernel_rfl) ?_
              exact hK.out _ _ ⟨_, _, _, _, rfl, { hI with p0 := fun _ => rfl }⟩
            · rw [if_pos (by rfl)]
              go_simp
              exact hK.out _ _ ⟨_, _, _, _, rfl, { hI with p1 := fun _ => rfl }⟩
            · obtain rfl := hI.p1 (hd 1 (by decide))
              rw [if_pos (by rfl)]
              have h1 := sfr W
              go_simp
              exact hK.out _ _ ⟨_, _, _, _, rfl, { hI with p2 := fun _ => rfl }⟩
            · obtain rfl := hI.p0 (hd 0 (by decide))
              have hw := hI.x.z hL
              refine step_store_Row rfl 56 _ _ rfl w.heap.size 56 _ XC (by rw [hw]; exact hQ.dr ⟨1, rfl⟩) (by rw [lx]; rfl) rfl rfl (by rw [lx]; kernel_rfl) ox.out ?_
              intro W2 hr2 hs2
              have hX := hI.x.st hL hr2 hs2
              exact hK.out _ _ ⟨_, _, _, _, rfl, { hI with x := hX }⟩
            · obtain rfl := hI.p2 (hd 2 (by decide))
              rw [if_pos (by rfl)]
              go_simp
              exact hK.out _ _ ⟨_, _, _, _, rfl, { hI with p4 := fun _ => rfl }⟩
          · rintro L _ W hall ⟨x31, x32, x33, x3, rfl, hI⟩
            obtain rfl := hI.p0 (hall 0 (by decide))
            obtain rfl := hI.p1 (hall 1 (by decide))
            obtain rfl := hI.p2 (hall 2 (by decide))
            obtain rfl := hI.p4 (hall 4 (by decide))
            have hXe := hI.x
            rw [hall 3 (by decide)] at hXe
            clear hI hall
            try dsimp only
            have hr9 := hXe.s rfl
            have hs9 := hXe.sb rfl
            clear hXe
            have HBF : Hid (Below w.heap.size w W) := hs9.below (Below_dr HB.out ⟨1, rfl⟩) (Nat.le_refl _)
            go_wp2
            exact bodyPost_ret_by (results_rowtmp Tryd.results74 _ W w.heap.size 56 XC _ rfl hr9 Tryd.underlying56 rfl (by rw [lx]; kernel_rfl)) rfl ⟨by unfold hexE; rw [HX2.out, ← HSD.out, ← HXL.out]; rfl, HBF.out⟩
    · have y64 : decide ((64 : Int) ≤ (s.length : Int)) = false := decide_eq_false (by omega)
      rw [if_neg h64] at HN
      generalize hSS : strOf s = SS at *
      generalize strOf r = SR at *
      clear h1
      go_enter Tryd.func74, Tryd.ntmps74
      go_upto_region 1 with fail
      rw [show (#[.int .u8 0, .int .u8 0, .int .u8 0, .int .u8 0, .int .u8 0, .int .u8 0, .int .u8 0, .int .u8 0, .int .u8 0, .int .u8 0, .int .u8 0, .int .u8 0, .int .u8 0, .int .u8 0, .int .u8 0, .int .u8 0, .int .u8 0, .int .u8 0, .int .u8 0, .int .u8 0, .int .u8 0, .int .u8 0, .int .u8 0, .int .u8 0, .int .u8 0, .int .u8 0, .int .u8 0, .int .u8 0, .int .u8 0, .int .u8 0, .int .u8 0, .int .u8 0] : Array Value) = ((List.replicate 32 (0#8 : By)).map B8).toArray from rfl, ← hW0]
      clear hW0 r0
      go_wp2_with (first
        | (refine (HA.out _).mono ?_; clear HA; rintro e w1 ⟨rfl, hw1⟩; rw [hw1]; clear hw1 w1)
        | (refine (must_f _).mono ?_; rintro e w1 ⟨rfl, hw1⟩; rw [hw1]; clear hw1 w1))
      exact ⟨rfl, by unfold hexE; rw [HN.out], b0.alloc (by omega) _⟩
  · have HE : aftE r [32#8] = pan 5 := by unfold aftE; exact if_neg h1
    have HN : Hid (hexR r = none) := by show hexR r = none; unfold hexR; rw [if_neg (fun h => h1 h.1)]
    rw [HE] at HA
    generalize strOf r = SR at *
    go_enter Tryd.func74, Tryd.ntmps74
    go_wp2_with (refine (HA.out _).mono ?_; rintro e w1 ⟨rfl, hw1⟩; rw [hw1]; clear hw1 w1)
    exact ⟨rfl, by unfold hexE; rw [HN.out], by rw [hW0] at b0; exact b0⟩
/-- The blank cell. -/
theorem dublank_any (w : World) : Calls Tryd.prog 54 #[] w fun e w' => e = .returned (.agg ((List.replicate 32 (255#8 : By)).map B8).toArray) ∧ Below w.heap.size w w' := by
  have r0 := Row.at w 56 ((List.replicate 32 (0 : By)).map B8) _ _ rfl rfl
  have b0 : ∀ o1, Below w.heap.size w (w.alloc o1) := fun o1 => (Below.refl _ _).alloc (Nat.le_refl _) _
  go_enter Tryd.func54, Tryd.ntmps54
  go_wp2
  go_loopw [3] (fun iv wr => ∃ k : Nat, k ≤ 32 ∧ iv = .int .i64 k ∧ Row wr (w.heap.size + 1) 56 ((List.replicate k (255#8 : By) ++ List.replicate (32 - k) 0).map B8) ∧ Row wr w.heap.size 56 ((List.replicate 32 (0 : By)).map B8) ∧ Below w.heap.size w wr) (fun iv _ => 32 - (intOf iv).toNat)
  case atStart => exact ⟨0, by omega, rfl, Row.at _ _ _ _ _ (by simp) rfl, r0.alloc _, (b0 _).alloc (by simp) _⟩
  case round =>
    clear r0
    obtain ⟨k, hk, rfl, r1, r2, b1⟩ := hrel
    by_cases hlt : k < 32
    · have y0 : (0 : Int) ≤ (k : Int) := by omega
      have y1 : (k : Int) < 32 := by omega
      have hl : (List.replicate k (255#8 : By) ++ List.replicate (32 - k) 0).length = 32 := by simp; omega
      have ck : ∃ v, wr.cell? ⟨w.heap.size + 1, k, none⟩ = some v := ⟨_, r1.cell k _ (List.getElem?_eq_getElem (by rw [List.length_map, hl]; exact hlt))⟩
      obtain ⟨v0, ck⟩ := ck
      have fk := r1.frozen k
      have r3 := r1.set k (.int .u8 255)
      rw [map_set_255, blank_set k hlt] at r3
      have HR : Hid (Row (wr.setCell ⟨w.heap.size + 1, k, none⟩ (.int .u8 255)) (w.heap.size + 1) 56 ((List.replicate (k + 1) (255#8 : By) ++ List.replicate (32 - (k + 1)) 0).map B8)) := r3
      clear r3 hl r1
      have sb := SameBut.setCell (w.heap.size + 1) k (.int .u8 255) wr
      go_wp2
      exact ⟨⟨k + 1, by omega, by go_num, HR.out, r2.but sb (by omega), sb.below b1 (by omega)⟩, by simp [intOf]; omega⟩
    · obtain rfl : k = 32 := by omega
      have y1 : ¬ ((32 : Nat) : Int) < 32 := by omega
      replace r1 : Row wr (w.heap.size + 1) 56 ((List.replicate 32 (255#8 : By)).map B8) := by simpa using r1
      clear hlt hk
      go_wp2_with (first | (refine wpList_load_Row rfl 56 _ rfl _ _ _ r1 rfl _ Tryd.underlying56 rfl (by kernel_rfl) ?_) | (refine wpList_store_Row rfl 56 _ _ rfl _ _ 0 _ ((List.replicate 32 (255#8 : By)).map B8) r2 (by simp) rfl rfl (by kernel_rfl) (B8_one _) ?_; intro w9 hr9 hs9))
      have hr := row_whole hr9 (by simp)
      exact bodyPost_ret_by (results_Row Tryd.results54 _ w9 w.heap.size 56 _ _ rfl hr Tryd.underlying56 rfl (by kernel_rfl)) rfl ⟨rfl, hs9.below b1 (Nat.le_refl _)⟩
end Go.Proofs.YtgpnbiaghokjkaaDoor
