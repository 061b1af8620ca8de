
import Derived.Test.YthegfkcegmeklaaH16Same
/-! The reference's chain: Zero. -/
namespace Go.Proofs.Ythegfkcegmeklaa
open Go.RowKit
set_option linter.unusedVariables false

/-- Is the zero hash met on the way to a register? -/
def zmet (xs : List EvV) : Bool := (List.range xs.length).any fun i => decide (reg (xs.take (i + 1)) = List.replicate 32 0)
theorem zmet_at {xs : List EvV} (k : Nat) (hk : k < xs.length) (h : reg (xs.take (k + 1)) = List.replicate 32 0) : zmet xs = true := by
  unfold zmet
  rw [List.any_eq_true]
  exact ⟨k, by simpa using hk, decide_eq_true h⟩
theorem zmet_no {xs : List EvV} (h : ∀ j, j < xs.length → reg (xs.take (j + 1)) ≠ List.replicate 32 0) : zmet xs = false := by
  unfold zmet
  rw [List.any_eq_false]
  intro j hj
  simpa using h j (by simpa using hj)

set_option maxHeartbeats 1000000 in
set_option maxRecDepth 100000 in
theorem rzero_any (w : World) (ao : Option Addr) (n cap B off : Nat) (xs : List EvV) (hn : xs.length = n) (hn47 : n ≤ 140737488355328) (hao : 0 < n → ao = some ⟨B, off, none⟩) (hin : EvIn w B off xs) :
    Calls Try.prog 24 #[.slice ao n cap] w fun e w' => e = .returned (.bool (zmet xs)) ∧ Below w.heap.size w w' := by
  obtain ⟨W2, hW2⟩ : ∃ W2, W2 = w.alloc (.cells z32.toArray 32) := ⟨_, rfl⟩
  have r2 : Row W2 w.heap.size 32 z32 := by rw [hW2]; exact Row.at w _ _ _ _ rfl rfl
  have b2 : Below w.heap.size w W2 := by rw [hW2]; exact (Below.refl _ _).alloc (Nat.le_refl _) _
  have HI : Hid (∀ W, Below w.heap.size w W → EvIn W B off xs) := fun W h => hin.keep h
  have HX : Hid (xs.length = n) := hn
  have HAO : Hid (0 < n → ao = some ⟨B, off, none⟩) := hao
  clear hin hn hao
  subst hW2
  go_enter Try.func24, Try.ntmps24
  go_wp2_with (refine wpList_store_Row rfl 32 _ _ rfl w.heap.size 32 0 z32 z32 r2 (by simp) rfl rfl (by kernel_rfl) (B8_one _) ?_; intro w3 hr3 hs3)
  have r3 := row_whole hr3 (by simp)
  have b3 := hs3.below b2 (Nat.le_refl _)
  have HS : Hid (Row w3 w.heap.size 32 ((reg (xs.take 0)).map B8) ∧ Below w.heap.size w w3) := ⟨r3, b3⟩
  clear r2 r3 b3 b2 hr3 hs3
  go_loopw [4] (fun iv wr => ∃ k : Nat, k ≤ n ∧ iv = .int .i64 k ∧ Hid (∀ j, j < k → reg (xs.take (j + 1)) ≠ List.replicate 32 0) ∧ Hid (Row wr w.heap.size 32 ((reg (xs.take k)).map B8) ∧ Below w.heap.size w wr)) (fun iv _ => n - (intOf iv).toNat)
  case atStart => exact ⟨0, by omega, rfl, fun _ h => absurd h (by omega), HS⟩
  case round =>
    clear HS
    obtain ⟨k, hk, rfl, HJ, HK⟩ := hrel
    by_cases hlt : k < n
    · obtain rfl := HAO.out (by omega)
      have y0 : (0 : Int) ≤ (k : Int) := by omega
      have y1 : (k : Int) < (n : Int) := by omega
      obtain ⟨x, hx⟩ : ∃ x, xs[k]? = some x := ⟨_, List.getElem?_eq_getElem (by rw [HX.out]; exact hlt)⟩
      have hrg := (HI.out _ HK.out.2).cells k x hx
      have hok := (HI.out _ HK.out.2).ok k x hx
      have hal := evC_len hok
      have HP : Hid (reg (xs.take (k + 1)) = extend (reg (xs.take k)) (measure x)) := by
        show _ = _
        rw [take_one hx, reg_push]
      have hrl := reg_len (xs.take k)
      have hml : (measure x).length = 32 := shaLen _
      have ME := rmeasure_any x hok wr
      have EX := rextend_any (reg (xs.take k)) (measure x) hrl hml
      have hel : (extend (reg (xs.take k)) (measure x)).length = 32 := shaLen _
      obtain ⟨rb, bb⟩ := HK.out
      clear HK hx hok
      generalize evC x = AC at *
      generalize reg (xs.take k) = RG at *
      generalize measure x = MX at *
      generalize extend RG MX = EXT at *
      go_wp2_with (refine wpList_load_mid rfl 35 (.tmp 15) rfl B (off + k * 33) rfl AC _ hrg Try.underlying35 rfl (by rw [hal]; kernel_rfl) ?_)
      refine ME.mono ?_
      clear ME hrg
      rintro e w4 ⟨rfl, b4⟩
      dsimp only
      replace rb := rb.below b4 rb.lt
      replace bb := bb.trans (b4.mono bb.size)
      clear b4
      generalize hG : w4.heap.size = G at *
      have hg1 : w.heap.size < G := by rw [← hG]; exact rb.lt
      have lm : (MX.map B8).length = 32 := by rw [List.length_map, hml]
      have lr : (RG.map B8).length = 32 := by rw [List.length_map, hrl]
      go_wp2_with (first | (refine wpList_store_Row rfl 32 _ _ rfl G 32 0 z32 (MX.map B8) (Row.at w4 _ _ _ _ hG.symm rfl) (by simp [hml]) rfl rfl (by rw [lm]; kernel_rfl) (B8_one _) ?_; intro w5 hr5 hs5; have r5 := row_whole hr5 (by simp [hml]); have rb5 := (rb.alloc (.cells z32.toArray 32)).but hs5 (by omega); have bb5 := hs5.below (bb.alloc (by omega) (.cells z32.toArray 32)) (by omega)) | (refine wpList_load_Row rfl 32 (.tmp 3) rfl w.heap.size 32 (RG.map B8) rb5 rfl _ Try.underlying32 rfl (by rw [lr]; kernel_rfl) ?_) | (refine wpList_load_Row rfl 32 (.tmp 5) rfl G 32 (MX.map B8) r5 rfl _ Try.underlying32 rfl (by rw [lm]; kernel_rfl) ?_))
      refine (EX w5).mono ?_
      clear EX
      rintro e w6 ⟨rfl, b6⟩
      dsimp only
      have rb6 := rb5.below b6 rb5.lt
      have bb6 := bb5.trans (b6.mono bb5.size)
      clear rb5 bb5 r5 hr5 hs5 rb bb b6
      obtain ⟨rz, hrz⟩ : ∃ rz, rz = decide (EXT = List.replicate 32 0) := ⟨_, rfl⟩
      have qe : ∀ w, (Op.equalIn 10000 32 (.agg (EXT.map B8).toArray) (.agg #[.int .u8 0, .int .u8 0, .int .u8 0, .int .u8 0, .int .u8 0, .int .u8 0, .int .u8 0, .int .u8 0, .int .u8 0, .int .u8 0, .int .u8 0, .int .u8 0, .int .u8 0, .int .u8 0, .int .u8 0, .int .u8 0, .int .u8 0, .int .u8 0, .int .u8 0, .int .u8 0, .int .u8 0, .int .u8 0, .int .u8 0, .int .u8 0, .int .u8 0, .int .u8 0, .int .u8 0, .int .u8 0, .int .u8 0, .int .u8 0, .int .u8 0, .int .u8 0])).run Try.prog w = .ok rz w := eq_any EXT (List.replicate 32 0) hel (by simp) rz hrz
      have HRZ : Hid (rz = decide (EXT = List.replicate 32 0)) := hrz
      have lx : (EXT.map B8).length = 32 := by rw [List.length_map, hel]
      clear hrz
      cases rz with
      | true =>
        have HZ : Hid (zmet xs = true) := zmet_at k (by rw [HX.out]; exact hlt) (by rw [HP.out]; exact of_decide_eq_true HRZ.out.symm)
        go_wp2_with (first | (refine wpList_store_Row rfl 32 _ _ rfl w.heap.size 32 0 (RG.map B8) (EXT.map B8) rb6 (by simp [hel, hrl]) rfl rfl (by rw [List.length_map, hel]; kernel_rfl) (B8_one _) ?_; intro w7 hr7 hs7; have rb7 := row_whole hr7 (by simp [hel, hrl]); have HB7 : Hid (Below w.heap.size w w7) := hs7.below bb6 (Nat.le_refl _)) | (refine wpList_load_Row rfl 32 (.tmp 3) rfl w.heap.size 32 (EXT.map B8) rb7 rfl _ Try.underlying32 rfl (by rw [lx]; kernel_rfl) ?_))
        go_ret
        exact ⟨by rw [HZ.out]; rfl, HB7.out⟩
      | false =>
        have HNZ : Hid (∀ j, j < k + 1 → reg (xs.take (j + 1)) ≠ List.replicate 32 0) := by
          intro j hj
          rcases Nat.lt_or_ge j k with h | h
          · exact HJ.out j h
          · obtain rfl : j = k := by omega
            rw [HP.out]; exact of_decide_eq_false HRZ.out.symm
        go_wp2_with (first | (refine wpList_store_Row rfl 32 _ _ rfl w.heap.size 32 0 (RG.map B8) (EXT.map B8) rb6 (by simp [hel, hrl]) rfl rfl (by rw [List.length_map, hel]; kernel_rfl) (B8_one _) ?_; intro w7 hr7 hs7; have rb7 := row_whole hr7 (by simp [hel, hrl]); have HB7 : Hid (Below w.heap.size w w7) := hs7.below bb6 (Nat.le_refl _)) | (refine wpList_load_Row rfl 32 (.tmp 3) rfl w.heap.size 32 (EXT.map B8) rb7 rfl _ Try.underlying32 rfl (by rw [lx]; kernel_rfl) ?_))
        exact ⟨⟨k + 1, by omega, by go_num, HNZ, by rw [HP.out]; exact rb7, HB7.out⟩, by simp [intOf]; omega⟩
    · obtain rfl : k = n := by omega
      have y1 : ¬ ((k : Nat) : Int) < (k : Int) := by omega
      have HZ : Hid (zmet xs = false) := zmet_no fun j hj => HJ.out j (by rw [← HX.out]; exact hj)
      have HB9 : Hid (Below w.heap.size w wr) := HK.out.2
      clear HK HJ
      go_wp2
      go_ret
      exact ⟨by rw [HZ.out]; rfl, HB9.out⟩

end Go.Proofs.Ythegfkcegmeklaa
