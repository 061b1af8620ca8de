import Derived.Test.YthegfkcegmeklaaMRefOf
import Derived.Test.YthegfkcegmeklaaI11Mem
import Derived.Lib.SlBytesConst

/-! The reference's chain: number, event, Measure, both, Extend. -/
namespace Go.Proofs.Ythegfkcegmeklaa
open Go.RowKit
set_option linter.unusedVariables false

/-- A number in so many bytes, the least first. -/
def numB (n k : Nat) : List By := (List.range k).map fun i => BitVec.ofNat 8 (n / 2 ^ (8 * i))
theorem numB_len (n k : Nat) : (numB n k).length = k := by simp [numB]
theorem numB_succ (n k : Nat) : numB n (k + 1) = numB n k ++ [BitVec.ofNat 8 (n / 2 ^ (8 * k))] := by simp [numB, List.range_succ]

set_option maxHeartbeats 1000000 in
set_option maxRecDepth 100000 in
theorem rnumber_any (N : Nat) (w : World) (ao : Option Addr) (nD capD : Nat) (m : List By) (ho : Own N w (.slice ao nD capD) m) (x k : Nat) (hx : x < 18446744073709551616) (hk : k ≤ 8) (hnD : nD ≤ 140737488351744) :
    Calls Try.prog 51 #[.slice ao nD capD, .int .u64 x, .int .i64 k] w fun e w' => ∃ ao' c', e = .returned (.slice ao' (nD + k) c') ∧ Own N w' (.slice ao' (nD + k) c') (m ++ numB x k) ∧ Below N w w' := by
  have HO : Hid (Own N w (.slice ao nD capD) (m ++ numB x 0)) := by
    show Own N w (.slice ao nD capD) (m ++ numB x 0)
    simpa [numB] using ho
  clear ho
  go_enter Try.func51, Try.ntmps51
  go_wp2
  go_loopw [0, 7] (fun bv iv wr => ∃ (i : Nat) (bo : Option Addr) (bc : Nat), i ≤ k ∧ bv = .slice bo (nD + i) bc ∧ iv = .int .i64 i ∧ Hid (Own N wr (.slice bo (nD + i) bc) (m ++ numB x i) ∧ Below N w wr)) (fun _ iv _ => k - (intOf iv).toNat)
  case atStart => exact ⟨0, ao, capD, by omega, rfl, rfl, HO.out, Below.refl _ _⟩
  case round =>
    clear HO
    obtain ⟨i, bo, bc, hi, rfl, rfl, HI⟩ := hrel
    by_cases hlt : i < k
    · have y0 : (0 : Int) ≤ (i : Int) := by omega
      have y1 : (i : Int) < (k : Int) := by omega
      have z1 : IntKind.i64.wrap (8 * (i : Int)) = 8 * (i : Int) := i64_in _ (by omega) (by omega)
      have HYY : Hid ((x : Int) / 2 ^ (8 * i) % 256 = ((BitVec.ofNat 8 (x / 2 ^ (8 * i))).toNat : Int)) := by
        show _ = _
        rw [BitVec.toNat_ofNat]
        simp [Int.natCast_ediv, Int.natCast_emod, Int.natCast_pow]
      have HL : Hid ((m ++ numB x i).length = nD + i) := HI.out.1.len
      go_wp2_with (at_builtin; refine wpList_append_one rfl (.tmp 13) (.tmp 19) rfl N 5 w (.slice bo (nD + i) bc) (m ++ numB x i) _ _ HYY.out wr.heap.size rfl rfl rfl HI.out.1 HI.out.2 (nD + i) HL.out (by omega) ?_; intro g2 c2 w2 ho2 hb2)
      exact ⟨⟨i + 1, _, c2, by omega, rfl, by go_num, ⟨by rw [numB_succ, ← List.append_assoc]; exact ho2, hb2⟩⟩, by simp [intOf]; omega⟩
    · obtain rfl : i = k := by omega
      have y1 : ¬ ((i : Nat) : Int) < (i : Int) := by omega
      go_wp2
      go_ret
      exact ⟨bo, bc, rfl, HI.out.1, HI.out.2⟩

/-- An event: a digest, and a number. -/
abbrev EvV := List By × Int
abbrev EvV.d (x : EvV) : List By := x.1
abbrev EvV.e (x : EvV) : Int := x.2
def u64 (z : Int) : Nat := (z % 18446744073709551616).toNat
def evB (x : EvV) : List By := x.d ++ numB (u64 x.e) 8
def evC (x : EvV) : List Value := x.d.map B8 ++ [.int .i64 x.e]
def EvOk (x : EvV) : Prop := x.d.length = 32 ∧ -9223372036854775808 ≤ x.e ∧ x.e ≤ 9223372036854775807
theorem evC_len {x : EvV} (h : EvOk x) : (evC x).length = 33 := by simp [evC, h.1]
theorem evC_one (x : EvV) : ∀ u ∈ evC x, u.oneCell' = true := by
  intro u hu
  simp only [evC, List.mem_append, List.mem_singleton] at hu
  rcases hu with hu | rfl
  · exact B8_one x.d u hu
  · rfl
theorem evB_len {x : EvV} (h : EvOk x) : (evB x).length = 40 := by simp [evB, numB_len, h.1]
theorem u64_lt (z : Int) : u64 z < 18446744073709551616 := by unfold u64; omega

set_option maxHeartbeats 1000000 in
set_option maxRecDepth 100000 in
theorem revent_any (x : EvV) (hx : EvOk x) (w : World) :
    Calls Try.prog 36 #[.agg (evC x).toArray] w fun e w' => ∃ ao' c', e = .returned (.slice ao' 40 c') ∧ Own w.heap.size w' (.slice ao' 40 c') (evB x) ∧ Below w.heap.size w w' := by
  have r0 : Row (w.alloc (.cells (evC x).toArray 35)) w.heap.size 35 (evC x) := Row.at w _ _ _ _ rfl rfl
  have b1 : Below w.heap.size w (w.alloc (.cells (evC x).toArray 35)) := (Below.refl _ _).alloc (Nat.le_refl _) _
  have hl := evC_len hx
  have c32 : (evC x)[32]? = some (.int .i64 x.e) := by
    unfold evC
    rw [List.getElem?_append_right (by rw [List.length_map, hx.1]; omega), List.length_map, hx.1]; rfl
  have ib : IsB (w.alloc (.cells (evC x).toArray 35)) (some ⟨w.heap.size, 0, none⟩) x.d := by
    refine .inr ⟨_, 0, rfl, fun j v hj => ?_⟩
    rw [Nat.zero_add]
    refine r0.cell j _ ?_
    unfold evC
    rw [List.getElem?_append_left (by rw [List.length_map]; exact (List.getElem?_eq_some_iff.1 hj).1), List.getElem?_map, hj]; rfl
  have hd : Hid (x.d.length = 32) := hx.1
  have HE : Hid (evB x = x.d ++ numB (u64 x.e) 8) := rfl
  have hwr : IntKind.u64.wrap x.e = ((u64 x.e : Nat) : Int) := by
    rw [IntKind.wrap_u64]
    unfold u64
    omega
  have hlt := u64_lt x.e
  generalize evC x = AC at *
  have hz : (w.alloc (.cells AC.toArray 35)).heap.size = w.heap.size + 1 := by simp
  have b2 : Below (w.heap.size + 1) (w.alloc (.cells AC.toArray 35)) ((w.alloc (.cells AC.toArray 35)).alloc (.cells #[] 5)) := by
    rw [← hz]; exact (Below.refl _ _).alloc (Nat.le_refl _) _
  have o2 : Hid (Own (w.heap.size + 1) ((w.alloc (.cells AC.toArray 35)).alloc (.cells #[] 5)) (.slice (some ⟨w.heap.size + 1, 0, none⟩) 0 0) []) := by
    rw [← hz]; exact own_empty _ (w.alloc (.cells AC.toArray 35)) (Nat.le_refl _) _ rfl
  have IB : Hid (IsB ((w.alloc (.cells AC.toArray 35)).alloc (.cells #[] 5)) (some ⟨w.heap.size, 0, none⟩) x.d) := ib.below b2 (by rw [hz]; exact Nat.le_refl _)
  have B2 : Hid (Below (w.heap.size + 1) (w.alloc (.cells AC.toArray 35)) ((w.alloc (.cells AC.toArray 35)).alloc (.cells #[] 5))) := b2
  have R0 : Hid (Row (w.alloc (.cells AC.toArray 35)) w.heap.size 35 AC) := r0
  have C32 : Hid (AC[32]? = some (.int .i64 x.e)) := c32
  have B1 : Hid (Below w.heap.size w (w.alloc (.cells AC.toArray 35))) := b1
  clear r0 ib c32 hl b2 b1 hz
  go_enter Try.func36, Try.ntmps36
  go_wp2_with (at_builtin; refine wpList_append_more rfl (.tmp 4) (.tmp 6) rfl (w.heap.size + 1) (w.alloc (.cells AC.toArray 35)) (some ⟨w.heap.size + 1, 0, none⟩) 0 0 [] rfl rfl o2.out B2.out (some ⟨w.heap.size, 0, none⟩) 32 32 x.d rfl hd.out IB.out (fun h => by cases h) (by omega) ?_; intro ao2 c2 w2 ho2 hb2; have hcc := (R0.out.below hb2 (by omega)).cell 32 _ C32.out)
  rw [List.nil_append, Nat.zero_add] at ho2
  refine (rnumber_any _ w2 ao2 32 c2 x.d ho2 (u64 x.e) 8 hlt (by omega) (by omega)).mono ?_
  rintro e w3 ⟨ao3, c3, rfl, ho3, hb3⟩
  dsimp only
  rw [← HE.out] at ho3
  have HB3 : Hid (Below w.heap.size w w3) := B1.out.trans ((hb2.trans hb3).mono (by omega))
  have HO3 : Hid (Own w.heap.size w3 (.slice ao3 (32 + 8) c3) (evB x)) := own_le ho3 (by omega)
  clear ho2 hb2 hcc ho3 hb3 o2 B2 IB R0
  go_wp2
  go_ret
  exact ⟨ao3, c3, rfl, HO3.out, HB3.out⟩

end Go.Proofs.Ythegfkcegmeklaa


/-! The reference's chain: Measure, both, Extend. -/
namespace Go.Proofs.Ythegfkcegmeklaa
open Go.RowKit
set_option linter.unusedVariables false

abbrev z32 : List Value := (List.replicate 32 (0 : By)).map B8
def measure (x : EvV) : List By := sha (evB x)
def extend (r x : List By) : List By := sha (r ++ x)

set_option maxHeartbeats 1000000 in
set_option maxRecDepth 100000 in
theorem rmeasure_any (x : EvV) (hx : EvOk x) (w : World) :
    Calls Try.prog 20 #[.agg (evC x).toArray] w fun e w' => e = .returned (.agg ((measure x).map B8).toArray) ∧ Below w.heap.size w w' := by
  have hl := evC_len hx
  have hbl := evB_len hx
  have EV := revent_any x hx
  have HSH : Hid (sha (evB x) = measure x) := rfl
  have hml : (measure x).length = 32 := shaLen _
  generalize measure x = M at *
  generalize evB x = EB at *
  generalize evC x = AC at *
  obtain ⟨W2, hW2⟩ : ∃ W2, W2 = (w.alloc (.cells AC.toArray 35)).alloc (.cells z32.toArray 32) := ⟨_, rfl⟩
  have r1 : Row W2 w.heap.size 35 AC := by rw [hW2]; exact (Row.at w _ _ _ _ rfl rfl).alloc _
  have r2 : Row W2 (w.heap.size + 1) 32 z32 := by rw [hW2]; exact Row.at _ _ _ _ _ (by simp) rfl
  have b2 : Below w.heap.size w W2 := by rw [hW2]; exact ((Below.refl _ _).alloc (Nat.le_refl _) _).alloc (by simp) _
  have HW : Hid (W2 = (w.alloc (.cells AC.toArray 35)).alloc (.cells z32.toArray 32)) := hW2
  have ev := EV W2
  clear EV
  rw [hW2] at r1
  go_enter Try.func20, Try.ntmps20
  go_wp2_with (refine wpList_load_Row rfl 35 (.tmp 1) rfl w.heap.size 35 AC r1 rfl _ Try.underlying35 rfl (by rw [hl]; kernel_rfl) ?_)
  rw [hW2] at ev
  refine ev.mono ?_
  rw [← hW2]
  rintro e w3 ⟨ao3, c3, rfl, ho3, hb3⟩
  dsimp only
  have r3 := r2.below hb3 r2.lt
  have b3 := b2.trans (hb3.mono b2.size)
  clear ev r1 r2
  have RF := ref_n ao3 c3 40 EB hbl M HSH.out w3 (own_IsB ho3) (own_isb ho3).2.1 (by omega)
  go_wp2_with fail
  refine RF.mono ?_
  rintro e w4 ⟨rfl, hb4⟩
  dsimp only
  have r4 := r3.below hb4 r3.lt
  have b4 := b3.trans (hb4.mono b3.size)
  clear RF r3 ho3 hb3 hb4
  go_wp2_with (refine wpList_store_Row rfl 32 _ _ rfl (w.heap.size + 1) 32 0 z32 (M.map B8) r4 (by simp [hml]) rfl rfl (by rw [List.length_map, hml]; kernel_rfl) (B8_one _) ?_; intro w9 hr9 hs9)
  have hr := row_whole hr9 (by simp [hml])
  refine bodyPost_ret_by (results_Row Try.results20 _ w9 (w.heap.size + 1) 32 _ _ rfl hr Try.underlying32 rfl (by rw [List.length_map, hml]; kernel_rfl)) rfl ⟨rfl, hs9.below b4 (by omega)⟩

set_option maxHeartbeats 1000000 in
set_option maxRecDepth 100000 in
theorem rboth_any (r x : List By) (hr : r.length = 32) (hx : x.length = 32) (w : World) :
    Calls Try.prog 33 #[.agg (r.map B8).toArray, .agg (x.map B8).toArray] w fun e w' => ∃ ao' c', e = .returned (.slice ao' 64 c') ∧ Own w.heap.size w' (.slice ao' 64 c') (r ++ x) ∧ Below w.heap.size w w' := by
  obtain ⟨W2, hW2⟩ : ∃ W2, W2 = (w.alloc (.cells (r.map B8).toArray 32)).alloc (.cells (x.map B8).toArray 32) := ⟨_, rfl⟩
  have hz : W2.heap.size = w.heap.size + 1 + 1 := by rw [hW2]; simp
  have r1 : Row W2 w.heap.size 32 (r.map B8) := by rw [hW2]; exact (Row.at w _ _ _ _ rfl rfl).alloc _
  have r2 : Row W2 (w.heap.size + 1) 32 (x.map B8) := by rw [hW2]; exact Row.at _ _ _ _ _ (by simp) rfl
  have b2 : Below w.heap.size w W2 := by rw [hW2]; exact ((Below.refl _ _).alloc (Nat.le_refl _) _).alloc (by simp) _
  have b3 : Below (w.heap.size + 1 + 1) W2 (W2.alloc (.cells #[] 5)) := by rw [← hz]; exact (Below.refl _ _).alloc (Nat.le_refl _) _
  have o3 : Own (w.heap.size + 1 + 1) (W2.alloc (.cells #[] 5)) (.slice (some ⟨w.heap.size + 1 + 1, 0, none⟩) 0 0) [] := by rw [← hz]; exact own_empty _ W2 (Nat.le_refl _) _ rfl
  have i1 : IsB (W2.alloc (.cells #[] 5)) (some ⟨w.heap.size, 0, none⟩) r := row_isb (r1.below b3 (by omega))
  have HR : Hid (r.length = 32) := hr
  have HX : Hid (x.length = 32) := hx
  have R2 : Hid (Row W2 (w.heap.size + 1) 32 (x.map B8)) := r2
  have BB : Hid (Below w.heap.size w W2) := b2
  have I1 : Hid (IsB (W2.alloc (.cells #[] 5)) (some ⟨w.heap.size, 0, none⟩) r) := i1
  have O3 : Hid (Own (w.heap.size + 1 + 1) (W2.alloc (.cells #[] 5)) (.slice (some ⟨w.heap.size + 1 + 1, 0, none⟩) 0 0) []) := o3
  have B3 : Hid (Below (w.heap.size + 1 + 1) W2 (W2.alloc (.cells #[] 5))) := b3
  clear r1 r2 b2 b3 o3 i1 hz hr hx
  subst hW2
  generalize hrc : (r.map B8).toArray = RC at *
  generalize hxc : (x.map B8).toArray = XC at *
  clear hrc hxc
  go_enter Try.func33, Try.ntmps33
  go_wp2_with (first | (at_builtin; refine wpList_append_more rfl (.tmp 6) (.tmp 7) rfl (w.heap.size + 1 + 1) _ (some ⟨w.heap.size + 1 + 1, 0, none⟩) 0 0 [] rfl rfl O3.out B3.out (some ⟨w.heap.size, 0, none⟩) 32 32 r rfl HR.out I1.out (fun h => by cases h) (by omega) ?_; intro ao4 c4 w4 ho4 hb4; have hL4 : Hid (r.length = 32) := HR.out; have i4 := row_isb (R2.out.below hb4 (by omega))) | (at_builtin; refine wpList_append_more rfl (.tmp 9) (.tmp 10) rfl (w.heap.size + 1 + 1) _ ao4 (0 + 32) c4 ([] ++ r) rfl (by rw [List.nil_append, Nat.zero_add]; exact HR.out) ho4 hb4 (some ⟨w.heap.size + 1, 0, none⟩) 32 32 x rfl HX.out i4 (fun h => by cases h) (by omega) ?_; intro ao5 c5 w5 ho5 hb5))
  have HO : Hid (Own w.heap.size w5 (.slice ao5 64 c5) (r ++ x)) := own_le (by simpa using ho5) (by omega)
  have HB : Hid (Below w.heap.size w w5) := BB.out.trans (hb5.mono (by omega))
  clear ho4 hb4 ho5 hb5 i4
  go_wp2
  go_ret
  exact ⟨ao5, c5, rfl, HO.out, HB.out⟩

end Go.Proofs.Ythegfkcegmeklaa


/-! The reference's chain: Extend, Register. -/
namespace Go.Proofs.Ythegfkcegmeklaa
open Go.RowKit
set_option linter.unusedVariables false

set_option maxHeartbeats 1000000 in
set_option maxRecDepth 100000 in
theorem rextend_any (r x : List By) (hr : r.length = 32) (hx : x.length = 32) (w : World) :
    Calls Try.prog 18 #[.agg (r.map B8).toArray, .agg (x.map B8).toArray] w fun e w' => e = .returned (.agg ((extend r x).map B8).toArray) ∧ Below w.heap.size w w' := by
  have BO := rboth_any r x hr hx
  have HSH : Hid (sha (r ++ x) = extend r x) := rfl
  have hml : (extend r x).length = 32 := shaLen _
  have hbl : (r ++ x).length = 64 := by rw [List.length_append, hr, hx]
  generalize extend r x = M at *
  obtain ⟨W2, hW2⟩ : ∃ W2, W2 = ((w.alloc (.cells (r.map B8).toArray 32)).alloc (.cells (x.map B8).toArray 32)).alloc (.cells z32.toArray 32) := ⟨_, rfl⟩
  have r1 : Row W2 w.heap.size 32 (r.map B8) := by rw [hW2]; exact ((Row.at w _ _ _ _ rfl rfl).alloc _).alloc _
  have r2 : Row W2 (w.heap.size + 1) 32 (x.map B8) := by rw [hW2]; exact (Row.at _ _ _ _ _ (by simp) rfl).alloc _
  have r3 : Row W2 (w.heap.size + 1 + 1) 32 z32 := by rw [hW2]; exact Row.at _ _ _ _ _ (by simp) rfl
  have b2 : Below w.heap.size w W2 := by rw [hW2]; exact (((Below.refl _ _).alloc (Nat.le_refl _) _).alloc (by simp) _).alloc (by simp; omega) _
  have l1 : (r.map B8).length = 32 := by rw [List.length_map, hr]
  have l2 : (x.map B8).length = 32 := by rw [List.length_map, hx]
  have bo := BO W2
  clear BO hr hx
  generalize r ++ x = RX at *
  generalize r.map B8 = RC at *
  generalize x.map B8 = XC at *
  have r1' := r1
  have r2' := r2
  rw [hW2] at r1' r2' bo
  go_enter Try.func18, Try.ntmps18
  go_wp2_with (first | (refine wpList_load_Row rfl 32 (.tmp 2) rfl w.heap.size 32 RC r1' rfl _ Try.underlying32 rfl (by rw [l1]; kernel_rfl) ?_) | (refine wpList_load_Row rfl 32 (.tmp 3) rfl (w.heap.size + 1) 32 XC r2' rfl _ Try.underlying32 rfl (by rw [l2]; kernel_rfl) ?_))
  refine bo.mono ?_
  rw [← hW2]
  rintro e w3 ⟨ao3, c3, rfl, ho3, hb3⟩
  dsimp only
  replace r3 := r3.below hb3 r3.lt
  have b3 := b2.trans (hb3.mono b2.size)
  clear bo r1 r2 r1' r2'
  have RF := ref_n ao3 c3 64 RX hbl M HSH.out w3 (own_IsB ho3) (own_isb ho3).2.1 (by omega)
  go_wp2_with fail
  refine RF.mono ?_
  rintro e w4 ⟨rfl, hb4⟩
  dsimp only
  have r4 := r3.below hb4 r3.lt
  have b4 := b3.trans (hb4.mono b3.size)
  clear RF r3 ho3 hb3 hb4
  go_wp2_with (refine wpList_store_Row rfl 32 _ _ rfl (w.heap.size + 1 + 1) 32 0 z32 (M.map B8) r4 (by simp [hml]) rfl rfl (by rw [List.length_map, hml]; kernel_rfl) (B8_one _) ?_; intro w9 hr9 hs9)
  have hr := row_whole hr9 (by simp [hml])
  refine bodyPost_ret_by (results_Row Try.results18 _ w9 (w.heap.size + 1 + 1) 32 _ _ rfl hr Try.underlying32 rfl (by rw [List.length_map, hml]; kernel_rfl)) rfl ⟨rfl, hs9.below b4 (by omega)⟩

/-- Events that are handed in. -/
structure EvIn (w : World) (B off : Nat) (xs : List EvV) : Prop where
  cells : ∀ (i : Nat) (x : EvV), xs[i]? = some x → w.rangeAt B (off + i * 33) (evC x)
  ok : ∀ (i : Nat) (x : EvV), xs[i]? = some x → EvOk x
theorem cell_lt {w : World} {p : Addr} {v : Value} (h : w.cell? p = some v) : p.block < w.heap.size := by
  rcases Nat.lt_or_ge p.block w.heap.size with h1 | h1
  · exact h1
  · simp [World.cell?, Array.getElem?_eq_none h1] at h
theorem EvIn.keep {w w' : World} {B off : Nat} {xs : List EvV} (h : EvIn w B off xs) (hb : Below w.heap.size w w') : EvIn w' B off xs :=
  ⟨fun i x hi j v hv => by have := h.cells i x hi j v hv; exact (hb.cell (cell_lt this)).trans this, h.ok⟩
/-- The register of events. -/
def reg (xs : List EvV) : List By := xs.foldl (fun r x => extend r (measure x)) (List.replicate 32 0)
theorem reg_len (xs : List EvV) : (reg xs).length = 32 := by
  unfold reg
  have : ∀ (xs : List EvV) (r : List By), r.length = 32 → (xs.foldl (fun r x => extend r (measure x)) r).length = 32 := by
    intro xs
    induction xs with
    | nil => intro r h; exact h
    | cons x xs ih => intro r _; exact ih _ (shaLen _)
  exact this xs _ (by simp)
theorem reg_push (xs : List EvV) (x : EvV) : reg (xs ++ [x]) = extend (reg xs) (measure x) := by
  unfold reg; rw [List.foldl_append]; rfl
theorem take_one {xs : List EvV} {k : Nat} {x : EvV} (h : xs[k]? = some x) : xs.take (k + 1) = xs.take k ++ [x] := by
  rw [List.take_add_one, h]; rfl

set_option maxHeartbeats 1000000 in
set_option maxRecDepth 100000 in
theorem rregister_any (w : World) (ao : Option Addr) (n cap B off : Nat) (xs : List EvV) (hn : xs.length = n) (hn47 : n ≤ 140737488355328) (hao : 0 < n → ao = some ⟨B, off, none⟩) (hin : EvIn w B off xs) :
    Calls Try.prog 12 #[.slice ao n cap] w fun e w' => e = .returned (.agg ((reg xs).map B8).toArray) ∧ Below w.heap.size w w' := by
  obtain ⟨W2, hW2⟩ : ∃ W2, W2 = (w.alloc (.cells z32.toArray 32)).alloc (.cells z32.toArray 32) := ⟨_, rfl⟩
  have r1 : Row W2 w.heap.size 32 z32 := by rw [hW2]; exact (Row.at w _ _ _ _ rfl rfl).alloc _
  have r2 : Row W2 (w.heap.size + 1) 32 z32 := by rw [hW2]; exact Row.at _ _ _ _ _ (by simp) rfl
  have b2 : Below w.heap.size w W2 := by rw [hW2]; exact ((Below.refl _ _).alloc (Nat.le_refl _) _).alloc (by simp) _
  have HI : Hid (∀ W, Below w.heap.size w W → EvIn W B off xs) := fun W h => hin.keep h
  have HX : Hid (xs.length = n) := hn
  have HAO : Hid (0 < n → ao = some ⟨B, off, none⟩) := hao
  clear hin hn hao
  subst hW2
  go_enter Try.func12, Try.ntmps12
  go_wp2_with (refine wpList_store_Row rfl 32 _ _ rfl (w.heap.size + 1) 32 0 z32 z32 r2 (by simp) rfl rfl (by kernel_rfl) (B8_one _) ?_; intro w3 hr3 hs3)
  have r3 := row_whole hr3 (by simp)
  have r1' := r1.but hs3 (by omega)
  have b3 := hs3.below b2 (by omega)
  have HS : Hid (Row w3 w.heap.size 32 z32 ∧ Row w3 (w.heap.size + 1) 32 ((reg (xs.take 0)).map B8) ∧ Below w.heap.size w w3) := ⟨r1', r3, b3⟩
  clear r1 r2 r3 r1' b3 b2 hr3 hs3
  go_loopw [4] (fun iv wr => ∃ k : Nat, k ≤ n ∧ iv = .int .i64 k ∧ Hid (Row wr w.heap.size 32 z32 ∧ Row wr (w.heap.size + 1) 32 ((reg (xs.take k)).map B8) ∧ Below w.heap.size w wr)) (fun iv _ => n - (intOf iv).toNat)
  case atStart => exact ⟨0, by omega, rfl, HS⟩
  case round =>
    clear HS
    obtain ⟨k, hk, rfl, HK⟩ := hrel
    by_cases hlt : k < n
    · obtain rfl := HAO.out (by omega)
      have y0 : (0 : Int) ≤ (k : Int) := by omega
      have y1 : (k : Int) < (n : Int) := by omega
      obtain ⟨x, hx⟩ : ∃ x, xs[k]? = some x := ⟨_, List.getElem?_eq_getElem (by rw [HX.out]; exact hlt)⟩
      have hrg := (HI.out _ HK.out.2.2).cells k x hx
      have hok := (HI.out _ HK.out.2.2).ok k x hx
      have hal := evC_len hok
      have HP : Hid (reg (xs.take (k + 1)) = extend (reg (xs.take k)) (measure x)) := by
        show _ = _
        rw [take_one hx, reg_push]
      have hrl := reg_len (xs.take k)
      have hml : (measure x).length = 32 := shaLen _
      have ME := rmeasure_any x hok wr
      have EX := rextend_any (reg (xs.take k)) (measure x) hrl hml
      have hel : (extend (reg (xs.take k)) (measure x)).length = 32 := shaLen _
      obtain ⟨ra, rb, bb⟩ := HK.out
      clear HK hx hok
      generalize evC x = AC at *
      generalize reg (xs.take k) = RG at *
      generalize measure x = MX at *
      generalize extend RG MX = EXT at *
      go_wp2_with (refine wpList_load_mid rfl 35 (.tmp 15) rfl B (off + k * 33) rfl AC _ hrg Try.underlying35 rfl (by rw [hal]; kernel_rfl) ?_)
      refine ME.mono ?_
      clear ME hrg
      rintro e w4 ⟨rfl, b4⟩
      dsimp only
      replace ra := ra.below b4 ra.lt
      replace rb := rb.below b4 rb.lt
      replace bb := bb.trans (b4.mono bb.size)
      clear b4
      generalize hG : w4.heap.size = G at *
      have hg1 : w.heap.size + 1 < G := by rw [← hG]; exact rb.lt
      have lm : (MX.map B8).length = 32 := by rw [List.length_map, hml]
      have lr : (RG.map B8).length = 32 := by rw [List.length_map, hrl]
      go_wp2_with (first | (refine wpList_store_Row rfl 32 _ _ rfl G 32 0 z32 (MX.map B8) (Row.at w4 _ _ _ _ hG.symm rfl) (by simp [hml]) rfl rfl (by rw [lm]; kernel_rfl) (B8_one _) ?_; intro w5 hr5 hs5; have r5 := row_whole hr5 (by simp [hml]); have ra5 := (ra.alloc (.cells z32.toArray 32)).but hs5 (by omega); have rb5 := (rb.alloc (.cells z32.toArray 32)).but hs5 (by omega); have bb5 := hs5.below (bb.alloc (by omega) (.cells z32.toArray 32)) (by omega)) | (refine wpList_load_Row rfl 32 (.tmp 3) rfl (w.heap.size + 1) 32 (RG.map B8) rb5 rfl _ Try.underlying32 rfl (by rw [lr]; kernel_rfl) ?_) | (refine wpList_load_Row rfl 32 (.tmp 5) rfl G 32 (MX.map B8) r5 rfl _ Try.underlying32 rfl (by rw [lm]; kernel_rfl) ?_))
      refine (EX w5).mono ?_
      clear EX
      rintro e w6 ⟨rfl, b6⟩
      dsimp only
      have ra6 := ra5.below b6 ra5.lt
      have rb6 := rb5.below b6 rb5.lt
      have bb6 := bb5.trans (b6.mono bb5.size)
      clear ra5 rb5 bb5 r5 hr5 hs5 ra rb bb b6
      go_wp2_with (refine wpList_store_Row rfl 32 _ _ rfl (w.heap.size + 1) 32 0 (RG.map B8) (EXT.map B8) rb6 (by simp [hel, hrl]) rfl rfl (by rw [List.length_map, hel]; kernel_rfl) (B8_one _) ?_; intro w7 hr7 hs7)
      have rb7 := row_whole hr7 (by simp [hel, hrl])
      exact ⟨⟨k + 1, by omega, by go_num, ra6.but hs7 (by omega), by rw [HP.out]; exact rb7, hs7.below bb6 (by omega)⟩, by simp [intOf]; omega⟩
    · obtain rfl : k = n := by omega
      have y1 : ¬ ((k : Nat) : Int) < (k : Int) := by omega
      have HT : Hid (xs.take k = xs) := List.take_of_length_le (by rw [HX.out]; exact Nat.le_refl _)
      obtain ⟨ra, rb, bb⟩ := HK.out
      rw [HT.out] at rb
      have hrl := reg_len xs
      have lr : ((reg xs).map B8).length = 32 := by rw [List.length_map, hrl]
      clear HK HT
      generalize hRG : reg xs = RG at *
      have HRG : Hid (reg xs = RG) := hRG
      clear hRG
      go_wp2_with (first | (refine wpList_load_Row rfl 32 (.tmp 3) rfl (w.heap.size + 1) 32 (RG.map B8) rb rfl _ Try.underlying32 rfl (by rw [lr]; kernel_rfl) ?_) | (refine wpList_store_Row rfl 32 _ _ rfl w.heap.size 32 0 z32 (RG.map B8) ra (by simp [hrl]) rfl rfl (by rw [lr]; kernel_rfl) (B8_one _) ?_; intro w9 hr9 hs9))
      have hr := row_whole hr9 (by simp [hrl])
      refine bodyPost_ret_by (results_Row Try.results12 _ w9 w.heap.size 32 _ _ rfl hr Try.underlying32 rfl (by rw [lr]; kernel_rfl)) rfl ⟨by rw [HRG.out], hs9.below bb (Nat.le_refl _)⟩

end Go.Proofs.Ythegfkcegmeklaa


/-! The reference's chain: message, Quote. -/
namespace Go.Proofs.Ythegfkcegmeklaa
open Go.RowKit
set_option linter.unusedVariables false

def magic : List By := [112#8, 111#8, 114#8, 116#8, 99#8, 117#8, 108#8, 108#8, 105#8, 115#8, 32#8, 113#8, 117#8, 111#8, 116#8, 101#8]
/-- What a quote is the tag of. -/
def msg (nonce : List By) (xs : List EvV) : List By := magic ++ [0#8] ++ numB nonce.length 4 ++ nonce ++ numB xs.length 4 ++ reg xs
theorem msg_len (nonce : List By) (xs : List EvV) : (msg nonce xs).length = nonce.length + 57 := by
  simp only [msg, List.length_append, numB_len, reg_len, magic, List.length_cons, List.length_nil]; omega

theorem isb_mk {w : World} {g t : Nat} {fz : Nat × Nat} {l : List By} (h : w.heap[g]? = some (.cells (l.map B8).toArray t fz)) : IsB w (some ⟨g, 0, none⟩) l :=
  .inr ⟨g, 0, rfl, fun j v hj => by rw [Nat.zero_add, cell_of_row w g j _ t fz h]; simp [hj]⟩
theorem isb_cells {w : World} {g : Nat} {m : List By} (h : IsB w (some ⟨g, 0, none⟩) m) : ∀ j v, (m.map B8)[j]? = some v → w.cell? ((⟨g, 0, none⟩ : Addr).add j) = some v := by
  intro j u hu
  rw [Addr.add_mid, Nat.zero_add]
  rw [List.getElem?_map] at hu
  rcases h with rfl | ⟨B, off, e, hc⟩
  · simp at hu
  · injection e with e
    injection e with e1 e2
    subst e1 e2
    cases hj : m[j]? with
    | none => rw [hj] at hu; cases hu
    | some v =>
      rw [hj] at hu
      injection hu with hu
      subst hu
      have := hc j v hj
      rw [Nat.zero_add] at this
      exact this
/-- append onto a full slice of bytes, whoever's it is. -/
theorem wpList_append_full {ops : Array Oper} {rest : List Oper} {o : Oper} {a : Act} {w : World} {Q : Exit → Act → World → Prop} (hgd : o.guard = none) (s x : Operand)
    (ho : o.op = .call { callee := .builtin .append, args := #[s, x], argTypes := #[36, 36] })
    (g nD : Nat) (m : List By) (hs : a.eval s = .slice (some ⟨g, 0, none⟩) nD nD) (hD : m.length = nD) (hm : IsB w (some ⟨g, 0, none⟩) m)
    (h n cap : Nat) (bs : List By) (hx : a.eval x = .slice (some ⟨h, 0, none⟩) n cap) (hn : bs.length = n) (hb : IsB w (some ⟨h, 0, none⟩) bs) (hn0 : 0 < n) (hl : nD + n ≤ 140737488353280)
    (hK : ∀ ao' cap' w', Own w.heap.size w' (.slice ao' (nD + n) cap') (m ++ bs) → Below w.heap.size w w' → wpList Try.prog ops Q rest (a.put o.dst (.slice ao' (nD + n) cap')) w') : wpList Try.prog ops Q (o :: rest) a w := by
  obtain ⟨i0, hi, hz0, hz1, hz2⟩ := info_parts Try.info5
  refine wpList_plain hgd fun K hK' => ?_
  have hr := run_append_grow (P := Try.prog) w 36 o.type 5 i0 (.int .u8 0) Try.underlying36 hi hz0 ⟨g, 0, none⟩ nD nD (m.map B8) (by rw [List.length_map, hz1, hD, Nat.mul_one]) (isb_cells hm) ⟨h, 0, none⟩ n cap (bs.map B8) (by rw [List.length_map, hz1, hn, Nat.mul_one]) (isb_cells hb) (by omega) (by omega) (growslice_fits (by omega) (by rw [hz2]; omega))
  have hge := grownCap_ge w (nD + n) nD 5
  have hcm : grownCap w (nD + n) nD 5 ≤ maxLen := grownCap_le_maxLen w (nD + n) nD 5 (by unfold maxLen; omega)
  have hlen : (m ++ bs).length = nD + n := by rw [List.length_append, hD, hn]
  unfold Oper.wp execOp
  simp only [ho, resolve, invoke, builtin, Sem.run_bind, Sem.run_pure, Result.andThen_ok, List.map_toArray, List.map_cons, List.map_nil, hs, hx, hr]
  refine hK' _ _ (hK _ _ _ ⟨⟨by simp, .inr ⟨w.heap.size, _, _, by rw [hlen], Nat.le_refl _, heap_alloc_new w.drew _, by rw [hlen]; exact hge, hcm, ?_, ?_⟩⟩, by simp⟩ (((Below.refl _ _).drew).alloc (Nat.le_refl _) _))
  · simp only [Array.size_append, List.size_toArray, size_zeroCells, List.length_map, hD, hn]
    have : (Value.int IntKind.u8 0).cells.size = 1 := rfl
    rw [this]; omega
  · rw [Array.toList_append, Array.toList_append]
    have e1 : (m ++ bs).length * 1 = (m.map B8 ++ bs.map B8).length := by simp
    rw [e1, List.map_append]
    exact List.take_left

set_option maxHeartbeats 1000000 in
set_option maxRecDepth 100000 in
theorem rmessage_any (w : World) (no : Option Addr) (nb nc : Nat) (nonce : List By) (hnb : nonce.length = nb) (hni : IsB w no nonce) (hnn : no = none → nc = 0) (hbig : nb ≤ 140737488351232)
    (ao : Option Addr) (n cap B off : Nat) (xs : List EvV) (hn : xs.length = n) (hn47 : n ≤ 140737488355328) (hao : 0 < n → ao = some ⟨B, off, none⟩) (hin : EvIn w B off xs) :
    Calls Try.prog 37 #[.slice no nb nc, .slice ao n cap] w fun e w' => ∃ ao' c', e = .returned (.slice ao' (nb + 57) c') ∧ Own w.heap.size w' (.slice ao' (nb + 57) c') (msg nonce xs) ∧ Below w.heap.size w w' := by
  have HI : Hid (∀ W, Below w.heap.size w W → EvIn W B off xs) := fun W h => hin.keep h
  have HNI : Hid (∀ W, Below w.heap.size w W → IsB W no nonce) := fun W h => hni.below h (Nat.le_refl _)
  have HX : Hid (xs.length = n) := hn
  have HB : Hid (nonce.length = nb) := hnb
  have HAO : Hid (0 < n → ao = some ⟨B, off, none⟩) := hao
  have HNN : Hid (no = none → nc = 0) := hnn
  have kc := Lib.run_convert_bytes_const (P := Try.prog) w 36 5 #[.int .u8 112, .int .u8 111, .int .u8 114, .int .u8 116, .int .u8 99, .int .u8 117, .int .u8 108, .int .u8 108, .int .u8 105, .int .u8 115, .int .u8 32, .int .u8 113, .int .u8 117, .int .u8 111, .int .u8 116, .int .u8 101] 16 16 Try.underlying36 Try.underlying5
  have b2 : Below w.heap.size w ((w.alloc (.cells (magic.map B8).toArray 5 (16, 17))).alloc (.cells ([0#8].map B8).toArray 5)) := ((Below.refl _ _).alloc (Nat.le_refl _) _).alloc (by simp) _
  have i1 : IsB ((w.alloc (.cells (magic.map B8).toArray 5 (16, 17))).alloc (.cells ([0#8].map B8).toArray 5)) (some ⟨w.heap.size, 0, none⟩) magic := isb_mk ((Below.heap_alloc _ _ _ (by simp)).trans (heap_alloc_new w _))
  have i2 : IsB ((w.alloc (.cells (magic.map B8).toArray 5 (16, 17))).alloc (.cells ([0#8].map B8).toArray 5)) (some ⟨w.heap.size + 1, 0, none⟩) [0#8] := row_isb (Row.at _ 5 ([0#8].map B8) _ _ (by simp) rfl)
  have z1 : IntKind.u64.wrap (nb : Int) = (nb : Int) := by rw [IntKind.wrap_u64]; omega
  have z2 : IntKind.u64.wrap (n : Int) = (n : Int) := by rw [IntKind.wrap_u64]; omega
  have HM : Hid (magic.length = 16) := rfl
  clear hin hni hn hnb hao hnn
  have B2 : Hid (Below w.heap.size w _) := b2
  have I1 : Hid (IsB _ (some ⟨w.heap.size, 0, none⟩) magic) := i1
  have I2 : Hid (IsB _ (some ⟨w.heap.size + 1, 0, none⟩) [0#8]) := i2
  clear b2 i1 i2
  go_enter Try.func37, Try.ntmps37
  go_wp2_with (at_builtin; refine wpList_append_full rfl (.tmp 8) (.tmp 9) rfl w.heap.size 16 magic rfl HM.out I1.out (w.heap.size + 1) 1 1 [0#8] rfl rfl I2.out (by omega) (by omega) ?_; intro ao3 c3 w3 ho3' hb3')
  have ho3 : Own w.heap.size w3 (.slice ao3 17 c3) (magic ++ [0#8]) := own_le ho3' (by simp; omega)
  have hb3 : Below w.heap.size w w3 := B2.out.trans (hb3'.mono (by simp; omega))
  clear ho3' hb3'
  refine (rnumber_any w.heap.size w3 ao3 17 c3 (magic ++ [0#8]) ho3 nb 4 (by omega) (by omega) (by omega)).mono ?_
  rintro e w4 ⟨ao4, c4, rfl, ho4, hb4⟩
  dsimp only
  have b4 : Hid (Below w.heap.size w w4) := hb3.trans hb4
  have o4 : Hid (Own w.heap.size w4 (.slice ao4 21 c4) (magic ++ [0#8] ++ numB nb 4)) := ho4
  clear ho3 hb3 ho4 hb4 I1 B2 I2 kc
  have hl4 : Hid ((magic ++ [0#8] ++ numB nb 4).length = 21) := o4.out.len
  go_wp2_with (at_builtin; refine wpList_append_more rfl (.tmp 16) (.tmp 17) rfl w.heap.size w ao4 21 c4 (magic ++ [0#8] ++ numB nb 4) rfl hl4.out o4.out b4.out no nb nc nonce rfl HB.out (HNI.out _ b4.out) HNN.out (by omega) ?_; intro ao5 c5 w5 ho5 hb5)
  refine (rnumber_any w.heap.size w5 ao5 (21 + nb) c5 _ ho5 n 4 (by omega) (by omega) (by omega)).mono ?_
  rintro e w6 ⟨ao6, c6, rfl, ho6, hb6⟩
  dsimp only
  have b6 : Hid (Below w.heap.size w w6) := hb5.trans hb6
  have o6 : Hid (Own w.heap.size w6 (.slice ao6 (21 + nb + 4) c6) (magic ++ [0#8] ++ numB nb 4 ++ nonce ++ numB n 4)) := ho6
  clear ho5 hb5 ho6 hb6 o4 b4 hl4
  have RG := rregister_any w6 ao n cap B off xs HX.out hn47 HAO.out (HI.out _ b6.out)
  go_wp2_with fail
  refine RG.mono ?_
  clear RG
  rintro e w7 ⟨rfl, hb7⟩
  dsimp only
  have b7 : Hid (Below w.heap.size w w7) := b6.out.trans (hb7.mono b6.out.size)
  have o7 : Hid (Own w.heap.size w7 (.slice ao6 (21 + nb + 4) c6) (magic ++ [0#8] ++ numB nb 4 ++ nonce ++ numB n 4)) := o6.out.keep hb7
  have hrl := reg_len xs
  have HMS : Hid (magic ++ [0#8] ++ numB nb 4 ++ nonce ++ numB n 4 ++ reg xs = msg nonce xs) := by
    show _ = _
    unfold msg; rw [HB.out, HX.out]
  clear hb7 o6 b6
  generalize hR : reg xs = R at *
  clear hR
  generalize magic ++ [0#8] ++ numB nb 4 ++ nonce ++ numB n 4 = MM at *
  generalize hMS : msg nonce xs = MS at *
  have HMM : Hid (msg nonce xs = MS) := hMS
  clear hMS
  have hl7 : Hid (MM.length = 21 + nb + 4) := o7.out.len
  generalize hG : w7.heap.size = G at *
  have hNG : w.heap.size ≤ G := by rw [← hG]; exact b7.out.size
  go_wp2_with (first | (refine wpList_store_Row rfl 32 _ _ rfl G 32 0 z32 (R.map B8) (Row.at w7 _ _ _ _ hG.symm rfl) (by simp [hrl]) rfl rfl (by rw [List.length_map, hrl]; kernel_rfl) (B8_one _) ?_; intro w8 hr8 hs8; have r8 := row_whole hr8 (by simp [hrl]); have b8 := hs8.below (b7.out.alloc (by omega) (.cells z32.toArray 32)) hNG; have bb8 : Below w7.heap.size w7 w8 := hs8.below ((Below.refl _ _).alloc (Nat.le_refl _) _) (by omega); have o8 := o7.out.keep bb8) | (at_builtin; refine wpList_append_more rfl (.tmp 26) (.tmp 27) rfl w.heap.size w ao6 (21 + nb + 4) c6 MM rfl hl7.out o8 b8 (some ⟨G, 0, none⟩) 32 32 R rfl hrl (row_isb r8) (fun h => by cases h) (by omega) ?_; intro ao9 c9 w9 ho9 hb9))
  have HO : Hid (Own w.heap.size w9 (.slice ao9 (nb + 57) c9) MS) := by
    rw [← HMS.out]
    have e : nb + 57 = 21 + nb + 4 + 32 := by omega
    rw [e]; exact ho9
  have HBB : Hid (Below w.heap.size w w9) := hb9
  have HEQ : Hid (21 + nb + 4 + 32 = nb + 57) := (by omega : 21 + nb + 4 + 32 = nb + 57)
  clear ho9 hb9 r8 b8 bb8 o8 hr8 hs8
  rw [HEQ.out]
  go_wp2
  go_ret
  exact ⟨ao9, c9, rfl, by rw [HMM.out]; exact HO.out, HBB.out⟩

/-- The quote of events and a nonce. -/
def quot (key nonce : List By) (xs : List EvV) : List By := tag key (msg nonce xs)
set_option maxHeartbeats 1000000 in
set_option maxRecDepth 100000 in
theorem rquote_any (w : World) (ko : Option Addr) (kn kc : Nat) (key : List By) (hkn : key.length = kn) (hki : IsB w ko key) (hkk : ko = none → kc = 0) (hkb : kn ≤ 140737488351232) (no : Option Addr) (nb nc : Nat) (nonce : List By) (hnb : nonce.length = nb) (hni : IsB w no nonce) (hnn : no = none → nc = 0) (hbig : nb ≤ 140737488351232)
    (ao : Option Addr) (n cap B off : Nat) (xs : List EvV) (hn : xs.length = n) (hn47 : n ≤ 140737488355328) (hao : 0 < n → ao = some ⟨B, off, none⟩) (hin : EvIn w B off xs) :
    Calls Try.prog 26 #[.slice ko kn kc, .slice no nb nc, .slice ao n cap] w fun e w' => e = .returned (.agg ((quot key nonce xs).map B8).toArray) ∧ Below w.heap.size w w' := by
  have b0 : ∀ o1, Below w.heap.size w (w.alloc o1) := fun o1 => (Below.refl _ _).alloc (Nat.le_refl _) _
  have MG := fun o1 => rmessage_any (w.alloc o1) no nb nc nonce hnb (hni.below (b0 o1) (Nat.le_refl _)) hnn hbig ao n cap B off xs hn hn47 hao (hin.keep (b0 o1))
  have HKI : Hid (∀ W, Below w.heap.size w W → IsB W ko key) := fun W h => hki.below h (Nat.le_refl _)
  have HKN : Hid (key.length = kn) := hkn
  have HKK : Hid (ko = none → kc = 0) := hkk
  have HML : Hid ((msg nonce xs).length = nb + 57) := by show _ = _; rw [msg_len, hnb]
  have HQ : Hid (tag key (msg nonce xs) = quot key nonce xs) := rfl
  have hql : (quot key nonce xs).length = 32 := shaLen _
  have r0 : Row (w.alloc (.cells z32.toArray 32)) w.heap.size 32 z32 := Row.at w _ _ _ _ rfl rfl
  have MGH : Hid (∀ o1, Calls Try.prog 37 #[.slice no nb nc, .slice ao n cap] (w.alloc o1) fun e w' => ∃ ao' c', e = .returned (.slice ao' (nb + 57) c') ∧ Own (w.alloc o1).heap.size w' (.slice ao' (nb + 57) c') (msg nonce xs) ∧ Below (w.alloc o1).heap.size (w.alloc o1) w') := MG
  clear MG hki hkn hkk hni hnb hnn hin hao hn
  generalize msg nonce xs = MS at *
  generalize quot key nonce xs = QQ at *
  go_enter Try.func26, Try.ntmps26
  go_wp2_with fail
  refine (MGH.out _).mono ?_
  rintro e w2 ⟨ao2, c2, rfl, ho2, hb2⟩
  dsimp only
  have r2 := r0.below hb2 (by simp)
  have b2 : Below w.heap.size w w2 := (b0 _).trans (hb2.mono (by simp))
  clear hb2 b0 MGH
  have MC := refMac_any ko ao2 kn kc (nb + 57) c2 key MS HKN.out HML.out w2 (HKI.out _ b2) (own_IsB ho2) HKK.out (own_isb ho2).2.1 (by omega) (by omega)
  rw [HQ.out] at MC
  clear ho2
  go_wp2_with fail
  refine MC.mono ?_
  clear MC
  rintro e w3 ⟨rfl, hb3⟩
  dsimp only
  have r3 := r2.below hb3 r2.lt
  have b3 := b2.trans (hb3.mono b2.size)
  clear hb3 r2
  go_wp2_with (refine wpList_store_Row rfl 32 _ _ rfl w.heap.size 32 0 z32 (QQ.map B8) r3 (by simp [hql]) rfl rfl (by rw [List.length_map, hql]; kernel_rfl) (B8_one _) ?_; intro w9 hr9 hs9)
  have hr := row_whole hr9 (by simp [hql])
  refine bodyPost_ret_by (results_Row Try.results26 _ w9 w.heap.size 32 _ _ rfl hr Try.underlying32 rfl (by rw [List.length_map, hql]; kernel_rfl)) rfl ⟨rfl, hs9.below b3 (Nat.le_refl _)⟩

end Go.Proofs.Ythegfkcegmeklaa
