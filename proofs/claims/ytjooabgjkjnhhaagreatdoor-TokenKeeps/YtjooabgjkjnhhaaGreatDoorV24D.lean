
import Derived.Test.YtjooabgjkjnhhaaGreatDoorV24C
import Derived.Test.YtjooabgjkjnhhaaGreatDoorT24Ka
/-! The code's token: a caveat's bytes. -/
namespace Go.Proofs.YtjooabgjkjnhhaaGreatDoor
open Go.RowKit
set_option linter.unusedVariables false
set_option linter.unusedSimpArgs false
set_option maxRecDepth 100000

def z26 : List Value := [.int .u8 0, .int .u8 0, .int .u8 0, .int .u8 0, .int .u8 0, .int .u8 0, .int .u8 0, .int .u8 0, .int .u8 0, .int .u8 0, .int .u8 0, .int .u8 0, .int .u8 0, .int .u8 0, .int .u8 0, .int .u8 0, .int .u8 0, .int .u8 0, .int .u8 0, .int .u8 0, .int .u8 0, .int .u8 0, .int .u8 0, .int .u8 0, .int .u8 0, .int .u8 0]
/-- While a caveat's bytes are laid. -/
structure LD (w : World) (g : Nat) (c : Cv) (CS : List Value) (W : World) : Prop where
  bel : Below w.heap.size w W
  hg : w.heap.size + 2 ≤ g
  box : Row W w.heap.size 52 (cvC c)
  res : Row W (w.heap.size + 1) 102 z26
  b : Row W g 102 CS
theorem LD.drew {w : World} {g : Nat} {c : Cv} {CS : List Value} {W : World} (h : LD w g c CS W) : LD w g c CS W.drew := ⟨h.bel.drew, h.hg, h.box.drew, h.res.drew, h.b.drew⟩
theorem LD.but {w : World} {g : Nat} {c : Cv} {CS CS2 : List Value} {W W2 : World} (h : LD w g c CS W) (hs : SameBut g W W2) (hr : Row W2 g 102 CS2) : LD w g c CS2 W2 :=
  ⟨hs.below h.bel (by have := h.hg; omega), h.hg, h.box.but hs (by have := h.hg; omega), h.res.but hs (by have := h.hg; omega), hr⟩
def la2 (k s : Int) : List Value := [.int .u8 (k % 256), .int .u8 (s % 256), .int .u8 0, .int .u8 0, .int .u8 0, .int .u8 0, .int .u8 0, .int .u8 0, .int .u8 0, .int .u8 0, .int .u8 0, .int .u8 0, .int .u8 0, .int .u8 0, .int .u8 0, .int .u8 0, .int .u8 0, .int .u8 0, .int .u8 0, .int .u8 0, .int .u8 0, .int .u8 0, .int .u8 0, .int .u8 0, .int .u8 0, .int .u8 0]
theorem la2_one (k s : Int) : ∀ v ∈ la2 k s, v.oneCell' = true := by
  intro v hv
  simp [la2] at hv
  rcases hv with rfl | rfl | rfl <;> rfl
theorem la2_laid (k s f t : Int) (z : Nat) : layTo (layTo (layTo (la2 k s) 2 (u64N f) 8) 10 (u64N t) 8) 18 z 8 = (cvB ⟨k, s, f, t, z⟩).map B8 := by
  have e1 : B8 (BitVec.ofInt 8 k) = .int .u8 (k % 256) := by unfold B8; rw [ofInt_mod]
  have e2 : B8 (BitVec.ofInt 8 s) = .int .u8 (s % 256) := by unfold B8; rw [ofInt_mod]
  have e3 : (cvB ⟨k, s, f, t, z⟩).map B8 = B8 (BitVec.ofInt 8 k) :: B8 (BitVec.ofInt 8 s) :: ((le8 (u64N f) ++ le8 (u64N t) ++ le8 z).map B8) := by simp [cvB]
  rw [e3, e1, e2]
  simp [layTo, la2, le8]
set_option maxHeartbeats 1000000 in
theorem laid_any (c : Cv) (hc : c.ok) (w : World) : Calls Tryz.prog 56 #[.agg (cvC c).toArray] w fun e w' => e = .returned (.agg ((cvB c).map B8).toArray) ∧ Below w.heap.size w w' := by
  obtain ⟨k, s, f, t, z⟩ := c
  obtain ⟨W1, hW1⟩ : ∃ W1, W1 = (w.alloc (.cells #[.int .i64 k, .int .i64 s, .int .i64 f, .int .i64 t, .int .u64 (z : Int)] 52)).alloc (.cells z26.toArray 102) := ⟨_, rfl⟩
  have s1 : W1.heap.size = w.heap.size + 2 := by rw [hW1]; simp
  have b1 : Below w.heap.size w W1 := by rw [hW1]; exact ((Below.refl _ _).alloc (Nat.le_refl _) _).alloc (by simp) _
  have r1 : Row W1 w.heap.size 52 (cvC ⟨k, s, f, t, z⟩) := by rw [hW1]; exact (Row.at w 52 (cvC ⟨k, s, f, t, z⟩) _ _ rfl rfl).alloc _
  have r2 : Row W1 (w.heap.size + 1) 102 z26 := by rw [hW1]; exact Row.at _ _ _ _ _ (by simp) rfl
  have HZ : Hid (Row (W1.alloc (.cells z26.toArray 102)) W1.heap.size 102 z26) := Row.at W1 _ _ _ _ rfl rfl
  have H2 : Hid (∀ W2, SameBut W1.heap.size (W1.alloc (.cells z26.toArray 102)) W2 → Row W2 W1.heap.size 102 (la2 k s) → LD w W1.heap.size ⟨k, s, f, t, z⟩ (la2 k s) W2) := fun W2 hs hr => by
    refine ⟨hs.below (b1.alloc (by omega) _) (by omega), by omega, (r1.alloc _).but hs (by omega), (r2.alloc _).but hs (by omega), hr⟩
  have c0 := r1.cell 0 _ rfl
  have c1 := r1.cell 1 _ rfl
  have hu1 : u64N f < 18446744073709551616 := u64N_lt f
  have hu2 : u64N t < 18446744073709551616 := u64N_lt t
  have LA : Hid (∀ (CS : List Value) (off n : Nat) W g cap, LD w g ⟨k, s, f, t, z⟩ CS W → off + 8 ≤ CS.length → n < 18446744073709551616 → ∀ v : Int, v = (n : Int) → Calls Tryz.prog 69 #[.slice (some ⟨g, off, none⟩) 8 cap, .int .u64 v] W fun e w' => e = .returned (.tuple #[]) ∧ LD w g ⟨k, s, f, t, z⟩ (layTo CS off n 8) w') := fun CS off n W g cap hL hl hn v hv => hv ▸ (lay_any g off cap 102 CS n hn W hL.b hl).mono fun e w' h => ⟨h.1, hL.but h.2.2 h.2.1⟩
  show Calls Tryz.prog 56 #[.agg #[.int .i64 k, .int .i64 s, .int .i64 f, .int .i64 t, .int .u64 (z : Int)]] w _
  clear r1 r2 b1 s1
  go_enter Tryz.func56, Tryz.ntmps56
  go_upto_region 2 with (first
    | (have hz := hW1; clear hz; refine wpList_at24 hW1 ?_; clear hW1)
    | (have hz := HZ; clear hz; refine wpList_store_Row rfl 102 _ _ rfl W1.heap.size 102 0 z26 (la2 k s) HZ.out (Nat.le_refl _) rfl rfl (by kernel_rfl) (la2_one k s) ?_; intro w2 hr2 hs2; have HL : Hid (LD w W1.heap.size ⟨k, s, f, t, z⟩ (la2 k s) w2) := H2.out w2 hs2 (row_whole hr2 (by exact Nat.le_refl _)); clear hr2 hs2 HZ H2))
  try dsimp only [Act.put]
  have EU : ∀ x : Int, IntKind.u64.wrap x = ((u64N x : Nat) : Int) := fun x => by rw [wrapU64]; unfold u64N; omega
  have HF : Hid (layTo (layTo (layTo (la2 k s) 2 (u64N f) 8) 10 (u64N t) 8) 18 z 8 = (cvB ⟨k, s, f, t, z⟩).map B8) := la2_laid k s f t z
  obtain ⟨CS1, h1⟩ : ∃ CS, CS = la2 k s := ⟨_, rfl⟩
  obtain ⟨CS2, h2⟩ : ∃ CS, CS = layTo CS1 2 (u64N f) 8 := ⟨_, rfl⟩
  obtain ⟨CS3, h3⟩ : ∃ CS, CS = layTo CS2 10 (u64N t) 8 := ⟨_, rfl⟩
  obtain ⟨CS4, h4⟩ : ∃ CS, CS = layTo CS3 18 z 8 := ⟨_, rfl⟩
  have l1 : CS1.length = 26 := by rw [h1]; rfl
  have l2 : CS2.length = 26 := by rw [h2, layTo_len, l1]
  have l3 : CS3.length = 26 := by rw [h3, layTo_len, l2]
  have L1 : Hid (∀ W, LD w W1.heap.size ⟨k, s, f, t, z⟩ CS1 W → Calls Tryz.prog 69 #[.slice (some ⟨W1.heap.size, 2, none⟩) 8 24, .int .u64 (IntKind.u64.wrap f)] W fun e w' => e = .returned (.tuple #[]) ∧ LD w W1.heap.size ⟨k, s, f, t, z⟩ CS2 w') := fun W h => by rw [h2]; exact LA.out CS1 2 (u64N f) W _ 24 h (by omega) hu1 _ (EU f)
  have L2 : Hid (∀ W, LD w W1.heap.size ⟨k, s, f, t, z⟩ CS2 W → Calls Tryz.prog 69 #[.slice (some ⟨W1.heap.size, 10, none⟩) 8 16, .int .u64 (IntKind.u64.wrap t)] W fun e w' => e = .returned (.tuple #[]) ∧ LD w W1.heap.size ⟨k, s, f, t, z⟩ CS3 w') := fun W h => by rw [h3]; exact LA.out CS2 10 (u64N t) W _ 16 h (by omega) hu2 _ (EU t)
  have L3 : Hid (∀ W, LD w W1.heap.size ⟨k, s, f, t, z⟩ CS3 W → Calls Tryz.prog 69 #[.slice (some ⟨W1.heap.size, 18, none⟩) 8 8, .int .u64 (z : Int)] W fun e w' => e = .returned (.tuple #[]) ∧ LD w W1.heap.size ⟨k, s, f, t, z⟩ CS4 w') := fun W h => by rw [h4]; exact LA.out CS3 18 z W _ 8 h (by omega) hc.2.2.2.2 _ rfl
  rw [← h1, ← h2, ← h3, ← h4] at HF
  rw [← h1] at HL
  have l4 : Hid (CS4.length = 26) := by show _ = _; rw [h4, layTo_len, l3]
  clear c0 c1 hc LA hu1 hu2 EU h1 h2 h3 h4 l1 l2 l3
  have HO : Hid (∀ v ∈ (cvB ⟨k, s, f, t, z⟩).map B8, v.oneCell' = true) := B8_one _
  generalize hcv : (⟨k, s, f, t, z⟩ : Cv) = cv at *
  have C2 : Hid (∀ CS W, LD w W1.heap.size cv CS W → W.cell? ⟨w.heap.size, 2, none⟩ = some (.int .i64 f)) := fun CS W h => by have := h.box.cell 2 _ rfl; rw [← hcv] at this; exact this
  have C3 : Hid (∀ CS W, LD w W1.heap.size cv CS W → W.cell? ⟨w.heap.size, 3, none⟩ = some (.int .i64 t)) := fun CS W h => by have := h.box.cell 3 _ rfl; rw [← hcv] at this; exact this
  have C4 : Hid (∀ CS W, LD w W1.heap.size cv CS W → W.cell? ⟨w.heap.size, 4, none⟩ = some (.int .u64 (z : Int))) := fun CS W h => by have := h.box.cell 4 _ rfl; rw [← hcv] at this; exact this
  have HCV : Hid ((⟨k, s, f, t, z⟩ : Cv) = cv) := hcv
  clear hcv
  generalize W1.heap.size = g at *
  have c2 := C2.out _ _ HL.out
  go_region_with (go_at_call 69; refine (L1.out _ HL.out.drew).mono ?_; rintro e w3 ⟨rfl, h3⟩; have HL3 : Hid (LD w g cv CS2 w3) := h3; clear h3)
  clear c2 HL L1
  have c3 := C3.out _ _ HL3.out
  go_wp2
  go_region_with (go_at_call 69; refine (L2.out _ HL3.out.drew).mono ?_; rintro e w4 ⟨rfl, h4⟩; have HL4 : Hid (LD w g cv CS3 w4) := h4; clear h4)
  clear c3 HL3 L2
  have c4 := C4.out _ _ HL4.out
  go_wp2
  go_region_with (go_at_call 69; refine (L3.out _ HL4.out.drew).mono ?_; rintro e w5 ⟨rfl, h5⟩; have HL5 : Hid (LD w g cv CS4 w5) := h5; clear h5)
  clear c4 HL4 L3
  go_wp2_with (first
    | (have hz := HL5; clear hz; refine wpList_load_Row rfl 102 (.tmp 3) rfl g 102 CS4 HL5.out.b rfl _ Tryz.underlying102 rfl (by rw [l4.out]; kernel_rfl) ?_)
    | (have hz := HL5; clear hz; refine wpList_store_Row rfl 102 (.tmp 2) _ rfl (w.heap.size + 1) 102 0 z26 CS4 HL5.out.res (by rw [l4.out]; exact Nat.le_refl _) rfl rfl (by rw [l4.out]; kernel_rfl) (by rw [HF.out]; exact HO.out) ?_; intro w6 hr6 hs6; have q6 := row_whole hr6 (by rw [l4.out]; exact Nat.le_refl _); have HB6 : Hid (Below w.heap.size w w6) := hs6.below HL5.out.bel (by omega); clear HL5 hr6 hs6))
  refine bodyPost_ret_by (results_Row Tryz.results56 _ w6 (w.heap.size + 1) 102 CS4 _ rfl q6 Tryz.underlying102 rfl (by rw [l4.out]; kernel_rfl)) rfl ?_
  exact ⟨by rw [HF.out, HCV.out], HB6.out⟩
set_option maxHeartbeats 1000000 in
theorem bytesOf1_any (s : Int) (hc : (⟨1, s, 0, 0, 0⟩ : Cv).ok) (w : World) : Calls Tryz.prog 41 #[.iface 116 (.agg #[.int .i64 s])] w fun e w' => e = .returned (.agg ((cvB ⟨1, s, 0, 0, 0⟩).map B8).toArray) ∧ Below w.heap.size w w' := by
  obtain ⟨W1, hW1⟩ : ∃ W1, W1 = w.alloc (.cells z26.toArray 102) := ⟨_, rfl⟩
  have r1 : Row W1 w.heap.size 102 z26 := by rw [hW1]; exact Row.at w _ _ _ _ rfl rfl
  have b1 : Below w.heap.size w W1 := by rw [hW1]; exact (Below.refl _ _).alloc (Nat.le_refl _) _
  obtain ⟨W2, hW2⟩ : ∃ W2, W2 = W1.alloc (.cells #[.int .i64 s] 116) := ⟨_, rfl⟩
  have r2 : Row W2 W1.heap.size 116 [.int .i64 s] := by rw [hW2]; exact Row.at W1 _ _ _ _ rfl rfl
  have b2 : Below W1.heap.size W1 W2 := by rw [hW2]; exact (Below.refl _ _).alloc (Nat.le_refl _) _
  have TA1 : ∀ W, Sem.run Tryz.prog (Instr.typeAssert (.iface 116 (.agg #[.int .i64 s])) 91 116 true) W = .ok (.tuple #[.agg #[.int .i64 s], .bool true]) W := fun W => by kernel_rfl
  have FL : Hid (∀ W, Calls Tryz.prog 56 #[.agg #[.int .i64 1, .int .i64 s, .int .i64 0, .int .i64 0, .int .u64 0]] W fun e w' => e = .returned (.agg ((cvB ⟨1, s, 0, 0, 0⟩).map B8).toArray) ∧ Below W.heap.size W w') := fun W => laid_any ⟨1, s, 0, 0, 0⟩ hc W
  have HO : Hid (∀ v ∈ (cvB ⟨1, s, 0, 0, 0⟩).map B8, v.oneCell' = true) := B8_one _
  have l4 : Hid (((cvB ⟨1, s, 0, 0, 0⟩).map B8).length = 26) := by show _ = _; rw [List.length_map, cvB_len]
  have HP : Hid (∀ W, Below W2.heap.size W2 W → Below w.heap.size w W ∧ Row W w.heap.size 102 z26) := fun W h => by
    have h1 : Below W1.heap.size W1 W := b2.trans (h.mono b2.size)
    exact ⟨b1.trans (h1.mono b1.size), r1.below h1 r1.lt⟩
  have c0 := r2.cell 0 _ rfl
  clear r1 r2 b1 b2 hc
  generalize (cvB ⟨1, s, 0, 0, 0⟩).map B8 = CB at *
  go_enter Tryz.func41, Tryz.ntmps41
  go_wp2_with (first
    | (have hz := hW1; clear hz; refine wpList_at24 hW1 ?_; clear hW1)
    | (have hz := hW2; clear hz; refine wpList_at24 hW2 ?_; clear hW2)
    | (go_at_call 56; refine (FL.out _).mono ?_; rintro e w3 ⟨rfl, hb3⟩; have H3 : Hid (Below w.heap.size w w3 ∧ Row w3 w.heap.size 102 z26) := HP.out w3 hb3; clear hb3 FL)
    | (have hz := H3; clear hz; refine wpList_store_Row rfl 102 (.tmp 2) _ rfl w.heap.size 102 0 z26 CB H3.out.2 (by rw [l4.out]; exact Nat.le_refl _) rfl rfl (by rw [l4.out]; kernel_rfl) HO.out ?_; intro w6 hr6 hs6; have q6 := row_whole hr6 (by rw [l4.out]; exact Nat.le_refl _); have HB6 : Hid (Below w.heap.size w w6) := hs6.below H3.out.1 (Nat.le_refl _); clear H3 hr6 hs6))
  refine bodyPost_ret_by (results_Row Tryz.results41 _ w6 w.heap.size 102 CB _ rfl q6 Tryz.underlying102 rfl (by rw [l4.out]; kernel_rfl)) rfl ?_
  exact ⟨rfl, HB6.out⟩
set_option maxHeartbeats 1000000 in
theorem bytesOf2_any (f : Int) (t : Int) (hc : (⟨2, 0, f, t, 0⟩ : Cv).ok) (w : World) : Calls Tryz.prog 41 #[.iface 118 (.agg #[.int .i64 f, .int .i64 t])] w fun e w' => e = .returned (.agg ((cvB ⟨2, 0, f, t, 0⟩).map B8).toArray) ∧ Below w.heap.size w w' := by
  obtain ⟨W1, hW1⟩ : ∃ W1, W1 = w.alloc (.cells z26.toArray 102) := ⟨_, rfl⟩
  have r1 : Row W1 w.heap.size 102 z26 := by rw [hW1]; exact Row.at w _ _ _ _ rfl rfl
  have b1 : Below w.heap.size w W1 := by rw [hW1]; exact (Below.refl _ _).alloc (Nat.le_refl _) _
  obtain ⟨W2, hW2⟩ : ∃ W2, W2 = W1.alloc (.cells #[.int .i64 f, .int .i64 t] 118) := ⟨_, rfl⟩
  have r2 : Row W2 W1.heap.size 118 [.int .i64 f, .int .i64 t] := by rw [hW2]; exact Row.at W1 _ _ _ _ rfl rfl
  have b2 : Below W1.heap.size W1 W2 := by rw [hW2]; exact (Below.refl _ _).alloc (Nat.le_refl _) _
  have TA1 : ∀ W, Sem.run Tryz.prog (Instr.typeAssert (.iface 118 (.agg #[.int .i64 f, .int .i64 t])) 91 116 true) W = .ok (.tuple #[.agg #[.int .i64 0], .bool false]) W := fun W => by kernel_rfl
  have TA2 : ∀ W, Sem.run Tryz.prog (Instr.typeAssert (.iface 118 (.agg #[.int .i64 f, .int .i64 t])) 91 118 true) W = .ok (.tuple #[.agg #[.int .i64 f, .int .i64 t], .bool true]) W := fun W => by kernel_rfl
  have FL : Hid (∀ W, Calls Tryz.prog 56 #[.agg #[.int .i64 2, .int .i64 0, .int .i64 f, .int .i64 t, .int .u64 0]] W fun e w' => e = .returned (.agg ((cvB ⟨2, 0, f, t, 0⟩).map B8).toArray) ∧ Below W.heap.size W w') := fun W => laid_any ⟨2, 0, f, t, 0⟩ hc W
  have HO : Hid (∀ v ∈ (cvB ⟨2, 0, f, t, 0⟩).map B8, v.oneCell' = true) := B8_one _
  have l4 : Hid (((cvB ⟨2, 0, f, t, 0⟩).map B8).length = 26) := by show _ = _; rw [List.length_map, cvB_len]
  have HP : Hid (∀ W, Below W2.heap.size W2 W → Below w.heap.size w W ∧ Row W w.heap.size 102 z26) := fun W h => by
    have h1 : Below W1.heap.size W1 W := b2.trans (h.mono b2.size)
    exact ⟨b1.trans (h1.mono b1.size), r1.below h1 r1.lt⟩
  have c0 := r2.cell 0 _ rfl
  have c1 := r2.cell 1 _ rfl
  clear r1 r2 b1 b2 hc
  generalize (cvB ⟨2, 0, f, t, 0⟩).map B8 = CB at *
  go_enter Tryz.func41, Tryz.ntmps41
  go_wp2_with (first
    | (have hz := hW1; clear hz; refine wpList_at24 hW1 ?_; clear hW1)
    | (have hz := hW2; clear hz; refine wpList_at24 hW2 ?_; clear hW2)
    | (go_at_call 56; refine (FL.out _).mono ?_; rintro e w3 ⟨rfl, hb3⟩; have H3 : Hid (Below w.heap.size w w3 ∧ Row w3 w.heap.size 102 z26) := HP.out w3 hb3; clear hb3 FL)
    | (have hz := H3; clear hz; refine wpList_store_Row rfl 102 (.tmp 2) _ rfl w.heap.size 102 0 z26 CB H3.out.2 (by rw [l4.out]; exact Nat.le_refl _) rfl rfl (by rw [l4.out]; kernel_rfl) HO.out ?_; intro w6 hr6 hs6; have q6 := row_whole hr6 (by rw [l4.out]; exact Nat.le_refl _); have HB6 : Hid (Below w.heap.size w w6) := hs6.below H3.out.1 (Nat.le_refl _); clear H3 hr6 hs6))
  refine bodyPost_ret_by (results_Row Tryz.results41 _ w6 w.heap.size 102 CB _ rfl q6 Tryz.underlying102 rfl (by rw [l4.out]; kernel_rfl)) rfl ?_
  exact ⟨rfl, HB6.out⟩
set_option maxHeartbeats 1000000 in
theorem bytesOf3_any (z : Nat) (hc : (⟨3, 0, 0, 0, z⟩ : Cv).ok) (w : World) : Calls Tryz.prog 41 #[.iface 120 (.agg #[.int .u64 (z : Int)])] w fun e w' => e = .returned (.agg ((cvB ⟨3, 0, 0, 0, z⟩).map B8).toArray) ∧ Below w.heap.size w w' := by
  obtain ⟨W1, hW1⟩ : ∃ W1, W1 = w.alloc (.cells z26.toArray 102) := ⟨_, rfl⟩
  have r1 : Row W1 w.heap.size 102 z26 := by rw [hW1]; exact Row.at w _ _ _ _ rfl rfl
  have b1 : Below w.heap.size w W1 := by rw [hW1]; exact (Below.refl _ _).alloc (Nat.le_refl _) _
  obtain ⟨W2, hW2⟩ : ∃ W2, W2 = W1.alloc (.cells #[.int .u64 (z : Int)] 120) := ⟨_, rfl⟩
  have r2 : Row W2 W1.heap.size 120 [.int .u64 (z : Int)] := by rw [hW2]; exact Row.at W1 _ _ _ _ rfl rfl
  have b2 : Below W1.heap.size W1 W2 := by rw [hW2]; exact (Below.refl _ _).alloc (Nat.le_refl _) _
  have TA1 : ∀ W, Sem.run Tryz.prog (Instr.typeAssert (.iface 120 (.agg #[.int .u64 (z : Int)])) 91 116 true) W = .ok (.tuple #[.agg #[.int .i64 0], .bool false]) W := fun W => by kernel_rfl
  have TA2 : ∀ W, Sem.run Tryz.prog (Instr.typeAssert (.iface 120 (.agg #[.int .u64 (z : Int)])) 91 118 true) W = .ok (.tuple #[.agg #[.int .i64 0, .int .i64 0], .bool false]) W := fun W => by kernel_rfl
  have TA3 : ∀ W, Sem.run Tryz.prog (Instr.typeAssert (.iface 120 (.agg #[.int .u64 (z : Int)])) 91 120 true) W = .ok (.tuple #[.agg #[.int .u64 (z : Int)], .bool true]) W := fun W => by kernel_rfl
  have FL : Hid (∀ W, Calls Tryz.prog 56 #[.agg #[.int .i64 3, .int .i64 0, .int .i64 0, .int .i64 0, .int .u64 (z : Int)]] W fun e w' => e = .returned (.agg ((cvB ⟨3, 0, 0, 0, z⟩).map B8).toArray) ∧ Below W.heap.size W w') := fun W => laid_any ⟨3, 0, 0, 0, z⟩ hc W
  have HO : Hid (∀ v ∈ (cvB ⟨3, 0, 0, 0, z⟩).map B8, v.oneCell' = true) := B8_one _
  have l4 : Hid (((cvB ⟨3, 0, 0, 0, z⟩).map B8).length = 26) := by show _ = _; rw [List.length_map, cvB_len]
  have HP : Hid (∀ W, Below W2.heap.size W2 W → Below w.heap.size w W ∧ Row W w.heap.size 102 z26) := fun W h => by
    have h1 : Below W1.heap.size W1 W := b2.trans (h.mono b2.size)
    exact ⟨b1.trans (h1.mono b1.size), r1.below h1 r1.lt⟩
  have c0 := r2.cell 0 _ rfl
  clear r1 r2 b1 b2 hc
  generalize (cvB ⟨3, 0, 0, 0, z⟩).map B8 = CB at *
  go_enter Tryz.func41, Tryz.ntmps41
  go_wp2_with (first
    | (have hz := hW1; clear hz; refine wpList_at24 hW1 ?_; clear hW1)
    | (have hz := hW2; clear hz; refine wpList_at24 hW2 ?_; clear hW2)
    | (go_at_call 56; refine (FL.out _).mono ?_; rintro e w3 ⟨rfl, hb3⟩; have H3 : Hid (Below w.heap.size w w3 ∧ Row w3 w.heap.size 102 z26) := HP.out w3 hb3; clear hb3 FL)
    | (have hz := H3; clear hz; refine wpList_store_Row rfl 102 (.tmp 2) _ rfl w.heap.size 102 0 z26 CB H3.out.2 (by rw [l4.out]; exact Nat.le_refl _) rfl rfl (by rw [l4.out]; kernel_rfl) HO.out ?_; intro w6 hr6 hs6; have q6 := row_whole hr6 (by rw [l4.out]; exact Nat.le_refl _); have HB6 : Hid (Below w.heap.size w w6) := hs6.below H3.out.1 (Nat.le_refl _); clear H3 hr6 hs6))
  refine bodyPost_ret_by (results_Row Tryz.results41 _ w6 w.heap.size 102 CB _ rfl q6 Tryz.underlying102 rfl (by rw [l4.out]; kernel_rfl)) rfl ?_
  exact ⟨rfl, HB6.out⟩
set_option maxHeartbeats 1000000 in
theorem bytesOf4_any (s : Int) (f : Int) (hc : (⟨4, s, f, 0, 0⟩ : Cv).ok) (w : World) : Calls Tryz.prog 41 #[.iface 122 (.agg #[.int .i64 s, .int .i64 f])] w fun e w' => e = .returned (.agg ((cvB ⟨4, s, f, 0, 0⟩).map B8).toArray) ∧ Below w.heap.size w w' := by
  obtain ⟨W1, hW1⟩ : ∃ W1, W1 = w.alloc (.cells z26.toArray 102) := ⟨_, rfl⟩
  have r1 : Row W1 w.heap.size 102 z26 := by rw [hW1]; exact Row.at w _ _ _ _ rfl rfl
  have b1 : Below w.heap.size w W1 := by rw [hW1]; exact (Below.refl _ _).alloc (Nat.le_refl _) _
  obtain ⟨W2, hW2⟩ : ∃ W2, W2 = W1.alloc (.cells #[.int .i64 s, .int .i64 f] 122) := ⟨_, rfl⟩
  have r2 : Row W2 W1.heap.size 122 [.int .i64 s, .int .i64 f] := by rw [hW2]; exact Row.at W1 _ _ _ _ rfl rfl
  have b2 : Below W1.heap.size W1 W2 := by rw [hW2]; exact (Below.refl _ _).alloc (Nat.le_refl _) _
  have TA1 : ∀ W, Sem.run Tryz.prog (Instr.typeAssert (.iface 122 (.agg #[.int .i64 s, .int .i64 f])) 91 116 true) W = .ok (.tuple #[.agg #[.int .i64 0], .bool false]) W := fun W => by kernel_rfl
  have TA2 : ∀ W, Sem.run Tryz.prog (Instr.typeAssert (.iface 122 (.agg #[.int .i64 s, .int .i64 f])) 91 118 true) W = .ok (.tuple #[.agg #[.int .i64 0, .int .i64 0], .bool false]) W := fun W => by kernel_rfl
  have TA3 : ∀ W, Sem.run Tryz.prog (Instr.typeAssert (.iface 122 (.agg #[.int .i64 s, .int .i64 f])) 91 120 true) W = .ok (.tuple #[.agg #[.int .u64 0], .bool false]) W := fun W => by kernel_rfl
  have TA4 : ∀ W, Sem.run Tryz.prog (Instr.typeAssert (.iface 122 (.agg #[.int .i64 s, .int .i64 f])) 91 122 true) W = .ok (.tuple #[.agg #[.int .i64 s, .int .i64 f], .bool true]) W := fun W => by kernel_rfl
  have FL : Hid (∀ W, Calls Tryz.prog 56 #[.agg #[.int .i64 4, .int .i64 s, .int .i64 f, .int .i64 0, .int .u64 0]] W fun e w' => e = .returned (.agg ((cvB ⟨4, s, f, 0, 0⟩).map B8).toArray) ∧ Below W.heap.size W w') := fun W => laid_any ⟨4, s, f, 0, 0⟩ hc W
  have HO : Hid (∀ v ∈ (cvB ⟨4, s, f, 0, 0⟩).map B8, v.oneCell' = true) := B8_one _
  have l4 : Hid (((cvB ⟨4, s, f, 0, 0⟩).map B8).length = 26) := by show _ = _; rw [List.length_map, cvB_len]
  have HP : Hid (∀ W, Below W2.heap.size W2 W → Below w.heap.size w W ∧ Row W w.heap.size 102 z26) := fun W h => by
    have h1 : Below W1.heap.size W1 W := b2.trans (h.mono b2.size)
    exact ⟨b1.trans (h1.mono b1.size), r1.below h1 r1.lt⟩
  have c0 := r2.cell 0 _ rfl
  have c1 := r2.cell 1 _ rfl
  clear r1 r2 b1 b2 hc
  generalize (cvB ⟨4, s, f, 0, 0⟩).map B8 = CB at *
  go_enter Tryz.func41, Tryz.ntmps41
  go_wp2_with (first
    | (have hz := hW1; clear hz; refine wpList_at24 hW1 ?_; clear hW1)
    | (have hz := hW2; clear hz; refine wpList_at24 hW2 ?_; clear hW2)
    | (go_at_call 56; refine (FL.out _).mono ?_; rintro e w3 ⟨rfl, hb3⟩; have H3 : Hid (Below w.heap.size w w3 ∧ Row w3 w.heap.size 102 z26) := HP.out w3 hb3; clear hb3 FL)
    | (have hz := H3; clear hz; refine wpList_store_Row rfl 102 (.tmp 2) _ rfl w.heap.size 102 0 z26 CB H3.out.2 (by rw [l4.out]; exact Nat.le_refl _) rfl rfl (by rw [l4.out]; kernel_rfl) HO.out ?_; intro w6 hr6 hs6; have q6 := row_whole hr6 (by rw [l4.out]; exact Nat.le_refl _); have HB6 : Hid (Below w.heap.size w w6) := hs6.below H3.out.1 (Nat.le_refl _); clear H3 hr6 hs6))
  refine bodyPost_ret_by (results_Row Tryz.results41 _ w6 w.heap.size 102 CB _ rfl q6 Tryz.underlying102 rfl (by rw [l4.out]; kernel_rfl)) rfl ?_
  exact ⟨rfl, HB6.out⟩
set_option maxHeartbeats 1000000 in
theorem bytesOf5_any (s : Int) (t : Int) (hc : (⟨5, s, 0, t, 0⟩ : Cv).ok) (w : World) : Calls Tryz.prog 41 #[.iface 124 (.agg #[.int .i64 s, .int .i64 t])] w fun e w' => e = .returned (.agg ((cvB ⟨5, s, 0, t, 0⟩).map B8).toArray) ∧ Below w.heap.size w w' := by
  obtain ⟨W1, hW1⟩ : ∃ W1, W1 = w.alloc (.cells z26.toArray 102) := ⟨_, rfl⟩
  have r1 : Row W1 w.heap.size 102 z26 := by rw [hW1]; exact Row.at w _ _ _ _ rfl rfl
  have b1 : Below w.heap.size w W1 := by rw [hW1]; exact (Below.refl _ _).alloc (Nat.le_refl _) _
  obtain ⟨W2, hW2⟩ : ∃ W2, W2 = W1.alloc (.cells #[.int .i64 s, .int .i64 t] 124) := ⟨_, rfl⟩
  have r2 : Row W2 W1.heap.size 124 [.int .i64 s, .int .i64 t] := by rw [hW2]; exact Row.at W1 _ _ _ _ rfl rfl
  have b2 : Below W1.heap.size W1 W2 := by rw [hW2]; exact (Below.refl _ _).alloc (Nat.le_refl _) _
  have TA1 : ∀ W, Sem.run Tryz.prog (Instr.typeAssert (.iface 124 (.agg #[.int .i64 s, .int .i64 t])) 91 116 true) W = .ok (.tuple #[.agg #[.int .i64 0], .bool false]) W := fun W => by kernel_rfl
  have TA2 : ∀ W, Sem.run Tryz.prog (Instr.typeAssert (.iface 124 (.agg #[.int .i64 s, .int .i64 t])) 91 118 true) W = .ok (.tuple #[.agg #[.int .i64 0, .int .i64 0], .bool false]) W := fun W => by kernel_rfl
  have TA3 : ∀ W, Sem.run Tryz.prog (Instr.typeAssert (.iface 124 (.agg #[.int .i64 s, .int .i64 t])) 91 120 true) W = .ok (.tuple #[.agg #[.int .u64 0], .bool false]) W := fun W => by kernel_rfl
  have TA4 : ∀ W, Sem.run Tryz.prog (Instr.typeAssert (.iface 124 (.agg #[.int .i64 s, .int .i64 t])) 91 122 true) W = .ok (.tuple #[.agg #[.int .i64 0, .int .i64 0], .bool false]) W := fun W => by kernel_rfl
  have TA5 : ∀ W, Sem.run Tryz.prog (Instr.typeAssert (.iface 124 (.agg #[.int .i64 s, .int .i64 t])) 91 124 true) W = .ok (.tuple #[.agg #[.int .i64 s, .int .i64 t], .bool true]) W := fun W => by kernel_rfl
  have FL : Hid (∀ W, Calls Tryz.prog 56 #[.agg #[.int .i64 5, .int .i64 s, .int .i64 0, .int .i64 t, .int .u64 0]] W fun e w' => e = .returned (.agg ((cvB ⟨5, s, 0, t, 0⟩).map B8).toArray) ∧ Below W.heap.size W w') := fun W => laid_any ⟨5, s, 0, t, 0⟩ hc W
  have HO : Hid (∀ v ∈ (cvB ⟨5, s, 0, t, 0⟩).map B8, v.oneCell' = true) := B8_one _
  have l4 : Hid (((cvB ⟨5, s, 0, t, 0⟩).map B8).length = 26) := by show _ = _; rw [List.length_map, cvB_len]
  have HP : Hid (∀ W, Below W2.heap.size W2 W → Below w.heap.size w W ∧ Row W w.heap.size 102 z26) := fun W h => by
    have h1 : Below W1.heap.size W1 W := b2.trans (h.mono b2.size)
    exact ⟨b1.trans (h1.mono b1.size), r1.below h1 r1.lt⟩
  have c0 := r2.cell 0 _ rfl
  have c1 := r2.cell 1 _ rfl
  clear r1 r2 b1 b2 hc
  generalize (cvB ⟨5, s, 0, t, 0⟩).map B8 = CB at *
  go_enter Tryz.func41, Tryz.ntmps41
  go_wp2_with (first
    | (have hz := hW1; clear hz; refine wpList_at24 hW1 ?_; clear hW1)
    | (have hz := hW2; clear hz; refine wpList_at24 hW2 ?_; clear hW2)
    | (go_at_call 56; refine (FL.out _).mono ?_; rintro e w3 ⟨rfl, hb3⟩; have H3 : Hid (Below w.heap.size w w3 ∧ Row w3 w.heap.size 102 z26) := HP.out w3 hb3; clear hb3 FL)
    | (have hz := H3; clear hz; refine wpList_store_Row rfl 102 (.tmp 2) _ rfl w.heap.size 102 0 z26 CB H3.out.2 (by rw [l4.out]; exact Nat.le_refl _) rfl rfl (by rw [l4.out]; kernel_rfl) HO.out ?_; intro w6 hr6 hs6; have q6 := row_whole hr6 (by rw [l4.out]; exact Nat.le_refl _); have HB6 : Hid (Below w.heap.size w w6) := hs6.below H3.out.1 (Nat.le_refl _); clear H3 hr6 hs6))
  refine bodyPost_ret_by (results_Row Tryz.results41 _ w6 w.heap.size 102 CB _ rfl q6 Tryz.underlying102 rfl (by rw [l4.out]; kernel_rfl)) rfl ?_
  exact ⟨rfl, HB6.out⟩
theorem bytesOf_any (c : Cv) (hc : c.ok) (hm : cvMay c = true) (w : World) : Calls Tryz.prog 41 #[dmV c] w fun e w' => e = .returned (.agg ((cvB c).map B8).toArray) ∧ Below w.heap.size w w' := by
  obtain ⟨h1, h5⟩ := (cvMay_in hm).1
  obtain ⟨r, hr, hd⟩ := cvMay_dm c h1 h5
  rw [hm] at hd
  have he : c = onlyC c := hr.1 (by cases r; exact absurd hd (by simp); rfl)
  obtain ⟨k, s, f, t, z⟩ := c
  dsimp only at h1 h5
  have hk : k = 1 ∨ k = 2 ∨ k = 3 ∨ k = 4 ∨ k = 5 := by omega
  rcases hk with rfl | rfl | rfl | rfl | rfl
  · have he2 : (⟨1, s, f, t, z⟩ : Cv) = ⟨1, s, 0, 0, 0⟩ := he
    rw [he2] at hc ⊢
    exact bytesOf1_any s hc w
  · have he2 : (⟨2, s, f, t, z⟩ : Cv) = ⟨2, 0, f, t, 0⟩ := he
    rw [he2] at hc ⊢
    exact bytesOf2_any f t hc w
  · have he2 : (⟨3, s, f, t, z⟩ : Cv) = ⟨3, 0, 0, 0, z⟩ := he
    rw [he2] at hc ⊢
    exact bytesOf3_any z hc w
  · have he2 : (⟨4, s, f, t, z⟩ : Cv) = ⟨4, s, f, 0, 0⟩ := he
    rw [he2] at hc ⊢
    exact bytesOf4_any s f hc w
  · have he2 : (⟨5, s, f, t, z⟩ : Cv) = ⟨5, s, 0, t, 0⟩ := he
    rw [he2] at hc ⊢
    exact bytesOf5_any s t hc w
end Go.Proofs.YtjooabgjkjnhhaaGreatDoor
