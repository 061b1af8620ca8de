
import Derived.Test.YtjooabgjkjnhhaaDoorV24C
import Derived.Test.YtjooabgjkjnhhaaDoorT24J
/-! The code's token: what a caveat asks. -/
namespace Go.Proofs.YtjooabgjkjnhhaaDoor
open Go.RowKit
set_option linter.unusedVariables false
set_option linter.unusedSimpArgs false
set_option maxRecDepth 100000

theorem cvD_key (c : Cv) (h : c.ok) : Tryd.prog.keyLits 2 64 (cvC c) = some (cvL c) := by
  obtain ⟨h1, h2, h3, h4, h5⟩ := h
  unfold Program.keyLits
  simp only [Tryd.underlying64]
  rw [if_pos ⟨by kernel_rfl, by kernel_rfl⟩]
  have k1 := ckey_int h1 0
  have k2 := ckey_int h2 0
  have k3 := ckey_int64 h3 0
  have k4 := ckey_int64 h4 0
  have k5 := ckey_u64 h5 0
  have f1 : Tryd.prog.keyLits 1 3 (((cvC c).drop 0).take (Tryd.prog.cellsOf 3)) = some [.int .i64 c.k] := by rw [show Tryd.prog.cellsOf 3 = 1 by kernel_rfl]; exact k1
  have f2 : Tryd.prog.keyLits 1 3 (((cvC c).drop 1).take (Tryd.prog.cellsOf 3)) = some [.int .i64 c.s] := by rw [show Tryd.prog.cellsOf 3 = 1 by kernel_rfl]; exact k2
  have f3 : Tryd.prog.keyLits 1 2 (((cvC c).drop 2).take (Tryd.prog.cellsOf 2)) = some [.int .i64 c.f] := by rw [show Tryd.prog.cellsOf 2 = 1 by kernel_rfl]; exact k3
  have f4 : Tryd.prog.keyLits 1 2 (((cvC c).drop 3).take (Tryd.prog.cellsOf 2)) = some [.int .i64 c.t] := by rw [show Tryd.prog.cellsOf 2 = 1 by kernel_rfl]; exact k4
  have f5 : Tryd.prog.keyLits 1 62 (((cvC c).drop 4).take (Tryd.prog.cellsOf 62)) = some [.int .u64 (c.z : Int)] := by rw [show Tryd.prog.cellsOf 62 = 1 by kernel_rfl]; exact k5
  simp only [List.mapM_cons, List.mapM_nil, f1, f2, f3, f4, f5, Option.pure_def, Option.bind_eq_bind, Option.bind_some, Option.map_some]
  simp [cvL]
theorem eqD_any (c d : Cv) (hc : c.ok) (hd : d.ok) (r : Bool) (hr0 : r = true ↔ c = d) (w : World) : (Op.equalIn 10000 64 (.agg (cvC c).toArray) (.agg (cvC d).toArray)).run Tryd.prog w = .ok r w := by
  have hf : ∀ c : Cv, (Value.agg (cvC c).toArray).formed Tryd.prog 64 = true := fun c => by
    simp [Value.formed, Tryd.underlying64, show Tryd.prog.cellsOf 64 = 5 by kernel_rfl, cvC]
  have hk : ∀ c : Cv, c.ok → Tryd.prog.keyLits 2 64 (Value.agg (cvC c).toArray).cells.toList = some (cvL c) := fun c h => by simpa [Value.cells] using cvD_key c h
  obtain ⟨q, hr, hiff⟩ := run_equalIn_deep (P := Tryd.prog) 9998 2 64 (by kernel_rfl) w 2 2 _ _ _ _ (hf c) (hf d) (hk c hc) (hk d hd)
  rw [hr]
  congr 1
  rw [Bool.eq_iff_iff, hiff, hr0]
  exact ⟨cvL_inj, fun h => by rw [h]⟩
theorem ok5 {k s f t : Int} {z : Nat} (h1 : -9223372036854775808 ≤ k ∧ k < 9223372036854775808) (h2 : -9223372036854775808 ≤ s ∧ s < 9223372036854775808) (h3 : -9223372036854775808 ≤ f ∧ f < 9223372036854775808) (h4 : -9223372036854775808 ≤ t ∧ t < 9223372036854775808) (h5 : z < 18446744073709551616) : (⟨k, s, f, t, z⟩ : Cv).ok := ⟨h1, h2, h3, h4, h5⟩
theorem zok : -9223372036854775808 ≤ (0 : Int) ∧ (0 : Int) < 9223372036854775808 := by omega
set_option maxHeartbeats 1000000 in
theorem dem1_any (s f t : Int) (z : Nat) (hc : (⟨1, s, f, t, z⟩ : Cv).ok) (w : World) : Calls Tryd.prog 28 #[.agg #[.int .i64 1, .int .i64 s, .int .i64 f, .int .i64 t, .int .u64 (z : Int)]] w (fun e w' => e = .returned (.tuple #[if cvMay ⟨1, s, f, t, z⟩ = true then .iface 97 (.agg #[.int .i64 s]) else .nilIface, .bool (cvMay ⟨1, s, f, t, z⟩)]) ∧ Below w.heap.size w w') := by
  obtain ⟨r, hr, hm⟩ := cvMay_dm ⟨1, s, f, t, z⟩ (by show (1 : Int) ≤ 1; omega) (by show (1 : Int) ≤ 5; omega)
  have EQ : ∀ W, (Op.equalIn 10000 64 (.agg #[.int .i64 1, .int .i64 s, .int .i64 f, .int .i64 t, .int .u64 (z : Int)]) (.agg #[.int .i64 1, .int .i64 s, .int .i64 0, .int .i64 0, .int .u64 0])).run Tryd.prog W = .ok r W := fun W => eqD_any ⟨1, s, f, t, z⟩ ⟨1, s, 0, 0, 0⟩ hc (ok5 hc.1 hc.2.1 zok zok (by omega)) r hr W
  have ME : ∀ W, Sem.run Tryd.prog (method 323 97 (.agg #[.int .i64 s]) "portcullis/token.may") W = .ok (91, .agg #[.int .i64 s]) W := fun W => by kernel_rfl
  obtain ⟨q, hq⟩ : ∃ q, q = dmMay ⟨1, s, f, t, z⟩ := ⟨_, rfl⟩
  rw [← hq] at hm
  have FC : Hid (∀ W, Calls Tryd.prog 91 #[.agg #[.int .i64 s]] W fun e w' => e = .returned (.bool q) ∧ Below W.heap.size W w') := fun W => by rw [hq]; exact slMay_any s W
  rw [hm]
  clear hm hq hr hc
  have HB : Hid (∀ W a b, ((w.alloc a).alloc b).drew = W → Below w.heap.size w W) := fun W a b h => by rw [← h]; exact (((Below.refl _ _).alloc (Nat.le_refl _) _).alloc (by simp) _).drew
  have HC : Hid (∀ W a b, Below ((w.alloc a).alloc b).drew.heap.size ((w.alloc a).alloc b).drew W → Below w.heap.size w W) := fun W a b h => (HB.out _ a b rfl).trans (h.mono (HB.out _ a b rfl).size)
  go_enter Tryd.func28, Tryd.ntmps28
  go_wp2
  go_region
  cases r
  · go_wp2
    go_ret2
    exact ⟨rfl, HB.out _ _ _ rfl⟩
  · cases q
    all_goals
      go_wp2_with (go_at_call 91; refine (FC.out _).mono ?_; rintro e w2 ⟨rfl, hb2⟩; have HF : Hid (Below w.heap.size w w2) := HC.out _ _ _ hb2; clear hb2)
      go_ret2
      exact ⟨rfl, HF.out⟩
set_option maxHeartbeats 1000000 in
theorem dem2_any (s f t : Int) (z : Nat) (hc : (⟨2, s, f, t, z⟩ : Cv).ok) (w : World) : Calls Tryd.prog 28 #[.agg #[.int .i64 2, .int .i64 s, .int .i64 f, .int .i64 t, .int .u64 (z : Int)]] w (fun e w' => e = .returned (.tuple #[if cvMay ⟨2, s, f, t, z⟩ = true then .iface 100 (.agg #[.int .i64 f, .int .i64 t]) else .nilIface, .bool (cvMay ⟨2, s, f, t, z⟩)]) ∧ Below w.heap.size w w') := by
  obtain ⟨r, hr, hm⟩ := cvMay_dm ⟨2, s, f, t, z⟩ (by show (1 : Int) ≤ 2; omega) (by show (2 : Int) ≤ 5; omega)
  have EQ : ∀ W, (Op.equalIn 10000 64 (.agg #[.int .i64 2, .int .i64 s, .int .i64 f, .int .i64 t, .int .u64 (z : Int)]) (.agg #[.int .i64 2, .int .i64 0, .int .i64 f, .int .i64 t, .int .u64 0])).run Tryd.prog W = .ok r W := fun W => eqD_any ⟨2, s, f, t, z⟩ ⟨2, 0, f, t, 0⟩ hc (ok5 hc.1 zok hc.2.2.1 hc.2.2.2.1 (by omega)) r hr W
  have ME : ∀ W, Sem.run Tryd.prog (method 323 100 (.agg #[.int .i64 f, .int .i64 t]) "portcullis/token.may") W = .ok (94, .agg #[.int .i64 f, .int .i64 t]) W := fun W => by kernel_rfl
  obtain ⟨q, hq⟩ : ∃ q, q = dmMay ⟨2, s, f, t, z⟩ := ⟨_, rfl⟩
  rw [← hq] at hm
  have FC : Hid (∀ W, Calls Tryd.prog 94 #[.agg #[.int .i64 f, .int .i64 t]] W fun e w' => e = .returned (.bool q) ∧ Below W.heap.size W w') := fun W => by rw [hq]; exact veMay_any f t W
  rw [hm]
  clear hm hq hr hc
  have HB : Hid (∀ W a b, ((w.alloc a).alloc b).drew = W → Below w.heap.size w W) := fun W a b h => by rw [← h]; exact (((Below.refl _ _).alloc (Nat.le_refl _) _).alloc (by simp) _).drew
  have HC : Hid (∀ W a b, Below ((w.alloc a).alloc b).drew.heap.size ((w.alloc a).alloc b).drew W → Below w.heap.size w W) := fun W a b h => (HB.out _ a b rfl).trans (h.mono (HB.out _ a b rfl).size)
  go_enter Tryd.func28, Tryd.ntmps28
  go_wp2
  go_region
  cases r
  · go_wp2
    go_ret2
    exact ⟨rfl, HB.out _ _ _ rfl⟩
  · cases q
    all_goals
      go_wp2_with (go_at_call 94; refine (FC.out _).mono ?_; rintro e w2 ⟨rfl, hb2⟩; have HF : Hid (Below w.heap.size w w2) := HC.out _ _ _ hb2; clear hb2)
      go_ret2
      exact ⟨rfl, HF.out⟩
set_option maxHeartbeats 1000000 in
theorem dem3_any (s f t : Int) (z : Nat) (hc : (⟨3, s, f, t, z⟩ : Cv).ok) (w : World) : Calls Tryd.prog 28 #[.agg #[.int .i64 3, .int .i64 s, .int .i64 f, .int .i64 t, .int .u64 (z : Int)]] w (fun e w' => e = .returned (.tuple #[if cvMay ⟨3, s, f, t, z⟩ = true then .iface 102 (.agg #[.int .u64 (z : Int)]) else .nilIface, .bool (cvMay ⟨3, s, f, t, z⟩)]) ∧ Below w.heap.size w w') := by
  obtain ⟨r, hr, hm⟩ := cvMay_dm ⟨3, s, f, t, z⟩ (by show (1 : Int) ≤ 3; omega) (by show (3 : Int) ≤ 5; omega)
  have EQ : ∀ W, (Op.equalIn 10000 64 (.agg #[.int .i64 3, .int .i64 s, .int .i64 f, .int .i64 t, .int .u64 (z : Int)]) (.agg #[.int .i64 3, .int .i64 0, .int .i64 0, .int .i64 0, .int .u64 (z : Int)])).run Tryd.prog W = .ok r W := fun W => eqD_any ⟨3, s, f, t, z⟩ ⟨3, 0, 0, 0, z⟩ hc (ok5 hc.1 zok zok zok hc.2.2.2.2) r hr W
  have ME : ∀ W, Sem.run Tryd.prog (method 323 102 (.agg #[.int .u64 (z : Int)]) "portcullis/token.may") W = .ok (96, .agg #[.int .u64 (z : Int)]) W := fun W => by kernel_rfl
  obtain ⟨q, hq⟩ : ∃ q, q = dmMay ⟨3, s, f, t, z⟩ := ⟨_, rfl⟩
  rw [← hq] at hm
  have FC : Hid (∀ W, Calls Tryd.prog 96 #[.agg #[.int .u64 (z : Int)]] W fun e w' => e = .returned (.bool q) ∧ Below W.heap.size W w') := fun W => by rw [hq]; exact kiMay_any z hc.2.2.2.2 W
  rw [hm]
  clear hm hq hr hc
  have HB : Hid (∀ W a b, ((w.alloc a).alloc b).drew = W → Below w.heap.size w W) := fun W a b h => by rw [← h]; exact (((Below.refl _ _).alloc (Nat.le_refl _) _).alloc (by simp) _).drew
  have HC : Hid (∀ W a b, Below ((w.alloc a).alloc b).drew.heap.size ((w.alloc a).alloc b).drew W → Below w.heap.size w W) := fun W a b h => (HB.out _ a b rfl).trans (h.mono (HB.out _ a b rfl).size)
  go_enter Tryd.func28, Tryd.ntmps28
  go_wp2
  go_region
  cases r
  · go_wp2
    go_ret2
    exact ⟨rfl, HB.out _ _ _ rfl⟩
  · cases q
    all_goals
      go_wp2_with (go_at_call 96; refine (FC.out _).mono ?_; rintro e w2 ⟨rfl, hb2⟩; have HF : Hid (Below w.heap.size w w2) := HC.out _ _ _ hb2; clear hb2)
      go_ret2
      exact ⟨rfl, HF.out⟩
set_option maxHeartbeats 1000000 in
theorem dem4_any (s f t : Int) (z : Nat) (hc : (⟨4, s, f, t, z⟩ : Cv).ok) (w : World) : Calls Tryd.prog 28 #[.agg #[.int .i64 4, .int .i64 s, .int .i64 f, .int .i64 t, .int .u64 (z : Int)]] w (fun e w' => e = .returned (.tuple #[if cvMay ⟨4, s, f, t, z⟩ = true then .iface 104 (.agg #[.int .i64 s, .int .i64 f]) else .nilIface, .bool (cvMay ⟨4, s, f, t, z⟩)]) ∧ Below w.heap.size w w') := by
  obtain ⟨r, hr, hm⟩ := cvMay_dm ⟨4, s, f, t, z⟩ (by show (1 : Int) ≤ 4; omega) (by show (4 : Int) ≤ 5; omega)
  have EQ : ∀ W, (Op.equalIn 10000 64 (.agg #[.int .i64 4, .int .i64 s, .int .i64 f, .int .i64 t, .int .u64 (z : Int)]) (.agg #[.int .i64 4, .int .i64 s, .int .i64 f, .int .i64 0, .int .u64 0])).run Tryd.prog W = .ok r W := fun W => eqD_any ⟨4, s, f, t, z⟩ ⟨4, s, f, 0, 0⟩ hc (ok5 hc.1 hc.2.1 hc.2.2.1 zok (by omega)) r hr W
  have ME : ∀ W, Sem.run Tryd.prog (method 323 104 (.agg #[.int .i64 s, .int .i64 f]) "portcullis/token.may") W = .ok (98, .agg #[.int .i64 s, .int .i64 f]) W := fun W => by kernel_rfl
  obtain ⟨q, hq⟩ : ∃ q, q = dmMay ⟨4, s, f, t, z⟩ := ⟨_, rfl⟩
  rw [← hq] at hm
  have FC : Hid (∀ W, Calls Tryd.prog 98 #[.agg #[.int .i64 s, .int .i64 f]] W fun e w' => e = .returned (.bool q) ∧ Below W.heap.size W w') := fun W => by rw [hq]; exact leMay_any s f W
  rw [hm]
  clear hm hq hr hc
  have HB : Hid (∀ W a b, ((w.alloc a).alloc b).drew = W → Below w.heap.size w W) := fun W a b h => by rw [← h]; exact (((Below.refl _ _).alloc (Nat.le_refl _) _).alloc (by simp) _).drew
  have HC : Hid (∀ W a b, Below ((w.alloc a).alloc b).drew.heap.size ((w.alloc a).alloc b).drew W → Below w.heap.size w W) := fun W a b h => (HB.out _ a b rfl).trans (h.mono (HB.out _ a b rfl).size)
  go_enter Tryd.func28, Tryd.ntmps28
  go_wp2
  go_region
  cases r
  · go_wp2
    go_ret2
    exact ⟨rfl, HB.out _ _ _ rfl⟩
  · cases q
    all_goals
      go_wp2_with (go_at_call 98; refine (FC.out _).mono ?_; rintro e w2 ⟨rfl, hb2⟩; have HF : Hid (Below w.heap.size w w2) := HC.out _ _ _ hb2; clear hb2)
      go_ret2
      exact ⟨rfl, HF.out⟩
set_option maxHeartbeats 1000000 in
theorem dem5_any (s f t : Int) (z : Nat) (hc : (⟨5, s, f, t, z⟩ : Cv).ok) (w : World) : Calls Tryd.prog 28 #[.agg #[.int .i64 5, .int .i64 s, .int .i64 f, .int .i64 t, .int .u64 (z : Int)]] w (fun e w' => e = .returned (.tuple #[if cvMay ⟨5, s, f, t, z⟩ = true then .iface 106 (.agg #[.int .i64 s, .int .i64 t]) else .nilIface, .bool (cvMay ⟨5, s, f, t, z⟩)]) ∧ Below w.heap.size w w') := by
  obtain ⟨r, hr, hm⟩ := cvMay_dm ⟨5, s, f, t, z⟩ (by show (1 : Int) ≤ 5; omega) (by show (5 : Int) ≤ 5; omega)
  have EQ : ∀ W, (Op.equalIn 10000 64 (.agg #[.int .i64 5, .int .i64 s, .int .i64 f, .int .i64 t, .int .u64 (z : Int)]) (.agg #[.int .i64 5, .int .i64 s, .int .i64 0, .int .i64 t, .int .u64 0])).run Tryd.prog W = .ok r W := fun W => eqD_any ⟨5, s, f, t, z⟩ ⟨5, s, 0, t, 0⟩ hc (ok5 hc.1 hc.2.1 zok hc.2.2.2.1 (by omega)) r hr W
  have ME : ∀ W, Sem.run Tryd.prog (method 323 106 (.agg #[.int .i64 s, .int .i64 t]) "portcullis/token.may") W = .ok (101, .agg #[.int .i64 s, .int .i64 t]) W := fun W => by kernel_rfl
  obtain ⟨q, hq⟩ : ∃ q, q = dmMay ⟨5, s, f, t, z⟩ := ⟨_, rfl⟩
  rw [← hq] at hm
  have FC : Hid (∀ W, Calls Tryd.prog 101 #[.agg #[.int .i64 s, .int .i64 t]] W fun e w' => e = .returned (.bool q) ∧ Below W.heap.size W w') := fun W => by rw [hq]; exact moMay_any s t W
  rw [hm]
  clear hm hq hr hc
  have HB : Hid (∀ W a b, ((w.alloc a).alloc b).drew = W → Below w.heap.size w W) := fun W a b h => by rw [← h]; exact (((Below.refl _ _).alloc (Nat.le_refl _) _).alloc (by simp) _).drew
  have HC : Hid (∀ W a b, Below ((w.alloc a).alloc b).drew.heap.size ((w.alloc a).alloc b).drew W → Below w.heap.size w W) := fun W a b h => (HB.out _ a b rfl).trans (h.mono (HB.out _ a b rfl).size)
  go_enter Tryd.func28, Tryd.ntmps28
  go_wp2
  go_region
  cases r
  · go_wp2
    go_ret2
    exact ⟨rfl, HB.out _ _ _ rfl⟩
  · cases q
    all_goals
      go_wp2_with (go_at_call 101; refine (FC.out _).mono ?_; rintro e w2 ⟨rfl, hb2⟩; have HF : Hid (Below w.heap.size w w2) := HC.out _ _ _ hb2; clear hb2)
      go_ret2
      exact ⟨rfl, HF.out⟩
set_option maxHeartbeats 1000000 in
theorem dem0_any (k s f t : Int) (z : Nat) (h0 : ¬ (1 ≤ k ∧ k ≤ 5)) (w : World) : Calls Tryd.prog 28 #[.agg #[.int .i64 k, .int .i64 s, .int .i64 f, .int .i64 t, .int .u64 (z : Int)]] w fun e w' => e = .returned (.tuple #[.nilIface, .bool false]) ∧ Below w.heap.size w w' := by
  have y1 : (k == 1) = false := by rw [beq_eq_false_iff_ne]; omega
  have y2 : (k == 2) = false := by rw [beq_eq_false_iff_ne]; omega
  have y3 : (k == 3) = false := by rw [beq_eq_false_iff_ne]; omega
  have y4 : (k == 4) = false := by rw [beq_eq_false_iff_ne]; omega
  have y5 : (k == 5) = false := by rw [beq_eq_false_iff_ne]; omega
  clear h0
  have HB : Hid (∀ W a b, ((w.alloc a).alloc b) = W → Below w.heap.size w W) := fun W a b h => by rw [← h]; exact ((Below.refl _ _).alloc (Nat.le_refl _) _).alloc (by simp) _
  go_enter Tryd.func28, Tryd.ntmps28
  go_wp2
  go_ret2
  exact ⟨rfl, HB.out _ _ _ rfl⟩
/-- What a caveat asks, or that it may not be. -/
theorem dem_any (c : Cv) (hc : c.ok) (w : World) : Calls Tryd.prog 28 #[.agg (cvC c).toArray] w fun e w' => e = .returned (.tuple #[if cvMay c = true then dmV c else .nilIface, .bool (cvMay c)]) ∧ Below w.heap.size w w' := by
  obtain ⟨k, s, f, t, z⟩ := c
  by_cases h1 : k = 1
  · subst h1; exact dem1_any s f t z hc w
  by_cases h2 : k = 2
  · subst h2; exact dem2_any s f t z hc w
  by_cases h3 : k = 3
  · subst h3; exact dem3_any s f t z hc w
  by_cases h4 : k = 4
  · subst h4; exact dem4_any s f t z hc w
  by_cases h5 : k = 5
  · subst h5; exact dem5_any s f t z hc w
  have h0 : ¬ (1 ≤ k ∧ k ≤ 5) := by omega
  rw [cvMay_k (c := ⟨k, s, f, t, z⟩) h0]
  exact dem0_any k s f t z h0 w
end Go.Proofs.YtjooabgjkjnhhaaDoor
