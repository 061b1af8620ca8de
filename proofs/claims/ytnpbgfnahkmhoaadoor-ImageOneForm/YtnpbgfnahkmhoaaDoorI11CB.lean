
import Derived.Test.YtnpbgfnahkmhoaaDoorI11Tool
/-! The code's leaves: copied, Body, lay, fits, number, may. -/
namespace Go.Proofs.YtnpbgfnahkmhoaaDoor
open Go.RowKit
set_option linter.unusedVariables false

set_option maxHeartbeats 1000000 in
set_option maxRecDepth 100000 in
theorem copied_any (ao : Option Addr) (n cap : Nat) (b : List By) (hb0 : b.length = n) (w : World) (hb : IsB w ao b) (hl : n ≤ 140737488353280) :
    Calls Tryd.prog 31 #[.slice ao n cap] w fun e w' => e = .returned (.slice (some ⟨w.heap.size, 0, none⟩) n n) ∧ Own w.heap.size w' (.slice (some ⟨w.heap.size, 0, none⟩) n n) b ∧ Below w.heap.size w w' := by
  have HB : Hid (IsB w ao b) := hb
  have HB0 : Hid (b.length = n) := hb0
  clear hb hb0
  go_enter Tryd.func31, Tryd.ntmps31
  go_wp2_with (first
    | (refine wpList_make_rowN rfl _ _ rfl .i64 .i64 _ _ n rfl rfl rfl rfl (by omega) ?_; intro w2 hr2 hb2 hz2)
    | (refine wpList_copy_to rfl (.tmp 7) (.tmp 8) rfl w.heap.size 0 n n ao n cap rfl rfl (Nat.le_refl _) (List.replicate n 0) hr2 b HB0.out (HB.out.below hb2 (Nat.le_refl _)) (by simp) ?_; intro w3 hr3 hs3))
  have e : splice (List.replicate n (0 : By)) 0 b = b := by simp [splice, HB0.out]
  rw [e] at hr3
  go_ret
  exact ⟨rfl, own_row hr3 (Nat.le_refl _) n HB0.out (by omega), hs3.below hb2 (Nat.le_refl _)⟩

set_option maxHeartbeats 1000000 in
set_option maxRecDepth 100000 in
theorem cbody_any (ao : Option Addr) (n cap : Nat) (b : List By) (hb0 : b.length = n) (w : World) (hb : IsB w ao b) (hnil : ao = none → cap = 0) (hcap : n ≤ cap) (hl : n ≤ 140737488353280) :
    Calls Tryd.prog 17 #[.slice ao n cap] w fun e w' => ∃ ao' c', e = .returned (.slice ao' (n - 32) c') ∧ Own w.heap.size w' (.slice ao' (n - 32) c') (b.take (n - 32)) ∧ Below w.heap.size w w' := by
  by_cases hn : n < 32
  · have i1 : (n : Int) < 32 := by omega
    have e0 : n - 32 = 0 := by omega
    rw [e0]
    clear hb hb0
    go_enter Tryd.func17, Tryd.ntmps17
    go_wp2
    go_ret
    exact ⟨none, 0, rfl, own_nil _ _ (Nat.le_refl _), Below.refl _ _⟩
  · obtain ⟨B, off, rfl, _⟩ : ∃ B off, ao = some ⟨B, off, none⟩ ∧ True := by
      rcases hb with rfl | ⟨B, off, h, _⟩
      · simp at hb0; omega
      · exact ⟨B, off, h, trivial⟩
    have HBL : Hid ((b.take (n - 32)).length = n - 32) := by show _ = _; rw [List.length_take, hb0]; omega
    have IB : IsB w (some ⟨B, off, none⟩) (b.take (n - 32)) := isB_take hb _
    have HIB : Hid (IsB w (some ⟨B, off, none⟩) (b.take (n - 32))) := IB
    clear hb hb0 IB hnil
    obtain ⟨m, rfl⟩ : ∃ m, n = m + 32 := ⟨n - 32, by omega⟩
    rw [Nat.add_sub_cancel] at *
    have i1 : ¬ (((m + 32 : Nat) : Int) < 32) := by omega
    have i2 : ((m + 32 : Nat) : Int) - 32 = (m : Int) := by omega
    have i3 : (0 : Int) ≤ (m : Int) := by omega
    have i4 : (m : Int) ≤ (cap : Int) := by omega
    go_enter Tryd.func17, Tryd.ntmps17
    go_wp2_with fail
    refine (copied_any (some ⟨B, off, none⟩) m cap (b.take m) HBL.out w HIB.out (by omega)).mono ?_
    rintro e w1 ⟨rfl, ho, hb⟩
    dsimp only
    go_wp2
    go_ret
    exact ⟨_, _, rfl, ho, hb⟩

/-- The four stores of a number, the lowest byte first. -/
def putL (w : World) (B off n : Nat) : World :=
  ((((w.setCell ⟨B, off, none⟩ (B8 (BitVec.ofNat 8 n))).setCell ⟨B, off + 1, none⟩ (B8 (BitVec.ofNat 8 (n / 256)))).setCell ⟨B, off + 2, none⟩ (B8 (BitVec.ofNat 8 (n / 65536)))).setCell ⟨B, off + 3, none⟩ (B8 (BitVec.ofNat 8 (n / 16777216))))
theorem bn8 (n d : Nat) : B8 (BitVec.ofNat 8 (n / d)) = .int .u8 ((n : Int) / (d : Int) % 256) := by unfold B8; rw [← by1 n d]
theorem bn8' (n : Nat) : B8 (BitVec.ofNat 8 n) = .int .u8 ((n : Int) % 256) := by unfold B8; rw [← by0 n]

set_option maxHeartbeats 1000000 in
set_option maxRecDepth 100000 in
theorem clay_any (B off cap n : Nat) (w : World) (hn : n < 4294967296) (ht : w.there B off 4) :
    Calls Tryd.prog 25 #[.slice (some ⟨B, off, none⟩) 4 cap, .int .u64 n] w fun e w' => e = .returned (.tuple #[]) ∧ w' = putL w B off n := by
  obtain ⟨v0, h0⟩ := Option.isSome_iff_exists.1 (ht 0 (by omega)).1
  obtain ⟨v1, h1⟩ := Option.isSome_iff_exists.1 (ht 1 (by omega)).1
  obtain ⟨v2, h2⟩ := Option.isSome_iff_exists.1 (ht 2 (by omega)).1
  obtain ⟨v3, h3⟩ := Option.isSome_iff_exists.1 (ht 3 (by omega)).1
  have f0 := (ht 0 (by omega)).2
  have f1 := (ht 1 (by omega)).2
  have f2 := (ht 2 (by omega)).2
  have f3 := (ht 3 (by omega)).2
  rw [Nat.add_zero] at h0 f0
  have e1 := bn8' n
  have e2 := bn8 n 256
  have e3 := bn8 n 65536
  have e4 := bn8 n 16777216
  have e : putL w B off n = ((((w.setCell ⟨B, off, none⟩ (.int .u8 ((n : Int) % 256))).setCell ⟨B, off + 1, none⟩ (.int .u8 ((n : Int) / 256 % 256))).setCell ⟨B, off + 2, none⟩ (.int .u8 ((n : Int) / 65536 % 256))).setCell ⟨B, off + 3, none⟩ (.int .u8 ((n : Int) / 16777216))) := by
    unfold putL; rw [e1, e2, e3, e4]; congr 2; show (n : Int) / 16777216 % 256 = _; omega
  rw [e]
  clear ht e e1 e2 e3 e4
  have q1 : (n : Int) / 256 / 256 = (n : Int) / 65536 := by omega
  have q2 : (n : Int) / 65536 / 256 = (n : Int) / 16777216 := by omega
  go_enter Tryd.func25, Tryd.ntmps25
  go_wp2
  refine wp_loop_rounds 5 ?_
  rw [rounds_succ]
  go_wp2
  rw [rounds_succ]
  go_wp2
  rw [rounds_succ]
  go_wp2
  rw [rounds_succ]
  go_wp2
  rw [rounds_succ]
  go_wp2
  go_end0
  exact ⟨rfl, rfl⟩
/-- A number laid into zeroes. -/
theorem lay_any (g off cap n k : Nat) (pre : List By) (hp : pre.length = off) (w : World) (hn : n < 4294967296) (hr : Row w g 5 ((pre ++ List.replicate (k + 4) 0).map B8)) :
    Calls Tryd.prog 25 #[.slice (some ⟨g, off, none⟩) 4 cap, .int .u64 n] w fun e w' => e = .returned (.tuple #[]) ∧ Row w' g 5 (((pre ++ le4 n) ++ List.replicate k 0).map B8) ∧ SameBut g w w' := by
  refine (clay_any g off cap n w hn (hr.there off 4 (by simp; omega))).mono ?_
  rintro e w' ⟨rfl, rfl⟩
  refine ⟨rfl, ?_, ?_⟩
  · have := (((hr.set off (B8 (BitVec.ofNat 8 n))).set (off + 1) (B8 (BitVec.ofNat 8 (n / 256)))).set (off + 2) (B8 (BitVec.ofNat 8 (n / 65536)))).set (off + 3) (B8 (BitVec.ofNat 8 (n / 16777216)))
    have e : ((pre ++ List.replicate (k + 4) 0).map B8) = pre.map B8 ++ B8 0 :: B8 0 :: B8 0 :: B8 0 :: (List.replicate k 0).map B8 := by
      have e0 : List.replicate (k + 4) (0 : By) = 0 :: 0 :: 0 :: 0 :: List.replicate k 0 := rfl
      rw [List.map_append, e0]; rfl
    rw [e, set4 _ _ _ _ _ _ _ _ _ _ off (by simp [hp])] at this
    unfold putL
    simpa [le4] using this
  · unfold putL
    exact ((((SameBut.refl g w).trans (SameBut.setCell g _ _ _)).trans (SameBut.setCell g _ _ _)).trans (SameBut.setCell g _ _ _)).trans (SameBut.setCell g _ _ _)

set_option maxHeartbeats 1000000 in
set_option maxRecDepth 100000 in
theorem fits_any (i : Nat) (h8 : i < 8) (c : By) (w : World) : Calls Tryd.prog 42 #[.int .i64 i, .int .u8 (c.toNat : Int)] w fun e w' => e = .returned (.bool (mst i c.toNat)) ∧ w' = w := by
  have hc := c.isLt
  simp only [Nat.reducePow] at hc
  generalize c.toNat = x at *
  have h9 : i = 0 ∨ i = 1 ∨ i = 2 ∨ i = 3 ∨ i = 4 ∨ i = 5 ∨ i = 6 ∨ i = 7 := by omega
  clear h8
  rcases h9 with rfl | rfl | rfl | rfl | rfl | rfl | rfl | rfl
  all_goals
    go_enter Tryd.func42, Tryd.ntmps42
    go_wp2
    go_ret
    refine ⟨?_, rfl⟩
    congr 2
    simp [mst]
    try first | exact nat_beq x 80 | exact nat_beq x 67 | exact nat_beq x 85 | exact nat_beq x 76 | exact nat_beq x 1 | exact nat_beq x 0 | omega

theorem orU64 (a b : Nat) (ha : a < 4294967296) (hb : b < 4294967296) : bits .or .u64 (a : Int) (b : Int) = ((a ||| b : Nat) : Int) := by
  have h := Nat.or_lt_two_pow (n := 32) ha hb
  simp only [Nat.reducePow] at h
  have e : 2 ^ IntKind.u64.bits = 18446744073709551616 := rfl
  simp [bits]
  rw [e, Nat.mod_eq_of_lt (by omega), Nat.mod_eq_of_lt (by omega)]
  have e2 : IntKind.u64.wrap ((a ||| b : Nat) : Int) = ((a ||| b : Nat) : Int) % 18446744073709551616 := rfl
  rw [e2]; omega
theorem num_formU (x0 x1 x2 x3 : Nat) (h0 : x0 < 256) (h1 : x1 < 256) (h2 : x2 < 256) (h3 : x3 < 256) :
    bits .or .u64 (bits .or .u64 (bits .or .u64 (bits .or .u64 0 (x0 : Int)) ((x1 : Int) * 256)) ((x2 : Int) * 65536)) ((x3 : Int) * 16777216) = ((x0 + x1 * 256 + x2 * 65536 + x3 * 16777216 : Nat) : Int) := by
  have q := or_num x0 x1 x2 x3 h0 h1 h2
  have l1 : x0 ||| x1 * 256 < 2 ^ 32 := Nat.or_lt_two_pow (by simp only [Nat.reducePow]; omega) (by simp only [Nat.reducePow]; omega)
  have l2 : (x0 ||| x1 * 256) ||| x2 * 65536 < 2 ^ 32 := Nat.or_lt_two_pow l1 (by simp only [Nat.reducePow]; omega)
  simp only [Nat.reducePow] at l1 l2
  have a0 : bits .or .u64 0 (x0 : Int) = ((0 ||| x0 : Nat) : Int) := orU64 0 x0 (by omega) (by omega)
  rw [a0, Nat.zero_or]
  have a1 : bits .or .u64 (x0 : Int) ((x1 : Int) * 256) = ((x0 ||| x1 * 256 : Nat) : Int) := by
    have := orU64 x0 (x1 * 256) (by omega) (by omega); rw [← this]; congr 1
  rw [a1]
  have a2 : bits .or .u64 ((x0 ||| x1 * 256 : Nat) : Int) ((x2 : Int) * 65536) = (((x0 ||| x1 * 256) ||| x2 * 65536 : Nat) : Int) := by
    have := orU64 (x0 ||| x1 * 256) (x2 * 65536) l1 (by omega); rw [← this]; congr 1
  rw [a2]
  have a3 : bits .or .u64 (((x0 ||| x1 * 256) ||| x2 * 65536 : Nat) : Int) ((x3 : Int) * 16777216) = ((((x0 ||| x1 * 256) ||| x2 * 65536) ||| x3 * 16777216 : Nat) : Int) := by
    have := orU64 ((x0 ||| x1 * 256) ||| x2 * 65536) (x3 * 16777216) l2 (by omega); rw [← this]; congr 1
  rw [a3, q]

set_option maxHeartbeats 1000000 in
set_option maxRecDepth 100000 in
theorem cnumber_any (B off cap : Nat) (b : List By) (h4 : 4 ≤ b.length) (w : World) (hb : ∀ j v, b[j]? = some v → w.cell? ⟨B, off + j, none⟩ = some (B8 v)) :
    Calls Tryd.prog 30 #[.slice (some ⟨B, off, none⟩) 4 cap] w fun e w' => e = .returned (.int .u64 (num4 b)) ∧ w' = w := by
  have c : ∀ j, j < b.length → w.cell? ⟨B, off + j, none⟩ = some (.int .u8 ((b.getD j 0).toNat : Int)) := fun j hj => by
    rw [hb j b[j] (List.getElem?_eq_getElem (by omega)), getD_lt (by omega)]; rfl
  have c0 := c 0 (by omega); have c1 := c 1 (by omega); have c2 := c 2 (by omega); have c3 := c 3 (by omega)
  have h0 := (b.getD 0 0).isLt; have h1 := (b.getD 1 0).isLt; have h2 := (b.getD 2 0).isLt; have h3 := (b.getD 3 0).isLt
  simp only [Nat.reducePow] at h0 h1 h2 h3
  have HN : Hid (num4 b = (b.getD 0 0).toNat + (b.getD 1 0).toNat * 256 + (b.getD 2 0).toNat * 65536 + (b.getD 3 0).toNat * 16777216) := rfl
  rw [Nat.add_zero] at c0
  clear c hb h4
  generalize (b.getD 0 0).toNat = x0 at *
  generalize (b.getD 1 0).toNat = x1 at *
  generalize (b.getD 2 0).toNat = x2 at *
  generalize (b.getD 3 0).toNat = x3 at *
  go_enter Tryd.func30, Tryd.ntmps30
  go_wp2
  refine wp_loop_rounds 5 ?_
  rw [rounds_succ]
  go_wp2
  rw [rounds_succ]
  go_wp2
  rw [rounds_succ]
  go_wp2
  rw [rounds_succ]
  go_wp2
  rw [rounds_succ]
  go_wp2
  go_ret
  refine ⟨?_, rfl⟩
  rw [HN.out, ← num_formU x0 x1 x2 x3 h0 h1 h2 h3]
  rfl

set_option maxHeartbeats 2000000 in
set_option maxRecDepth 100000 in
theorem may_no (s k v : Int) (P : Value) (t : List By) (w : World) (h : ¬ (0 ≤ s ∧ s < 8 ∧ 0 ≤ k ∧ k < 64 ∧ 0 ≤ v ∧ v ≤ 4294967295)) :
    Calls Tryd.prog 24 #[.agg (imgC s k v P t).toArray] w fun e w' => e = .returned (.bool false) ∧ Below w.heap.size w w' := by
  have key : (¬ 0 ≤ s) ∨ (0 ≤ s ∧ ¬ s < 8) ∨ (0 ≤ s ∧ s < 8 ∧ ¬ 0 ≤ k) ∨ (0 ≤ s ∧ s < 8 ∧ 0 ≤ k ∧ ¬ k < 64) ∨ (0 ≤ s ∧ s < 8 ∧ 0 ≤ k ∧ k < 64 ∧ ¬ 0 ≤ v) ∨ (0 ≤ s ∧ s < 8 ∧ 0 ≤ k ∧ k < 64 ∧ 0 ≤ v ∧ ¬ v ≤ 4294967295) := by omega
  have r0 := Row.at w 27 (imgC s k v P t) _ _ rfl rfl
  have c0 := r0.cell 0 _ rfl
  have c1 := r0.cell 1 _ rfl
  have c2 := r0.cell 2 _ rfl
  clear r0 h
  generalize hi : imgC s k v P t = IM at *
  clear hi
  rcases key with h1 | ⟨h1, h2⟩ | ⟨h1, h2, h3⟩ | ⟨h1, h2, h3, h4⟩ | ⟨h1, h2, h3, h4, h5⟩ | ⟨h1, h2, h3, h4, h5, h6⟩
  all_goals
    go_enter Tryd.func24, Tryd.ntmps24
    go_wp2
    go_ret
    exact ⟨rfl, (Below.refl _ _).alloc (Nat.le_refl _) _⟩

set_option maxHeartbeats 1000000 in
set_option maxRecDepth 100000 in
theorem may_yes (s k v : Int) (P : Value) (t : List By) (w : World) (h1 : 0 ≤ s) (h2 : s < 8) (h3 : 0 ≤ k) (h4 : k < 64) (h5 : 0 ≤ v) (h6 : v ≤ 4294967295) :
    Calls Tryd.prog 24 #[.agg (imgC s k v P t).toArray] w fun e w' => e = .returned (.bool true) ∧ Below w.heap.size w w' := by
  have r0 := Row.at w 27 (imgC s k v P t) _ _ rfl rfl
  have c0 := r0.cell 0 _ rfl
  have c1 := r0.cell 1 _ rfl
  have c2 := r0.cell 2 _ rfl
  clear r0
  generalize hi : imgC s k v P t = IM at *
  clear hi
  go_enter Tryd.func24, Tryd.ntmps24
  go_wp2
  go_ret
  exact ⟨rfl, (Below.refl _ _).alloc (Nat.le_refl _) _⟩
end Go.Proofs.YtnpbgfnahkmhoaaDoor
