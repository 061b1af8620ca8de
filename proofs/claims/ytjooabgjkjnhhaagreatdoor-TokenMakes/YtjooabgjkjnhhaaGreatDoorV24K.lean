
import Derived.Test.YtjooabgjkjnhhaaGreatDoorV24B
/-! The code's token: the parts of its bytes. (Printed by tools/genv24.py.) -/
namespace Go.Proofs.YtjooabgjkjnhhaaGreatDoor
open Go.RowKit
set_option linter.unusedVariables false
set_option linter.unusedSimpArgs false
set_option maxRecDepth 100000

theorem partAt_head (ao : Option Addr) (n cap p : Nat) (hp : p < 8) (w : World) : Calls Tryz.prog 42 #[.slice ao n cap, .int .i64 (p : Int)] w fun e w' => e = .returned (.tuple #[.int .i64 0, .int .i64 1]) ∧ w' = w := by
  have y : (p : Int) < 8 := by omega
  have d : decide (p < 8) = true := decide_eq_true hp
  go_enter Tryz.func42, Tryz.ntmps42
  go_wp2
  go_ret2
  exact ⟨rfl, rfl⟩
/-- Which part begins at a place behind the head. -/
def partR (k6 k7 p : Nat) : Nat × Nat := if p = 8 then (1, k6) else if p < 8 + k6 + k7 * 26 then (2, 26) else if p = 8 + k6 + k7 * 26 then (3, 32) else (4, 0)
set_option maxHeartbeats 1000000 in
theorem partAt_rest (B off n cap k6 k7 p : Nat) (hp : 8 ≤ p) (hn : 8 ≤ n) (h6 : k6 < 256) (h7 : k7 < 256) (hpb : p ≤ 140737488351232) (w : World) (c6 : w.cell? ⟨B, off + 6, none⟩ = some (.int .u8 (k6 : Int))) (c7 : w.cell? ⟨B, off + 7, none⟩ = some (.int .u8 (k7 : Int))) :
    Calls Tryz.prog 42 #[.slice (some ⟨B, off, none⟩) n cap, .int .i64 (p : Int)] w fun e w' => e = .returned (.tuple #[.int .i64 ((partR k6 k7 p).1 : Int), .int .i64 ((partR k6 k7 p).2 : Int)]) ∧ w' = w := by
  have y0 : ¬ (p : Int) < 8 := by omega
  have d0 : decide (p < 8) = false := decide_eq_false (by omega)
  have y6 : (6 : Int) < (n : Int) := by omega
  have y7 : (7 : Int) < (n : Int) := by omega
  have z6 : IntKind.i64.wrap (k6 : Int) = (k6 : Int) := i64_in _ (by omega) (by omega)
  have z7 : IntKind.i64.wrap (k7 : Int) = (k7 : Int) := i64_in _ (by omega) (by omega)
  have z8 : IntKind.i64.wrap (8 + (k6 : Int)) = 8 + (k6 : Int) := i64_in _ (by omega) (by omega)
  have z9 : IntKind.i64.wrap ((k7 : Int) * 26) = (k7 : Int) * 26 := i64_in _ (by omega) (by omega)
  have z10 : IntKind.i64.wrap (8 + (k6 : Int) + (k7 : Int) * 26) = 8 + (k6 : Int) + (k7 : Int) * 26 := i64_in _ (by omega) (by omega)
  by_cases h8 : p = 8
  · subst h8
    have HP : Hid (partR k6 k7 8 = (1, k6)) := rfl
    rw [HP.out]
    go_enter Tryz.func42, Tryz.ntmps42
    go_wp2
    go_ret2
    exact ⟨rfl, rfl⟩
  have b8 : ((p : Int) == 8) = false := by rw [beq_eq_false_iff_ne]; omega
  by_cases ha : p < 8 + k6 + k7 * 26
  · have HP : Hid (partR k6 k7 p = (2, 26)) := by show _ = _; unfold partR; rw [if_neg h8, if_pos ha]
    have ya : (p : Int) < 8 + (k6 : Int) + (k7 : Int) * 26 := by omega
    rw [HP.out]
    go_enter Tryz.func42, Tryz.ntmps42
    go_wp2
    go_ret2
    exact ⟨rfl, rfl⟩
  have ya : ¬ (p : Int) < 8 + (k6 : Int) + (k7 : Int) * 26 := by omega
  by_cases hb : p = 8 + k6 + k7 * 26
  · have HP : Hid (partR k6 k7 p = (3, 32)) := by show _ = _; unfold partR; rw [if_neg h8, if_neg ha, if_pos hb]
    have yb : ((p : Int) == 8 + (k6 : Int) + (k7 : Int) * 26) = true := by rw [beq_iff_eq]; omega
    rw [HP.out]
    clear hb
    go_enter Tryz.func42, Tryz.ntmps42
    go_wp2
    go_ret2
    exact ⟨rfl, rfl⟩
  · have HP : Hid (partR k6 k7 p = (4, 0)) := by show _ = _; unfold partR; rw [if_neg h8, if_neg ha, if_neg hb]
    have yb : ((p : Int) == 8 + (k6 : Int) + (k7 : Int) * 26) = false := by rw [beq_eq_false_iff_ne]; omega
    rw [HP.out]
    go_enter Tryz.func42, Tryz.ntmps42
    go_wp2
    go_ret2
    exact ⟨rfl, rfl⟩
set_option maxHeartbeats 1000000 in
theorem fits_any (i : Nat) (hi : i < 8) (c : By) (w : World) : Calls Tryz.prog 43 #[.int .i64 (i : Int), .int .u8 (c.toNat : Int)] w fun e w' => e = .returned (.bool (hd24 i c.toNat)) ∧ w' = w := by
  generalize c.toNat = n at *
  match i, hi with
  | 0, _ => go_enter Tryz.func43, Tryz.ntmps43; go_wp2; go_ret; exact ⟨congrArg (fun b => Ending.returned (Value.bool b)) (natbeq n 80), rfl⟩
  | 1, _ => go_enter Tryz.func43, Tryz.ntmps43; go_wp2; go_ret; exact ⟨congrArg (fun b => Ending.returned (Value.bool b)) (natbeq n 67), rfl⟩
  | 2, _ => go_enter Tryz.func43, Tryz.ntmps43; go_wp2; go_ret; exact ⟨congrArg (fun b => Ending.returned (Value.bool b)) (natbeq n 84), rfl⟩
  | 3, _ => go_enter Tryz.func43, Tryz.ntmps43; go_wp2; go_ret; exact ⟨congrArg (fun b => Ending.returned (Value.bool b)) (natbeq n 75), rfl⟩
  | 4, _ => go_enter Tryz.func43, Tryz.ntmps43; go_wp2; go_ret; exact ⟨congrArg (fun b => Ending.returned (Value.bool b)) (natbeq n 1), rfl⟩
  | 5, _ =>
    have e5 : decide ((n : Int) < 64) = hd24 5 n := by rw [Bool.eq_iff_iff]; simp [hd24] <;> omega
    have e5' : decide (n < 64) = hd24 5 n := by rw [Bool.eq_iff_iff]; simp [hd24] <;> omega
    generalize hd24 5 n = q at *
    go_enter Tryz.func43, Tryz.ntmps43; go_wp2; go_ret; exact ⟨rfl, rfl⟩
  | 6, _ =>
    by_cases h : 1 ≤ n
    · have h' : (1 : Int) ≤ (n : Int) := by omega
      have hd : decide (1 ≤ n) = true := decide_eq_true h
      have e6 : decide ((n : Int) ≤ 64) = hd24 6 n := by rw [Bool.eq_iff_iff]; simp [hd24] <;> omega
      have e6' : decide (n ≤ 64) = hd24 6 n := by rw [Bool.eq_iff_iff]; simp [hd24] <;> omega
      generalize hd24 6 n = q at *
      go_enter Tryz.func43, Tryz.ntmps43
      go_wp2
      go_ret
      exact ⟨rfl, rfl⟩
    · obtain rfl : n = 0 := by omega
      go_enter Tryz.func43, Tryz.ntmps43
      go_wp2
      go_ret
      exact ⟨by simp [hd24], rfl⟩
  | 7, _ =>
    have e7 : decide ((n : Int) ≤ 32) = hd24 7 n := by rw [Bool.eq_iff_iff]; simp [hd24] <;> omega
    have e7' : decide (n ≤ 32) = hd24 7 n := by rw [Bool.eq_iff_iff]; simp [hd24] <;> omega
    generalize hd24 7 n = q at *
    go_enter Tryz.func43, Tryz.ntmps43; go_wp2; go_ret; exact ⟨rfl, rfl⟩
/-- While a caveat is read. -/
structure CW1 (w : World) (CC : List Value) (q : Bool) (W : World) : Prop where
  bel : Below w.heap.size w W
  row : Row W w.heap.size 52 (if q then CC else zCv)
theorem CW1.drew {w : World} {CC : List Value} {q : Bool} {W : World} (h : CW1 w CC q W) : CW1 w CC q W.drew := ⟨h.bel.drew, h.row.drew⟩
theorem CW1.store {w : World} {CC : List Value} {W W2 : World} (h : CW1 w CC false W) (hr : Row W2 w.heap.size 52 CC) (hs : SameBut w.heap.size W W2) : CW1 w CC true W2 := ⟨hs.below h.bel (Nat.le_refl _), hr⟩
structure CV1 (W1 : World) (w : World) (B off cap k0 k1 X2 X10 X18 : Nat) (Y2 Y10 : Int) (L : Nat → Bool) (x3 x4 x5 x6 x7 x8 x9 x10 x11 x12 x13 x14 x15 x16 x17 x18 x19 x20 x21 x22 : Value) (W : World) : Prop where
  x : CW1 w [.int .i64 (k0 : Int), .int .i64 (k1 : Int), .int .i64 Y2, .int .i64 Y10, .int .u64 (X18 : Int)] (L 20) W
  p0 : L 0 = true → x3 = .slice (some ⟨B, off, none⟩) 26 cap
  p1 : L 1 = true → x4 = .pointer (some ⟨B, off, none⟩)
  p2 : L 2 = true → x5 = .int .u8 (k0 : Int)
  p3 : L 3 = true → x6 = .int .i64 (k0 : Int)
  p4 : L 4 = true → x7 = .slice (some ⟨B, off, none⟩) 26 cap
  p5 : L 5 = true → x8 = .pointer (some ⟨B, off + 1, none⟩)
  p6 : L 6 = true → x9 = .int .u8 (k1 : Int)
  p7 : L 7 = true → x10 = .int .i64 (k1 : Int)
  p8 : L 8 = true → x11 = .slice (some ⟨B, off, none⟩) 26 cap
  p9 : L 9 = true → x12 = .slice (some ⟨B, off + 2, none⟩) 8 (cap - 2)
  p10 : L 10 = true → x13 = .int .u64 (X2 : Int)
  p11 : L 11 = true → x14 = .int .i64 Y2
  p12 : L 12 = true → x15 = .slice (some ⟨B, off, none⟩) 26 cap
  p13 : L 13 = true → x16 = .slice (some ⟨B, off + 10, none⟩) 8 (cap - 10)
  p14 : L 14 = true → x17 = .int .u64 (X10 : Int)
  p15 : L 15 = true → x18 = .int .i64 Y10
  p16 : L 16 = true → x19 = .slice (some ⟨B, off, none⟩) 26 cap
  p17 : L 17 = true → x20 = .slice (some ⟨B, off + 18, none⟩) 8 (cap - 18)
  p18 : L 18 = true → x21 = .int .u64 (X18 : Int)
  p19 : L 19 = true → x22 = .agg #[.int .i64 (k0 : Int), .int .i64 (k1 : Int), .int .i64 Y2, .int .i64 Y10, .int .u64 (X18 : Int)]
section
variable {W1 : World} {w : World} {B off cap k0 k1 X2 X10 X18 : Nat} {Y2 Y10 : Int} {L : Nat → Bool} {x3 x4 x5 x6 x7 x8 x9 x10 x11 x12 x13 x14 x15 x16 x17 x18 x19 x20 x21 x22 : Value} {W W2 : World}
theorem CV1.s0 (h : CV1 W1 w B off cap k0 k1 X2 X10 X18 Y2 Y10 L x3 x4 x5 x6 x7 x8 x9 x10 x11 x12 x13 x14 x15 x16 x17 x18 x19 x20 x21 x22 W) : CV1 W1 w B off cap k0 k1 X2 X10 X18 Y2 Y10 (upd L 0) (.slice (some ⟨B, off, none⟩) 26 cap) x4 x5 x6 x7 x8 x9 x10 x11 x12 x13 x14 x15 x16 x17 x18 x19 x20 x21 x22 W :=
  ⟨h.x, fun _ => rfl, h.p1, h.p2, h.p3, h.p4, h.p5, h.p6, h.p7, h.p8, h.p9, h.p10, h.p11, h.p12, h.p13, h.p14, h.p15, h.p16, h.p17, h.p18, h.p19⟩
theorem CV1.s1 (h : CV1 W1 w B off cap k0 k1 X2 X10 X18 Y2 Y10 L x3 x4 x5 x6 x7 x8 x9 x10 x11 x12 x13 x14 x15 x16 x17 x18 x19 x20 x21 x22 W) : CV1 W1 w B off cap k0 k1 X2 X10 X18 Y2 Y10 (upd L 1) x3 (.pointer (some ⟨B, off, none⟩)) x5 x6 x7 x8 x9 x10 x11 x12 x13 x14 x15 x16 x17 x18 x19 x20 x21 x22 W :=
  ⟨h.x, h.p0, fun _ => rfl, h.p2, h.p3, h.p4, h.p5, h.p6, h.p7, h.p8, h.p9, h.p10, h.p11, h.p12, h.p13, h.p14, h.p15, h.p16, h.p17, h.p18, h.p19⟩
end
@[reducible] def ICV1 (W1 : World) (w : World) (B off cap k0 k1 X2 X10 X18 : Nat) (Y2 Y10 : Int) (y0 y1 y2 : Value) : (Nat → Bool) → Act → World → Prop := fun L a W => ∃ x3 x4 x5 x6 x7 x8 x9 x10 x11 x12 x13 x14 x15 x16 x17 x18 x19 x20 x21 x22, a = ⟨#[y0, y1, y2, x3, x4, x5, x6, x7, x8, x9, x10, x11, x12, x13, x14, x15, x16, x17, x18, x19, x20, x21, x22], []⟩ ∧ CV1 W1 w B off cap k0 k1 X2 X10 X18 Y2 Y10 L x3 x4 x5 x6 x7 x8 x9 x10 x11 x12 x13 x14 x15 x16 x17 x18 x19 x20 x21 x22 W
theorem CV1.step {W1 : World} {w : World} {B off cap k0 k1 X2 X10 X18 : Nat} {Y2 Y10 : Int} {y0 y1 y2 : Value} {P : Program} {ops : Array Oper} {Q : Exit → Act → World → Prop} {i : Nat} {o : Oper} (hq : ∀ x3 x4 x5 x6 x7 x8 x9 x10 x11 x12 x13 x14 x15 x16 x17 x18 x19 x20 x21 x22 (L : Nat → Bool) (W : World), CV1 W1 w B off cap k0 k1 X2 X10 X18 Y2 Y10 L x3 x4 x5 x6 x7 x8 x9 x10 x11 x12 x13 x14 x15 x16 x17 x18 x19 x20 x21 x22 W → L i = false → (∀ j ∈ onesOf o, L j = true) → ∀ K : Act → World → Prop, Shut (∀ a' w', ICV1 W1 w B off cap k0 k1 X2 X10 X18 Y2 Y10 y0 y1 y2 (upd L i) a' w' → K a' w') → if Region.wanted o (yielded ops (⟨#[y0, y1, y2, x3, x4, x5, x6, x7, x8, x9, x10, x11, x12, x13, x14, x15, x16, x17, x18, x19, x20, x21, x22], []⟩ : Act).tmps) = true then Oper.wp P o ⟨#[y0, y1, y2, x3, x4, x5, x6, x7, x8, x9, x10, x11, x12, x13, x14, x15, x16, x17, x18, x19, x20, x21, x22], []⟩ W K Q else K ((⟨#[y0, y1, y2, x3, x4, x5, x6, x7, x8, x9, x10, x11, x12, x13, x14, x15, x16, x17, x18, x19, x20, x21, x22], []⟩ : Act).put o.dst undef) W) : StepI P ops (ICV1 W1 w B off cap k0 k1 X2 X10 X18 Y2 Y10 y0 y1 y2) Q i o := by
  rintro L a W ⟨x3, x4, x5, x6, x7, x8, x9, x10, x11, x12, x13, x14, x15, x16, x17, x18, x19, x20, x21, x22, rfl, h⟩
  exact hq _ _ _ _ _ _ _ _ _ _ _ _ _ _ _ _ _ _ _ _ _ _ h
set_option maxHeartbeats 1000000 in
theorem cavOf_any (B off cap : Nat) (p : List By) (hp : p.length = 26) (hcap : 26 ≤ cap) (w : World) (hb : IsB w (some ⟨B, off, none⟩) p) :
    Calls Tryz.prog 44 #[.slice (some ⟨B, off, none⟩) 26 cap] w fun e w' => e = .returned (.agg (cvC (cvAt p)).toArray) ∧ Below w.heap.size w w' := by
  have bytes : ∀ W, Below w.heap.size w W → ∀ j, j < 26 → W.cell? ⟨B, off + j, none⟩ = some (.int .u8 ((p.getD j 0).toNat : Int)) := fun W hW j hj => bytes_at hb hW j (by omega)
  obtain ⟨W1, hW1⟩ : ∃ W1, W1 = w.alloc (.cells zCv.toArray 52) := ⟨_, rfl⟩
  have C0 : Hid (∀ W, Below w.heap.size w W → W.cell? ⟨B, off, none⟩ = some (.int .u8 ((p.getD 0 0).toNat : Int))) := fun W hW => bytes W hW 0 (by omega)
  have C1 : Hid (∀ W, Below w.heap.size w W → W.cell? ⟨B, off + 1, none⟩ = some (.int .u8 ((p.getD 1 0).toNat : Int))) := fun W hW => bytes W hW 1 (by omega)
  have NN : ∀ k, k + 8 ≤ 26 → ∀ W, Below w.heap.size w W → Calls Tryz.prog 57 #[.slice (some ⟨B, off + k, none⟩) 8 (cap - k)] W fun e w' => e = .returned (.int .u64 (num8 (p.drop k))) ∧ w' = W := fun k hk W hW => number_any B (off + k) (cap - k) (p.drop k) W (fun j hj => by
    have h1 := bytes W hW (k + j) (by omega)
    rw [← Nat.add_assoc] at h1
    rw [h1]
    congr 3
    simp [List.getD_eq_getElem?_getD, List.getElem?_drop])
  have N2 : Hid (∀ W, Below w.heap.size w W → Calls Tryz.prog 57 #[.slice (some ⟨B, off + 2, none⟩) 8 (cap - 2)] W fun e w' => e = .returned (.int .u64 (num8 (p.drop 2))) ∧ w' = W) := NN 2 (by omega)
  have N10 : Hid (∀ W, Below w.heap.size w W → Calls Tryz.prog 57 #[.slice (some ⟨B, off + 10, none⟩) 8 (cap - 10)] W fun e w' => e = .returned (.int .u64 (num8 (p.drop 10))) ∧ w' = W) := NN 10 (by omega)
  have N18 : Hid (∀ W, Below w.heap.size w W → Calls Tryz.prog 57 #[.slice (some ⟨B, off + 18, none⟩) 8 (cap - 18)] W fun e w' => e = .returned (.int .u64 (num8 (p.drop 18))) ∧ w' = W) := NN 18 (by omega)
  have WR2 : Hid (IntKind.i64.wrap (num8 (p.drop 2) : Int) = i64N (num8 (p.drop 2))) := i64N_wrap _ (num8_lt _)
  have WR10 : Hid (IntKind.i64.wrap (num8 (p.drop 10) : Int) = i64N (num8 (p.drop 10))) := i64N_wrap _ (num8_lt _)
  have KB : Hid ((p.getD 0 0).toNat < 256 ∧ (p.getD 1 0).toNat < 256) := ⟨(p.getD 0 0).isLt, (p.getD 1 0).isLt⟩
  show Calls Tryz.prog 44 #[.slice (some ⟨B, off, none⟩) 26 cap] w fun e w' => e = .returned (.agg #[.int .i64 ((p.getD 0 0).toNat : Int), .int .i64 ((p.getD 1 0).toNat : Int), .int .i64 (i64N (num8 (p.drop 2))), .int .i64 (i64N (num8 (p.drop 10))), .int .u64 (num8 (p.drop 18) : Int)]) ∧ Below w.heap.size w w'
  clear bytes NN hb hp
  generalize (p.getD 0 0).toNat = k0 at *
  generalize (p.getD 1 0).toNat = k1 at *
  generalize num8 (p.drop 2) = X2 at *
  generalize num8 (p.drop 10) = X10 at *
  generalize num8 (p.drop 18) = X18 at *
  generalize i64N X2 = Y2 at *
  generalize i64N X10 = Y10 at *
  have CO : Hid (∀ v ∈ [Value.int .i64 (k0 : Int), .int .i64 (k1 : Int), .int .i64 Y2, .int .i64 Y10, .int .u64 (X18 : Int)], v.oneCell' = true) := cvC_one ⟨k0, k1, Y2, Y10, X18⟩
  have HX0 : Hid (CW1 w [.int .i64 (k0 : Int), .int .i64 (k1 : Int), .int .i64 Y2, .int .i64 Y10, .int .u64 (X18 : Int)] false W1) := by
    refine ⟨?_, ?_⟩
    · rw [hW1]; exact (Below.refl _ _).alloc (Nat.le_refl _) _
    · rw [hW1]; exact Row.at w _ _ _ _ rfl rfl
  have zk0 : IntKind.i64.wrap (k0 : Int) = (k0 : Int) := i64_in _ (by omega) (by have := KB.out; omega)
  have zk1 : IntKind.i64.wrap (k1 : Int) = (k1 : Int) := i64_in _ (by omega) (by have := KB.out; omega)
  have u10 : (10 : Int) ≤ (cap : Int) := by omega
  have u18 : (18 : Int) ≤ (cap : Int) := by omega
  have u26 : (26 : Int) ≤ (cap : Int) := by omega
  have v2 : ¬ cap = 2 := by omega
  have v10 : ¬ cap = 10 := by omega
  have v18 : ¬ cap = 18 := by omega
  go_enter Tryz.func44, Tryz.ntmps44
  go_upto_region 1 with (first
    | (have hz := hW1; clear hz; refine wpList_at24 hW1 ?_; clear hW1))
  try refine wp_at24 hW1 ?_
  refine wp_region_inv (ICV1 W1 w B off cap k0 k1 X2 X10 X18 Y2 Y10 _ _ _) (by kernel_rfl) (by kernel_rfl) ⟨_, _, _, _, _, _, _, _, _, _, _, _, _, _, _, _, _, _, _, _, rfl, ⟨HX0.out.drew, fun k => (by cases k), fun k => (by cases k), fun k => (by cases k), fun k => (by cases k), fun k => (by cases k), fun k => (by cases k), fun k => (by cases k), fun k => (by cases k), fun k => (by cases k), fun k => (by cases k), fun k => (by cases k), fun k => (by cases k), fun k => (by cases k), fun k => (by cases k), fun k => (by cases k), fun k => (by cases k), fun k => (by cases k), fun k => (by cases k), fun k => (by cases k), fun k => (by cases k)⟩⟩ ?_ ?_
  · refine .cons ?_ (.cons ?_ (.cons ?_ (.cons ?_ (.cons ?_ (.cons ?_ (.cons ?_ (.cons ?_ (.cons ?_ (.cons ?_ (.cons ?_ (.cons ?_ (.cons ?_ (.cons ?_ (.cons ?_ (.cons ?_ (.cons ?_ (.cons ?_ (.cons ?_ (.cons ?_ (.cons ?_ .nil))))))))))))))))))))
    all_goals (refine CV1.step ?_; intro x3 x4 x5 x6 x7 x8 x9 x10 x11 x12 x13 x14 x15 x16 x17 x18 x19 x20 x21 x22 L W hI hL hd K hK)
    · rw [if_pos (by rfl)]
      go_simp
      exact hK.out _ _ ⟨_, _, _, _, _, _, _, _, _, _, _, _, _, _, _, _, _, _, _, _, rfl, { hI with p0 := fun _ => rfl }⟩
    · obtain rfl := hI.p0 (hd 0 (by decide))
      rw [if_pos (by rfl)]
      go_simp
      exact hK.out _ _ ⟨_, _, _, _, _, _, _, _, _, _, _, _, _, _, _, _, _, _, _, _, rfl, { hI with p1 := fun _ => rfl }⟩
    · obtain rfl := hI.p1 (hd 1 (by decide))
      rw [if_pos (by rfl)]
      have hc := C0.out _ hI.x.bel
      go_simp
      exact hK.out _ _ ⟨_, _, _, _, _, _, _, _, _, _, _, _, _, _, _, _, _, _, _, _, rfl, { hI with p2 := fun _ => rfl }⟩
    · obtain rfl := hI.p2 (hd 2 (by decide))
      rw [if_pos (by rfl)]
      go_simp
      exact hK.out _ _ ⟨_, _, _, _, _, _, _, _, _, _, _, _, _, _, _, _, _, _, _, _, rfl, { hI with p3 := fun _ => rfl }⟩
    · rw [if_pos (by rfl)]
      go_simp
      exact hK.out _ _ ⟨_, _, _, _, _, _, _, _, _, _, _, _, _, _, _, _, _, _, _, _, rfl, { hI with p4 := fun _ => rfl }⟩
    · obtain rfl := hI.p4 (hd 4 (by decide))
      rw [if_pos (by rfl)]
      go_simp
      exact hK.out _ _ ⟨_, _, _, _, _, _, _, _, _, _, _, _, _, _, _, _, _, _, _, _, rfl, { hI with p5 := fun _ => rfl }⟩
    · obtain rfl := hI.p5 (hd 5 (by decide))
      rw [if_pos (by rfl)]
      have hc := C1.out _ hI.x.bel
      go_simp
      exact hK.out _ _ ⟨_, _, _, _, _, _, _, _, _, _, _, _, _, _, _, _, _, _, _, _, rfl, { hI with p6 := fun _ => rfl }⟩
    · obtain rfl := hI.p6 (hd 6 (by decide))
      rw [if_pos (by rfl)]
      go_simp
      exact hK.out _ _ ⟨_, _, _, _, _, _, _, _, _, _, _, _, _, _, _, _, _, _, _, _, rfl, { hI with p7 := fun _ => rfl }⟩
    · rw [if_pos (by rfl)]
      go_simp
      exact hK.out _ _ ⟨_, _, _, _, _, _, _, _, _, _, _, _, _, _, _, _, _, _, _, _, rfl, { hI with p8 := fun _ => rfl }⟩
    · obtain rfl := hI.p8 (hd 8 (by decide))
      rw [if_pos (by rfl)]
      go_simp
      exact hK.out _ _ ⟨_, _, _, _, _, _, _, _, _, _, _, _, _, _, _, _, _, _, _, _, rfl, { hI with p9 := fun _ => rfl }⟩
    · obtain rfl := hI.p9 (hd 9 (by decide))
      rw [if_pos (by rfl)]
      go_simp
      refine (N2.out _ hI.x.bel).mono ?_
      rintro e W2 ⟨rfl, rfl⟩
      go_simp
      have hX := hI.x
      exact hK.out _ _ ⟨_, _, _, _, _, _, _, _, _, _, _, _, _, _, _, _, _, _, _, _, rfl, { hI with x := hX, p10 := fun _ => rfl }⟩
    · obtain rfl := hI.p10 (hd 10 (by decide))
      rw [if_pos (by rfl)]
      have hcv := WR2.out
      go_simp
      exact hK.out _ _ ⟨_, _, _, _, _, _, _, _, _, _, _, _, _, _, _, _, _, _, _, _, rfl, { hI with p11 := fun _ => rfl }⟩
    · rw [if_pos (by rfl)]
      go_simp
      exact hK.out _ _ ⟨_, _, _, _, _, _, _, _, _, _, _, _, _, _, _, _, _, _, _, _, rfl, { hI with p12 := fun _ => rfl }⟩
    · obtain rfl := hI.p12 (hd 12 (by decide))
      rw [if_pos (by rfl)]
      go_simp
      exact hK.out _ _ ⟨_, _, _, _, _, _, _, _, _, _, _, _, _, _, _, _, _, _, _, _, rfl, { hI with p13 := fun _ => rfl }⟩
    · obtain rfl := hI.p13 (hd 13 (by decide))
      rw [if_pos (by rfl)]
      go_simp
      refine (N10.out _ hI.x.bel).mono ?_
      rintro e W2 ⟨rfl, rfl⟩
      go_simp
      have hX := hI.x
      exact hK.out _ _ ⟨_, _, _, _, _, _, _, _, _, _, _, _, _, _, _, _, _, _, _, _, rfl, { hI with x := hX, p14 := fun _ => rfl }⟩
    · obtain rfl := hI.p14 (hd 14 (by decide))
      rw [if_pos (by rfl)]
      have hcv := WR10.out
      go_simp
      exact hK.out _ _ ⟨_, _, _, _, _, _, _, _, _, _, _, _, _, _, _, _, _, _, _, _, rfl, { hI with p15 := fun _ => rfl }⟩
    · rw [if_pos (by rfl)]
      go_simp
      exact hK.out _ _ ⟨_, _, _, _, _, _, _, _, _, _, _, _, _, _, _, _, _, _, _, _, rfl, { hI with p16 := fun _ => rfl }⟩
    · obtain rfl := hI.p16 (hd 16 (by decide))
      rw [if_pos (by rfl)]
      go_simp
      exact hK.out _ _ ⟨_, _, _, _, _, _, _, _, _, _, _, _, _, _, _, _, _, _, _, _, rfl, { hI with p17 := fun _ => rfl }⟩
    · obtain rfl := hI.p17 (hd 17 (by decide))
      rw [if_pos (by rfl)]
      go_simp
      refine (N18.out _ hI.x.bel).mono ?_
      rintro e W2 ⟨rfl, rfl⟩
      go_simp
      have hX := hI.x
      exact hK.out _ _ ⟨_, _, _, _, _, _, _, _, _, _, _, _, _, _, _, _, _, _, _, _, rfl, { hI with x := hX, p18 := fun _ => rfl }⟩
    · obtain rfl := hI.p3 (hd 3 (by decide))
      obtain rfl := hI.p7 (hd 7 (by decide))
      obtain rfl := hI.p11 (hd 11 (by decide))
      obtain rfl := hI.p15 (hd 15 (by decide))
      obtain rfl := hI.p18 (hd 18 (by decide))
      rw [if_pos (by rfl)]
      go_simp
      exact hK.out _ _ ⟨_, _, _, _, _, _, _, _, _, _, _, _, _, _, _, _, _, _, _, _, rfl, { hI with p19 := fun _ => rfl }⟩
    · obtain rfl := hI.p19 (hd 19 (by decide))
      have hx0 := hI.x
      rw [hL] at hx0
      refine step_store_Row rfl 52 _ _ rfl w.heap.size 52 zCv [.int .i64 (k0 : Int), .int .i64 (k1 : Int), .int .i64 Y2, .int .i64 Y10, .int .u64 (X18 : Int)] hx0.row rfl rfl rfl (by kernel_rfl) CO.out ?_
      intro W2 hr2 hs2
      have hX := hx0.store hr2 hs2
      exact hK.out _ _ ⟨_, _, _, _, _, _, _, _, _, _, _, _, _, _, _, _, _, _, _, _, rfl, { hI with x := hX }⟩
  · rintro L _ W hall ⟨x3, x4, x5, x6, x7, x8, x9, x10, x11, x12, x13, x14, x15, x16, x17, x18, x19, x20, x21, x22, rfl, hI⟩
    obtain rfl := hI.p0 (hall 0 (by decide))
    obtain rfl := hI.p1 (hall 1 (by decide))
    obtain rfl := hI.p2 (hall 2 (by decide))
    obtain rfl := hI.p3 (hall 3 (by decide))
    obtain rfl := hI.p4 (hall 4 (by decide))
    obtain rfl := hI.p5 (hall 5 (by decide))
    obtain rfl := hI.p6 (hall 6 (by decide))
    obtain rfl := hI.p7 (hall 7 (by decide))
    obtain rfl := hI.p8 (hall 8 (by decide))
    obtain rfl := hI.p9 (hall 9 (by decide))
    obtain rfl := hI.p10 (hall 10 (by decide))
    obtain rfl := hI.p11 (hall 11 (by decide))
    obtain rfl := hI.p12 (hall 12 (by decide))
    obtain rfl := hI.p13 (hall 13 (by decide))
    obtain rfl := hI.p14 (hall 14 (by decide))
    obtain rfl := hI.p15 (hall 15 (by decide))
    obtain rfl := hI.p16 (hall 16 (by decide))
    obtain rfl := hI.p17 (hall 17 (by decide))
    obtain rfl := hI.p18 (hall 18 (by decide))
    obtain rfl := hI.p19 (hall 19 (by decide))
    have hXe := hI.x
    rw [hall 20 (by decide)] at hXe
    clear hI hall
    try dsimp only
    have q2 : Row W w.heap.size 52 [.int .i64 (k0 : Int), .int .i64 (k1 : Int), .int .i64 Y2, .int .i64 Y10, .int .u64 (X18 : Int)] := hXe.row
    have hb2 := hXe.bel
    clear hXe
    go_wp2
    refine bodyPost_ret_by (results_Row Tryz.results44 _ W w.heap.size 52 _ _ rfl q2 Tryz.underlying52 rfl (by kernel_rfl)) rfl ?_
    exact ⟨rfl, hb2⟩
end Go.Proofs.YtjooabgjkjnhhaaGreatDoor
