
import Derived.Test.YtcpdanjbnijoiaaDoorArCMath
/-! The program's area: ask, first, place, blank, isBlank, Size. (Printed by tools/gencar14.py.) -/
namespace Go.Proofs.YtcpdanjbnijoiaaDoor
open Go.RowKit
set_option linter.unusedVariables false

theorem getD_mem {α : Type} (l : List α) (d : α) (i : Nat) (h : i < l.length) : l.getD i d ∈ l := by
  rw [List.getD_eq_getElem?_getD, List.getElem?_eq_getElem h]; exact List.getElem_mem h

set_option maxHeartbeats 1000000 in
set_option maxRecDepth 100000 in
theorem arask_any (G : RF) (s : RS) (S : ByteArray) (a : Int) (w : World) (h : CAt w G s S) :
    Calls Tryd.prog 20 #[.pointer (some ⟨G.g, 0, none⟩), .int .i64 a] w fun e w' => e = .returned (.int .i64 (s.areaE a)) ∧ w' = w := by
  have HO : Hid (∀ W, W = w → Calls Tryd.prog 33 #[.pointer (some ⟨G.g, 0, none⟩)] W fun e w' => e = .returned (.bool s.gone) ∧ w' = W) := by
    rintro W rfl
    exact cout_any G s S W h
  rcases areaE_or s a with ⟨e0, hg⟩ | ⟨hg, ⟨e0, i0, i1⟩ | ⟨e0, i0⟩⟩
  · rw [e0]
    rw [hg] at HO
    go_enter Tryd.func20, Tryd.ntmps20
    go_wp2_with (refine (HO.out _ rfl).mono ?_; rintro e w1 ⟨rfl, rfl⟩)
    go_ret
    exact ⟨rfl, rfl⟩
  · rw [e0]
    rw [hg] at HO
    by_cases hi0 : a < 0
    · go_enter Tryd.func20, Tryd.ntmps20
      go_wp2_with (refine (HO.out _ rfl).mono ?_; rintro e w1 ⟨rfl, rfl⟩)
      go_ret
      exact ⟨rfl, rfl⟩
    · have hi1 : 2 ≤ a := by omega
      have hi2 : a ≥ 2 := hi1
      go_enter Tryd.func20, Tryd.ntmps20
      go_wp2_with (refine (HO.out _ rfl).mono ?_; rintro e w1 ⟨rfl, rfl⟩)
      go_ret
      exact ⟨rfl, rfl⟩
  · rw [e0]
    rw [hg] at HO
    have hi0 : ¬ a < 0 := by omega
    have hi1 : ¬ 2 ≤ a := by omega
    have hi2 : ¬ a ≥ 2 := by omega
    go_enter Tryd.func20, Tryd.ntmps20
    go_wp2_with (refine (HO.out _ rfl).mono ?_; rintro e w1 ⟨rfl, rfl⟩)
    go_ret
    exact ⟨rfl, rfl⟩

/-- A field of a config. -/
theorem acfg_cells (a b c d e f g : Int) (w : World) : (Instr.field 23 (.agg #[.int .i64 a, .int .i64 b, .int .i64 c, .int .i64 d, .int .i64 e, .int .i64 f, .int .i64 g]) 0).run Tryd.prog w = .ok (.int .i64 a) w := by kernel_rfl
theorem acfg_erases (a b c d e f g : Int) (w : World) : (Instr.field 23 (.agg #[.int .i64 a, .int .i64 b, .int .i64 c, .int .i64 d, .int .i64 e, .int .i64 f, .int .i64 g]) 5).run Tryd.prog w = .ok (.int .i64 f) w := by kernel_rfl
theorem acfg_area (a b c d e f g : Int) (w : World) : (Instr.field 23 (.agg #[.int .i64 a, .int .i64 b, .int .i64 c, .int .i64 d, .int .i64 e, .int .i64 f, .int .i64 g]) 6).run Tryd.prog w = .ok (.int .i64 g) w := by kernel_rfl
/-- What Config tells, field by field. -/
theorem acconfig (G : RF) (s : RS) (S : ByteArray) (w : World) (h : CAt w G s S) :
    Calls Tryd.prog 21 #[.pointer (some ⟨G.g, 0, none⟩)] w fun e w' => e = .returned (.agg #[.int .i64 s.c.cells, .int .i64 s.c.slots, .int .i64 s.c.fuses, .int .i64 s.c.step, .int .i64 s.c.keys, .int .i64 s.c.erases, .int .i64 s.c.area]) ∧ Below w.heap.size w w' := cconfig_any G s S w h

set_option maxHeartbeats 1000000 in
set_option maxRecDepth 100000 in
theorem arfirst_any (G : RF) (s : RS) (S : ByteArray) (a : Int) (w : World) (h : CAt w G s S) (hA : s.Ar) (ha : a = 0 ∨ a = 1) :
    Calls Tryd.prog 34 #[.pointer (some ⟨G.g, 0, none⟩), .int .i64 a] w fun e w' => e = .returned (.int .i64 (2 + a * s.c.area)) ∧ Below w.heap.size w w' := by
  have fl := acfg_area
  have HC : Hid (∀ W, W = w → Calls Tryd.prog 21 #[.pointer (some ⟨G.g, 0, none⟩)] W fun e w' => e = .returned (.agg #[.int .i64 s.c.cells, .int .i64 s.c.slots, .int .i64 s.c.fuses, .int .i64 s.c.step, .int .i64 s.c.keys, .int .i64 s.c.erases, .int .i64 s.c.area]) ∧ Below W.heap.size W w') := by
    rintro W rfl
    exact acconfig G s S W h
  obtain ⟨n1, n2, _⟩ := hA.nums ha
  generalize s.c.area = AR at *
  generalize hAA : a * AR = AA at *
  go_enter Tryd.func34, Tryd.ntmps34
  go_wp2_with (refine (HC.out _ rfl).mono ?_; rintro e w1 ⟨rfl, hb1⟩)
  go_ret
  exact ⟨rfl, hb1⟩

structure Pl2 (W1 : World) (G : RF) (aI AA : Int) (k C KD KM PN : Nat) (L : Nat → Bool) (x12 x13 x14 x15 x16 x17 x18 x19 x20 x21 x6 x7 : Value) (W : World) : Prop where
  x : Below W1.heap.size W1 W
  p0 : L 0 = true → x12 = .pointer (some ⟨G.g, 0, none⟩)
  p1 : L 1 = true → x13 = .int .i64 aI
  p2 : L 2 = true → x14 = .int .i64 (2 + AA)
  p3 : L 3 = true → x15 = .int .i64 (k : Int)
  p4 : L 4 = true → x16 = .int .i64 (C : Int)
  p5 : L 5 = true → x17 = .int .i64 (KD : Int)
  p6 : L 6 = true → x18 = .int .i64 (PN : Int)
  p7 : L 7 = true → x19 = .int .i64 (k : Int)
  p8 : L 8 = true → x20 = .int .i64 (C : Int)
  p9 : L 9 = true → x21 = .int .i64 (KM : Int)
  p10 : L 10 = true → x6 = .int .i64 (PN : Int)
  p11 : L 11 = true → x7 = .int .i64 (KM : Int)
section
variable {W1 : World} {G : RF} {aI AA : Int} {k C KD KM PN : Nat} {L : Nat → Bool} {x12 x13 x14 x15 x16 x17 x18 x19 x20 x21 x6 x7 : Value} {W W2 : World}
theorem Pl2.s0 (h : Pl2 W1 G aI AA k C KD KM PN L x12 x13 x14 x15 x16 x17 x18 x19 x20 x21 x6 x7 W) : Pl2 W1 G aI AA k C KD KM PN (upd L 0) (.pointer (some ⟨G.g, 0, none⟩)) x13 x14 x15 x16 x17 x18 x19 x20 x21 x6 x7 W :=
  ⟨h.x, fun _ => rfl, h.p1, h.p2, h.p3, h.p4, h.p5, h.p6, h.p7, h.p8, h.p9, h.p10, h.p11⟩
theorem Pl2.s1 (h : Pl2 W1 G aI AA k C KD KM PN L x12 x13 x14 x15 x16 x17 x18 x19 x20 x21 x6 x7 W) : Pl2 W1 G aI AA k C KD KM PN (upd L 1) x12 (.int .i64 aI) x14 x15 x16 x17 x18 x19 x20 x21 x6 x7 W :=
  ⟨h.x, h.p0, fun _ => rfl, h.p2, h.p3, h.p4, h.p5, h.p6, h.p7, h.p8, h.p9, h.p10, h.p11⟩
theorem Pl2.s2 (h : Pl2 W1 G aI AA k C KD KM PN L x12 x13 x14 x15 x16 x17 x18 x19 x20 x21 x6 x7 W) (hX : Below W1.heap.size W1 W2) : Pl2 W1 G aI AA k C KD KM PN (upd L 2) x12 x13 (.int .i64 (2 + AA)) x15 x16 x17 x18 x19 x20 x21 x6 x7 W2 :=
  ⟨hX, h.p0, h.p1, fun _ => rfl, h.p3, h.p4, h.p5, h.p6, h.p7, h.p8, h.p9, h.p10, h.p11⟩
theorem Pl2.s3 (h : Pl2 W1 G aI AA k C KD KM PN L x12 x13 x14 x15 x16 x17 x18 x19 x20 x21 x6 x7 W) : Pl2 W1 G aI AA k C KD KM PN (upd L 3) x12 x13 x14 (.int .i64 (k : Int)) x16 x17 x18 x19 x20 x21 x6 x7 W :=
  ⟨h.x, h.p0, h.p1, h.p2, fun _ => rfl, h.p4, h.p5, h.p6, h.p7, h.p8, h.p9, h.p10, h.p11⟩
theorem Pl2.s4 (h : Pl2 W1 G aI AA k C KD KM PN L x12 x13 x14 x15 x16 x17 x18 x19 x20 x21 x6 x7 W) : Pl2 W1 G aI AA k C KD KM PN (upd L 4) x12 x13 x14 x15 (.int .i64 (C : Int)) x17 x18 x19 x20 x21 x6 x7 W :=
  ⟨h.x, h.p0, h.p1, h.p2, h.p3, fun _ => rfl, h.p5, h.p6, h.p7, h.p8, h.p9, h.p10, h.p11⟩
theorem Pl2.s5 (h : Pl2 W1 G aI AA k C KD KM PN L x12 x13 x14 x15 x16 x17 x18 x19 x20 x21 x6 x7 W) : Pl2 W1 G aI AA k C KD KM PN (upd L 5) x12 x13 x14 x15 x16 (.int .i64 (KD : Int)) x18 x19 x20 x21 x6 x7 W :=
  ⟨h.x, h.p0, h.p1, h.p2, h.p3, h.p4, fun _ => rfl, h.p6, h.p7, h.p8, h.p9, h.p10, h.p11⟩
theorem Pl2.s6 (h : Pl2 W1 G aI AA k C KD KM PN L x12 x13 x14 x15 x16 x17 x18 x19 x20 x21 x6 x7 W) : Pl2 W1 G aI AA k C KD KM PN (upd L 6) x12 x13 x14 x15 x16 x17 (.int .i64 (PN : Int)) x19 x20 x21 x6 x7 W :=
  ⟨h.x, h.p0, h.p1, h.p2, h.p3, h.p4, h.p5, fun _ => rfl, h.p7, h.p8, h.p9, h.p10, h.p11⟩
theorem Pl2.s7 (h : Pl2 W1 G aI AA k C KD KM PN L x12 x13 x14 x15 x16 x17 x18 x19 x20 x21 x6 x7 W) : Pl2 W1 G aI AA k C KD KM PN (upd L 7) x12 x13 x14 x15 x16 x17 x18 (.int .i64 (k : Int)) x20 x21 x6 x7 W :=
  ⟨h.x, h.p0, h.p1, h.p2, h.p3, h.p4, h.p5, h.p6, fun _ => rfl, h.p8, h.p9, h.p10, h.p11⟩
theorem Pl2.s8 (h : Pl2 W1 G aI AA k C KD KM PN L x12 x13 x14 x15 x16 x17 x18 x19 x20 x21 x6 x7 W) : Pl2 W1 G aI AA k C KD KM PN (upd L 8) x12 x13 x14 x15 x16 x17 x18 x19 (.int .i64 (C : Int)) x21 x6 x7 W :=
  ⟨h.x, h.p0, h.p1, h.p2, h.p3, h.p4, h.p5, h.p6, h.p7, fun _ => rfl, h.p9, h.p10, h.p11⟩
theorem Pl2.s9 (h : Pl2 W1 G aI AA k C KD KM PN L x12 x13 x14 x15 x16 x17 x18 x19 x20 x21 x6 x7 W) : Pl2 W1 G aI AA k C KD KM PN (upd L 9) x12 x13 x14 x15 x16 x17 x18 x19 x20 (.int .i64 (KM : Int)) x6 x7 W :=
  ⟨h.x, h.p0, h.p1, h.p2, h.p3, h.p4, h.p5, h.p6, h.p7, h.p8, fun _ => rfl, h.p10, h.p11⟩
theorem Pl2.s10 (h : Pl2 W1 G aI AA k C KD KM PN L x12 x13 x14 x15 x16 x17 x18 x19 x20 x21 x6 x7 W) : Pl2 W1 G aI AA k C KD KM PN (upd L 10) x12 x13 x14 x15 x16 x17 x18 x19 x20 x21 (.int .i64 (PN : Int)) x7 W :=
  ⟨h.x, h.p0, h.p1, h.p2, h.p3, h.p4, h.p5, h.p6, h.p7, h.p8, h.p9, fun _ => rfl, h.p11⟩
theorem Pl2.s11 (h : Pl2 W1 G aI AA k C KD KM PN L x12 x13 x14 x15 x16 x17 x18 x19 x20 x21 x6 x7 W) : Pl2 W1 G aI AA k C KD KM PN (upd L 11) x12 x13 x14 x15 x16 x17 x18 x19 x20 x21 x6 (.int .i64 (KM : Int)) W :=
  ⟨h.x, h.p0, h.p1, h.p2, h.p3, h.p4, h.p5, h.p6, h.p7, h.p8, h.p9, h.p10, fun _ => rfl⟩
end
@[reducible] def IPl2 (W1 : World) (G : RF) (aI AA : Int) (k C KD KM PN : Nat) (y0 y1 y2 y3 y4 y5 y8 y9 y10 y11 : Value) : (Nat → Bool) → Act → World → Prop := fun L a W => ∃ x12 x13 x14 x15 x16 x17 x18 x19 x20 x21 x6 x7, a = ⟨#[y0, y1, y2, y3, y4, y5, x6, x7, y8, y9, y10, y11, x12, x13, x14, x15, x16, x17, x18, x19, x20, x21], []⟩ ∧ Pl2 W1 G aI AA k C KD KM PN L x12 x13 x14 x15 x16 x17 x18 x19 x20 x21 x6 x7 W
theorem Pl2.step {W1 : World} {G : RF} {aI AA : Int} {k C KD KM PN : Nat} {y0 y1 y2 y3 y4 y5 y8 y9 y10 y11 : Value} {P : Program} {ops : Array Oper} {Q : Exit → Act → World → Prop} {i : Nat} {o : Oper} (hq : ∀ x12 x13 x14 x15 x16 x17 x18 x19 x20 x21 x6 x7 (L : Nat → Bool) (W : World), Pl2 W1 G aI AA k C KD KM PN L x12 x13 x14 x15 x16 x17 x18 x19 x20 x21 x6 x7 W → L i = false → (∀ j ∈ onesOf o, L j = true) → ∀ K : Act → World → Prop, Shut (∀ a' w', IPl2 W1 G aI AA k C KD KM PN y0 y1 y2 y3 y4 y5 y8 y9 y10 y11 (upd L i) a' w' → K a' w') → if Region.wanted o (yielded ops (⟨#[y0, y1, y2, y3, y4, y5, x6, x7, y8, y9, y10, y11, x12, x13, x14, x15, x16, x17, x18, x19, x20, x21], []⟩ : Act).tmps) = true then Oper.wp P o ⟨#[y0, y1, y2, y3, y4, y5, x6, x7, y8, y9, y10, y11, x12, x13, x14, x15, x16, x17, x18, x19, x20, x21], []⟩ W K Q else K ((⟨#[y0, y1, y2, y3, y4, y5, x6, x7, y8, y9, y10, y11, x12, x13, x14, x15, x16, x17, x18, x19, x20, x21], []⟩ : Act).put o.dst undef) W) : StepI P ops (IPl2 W1 G aI AA k C KD KM PN y0 y1 y2 y3 y4 y5 y8 y9 y10 y11) Q i o := by
  rintro L a W ⟨x12, x13, x14, x15, x16, x17, x18, x19, x20, x21, x6, x7, rfl, h⟩
  exact hq _ _ _ _ _ _ _ _ _ _ _ _ _ _ h
theorem Pl2.ends {W1 : World} {G : RF} {aI AA : Int} {k C KD KM PN : Nat} {y0 y1 y2 y3 y4 y5 y8 y9 y10 y11 : Value} {mm_ : Nat} {Q : Exit → Act → World → Prop} (hq : ∀ x12 x13 x14 x15 x16 x17 x18 x19 x20 x21 x6 x7 (L : Nat → Bool) (W : World), (∀ j, j < mm_ → L j = true) → Pl2 W1 G aI AA k C KD KM PN L x12 x13 x14 x15 x16 x17 x18 x19 x20 x21 x6 x7 W → Q .normal ⟨#[y0, y1, y2, y3, y4, y5, x6, x7, y8, y9, y10, y11, x12, x13, x14, x15, x16, x17, x18, x19, x20, x21], []⟩ W) : ∀ L a' w', (∀ j, j < mm_ → L j = true) → IPl2 W1 G aI AA k C KD KM PN y0 y1 y2 y3 y4 y5 y8 y9 y10 y11 L a' w' → Q .normal a' w' := by
  rintro L a W hall ⟨x12, x13, x14, x15, x16, x17, x18, x19, x20, x21, x6, x7, rfl, h⟩
  exact hq _ _ _ _ _ _ _ _ _ _ _ _ _ _ hall h
set_option maxHeartbeats 1000000 in
set_option maxRecDepth 100000 in
theorem arplace_any (G : RF) (s : RS) (S : ByteArray) (a : Int) (k : Nat) (w : World) (h : CAt w G s S) (hA : s.Ar) (ha : a = 0 ∨ a = 1) (hk : k < s.c.area.toNat * s.c.cells.toNat) :
    Calls Tryd.prog 40 #[.pointer (some ⟨G.g, 0, none⟩), .int .i64 a, .int .i64 (k : Int)] w fun e w' => e = .returned (.tuple #[.int .i64 ((s.pgN a (k / s.c.cells.toNat) : Nat) : Int), .int .i64 ((k % s.c.cells.toNat : Nat) : Int)]) ∧ Below w.heap.size w w' := by
  have fl := acfg_cells
  have HC : Hid (∀ W, W = w → Calls Tryd.prog 21 #[.pointer (some ⟨G.g, 0, none⟩)] W fun e w' => e = .returned (.agg #[.int .i64 s.c.cells, .int .i64 s.c.slots, .int .i64 s.c.fuses, .int .i64 s.c.step, .int .i64 s.c.keys, .int .i64 s.c.erases, .int .i64 s.c.area]) ∧ Below W.heap.size W w') := by
    rintro W rfl
    exact acconfig G s S W h
  have HF : Hid (∀ W, Below w.heap.size w W → Calls Tryd.prog 34 #[.pointer (some ⟨G.g, 0, none⟩), .int .i64 a] W fun e w' => e = .returned (.int .i64 (2 + a * s.c.area)) ∧ Below W.heap.size W w') := fun W hW => arfirst_any G s S a W (h.below hW (Nat.le_refl _)) hA ha
  obtain ⟨n1, n2, n3⟩ := hA.nums ha
  have har := hA.area
  have hce := hA.cells
  have hMC : s.c.area.toNat * s.c.cells.toNat ≤ 64 * 256 := Nat.mul_le_mul (by omega) (by omega)
  have hk2 : k < 16384 := by omega
  have hkc : k / s.c.cells.toNat < s.c.area.toNat := Nat.div_lt_of_lt_mul (by rw [Nat.mul_comm]; exact hk)
  obtain ⟨m1, _, _⟩ := n3 _ hkc
  obtain ⟨C, hC⟩ : ∃ C : Nat, s.c.cells = (C : Int) := Int.eq_ofNat_of_zero_le (by omega)
  have hCt : s.c.cells.toNat = C := by omega
  rw [hCt] at m1 ⊢
  rw [hC] at HC
  have q1 : (k : Int) / (C : Int) = ((k / C : Nat) : Int) := by rw [Int.natCast_ediv]
  have q2 : Int.tmod (k : Int) (C : Int) = ((k % C : Nat) : Int) := rfl
  have q3 : Int.tdiv (k : Int) (C : Int) = ((k / C : Nat) : Int) := rfl
  have q4 : (k : Int) % (C : Int) = ((k % C : Nat) : Int) := by rw [Int.natCast_emod]
  have hC0 : ¬ (C : Int) = 0 := by omega
  have hC1 : ((C : Int) == 0) = false := by simpa using hC0
  have hC2 : ¬ C = 0 := by omega
  have kd0 : k / C ≤ k := Nat.div_le_self _ _
  have wkd : IntKind.i64.wrap ((k / C : Nat) : Int) = ((k / C : Nat) : Int) := by
    have hkd : k / C < 16384 := Nat.lt_of_le_of_lt kd0 hk2
    generalize k / C = z at hkd
    exact i64_in _ (by omega) (by omega)
  clear h n3 hkc hk hMC hA hC hCt
  generalize s.c.area = AR at *
  generalize hAA : a * AR = AA at *
  generalize s.pgN a (k / C) = PN at *
  generalize hkd : k / C = KD at *
  generalize hkm : k % C = KM at *
  clear hkd hkm
  go_enter Tryd.func40, Tryd.ntmps40
  go_wp2_with fail
  refine (HC.out _ rfl).mono ?_
  rintro e w1 ⟨rfl, hb1⟩
  dsimp only
  have HF1 : Hid (∀ W, Below w1.heap.size w1 W → Calls Tryd.prog 34 #[.pointer (some ⟨G.g, 0, none⟩), .int .i64 a] W fun e w' => e = .returned (.int .i64 (2 + AA)) ∧ Below W.heap.size W w') := fun W hW => HF.out W (hb1.trans (hW.mono hb1.size))
  clear HF HC
  go_wp2_with fail
  refine wp_region_inv (IPl2 w1 G a AA k C KD KM PN _ _ _ _ _ _ _ _ _ _) (by kernel_rfl) (by kernel_rfl) ⟨_, _, _, _, _, _, _, _, _, _, _, _, rfl, ⟨(Below.refl _ _).drew, fun k => (by cases k), fun k => (by cases k), fun k => (by cases k), fun k => (by cases k), fun k => (by cases k), fun k => (by cases k), fun k => (by cases k), fun k => (by cases k), fun k => (by cases k), fun k => (by cases k), fun k => (by cases k), fun k => (by cases k)⟩⟩ ?_ ?_
  · refine .cons ?_ (.cons ?_ (.cons ?_ (.cons ?_ (.cons ?_ (.cons ?_ (.cons ?_ (.cons ?_ (.cons ?_ (.cons ?_ (.cons ?_ (.cons ?_ .nil)))))))))))
    all_goals (refine Pl2.step ?_; intro x12 x13 x14 x15 x16 x17 x18 x19 x20 x21 x6 x7 L W hI hL hd K hK)
    · rw [if_pos (by rfl)]
      go_simp
      exact hK.out _ _ ⟨_, _, _, _, _, _, _, _, _, _, _, _, rfl, hI.s0⟩
    · rw [if_pos (by rfl)]
      go_simp
      exact hK.out _ _ ⟨_, _, _, _, _, _, _, _, _, _, _, _, rfl, hI.s1⟩
    · have hx0 := hI.p0 (hd 0 (by decide))
      subst hx0
      have hx1 := hI.p1 (hd 1 (by decide))
      subst hx1
      rw [if_pos (by rfl)]
      go_simp
      refine (HF1.out W hI.x).mono ?_
      rintro e W2 ⟨rfl, hb3⟩
      go_simp
      exact hK.out _ _ ⟨_, _, _, _, _, _, _, _, _, _, _, _, rfl, hI.s2 (hI.x.trans (hb3.mono hI.x.size))⟩
    · rw [if_pos (by rfl)]
      go_simp
      exact hK.out _ _ ⟨_, _, _, _, _, _, _, _, _, _, _, _, rfl, hI.s3⟩
    · rw [if_pos (by rfl)]
      go_simp
      exact hK.out _ _ ⟨_, _, _, _, _, _, _, _, _, _, _, _, rfl, hI.s4⟩
    · have hx3 := hI.p3 (hd 3 (by decide))
      subst hx3
      have hx4 := hI.p4 (hd 4 (by decide))
      subst hx4
      rw [if_pos (by rfl)]
      go_simp
      exact hK.out _ _ ⟨_, _, _, _, _, _, _, _, _, _, _, _, rfl, hI.s5⟩
    · have hx2 := hI.p2 (hd 2 (by decide))
      subst hx2
      have hx5 := hI.p5 (hd 5 (by decide))
      subst hx5
      rw [if_pos (by rfl)]
      go_simp
      exact hK.out _ _ ⟨_, _, _, _, _, _, _, _, _, _, _, _, rfl, hI.s6⟩
    · rw [if_pos (by rfl)]
      go_simp
      exact hK.out _ _ ⟨_, _, _, _, _, _, _, _, _, _, _, _, rfl, hI.s7⟩
    · rw [if_pos (by rfl)]
      go_simp
      exact hK.out _ _ ⟨_, _, _, _, _, _, _, _, _, _, _, _, rfl, hI.s8⟩
    · have hx7 := hI.p7 (hd 7 (by decide))
      subst hx7
      have hx8 := hI.p8 (hd 8 (by decide))
      subst hx8
      rw [if_pos (by rfl)]
      go_simp
      exact hK.out _ _ ⟨_, _, _, _, _, _, _, _, _, _, _, _, rfl, hI.s9⟩
    · have hx6 := hI.p6 (hd 6 (by decide))
      subst hx6
      rw [if_pos (by rfl)]
      go_simp
      exact hK.out _ _ ⟨_, _, _, _, _, _, _, _, _, _, _, _, rfl, hI.s10⟩
    · have hx9 := hI.p9 (hd 9 (by decide))
      subst hx9
      rw [if_pos (by rfl)]
      go_simp
      exact hK.out _ _ ⟨_, _, _, _, _, _, _, _, _, _, _, _, rfl, hI.s11⟩
  · refine Pl2.ends ?_; intro x12 x13 x14 x15 x16 x17 x18 x19 x20 x21 x6 x7 L W hall hI
    have hx0 := hI.p0 (hall 0 (by decide))
    subst hx0
    have hx1 := hI.p1 (hall 1 (by decide))
    subst hx1
    have hx2 := hI.p2 (hall 2 (by decide))
    subst hx2
    have hx3 := hI.p3 (hall 3 (by decide))
    subst hx3
    have hx4 := hI.p4 (hall 4 (by decide))
    subst hx4
    have hx5 := hI.p5 (hall 5 (by decide))
    subst hx5
    have hx6 := hI.p6 (hall 6 (by decide))
    subst hx6
    have hx7 := hI.p7 (hall 7 (by decide))
    subst hx7
    have hx8 := hI.p8 (hall 8 (by decide))
    subst hx8
    have hx9 := hI.p9 (hall 9 (by decide))
    subst hx9
    have hx10 := hI.p10 (hall 10 (by decide))
    subst hx10
    have hx11 := hI.p11 (hall 11 (by decide))
    subst hx11
    have hXe := hI.x
    clear hI hall
    try dsimp only
    have hX2 := hXe
    go_wp2
    go_ret2
    exact ⟨rfl, hb1.trans (hX2.mono hb1.size)⟩

set_option maxHeartbeats 1000000 in
set_option maxRecDepth 100000 in
theorem arblank_any (w : World) : Calls Tryd.prog 45 #[] w fun e w' => e = .returned (.agg (blankC.map B8).toArray) ∧ Below w.heap.size w w' := by
  have r0 := Row.at w 40 ((List.replicate 32 (0 : By)).map B8) _ _ rfl rfl
  have b0 : ∀ o1, Below w.heap.size w (w.alloc o1) := fun o1 => (Below.refl _ _).alloc (Nat.le_refl _) _
  have r9 : ∀ o1 : Obj, Row ((w.alloc o1).alloc (.cells ((List.replicate 32 (0 : By)).map B8).toArray 40)) (w.heap.size + 1) 40 ((List.replicate 32 (0 : By)).map B8) := fun o1 => Row.at _ _ _ _ _ (by simp) rfl
  go_enter Tryd.func45, Tryd.ntmps45
  go_wp2_with fail
  go_loopw [3] (fun iv wr => ∃ k : Nat, k ≤ 32 ∧ iv = .int .i64 k ∧ Row wr (w.heap.size + 1) 40 ((List.replicate k (255#8 : By) ++ List.replicate (32 - k) 0).map B8) ∧ Row wr w.heap.size 40 ((List.replicate 32 (0 : By)).map B8) ∧ Below w.heap.size w wr) (fun iv _ => 32 - (intOf iv).toNat)
  case atStart => exact ⟨0, by omega, rfl, r9 _, r0.alloc _, (b0 _).alloc (by simp) _⟩
  case round =>
    clear r0 b0 r9
    obtain ⟨k, hk, rfl, r1, r2, b1⟩ := hrel
    by_cases hlt : k < 32
    · have y0 : (0 : Int) ≤ (k : Int) := by omega
      have y1 : (k : Int) < 32 := by omega
      have hl : (List.replicate k (255#8 : By) ++ List.replicate (32 - k) 0).length = 32 := by simp; omega
      have ck : ∃ v, wr.cell? ⟨w.heap.size + 1, k, none⟩ = some v := ⟨_, r1.cell k _ (List.getElem?_eq_getElem (by rw [List.length_map, hl]; exact hlt))⟩
      obtain ⟨v0, ck⟩ := ck
      have fk := r1.frozen k
      have r3 := r1.set k (.int .u8 255)
      rw [map_set_255, blank_set k hlt] at r3
      have HR : Hid (Row (wr.setCell ⟨w.heap.size + 1, k, none⟩ (.int .u8 255)) (w.heap.size + 1) 40 ((List.replicate (k + 1) (255#8 : By) ++ List.replicate (32 - (k + 1)) 0).map B8)) := r3
      clear r3 hl r1
      have sb := SameBut.setCell (w.heap.size + 1) k (.int .u8 255) wr
      go_wp2
      exact ⟨⟨k + 1, by omega, by go_num, HR.out, r2.but sb (by omega), sb.below b1 (by omega)⟩, by simp [intOf]; omega⟩
    · obtain rfl : k = 32 := by omega
      have y1 : ¬ ((32 : Nat) : Int) < 32 := by omega
      replace r1 : Row wr (w.heap.size + 1) 40 ((List.replicate 32 (255#8 : By)).map B8) := by simpa using r1
      clear hlt hk
      go_wp2_with (first | (refine wpList_load_Row rfl 40 _ rfl _ _ _ r1 rfl _ Tryd.underlying40 rfl (by kernel_rfl) ?_) | (refine wpList_store_Row rfl 40 _ _ rfl _ _ 0 _ ((List.replicate 32 (255#8 : By)).map B8) r2 (by simp) rfl rfl (by kernel_rfl) (B8_one _) ?_; intro w9 hr9 hs9))
      have hr := row_whole hr9 (by simp)
      exact bodyPost_ret_by (results_Row Tryd.results45 _ w9 w.heap.size 40 _ _ rfl hr Tryd.underlying40 rfl (by kernel_rfl)) rfl ⟨rfl, hs9.below b1 (Nat.le_refl _)⟩

structure Ib7 (W1 : World) (X BC : List By) (r : Bool) (L : Nat → Bool) (x25 x26 x27 : Value) (W : World) : Prop where
  x : Below W1.heap.size W1 W
  p0 : L 0 = true → x25 = .agg (X.map B8).toArray
  p1 : L 1 = true → x26 = .agg (BC.map B8).toArray
  p2 : L 2 = true → x27 = .bool (!r)
section
variable {W1 : World} {X BC : List By} {r : Bool} {L : Nat → Bool} {x25 x26 x27 : Value} {W W2 : World}
theorem Ib7.s0 (h : Ib7 W1 X BC r L x25 x26 x27 W) : Ib7 W1 X BC r (upd L 0) (.agg (X.map B8).toArray) x26 x27 W :=
  ⟨h.x, fun _ => rfl, h.p1, h.p2⟩
theorem Ib7.s1 (h : Ib7 W1 X BC r L x25 x26 x27 W) (hX : Below W1.heap.size W1 W2) : Ib7 W1 X BC r (upd L 1) x25 (.agg (BC.map B8).toArray) x27 W2 :=
  ⟨hX, h.p0, fun _ => rfl, h.p2⟩
theorem Ib7.s2 (h : Ib7 W1 X BC r L x25 x26 x27 W) : Ib7 W1 X BC r (upd L 2) x25 x26 (.bool (!r)) W :=
  ⟨h.x, h.p0, h.p1, fun _ => rfl⟩
end
@[reducible] def IIb7 (W1 : World) (X BC : List By) (r : Bool) (y0 y1 y2 y3 y4 y5 y6 y7 y8 y9 y10 y11 y12 y13 y14 y15 y16 y17 y18 y19 y20 y21 y22 y23 y24 y28 : Value) : (Nat → Bool) → Act → World → Prop := fun L a W => ∃ x25 x26 x27, a = ⟨#[y0, y1, y2, y3, y4, y5, y6, y7, y8, y9, y10, y11, y12, y13, y14, y15, y16, y17, y18, y19, y20, y21, y22, y23, y24, x25, x26, x27, y28], []⟩ ∧ Ib7 W1 X BC r L x25 x26 x27 W
theorem Ib7.step {W1 : World} {X BC : List By} {r : Bool} {y0 y1 y2 y3 y4 y5 y6 y7 y8 y9 y10 y11 y12 y13 y14 y15 y16 y17 y18 y19 y20 y21 y22 y23 y24 y28 : Value} {P : Program} {ops : Array Oper} {Q : Exit → Act → World → Prop} {i : Nat} {o : Oper} (hq : ∀ x25 x26 x27 (L : Nat → Bool) (W : World), Ib7 W1 X BC r L x25 x26 x27 W → L i = false → (∀ j ∈ onesOf o, L j = true) → ∀ K : Act → World → Prop, Shut (∀ a' w', IIb7 W1 X BC r y0 y1 y2 y3 y4 y5 y6 y7 y8 y9 y10 y11 y12 y13 y14 y15 y16 y17 y18 y19 y20 y21 y22 y23 y24 y28 (upd L i) a' w' → K a' w') → if Region.wanted o (yielded ops (⟨#[y0, y1, y2, y3, y4, y5, y6, y7, y8, y9, y10, y11, y12, y13, y14, y15, y16, y17, y18, y19, y20, y21, y22, y23, y24, x25, x26, x27, y28], []⟩ : Act).tmps) = true then Oper.wp P o ⟨#[y0, y1, y2, y3, y4, y5, y6, y7, y8, y9, y10, y11, y12, y13, y14, y15, y16, y17, y18, y19, y20, y21, y22, y23, y24, x25, x26, x27, y28], []⟩ W K Q else K ((⟨#[y0, y1, y2, y3, y4, y5, y6, y7, y8, y9, y10, y11, y12, y13, y14, y15, y16, y17, y18, y19, y20, y21, y22, y23, y24, x25, x26, x27, y28], []⟩ : Act).put o.dst undef) W) : StepI P ops (IIb7 W1 X BC r y0 y1 y2 y3 y4 y5 y6 y7 y8 y9 y10 y11 y12 y13 y14 y15 y16 y17 y18 y19 y20 y21 y22 y23 y24 y28) Q i o := by
  rintro L a W ⟨x25, x26, x27, rfl, h⟩
  exact hq _ _ _ _ _ h
theorem Ib7.ends {W1 : World} {X BC : List By} {r : Bool} {y0 y1 y2 y3 y4 y5 y6 y7 y8 y9 y10 y11 y12 y13 y14 y15 y16 y17 y18 y19 y20 y21 y22 y23 y24 y28 : Value} {mm_ : Nat} {Q : Exit → Act → World → Prop} (hq : ∀ x25 x26 x27 (L : Nat → Bool) (W : World), (∀ j, j < mm_ → L j = true) → Ib7 W1 X BC r L x25 x26 x27 W → Q .normal ⟨#[y0, y1, y2, y3, y4, y5, y6, y7, y8, y9, y10, y11, y12, y13, y14, y15, y16, y17, y18, y19, y20, y21, y22, y23, y24, x25, x26, x27, y28], []⟩ W) : ∀ L a' w', (∀ j, j < mm_ → L j = true) → IIb7 W1 X BC r y0 y1 y2 y3 y4 y5 y6 y7 y8 y9 y10 y11 y12 y13 y14 y15 y16 y17 y18 y19 y20 y21 y22 y23 y24 y28 L a' w' → Q .normal a' w' := by
  rintro L a W hall ⟨x25, x26, x27, rfl, h⟩
  exact hq _ _ _ _ _ hall h
set_option maxHeartbeats 2000000 in
set_option maxRecDepth 100000 in
theorem arisBlank_any (G : RF) (s : RS) (S : ByteArray) (q : Nat) (w : World) (h : CAt w G s S) (hA : s.Ar) (hg : s.gone = false) (hq : q < s.pages.length) :
    Calls Tryd.prog 35 #[.pointer (some ⟨G.g, 0, none⟩), .int .i64 (q : Int)] w fun e w' => e = .returned (.tuple #[.bool (isBlank (s.pages.getD q [])), .int .i64 0]) ∧ Below w.heap.size w w' := by
  have fl := acfg_cells
  have hce := hA.cells
  obtain ⟨C, hC⟩ : ∃ C : Nat, s.c.cells = (C : Int) := Int.eq_ofNat_of_zero_le (by omega)
  have HC : Hid (∀ W, W = w → Calls Tryd.prog 21 #[.pointer (some ⟨G.g, 0, none⟩)] W fun e w' => e = .returned (.agg #[.int .i64 (C : Int), .int .i64 s.c.slots, .int .i64 s.c.fuses, .int .i64 s.c.step, .int .i64 s.c.keys, .int .i64 s.c.erases, .int .i64 s.c.area]) ∧ Below W.heap.size W w') := by
    rintro W rfl
    rw [← hC]
    exact acconfig G s S W h
  have hpl : (s.pages.getD q []).length = C := by have := hA.pgLen hq; omega
  have HRD : Hid (∀ W (i : Nat), Below w.heap.size w W → i < C → Calls Tryd.prog 15 #[.pointer (some ⟨G.g, 0, none⟩), .int .i64 (q : Int), .int .i64 (i : Int)] W fun e w' => e = .returned (.tuple #[.agg (((s.pages.getD q []).getD i []).map B8).toArray, .int .i64 0]) ∧ Below W.heap.size W w') := fun W i hW hi => by
    have := cread_any G s S (q : Int) (i : Int) W (h.below hW (Nat.le_refl _))
    have e1 : s.at (q : Int) (i : Int) = 0 := at_of hg hq (by omega)
    rw [e1, if_pos rfl, Int.toNat_natCast, Int.toNat_natCast] at this
    exact this
  have H32 : Hid (∀ i, i < C → ((s.pages.getD q []).getD i []).length = 32) := fun i hi => hA.by8 hq _ (getD_mem _ _ _ (by omega))
  have HPL : Hid ((s.pages.getD q []).length = C) := hpl
  have HB : Hid (∀ W, Calls Tryd.prog 45 #[] W fun e w' => e = .returned (.agg (blankC.map B8).toArray) ∧ Below W.heap.size W w') := fun W => arblank_any W
  have HBL : Hid (blankC.length = 32) := rfl
  clear h hA hg hq hpl
  generalize s.pages.getD q [] = pg at *
  generalize hBC : blankC = BC at *
  have HBC : Hid (blankC = BC) := hBC
  clear hBC
  go_enter Tryd.func35, Tryd.ntmps35
  go_wp2_with fail
  refine (HC.out _ rfl).mono ?_
  rintro e w1 ⟨rfl, hb1⟩
  dsimp only
  go_wp2_with fail
  go_loopw [12] (fun iv wr => ∃ i : Nat, i ≤ C ∧ iv = .int .i64 i ∧ Hid (isBlank (pg.take i) = true) ∧ Below w.heap.size w wr) (fun iv _ => C - (intOf iv).toNat)
  case atStart => exact ⟨0, by omega, rfl, isBlank_take pg, hb1⟩
  case round =>
    clear hb1 HC
    obtain ⟨i, hi, rfl, HT, hb⟩ := hrel
    by_cases hlt : i < C
    · have y0 : (0 : Int) ≤ (i : Int) := by omega
      have y1 : (i : Int) < (C : Int) := by omega
      have hx := H32.out i hlt
      have RD := HRD.out _ i hb hlt
      have hq := eq_cell (pg.getD i []) BC hx HBL.out
      have HY : Hid (pg.getD i [] = BC → isBlank (pg.take (i + 1)) = true) := fun e => isBlank_step HT.out (by rw [HPL.out]; exact hlt) (by rw [HBC.out]; exact e)
      have HX : Hid (¬ pg.getD i [] = BC → isBlank pg = false) := fun e => isBlank_no (by rw [HPL.out]; exact hlt) (by rw [HBC.out]; exact e)
      obtain ⟨r, hr⟩ : ∃ r, r = decide (pg.getD i [] = BC) := ⟨_, rfl⟩
      rw [← hr] at hq
      have HQ : Hid (∀ W : World, (Op.equalIn 10000 40 (.agg ((pg.getD i []).map B8).toArray) (.agg (BC.map B8).toArray)).run Tryd.prog W = .ok r W) := hq
      have lx : ((pg.getD i []).map B8).length = 32 := by rw [List.length_map, hx]
      have HRR : Hid (r = decide (pg.getD i [] = BC)) := hr
      clear hq hr hx
      generalize pg.getD i [] = X at *
      go_wp2_with fail
      refine RD.mono ?_
      clear RD
      rintro e w2 ⟨rfl, hb2⟩
      dsimp only
      have r9 := Row.at w2 40 (List.replicate 32 (.int .u8 0)) _ _ rfl rfl
      have bb2 : Below w.heap.size w w2 := hb.trans (hb2.mono hb.size)
      have hz2 := bb2.size
      have ba := fun o1 : Obj => bb2.alloc hz2 o1
      generalize hGX : w2.heap.size = GX at *
      go_wp2_with (refine wpList_store_Row rfl 40 _ _ rfl GX 40 0 (List.replicate 32 (.int .u8 0)) (X.map B8) r9 (by rw [lx]; exact Nat.le_refl _) rfl rfl (by rw [lx]; kernel_rfl) (B8_one _) ?_; intro w3 hr3 hs3)
      have r3 : Row w3 GX 40 (X.map B8) := row_whole hr3 (by rw [lx]; exact Nat.le_refl _)
      have b3 : Below w.heap.size w w3 := hs3.below (ba _) hz2
      have HR : Hid (∀ W, Below w3.heap.size w3 W → W.rangeAt GX 0 (X.map B8)) := fun W hW j v hv => by
        have := (r3.below hW r3.lt).cell j v hv
        simpa using this
      clear hr3 hs3 r3 ba r9
      refine wp_region_inv (IIb7 w3 X BC r _ _ _ _ _ _ _ _ _ _ _ _ _ _ _ _ _ _ _ _ _ _ _ _ _ _) (by kernel_rfl) (by kernel_rfl) ⟨_, _, _, rfl, ⟨(Below.refl _ _).drew, fun k => (by cases k), fun k => (by cases k), fun k => (by cases k)⟩⟩ ?_ ?_
      · refine .cons ?_ (.cons ?_ (.cons ?_ .nil))
        all_goals (refine Ib7.step ?_; intro x25 x26 x27 L W hI hL hd K hK)
        · refine step_load_rng rfl 40 _ rfl GX 0 _ (HR.out W hI.x) rfl _ Tryd.underlying40 rfl (by rw [lx]; kernel_rfl) ?_
          exact hK.out _ _ ⟨_, _, _, rfl, hI.s0⟩
        · rw [if_pos (by rfl)]
          go_simp
          refine (HB.out W).mono ?_
          rintro e W2 ⟨rfl, hb3⟩
          go_simp
          exact hK.out _ _ ⟨_, _, _, rfl, hI.s1 (hI.x.trans (hb3.mono hI.x.size))⟩
        · have hx0 := hI.p0 (hd 0 (by decide))
          subst hx0
          have hx1 := hI.p1 (hd 1 (by decide))
          subst hx1
          rw [if_pos (by rfl)]
          have hq := HQ.out
          go_simp
          exact hK.out _ _ ⟨_, _, _, rfl, hI.s2⟩
      · refine Ib7.ends ?_; intro x25 x26 x27 L W hall hI
        have hx0 := hI.p0 (hall 0 (by decide))
        subst hx0
        have hx1 := hI.p1 (hall 1 (by decide))
        subst hx1
        have hx2 := hI.p2 (hall 2 (by decide))
        subst hx2
        have hXe := hI.x
        clear hI hall
        try dsimp only
        have hX2 := hXe
        have b4 : Below w.heap.size w W := b3.trans (hX2.mono b3.size)
        clear hX2 hXe HR
        cases r with
        | true =>
          have h1 := HY.out (of_decide_eq_true HRR.out.symm)
          go_wp2
          exact ⟨⟨i + 1, by omega, by go_num, h1, b4⟩, by simp [intOf]; omega⟩
        | false =>
          have h1 := HX.out (of_decide_eq_false HRR.out.symm)
          go_wp2
          go_ret2
          exact ⟨by rw [h1]; rfl, b4⟩
    · obtain rfl : i = C := by omega
      have e : isBlank pg = true := by have := HT.out; rw [List.take_of_length_le (Nat.le_of_eq HPL.out)] at this; exact this
      clear HT
      go_wp2
      go_ret2
      exact ⟨by rw [e]; rfl, hb⟩

set_option maxHeartbeats 1000000 in
set_option maxRecDepth 100000 in
theorem arsize_any (c : Cfg) (w : World) :
    Calls Tryd.prog 10 #[.agg c.vals.toArray] w fun e w' => e = .returned (.int .i64 c.asize) ∧ Below w.heap.size w w' := by
  have r0 := Row.at w 23 c.vals _ _ rfl rfl
  have M := cmay_any c (w.alloc (.cells c.vals.toArray 23))
  have b1 : Below w.heap.size w (w.alloc (.cells c.vals.toArray 23)) := (Below.refl _ _).alloc (Nat.le_refl _) _
  have hz : (w.alloc (.cells c.vals.toArray 23)).heap.size = w.heap.size + 1 := by simp
  have HR : Hid (∀ W, Below (w.heap.size + 1) (w.alloc (.cells c.vals.toArray 23)) W → Row W w.heap.size 23 c.vals) := fun W h => r0.below h (by omega)
  have hl : c.vals.length = 7 := rfl
  have HV0 : Hid (c.vals[0]? = some (.int .i64 c.cells)) := rfl
  have HV6 : Hid (c.vals[6]? = some (.int .i64 c.area)) := rfl
  by_cases hm : c.may = 0
  · obtain ⟨e0, z1, z2⟩ := asize_le hm
    rw [e0]
    rw [hm] at M
    have y1 : IntKind.i64.wrap (c.area * c.cells) = c.area * c.cells := i64_in _ (by omega) (by omega)
    have y2 : IntKind.i64.wrap (c.area * c.cells * 32) = c.area * c.cells * 32 := i64_in _ (by omega) (by omega)
    clear hm e0
    generalize c.vals = CV at *
    generalize c.area = AR at *
    generalize c.cells = CE at *
    go_enter Tryd.func10, Tryd.ntmps10
    go_wp2_with (refine wpList_load_Row rfl 23 _ rfl _ _ CV r0 rfl _ Tryd.underlying23 rfl (by rw [hl]; kernel_rfl) ?_)
    refine M.mono ?_
    rintro e w2 ⟨rfl, hb2⟩
    rw [hz] at hb2
    have r2 := HR.out _ hb2
    have c0 := r2.cell 0 _ HV0.out
    have c6 := r2.cell 6 _ HV6.out
    dsimp only
    go_wp2
    go_ret
    exact ⟨rfl, b1.trans (hb2.mono (by omega))⟩
  · rw [asize_zero hm]
    have hq : (c.may != 0) = true := by simpa using hm
    generalize c.may = MY at *
    generalize c.vals = CV at *
    go_enter Tryd.func10, Tryd.ntmps10
    go_wp2_with (refine wpList_load_Row rfl 23 _ rfl _ _ CV r0 rfl _ Tryd.underlying23 rfl (by rw [hl]; kernel_rfl) ?_)
    refine M.mono ?_
    rintro e w2 ⟨rfl, hb2⟩
    rw [hz] at hb2
    dsimp only
    go_wp2
    go_ret
    exact ⟨rfl, b1.trans (hb2.mono (by omega))⟩
end Go.Proofs.YtcpdanjbnijoiaaDoor
