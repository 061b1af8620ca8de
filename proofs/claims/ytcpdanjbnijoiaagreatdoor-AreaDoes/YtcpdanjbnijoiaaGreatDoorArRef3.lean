
import Derived.Test.YtcpdanjbnijoiaaGreatDoorArRef2
/-! Layer 14, the document's answer: lay. (Printed by tools/genar14.py.) -/
namespace Go.Proofs.YtcpdanjbnijoiaaGreatDoor
open Go.RowKit
set_option linter.unusedVariables false

/-- The first i bytes of a cell of b, ff behind them. -/
def cellTo (b : List By) (k i : Nat) : List By := (List.range 32).map fun j => if j < i then b.getD (32 * k + j) 255#8 else 255#8
theorem cellTo_len (b : List By) (k i : Nat) : (cellTo b k i).length = 32 := by simp [cellTo]
theorem cellTo_zero (b : List By) (k : Nat) : cellTo b k 0 = blankC := by unfold cellTo blankC; simp only [Nat.not_lt_zero, if_false]; rfl
theorem cellTo_get (b : List By) (k i j : Nat) : (cellTo b k i)[j]? = if j < 32 then some (if j < i then b.getD (32 * k + j) 255#8 else 255#8) else none := by
  unfold cellTo
  rw [List.getElem?_map]
  by_cases h : j < 32
  · rw [List.getElem?_range h, if_pos h]; rfl
  · rw [if_neg h, List.getElem?_eq_none (by simp; omega)]; rfl
theorem cellTo_set (b : List By) (k i : Nat) (hi : i < 32) : (cellTo b k i).set i (b.getD (32 * k + i) 255#8) = cellTo b k (i + 1) := by
  apply List.ext_getElem?
  intro j
  rw [List.getElem?_set, cellTo_get, cellTo_get, cellTo_len]
  by_cases e : i = j
  · subst e
    rw [if_pos rfl, if_pos hi, if_pos hi, if_pos (by omega)]
  · rw [if_neg e]
    by_cases h : j < i
    · rw [if_pos h, if_pos (show j < i + 1 by omega)]
    · rw [if_neg h, if_neg (show ¬ j < i + 1 by omega)]
theorem cellTo_end {b : List By} {k i : Nat} (hi : i ≤ 32) (h : i = 32 ∨ b.length ≤ 32 * k + i) : cellTo b k i = cellOf b k := by
  unfold cellTo cellOf
  apply List.map_congr_left
  intro j hj
  rw [List.mem_range] at hj
  by_cases h2 : j < i
  · rw [if_pos h2]
  · rw [if_neg h2, List.getD_eq_getElem?_getD, List.getElem?_eq_none (by omega)]; rfl

theorem program_c (s : RS) (p c : Int) (x : List By) : (s.program p c x).c = s.c := by unfold RS.program; split <;> rfl
/-- Around the call of Program. -/
structure LW14 (W1 : World) (F : RF) (T : RS) (C X : Nat) (AR : Int) (XX : List By) (l : Bool) (W : World) : Prop where
  a : l = false → W = W1.drew
  b : l = true → RAt W F T ∧ KeptL F.blocks W1 W
  c0 : W.cell? ⟨F.g, 0, none⟩ = some (.int .i64 (C : Int))
  c6 : W.cell? ⟨F.g, 6, none⟩ = some (.int .i64 AR)
  rx : Row W X 55 (XX.map B8)
theorem LW14.rng {W1 W : World} {F : RF} {T : RS} {C X : Nat} {AR : Int} {XX : List By} {l : Bool} (h : LW14 W1 F T C X AR XX l W) : W.rangeAt X 0 (XX.map B8) := fun j v hv => by
  have := h.rx.cell j v hv
  simpa using this
theorem LW14.next {W1 W W2 : World} {F : RF} {T : RS} {C X : Nat} {AR : Int} {XX : List By} {l : Bool} (h : LW14 W1 F T C X AR XX l W) (hl : l = false) (hC : T.c.cells = C ∧ T.c.area = AR) (hX : X ∉ F.blocks) (z1 : RAt W2 F T) (z2 : KeptL F.blocks W W2) : LW14 W1 F T C X AR XX true W2 := by
  have hW := h.a hl
  refine ⟨fun e => (by cases e), fun _ => ⟨z1, ?_⟩, ?_, ?_, (z2.block X h.rx.lt hX).trans h.rx⟩
  · rw [hW] at z2
    exact ((KeptL.refl _ _).dr ⟨1, rfl⟩).trans z2
  · rw [← hC.1]; exact z1.row.cell 0 _ rfl
  · rw [← hC.2]; exact z1.row.cell 6 _ rfl
structure Ly6 (W1 : World) (F : RF) (T : RS) (aI AR AA EE : Int) (k C KD KM PN X : Nat) (XX : List By) (L : Nat → Bool) (x34 x35 x36 x37 x38 x39 x40 x41 x42 x43 x44 x45 x46 x47 x48 x49 x50 x51 x52 x53 x54 x55 x56 x57 x58 x59 x8 : Value) (W : World) : Prop where
  x : LW14 W1 F T C X AR XX (L 25) W
  p0 : L 0 = true → x34 = .pointer (some ⟨F.g, 0, none⟩)
  p1 : L 1 = true → x35 = .int .i64 aI
  p2 : L 2 = true → x36 = .pointer (some ⟨F.g, 0, none⟩)
  p3 : L 3 = true → x37 = .pointer (some ⟨F.g, 0, none⟩)
  p4 : L 4 = true → x38 = .pointer (some ⟨F.g, 0, none⟩)
  p5 : L 5 = true → x39 = .pointer (some ⟨F.g, 6, none⟩)
  p6 : L 6 = true → x40 = .int .i64 AR
  p7 : L 7 = true → x41 = .int .i64 AA
  p8 : L 8 = true → x42 = .int .i64 (2 + AA)
  p9 : L 9 = true → x43 = .int .i64 (k : Int)
  p10 : L 10 = true → x44 = .pointer (some ⟨F.g, 0, none⟩)
  p11 : L 11 = true → x45 = .pointer (some ⟨F.g, 0, none⟩)
  p12 : L 12 = true → x46 = .pointer (some ⟨F.g, 0, none⟩)
  p13 : L 13 = true → x47 = .pointer (some ⟨F.g, 0, none⟩)
  p14 : L 14 = true → x48 = .int .i64 (C : Int)
  p15 : L 15 = true → x49 = .int .i64 (KD : Int)
  p16 : L 16 = true → x50 = .int .i64 (PN : Int)
  p17 : L 17 = true → x51 = .int .i64 (k : Int)
  p18 : L 18 = true → x52 = .pointer (some ⟨F.g, 0, none⟩)
  p19 : L 19 = true → x53 = .pointer (some ⟨F.g, 0, none⟩)
  p20 : L 20 = true → x54 = .pointer (some ⟨F.g, 0, none⟩)
  p21 : L 21 = true → x55 = .pointer (some ⟨F.g, 0, none⟩)
  p22 : L 22 = true → x56 = .int .i64 (C : Int)
  p23 : L 23 = true → x57 = .int .i64 (KM : Int)
  p24 : L 24 = true → x58 = .agg (XX.map B8).toArray
  p25 : L 25 = true → x59 = .int .i64 EE
  p26 : L 26 = true → x8 = .int .i64 EE
section
variable {W1 : World} {F : RF} {T : RS} {aI AR AA EE : Int} {k C KD KM PN X : Nat} {XX : List By} {L : Nat → Bool} {x34 x35 x36 x37 x38 x39 x40 x41 x42 x43 x44 x45 x46 x47 x48 x49 x50 x51 x52 x53 x54 x55 x56 x57 x58 x59 x8 : Value} {W W2 : World}
theorem Ly6.s0 (h : Ly6 W1 F T aI AR AA EE k C KD KM PN X XX L x34 x35 x36 x37 x38 x39 x40 x41 x42 x43 x44 x45 x46 x47 x48 x49 x50 x51 x52 x53 x54 x55 x56 x57 x58 x59 x8 W) : Ly6 W1 F T aI AR AA EE k C KD KM PN X XX (upd L 0) (.pointer (some ⟨F.g, 0, none⟩)) x35 x36 x37 x38 x39 x40 x41 x42 x43 x44 x45 x46 x47 x48 x49 x50 x51 x52 x53 x54 x55 x56 x57 x58 x59 x8 W :=
  ⟨h.x, fun _ => rfl, h.p1, h.p2, h.p3, h.p4, h.p5, h.p6, h.p7, h.p8, h.p9, h.p10, h.p11, h.p12, h.p13, h.p14, h.p15, h.p16, h.p17, h.p18, h.p19, h.p20, h.p21, h.p22, h.p23, h.p24, h.p25, h.p26⟩
theorem Ly6.s1 (h : Ly6 W1 F T aI AR AA EE k C KD KM PN X XX L x34 x35 x36 x37 x38 x39 x40 x41 x42 x43 x44 x45 x46 x47 x48 x49 x50 x51 x52 x53 x54 x55 x56 x57 x58 x59 x8 W) : Ly6 W1 F T aI AR AA EE k C KD KM PN X XX (upd L 1) x34 (.int .i64 aI) x36 x37 x38 x39 x40 x41 x42 x43 x44 x45 x46 x47 x48 x49 x50 x51 x52 x53 x54 x55 x56 x57 x58 x59 x8 W :=
  ⟨h.x, h.p0, fun _ => rfl, h.p2, h.p3, h.p4, h.p5, h.p6, h.p7, h.p8, h.p9, h.p10, h.p11, h.p12, h.p13, h.p14, h.p15, h.p16, h.p17, h.p18, h.p19, h.p20, h.p21, h.p22, h.p23, h.p24, h.p25, h.p26⟩
theorem Ly6.s2 (h : Ly6 W1 F T aI AR AA EE k C KD KM PN X XX L x34 x35 x36 x37 x38 x39 x40 x41 x42 x43 x44 x45 x46 x47 x48 x49 x50 x51 x52 x53 x54 x55 x56 x57 x58 x59 x8 W) : Ly6 W1 F T aI AR AA EE k C KD KM PN X XX (upd L 2) x34 x35 (.pointer (some ⟨F.g, 0, none⟩)) x37 x38 x39 x40 x41 x42 x43 x44 x45 x46 x47 x48 x49 x50 x51 x52 x53 x54 x55 x56 x57 x58 x59 x8 W :=
  ⟨h.x, h.p0, h.p1, fun _ => rfl, h.p3, h.p4, h.p5, h.p6, h.p7, h.p8, h.p9, h.p10, h.p11, h.p12, h.p13, h.p14, h.p15, h.p16, h.p17, h.p18, h.p19, h.p20, h.p21, h.p22, h.p23, h.p24, h.p25, h.p26⟩
theorem Ly6.s3 (h : Ly6 W1 F T aI AR AA EE k C KD KM PN X XX L x34 x35 x36 x37 x38 x39 x40 x41 x42 x43 x44 x45 x46 x47 x48 x49 x50 x51 x52 x53 x54 x55 x56 x57 x58 x59 x8 W) : Ly6 W1 F T aI AR AA EE k C KD KM PN X XX (upd L 3) x34 x35 x36 (.pointer (some ⟨F.g, 0, none⟩)) x38 x39 x40 x41 x42 x43 x44 x45 x46 x47 x48 x49 x50 x51 x52 x53 x54 x55 x56 x57 x58 x59 x8 W :=
  ⟨h.x, h.p0, h.p1, h.p2, fun _ => rfl, h.p4, h.p5, h.p6, h.p7, h.p8, h.p9, h.p10, h.p11, h.p12, h.p13, h.p14, h.p15, h.p16, h.p17, h.p18, h.p19, h.p20, h.p21, h.p22, h.p23, h.p24, h.p25, h.p26⟩
theorem Ly6.s4 (h : Ly6 W1 F T aI AR AA EE k C KD KM PN X XX L x34 x35 x36 x37 x38 x39 x40 x41 x42 x43 x44 x45 x46 x47 x48 x49 x50 x51 x52 x53 x54 x55 x56 x57 x58 x59 x8 W) : Ly6 W1 F T aI AR AA EE k C KD KM PN X XX (upd L 4) x34 x35 x36 x37 (.pointer (some ⟨F.g, 0, none⟩)) x39 x40 x41 x42 x43 x44 x45 x46 x47 x48 x49 x50 x51 x52 x53 x54 x55 x56 x57 x58 x59 x8 W :=
  ⟨h.x, h.p0, h.p1, h.p2, h.p3, fun _ => rfl, h.p5, h.p6, h.p7, h.p8, h.p9, h.p10, h.p11, h.p12, h.p13, h.p14, h.p15, h.p16, h.p17, h.p18, h.p19, h.p20, h.p21, h.p22, h.p23, h.p24, h.p25, h.p26⟩
theorem Ly6.s5 (h : Ly6 W1 F T aI AR AA EE k C KD KM PN X XX L x34 x35 x36 x37 x38 x39 x40 x41 x42 x43 x44 x45 x46 x47 x48 x49 x50 x51 x52 x53 x54 x55 x56 x57 x58 x59 x8 W) : Ly6 W1 F T aI AR AA EE k C KD KM PN X XX (upd L 5) x34 x35 x36 x37 x38 (.pointer (some ⟨F.g, 6, none⟩)) x40 x41 x42 x43 x44 x45 x46 x47 x48 x49 x50 x51 x52 x53 x54 x55 x56 x57 x58 x59 x8 W :=
  ⟨h.x, h.p0, h.p1, h.p2, h.p3, h.p4, fun _ => rfl, h.p6, h.p7, h.p8, h.p9, h.p10, h.p11, h.p12, h.p13, h.p14, h.p15, h.p16, h.p17, h.p18, h.p19, h.p20, h.p21, h.p22, h.p23, h.p24, h.p25, h.p26⟩
theorem Ly6.s6 (h : Ly6 W1 F T aI AR AA EE k C KD KM PN X XX L x34 x35 x36 x37 x38 x39 x40 x41 x42 x43 x44 x45 x46 x47 x48 x49 x50 x51 x52 x53 x54 x55 x56 x57 x58 x59 x8 W) : Ly6 W1 F T aI AR AA EE k C KD KM PN X XX (upd L 6) x34 x35 x36 x37 x38 x39 (.int .i64 AR) x41 x42 x43 x44 x45 x46 x47 x48 x49 x50 x51 x52 x53 x54 x55 x56 x57 x58 x59 x8 W :=
  ⟨h.x, h.p0, h.p1, h.p2, h.p3, h.p4, h.p5, fun _ => rfl, h.p7, h.p8, h.p9, h.p10, h.p11, h.p12, h.p13, h.p14, h.p15, h.p16, h.p17, h.p18, h.p19, h.p20, h.p21, h.p22, h.p23, h.p24, h.p25, h.p26⟩
theorem Ly6.s7 (h : Ly6 W1 F T aI AR AA EE k C KD KM PN X XX L x34 x35 x36 x37 x38 x39 x40 x41 x42 x43 x44 x45 x46 x47 x48 x49 x50 x51 x52 x53 x54 x55 x56 x57 x58 x59 x8 W) : Ly6 W1 F T aI AR AA EE k C KD KM PN X XX (upd L 7) x34 x35 x36 x37 x38 x39 x40 (.int .i64 AA) x42 x43 x44 x45 x46 x47 x48 x49 x50 x51 x52 x53 x54 x55 x56 x57 x58 x59 x8 W :=
  ⟨h.x, h.p0, h.p1, h.p2, h.p3, h.p4, h.p5, h.p6, fun _ => rfl, h.p8, h.p9, h.p10, h.p11, h.p12, h.p13, h.p14, h.p15, h.p16, h.p17, h.p18, h.p19, h.p20, h.p21, h.p22, h.p23, h.p24, h.p25, h.p26⟩
theorem Ly6.s8 (h : Ly6 W1 F T aI AR AA EE k C KD KM PN X XX L x34 x35 x36 x37 x38 x39 x40 x41 x42 x43 x44 x45 x46 x47 x48 x49 x50 x51 x52 x53 x54 x55 x56 x57 x58 x59 x8 W) : Ly6 W1 F T aI AR AA EE k C KD KM PN X XX (upd L 8) x34 x35 x36 x37 x38 x39 x40 x41 (.int .i64 (2 + AA)) x43 x44 x45 x46 x47 x48 x49 x50 x51 x52 x53 x54 x55 x56 x57 x58 x59 x8 W :=
  ⟨h.x, h.p0, h.p1, h.p2, h.p3, h.p4, h.p5, h.p6, h.p7, fun _ => rfl, h.p9, h.p10, h.p11, h.p12, h.p13, h.p14, h.p15, h.p16, h.p17, h.p18, h.p19, h.p20, h.p21, h.p22, h.p23, h.p24, h.p25, h.p26⟩
theorem Ly6.s9 (h : Ly6 W1 F T aI AR AA EE k C KD KM PN X XX L x34 x35 x36 x37 x38 x39 x40 x41 x42 x43 x44 x45 x46 x47 x48 x49 x50 x51 x52 x53 x54 x55 x56 x57 x58 x59 x8 W) : Ly6 W1 F T aI AR AA EE k C KD KM PN X XX (upd L 9) x34 x35 x36 x37 x38 x39 x40 x41 x42 (.int .i64 (k : Int)) x44 x45 x46 x47 x48 x49 x50 x51 x52 x53 x54 x55 x56 x57 x58 x59 x8 W :=
  ⟨h.x, h.p0, h.p1, h.p2, h.p3, h.p4, h.p5, h.p6, h.p7, h.p8, fun _ => rfl, h.p10, h.p11, h.p12, h.p13, h.p14, h.p15, h.p16, h.p17, h.p18, h.p19, h.p20, h.p21, h.p22, h.p23, h.p24, h.p25, h.p26⟩
theorem Ly6.s10 (h : Ly6 W1 F T aI AR AA EE k C KD KM PN X XX L x34 x35 x36 x37 x38 x39 x40 x41 x42 x43 x44 x45 x46 x47 x48 x49 x50 x51 x52 x53 x54 x55 x56 x57 x58 x59 x8 W) : Ly6 W1 F T aI AR AA EE k C KD KM PN X XX (upd L 10) x34 x35 x36 x37 x38 x39 x40 x41 x42 x43 (.pointer (some ⟨F.g, 0, none⟩)) x45 x46 x47 x48 x49 x50 x51 x52 x53 x54 x55 x56 x57 x58 x59 x8 W :=
  ⟨h.x, h.p0, h.p1, h.p2, h.p3, h.p4, h.p5, h.p6, h.p7, h.p8, h.p9, fun _ => rfl, h.p11, h.p12, h.p13, h.p14, h.p15, h.p16, h.p17, h.p18, h.p19, h.p20, h.p21, h.p22, h.p23, h.p24, h.p25, h.p26⟩
theorem Ly6.s11 (h : Ly6 W1 F T aI AR AA EE k C KD KM PN X XX L x34 x35 x36 x37 x38 x39 x40 x41 x42 x43 x44 x45 x46 x47 x48 x49 x50 x51 x52 x53 x54 x55 x56 x57 x58 x59 x8 W) : Ly6 W1 F T aI AR AA EE k C KD KM PN X XX (upd L 11) x34 x35 x36 x37 x38 x39 x40 x41 x42 x43 x44 (.pointer (some ⟨F.g, 0, none⟩)) x46 x47 x48 x49 x50 x51 x52 x53 x54 x55 x56 x57 x58 x59 x8 W :=
  ⟨h.x, h.p0, h.p1, h.p2, h.p3, h.p4, h.p5, h.p6, h.p7, h.p8, h.p9, h.p10, fun _ => rfl, h.p12, h.p13, h.p14, h.p15, h.p16, h.p17, h.p18, h.p19, h.p20, h.p21, h.p22, h.p23, h.p24, h.p25, h.p26⟩
theorem Ly6.s12 (h : Ly6 W1 F T aI AR AA EE k C KD KM PN X XX L x34 x35 x36 x37 x38 x39 x40 x41 x42 x43 x44 x45 x46 x47 x48 x49 x50 x51 x52 x53 x54 x55 x56 x57 x58 x59 x8 W) : Ly6 W1 F T aI AR AA EE k C KD KM PN X XX (upd L 12) x34 x35 x36 x37 x38 x39 x40 x41 x42 x43 x44 x45 (.pointer (some ⟨F.g, 0, none⟩)) x47 x48 x49 x50 x51 x52 x53 x54 x55 x56 x57 x58 x59 x8 W :=
  ⟨h.x, h.p0, h.p1, h.p2, h.p3, h.p4, h.p5, h.p6, h.p7, h.p8, h.p9, h.p10, h.p11, fun _ => rfl, h.p13, h.p14, h.p15, h.p16, h.p17, h.p18, h.p19, h.p20, h.p21, h.p22, h.p23, h.p24, h.p25, h.p26⟩
theorem Ly6.s13 (h : Ly6 W1 F T aI AR AA EE k C KD KM PN X XX L x34 x35 x36 x37 x38 x39 x40 x41 x42 x43 x44 x45 x46 x47 x48 x49 x50 x51 x52 x53 x54 x55 x56 x57 x58 x59 x8 W) : Ly6 W1 F T aI AR AA EE k C KD KM PN X XX (upd L 13) x34 x35 x36 x37 x38 x39 x40 x41 x42 x43 x44 x45 x46 (.pointer (some ⟨F.g, 0, none⟩)) x48 x49 x50 x51 x52 x53 x54 x55 x56 x57 x58 x59 x8 W :=
  ⟨h.x, h.p0, h.p1, h.p2, h.p3, h.p4, h.p5, h.p6, h.p7, h.p8, h.p9, h.p10, h.p11, h.p12, fun _ => rfl, h.p14, h.p15, h.p16, h.p17, h.p18, h.p19, h.p20, h.p21, h.p22, h.p23, h.p24, h.p25, h.p26⟩
theorem Ly6.s14 (h : Ly6 W1 F T aI AR AA EE k C KD KM PN X XX L x34 x35 x36 x37 x38 x39 x40 x41 x42 x43 x44 x45 x46 x47 x48 x49 x50 x51 x52 x53 x54 x55 x56 x57 x58 x59 x8 W) : Ly6 W1 F T aI AR AA EE k C KD KM PN X XX (upd L 14) x34 x35 x36 x37 x38 x39 x40 x41 x42 x43 x44 x45 x46 x47 (.int .i64 (C : Int)) x49 x50 x51 x52 x53 x54 x55 x56 x57 x58 x59 x8 W :=
  ⟨h.x, h.p0, h.p1, h.p2, h.p3, h.p4, h.p5, h.p6, h.p7, h.p8, h.p9, h.p10, h.p11, h.p12, h.p13, fun _ => rfl, h.p15, h.p16, h.p17, h.p18, h.p19, h.p20, h.p21, h.p22, h.p23, h.p24, h.p25, h.p26⟩
theorem Ly6.s15 (h : Ly6 W1 F T aI AR AA EE k C KD KM PN X XX L x34 x35 x36 x37 x38 x39 x40 x41 x42 x43 x44 x45 x46 x47 x48 x49 x50 x51 x52 x53 x54 x55 x56 x57 x58 x59 x8 W) : Ly6 W1 F T aI AR AA EE k C KD KM PN X XX (upd L 15) x34 x35 x36 x37 x38 x39 x40 x41 x42 x43 x44 x45 x46 x47 x48 (.int .i64 (KD : Int)) x50 x51 x52 x53 x54 x55 x56 x57 x58 x59 x8 W :=
  ⟨h.x, h.p0, h.p1, h.p2, h.p3, h.p4, h.p5, h.p6, h.p7, h.p8, h.p9, h.p10, h.p11, h.p12, h.p13, h.p14, fun _ => rfl, h.p16, h.p17, h.p18, h.p19, h.p20, h.p21, h.p22, h.p23, h.p24, h.p25, h.p26⟩
theorem Ly6.s16 (h : Ly6 W1 F T aI AR AA EE k C KD KM PN X XX L x34 x35 x36 x37 x38 x39 x40 x41 x42 x43 x44 x45 x46 x47 x48 x49 x50 x51 x52 x53 x54 x55 x56 x57 x58 x59 x8 W) : Ly6 W1 F T aI AR AA EE k C KD KM PN X XX (upd L 16) x34 x35 x36 x37 x38 x39 x40 x41 x42 x43 x44 x45 x46 x47 x48 x49 (.int .i64 (PN : Int)) x51 x52 x53 x54 x55 x56 x57 x58 x59 x8 W :=
  ⟨h.x, h.p0, h.p1, h.p2, h.p3, h.p4, h.p5, h.p6, h.p7, h.p8, h.p9, h.p10, h.p11, h.p12, h.p13, h.p14, h.p15, fun _ => rfl, h.p17, h.p18, h.p19, h.p20, h.p21, h.p22, h.p23, h.p24, h.p25, h.p26⟩
theorem Ly6.s17 (h : Ly6 W1 F T aI AR AA EE k C KD KM PN X XX L x34 x35 x36 x37 x38 x39 x40 x41 x42 x43 x44 x45 x46 x47 x48 x49 x50 x51 x52 x53 x54 x55 x56 x57 x58 x59 x8 W) : Ly6 W1 F T aI AR AA EE k C KD KM PN X XX (upd L 17) x34 x35 x36 x37 x38 x39 x40 x41 x42 x43 x44 x45 x46 x47 x48 x49 x50 (.int .i64 (k : Int)) x52 x53 x54 x55 x56 x57 x58 x59 x8 W :=
  ⟨h.x, h.p0, h.p1, h.p2, h.p3, h.p4, h.p5, h.p6, h.p7, h.p8, h.p9, h.p10, h.p11, h.p12, h.p13, h.p14, h.p15, h.p16, fun _ => rfl, h.p18, h.p19, h.p20, h.p21, h.p22, h.p23, h.p24, h.p25, h.p26⟩
theorem Ly6.s18 (h : Ly6 W1 F T aI AR AA EE k C KD KM PN X XX L x34 x35 x36 x37 x38 x39 x40 x41 x42 x43 x44 x45 x46 x47 x48 x49 x50 x51 x52 x53 x54 x55 x56 x57 x58 x59 x8 W) : Ly6 W1 F T aI AR AA EE k C KD KM PN X XX (upd L 18) x34 x35 x36 x37 x38 x39 x40 x41 x42 x43 x44 x45 x46 x47 x48 x49 x50 x51 (.pointer (some ⟨F.g, 0, none⟩)) x53 x54 x55 x56 x57 x58 x59 x8 W :=
  ⟨h.x, h.p0, h.p1, h.p2, h.p3, h.p4, h.p5, h.p6, h.p7, h.p8, h.p9, h.p10, h.p11, h.p12, h.p13, h.p14, h.p15, h.p16, h.p17, fun _ => rfl, h.p19, h.p20, h.p21, h.p22, h.p23, h.p24, h.p25, h.p26⟩
theorem Ly6.s19 (h : Ly6 W1 F T aI AR AA EE k C KD KM PN X XX L x34 x35 x36 x37 x38 x39 x40 x41 x42 x43 x44 x45 x46 x47 x48 x49 x50 x51 x52 x53 x54 x55 x56 x57 x58 x59 x8 W) : Ly6 W1 F T aI AR AA EE k C KD KM PN X XX (upd L 19) x34 x35 x36 x37 x38 x39 x40 x41 x42 x43 x44 x45 x46 x47 x48 x49 x50 x51 x52 (.pointer (some ⟨F.g, 0, none⟩)) x54 x55 x56 x57 x58 x59 x8 W :=
  ⟨h.x, h.p0, h.p1, h.p2, h.p3, h.p4, h.p5, h.p6, h.p7, h.p8, h.p9, h.p10, h.p11, h.p12, h.p13, h.p14, h.p15, h.p16, h.p17, h.p18, fun _ => rfl, h.p20, h.p21, h.p22, h.p23, h.p24, h.p25, h.p26⟩
theorem Ly6.s20 (h : Ly6 W1 F T aI AR AA EE k C KD KM PN X XX L x34 x35 x36 x37 x38 x39 x40 x41 x42 x43 x44 x45 x46 x47 x48 x49 x50 x51 x52 x53 x54 x55 x56 x57 x58 x59 x8 W) : Ly6 W1 F T aI AR AA EE k C KD KM PN X XX (upd L 20) x34 x35 x36 x37 x38 x39 x40 x41 x42 x43 x44 x45 x46 x47 x48 x49 x50 x51 x52 x53 (.pointer (some ⟨F.g, 0, none⟩)) x55 x56 x57 x58 x59 x8 W :=
  ⟨h.x, h.p0, h.p1, h.p2, h.p3, h.p4, h.p5, h.p6, h.p7, h.p8, h.p9, h.p10, h.p11, h.p12, h.p13, h.p14, h.p15, h.p16, h.p17, h.p18, h.p19, fun _ => rfl, h.p21, h.p22, h.p23, h.p24, h.p25, h.p26⟩
theorem Ly6.s21 (h : Ly6 W1 F T aI AR AA EE k C KD KM PN X XX L x34 x35 x36 x37 x38 x39 x40 x41 x42 x43 x44 x45 x46 x47 x48 x49 x50 x51 x52 x53 x54 x55 x56 x57 x58 x59 x8 W) : Ly6 W1 F T aI AR AA EE k C KD KM PN X XX (upd L 21) x34 x35 x36 x37 x38 x39 x40 x41 x42 x43 x44 x45 x46 x47 x48 x49 x50 x51 x52 x53 x54 (.pointer (some ⟨F.g, 0, none⟩)) x56 x57 x58 x59 x8 W :=
  ⟨h.x, h.p0, h.p1, h.p2, h.p3, h.p4, h.p5, h.p6, h.p7, h.p8, h.p9, h.p10, h.p11, h.p12, h.p13, h.p14, h.p15, h.p16, h.p17, h.p18, h.p19, h.p20, fun _ => rfl, h.p22, h.p23, h.p24, h.p25, h.p26⟩
theorem Ly6.s22 (h : Ly6 W1 F T aI AR AA EE k C KD KM PN X XX L x34 x35 x36 x37 x38 x39 x40 x41 x42 x43 x44 x45 x46 x47 x48 x49 x50 x51 x52 x53 x54 x55 x56 x57 x58 x59 x8 W) : Ly6 W1 F T aI AR AA EE k C KD KM PN X XX (upd L 22) x34 x35 x36 x37 x38 x39 x40 x41 x42 x43 x44 x45 x46 x47 x48 x49 x50 x51 x52 x53 x54 x55 (.int .i64 (C : Int)) x57 x58 x59 x8 W :=
  ⟨h.x, h.p0, h.p1, h.p2, h.p3, h.p4, h.p5, h.p6, h.p7, h.p8, h.p9, h.p10, h.p11, h.p12, h.p13, h.p14, h.p15, h.p16, h.p17, h.p18, h.p19, h.p20, h.p21, fun _ => rfl, h.p23, h.p24, h.p25, h.p26⟩
theorem Ly6.s23 (h : Ly6 W1 F T aI AR AA EE k C KD KM PN X XX L x34 x35 x36 x37 x38 x39 x40 x41 x42 x43 x44 x45 x46 x47 x48 x49 x50 x51 x52 x53 x54 x55 x56 x57 x58 x59 x8 W) : Ly6 W1 F T aI AR AA EE k C KD KM PN X XX (upd L 23) x34 x35 x36 x37 x38 x39 x40 x41 x42 x43 x44 x45 x46 x47 x48 x49 x50 x51 x52 x53 x54 x55 x56 (.int .i64 (KM : Int)) x58 x59 x8 W :=
  ⟨h.x, h.p0, h.p1, h.p2, h.p3, h.p4, h.p5, h.p6, h.p7, h.p8, h.p9, h.p10, h.p11, h.p12, h.p13, h.p14, h.p15, h.p16, h.p17, h.p18, h.p19, h.p20, h.p21, h.p22, fun _ => rfl, h.p24, h.p25, h.p26⟩
theorem Ly6.s24 (h : Ly6 W1 F T aI AR AA EE k C KD KM PN X XX L x34 x35 x36 x37 x38 x39 x40 x41 x42 x43 x44 x45 x46 x47 x48 x49 x50 x51 x52 x53 x54 x55 x56 x57 x58 x59 x8 W) : Ly6 W1 F T aI AR AA EE k C KD KM PN X XX (upd L 24) x34 x35 x36 x37 x38 x39 x40 x41 x42 x43 x44 x45 x46 x47 x48 x49 x50 x51 x52 x53 x54 x55 x56 x57 (.agg (XX.map B8).toArray) x59 x8 W :=
  ⟨h.x, h.p0, h.p1, h.p2, h.p3, h.p4, h.p5, h.p6, h.p7, h.p8, h.p9, h.p10, h.p11, h.p12, h.p13, h.p14, h.p15, h.p16, h.p17, h.p18, h.p19, h.p20, h.p21, h.p22, h.p23, fun _ => rfl, h.p25, h.p26⟩
theorem Ly6.s25 (h : Ly6 W1 F T aI AR AA EE k C KD KM PN X XX L x34 x35 x36 x37 x38 x39 x40 x41 x42 x43 x44 x45 x46 x47 x48 x49 x50 x51 x52 x53 x54 x55 x56 x57 x58 x59 x8 W) (hX : LW14 W1 F T C X AR XX ((upd L 25) 25) W2) : Ly6 W1 F T aI AR AA EE k C KD KM PN X XX (upd L 25) x34 x35 x36 x37 x38 x39 x40 x41 x42 x43 x44 x45 x46 x47 x48 x49 x50 x51 x52 x53 x54 x55 x56 x57 x58 (.int .i64 EE) x8 W2 :=
  ⟨hX, h.p0, h.p1, h.p2, h.p3, h.p4, h.p5, h.p6, h.p7, h.p8, h.p9, h.p10, h.p11, h.p12, h.p13, h.p14, h.p15, h.p16, h.p17, h.p18, h.p19, h.p20, h.p21, h.p22, h.p23, h.p24, fun _ => rfl, h.p26⟩
theorem Ly6.s26 (h : Ly6 W1 F T aI AR AA EE k C KD KM PN X XX L x34 x35 x36 x37 x38 x39 x40 x41 x42 x43 x44 x45 x46 x47 x48 x49 x50 x51 x52 x53 x54 x55 x56 x57 x58 x59 x8 W) : Ly6 W1 F T aI AR AA EE k C KD KM PN X XX (upd L 26) x34 x35 x36 x37 x38 x39 x40 x41 x42 x43 x44 x45 x46 x47 x48 x49 x50 x51 x52 x53 x54 x55 x56 x57 x58 x59 (.int .i64 EE) W :=
  ⟨h.x, h.p0, h.p1, h.p2, h.p3, h.p4, h.p5, h.p6, h.p7, h.p8, h.p9, h.p10, h.p11, h.p12, h.p13, h.p14, h.p15, h.p16, h.p17, h.p18, h.p19, h.p20, h.p21, h.p22, h.p23, h.p24, h.p25, fun _ => rfl⟩
end
@[reducible] def ILy6 (W1 : World) (F : RF) (T : RS) (aI AR AA EE : Int) (k C KD KM PN X : Nat) (XX : List By) (y0 y1 y2 y3 y4 y5 y6 y7 y9 y10 y11 y12 y13 y14 y15 y16 y17 y18 y19 y20 y21 y22 y23 y24 y25 y26 y27 y28 y29 y30 y31 y32 y33 : Value) : (Nat → Bool) → Act → World → Prop := fun L a W => ∃ x34 x35 x36 x37 x38 x39 x40 x41 x42 x43 x44 x45 x46 x47 x48 x49 x50 x51 x52 x53 x54 x55 x56 x57 x58 x59 x8, a = ⟨#[y0, y1, y2, y3, y4, y5, y6, y7, x8, y9, y10, y11, y12, y13, y14, y15, y16, y17, y18, y19, y20, y21, y22, y23, y24, y25, y26, y27, y28, y29, y30, y31, y32, y33, x34, x35, x36, x37, x38, x39, x40, x41, x42, x43, x44, x45, x46, x47, x48, x49, x50, x51, x52, x53, x54, x55, x56, x57, x58, x59], []⟩ ∧ Ly6 W1 F T aI AR AA EE k C KD KM PN X XX L x34 x35 x36 x37 x38 x39 x40 x41 x42 x43 x44 x45 x46 x47 x48 x49 x50 x51 x52 x53 x54 x55 x56 x57 x58 x59 x8 W
theorem Ly6.step {W1 : World} {F : RF} {T : RS} {aI AR AA EE : Int} {k C KD KM PN X : Nat} {XX : List By} {y0 y1 y2 y3 y4 y5 y6 y7 y9 y10 y11 y12 y13 y14 y15 y16 y17 y18 y19 y20 y21 y22 y23 y24 y25 y26 y27 y28 y29 y30 y31 y32 y33 : Value} {P : Program} {ops : Array Oper} {Q : Exit → Act → World → Prop} {i : Nat} {o : Oper} (hq : ∀ x34 x35 x36 x37 x38 x39 x40 x41 x42 x43 x44 x45 x46 x47 x48 x49 x50 x51 x52 x53 x54 x55 x56 x57 x58 x59 x8 (L : Nat → Bool) (W : World), Ly6 W1 F T aI AR AA EE k C KD KM PN X XX L x34 x35 x36 x37 x38 x39 x40 x41 x42 x43 x44 x45 x46 x47 x48 x49 x50 x51 x52 x53 x54 x55 x56 x57 x58 x59 x8 W → L i = false → (∀ j ∈ onesOf o, L j = true) → ∀ K : Act → World → Prop, Shut (∀ a' w', ILy6 W1 F T aI AR AA EE k C KD KM PN X XX y0 y1 y2 y3 y4 y5 y6 y7 y9 y10 y11 y12 y13 y14 y15 y16 y17 y18 y19 y20 y21 y22 y23 y24 y25 y26 y27 y28 y29 y30 y31 y32 y33 (upd L i) a' w' → K a' w') → if Region.wanted o (yielded ops (⟨#[y0, y1, y2, y3, y4, y5, y6, y7, x8, y9, y10, y11, y12, y13, y14, y15, y16, y17, y18, y19, y20, y21, y22, y23, y24, y25, y26, y27, y28, y29, y30, y31, y32, y33, x34, x35, x36, x37, x38, x39, x40, x41, x42, x43, x44, x45, x46, x47, x48, x49, x50, x51, x52, x53, x54, x55, x56, x57, x58, x59], []⟩ : Act).tmps) = true then Oper.wp P o ⟨#[y0, y1, y2, y3, y4, y5, y6, y7, x8, y9, y10, y11, y12, y13, y14, y15, y16, y17, y18, y19, y20, y21, y22, y23, y24, y25, y26, y27, y28, y29, y30, y31, y32, y33, x34, x35, x36, x37, x38, x39, x40, x41, x42, x43, x44, x45, x46, x47, x48, x49, x50, x51, x52, x53, x54, x55, x56, x57, x58, x59], []⟩ W K Q else K ((⟨#[y0, y1, y2, y3, y4, y5, y6, y7, x8, y9, y10, y11, y12, y13, y14, y15, y16, y17, y18, y19, y20, y21, y22, y23, y24, y25, y26, y27, y28, y29, y30, y31, y32, y33, x34, x35, x36, x37, x38, x39, x40, x41, x42, x43, x44, x45, x46, x47, x48, x49, x50, x51, x52, x53, x54, x55, x56, x57, x58, x59], []⟩ : Act).put o.dst undef) W) : StepI P ops (ILy6 W1 F T aI AR AA EE k C KD KM PN X XX y0 y1 y2 y3 y4 y5 y6 y7 y9 y10 y11 y12 y13 y14 y15 y16 y17 y18 y19 y20 y21 y22 y23 y24 y25 y26 y27 y28 y29 y30 y31 y32 y33) Q i o := by
  rintro L a W ⟨x34, x35, x36, x37, x38, x39, x40, x41, x42, x43, x44, x45, x46, x47, x48, x49, x50, x51, x52, x53, x54, x55, x56, x57, x58, x59, x8, rfl, h⟩
  exact hq _ _ _ _ _ _ _ _ _ _ _ _ _ _ _ _ _ _ _ _ _ _ _ _ _ _ _ _ _ h
theorem Ly6.ends {W1 : World} {F : RF} {T : RS} {aI AR AA EE : Int} {k C KD KM PN X : Nat} {XX : List By} {y0 y1 y2 y3 y4 y5 y6 y7 y9 y10 y11 y12 y13 y14 y15 y16 y17 y18 y19 y20 y21 y22 y23 y24 y25 y26 y27 y28 y29 y30 y31 y32 y33 : Value} {mm_ : Nat} {Q : Exit → Act → World → Prop} (hq : ∀ x34 x35 x36 x37 x38 x39 x40 x41 x42 x43 x44 x45 x46 x47 x48 x49 x50 x51 x52 x53 x54 x55 x56 x57 x58 x59 x8 (L : Nat → Bool) (W : World), (∀ j, j < mm_ → L j = true) → Ly6 W1 F T aI AR AA EE k C KD KM PN X XX L x34 x35 x36 x37 x38 x39 x40 x41 x42 x43 x44 x45 x46 x47 x48 x49 x50 x51 x52 x53 x54 x55 x56 x57 x58 x59 x8 W → Q .normal ⟨#[y0, y1, y2, y3, y4, y5, y6, y7, x8, y9, y10, y11, y12, y13, y14, y15, y16, y17, y18, y19, y20, y21, y22, y23, y24, y25, y26, y27, y28, y29, y30, y31, y32, y33, x34, x35, x36, x37, x38, x39, x40, x41, x42, x43, x44, x45, x46, x47, x48, x49, x50, x51, x52, x53, x54, x55, x56, x57, x58, x59], []⟩ W) : ∀ L a' w', (∀ j, j < mm_ → L j = true) → ILy6 W1 F T aI AR AA EE k C KD KM PN X XX y0 y1 y2 y3 y4 y5 y6 y7 y9 y10 y11 y12 y13 y14 y15 y16 y17 y18 y19 y20 y21 y22 y23 y24 y25 y26 y27 y28 y29 y30 y31 y32 y33 L a' w' → Q .normal a' w' := by
  rintro L a W hall ⟨x34, x35, x36, x37, x38, x39, x40, x41, x42, x43, x44, x45, x46, x47, x48, x49, x50, x51, x52, x53, x54, x55, x56, x57, x58, x59, x8, rfl, h⟩
  exact hq _ _ _ _ _ _ _ _ _ _ _ _ _ _ _ _ _ _ _ _ _ _ _ _ _ _ _ _ _ hall h
set_option maxHeartbeats 1000000 in
set_option maxRecDepth 100000 in
theorem r14lay_any (F : RF) (s : RS) (a : Int) (ha : a = 0 ∨ a = 1) (bo : Option Addr) (n cap k : Nat) (b : List By) (hb0 : b.length = n) (w : World) (h : RAt w F s) (hA : s.Ar) (hG : s.Good) (hn : s.n < 4611686018427387904)
    (hb : IsB w bo b) (hk : k < s.c.area.toNat * s.c.cells.toNat) :
    Calls Tryz.prog 52 #[.pointer (some ⟨F.g, 0, none⟩), .int .i64 a, .slice bo n cap, .int .i64 k] w fun e w' => e = .returned (.int .i64 (s.layE a k)) ∧ RAt w' F (s.layC a b k) ∧ KeptL F.blocks w w' := by
  obtain ⟨n1, n2, n3⟩ := hA.nums ha
  have har := hA.area
  have hce := hA.cells
  have hMC : s.c.area.toNat * s.c.cells.toNat ≤ 64 * 256 := Nat.mul_le_mul (by omega) (by omega)
  have hk2 : k < 16384 := by omega
  have hkc : k / s.c.cells.toNat < s.c.area.toNat := Nat.div_lt_of_lt_mul (by rw [Nat.mul_comm]; exact hk)
  obtain ⟨m1, m2, m3⟩ := n3 _ hkc
  obtain ⟨C, hC⟩ : ∃ C : Nat, s.c.cells = (C : Int) := Int.eq_ofNat_of_zero_le (by omega)
  have hCt : s.c.cells.toNat = C := by omega
  have BL := blank_any w
  have HPG : Hid (∀ W, RAt W F s → Calls Tryz.prog 72 #[.pointer (some ⟨F.g, 0, none⟩), .int .i64 ((s.pgN a (k / C) : Nat) : Int), .int .i64 ((k % C : Nat) : Int), .agg ((cellOf b k).map B8).toArray] W fun e w' => e = .returned (.int .i64 (s.layE a k)) ∧ RAt w' F (s.layC a b k) ∧ KeptL F.blocks W w') := fun W hW => by
    have := program_any F s ((s.pgN a (k / C) : Nat) : Int) ((k % C : Nat) : Int) (cellOf b k) (cellOf_len b k) W hW hG.n0 hn hG.wt
    unfold RS.layE RS.layC
    rw [hCt]; exact this
  have HTC : Hid ((s.layC a b k).c.cells = C ∧ (s.layC a b k).c.area = s.c.area) := by show _ ∧ _; unfold RS.layC; rw [program_c]; exact ⟨hC, rfl⟩
  have HNX : Hid (∀ X, w.heap.size ≤ X → X ∉ F.blocks) := fun X hX hm => by have := h.blt X hm; omega
  have HR0 : Hid (RAt w F s) := h
  have HB0 : Hid (b.length = n) := hb0
  have HB : Hid (IsB w bo b) := hb
  rw [hCt] at m1
  have q1 : (k : Int) / (C : Int) = ((k / C : Nat) : Int) := by rw [Int.natCast_ediv]
  have q2 : Int.tmod (k : Int) (C : Int) = ((k % C : Nat) : Int) := rfl
  have q3 : Int.tdiv (k : Int) (C : Int) = ((k / C : Nat) : Int) := rfl
  have q4 : (k : Int) % (C : Int) = ((k % C : Nat) : Int) := by rw [Int.natCast_emod]
  have hC0 : ¬ (C : Int) = 0 := by omega
  have hC1 : ((C : Int) == 0) = false := by simpa using hC0
  have hC2 : ¬ C = 0 := by omega
  have kd0 : k / C ≤ k := Nat.div_le_self _ _
  have wkd : IntKind.i64.wrap ((k / C : Nat) : Int) = ((k / C : Nat) : Int) := by
    have hkd : k / C < 16384 := Nat.lt_of_le_of_lt kd0 hk2
    generalize k / C = z at hkd
    exact i64_in _ (by omega) (by omega)
  have kw : IntKind.i64.wrap (32 * (k : Int)) = ((32 * k : Nat) : Int) := by rw [i64_in _ (by omega) (by omega)]; omega
  have c0 := h.row.cell 0 (.int .i64 s.c.cells) rfl
  have c6 := h.row.cell 6 (.int .i64 s.c.area) rfl
  rw [hC] at c0
  have HC0 : Hid (∀ W, RAt W F s → W.cell? ⟨F.g, 0, none⟩ = some (.int .i64 (C : Int)) ∧ W.cell? ⟨F.g, 6, none⟩ = some (.int .i64 s.c.area)) := fun W hW => ⟨by rw [← hC]; exact hW.row.cell 0 _ rfl, hW.row.cell 6 _ rfl⟩
  clear hb hb0 h n3 m2 m3 hkc hk hMC hA hG c0 c6 hC hCt
  generalize s.layE a k = EE at *
  generalize s.layC a b k = T at *
  generalize s.c.area = AR at *
  generalize hAA : a * AR = AA at *
  generalize s.pgN a (k / C) = PN at *
  generalize hkd : k / C = KD at *
  generalize hkm : k % C = KM at *
  clear hkd hkm
  go_enter Tryz.func52, Tryz.ntmps52
  go_wp2_with fail
  refine BL.mono ?_
  clear BL
  rintro e w1 ⟨rfl, hb1⟩
  have HBL : ((List.replicate 32 (255#8 : By)).map B8).length = 32 := rfl
  have r9 := Row.at w1 55 (List.replicate 32 (.int .u8 0)) _ _ rfl rfl
  have hw1 := hb1.size
  dsimp only
  go_wp2_with (refine wpList_store_Row rfl 55 _ _ rfl w1.heap.size 55 0 (List.replicate 32 (.int .u8 0)) ((List.replicate 32 (255#8 : By)).map B8) r9 (Nat.le_refl _) rfl rfl (by kernel_rfl) (B8_one _) ?_; intro w2 hr2 hs2)
  have q5 : Row w2 w1.heap.size 55 ((cellTo b k 0).map B8) := by rw [cellTo_zero]; exact row_whole hr2 (by simp only [List.length_replicate, List.length_map]; exact Nat.le_refl _)
  have b2 : Below w.heap.size w w2 := hs2.below (hb1.trans ((Below.refl _ _).alloc hw1 _)) hw1
  clear hr2 hs2 r9 hb1
  generalize hX : w1.heap.size = X at *
  go_loopw [10] (fun iv wr => ∃ i : Nat, i ≤ 32 ∧ (i = 0 ∨ 32 * k + i ≤ n) ∧ iv = .int .i64 i ∧ Row wr X 55 ((cellTo b k i).map B8) ∧ Below w.heap.size w wr) (fun iv _ => 32 - (intOf iv).toNat)
  case atStart => exact ⟨0, by omega, .inl rfl, rfl, q5, b2⟩
  case round =>
    clear q5 b2
    obtain ⟨i, hi, hin, rfl, ri, bi⟩ := hrel
    have kw2 : IntKind.i64.wrap (((32 * k : Nat) : Int) + (i : Int)) = ((32 * k + i : Nat) : Int) := by rw [i64_in _ (by omega) (by omega)]; omega
    by_cases hlt : i < 32 ∧ 32 * k + i < n
    · obtain ⟨l1, l2⟩ := hlt
      have y1 : (i : Int) < 32 := by omega
      have y0 : (0 : Int) ≤ (i : Int) := by omega
      have y2 : ((32 * k + i : Nat) : Int) < (n : Int) := by omega
      have y3 : (0 : Int) ≤ ((32 * k + i : Nat) : Int) := by omega
      obtain ⟨B, off, rfl, cb⟩ := (HB.out.below bi (Nat.le_refl _)).cell (32 * k + i) (by rw [HB0.out]; exact l2)
      have ct := ri.cell i (.int .u8 (((cellTo b k i).getD i 0).toNat : Int)) (by
        rw [List.getElem?_map, List.getElem?_eq_getElem (by rw [cellTo_len]; exact l1), List.getD_eq_getElem?_getD, List.getElem?_eq_getElem (by rw [cellTo_len]; exact l1)]; rfl)
      have ft := ri.frozen i
      have e255 : b.getD (32 * k + i) 255#8 = b.getD (32 * k + i) 0 := by
        have hl : 32 * k + i < b.length := by rw [HB0.out]; exact l2
        rw [List.getD_eq_getElem?_getD, List.getD_eq_getElem?_getD, List.getElem?_eq_getElem hl]; rfl
      have E : Hid (((cellTo b k i).map B8).set i (.int .u8 ((b.getD (32 * k + i) 0).toNat : Int)) = (cellTo b k (i + 1)).map B8) := by
        show _ = _
        rw [← e255, ← cellTo_set b k i l1, List.map_set]; rfl
      have rset := ri.set i (.int .u8 ((b.getD (32 * k + i) 0).toNat : Int))
      rw [E.out] at rset
      have sb := SameBut.setCell X i (.int .u8 ((b.getD (32 * k + i) 0).toNat : Int)) wr
      have FIN : Hid (Row (wr.setCell ⟨X, i, none⟩ (.int .u8 ((b.getD (32 * k + i) 0).toNat : Int))) X 55 ((cellTo b k (i + 1)).map B8) ∧ Below w.heap.size w (wr.setCell ⟨X, i, none⟩ (.int .u8 ((b.getD (32 * k + i) 0).toNat : Int)))) := ⟨rset, sb.below bi hw1⟩
      clear rset sb E e255 ri bi
      generalize (cellTo b k i).getD i 0 = old at ct
      generalize b.getD (32 * k + i) 0 = y at *
      generalize hM : 32 * k + i = MM at *
      go_wp2
      obtain ⟨f1, f2⟩ := FIN.out
      exact ⟨⟨i + 1, by omega, .inr (by omega), by go_num, f1, f2⟩, by simp [intOf]; omega⟩
    · have hend : cellTo b k i = cellOf b k := cellTo_end hi (by rw [HB0.out]; omega)
      rw [hend] at ri
      have rr := HR0.out.below bi
      have HRI : Hid (Row wr X 55 ((cellOf b k).map B8)) := ri
      have HRR : Hid (RAt wr F s) := rr
      have hgi : Hid (Below w.heap.size w wr) := bi
      have lx : ((cellOf b k).map B8).length = 32 := by rw [List.length_map, cellOf_len]
      obtain ⟨c0, c6⟩ := HC0.out _ rr
      have HZ : Hid (LW14 wr F T C X AR (cellOf b k) false wr.drew) := ⟨fun _ => rfl, fun h => (by cases h), c0, c6, ri⟩
      have hXb : X ∉ F.blocks := HNX.out X hw1
      clear hend ri bi rr c0 c6
      by_cases l1 : i < 32
      · have y1 : (i : Int) < 32 := by omega
        have y2 : ¬ ((32 * k + i : Nat) : Int) < (n : Int) := by omega
        generalize cellOf b k = XX at *
        obtain ⟨wo, hwo⟩ : ∃ wo, wo = wr := ⟨wr, rfl⟩
        subst hwo
        go_wp2_with fail
        refine wp_region_inv (ILy6 wo F T a AR AA EE k C KD KM PN X XX _ _ _ _ _ _ _ _ _ _ _ _ _ _ _ _ _ _ _ _ _ _ _ _ _ _ _ _ _ _ _ _ _) (by kernel_rfl) (by kernel_rfl) ⟨_, _, _, _, _, _, _, _, _, _, _, _, _, _, _, _, _, _, _, _, _, _, _, _, _, _, _, rfl, ⟨HZ.out, fun k => (by cases k), fun k => (by cases k), fun k => (by cases k), fun k => (by cases k), fun k => (by cases k), fun k => (by cases k), fun k => (by cases k), fun k => (by cases k), fun k => (by cases k), fun k => (by cases k), fun k => (by cases k), fun k => (by cases k), fun k => (by cases k), fun k => (by cases k), fun k => (by cases k), fun k => (by cases k), fun k => (by cases k), fun k => (by cases k), fun k => (by cases k), fun k => (by cases k), fun k => (by cases k), fun k => (by cases k), fun k => (by cases k), fun k => (by cases k), fun k => (by cases k), fun k => (by cases k), fun k => (by cases k)⟩⟩ ?_ ?_
        · refine .cons ?_ (.cons ?_ (.cons ?_ (.cons ?_ (.cons ?_ (.cons ?_ (.cons ?_ (.cons ?_ (.cons ?_ (.cons ?_ (.cons ?_ (.cons ?_ (.cons ?_ (.cons ?_ (.cons ?_ (.cons ?_ (.cons ?_ (.cons ?_ (.cons ?_ (.cons ?_ (.cons ?_ (.cons ?_ (.cons ?_ (.cons ?_ (.cons ?_ (.cons ?_ (.cons ?_ .nil))))))))))))))))))))))))))
          all_goals (refine Ly6.step ?_; intro x34 x35 x36 x37 x38 x39 x40 x41 x42 x43 x44 x45 x46 x47 x48 x49 x50 x51 x52 x53 x54 x55 x56 x57 x58 x59 x8 L W hI hL hd K hK)
          · rw [if_pos (by rfl)]
            go_simp
            exact hK.out _ _ ⟨_, _, _, _, _, _, _, _, _, _, _, _, _, _, _, _, _, _, _, _, _, _, _, _, _, _, _, rfl, hI.s0⟩
          · rw [if_pos (by rfl)]
            go_simp
            exact hK.out _ _ ⟨_, _, _, _, _, _, _, _, _, _, _, _, _, _, _, _, _, _, _, _, _, _, _, _, _, _, _, rfl, hI.s1⟩
          · rw [if_pos (by rfl)]
            go_simp
            exact hK.out _ _ ⟨_, _, _, _, _, _, _, _, _, _, _, _, _, _, _, _, _, _, _, _, _, _, _, _, _, _, _, rfl, hI.s2⟩
          · have hx2 := hI.p2 (hd 2 (by decide))
            subst hx2
            rw [if_pos (by rfl)]
            go_simp
            exact hK.out _ _ ⟨_, _, _, _, _, _, _, _, _, _, _, _, _, _, _, _, _, _, _, _, _, _, _, _, _, _, _, rfl, hI.s3⟩
          · have hx3 := hI.p3 (hd 3 (by decide))
            subst hx3
            rw [if_pos (by rfl)]
            go_simp
            exact hK.out _ _ ⟨_, _, _, _, _, _, _, _, _, _, _, _, _, _, _, _, _, _, _, _, _, _, _, _, _, _, _, rfl, hI.s4⟩
          · have hx4 := hI.p4 (hd 4 (by decide))
            subst hx4
            rw [if_pos (by rfl)]
            go_simp
            exact hK.out _ _ ⟨_, _, _, _, _, _, _, _, _, _, _, _, _, _, _, _, _, _, _, _, _, _, _, _, _, _, _, rfl, hI.s5⟩
          · have hx5 := hI.p5 (hd 5 (by decide))
            subst hx5
            rw [if_pos (by rfl)]
            have cc := hI.x.c6
            go_simp
            exact hK.out _ _ ⟨_, _, _, _, _, _, _, _, _, _, _, _, _, _, _, _, _, _, _, _, _, _, _, _, _, _, _, rfl, hI.s6⟩
          · have hx1 := hI.p1 (hd 1 (by decide))
            subst hx1
            have hx6 := hI.p6 (hd 6 (by decide))
            subst hx6
            rw [if_pos (by rfl)]
            go_simp
            exact hK.out _ _ ⟨_, _, _, _, _, _, _, _, _, _, _, _, _, _, _, _, _, _, _, _, _, _, _, _, _, _, _, rfl, hI.s7⟩
          · have hx7 := hI.p7 (hd 7 (by decide))
            subst hx7
            rw [if_pos (by rfl)]
            go_simp
            exact hK.out _ _ ⟨_, _, _, _, _, _, _, _, _, _, _, _, _, _, _, _, _, _, _, _, _, _, _, _, _, _, _, rfl, hI.s8⟩
          · rw [if_pos (by rfl)]
            go_simp
            exact hK.out _ _ ⟨_, _, _, _, _, _, _, _, _, _, _, _, _, _, _, _, _, _, _, _, _, _, _, _, _, _, _, rfl, hI.s9⟩
          · rw [if_pos (by rfl)]
            go_simp
            exact hK.out _ _ ⟨_, _, _, _, _, _, _, _, _, _, _, _, _, _, _, _, _, _, _, _, _, _, _, _, _, _, _, rfl, hI.s10⟩
          · have hx10 := hI.p10 (hd 10 (by decide))
            subst hx10
            rw [if_pos (by rfl)]
            go_simp
            exact hK.out _ _ ⟨_, _, _, _, _, _, _, _, _, _, _, _, _, _, _, _, _, _, _, _, _, _, _, _, _, _, _, rfl, hI.s11⟩
          · have hx11 := hI.p11 (hd 11 (by decide))
            subst hx11
            rw [if_pos (by rfl)]
            go_simp
            exact hK.out _ _ ⟨_, _, _, _, _, _, _, _, _, _, _, _, _, _, _, _, _, _, _, _, _, _, _, _, _, _, _, rfl, hI.s12⟩
          · have hx12 := hI.p12 (hd 12 (by decide))
            subst hx12
            rw [if_pos (by rfl)]
            go_simp
            exact hK.out _ _ ⟨_, _, _, _, _, _, _, _, _, _, _, _, _, _, _, _, _, _, _, _, _, _, _, _, _, _, _, rfl, hI.s13⟩
          · have hx13 := hI.p13 (hd 13 (by decide))
            subst hx13
            rw [if_pos (by rfl)]
            have cc := hI.x.c0
            go_simp
            exact hK.out _ _ ⟨_, _, _, _, _, _, _, _, _, _, _, _, _, _, _, _, _, _, _, _, _, _, _, _, _, _, _, rfl, hI.s14⟩
          · have hx9 := hI.p9 (hd 9 (by decide))
            subst hx9
            have hx14 := hI.p14 (hd 14 (by decide))
            subst hx14
            rw [if_pos (by rfl)]
            go_simp
            exact hK.out _ _ ⟨_, _, _, _, _, _, _, _, _, _, _, _, _, _, _, _, _, _, _, _, _, _, _, _, _, _, _, rfl, hI.s15⟩
          · have hx8 := hI.p8 (hd 8 (by decide))
            subst hx8
            have hx15 := hI.p15 (hd 15 (by decide))
            subst hx15
            rw [if_pos (by rfl)]
            go_simp
            exact hK.out _ _ ⟨_, _, _, _, _, _, _, _, _, _, _, _, _, _, _, _, _, _, _, _, _, _, _, _, _, _, _, rfl, hI.s16⟩
          · rw [if_pos (by rfl)]
            go_simp
            exact hK.out _ _ ⟨_, _, _, _, _, _, _, _, _, _, _, _, _, _, _, _, _, _, _, _, _, _, _, _, _, _, _, rfl, hI.s17⟩
          · rw [if_pos (by rfl)]
            go_simp
            exact hK.out _ _ ⟨_, _, _, _, _, _, _, _, _, _, _, _, _, _, _, _, _, _, _, _, _, _, _, _, _, _, _, rfl, hI.s18⟩
          · have hx18 := hI.p18 (hd 18 (by decide))
            subst hx18
            rw [if_pos (by rfl)]
            go_simp
            exact hK.out _ _ ⟨_, _, _, _, _, _, _, _, _, _, _, _, _, _, _, _, _, _, _, _, _, _, _, _, _, _, _, rfl, hI.s19⟩
          · have hx19 := hI.p19 (hd 19 (by decide))
            subst hx19
            rw [if_pos (by rfl)]
            go_simp
            exact hK.out _ _ ⟨_, _, _, _, _, _, _, _, _, _, _, _, _, _, _, _, _, _, _, _, _, _, _, _, _, _, _, rfl, hI.s20⟩
          · have hx20 := hI.p20 (hd 20 (by decide))
            subst hx20
            rw [if_pos (by rfl)]
            go_simp
            exact hK.out _ _ ⟨_, _, _, _, _, _, _, _, _, _, _, _, _, _, _, _, _, _, _, _, _, _, _, _, _, _, _, rfl, hI.s21⟩
          · have hx21 := hI.p21 (hd 21 (by decide))
            subst hx21
            rw [if_pos (by rfl)]
            have cc := hI.x.c0
            go_simp
            exact hK.out _ _ ⟨_, _, _, _, _, _, _, _, _, _, _, _, _, _, _, _, _, _, _, _, _, _, _, _, _, _, _, rfl, hI.s22⟩
          · have hx17 := hI.p17 (hd 17 (by decide))
            subst hx17
            have hx22 := hI.p22 (hd 22 (by decide))
            subst hx22
            rw [if_pos (by rfl)]
            go_simp
            exact hK.out _ _ ⟨_, _, _, _, _, _, _, _, _, _, _, _, _, _, _, _, _, _, _, _, _, _, _, _, _, _, _, rfl, hI.s23⟩
          · refine step_load_rng rfl 55 _ rfl X 0 _ hI.x.rng rfl _ Tryz.underlying55 rfl (by rw [lx]; kernel_rfl) ?_
            exact hK.out _ _ ⟨_, _, _, _, _, _, _, _, _, _, _, _, _, _, _, _, _, _, _, _, _, _, _, _, _, _, _, rfl, hI.s24⟩
          · have hx0 := hI.p0 (hd 0 (by decide))
            subst hx0
            have hx16 := hI.p16 (hd 16 (by decide))
            subst hx16
            have hx23 := hI.p23 (hd 23 (by decide))
            subst hx23
            have hx24 := hI.p24 (hd 24 (by decide))
            subst hx24
            rw [if_pos (by rfl)]
            go_simp
            refine (HPG.out _ (by rw [hI.x.a hL]; exact HRR.out.dr ⟨1, rfl⟩)).mono ?_
            rintro e W2 ⟨rfl, z1, z2⟩
            go_simp
            exact hK.out _ _ ⟨_, _, _, _, _, _, _, _, _, _, _, _, _, _, _, _, _, _, _, _, _, _, _, _, _, _, _, rfl, hI.s25 (hI.x.next hL HTC.out hXb z1 z2)⟩
          · have hx25 := hI.p25 (hd 25 (by decide))
            subst hx25
            rw [if_pos (by rfl)]
            go_simp
            exact hK.out _ _ ⟨_, _, _, _, _, _, _, _, _, _, _, _, _, _, _, _, _, _, _, _, _, _, _, _, _, _, _, rfl, hI.s26⟩
        · refine Ly6.ends ?_; intro x34 x35 x36 x37 x38 x39 x40 x41 x42 x43 x44 x45 x46 x47 x48 x49 x50 x51 x52 x53 x54 x55 x56 x57 x58 x59 x8 L W hall hI
          have hx0 := hI.p0 (hall 0 (by decide))
          subst hx0
          have hx1 := hI.p1 (hall 1 (by decide))
          subst hx1
          have hx2 := hI.p2 (hall 2 (by decide))
          subst hx2
          have hx3 := hI.p3 (hall 3 (by decide))
          subst hx3
          have hx4 := hI.p4 (hall 4 (by decide))
          subst hx4
          have hx5 := hI.p5 (hall 5 (by decide))
          subst hx5
          have hx6 := hI.p6 (hall 6 (by decide))
          subst hx6
          have hx7 := hI.p7 (hall 7 (by decide))
          subst hx7
          have hx8 := hI.p8 (hall 8 (by decide))
          subst hx8
          have hx9 := hI.p9 (hall 9 (by decide))
          subst hx9
          have hx10 := hI.p10 (hall 10 (by decide))
          subst hx10
          have hx11 := hI.p11 (hall 11 (by decide))
          subst hx11
          have hx12 := hI.p12 (hall 12 (by decide))
          subst hx12
          have hx13 := hI.p13 (hall 13 (by decide))
          subst hx13
          have hx14 := hI.p14 (hall 14 (by decide))
          subst hx14
          have hx15 := hI.p15 (hall 15 (by decide))
          subst hx15
          have hx16 := hI.p16 (hall 16 (by decide))
          subst hx16
          have hx17 := hI.p17 (hall 17 (by decide))
          subst hx17
          have hx18 := hI.p18 (hall 18 (by decide))
          subst hx18
          have hx19 := hI.p19 (hall 19 (by decide))
          subst hx19
          have hx20 := hI.p20 (hall 20 (by decide))
          subst hx20
          have hx21 := hI.p21 (hall 21 (by decide))
          subst hx21
          have hx22 := hI.p22 (hall 22 (by decide))
          subst hx22
          have hx23 := hI.p23 (hall 23 (by decide))
          subst hx23
          have hx24 := hI.p24 (hall 24 (by decide))
          subst hx24
          have hx25 := hI.p25 (hall 25 (by decide))
          subst hx25
          have hx26 := hI.p26 (hall 26 (by decide))
          subst hx26
          have hXe := hI.x
          rw [hall 25 (by decide)] at hXe
          clear hI hall
          try dsimp only
          obtain ⟨z1, z2⟩ := hXe.b rfl
          go_wp2
          go_ret
          exact ⟨rfl, z1, ((KeptL.refl _ _).below hgi.out (Nat.le_refl _)).trans z2⟩
      · have y1 : ¬ (i : Int) < 32 := by omega
        generalize cellOf b k = XX at *
        obtain ⟨wo, hwo⟩ : ∃ wo, wo = wr := ⟨wr, rfl⟩
        subst hwo
        go_wp2_with fail
        refine wp_region_inv (ILy6 wo F T a AR AA EE k C KD KM PN X XX _ _ _ _ _ _ _ _ _ _ _ _ _ _ _ _ _ _ _ _ _ _ _ _ _ _ _ _ _ _ _ _ _) (by kernel_rfl) (by kernel_rfl) ⟨_, _, _, _, _, _, _, _, _, _, _, _, _, _, _, _, _, _, _, _, _, _, _, _, _, _, _, rfl, ⟨HZ.out, fun k => (by cases k), fun k => (by cases k), fun k => (by cases k), fun k => (by cases k), fun k => (by cases k), fun k => (by cases k), fun k => (by cases k), fun k => (by cases k), fun k => (by cases k), fun k => (by cases k), fun k => (by cases k), fun k => (by cases k), fun k => (by cases k), fun k => (by cases k), fun k => (by cases k), fun k => (by cases k), fun k => (by cases k), fun k => (by cases k), fun k => (by cases k), fun k => (by cases k), fun k => (by cases k), fun k => (by cases k), fun k => (by cases k), fun k => (by cases k), fun k => (by cases k), fun k => (by cases k), fun k => (by cases k)⟩⟩ ?_ ?_
        · refine .cons ?_ (.cons ?_ (.cons ?_ (.cons ?_ (.cons ?_ (.cons ?_ (.cons ?_ (.cons ?_ (.cons ?_ (.cons ?_ (.cons ?_ (.cons ?_ (.cons ?_ (.cons ?_ (.cons ?_ (.cons ?_ (.cons ?_ (.cons ?_ (.cons ?_ (.cons ?_ (.cons ?_ (.cons ?_ (.cons ?_ (.cons ?_ (.cons ?_ (.cons ?_ (.cons ?_ .nil))))))))))))))))))))))))))
          all_goals (refine Ly6.step ?_; intro x34 x35 x36 x37 x38 x39 x40 x41 x42 x43 x44 x45 x46 x47 x48 x49 x50 x51 x52 x53 x54 x55 x56 x57 x58 x59 x8 L W hI hL hd K hK)
          · rw [if_pos (by rfl)]
            go_simp
            exact hK.out _ _ ⟨_, _, _, _, _, _, _, _, _, _, _, _, _, _, _, _, _, _, _, _, _, _, _, _, _, _, _, rfl, hI.s0⟩
          · rw [if_pos (by rfl)]
            go_simp
            exact hK.out _ _ ⟨_, _, _, _, _, _, _, _, _, _, _, _, _, _, _, _, _, _, _, _, _, _, _, _, _, _, _, rfl, hI.s1⟩
          · rw [if_pos (by rfl)]
            go_simp
            exact hK.out _ _ ⟨_, _, _, _, _, _, _, _, _, _, _, _, _, _, _, _, _, _, _, _, _, _, _, _, _, _, _, rfl, hI.s2⟩
          · have hx2 := hI.p2 (hd 2 (by decide))
            subst hx2
            rw [if_pos (by rfl)]
            go_simp
            exact hK.out _ _ ⟨_, _, _, _, _, _, _, _, _, _, _, _, _, _, _, _, _, _, _, _, _, _, _, _, _, _, _, rfl, hI.s3⟩
          · have hx3 := hI.p3 (hd 3 (by decide))
            subst hx3
            rw [if_pos (by rfl)]
            go_simp
            exact hK.out _ _ ⟨_, _, _, _, _, _, _, _, _, _, _, _, _, _, _, _, _, _, _, _, _, _, _, _, _, _, _, rfl, hI.s4⟩
          · have hx4 := hI.p4 (hd 4 (by decide))
            subst hx4
            rw [if_pos (by rfl)]
            go_simp
            exact hK.out _ _ ⟨_, _, _, _, _, _, _, _, _, _, _, _, _, _, _, _, _, _, _, _, _, _, _, _, _, _, _, rfl, hI.s5⟩
          · have hx5 := hI.p5 (hd 5 (by decide))
            subst hx5
            rw [if_pos (by rfl)]
            have cc := hI.x.c6
            go_simp
            exact hK.out _ _ ⟨_, _, _, _, _, _, _, _, _, _, _, _, _, _, _, _, _, _, _, _, _, _, _, _, _, _, _, rfl, hI.s6⟩
          · have hx1 := hI.p1 (hd 1 (by decide))
            subst hx1
            have hx6 := hI.p6 (hd 6 (by decide))
            subst hx6
            rw [if_pos (by rfl)]
            go_simp
            exact hK.out _ _ ⟨_, _, _, _, _, _, _, _, _, _, _, _, _, _, _, _, _, _, _, _, _, _, _, _, _, _, _, rfl, hI.s7⟩
          · have hx7 := hI.p7 (hd 7 (by decide))
            subst hx7
            rw [if_pos (by rfl)]
            go_simp
            exact hK.out _ _ ⟨_, _, _, _, _, _, _, _, _, _, _, _, _, _, _, _, _, _, _, _, _, _, _, _, _, _, _, rfl, hI.s8⟩
          · rw [if_pos (by rfl)]
            go_simp
            exact hK.out _ _ ⟨_, _, _, _, _, _, _, _, _, _, _, _, _, _, _, _, _, _, _, _, _, _, _, _, _, _, _, rfl, hI.s9⟩
          · rw [if_pos (by rfl)]
            go_simp
            exact hK.out _ _ ⟨_, _, _, _, _, _, _, _, _, _, _, _, _, _, _, _, _, _, _, _, _, _, _, _, _, _, _, rfl, hI.s10⟩
          · have hx10 := hI.p10 (hd 10 (by decide))
            subst hx10
            rw [if_pos (by rfl)]
            go_simp
            exact hK.out _ _ ⟨_, _, _, _, _, _, _, _, _, _, _, _, _, _, _, _, _, _, _, _, _, _, _, _, _, _, _, rfl, hI.s11⟩
          · have hx11 := hI.p11 (hd 11 (by decide))
            subst hx11
            rw [if_pos (by rfl)]
            go_simp
            exact hK.out _ _ ⟨_, _, _, _, _, _, _, _, _, _, _, _, _, _, _, _, _, _, _, _, _, _, _, _, _, _, _, rfl, hI.s12⟩
          · have hx12 := hI.p12 (hd 12 (by decide))
            subst hx12
            rw [if_pos (by rfl)]
            go_simp
            exact hK.out _ _ ⟨_, _, _, _, _, _, _, _, _, _, _, _, _, _, _, _, _, _, _, _, _, _, _, _, _, _, _, rfl, hI.s13⟩
          · have hx13 := hI.p13 (hd 13 (by decide))
            subst hx13
            rw [if_pos (by rfl)]
            have cc := hI.x.c0
            go_simp
            exact hK.out _ _ ⟨_, _, _, _, _, _, _, _, _, _, _, _, _, _, _, _, _, _, _, _, _, _, _, _, _, _, _, rfl, hI.s14⟩
          · have hx9 := hI.p9 (hd 9 (by decide))
            subst hx9
            have hx14 := hI.p14 (hd 14 (by decide))
            subst hx14
            rw [if_pos (by rfl)]
            go_simp
            exact hK.out _ _ ⟨_, _, _, _, _, _, _, _, _, _, _, _, _, _, _, _, _, _, _, _, _, _, _, _, _, _, _, rfl, hI.s15⟩
          · have hx8 := hI.p8 (hd 8 (by decide))
            subst hx8
            have hx15 := hI.p15 (hd 15 (by decide))
            subst hx15
            rw [if_pos (by rfl)]
            go_simp
            exact hK.out _ _ ⟨_, _, _, _, _, _, _, _, _, _, _, _, _, _, _, _, _, _, _, _, _, _, _, _, _, _, _, rfl, hI.s16⟩
          · rw [if_pos (by rfl)]
            go_simp
            exact hK.out _ _ ⟨_, _, _, _, _, _, _, _, _, _, _, _, _, _, _, _, _, _, _, _, _, _, _, _, _, _, _, rfl, hI.s17⟩
          · rw [if_pos (by rfl)]
            go_simp
            exact hK.out _ _ ⟨_, _, _, _, _, _, _, _, _, _, _, _, _, _, _, _, _, _, _, _, _, _, _, _, _, _, _, rfl, hI.s18⟩
          · have hx18 := hI.p18 (hd 18 (by decide))
            subst hx18
            rw [if_pos (by rfl)]
            go_simp
            exact hK.out _ _ ⟨_, _, _, _, _, _, _, _, _, _, _, _, _, _, _, _, _, _, _, _, _, _, _, _, _, _, _, rfl, hI.s19⟩
          · have hx19 := hI.p19 (hd 19 (by decide))
            subst hx19
            rw [if_pos (by rfl)]
            go_simp
            exact hK.out _ _ ⟨_, _, _, _, _, _, _, _, _, _, _, _, _, _, _, _, _, _, _, _, _, _, _, _, _, _, _, rfl, hI.s20⟩
          · have hx20 := hI.p20 (hd 20 (by decide))
            subst hx20
            rw [if_pos (by rfl)]
            go_simp
            exact hK.out _ _ ⟨_, _, _, _, _, _, _, _, _, _, _, _, _, _, _, _, _, _, _, _, _, _, _, _, _, _, _, rfl, hI.s21⟩
          · have hx21 := hI.p21 (hd 21 (by decide))
            subst hx21
            rw [if_pos (by rfl)]
            have cc := hI.x.c0
            go_simp
            exact hK.out _ _ ⟨_, _, _, _, _, _, _, _, _, _, _, _, _, _, _, _, _, _, _, _, _, _, _, _, _, _, _, rfl, hI.s22⟩
          · have hx17 := hI.p17 (hd 17 (by decide))
            subst hx17
            have hx22 := hI.p22 (hd 22 (by decide))
            subst hx22
            rw [if_pos (by rfl)]
            go_simp
            exact hK.out _ _ ⟨_, _, _, _, _, _, _, _, _, _, _, _, _, _, _, _, _, _, _, _, _, _, _, _, _, _, _, rfl, hI.s23⟩
          · refine step_load_rng rfl 55 _ rfl X 0 _ hI.x.rng rfl _ Tryz.underlying55 rfl (by rw [lx]; kernel_rfl) ?_
            exact hK.out _ _ ⟨_, _, _, _, _, _, _, _, _, _, _, _, _, _, _, _, _, _, _, _, _, _, _, _, _, _, _, rfl, hI.s24⟩
          · have hx0 := hI.p0 (hd 0 (by decide))
            subst hx0
            have hx16 := hI.p16 (hd 16 (by decide))
            subst hx16
            have hx23 := hI.p23 (hd 23 (by decide))
            subst hx23
            have hx24 := hI.p24 (hd 24 (by decide))
            subst hx24
            rw [if_pos (by rfl)]
            go_simp
            refine (HPG.out _ (by rw [hI.x.a hL]; exact HRR.out.dr ⟨1, rfl⟩)).mono ?_
            rintro e W2 ⟨rfl, z1, z2⟩
            go_simp
            exact hK.out _ _ ⟨_, _, _, _, _, _, _, _, _, _, _, _, _, _, _, _, _, _, _, _, _, _, _, _, _, _, _, rfl, hI.s25 (hI.x.next hL HTC.out hXb z1 z2)⟩
          · have hx25 := hI.p25 (hd 25 (by decide))
            subst hx25
            rw [if_pos (by rfl)]
            go_simp
            exact hK.out _ _ ⟨_, _, _, _, _, _, _, _, _, _, _, _, _, _, _, _, _, _, _, _, _, _, _, _, _, _, _, rfl, hI.s26⟩
        · refine Ly6.ends ?_; intro x34 x35 x36 x37 x38 x39 x40 x41 x42 x43 x44 x45 x46 x47 x48 x49 x50 x51 x52 x53 x54 x55 x56 x57 x58 x59 x8 L W hall hI
          have hx0 := hI.p0 (hall 0 (by decide))
          subst hx0
          have hx1 := hI.p1 (hall 1 (by decide))
          subst hx1
          have hx2 := hI.p2 (hall 2 (by decide))
          subst hx2
          have hx3 := hI.p3 (hall 3 (by decide))
          subst hx3
          have hx4 := hI.p4 (hall 4 (by decide))
          subst hx4
          have hx5 := hI.p5 (hall 5 (by decide))
          subst hx5
          have hx6 := hI.p6 (hall 6 (by decide))
          subst hx6
          have hx7 := hI.p7 (hall 7 (by decide))
          subst hx7
          have hx8 := hI.p8 (hall 8 (by decide))
          subst hx8
          have hx9 := hI.p9 (hall 9 (by decide))
          subst hx9
          have hx10 := hI.p10 (hall 10 (by decide))
          subst hx10
          have hx11 := hI.p11 (hall 11 (by decide))
          subst hx11
          have hx12 := hI.p12 (hall 12 (by decide))
          subst hx12
          have hx13 := hI.p13 (hall 13 (by decide))
          subst hx13
          have hx14 := hI.p14 (hall 14 (by decide))
          subst hx14
          have hx15 := hI.p15 (hall 15 (by decide))
          subst hx15
          have hx16 := hI.p16 (hall 16 (by decide))
          subst hx16
          have hx17 := hI.p17 (hall 17 (by decide))
          subst hx17
          have hx18 := hI.p18 (hall 18 (by decide))
          subst hx18
          have hx19 := hI.p19 (hall 19 (by decide))
          subst hx19
          have hx20 := hI.p20 (hall 20 (by decide))
          subst hx20
          have hx21 := hI.p21 (hall 21 (by decide))
          subst hx21
          have hx22 := hI.p22 (hall 22 (by decide))
          subst hx22
          have hx23 := hI.p23 (hall 23 (by decide))
          subst hx23
          have hx24 := hI.p24 (hall 24 (by decide))
          subst hx24
          have hx25 := hI.p25 (hall 25 (by decide))
          subst hx25
          have hx26 := hI.p26 (hall 26 (by decide))
          subst hx26
          have hXe := hI.x
          rw [hall 25 (by decide)] at hXe
          clear hI hall
          try dsimp only
          obtain ⟨z1, z2⟩ := hXe.b rfl
          go_wp2
          go_ret
          exact ⟨rfl, z1, ((KeptL.refl _ _).below hgi.out (Nat.le_refl _)).trans z2⟩
end Go.Proofs.YtcpdanjbnijoiaaGreatDoor
