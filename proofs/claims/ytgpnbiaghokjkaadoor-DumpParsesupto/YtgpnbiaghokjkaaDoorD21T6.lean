import Derived.Test.YtgpnbiaghokjkaaDoorD21T5
/-! Layer 21, the landed code: take, end. (Printed by tools/genc21.py.) -/
namespace Go.Proofs.YtgpnbiaghokjkaaDoor
open Go.RowKit
set_option linter.unusedVariables false
set_option linter.unusedSimpArgs false
set_option maxRecDepth 100000

theorem take1_any (N R : Nat) (L : List By) (hL : L.length ≤ 140737488355328) (w : World) (hr : Row w R 61 (rd0 1)) (hN : N ≤ w.heap.size) :
    Calls Tryd.prog 44 #[.pointer (some ⟨R, 0, none⟩), .string (strOf L)] w (TkC N R 1 L w) := by
  have HT : Hid (Calls Tryd.prog 58 #[.pointer (some ⟨R, 0, none⟩), .string (strOf L)] w (TkC N R 1 L w)) := takeConfig_any N R 1 L hL w hr hN
  have c0 : w.cell? ⟨R, 0, none⟩ = some (.int .i64 1) := hr.cell 0 _ rfl
  clear hr
  generalize strOf L = SL at *
  generalize hP : TkC N R 1 L w = PP at *
  have HP : Hid (∀ e w', PP e w' → (e = .returned (.tuple #[]) ∨ ∃ k, e = pan k)) := fun e w' h => by
    rw [← hP] at h
    unfold TkC at h
    split at h
    · exact .inr ⟨5, h.1⟩
    · split at h
      · exact .inl h.1
      · exact .inr ⟨1, h.1⟩
  clear hP
  go_enter Tryd.func44, Tryd.ntmps44
  go_wp2_with fail
  refine HT.out.mono ?_
  intro e w1 h1
  rcases HP.out e w1 h1 with rfl | ⟨k, rfl⟩
  · dsimp only
    go_wp2
    go_end0
    exact h1
  · exact ⟨rfl, h1⟩
theorem take2_any (N R NB : Nat) (c : Cfg) (t : St) (pB eB bB : Nat) (ps : List (Nat × Nat)) (pg cl : Nat) (L : List By) (hL : L.length ≤ 140737488355328) (hNB : NB ≤ 1000) (ht : t.blown = marks NB []) (w : World) (h : RdM N R 2 c t pB eB bB ps pg cl w) :
    Calls Tryd.prog 44 #[.pointer (some ⟨R, 0, none⟩), .string (strOf L)] w (TkB N R 2 NB c t pB eB bB ps pg cl L w) := by
  have HT : Hid (Calls Tryd.prog 59 #[.pointer (some ⟨R, 0, none⟩), .string (strOf L)] w (TkB N R 2 NB c t pB eB bB ps pg cl L w)) := takeBlown_any N R 2 NB c t pB eB bB ps pg cl L hL hNB ht w h
  have c0 : w.cell? ⟨R, 0, none⟩ = some (.int .i64 2) := h.c0
  clear h
  generalize strOf L = SL at *
  generalize hP : TkB N R 2 NB c t pB eB bB ps pg cl L w = PP at *
  have HP : Hid (∀ e w', PP e w' → (e = .returned (.tuple #[]) ∨ ∃ k, e = pan k)) := fun e w' h => by
    rw [← hP] at h
    unfold TkB at h
    split at h
    · exact .inr ⟨5, h.1⟩
    · exact .inl h.1
  clear hP
  go_enter Tryd.func44, Tryd.ntmps44
  go_wp2_with fail
  refine HT.out.mono ?_
  intro e w1 h1
  rcases HP.out e w1 h1 with rfl | ⟨k, rfl⟩
  · dsimp only
    go_wp2
    go_end0
    exact h1
  · exact ⟨rfl, h1⟩
theorem take3_any (N R ln C M : Nat) (c : Cfg) (t : St) (pB eB bB : Nat) (ps : List (Nat × Nat)) (pg cl : Nat) (L : List By) (hln : 3 ≤ ln) (hL : L.length ≤ 140737488355328) (hcc : c.cells = (C : Int)) (hC : C ≤ 1000) (hM : M ≤ 1000) (hp : t.pages.length = M) (he : t.erases.length = M) (hpg : pg ≤ M) (hcl : cl ≤ 1000) (hg : ∀ p ∈ t.pages, p.length = C) (w : World) (h : RdM N R ln c t pB eB bB ps pg cl w) :
    Calls Tryd.prog 44 #[.pointer (some ⟨R, 0, none⟩), .string (strOf L)] w (TkS N R ln c (stepC C M L t pg cl) pB eB bB ps w) := by
  have HH : Hid (∀ W : World, Calls Tryd.prog 60 #[.string (strOf L), .string { data := #[99, 101, 108, 108] }] W fun e w' => e = .returned (.bool (decide (L.take 4 = wCell))) ∧ w' = W) := fun W => by
    rw [k_cell]; exact sHas_any L wCell hL (by decide) W
  have c0 := h.c0
  have n1 : ((ln : Int) == 1) = false := by rw [beq_eq_false_iff_ne]; omega
  have n2 : ((ln : Int) == 2) = false := by rw [beq_eq_false_iff_ne]; omega
  by_cases h4 : L.take 4 = wCell
  · have hs : stepC C M L t pg cl = stL C L t pg cl := by unfold stepC stL; rw [if_pos h4]; rfl
    have HT : Hid (Calls Tryd.prog 61 #[.pointer (some ⟨R, 0, none⟩), .string (strOf L)] w (TkS N R ln c (stepC C M L t pg cl) pB eB bB ps w)) := by
      show Calls _ _ _ _ _
      rw [hs]; exact takeCell_any N R ln C M c t pB eB bB ps pg cl L hL hcc hC hM hp hpg hcl hg w h
    rw [decide_eq_true h4] at HH
    clear h h4 hs
    generalize strOf L = SL at *
    generalize hP : TkS N R ln c (stepC C M L t pg cl) pB eB bB ps w = PP at *
    have HP : Hid (∀ e w', PP e w' → (e = .returned (.tuple #[]) ∨ ∃ k, e = pan k)) := fun e w' h => by
      rw [← hP] at h
      unfold TkS at h
      split at h
      · exact .inr ⟨5, h.1⟩
      · exact .inl h.1
    clear hP
    go_enter Tryd.func44, Tryd.ntmps44
    go_wp2_with (refine (HH.out _).mono ?_; clear HH; rintro e w1 ⟨rfl, hw1⟩; rw [hw1]; clear hw1 w1)
    refine HT.out.mono ?_
    intro e w1 h1
    rcases HP.out e w1 h1 with rfl | ⟨k, rfl⟩
    · dsimp only
      go_wp2
      go_end0
      exact h1
    · exact ⟨rfl, h1⟩
  · have hs : stepC C M L t pg cl = stP M L t pg := by unfold stepC stP; rw [if_neg h4]; rfl
    have HT : Hid (Calls Tryd.prog 62 #[.pointer (some ⟨R, 0, none⟩), .string (strOf L)] w (TkS N R ln c (stepC C M L t pg cl) pB eB bB ps w)) := by
      show Calls _ _ _ _ _
      rw [hs]; exact takePage_any N R ln M c t pB eB bB ps pg cl L hL hM hp he (by omega) w h
    rw [decide_eq_false h4] at HH
    clear h h4 hs
    generalize strOf L = SL at *
    generalize hP : TkS N R ln c (stepC C M L t pg cl) pB eB bB ps w = PP at *
    have HP : Hid (∀ e w', PP e w' → (e = .returned (.tuple #[]) ∨ ∃ k, e = pan k)) := fun e w' h => by
      rw [← hP] at h
      unfold TkS at h
      split at h
      · exact .inr ⟨5, h.1⟩
      · exact .inl h.1
    clear hP
    go_enter Tryd.func44, Tryd.ntmps44
    go_wp2_with (refine (HH.out _).mono ?_; clear HH; rintro e w1 ⟨rfl, hw1⟩; rw [hw1]; clear hw1 w1)
    refine HT.out.mono ?_
    intro e w1 h1
    rcases HP.out e w1 h1 with rfl | ⟨k, rfl⟩
    · dsimp only
      go_wp2
      go_end0
      exact h1
    · exact ⟨rfl, h1⟩
/-- Around a drawn order that ends in must. -/
structure WG (W1 : World) (b l : Bool) (W : World) : Prop where
  z : W = W1.drew
  ok : l = true → b = true
theorem WG.zero {W1 : World} {b : Bool} : WG W1 b false W1.drew := ⟨rfl, fun e => (by cases e)⟩
theorem WG.did {W1 W : World} {b l : Bool} (h : WG W1 b l W) (e : b = true) : WG W1 b true W := ⟨h.z, fun _ => e⟩
structure EnA (W1 : World) (R pg PL pc : Nat) (po : Option Addr) (L : Nat → Bool) (x2 x3 x4 x5 x6 x7 x8 x9 x10 x11 x12 x13 x14 x15 x16 x17 x18 x19 x20 : Value) (W : World) : Prop where
  x : WF W1 (L 18) W
  p0 : L 0 = true → x2 = .pointer (some ⟨R, 0, none⟩)
  p1 : L 1 = true → x3 = .pointer (some ⟨R, 0, none⟩)
  p2 : L 2 = true → x4 = .pointer (some ⟨R, 11, none⟩)
  p3 : L 3 = true → x5 = .int .i64 (pg : Int)
  p4 : L 4 = true → x6 = .bool false
  p5 : L 5 = true → x7 = .bool false
  p17 : L 17 = true → x19 = .bool false
section
variable {W1 : World} {R pg PL pc : Nat} {po : Option Addr} {L : Nat → Bool} {x2 x3 x4 x5 x6 x7 x8 x9 x10 x11 x12 x13 x14 x15 x16 x17 x18 x19 x20 : Value} {W W2 : World}
theorem EnA.s0 (h : EnA W1 R pg PL pc po L x2 x3 x4 x5 x6 x7 x8 x9 x10 x11 x12 x13 x14 x15 x16 x17 x18 x19 x20 W) : EnA W1 R pg PL pc po (upd L 0) (.pointer (some ⟨R, 0, none⟩)) x3 x4 x5 x6 x7 x8 x9 x10 x11 x12 x13 x14 x15 x16 x17 x18 x19 x20 W :=
  ⟨h.x, fun _ => rfl, h.p1, h.p2, h.p3, h.p4, h.p5, h.p17⟩
theorem EnA.s1 (h : EnA W1 R pg PL pc po L x2 x3 x4 x5 x6 x7 x8 x9 x10 x11 x12 x13 x14 x15 x16 x17 x18 x19 x20 W) : EnA W1 R pg PL pc po (upd L 1) x2 (.pointer (some ⟨R, 0, none⟩)) x4 x5 x6 x7 x8 x9 x10 x11 x12 x13 x14 x15 x16 x17 x18 x19 x20 W :=
  ⟨h.x, h.p0, fun _ => rfl, h.p2, h.p3, h.p4, h.p5, h.p17⟩
theorem EnA.s2 (h : EnA W1 R pg PL pc po L x2 x3 x4 x5 x6 x7 x8 x9 x10 x11 x12 x13 x14 x15 x16 x17 x18 x19 x20 W) : EnA W1 R pg PL pc po (upd L 2) x2 x3 (.pointer (some ⟨R, 11, none⟩)) x5 x6 x7 x8 x9 x10 x11 x12 x13 x14 x15 x16 x17 x18 x19 x20 W :=
  ⟨h.x, h.p0, h.p1, fun _ => rfl, h.p3, h.p4, h.p5, h.p17⟩
theorem EnA.s3 (h : EnA W1 R pg PL pc po L x2 x3 x4 x5 x6 x7 x8 x9 x10 x11 x12 x13 x14 x15 x16 x17 x18 x19 x20 W) : EnA W1 R pg PL pc po (upd L 3) x2 x3 x4 (.int .i64 (pg : Int)) x6 x7 x8 x9 x10 x11 x12 x13 x14 x15 x16 x17 x18 x19 x20 W :=
  ⟨h.x, h.p0, h.p1, h.p2, fun _ => rfl, h.p4, h.p5, h.p17⟩
theorem EnA.s4 (h : EnA W1 R pg PL pc po L x2 x3 x4 x5 x6 x7 x8 x9 x10 x11 x12 x13 x14 x15 x16 x17 x18 x19 x20 W) : EnA W1 R pg PL pc po (upd L 4) x2 x3 x4 x5 (.bool false) x7 x8 x9 x10 x11 x12 x13 x14 x15 x16 x17 x18 x19 x20 W :=
  ⟨h.x, h.p0, h.p1, h.p2, h.p3, fun _ => rfl, h.p5, h.p17⟩
theorem EnA.s5 (h : EnA W1 R pg PL pc po L x2 x3 x4 x5 x6 x7 x8 x9 x10 x11 x12 x13 x14 x15 x16 x17 x18 x19 x20 W) : EnA W1 R pg PL pc po (upd L 5) x2 x3 x4 x5 x6 (.bool false) x8 x9 x10 x11 x12 x13 x14 x15 x16 x17 x18 x19 x20 W :=
  ⟨h.x, h.p0, h.p1, h.p2, h.p3, h.p4, fun _ => rfl, h.p17⟩
theorem EnA.s6 (h : EnA W1 R pg PL pc po L x2 x3 x4 x5 x6 x7 x8 x9 x10 x11 x12 x13 x14 x15 x16 x17 x18 x19 x20 W) : EnA W1 R pg PL pc po (upd L 6) x2 x3 x4 x5 x6 x7 undef x9 x10 x11 x12 x13 x14 x15 x16 x17 x18 x19 x20 W :=
  ⟨h.x, h.p0, h.p1, h.p2, h.p3, h.p4, h.p5, h.p17⟩
theorem EnA.s7 (h : EnA W1 R pg PL pc po L x2 x3 x4 x5 x6 x7 x8 x9 x10 x11 x12 x13 x14 x15 x16 x17 x18 x19 x20 W) : EnA W1 R pg PL pc po (upd L 7) x2 x3 x4 x5 x6 x7 x8 undef x10 x11 x12 x13 x14 x15 x16 x17 x18 x19 x20 W :=
  ⟨h.x, h.p0, h.p1, h.p2, h.p3, h.p4, h.p5, h.p17⟩
theorem EnA.s8 (h : EnA W1 R pg PL pc po L x2 x3 x4 x5 x6 x7 x8 x9 x10 x11 x12 x13 x14 x15 x16 x17 x18 x19 x20 W) : EnA W1 R pg PL pc po (upd L 8) x2 x3 x4 x5 x6 x7 x8 x9 undef x11 x12 x13 x14 x15 x16 x17 x18 x19 x20 W :=
  ⟨h.x, h.p0, h.p1, h.p2, h.p3, h.p4, h.p5, h.p17⟩
theorem EnA.s9 (h : EnA W1 R pg PL pc po L x2 x3 x4 x5 x6 x7 x8 x9 x10 x11 x12 x13 x14 x15 x16 x17 x18 x19 x20 W) : EnA W1 R pg PL pc po (upd L 9) x2 x3 x4 x5 x6 x7 x8 x9 x10 undef x12 x13 x14 x15 x16 x17 x18 x19 x20 W :=
  ⟨h.x, h.p0, h.p1, h.p2, h.p3, h.p4, h.p5, h.p17⟩
theorem EnA.s10 (h : EnA W1 R pg PL pc po L x2 x3 x4 x5 x6 x7 x8 x9 x10 x11 x12 x13 x14 x15 x16 x17 x18 x19 x20 W) : EnA W1 R pg PL pc po (upd L 10) x2 x3 x4 x5 x6 x7 x8 x9 x10 x11 undef x13 x14 x15 x16 x17 x18 x19 x20 W :=
  ⟨h.x, h.p0, h.p1, h.p2, h.p3, h.p4, h.p5, h.p17⟩
theorem EnA.s11 (h : EnA W1 R pg PL pc po L x2 x3 x4 x5 x6 x7 x8 x9 x10 x11 x12 x13 x14 x15 x16 x17 x18 x19 x20 W) : EnA W1 R pg PL pc po (upd L 11) x2 x3 x4 x5 x6 x7 x8 x9 x10 x11 x12 undef x14 x15 x16 x17 x18 x19 x20 W :=
  ⟨h.x, h.p0, h.p1, h.p2, h.p3, h.p4, h.p5, h.p17⟩
theorem EnA.s12 (h : EnA W1 R pg PL pc po L x2 x3 x4 x5 x6 x7 x8 x9 x10 x11 x12 x13 x14 x15 x16 x17 x18 x19 x20 W) : EnA W1 R pg PL pc po (upd L 12) x2 x3 x4 x5 x6 x7 x8 x9 x10 x11 x12 x13 undef x15 x16 x17 x18 x19 x20 W :=
  ⟨h.x, h.p0, h.p1, h.p2, h.p3, h.p4, h.p5, h.p17⟩
theorem EnA.s13 (h : EnA W1 R pg PL pc po L x2 x3 x4 x5 x6 x7 x8 x9 x10 x11 x12 x13 x14 x15 x16 x17 x18 x19 x20 W) : EnA W1 R pg PL pc po (upd L 13) x2 x3 x4 x5 x6 x7 x8 x9 x10 x11 x12 x13 x14 undef x16 x17 x18 x19 x20 W :=
  ⟨h.x, h.p0, h.p1, h.p2, h.p3, h.p4, h.p5, h.p17⟩
theorem EnA.s14 (h : EnA W1 R pg PL pc po L x2 x3 x4 x5 x6 x7 x8 x9 x10 x11 x12 x13 x14 x15 x16 x17 x18 x19 x20 W) : EnA W1 R pg PL pc po (upd L 14) x2 x3 x4 x5 x6 x7 x8 x9 x10 x11 x12 x13 x14 x15 undef x17 x18 x19 x20 W :=
  ⟨h.x, h.p0, h.p1, h.p2, h.p3, h.p4, h.p5, h.p17⟩
theorem EnA.s15 (h : EnA W1 R pg PL pc po L x2 x3 x4 x5 x6 x7 x8 x9 x10 x11 x12 x13 x14 x15 x16 x17 x18 x19 x20 W) : EnA W1 R pg PL pc po (upd L 15) x2 x3 x4 x5 x6 x7 x8 x9 x10 x11 x12 x13 x14 x15 x16 undef x18 x19 x20 W :=
  ⟨h.x, h.p0, h.p1, h.p2, h.p3, h.p4, h.p5, h.p17⟩
theorem EnA.s16 (h : EnA W1 R pg PL pc po L x2 x3 x4 x5 x6 x7 x8 x9 x10 x11 x12 x13 x14 x15 x16 x17 x18 x19 x20 W) : EnA W1 R pg PL pc po (upd L 16) x2 x3 x4 x5 x6 x7 x8 x9 x10 x11 x12 x13 x14 x15 x16 x17 undef x19 x20 W :=
  ⟨h.x, h.p0, h.p1, h.p2, h.p3, h.p4, h.p5, h.p17⟩
theorem EnA.s17 (h : EnA W1 R pg PL pc po L x2 x3 x4 x5 x6 x7 x8 x9 x10 x11 x12 x13 x14 x15 x16 x17 x18 x19 x20 W) : EnA W1 R pg PL pc po (upd L 17) x2 x3 x4 x5 x6 x7 x8 x9 x10 x11 x12 x13 x14 x15 x16 x17 x18 (.bool false) x20 W :=
  ⟨h.x, h.p0, h.p1, h.p2, h.p3, h.p4, h.p5, fun _ => rfl⟩
end
@[reducible] def IEnA (W1 : World) (R pg PL pc : Nat) (po : Option Addr) (y0 y1 : Value) : (Nat → Bool) → Act → World → Prop := fun L a W => ∃ x2 x3 x4 x5 x6 x7 x8 x9 x10 x11 x12 x13 x14 x15 x16 x17 x18 x19 x20, a = ⟨#[y0, y1, x2, x3, x4, x5, x6, x7, x8, x9, x10, x11, x12, x13, x14, x15, x16, x17, x18, x19, x20], []⟩ ∧ EnA W1 R pg PL pc po L x2 x3 x4 x5 x6 x7 x8 x9 x10 x11 x12 x13 x14 x15 x16 x17 x18 x19 x20 W
theorem EnA.step {W1 : World} {R pg PL pc : Nat} {po : Option Addr} {y0 y1 : Value} {P : Program} {ops : Array Oper} {Q : Exit → Act → World → Prop} {i : Nat} {o : Oper} (hq : ∀ x2 x3 x4 x5 x6 x7 x8 x9 x10 x11 x12 x13 x14 x15 x16 x17 x18 x19 x20 (L : Nat → Bool) (W : World), EnA W1 R pg PL pc po L x2 x3 x4 x5 x6 x7 x8 x9 x10 x11 x12 x13 x14 x15 x16 x17 x18 x19 x20 W → L i = false → (∀ j ∈ onesOf o, L j = true) → ∀ K : Act → World → Prop, Shut (∀ a' w', IEnA W1 R pg PL pc po y0 y1 (upd L i) a' w' → K a' w') → if Region.wanted o (yielded ops (⟨#[y0, y1, x2, x3, x4, x5, x6, x7, x8, x9, x10, x11, x12, x13, x14, x15, x16, x17, x18, x19, x20], []⟩ : Act).tmps) = true then Oper.wp P o ⟨#[y0, y1, x2, x3, x4, x5, x6, x7, x8, x9, x10, x11, x12, x13, x14, x15, x16, x17, x18, x19, x20], []⟩ W K Q else K ((⟨#[y0, y1, x2, x3, x4, x5, x6, x7, x8, x9, x10, x11, x12, x13, x14, x15, x16, x17, x18, x19, x20], []⟩ : Act).put o.dst undef) W) : StepI P ops (IEnA W1 R pg PL pc po y0 y1) Q i o := by
  rintro L a W ⟨x2, x3, x4, x5, x6, x7, x8, x9, x10, x11, x12, x13, x14, x15, x16, x17, x18, x19, x20, rfl, h⟩
  exact hq _ _ _ _ _ _ _ _ _ _ _ _ _ _ _ _ _ _ _ _ _ h
theorem EnA.ends {W1 : World} {R pg PL pc : Nat} {po : Option Addr} {y0 y1 : Value} {mm_ : Nat} {Q : Exit → Act → World → Prop} (hq : ∀ x2 x3 x4 x5 x6 x7 x8 x9 x10 x11 x12 x13 x14 x15 x16 x17 x18 x19 x20 (L : Nat → Bool) (W : World), (∀ j, j < mm_ → L j = true) → EnA W1 R pg PL pc po L x2 x3 x4 x5 x6 x7 x8 x9 x10 x11 x12 x13 x14 x15 x16 x17 x18 x19 x20 W → Q .normal ⟨#[y0, y1, x2, x3, x4, x5, x6, x7, x8, x9, x10, x11, x12, x13, x14, x15, x16, x17, x18, x19, x20], []⟩ W) : ∀ L a' w', (∀ j, j < mm_ → L j = true) → IEnA W1 R pg PL pc po y0 y1 L a' w' → Q .normal a' w' := by
  rintro L a W hall ⟨x2, x3, x4, x5, x6, x7, x8, x9, x10, x11, x12, x13, x14, x15, x16, x17, x18, x19, x20, rfl, h⟩
  exact hq _ _ _ _ _ _ _ _ _ _ _ _ _ _ _ _ _ _ _ _ _ hall h
structure EnB (W1 : World) (R pg PL pc : Nat) (po : Option Addr) (bq : Bool) (L : Nat → Bool) (x2 x3 x4 x5 x6 x7 x8 x9 x10 x11 x12 x13 x14 x15 x16 x17 x18 x19 x20 : Value) (W : World) : Prop where
  x : WG W1 bq (L 18) W
  p0 : L 0 = true → x2 = .pointer (some ⟨R, 0, none⟩)
  p1 : L 1 = true → x3 = .pointer (some ⟨R, 0, none⟩)
  p2 : L 2 = true → x4 = .pointer (some ⟨R, 11, none⟩)
  p3 : L 3 = true → x5 = .int .i64 (pg : Int)
  p4 : L 4 = true → x6 = .bool true
  p5 : L 5 = true → x7 = .bool true
  p6 : L 6 = true → x8 = .pointer (some ⟨R, 0, none⟩)
  p7 : L 7 = true → x9 = .pointer (some ⟨R, 0, none⟩)
  p8 : L 8 = true → x10 = .pointer (some ⟨R, 11, none⟩)
  p9 : L 9 = true → x11 = .int .i64 (pg : Int)
  p10 : L 10 = true → x12 = .pointer (some ⟨R, 0, none⟩)
  p11 : L 11 = true → x13 = .pointer (some ⟨R, 0, none⟩)
  p12 : L 12 = true → x14 = .pointer (some ⟨R, 8, none⟩)
  p13 : L 13 = true → x15 = .pointer (some ⟨R, 8, none⟩)
  p14 : L 14 = true → x16 = .slice po PL pc
  p15 : L 15 = true → x17 = .int .i64 (PL : Int)
  p16 : L 16 = true → x18 = .bool bq
  p17 : L 17 = true → x19 = .bool bq
section
variable {W1 : World} {R pg PL pc : Nat} {po : Option Addr} {bq : Bool} {L : Nat → Bool} {x2 x3 x4 x5 x6 x7 x8 x9 x10 x11 x12 x13 x14 x15 x16 x17 x18 x19 x20 : Value} {W W2 : World}
theorem EnB.s0 (h : EnB W1 R pg PL pc po bq L x2 x3 x4 x5 x6 x7 x8 x9 x10 x11 x12 x13 x14 x15 x16 x17 x18 x19 x20 W) : EnB W1 R pg PL pc po bq (upd L 0) (.pointer (some ⟨R, 0, none⟩)) x3 x4 x5 x6 x7 x8 x9 x10 x11 x12 x13 x14 x15 x16 x17 x18 x19 x20 W :=
  ⟨h.x, fun _ => rfl, h.p1, h.p2, h.p3, h.p4, h.p5, h.p6, h.p7, h.p8, h.p9, h.p10, h.p11, h.p12, h.p13, h.p14, h.p15, h.p16, h.p17⟩
theorem EnB.s1 (h : EnB W1 R pg PL pc po bq L x2 x3 x4 x5 x6 x7 x8 x9 x10 x11 x12 x13 x14 x15 x16 x17 x18 x19 x20 W) : EnB W1 R pg PL pc po bq (upd L 1) x2 (.pointer (some ⟨R, 0, none⟩)) x4 x5 x6 x7 x8 x9 x10 x11 x12 x13 x14 x15 x16 x17 x18 x19 x20 W :=
  ⟨h.x, h.p0, fun _ => rfl, h.p2, h.p3, h.p4, h.p5, h.p6, h.p7, h.p8, h.p9, h.p10, h.p11, h.p12, h.p13, h.p14, h.p15, h.p16, h.p17⟩
theorem EnB.s2 (h : EnB W1 R pg PL pc po bq L x2 x3 x4 x5 x6 x7 x8 x9 x10 x11 x12 x13 x14 x15 x16 x17 x18 x19 x20 W) : EnB W1 R pg PL pc po bq (upd L 2) x2 x3 (.pointer (some ⟨R, 11, none⟩)) x5 x6 x7 x8 x9 x10 x11 x12 x13 x14 x15 x16 x17 x18 x19 x20 W :=
  ⟨h.x, h.p0, h.p1, fun _ => rfl, h.p3, h.p4, h.p5, h.p6, h.p7, h.p8, h.p9, h.p10, h.p11, h.p12, h.p13, h.p14, h.p15, h.p16, h.p17⟩
theorem EnB.s3 (h : EnB W1 R pg PL pc po bq L x2 x3 x4 x5 x6 x7 x8 x9 x10 x11 x12 x13 x14 x15 x16 x17 x18 x19 x20 W) : EnB W1 R pg PL pc po bq (upd L 3) x2 x3 x4 (.int .i64 (pg : Int)) x6 x7 x8 x9 x10 x11 x12 x13 x14 x15 x16 x17 x18 x19 x20 W :=
  ⟨h.x, h.p0, h.p1, h.p2, fun _ => rfl, h.p4, h.p5, h.p6, h.p7, h.p8, h.p9, h.p10, h.p11, h.p12, h.p13, h.p14, h.p15, h.p16, h.p17⟩
theorem EnB.s4 (h : EnB W1 R pg PL pc po bq L x2 x3 x4 x5 x6 x7 x8 x9 x10 x11 x12 x13 x14 x15 x16 x17 x18 x19 x20 W) : EnB W1 R pg PL pc po bq (upd L 4) x2 x3 x4 x5 (.bool true) x7 x8 x9 x10 x11 x12 x13 x14 x15 x16 x17 x18 x19 x20 W :=
  ⟨h.x, h.p0, h.p1, h.p2, h.p3, fun _ => rfl, h.p5, h.p6, h.p7, h.p8, h.p9, h.p10, h.p11, h.p12, h.p13, h.p14, h.p15, h.p16, h.p17⟩
theorem EnB.s5 (h : EnB W1 R pg PL pc po bq L x2 x3 x4 x5 x6 x7 x8 x9 x10 x11 x12 x13 x14 x15 x16 x17 x18 x19 x20 W) : EnB W1 R pg PL pc po bq (upd L 5) x2 x3 x4 x5 x6 (.bool true) x8 x9 x10 x11 x12 x13 x14 x15 x16 x17 x18 x19 x20 W :=
  ⟨h.x, h.p0, h.p1, h.p2, h.p3, h.p4, fun _ => rfl, h.p6, h.p7, h.p8, h.p9, h.p10, h.p11, h.p12, h.p13, h.p14, h.p15, h.p16, h.p17⟩
theorem EnB.s6 (h : EnB W1 R pg PL pc po bq L x2 x3 x4 x5 x6 x7 x8 x9 x10 x11 x12 x13 x14 x15 x16 x17 x18 x19 x20 W) : EnB W1 R pg PL pc po bq (upd L 6) x2 x3 x4 x5 x6 x7 (.pointer (some ⟨R, 0, none⟩)) x9 x10 x11 x12 x13 x14 x15 x16 x17 x18 x19 x20 W :=
  ⟨h.x, h.p0, h.p1, h.p2, h.p3, h.p4, h.p5, fun _ => rfl, h.p7, h.p8, h.p9, h.p10, h.p11, h.p12, h.p13, h.p14, h.p15, h.p16, h.p17⟩
theorem EnB.s7 (h : EnB W1 R pg PL pc po bq L x2 x3 x4 x5 x6 x7 x8 x9 x10 x11 x12 x13 x14 x15 x16 x17 x18 x19 x20 W) : EnB W1 R pg PL pc po bq (upd L 7) x2 x3 x4 x5 x6 x7 x8 (.pointer (some ⟨R, 0, none⟩)) x10 x11 x12 x13 x14 x15 x16 x17 x18 x19 x20 W :=
  ⟨h.x, h.p0, h.p1, h.p2, h.p3, h.p4, h.p5, h.p6, fun _ => rfl, h.p8, h.p9, h.p10, h.p11, h.p12, h.p13, h.p14, h.p15, h.p16, h.p17⟩
theorem EnB.s8 (h : EnB W1 R pg PL pc po bq L x2 x3 x4 x5 x6 x7 x8 x9 x10 x11 x12 x13 x14 x15 x16 x17 x18 x19 x20 W) : EnB W1 R pg PL pc po bq (upd L 8) x2 x3 x4 x5 x6 x7 x8 x9 (.pointer (some ⟨R, 11, none⟩)) x11 x12 x13 x14 x15 x16 x17 x18 x19 x20 W :=
  ⟨h.x, h.p0, h.p1, h.p2, h.p3, h.p4, h.p5, h.p6, h.p7, fun _ => rfl, h.p9, h.p10, h.p11, h.p12, h.p13, h.p14, h.p15, h.p16, h.p17⟩
theorem EnB.s9 (h : EnB W1 R pg PL pc po bq L x2 x3 x4 x5 x6 x7 x8 x9 x10 x11 x12 x13 x14 x15 x16 x17 x18 x19 x20 W) : EnB W1 R pg PL pc po bq (upd L 9) x2 x3 x4 x5 x6 x7 x8 x9 x10 (.int .i64 (pg : Int)) x12 x13 x14 x15 x16 x17 x18 x19 x20 W :=
  ⟨h.x, h.p0, h.p1, h.p2, h.p3, h.p4, h.p5, h.p6, h.p7, h.p8, fun _ => rfl, h.p10, h.p11, h.p12, h.p13, h.p14, h.p15, h.p16, h.p17⟩
theorem EnB.s10 (h : EnB W1 R pg PL pc po bq L x2 x3 x4 x5 x6 x7 x8 x9 x10 x11 x12 x13 x14 x15 x16 x17 x18 x19 x20 W) : EnB W1 R pg PL pc po bq (upd L 10) x2 x3 x4 x5 x6 x7 x8 x9 x10 x11 (.pointer (some ⟨R, 0, none⟩)) x13 x14 x15 x16 x17 x18 x19 x20 W :=
  ⟨h.x, h.p0, h.p1, h.p2, h.p3, h.p4, h.p5, h.p6, h.p7, h.p8, h.p9, fun _ => rfl, h.p11, h.p12, h.p13, h.p14, h.p15, h.p16, h.p17⟩
theorem EnB.s11 (h : EnB W1 R pg PL pc po bq L x2 x3 x4 x5 x6 x7 x8 x9 x10 x11 x12 x13 x14 x15 x16 x17 x18 x19 x20 W) : EnB W1 R pg PL pc po bq (upd L 11) x2 x3 x4 x5 x6 x7 x8 x9 x10 x11 x12 (.pointer (some ⟨R, 0, none⟩)) x14 x15 x16 x17 x18 x19 x20 W :=
  ⟨h.x, h.p0, h.p1, h.p2, h.p3, h.p4, h.p5, h.p6, h.p7, h.p8, h.p9, h.p10, fun _ => rfl, h.p12, h.p13, h.p14, h.p15, h.p16, h.p17⟩
theorem EnB.s12 (h : EnB W1 R pg PL pc po bq L x2 x3 x4 x5 x6 x7 x8 x9 x10 x11 x12 x13 x14 x15 x16 x17 x18 x19 x20 W) : EnB W1 R pg PL pc po bq (upd L 12) x2 x3 x4 x5 x6 x7 x8 x9 x10 x11 x12 x13 (.pointer (some ⟨R, 8, none⟩)) x15 x16 x17 x18 x19 x20 W :=
  ⟨h.x, h.p0, h.p1, h.p2, h.p3, h.p4, h.p5, h.p6, h.p7, h.p8, h.p9, h.p10, h.p11, fun _ => rfl, h.p13, h.p14, h.p15, h.p16, h.p17⟩
theorem EnB.s13 (h : EnB W1 R pg PL pc po bq L x2 x3 x4 x5 x6 x7 x8 x9 x10 x11 x12 x13 x14 x15 x16 x17 x18 x19 x20 W) : EnB W1 R pg PL pc po bq (upd L 13) x2 x3 x4 x5 x6 x7 x8 x9 x10 x11 x12 x13 x14 (.pointer (some ⟨R, 8, none⟩)) x16 x17 x18 x19 x20 W :=
  ⟨h.x, h.p0, h.p1, h.p2, h.p3, h.p4, h.p5, h.p6, h.p7, h.p8, h.p9, h.p10, h.p11, h.p12, fun _ => rfl, h.p14, h.p15, h.p16, h.p17⟩
theorem EnB.s14 (h : EnB W1 R pg PL pc po bq L x2 x3 x4 x5 x6 x7 x8 x9 x10 x11 x12 x13 x14 x15 x16 x17 x18 x19 x20 W) : EnB W1 R pg PL pc po bq (upd L 14) x2 x3 x4 x5 x6 x7 x8 x9 x10 x11 x12 x13 x14 x15 (.slice po PL pc) x17 x18 x19 x20 W :=
  ⟨h.x, h.p0, h.p1, h.p2, h.p3, h.p4, h.p5, h.p6, h.p7, h.p8, h.p9, h.p10, h.p11, h.p12, h.p13, fun _ => rfl, h.p15, h.p16, h.p17⟩
theorem EnB.s15 (h : EnB W1 R pg PL pc po bq L x2 x3 x4 x5 x6 x7 x8 x9 x10 x11 x12 x13 x14 x15 x16 x17 x18 x19 x20 W) : EnB W1 R pg PL pc po bq (upd L 15) x2 x3 x4 x5 x6 x7 x8 x9 x10 x11 x12 x13 x14 x15 x16 (.int .i64 (PL : Int)) x18 x19 x20 W :=
  ⟨h.x, h.p0, h.p1, h.p2, h.p3, h.p4, h.p5, h.p6, h.p7, h.p8, h.p9, h.p10, h.p11, h.p12, h.p13, h.p14, fun _ => rfl, h.p16, h.p17⟩
theorem EnB.s16 (h : EnB W1 R pg PL pc po bq L x2 x3 x4 x5 x6 x7 x8 x9 x10 x11 x12 x13 x14 x15 x16 x17 x18 x19 x20 W) : EnB W1 R pg PL pc po bq (upd L 16) x2 x3 x4 x5 x6 x7 x8 x9 x10 x11 x12 x13 x14 x15 x16 x17 (.bool bq) x19 x20 W :=
  ⟨h.x, h.p0, h.p1, h.p2, h.p3, h.p4, h.p5, h.p6, h.p7, h.p8, h.p9, h.p10, h.p11, h.p12, h.p13, h.p14, h.p15, fun _ => rfl, h.p17⟩
theorem EnB.s17 (h : EnB W1 R pg PL pc po bq L x2 x3 x4 x5 x6 x7 x8 x9 x10 x11 x12 x13 x14 x15 x16 x17 x18 x19 x20 W) : EnB W1 R pg PL pc po bq (upd L 17) x2 x3 x4 x5 x6 x7 x8 x9 x10 x11 x12 x13 x14 x15 x16 x17 x18 (.bool bq) x20 W :=
  ⟨h.x, h.p0, h.p1, h.p2, h.p3, h.p4, h.p5, h.p6, h.p7, h.p8, h.p9, h.p10, h.p11, h.p12, h.p13, h.p14, h.p15, h.p16, fun _ => rfl⟩
theorem EnB.s18 (h : EnB W1 R pg PL pc po bq L x2 x3 x4 x5 x6 x7 x8 x9 x10 x11 x12 x13 x14 x15 x16 x17 x18 x19 x20 W) {v : Value} (hX : WG W1 bq ((upd L 18) 18) W2) : EnB W1 R pg PL pc po bq (upd L 18) x2 x3 x4 x5 x6 x7 x8 x9 x10 x11 x12 x13 x14 x15 x16 x17 x18 x19 v W2 :=
  ⟨hX, h.p0, h.p1, h.p2, h.p3, h.p4, h.p5, h.p6, h.p7, h.p8, h.p9, h.p10, h.p11, h.p12, h.p13, h.p14, h.p15, h.p16, h.p17⟩
end
@[reducible] def IEnB (W1 : World) (R pg PL pc : Nat) (po : Option Addr) (bq : Bool) (y0 y1 : Value) : (Nat → Bool) → Act → World → Prop := fun L a W => ∃ x2 x3 x4 x5 x6 x7 x8 x9 x10 x11 x12 x13 x14 x15 x16 x17 x18 x19 x20, a = ⟨#[y0, y1, x2, x3, x4, x5, x6, x7, x8, x9, x10, x11, x12, x13, x14, x15, x16, x17, x18, x19, x20], []⟩ ∧ EnB W1 R pg PL pc po bq L x2 x3 x4 x5 x6 x7 x8 x9 x10 x11 x12 x13 x14 x15 x16 x17 x18 x19 x20 W
theorem EnB.step {W1 : World} {R pg PL pc : Nat} {po : Option Addr} {bq : Bool} {y0 y1 : Value} {P : Program} {ops : Array Oper} {Q : Exit → Act → World → Prop} {i : Nat} {o : Oper} (hq : ∀ x2 x3 x4 x5 x6 x7 x8 x9 x10 x11 x12 x13 x14 x15 x16 x17 x18 x19 x20 (L : Nat → Bool) (W : World), EnB W1 R pg PL pc po bq L x2 x3 x4 x5 x6 x7 x8 x9 x10 x11 x12 x13 x14 x15 x16 x17 x18 x19 x20 W → L i = false → (∀ j ∈ onesOf o, L j = true) → ∀ K : Act → World → Prop, Shut (∀ a' w', IEnB W1 R pg PL pc po bq y0 y1 (upd L i) a' w' → K a' w') → if Region.wanted o (yielded ops (⟨#[y0, y1, x2, x3, x4, x5, x6, x7, x8, x9, x10, x11, x12, x13, x14, x15, x16, x17, x18, x19, x20], []⟩ : Act).tmps) = true then Oper.wp P o ⟨#[y0, y1, x2, x3, x4, x5, x6, x7, x8, x9, x10, x11, x12, x13, x14, x15, x16, x17, x18, x19, x20], []⟩ W K Q else K ((⟨#[y0, y1, x2, x3, x4, x5, x6, x7, x8, x9, x10, x11, x12, x13, x14, x15, x16, x17, x18, x19, x20], []⟩ : Act).put o.dst undef) W) : StepI P ops (IEnB W1 R pg PL pc po bq y0 y1) Q i o := by
  rintro L a W ⟨x2, x3, x4, x5, x6, x7, x8, x9, x10, x11, x12, x13, x14, x15, x16, x17, x18, x19, x20, rfl, h⟩
  exact hq _ _ _ _ _ _ _ _ _ _ _ _ _ _ _ _ _ _ _ _ _ h
theorem EnB.ends {W1 : World} {R pg PL pc : Nat} {po : Option Addr} {bq : Bool} {y0 y1 : Value} {mm_ : Nat} {Q : Exit → Act → World → Prop} (hq : ∀ x2 x3 x4 x5 x6 x7 x8 x9 x10 x11 x12 x13 x14 x15 x16 x17 x18 x19 x20 (L : Nat → Bool) (W : World), (∀ j, j < mm_ → L j = true) → EnB W1 R pg PL pc po bq L x2 x3 x4 x5 x6 x7 x8 x9 x10 x11 x12 x13 x14 x15 x16 x17 x18 x19 x20 W → Q .normal ⟨#[y0, y1, x2, x3, x4, x5, x6, x7, x8, x9, x10, x11, x12, x13, x14, x15, x16, x17, x18, x19, x20], []⟩ W) : ∀ L a' w', (∀ j, j < mm_ → L j = true) → IEnB W1 R pg PL pc po bq y0 y1 L a' w' → Q .normal a' w' := by
  rintro L a W hall ⟨x2, x3, x4, x5, x6, x7, x8, x9, x10, x11, x12, x13, x14, x15, x16, x17, x18, x19, x20, rfl, h⟩
  exact hq _ _ _ _ _ _ _ _ _ _ _ _ _ _ _ _ _ _ _ _ _ hall h
set_option maxHeartbeats 2000000 in
theorem end_any (R pg PL pc : Nat) (po : Option Addr) (w : World) (c11 : w.cell? ⟨R, 11, none⟩ = some (.int .i64 (pg : Int))) (c8 : w.cell? ⟨R, 8, none⟩ = some (.slice po PL pc)) :
    Calls Tryd.prog 45 #[.pointer (some ⟨R, 0, none⟩)] w fun e w' => e = mustE (decide (0 < pg ∧ pg = PL)) ∧ Dr w w' := by
  have HCE : Hid (w.drew.cell? ⟨R, 11, none⟩ = some (.int .i64 (pg : Int)) ∧ w.drew.cell? ⟨R, 8, none⟩ = some (.slice po PL pc)) := ⟨c11, c8⟩
  clear c11 c8
  by_cases k1 : 0 < pg
  · have d1 : (pg : Int) > 0 := by omega
    obtain ⟨bq, hbq⟩ : ∃ bq, decide (0 < pg ∧ pg = PL) = bq := ⟨_, rfl⟩
    have HBE : Hid (((pg : Int) == (PL : Int)) = bq) := by
      show _ = bq
      rw [← hbq, Bool.eq_iff_iff, beq_iff_eq, decide_eq_true_iff]
      omega
    rw [hbq]
    clear hbq
    go_enter Tryd.func45, Tryd.ntmps45
    go_wp2
    refine wp_region_inv (IEnB w R pg PL pc po bq _ _) (by kernel_rfl) (by kernel_rfl) ⟨_, _, _, _, _, _, _, _, _, _, _, _, _, _, _, _, _, _, _, rfl, ⟨WG.zero, fun k => (by cases k), fun k => (by cases k), fun k => (by cases k), fun k => (by cases k), fun k => (by cases k), fun k => (by cases k), fun k => (by cases k), fun k => (by cases k), fun k => (by cases k), fun k => (by cases k), fun k => (by cases k), fun k => (by cases k), fun k => (by cases k), fun k => (by cases k), fun k => (by cases k), fun k => (by cases k), fun k => (by cases k), fun k => (by cases k)⟩⟩ ?_ ?_
    · refine .cons ?_ (.cons ?_ (.cons ?_ (.cons ?_ (.cons ?_ (.cons ?_ (.cons ?_ (.cons ?_ (.cons ?_ (.cons ?_ (.cons ?_ (.cons ?_ (.cons ?_ (.cons ?_ (.cons ?_ (.cons ?_ (.cons ?_ (.cons ?_ (.cons ?_ .nil))))))))))))))))))
      all_goals (refine EnB.step ?_; intro x2 x3 x4 x5 x6 x7 x8 x9 x10 x11 x12 x13 x14 x15 x16 x17 x18 x19 x20 L W hI hL hd K hK)
      · rw [if_pos (by rfl)]
        go_simp
        exact hK.out _ _ ⟨_, _, _, _, _, _, _, _, _, _, _, _, _, _, _, _, _, _, _, rfl, hI.s0⟩
      · have hx0 := hI.p0 (hd 0 (by decide))
        subst hx0
        rw [if_pos (by rfl)]
        go_simp
        exact hK.out _ _ ⟨_, _, _, _, _, _, _, _, _, _, _, _, _, _, _, _, _, _, _, rfl, hI.s1⟩
      · have hx1 := hI.p1 (hd 1 (by decide))
        subst hx1
        rw [if_pos (by rfl)]
        go_simp
        exact hK.out _ _ ⟨_, _, _, _, _, _, _, _, _, _, _, _, _, _, _, _, _, _, _, rfl, hI.s2⟩
      · have hx2 := hI.p2 (hd 2 (by decide))
        subst hx2
        rw [if_pos (by rfl)]
        have hw := hI.x.z
        subst hw
        obtain ⟨e11, e8⟩ := HCE.out
        go_simp
        exact hK.out _ _ ⟨_, _, _, _, _, _, _, _, _, _, _, _, _, _, _, _, _, _, _, rfl, hI.s3⟩
      · have hx3 := hI.p3 (hd 3 (by decide))
        subst hx3
        rw [if_pos (by rfl)]
        go_simp
        exact hK.out _ _ ⟨_, _, _, _, _, _, _, _, _, _, _, _, _, _, _, _, _, _, _, rfl, hI.s4⟩
      · have hx4 := hI.p4 (hd 4 (by decide))
        subst hx4
        rw [if_pos (by rfl)]
        go_simp
        exact hK.out _ _ ⟨_, _, _, _, _, _, _, _, _, _, _, _, _, _, _, _, _, _, _, rfl, hI.s5⟩
      · have hx5 := hI.p5 (hd 5 (by decide))
        subst hx5
        rw [if_pos (by rfl)]
        go_simp
        exact hK.out _ _ ⟨_, _, _, _, _, _, _, _, _, _, _, _, _, _, _, _, _, _, _, rfl, hI.s6⟩
      · have hx6 := hI.p6 (hd 6 (by decide))
        subst hx6
        have hx5 := hI.p5 (hd 5 (by decide))
        subst hx5
        rw [if_pos (by rfl)]
        go_simp
        exact hK.out _ _ ⟨_, _, _, _, _, _, _, _, _, _, _, _, _, _, _, _, _, _, _, rfl, hI.s7⟩
      · have hx7 := hI.p7 (hd 7 (by decide))
        subst hx7
        have hx5 := hI.p5 (hd 5 (by decide))
        subst hx5
        rw [if_pos (by rfl)]
        go_simp
        exact hK.out _ _ ⟨_, _, _, _, _, _, _, _, _, _, _, _, _, _, _, _, _, _, _, rfl, hI.s8⟩
      · have hx8 := hI.p8 (hd 8 (by decide))
        subst hx8
        have hx5 := hI.p5 (hd 5 (by decide))
        subst hx5
        rw [if_pos (by rfl)]
        have hw := hI.x.z
        subst hw
        obtain ⟨e11, e8⟩ := HCE.out
        go_simp
        exact hK.out _ _ ⟨_, _, _, _, _, _, _, _, _, _, _, _, _, _, _, _, _, _, _, rfl, hI.s9⟩
      · have hx5 := hI.p5 (hd 5 (by decide))
        subst hx5
        rw [if_pos (by rfl)]
        go_simp
        exact hK.out _ _ ⟨_, _, _, _, _, _, _, _, _, _, _, _, _, _, _, _, _, _, _, rfl, hI.s10⟩
      · have hx10 := hI.p10 (hd 10 (by decide))
        subst hx10
        have hx5 := hI.p5 (hd 5 (by decide))
        subst hx5
        rw [if_pos (by rfl)]
        go_simp
        exact hK.out _ _ ⟨_, _, _, _, _, _, _, _, _, _, _, _, _, _, _, _, _, _, _, rfl, hI.s11⟩
      · have hx11 := hI.p11 (hd 11 (by decide))
        subst hx11
        have hx5 := hI.p5 (hd 5 (by decide))
        subst hx5
        rw [if_pos (by rfl)]
        go_simp
        exact hK.out _ _ ⟨_, _, _, _, _, _, _, _, _, _, _, _, _, _, _, _, _, _, _, rfl, hI.s12⟩
      · have hx12 := hI.p12 (hd 12 (by decide))
        subst hx12
        have hx5 := hI.p5 (hd 5 (by decide))
        subst hx5
        rw [if_pos (by rfl)]
        go_simp
        exact hK.out _ _ ⟨_, _, _, _, _, _, _, _, _, _, _, _, _, _, _, _, _, _, _, rfl, hI.s13⟩
      · have hx13 := hI.p13 (hd 13 (by decide))
        subst hx13
        have hx5 := hI.p5 (hd 5 (by decide))
        subst hx5
        rw [if_pos (by rfl)]
        have hw := hI.x.z
        subst hw
        obtain ⟨e11, e8⟩ := HCE.out
        go_simp
        exact hK.out _ _ ⟨_, _, _, _, _, _, _, _, _, _, _, _, _, _, _, _, _, _, _, rfl, hI.s14⟩
      · have hx14 := hI.p14 (hd 14 (by decide))
        subst hx14
        have hx5 := hI.p5 (hd 5 (by decide))
        subst hx5
        rw [if_pos (by rfl)]
        go_simp
        exact hK.out _ _ ⟨_, _, _, _, _, _, _, _, _, _, _, _, _, _, _, _, _, _, _, rfl, hI.s15⟩
      · have hx9 := hI.p9 (hd 9 (by decide))
        subst hx9
        have hx15 := hI.p15 (hd 15 (by decide))
        subst hx15
        have hx5 := hI.p5 (hd 5 (by decide))
        subst hx5
        rw [if_pos (by rfl)]
        have hb := HBE.out
        go_simp
        exact hK.out _ _ ⟨_, _, _, _, _, _, _, _, _, _, _, _, _, _, _, _, _, _, _, rfl, hI.s16⟩
      · have hx5 := hI.p5 (hd 5 (by decide))
        subst hx5
        have hx16 := hI.p16 (hd 16 (by decide))
        subst hx16
        rw [if_pos (by rfl)]
        go_simp
        exact hK.out _ _ ⟨_, _, _, _, _, _, _, _, _, _, _, _, _, _, _, _, _, _, _, rfl, hI.s17⟩
      · have hx17 := hI.p17 (hd 17 (by decide))
        subst hx17
        rw [if_pos (by rfl)]
        go_simp
        refine (must_any bq W).mono ?_
        rintro e W2 ⟨he, hw2⟩
        rw [hw2]; clear hw2 W2
        by_cases hp : bq = false
        · rw [he, show mustE bq = pan 5 from by rw [hp]; rfl]
          exact ⟨rfl, (by first | rfl | rw [hp]; rfl), ⟨1, hI.x.z⟩⟩
        have hq : bq = true := by simpa using hp
        rw [he, show mustE bq = .returned (.tuple #[]) from by rw [hq]; rfl]
        dsimp only
        have hX := hI.x.did hq
        exact hK.out _ _ ⟨_, _, _, _, _, _, _, _, _, _, _, _, _, _, _, _, _, _, _, rfl, hI.s18 hX⟩
    · refine EnB.ends ?_; intro x2 x3 x4 x5 x6 x7 x8 x9 x10 x11 x12 x13 x14 x15 x16 x17 x18 x19 x20 L W hall hI
      have hx0 := hI.p0 (hall 0 (by decide))
      subst hx0
      have hx1 := hI.p1 (hall 1 (by decide))
      subst hx1
      have hx2 := hI.p2 (hall 2 (by decide))
      subst hx2
      have hx3 := hI.p3 (hall 3 (by decide))
      subst hx3
      have hx4 := hI.p4 (hall 4 (by decide))
      subst hx4
      have hx5 := hI.p5 (hall 5 (by decide))
      subst hx5
      have hx6 := hI.p6 (hall 6 (by decide))
      subst hx6
      have hx7 := hI.p7 (hall 7 (by decide))
      subst hx7
      have hx8 := hI.p8 (hall 8 (by decide))
      subst hx8
      have hx9 := hI.p9 (hall 9 (by decide))
      subst hx9
      have hx10 := hI.p10 (hall 10 (by decide))
      subst hx10
      have hx11 := hI.p11 (hall 11 (by decide))
      subst hx11
      have hx12 := hI.p12 (hall 12 (by decide))
      subst hx12
      have hx13 := hI.p13 (hall 13 (by decide))
      subst hx13
      have hx14 := hI.p14 (hall 14 (by decide))
      subst hx14
      have hx15 := hI.p15 (hall 15 (by decide))
      subst hx15
      have hx16 := hI.p16 (hall 16 (by decide))
      subst hx16
      have hx17 := hI.p17 (hall 17 (by decide))
      subst hx17
      have hXe := hI.x
      rw [hall 18 (by decide)] at hXe
      clear hI hall
      try dsimp only
      have hb := hXe.ok rfl
      have hz := hXe.z
      clear hXe
      subst hb
      go_wp2
      go_end0
      exact ⟨rfl, ⟨1, hz⟩⟩
  · have d1 : decide ((pg : Int) > 0) = false := decide_eq_false (by omega)
    have hm : mustE (decide (0 < pg ∧ pg = PL)) = pan 5 := by rw [decide_eq_false (fun h => k1 h.1)]; rfl
    rw [hm]
    clear hm
    go_enter Tryd.func45, Tryd.ntmps45
    go_wp2
    refine wp_region_inv (IEnA w R pg PL pc po _ _) (by kernel_rfl) (by kernel_rfl) ⟨_, _, _, _, _, _, _, _, _, _, _, _, _, _, _, _, _, _, _, rfl, ⟨WF.zero, fun k => (by cases k), fun k => (by cases k), fun k => (by cases k), fun k => (by cases k), fun k => (by cases k), fun k => (by cases k), fun k => (by cases k)⟩⟩ ?_ ?_
    · refine .cons ?_ (.cons ?_ (.cons ?_ (.cons ?_ (.cons ?_ (.cons ?_ (.cons ?_ (.cons ?_ (.cons ?_ (.cons ?_ (.cons ?_ (.cons ?_ (.cons ?_ (.cons ?_ (.cons ?_ (.cons ?_ (.cons ?_ (.cons ?_ (.cons ?_ .nil))))))))))))))))))
      all_goals (refine EnA.step ?_; intro x2 x3 x4 x5 x6 x7 x8 x9 x10 x11 x12 x13 x14 x15 x16 x17 x18 x19 x20 L W hI hL hd K hK)
      · rw [if_pos (by rfl)]
        go_simp
        exact hK.out _ _ ⟨_, _, _, _, _, _, _, _, _, _, _, _, _, _, _, _, _, _, _, rfl, hI.s0⟩
      · have hx0 := hI.p0 (hd 0 (by decide))
        subst hx0
        rw [if_pos (by rfl)]
        go_simp
        exact hK.out _ _ ⟨_, _, _, _, _, _, _, _, _, _, _, _, _, _, _, _, _, _, _, rfl, hI.s1⟩
      · have hx1 := hI.p1 (hd 1 (by decide))
        subst hx1
        rw [if_pos (by rfl)]
        go_simp
        exact hK.out _ _ ⟨_, _, _, _, _, _, _, _, _, _, _, _, _, _, _, _, _, _, _, rfl, hI.s2⟩
      · have hx2 := hI.p2 (hd 2 (by decide))
        subst hx2
        rw [if_pos (by rfl)]
        have hw := hI.x.z
        subst hw
        obtain ⟨e11, e8⟩ := HCE.out
        go_simp
        exact hK.out _ _ ⟨_, _, _, _, _, _, _, _, _, _, _, _, _, _, _, _, _, _, _, rfl, hI.s3⟩
      · have hx3 := hI.p3 (hd 3 (by decide))
        subst hx3
        rw [if_pos (by rfl)]
        go_simp
        exact hK.out _ _ ⟨_, _, _, _, _, _, _, _, _, _, _, _, _, _, _, _, _, _, _, rfl, hI.s4⟩
      · have hx4 := hI.p4 (hd 4 (by decide))
        subst hx4
        rw [if_pos (by rfl)]
        go_simp
        exact hK.out _ _ ⟨_, _, _, _, _, _, _, _, _, _, _, _, _, _, _, _, _, _, _, rfl, hI.s5⟩
      · have hx5 := hI.p5 (hd 5 (by decide))
        subst hx5
        rw [if_neg (by first | decide | exact Bool.false_ne_true)]
        exact hK.out _ _ ⟨_, _, _, _, _, _, _, _, _, _, _, _, _, _, _, _, _, _, _, rfl, hI.s6⟩
      · have hx5 := hI.p5 (hd 5 (by decide))
        subst hx5
        rw [if_neg (by first | decide | exact Bool.false_ne_true)]
        exact hK.out _ _ ⟨_, _, _, _, _, _, _, _, _, _, _, _, _, _, _, _, _, _, _, rfl, hI.s7⟩
      · have hx5 := hI.p5 (hd 5 (by decide))
        subst hx5
        rw [if_neg (by first | decide | exact Bool.false_ne_true)]
        exact hK.out _ _ ⟨_, _, _, _, _, _, _, _, _, _, _, _, _, _, _, _, _, _, _, rfl, hI.s8⟩
      · have hx5 := hI.p5 (hd 5 (by decide))
        subst hx5
        rw [if_neg (by first | decide | exact Bool.false_ne_true)]
        exact hK.out _ _ ⟨_, _, _, _, _, _, _, _, _, _, _, _, _, _, _, _, _, _, _, rfl, hI.s9⟩
      · have hx5 := hI.p5 (hd 5 (by decide))
        subst hx5
        rw [if_neg (by first | decide | exact Bool.false_ne_true)]
        exact hK.out _ _ ⟨_, _, _, _, _, _, _, _, _, _, _, _, _, _, _, _, _, _, _, rfl, hI.s10⟩
      · have hx5 := hI.p5 (hd 5 (by decide))
        subst hx5
        rw [if_neg (by first | decide | exact Bool.false_ne_true)]
        exact hK.out _ _ ⟨_, _, _, _, _, _, _, _, _, _, _, _, _, _, _, _, _, _, _, rfl, hI.s11⟩
      · have hx5 := hI.p5 (hd 5 (by decide))
        subst hx5
        rw [if_neg (by first | decide | exact Bool.false_ne_true)]
        exact hK.out _ _ ⟨_, _, _, _, _, _, _, _, _, _, _, _, _, _, _, _, _, _, _, rfl, hI.s12⟩
      · have hx5 := hI.p5 (hd 5 (by decide))
        subst hx5
        rw [if_neg (by first | decide | exact Bool.false_ne_true)]
        exact hK.out _ _ ⟨_, _, _, _, _, _, _, _, _, _, _, _, _, _, _, _, _, _, _, rfl, hI.s13⟩
      · have hx5 := hI.p5 (hd 5 (by decide))
        subst hx5
        rw [if_neg (by first | decide | exact Bool.false_ne_true)]
        exact hK.out _ _ ⟨_, _, _, _, _, _, _, _, _, _, _, _, _, _, _, _, _, _, _, rfl, hI.s14⟩
      · have hx5 := hI.p5 (hd 5 (by decide))
        subst hx5
        rw [if_neg (by first | decide | exact Bool.false_ne_true)]
        exact hK.out _ _ ⟨_, _, _, _, _, _, _, _, _, _, _, _, _, _, _, _, _, _, _, rfl, hI.s15⟩
      · have hx5 := hI.p5 (hd 5 (by decide))
        subst hx5
        rw [if_neg (by first | decide | exact Bool.false_ne_true)]
        exact hK.out _ _ ⟨_, _, _, _, _, _, _, _, _, _, _, _, _, _, _, _, _, _, _, rfl, hI.s16⟩
      · have hx5 := hI.p5 (hd 5 (by decide))
        subst hx5
        rw [if_pos (by rfl)]
        go_simp
        exact hK.out _ _ ⟨_, _, _, _, _, _, _, _, _, _, _, _, _, _, _, _, _, _, _, rfl, hI.s17⟩
      · have hx17 := hI.p17 (hd 17 (by decide))
        subst hx17
        rw [if_pos (by rfl)]
        go_simp
        refine (must_f W).mono ?_
        rintro e W2 ⟨rfl, hw2⟩
        rw [hw2, hI.x.z]
        exact ⟨rfl, rfl, ⟨1, rfl⟩⟩
    · refine EnA.ends ?_; intro x2 x3 x4 x5 x6 x7 x8 x9 x10 x11 x12 x13 x14 x15 x16 x17 x18 x19 x20 L W hall hI
      have hx0 := hI.p0 (hall 0 (by decide))
      subst hx0
      have hx1 := hI.p1 (hall 1 (by decide))
      subst hx1
      have hx2 := hI.p2 (hall 2 (by decide))
      subst hx2
      have hx3 := hI.p3 (hall 3 (by decide))
      subst hx3
      have hx4 := hI.p4 (hall 4 (by decide))
      subst hx4
      have hx5 := hI.p5 (hall 5 (by decide))
      subst hx5
      have hx17 := hI.p17 (hall 17 (by decide))
      subst hx17
      have hXe := hI.x
      rw [hall 18 (by decide)] at hXe
      clear hI hall
      try dsimp only
      exact absurd hXe.nf (by decide)
end Go.Proofs.YtgpnbiaghokjkaaDoor
