import Derived.Test.YtgpnbiaghokjkaaDoorD21T5
/-! Layer 21, the landed code: take, end. (Printed by tools/genc21.py.) -/
namespace Go.Proofs.YtgpnbiaghokjkaaDoor
open Go.RowKit
set_option linter.unusedVariables false
set_option linter.unusedSimpArgs false
set_option maxRecDepth 100000

theorem take1_any (N R : Nat) (L : List By) (hL : L.length ≤ 140737488355328) (w : World) (hr : Row w R 61 (rd0 1)) (hN : N ≤ w.heap.size) :
    Calls Tryd.prog 44 #[.pointer (some ⟨R, 0, none⟩), .string (strOf L)] w (TkC N R 1 L w) := by
  have HT : Hid (Calls Tryd.prog 58 #[.pointer (some ⟨R, 0, none⟩), .string (strOf L)] w (TkC N R 1 L w)) := takeConfig_any N R 1 L hL w hr hN
  have c0 : w.cell? ⟨R, 0, none⟩ = some (.int .i64 1) := hr.cell 0 _ rfl
  clear hr
  generalize strOf L = SL at *
  generalize hP : TkC N R 1 L w = PP at *
  have HP : Hid (∀ e w', PP e w' → (e = .returned (.tuple #[]) ∨ ∃ k, e = pan k)) := fun e w' h => by
    rw [← hP] at h
    unfold TkC at h
    split at h
    · exact .inr ⟨5, h.1⟩
    · split at h
      · exact .inl h.1
      · exact .inr ⟨1, h.1⟩
  clear hP
  go_enter Tryd.func44, Tryd.ntmps44
  go_wp2_with fail
  refine HT.out.mono ?_
  intro e w1 h1
  rcases HP.out e w1 h1 with rfl | ⟨k, rfl⟩
  · dsimp only
    go_wp2
    go_end0
    exact h1
  · exact ⟨rfl, h1⟩
theorem take2_any (N R NB : Nat) (c : Cfg) (t : St) (pB eB bB : Nat) (ps : List (Nat × Nat)) (pg cl : Nat) (L : List By) (hL : L.length ≤ 140737488355328) (hNB : NB ≤ 1000) (ht : t.blown = marks NB []) (w : World) (h : RdM N R 2 c t pB eB bB ps pg cl w) :
    Calls Tryd.prog 44 #[.pointer (some ⟨R, 0, none⟩), .string (strOf L)] w (TkB N R 2 NB c t pB eB bB ps pg cl L w) := by
  have HT : Hid (Calls Tryd.prog 59 #[.pointer (some ⟨R, 0, none⟩), .string (strOf L)] w (TkB N R 2 NB c t pB eB bB ps pg cl L w)) := takeBlown_any N R 2 NB c t pB eB bB ps pg cl L hL hNB ht w h
  have c0 : w.cell? ⟨R, 0, none⟩ = some (.int .i64 2) := h.c0
  clear h
  generalize strOf L = SL at *
  generalize hP : TkB N R 2 NB c t pB eB bB ps pg cl L w = PP at *
  have HP : Hid (∀ e w', PP e w' → (e = .returned (.tuple #[]) ∨ ∃ k, e = pan k)) := fun e w' h => by
    rw [← hP] at h
    unfold TkB at h
    split at h
    · exact .inr ⟨5, h.1⟩
    · exact .inl h.1
  clear hP
  go_enter Tryd.func44, Tryd.ntmps44
  go_wp2_with fail
  refine HT.out.mono ?_
  intro e w1 h1
  rcases HP.out e w1 h1 with rfl | ⟨k, rfl⟩
  · dsimp only
    go_wp2
    go_end0
    exact h1
  · exact ⟨rfl, h1⟩
theorem take3_any (N R ln C M : Nat) (c : Cfg) (t : St) (pB eB bB : Nat) (ps : List (Nat × Nat)) (pg cl : Nat) (L : List By) (hln : 3 ≤ ln) (hL : L.length ≤ 140737488355328) (hcc : c.cells = (C : Int)) (hC : C ≤ 1000) (hM : M ≤ 1000) (hp : t.pages.length = M) (he : t.erases.length = M) (hpg : pg ≤ M) (hcl : cl ≤ 1000) (hg : ∀ p ∈ t.pages, p.length = C) (w : World) (h : RdM N R ln c t pB eB bB ps pg cl w) :
    Calls Tryd.prog 44 #[.pointer (some ⟨R, 0, none⟩), .string (strOf L)] w (TkS N R ln c (stepC C M L t pg cl) pB eB bB ps w) := by
  have HH : Hid (∀ W : World, Calls Tryd.prog 60 #[.string (strOf L), .string { data := #[99, 101, 108, 108] }] W fun e w' => e = .returned (.bool (decide (L.take 4 = wCell))) ∧ w' = W) := fun W => by
    rw [k_cell]; exact sHas_any L wCell hL (by decide) W
  have c0 := h.c0
  have n1 : ((ln : Int) == 1) = false := by rw [beq_eq_false_iff_ne]; omega
  have n2 : ((ln : Int) == 2) = false := by rw [beq_eq_false_iff_ne]; omega
  by_cases h4 : L.take 4 = wCell
  · have hs : stepC C M L t pg cl = stL C L t pg cl := by unfold stepC stL; rw [if_pos h4]; rfl
    have HT : Hid (Calls Tryd.prog 61 #[.pointer (some ⟨R, 0, none⟩), .string (strOf L)] w (TkS N R ln c (stepC C M L t pg cl) pB eB bB ps w)) := by
      show Calls _ _ _ _ _
      rw [hs]; exact takeCell_any N R ln C M c t pB eB bB ps pg cl L hL hcc hC hM hp hpg hcl hg w h
    rw [decide_eq_true h4] at HH
    clear h h4 hs
    generalize strOf L = SL at *
    generalize hP : TkS N R ln c (stepC C M L t pg cl) pB eB bB ps w = PP at *
    have HP : Hid (∀ e w', PP e w' → (e = .returned (.tuple #[]) ∨ ∃ k, e = pan k)) := fun e w' h => by
      rw [← hP] at h
      unfold TkS at h
      split at h
      · exact .inr ⟨5, h.1⟩
      · exact .inl h.1
    clear hP
    go_enter Tryd.func44, Tryd.ntmps44
    go_wp2_with (refine (HH.out _).mono ?_; clear HH; rintro e w1 ⟨rfl, hw1⟩; rw [hw1]; clear hw1 w1)
    refine HT.out.mono ?_
    intro e w1 h1
    rcases HP.out e w1 h1 with rfl | ⟨k, rfl⟩
    · dsimp only
      go_wp2
      go_end0
      exact h1
    · exact ⟨rfl, h1⟩
  · have hs : stepC C M L t pg cl = stP M L t pg := by unfold stepC stP; rw [if_neg h4]; rfl
    have HT : Hid (Calls Tryd.prog 62 #[.pointer (some ⟨R, 0, none⟩), .string (strOf L)] w (TkS N R ln c (stepC C M L t pg cl) pB eB bB ps w)) := by
      show Calls _ _ _ _ _
      rw [hs]; exact takePage_any N R ln M c t pB eB bB ps pg cl L hL hM hp he (by omega) w h
    rw [decide_eq_false h4] at HH
    clear h h4 hs
    generalize strOf L = SL at *
    generalize hP : TkS N R ln c (stepC C M L t pg cl) pB eB bB ps w = PP at *
    have HP : Hid (∀ e w', PP e w' → (e = .returned (.tuple #[]) ∨ ∃ k, e = pan k)) := fun e w' h => by
      rw [← hP] at h
      unfold TkS at h
      split at h
      · exact .inr ⟨5, h.1⟩
      · exact .inl h.1
    clear hP
    go_enter Tryd.func44, Tryd.ntmps44
    go_wp2_with (refine (HH.out _).mono ?_; clear HH; rintro e w1 ⟨rfl, hw1⟩; rw [hw1]; clear hw1 w1)
    refine HT.out.mono ?_
    intro e w1 h1
    rcases HP.out e w1 h1 with rfl | ⟨k, rfl⟩
    · dsimp only
      go_wp2
      go_end0
      exact h1
    · exact ⟨rfl, h1⟩
/-- Around a drawn order that ends in must. -/
structure WG (W1 : World) (b l : Bool) (W : World) : Prop where
  z : W = W1.drew
  ok : l = true → b = true
theorem WG.zero {W1 : World} {b : Bool} : WG W1 b false W1.drew := ⟨rfl, fun e => (by cases e)⟩
theorem WG.did {W1 W : World} {b l : Bool} (h : WG W1 b l W) (e : b = true) : WG W1 b true W := ⟨h.z, fun _ => e⟩
structure EnA (W1 : World) (R pg PL pc : Nat) (po : Option Addr) (L : Nat → Bool) (x2 x3 x4 x5 x6 x7 x8 x9 x10 x11 x12 x13 x14 x15 x16 x17 x18 x19 x20 : Value) (W : World) : Prop where
  x : WF W1 (L 18) W
  p0 : L 0 = true → x2 = .pointer (some ⟨R, 0, none⟩)
  p1 : L 1 = true → x3 = .pointer (some ⟨R, 0, none⟩)
  p2 : L 2 = true → x4 = .pointer (some ⟨R, 11, none⟩)
  p3 : L 3 = true → x5 = .int .i64 (pg : Int)
  p4 : L 4 = true → x6 = .bool false
  p5 : L 5 = true → x7 = .bool false
  p17 : L 17 = true → x19 = .bool false
section
variable {W1 : World} {R pg PL pc : Nat} {po : Option Addr} {L : Nat → Bool} {x2 x3 x4 x5 x6 x7 x8 x9 x10 x11 x12 x13 x14 x15 x16 x17 x18 x19 x20 : Value} {W W2 : World}
end
@[reducible] def IEnA (W1 : World) (R pg PL pc : Nat) (po : Option Addr) (y0 y1 : Value) : (Nat → Bool) → Act → World → Prop := fun L a W => ∃ x2 x3 x4 x5 x6 x7 x8 x9 x10 x11 x12 x13 x14 x15 x16 x17 x18 x19 x20, a = ⟨#[y0, y1, x2, x3, x4, x5, x6, x7, x8, x9, x10, x11, x12, x13, x14, x15, x16, x17, x18, x19, x20], []⟩ ∧ EnA W1 R pg PL pc po L x2 x3 x4 x5 x6 x7 x8 x9 x10 x11 x12 x13 x14 x15 x16 x17 x18 x19 x20 W
theorem EnA.step {W1 : World} {R pg PL pc : Nat} {po : Option Addr} {y0 y1 : Value} {P : Program} {ops : Array Oper} {Q : Exit → Act → World → Prop} {i : Nat} {o : Oper} (hq : ∀ x2 x3 x4 x5 x6 x7 x8 x9 x10 x11 x12 x13 x14 x15 x16 x17 x18 x19 x20 (L : Nat → Bool) (W : World), EnA W1 R pg PL pc po L x2 x3 x4 x5 x6 x7 x8 x9 x10 x11 x12 x13 x14 x15 x16 x17 x18 x19 x20 W → L i = false → (∀ j ∈ onesOf o, L j = true) → ∀ K : Act → World → Prop, Shut (∀ a' w', IEnA W1 R pg PL pc po y0 y1 (upd L i) a' w' → K a' w') → if Region.wanted o (yielded ops (⟨#[y0, y1, x2, x3, x4, x5, x6, x7, x8, x9, x10, x11, x12, x13, x14, x15, x16, x17, x18, x19, x20], []⟩ : Act).tmps) = true then Oper.wp P o ⟨#[y0, y1, x2, x3, x4, x5, x6, x7, x8, x9, x10, x11, x12, x13, x14, x15, x16, x17, x18, x19, x20], []⟩ W K Q else K ((⟨#[y0, y1, x2, x3, x4, x5, x6, x7, x8, x9, x10, x11, x12, x13, x14, x15, x16, x17, x18, x19, x20], []⟩ : Act).put o.dst undef) W) : StepI P ops (IEnA W1 R pg PL pc po y0 y1) Q i o := by
  rintro L a W ⟨x2, x3, x4, x5, x6, x7, x8, x9, x10, x11, x12, x13, x14, x15, x16, x17, x18, x19, x20, rfl, h⟩
  exact hq _ _ _ _ _ _ _ _ _ _ _ _ _ _ _ _ _ _ _ _ _ h
structure EnB (W1 : World) (R pg PL pc : Nat) (po : Option Addr) (bq : Bool) (L : Nat → Bool) (x2 x3 x4 x5 x6 x7 x8 x9 x10 x11 x12 x13 x14 x15 x16 x17 x18 x19 x20 : Value) (W : World) : Prop where
  x : WG W1 bq (L 18) W
  p0 : L 0 = true → x2 = .pointer (some ⟨R, 0, none⟩)
  p1 : L 1 = true → x3 = .pointer (some ⟨R, 0, none⟩)
  p2 : L 2 = true → x4 = .pointer (some ⟨R, 11, none⟩)
  p3 : L 3 = true → x5 = .int .i64 (pg : Int)
  p4 : L 4 = true → x6 = .bool true
  p5 : L 5 = true → x7 = .bool true
  p6 : L 6 = true → x8 = .pointer (some ⟨R, 0, none⟩)
  p7 : L 7 = true → x9 = .pointer (some ⟨R, 0, none⟩)
  p8 : L 8 = true → x10 = .pointer (some ⟨R, 11, none⟩)
  p9 : L 9 = true → x11 = .int .i64 (pg : Int)
  p10 : L 10 = true → x12 = .pointer (some ⟨R, 0, none⟩)
  p11 : L 11 = true → x13 = .pointer (some ⟨R, 0, none⟩)
  p12 : L 12 = true → x14 = .pointer (some ⟨R, 8, none⟩)
  p13 : L 13 = true → x15 = .pointer (some ⟨R, 8, none⟩)
  p14 : L 14 = true → x16 = .slice po PL pc
  p15 : L 15 = true → x17 = .int .i64 (PL : Int)
  p16 : L 16 = true → x18 = .bool bq
  p17 : L 17 = true → x19 = .bool bq
section
variable {W1 : World} {R pg PL pc : Nat} {po : Option Addr} {bq : Bool} {L : Nat → Bool} {x2 x3 x4 x5 x6 x7 x8 x9 x10 x11 x12 x13 x14 x15 x16 x17 x18 x19 x20 : Value} {W W2 : World}
end
@[reducible] def IEnB (W1 : World) (R pg PL pc : Nat) (po : Option Addr) (bq : Bool) (y0 y1 : Value) : (Nat → Bool) → Act → World → Prop := fun L a W => ∃ x2 x3 x4 x5 x6 x7 x8 x9 x10 x11 x12 x13 x14 x15 x16 x17 x18 x19 x20, a = ⟨#[y0, y1, x2, x3, x4, x5, x6, x7, x8, x9, x10, x11, x12, x13, x14, x15, x16, x17, x18, x19, x20], []⟩ ∧ EnB W1 R pg PL pc po bq L x2 x3 x4 x5 x6 x7 x8 x9 x10 x11 x12 x13 x14 x15 x16 x17 x18 x19 x20 W
theorem EnB.step {W1 : World} {R pg PL pc : Nat} {po : Option Addr} {bq : Bool} {y0 y1 : Value} {P : Program} {ops : Array Oper} {Q : Exit → Act → World → Prop} {i : Nat} {o : Oper} (hq : ∀ x2 x3 x4 x5 x6 x7 x8 x9 x10 x11 x12 x13 x14 x15 x16 x17 x18 x19 x20 (L : Nat → Bool) (W : World), EnB W1 R pg PL pc po bq L x2 x3 x4 x5 x6 x7 x8 x9 x10 x11 x12 x13 x14 x15 x16 x17 x18 x19 x20 W → L i = false → (∀ j ∈ onesOf o, L j = true) → ∀ K : Act → World → Prop, Shut (∀ a' w', IEnB W1 R pg PL pc po bq y0 y1 (upd L i) a' w' → K a' w') → if Region.wanted o (yielded ops (⟨#[y0, y1, x2, x3, x4, x5, x6, x7, x8, x9, x10, x11, x12, x13, x14, x15, x16, x17, x18, x19, x20], []⟩ : Act).tmps) = true then Oper.wp P o ⟨#[y0, y1, x2, x3, x4, x5, x6, x7, x8, x9, x10, x11, x12, x13, x14, x15, x16, x17, x18, x19, x20], []⟩ W K Q else K ((⟨#[y0, y1, x2, x3, x4, x5, x6, x7, x8, x9, x10, x11, x12, x13, x14, x15, x16, x17, x18, x19, x20], []⟩ : Act).put o.dst undef) W) : StepI P ops (IEnB W1 R pg PL pc po bq y0 y1) Q i o := by
  rintro L a W ⟨x2, x3, x4, x5, x6, x7, x8, x9, x10, x11, x12, x13, x14, x15, x16, x17, x18, x19, x20, rfl, h⟩
  exact hq _ _ _ _ _ _ _ _ _ _ _ _ _ _ _ _ _ _ _ _ _ h
set_option maxHeartbeats 2000000 in
theorem end_any (R pg PL pc : Nat) (po : Option Addr) (w : World) (c11 : w.cell? ⟨R, 11, none⟩ = some (.int .i64 (pg : Int))) (c8 : w.cell? ⟨R, 8, none⟩ = some (.slice po PL pc)) :
    Calls Tryd.prog 45 #[.pointer (some ⟨R, 0, none⟩)] w fun e w' => e = mustE (decide (0 < pg ∧ pg = PL)) ∧ Dr w w' := by
  have HCE : Hid (w.drew.cell? ⟨R, 11, none⟩ = some (.int .i64 (pg : Int)) ∧ w.drew.cell? ⟨R, 8, none⟩ = some (.slice po PL pc)) := ⟨c11, c8⟩
  clear c11 c8
  by_cases k1 : 0 < pg
  · have d1 : (pg : Int) > 0 := by omega
    obtain ⟨bq, hbq⟩ : ∃ bq, decide (0 < pg ∧ pg = PL) = bq := ⟨_, rfl⟩
    have HBE : Hid (((pg : Int) == (PL : Int)) = bq) := by
      show _ = bq
      rw [← hbq, Bool.eq_iff_iff, beq_iff_eq, decide_eq_true_iff]
      omega
    rw [hbq]
    clear hbq
    go_enter Tryd.func45, Tryd.ntmps45
    go_wp2
    refine wp_region_inv (IEnB w R pg PL pc po bq _ _) (by kernel_rfl) (by kernel_rfl) ⟨_, _, _, _, _, _, _, _, _, _, _, _, _, _, _, _, _, _, _, rfl, ⟨WG.zero, fun k => (by cases k), fun k => (by cases k), fun k => (by cases k), fun k => (by cases k), fun k => (by cases k), fun k => (by cases k), fun k => (by cases k), fun k => (by cases k), fun k => (by cases k), fun k => (by cases k), fun k => (by cases k), fun k => (by cases k), fun k => (by cases k), fun k => (by cases k), fun k => (by cases k), fun k => (by cases k), fun k => (by cases k), fun k => (by cases k)⟩⟩ ?_ ?_
    · refine .cons ?_ (.cons ?_ (.cons ?_ (.cons ?_ (.cons ?_ (.cons ?_ (.cons ?_ (.cons ?_ (.cons ?_ (.cons ?_ (.cons ?_ (.cons ?_ (.cons ?_ (.cons ?_ (.cons ?_ (.cons ?_ (.cons ?_ (.cons ?_ (.cons ?_ .nil))))))))))))))))))
      all_goals (refine EnB.step ?_; intro x2 x3 x4 x5 x6 x7 x8 x9 x10 x11 x12 x13 x14 x15 x16 x17 x18 x19 x20 L W hI hL hd K hK)
      · rw [if_pos (by rfl)]
        go_simp
        exact hK.out _ _ ⟨_, _, _, _, _, _, _, _, _, _, _, _, _, _, _, _, _, _, _, rfl, { hI with p0 := fun _ => rfl }⟩
      · obtain rfl := hI.p0 (hd 0 (by decide))
        rw [if_pos (by rfl)]
        go_simp
        exact hK.out _ _ ⟨_, _, _, _, _, _, _, _, _, _, _, _, _, _, _, _, _, _, _, rfl, { hI with p1 := fun _ => rfl }⟩
      · obtain rfl := hI.p1 (hd 1 (by decide))
        rw [if_pos (by rfl)]
        go_simp
        exact hK.out _ _ ⟨_, _, _, _, _, _, _, _, _, _, _, _, _, _, _, _, _, _, _, rfl, { hI with p2 := fun _ => rfl }⟩
      · obtain rfl := hI.p2 (hd 2 (by decide))
        rw [if_pos (by rfl)]
        have hw := hI.x.z
        subst hw
        obtain ⟨e11, e8⟩ := HCE.out
        go_simp
        exact hK.out _ _ ⟨_, _, _, _, _, _, _, _, _, _, _, _, _, _, _, _, _, _, _, rfl, { hI with p3 := fun _ => rfl }⟩
      · obtain rfl := hI.p3 (hd 3 (by decide))
        rw [if_pos (by rfl)]
        go_simp
        exact hK.out _ _ ⟨_, _, _, _, _, _, _, _, _, _, _, _, _, _, _, _, _, _, _, rfl, { hI with p4 := fun _ => rfl }⟩
      · obtain rfl := hI.p4 (hd 4 (by decide))
        rw [if_pos (by rfl)]
        go_simp
        exact hK.out _ _ ⟨_, _, _, _, _, _, _, _, _, _, _, _, _, _, _, _, _, _, _, rfl, { hI with p5 := fun _ => rfl }⟩
      · obtain rfl := hI.p5 (hd 5 (by decide))
        rw [if_pos (by rfl)]
        go_simp
        exact hK.out _ _ ⟨_, _, _, _, _, _, _, _, _, _, _, _, _, _, _, _, _, _, _, rfl, { hI with p6 := fun _ => rfl }⟩
      · obtain rfl := hI.p6 (hd 6 (by decide))
        obtain rfl := hI.p5 (hd 5 (by decide))
        rw [if_pos (by rfl)]
        go_simp
        exact hK.out _ _ ⟨_, _, _, _, _, _, _, _, _, _, _, _, _, _, _, _, _, _, _, rfl, { hI with p7 := fun _ => rfl }⟩
      · obtain rfl := hI.p7 (hd 7 (by decide))
        obtain rfl := hI.p5 (hd 5 (by decide))
        rw [if_pos (by rfl)]
        go_simp
        exact hK.out _ _ ⟨_, _, _, _, _, _, _, _, _, _, _, _, _, _, _, _, _, _, _, rfl, { hI with p8 := fun _ => rfl }⟩
      · obtain rfl := hI.p8 (hd 8 (by decide))
        obtain rfl := hI.p5 (hd 5 (by decide))
        rw [if_pos (by rfl)]
        have hw := hI.x.z
        subst hw
        obtain ⟨e11, e8⟩ := HCE.out
        go_simp
        exact hK.out _ _ ⟨_, _, _, _, _, _, _, _, _, _, _, _, _, _, _, _, _, _, _, rfl, { hI with p9 := fun _ => rfl }⟩
      · obtain rfl := hI.p5 (hd 5 (by decide))
        rw [if_pos (by rfl)]
        go_simp
        exact hK.out _ _ ⟨_, _, _, _, _, _, _, _, _, _, _, _, _, _, _, _, _, _, _, rfl, { hI with p10 := fun _ => rfl }⟩
      · obtain rfl := hI.p10 (hd 10 (by decide))
        obtain rfl := hI.p5 (hd 5 (by decide))
        rw [if_pos (by rfl)]
        go_simp
        exact hK.out _ _ ⟨_, _, _, _, _, _, _, _, _, _, _, _, _, _, _, _, _, _, _, rfl, { hI with p11 := fun _ => rfl }⟩
      · obtain rfl := hI.p11 (hd 11 (by decide))
        obtain rfl := hI.p5 (hd 5 (by decide))
        rw [if_pos (by rfl)]
        go_simp
        exact hK.out _ _ ⟨_, _, _, _, _, _, _, _, _, _, _, _, _, _, _, _, _, _, _, rfl, { hI with p12 := fun _ => rfl }⟩
      · obtain rfl := hI.p12 (hd 12 (by decide))
        obtain rfl := hI.p5 (hd 5 (by decide))
        rw [if_pos (by rfl)]
        go_simp
        exact hK.out _ _ ⟨_, _, _, _, _, _, _, _, _, _, _, _, _, _, _, _, _, _, _, rfl, { hI with p13 := fun _ => rfl }⟩
      · obtain rfl := hI.p13 (hd 13 (by decide))
        obtain rfl := hI.p5 (hd 5 (by decide))
        rw [if_pos (by rfl)]
        have hw := hI.x.z
        subst hw
        obtain ⟨e11, e8⟩ := HCE.out
        go_simp
        exact hK.out _ _ ⟨_, _, _, _, _, _, _, _, _, _, _, _, _, _, _, _, _, _, _, rfl, { hI with p14 := fun _ => rfl }⟩
      · obtain rfl := hI.p14 (hd 14 (by decide))
        obtain rfl := hI.p5 (hd 5 (by decide))
        rw [if_pos (by rfl)]
        go_simp
        exact hK.out _ _ ⟨_, _, _, _, _, _, _, _, _, _, _, _, _, _, _, _, _, _, _, rfl, { hI with p15 := fun _ => rfl }⟩
      · obtain rfl := hI.p9 (hd 9 (by decide))
        obtain rfl := hI.p15 (hd 15 (by decide))
        obtain rfl := hI.p5 (hd 5 (by decide))
        rw [if_pos (by rfl)]
        have hb := HBE.out
        go_simp
        exact hK.out _ _ ⟨_, _, _, _, _, _, _, _, _, _, _, _, _, _, _, _, _, _, _, rfl, { hI with p16 := fun _ => rfl }⟩
      · obtain rfl := hI.p5 (hd 5 (by decide))
        obtain rfl := hI.p16 (hd 16 (by decide))
        rw [if_pos (by rfl)]
        go_simp
        exact hK.out _ _ ⟨_, _, _, _, _, _, _, _, _, _, _, _, _, _, _, _, _, _, _, rfl, { hI with p17 := fun _ => rfl }⟩
      · obtain rfl := hI.p17 (hd 17 (by decide))
        rw [if_pos (by rfl)]
        go_simp
        refine (must_any bq W).mono ?_
        rintro e W2 ⟨he, hw2⟩
        rw [hw2]; clear hw2 W2
        by_cases hp : bq = false
        · rw [he, show mustE bq = pan 5 from by rw [hp]; rfl]
          exact ⟨rfl, (by first | rfl | rw [hp]; rfl), ⟨1, hI.x.z⟩⟩
        have hq : bq = true := by simpa using hp
        rw [he, show mustE bq = .returned (.tuple #[]) from by rw [hq]; rfl]
        dsimp only
        have hX := hI.x.did hq
        exact hK.out _ _ ⟨_, _, _, _, _, _, _, _, _, _, _, _, _, _, _, _, _, _, _, rfl, { hI with x := hX }⟩
    · rintro L _ W hall ⟨x2, x3, x4, x5, x6, x7, x8, x9, x10, x11, x12, x13, x14, x15, x16, x17, x18, x19, x20, rfl, hI⟩
      obtain rfl := hI.p0 (hall 0 (by decide))
      obtain rfl := hI.p1 (hall 1 (by decide))
      obtain rfl := hI.p2 (hall 2 (by decide))
      obtain rfl := hI.p3 (hall 3 (by decide))
      obtain rfl := hI.p4 (hall 4 (by decide))
      obtain rfl := hI.p5 (hall 5 (by decide))
      obtain rfl := hI.p6 (hall 6 (by decide))
      obtain rfl := hI.p7 (hall 7 (by decide))
      obtain rfl := hI.p8 (hall 8 (by decide))
      obtain rfl := hI.p9 (hall 9 (by decide))
      obtain rfl := hI.p10 (hall 10 (by decide))
      obtain rfl := hI.p11 (hall 11 (by decide))
      obtain rfl := hI.p12 (hall 12 (by decide))
      obtain rfl := hI.p13 (hall 13 (by decide))
      obtain rfl := hI.p14 (hall 14 (by decide))
      obtain rfl := hI.p15 (hall 15 (by decide))
      obtain rfl := hI.p16 (hall 16 (by decide))
      obtain rfl := hI.p17 (hall 17 (by decide))
      have hXe := hI.x
      rw [hall 18 (by decide)] at hXe
      clear hI hall
      try dsimp only
      have hb := hXe.ok rfl
      have hz := hXe.z
      clear hXe
      subst hb
      go_wp2
      go_end0
      exact ⟨rfl, ⟨1, hz⟩⟩
  · have d1 : decide ((pg : Int) > 0) = false := decide_eq_false (by omega)
    have hm : mustE (decide (0 < pg ∧ pg = PL)) = pan 5 := by rw [decide_eq_false (fun h => k1 h.1)]; rfl
    rw [hm]
    clear hm
    go_enter Tryd.func45, Tryd.ntmps45
    go_wp2
    refine wp_region_inv (IEnA w R pg PL pc po _ _) (by kernel_rfl) (by kernel_rfl) ⟨_, _, _, _, _, _, _, _, _, _, _, _, _, _, _, _, _, _, _, rfl, ⟨WF.zero, fun k => (by cases k), fun k => (by cases k), fun k => (by cases k), fun k => (by cases k), fun k => (by cases k), fun k => (by cases k), fun k => (by cases k)⟩⟩ ?_ ?_
    · refine .cons ?_ (.cons ?_ (.cons ?_ (.cons ?_ (.cons ?_ (.cons ?_ (.cons ?_ (.cons ?_ (.cons ?_ (.cons ?_ (.cons ?_ (.cons ?_ (.cons ?_ (.cons ?_ (.cons ?_ (.cons ?_ (.cons ?_ (.cons ?_ (.cons ?_ .nil))))))))))))))))))
      all_goals (refine EnA.step ?_; intro x2 x3 x4 x5 x6 x7 x8 x9 x10 x11 x12 x13 x14 x15 x16 x17 x18 x19 x20 L W hI hL hd K hK)
      · rw [if_pos (by rfl)]
        go_simp
        exact hK.out _ _ ⟨_, _, _, _, _, _, _, _, _, _, _, _, _, _, _, _, _, _, _, rfl, { hI with p0 := fun _ => rfl }⟩
      · obtain rfl := hI.p0 (hd 0 (by decide))
        rw [if_pos (by rfl)]
        go_simp
        exact hK.out _ _ ⟨_, _, _, _, _, _, _, _, _, _, _, _, _, _, _, _, _, _, _, rfl, { hI with p1 := fun _ => rfl }⟩
      · obtain rfl := hI.p1 (hd 1 (by decide))
        rw [if_pos (by rfl)]
        go_simp
        exact hK.out _ _ ⟨_, _, _, _, _, _, _, _, _, _, _, _, _, _, _, _, _, _, _, rfl, { hI with p2 := fun _ => rfl }⟩
      · obtain rfl := hI.p2 (hd 2 (by decide))
        rw [if_pos (by rfl)]
        have hw := hI.x.z
        subst hw
        obtain ⟨e11, e8⟩ := HCE.out
        go_simp
        exact hK.out _ _ ⟨_, _, _, _, _, _, _, _, _, _, _, _, _, _, _, _, _, _, _, rfl, { hI with p3 := fun _ => rfl }⟩
      · obtain rfl := hI.p3 (hd 3 (by decide))
        rw [if_pos (by rfl)]
        go_simp
        exact hK.out _ _ ⟨_, _, _, _, _, _, _, _, _, _, _, _, _, _, _, _, _, _, _, rfl, { hI with p4 := fun _ => rfl }⟩
      · obtain rfl := hI.p4 (hd 4 (by decide))
        rw [if_pos (by rfl)]
        go_simp
        exact hK.out _ _ ⟨_, _, _, _, _, _, _, _, _, _, _, _, _, _, _, _, _, _, _, rfl, { hI with p5 := fun _ => rfl }⟩
      · obtain rfl := hI.p5 (hd 5 (by decide))
        rw [if_neg (by first | decide | exact Bool.false_ne_true)]
        exact hK.out _ _ ⟨_, _, _, _, _, _, _, _, _, _, _, _, _, _, _, _, _, _, _, rfl, { hI with }⟩
      · obtain rfl := hI.p5 (hd 5 (by decide))
        rw [if_neg (by first | decide | exact Bool.false_ne_true)]
        exact hK.out _ _ ⟨_, _, _, _, _, _, _, _, _, _, _, _, _, _, _, _, _, _, _, rfl, { hI with }⟩
      · obtain rfl := hI.p5 (hd 5 (by decide))
        rw [if_neg (by first | decide | exact Bool.false_ne_true)]
        exact hK.out _ _ ⟨_, _, _, _, _, _, _, _, _, _, _, _, _, _, _, _, _, _, _, rfl, { hI with }⟩
      · obtain rfl := hI.p5 (hd 5 (by decide))
        rw [if_neg (by first | decide | exact Bool.false_ne_true)]
        exact hK.out _ _ ⟨_, _, _, _, _, _, _, _, _, _, _, _, _, _, _, _, _, _, _, rfl, { hI with }⟩
      · obtain rfl := hI.p5 (hd 5 (by decide))
        rw [if_neg (by first | decide | exact Bool.false_ne_true)]
        exact hK.out _ _ ⟨_, _, _, _, _, _, _, _, _, _, _, _, _, _, _, _, _, _, _, rfl, { hI with }⟩
      · obtain rfl := hI.p5 (hd 5 (by decide))
        rw [if_neg (by first | decide | exact Bool.false_ne_true)]
        exact hK.out _ _ ⟨_, _, _, _, _, _, _, _, _, _, _, _, _, _, _, _, _, _, _, rfl, { hI with }⟩
      · obtain rfl := hI.p5 (hd 5 (by decide))
        rw [if_neg (by first | decide | exact Bool.false_ne_true)]
        exact hK.out _ _ ⟨_, _, _, _, _, _, _, _, _, _, _, _, _, _, _, _, _, _, _, rfl, { hI with }⟩
      · obtain rfl := hI.p5 (hd 5 (by decide))
        rw [if_neg (by first | decide | exact Bool.false_ne_true)]
        exact hK.out _ _ ⟨_, _, _, _, _, _, _, _, _, _, _, _, _, _, _, _, _, _, _, rfl, { hI with }⟩
      · obtain rfl := hI.p5 (hd 5 (by decide))
        rw [if_neg (by first | decide | exact Bool.false_ne_true)]
        exact hK.out _ _ ⟨_, _, _, _, _, _, _, _, _, _, _, _, _, _, _, _, _, _, _, rfl, { hI with }⟩
      · obtain rfl := hI.p5 (hd 5 (by decide))
        rw [if_neg (by first | decide | exact Bool.false_ne_true)]
        exact hK.out _ _ ⟨_, _, _, _, _, _, _, _, _, _, _, _, _, _, _, _, _, _, _, rfl, { hI with }⟩
      · obtain rfl := hI.p5 (hd 5 (by decide))
        rw [if_neg (by first | decide | exact Bool.false_ne_true)]
        exact hK.out _ _ ⟨_, _, _, _, _, _, _, _, _, _, _, _, _, _, _, _, _, _, _, rfl, { hI with }⟩
      · obtain rfl := hI.p5 (hd 5 (by decide))
        rw [if_pos (by rfl)]
        go_simp
        exact hK.out _ _ ⟨_, _, _, _, _, _, _, _, _, _, _, _, _, _, _, _, _, _, _, rfl, { hI with p17 := fun _ => rfl }⟩
      · obtain rfl := hI.p17 (hd 17 (by decide))
        rw [if_pos (by rfl)]
        go_simp
        refine (must_f W).mono ?_
        rintro e W2 ⟨rfl, hw2⟩
        rw [hw2, hI.x.z]
        exact ⟨rfl, rfl, ⟨1, rfl⟩⟩
    · rintro L _ W hall ⟨x2, x3, x4, x5, x6, x7, x8, x9, x10, x11, x12, x13, x14, x15, x16, x17, x18, x19, x20, rfl, hI⟩
      obtain rfl := hI.p0 (hall 0 (by decide))
      obtain rfl := hI.p1 (hall 1 (by decide))
      obtain rfl := hI.p2 (hall 2 (by decide))
      obtain rfl := hI.p3 (hall 3 (by decide))
      obtain rfl := hI.p4 (hall 4 (by decide))
      obtain rfl := hI.p5 (hall 5 (by decide))
      obtain rfl := hI.p17 (hall 17 (by decide))
      have hXe := hI.x
      rw [hall 18 (by decide)] at hXe
      clear hI hall
      try dsimp only
      exact absurd hXe.nf (by decide)
end Go.Proofs.YtgpnbiaghokjkaaDoor
