import Derived.Test.YtcpdanjbnijoiaaGreatDoorR4Fresh
import Derived.Test.YtcpdanjbnijoiaaGreatDoorMMath
import Derived.Deep.RegionHeld3
import Derived.Test.YtcpdanjbnijoiaaGreatDoorArMath2
import Derived.BigQuiet

/-! A drawn region by an invariant over what has come up: one step an operation, whatever the number of orders. -/
namespace Go.Proofs.YtcpdanjbnijoiaaGreatDoor
open Go.RowKit

end Go.Proofs.YtcpdanjbnijoiaaGreatDoor


/-! Layer 14, the document's answer: may, Size, blank, Worn. (Printed by tools/genar14.py.) -/
namespace Go.Proofs.YtcpdanjbnijoiaaGreatDoor
open Go.RowKit
set_option linter.unusedVariables false

theorem step_load_rng {ops : Array Oper} {o : Oper} {a : Act} {w : World} {K : Act → World → Prop} {Q : Exit → Act → World → Prop} {X : Prop} (hw : Region.wanted o (yielded ops a.tmps) = true) (ty : TypeId) (x : Operand) (ho : o.op = .load ty x)
    (g off : Nat) (cs : List Value) (hr : w.rangeAt g off cs) (hx : a.eval x = .pointer (some ⟨g, off, none⟩)) (d : TypeDesc) (hu : Tryz.prog.underlying ty = some d) (hd : d.isRow = true) (hi : (Tryz.prog.info? ty).map (·.size) = some cs.length)
    (h : K (a.put o.dst (.agg cs.toArray)) w) : if Region.wanted o (yielded ops a.tmps) = true then Oper.wp Tryz.prog o a w K Q else X := by
  rw [if_pos hw]
  exact wp_load_mid ty x ho g off hx _ d hr hu hd hi h

set_option maxHeartbeats 1000000 in
set_option maxRecDepth 100000 in
theorem r14may_any (F : RF) (s : RS) (a : Int) (w : World) (h : RAt w F s) :
    Calls Tryz.prog 53 #[.pointer (some ⟨F.g, 0, none⟩), .int .i64 a] w fun e w' => e = .returned (.int .i64 (s.areaE a)) ∧ w' = w := by
  have c11 := h.cGone
  rcases areaE_or s a with ⟨e0, hg⟩ | ⟨hg, ⟨e0, i0, i1⟩ | ⟨e0, i0⟩⟩
  · rw [e0]
    rw [hg] at c11
    go_enter Tryz.func53, Tryz.ntmps53
    go_wp2
    go_ret
    exact ⟨rfl, rfl⟩
  · rw [e0]
    rw [hg] at c11
    have d0 : (a == 0) = false := by simpa using i0
    have d1 : (a == 1) = false := by simpa using i1
    have d2 : (a != 0) = true := by simpa using i0
    have d3 : (a != 1) = true := by simpa using i1
    go_enter Tryz.func53, Tryz.ntmps53
    go_wp2
    go_ret
    exact ⟨rfl, rfl⟩
  · rw [e0]
    rw [hg] at c11
    rcases i0 with rfl | rfl
    · go_enter Tryz.func53, Tryz.ntmps53
      go_wp2
      go_ret
      exact ⟨rfl, rfl⟩
    · go_enter Tryz.func53, Tryz.ntmps53
      go_wp2
      go_ret
      exact ⟨rfl, rfl⟩

theorem asize_zero {c : Cfg} (h : ¬ c.may = 0) : c.asize = 0 := by unfold Cfg.asize; rw [if_neg h]
theorem asize_le {c : Cfg} (h : c.may = 0) : c.asize = c.area * c.cells * 32 ∧ 0 ≤ c.area * c.cells ∧ c.area * c.cells ≤ 16384 := by
  obtain ⟨h1, h2, _, _, h5⟩ := may_parts h
  have b1 : 0 ≤ c.area * c.cells := Int.mul_nonneg (by omega) (by omega)
  have b3 : c.area * c.cells ≤ 64 * 256 := Int.mul_le_mul (by omega) (by omega) (by omega) (by omega)
  exact ⟨by unfold Cfg.asize; rw [if_pos h], b1, by omega⟩

set_option maxHeartbeats 1000000 in
set_option maxRecDepth 100000 in
theorem r14size_any (c : Cfg) (w : World) :
    Calls Tryz.prog 8 #[.agg c.vals.toArray] w fun e w' => e = .returned (.int .i64 c.asize) ∧ Below w.heap.size w w' := by
  have r0 := Row.at w 23 c.vals _ _ rfl rfl
  have M := may_any c (w.alloc (.cells c.vals.toArray 23))
  have b1 : Below w.heap.size w (w.alloc (.cells c.vals.toArray 23)) := (Below.refl _ _).alloc (Nat.le_refl _) _
  have hz : (w.alloc (.cells c.vals.toArray 23)).heap.size = w.heap.size + 1 := by simp
  have HR : Hid (∀ W, Below (w.heap.size + 1) (w.alloc (.cells c.vals.toArray 23)) W → Row W w.heap.size 23 c.vals) := fun W h => r0.below h (by omega)
  have hl : c.vals.length = 7 := rfl
  have HV0 : Hid (c.vals[0]? = some (.int .i64 c.cells)) := rfl
  have HV6 : Hid (c.vals[6]? = some (.int .i64 c.area)) := rfl
  by_cases hm : c.may = 0
  · obtain ⟨e0, z1, z2⟩ := asize_le hm
    rw [e0]
    rw [hm] at M
    have y1 : IntKind.i64.wrap (c.area * c.cells) = c.area * c.cells := i64_in _ (by omega) (by omega)
    have y2 : IntKind.i64.wrap (c.area * c.cells * 32) = c.area * c.cells * 32 := i64_in _ (by omega) (by omega)
    clear hm e0
    generalize c.vals = CV at *
    generalize c.area = AR at *
    generalize c.cells = CE at *
    go_enter Tryz.func8, Tryz.ntmps8
    go_wp2_with (refine wpList_load_Row rfl 23 _ rfl _ _ CV r0 rfl _ Tryz.underlying23 rfl (by rw [hl]; kernel_rfl) ?_)
    refine M.mono ?_
    rintro e w2 ⟨rfl, hb2⟩
    rw [hz] at hb2
    have r2 := HR.out _ hb2
    have c0 := r2.cell 0 _ HV0.out
    have c6 := r2.cell 6 _ HV6.out
    dsimp only
    go_wp2
    go_ret
    exact ⟨rfl, b1.trans (hb2.mono (by omega))⟩
  · rw [asize_zero hm]
    have hq : (c.may == 0) = false := by simpa using hm
    generalize c.may = MY at *
    generalize c.vals = CV at *
    go_enter Tryz.func8, Tryz.ntmps8
    go_wp2_with (refine wpList_load_Row rfl 23 _ rfl _ _ CV r0 rfl _ Tryz.underlying23 rfl (by rw [hl]; kernel_rfl) ?_)
    refine M.mono ?_
    rintro e w2 ⟨rfl, hb2⟩
    rw [hz] at hb2
    dsimp only
    go_wp2
    go_ret
    exact ⟨rfl, b1.trans (hb2.mono (by omega))⟩

/-- A page in memory. -/
def Pg (w : World) (q : Nat) (pg : List (List By)) : Prop := Pre w q 55 (pg.flatten.map B8) ∧ ∀ x ∈ pg, x.length = 32
theorem Pg.below {w w' : World} {q : Nat} {pg : List (List By)} {N : Nat} (h : Pg w q pg) (hb : Below N w w') (hN : w.heap.size ≤ N) : Pg w' q pg := ⟨h.1.of_block (hb.block q (Nat.lt_of_lt_of_le h.1.lt hN)), h.2⟩
theorem Pg.rng {w : World} {q : Nat} {pg : List (List By)} (h : Pg w q pg) (i : Nat) (hi : i < pg.length) : w.rangeAt q (i * 32) ((pg.getD i []).map B8) := by
  intro j v hv
  rw [List.getElem?_map] at hv
  have hx : (pg.getD i []).length = 32 := h.2 _ (by rw [List.getD_eq_getElem?_getD, List.getElem?_eq_getElem hi]; exact List.getElem_mem hi)
  cases hj : (pg.getD i [])[j]? with
  | none => rw [hj] at hv; cases hv
  | some b =>
    rw [hj] at hv; injection hv with hv; subst hv
    have hj2 := (List.getElem?_eq_some_iff.1 hj).1
    refine h.1.cell (i * 32 + j) _ ?_
    rw [List.getElem?_map, Nat.mul_comm i 32, flat_get pg h.2 i j hi (by omega)]
    rw [List.getD_eq_getElem?_getD, hj]; rfl
theorem Pg.byte {w : World} {q : Nat} {pg : List (List By)} (h : Pg w q pg) (i j : Nat) (hi : i < pg.length) (hj : j < 32) : w.cell? ⟨q, i * 32 + j, none⟩ = some (.int .u8 (((pg.getD i []).getD j 0).toNat : Int)) := by
  have hx : (pg.getD i []).length = 32 := h.2 _ (by rw [List.getD_eq_getElem?_getD, List.getElem?_eq_getElem hi]; exact List.getElem_mem hi)
  refine h.rng i hi j _ ?_
  generalize pg.getD i [] = x at hx
  rw [List.getElem?_map, List.getElem?_eq_getElem (by omega), List.getD_eq_getElem?_getD, List.getElem?_eq_getElem (by omega)]; rfl
theorem isBlank_take (pg : List (List By)) : isBlank (pg.take 0) = true := by simp [isBlank]
theorem isBlank_step {pg : List (List By)} {i : Nat} (h : isBlank (pg.take i) = true) (hi : i < pg.length) (hb : pg.getD i [] = blankC) : isBlank (pg.take (i + 1)) = true := by
  unfold isBlank at h ⊢
  rw [List.take_add_one, List.getElem?_eq_getElem hi, List.all_append, h]
  rw [List.getD_eq_getElem?_getD, List.getElem?_eq_getElem hi] at hb
  simp at hb ⊢
  exact hb
theorem isBlank_no {pg : List (List By)} {i : Nat} (hi : i < pg.length) (hb : ¬ pg.getD i [] = blankC) : isBlank pg = false := by
  unfold isBlank
  rw [List.all_eq_false]
  refine ⟨pg.getD i [], ?_, by simpa using hb⟩
  rw [List.getD_eq_getElem?_getD, List.getElem?_eq_getElem hi]; exact List.getElem_mem hi

structure Bk4 (W1 : World) (q n cap ci : Nat) (X BC : List By) (r : Bool) (L : Nat → Bool) (x10 x11 x12 x13 x14 x15 : Value) (W : World) : Prop where
  x : Below W1.heap.size W1 W
  p0 : L 0 = true → x10 = .slice (some ⟨q, 0, none⟩) n cap
  p1 : L 1 = true → x11 = .int .i64 (ci : Int)
  p2 : L 2 = true → x12 = .pointer (some ⟨q, ci * 32, none⟩)
  p3 : L 3 = true → x13 = .agg (X.map B8).toArray
  p4 : L 4 = true → x14 = .agg (BC.map B8).toArray
  p5 : L 5 = true → x15 = .bool (!r)
section
variable {W1 : World} {q n cap ci : Nat} {X BC : List By} {r : Bool} {L : Nat → Bool} {x10 x11 x12 x13 x14 x15 : Value} {W W2 : World}
theorem Bk4.s0 (h : Bk4 W1 q n cap ci X BC r L x10 x11 x12 x13 x14 x15 W) : Bk4 W1 q n cap ci X BC r (upd L 0) (.slice (some ⟨q, 0, none⟩) n cap) x11 x12 x13 x14 x15 W :=
  ⟨h.x, fun _ => rfl, h.p1, h.p2, h.p3, h.p4, h.p5⟩
theorem Bk4.s1 (h : Bk4 W1 q n cap ci X BC r L x10 x11 x12 x13 x14 x15 W) : Bk4 W1 q n cap ci X BC r (upd L 1) x10 (.int .i64 (ci : Int)) x12 x13 x14 x15 W :=
  ⟨h.x, h.p0, fun _ => rfl, h.p2, h.p3, h.p4, h.p5⟩
theorem Bk4.s2 (h : Bk4 W1 q n cap ci X BC r L x10 x11 x12 x13 x14 x15 W) : Bk4 W1 q n cap ci X BC r (upd L 2) x10 x11 (.pointer (some ⟨q, ci * 32, none⟩)) x13 x14 x15 W :=
  ⟨h.x, h.p0, h.p1, fun _ => rfl, h.p3, h.p4, h.p5⟩
theorem Bk4.s3 (h : Bk4 W1 q n cap ci X BC r L x10 x11 x12 x13 x14 x15 W) : Bk4 W1 q n cap ci X BC r (upd L 3) x10 x11 x12 (.agg (X.map B8).toArray) x14 x15 W :=
  ⟨h.x, h.p0, h.p1, h.p2, fun _ => rfl, h.p4, h.p5⟩
theorem Bk4.s4 (h : Bk4 W1 q n cap ci X BC r L x10 x11 x12 x13 x14 x15 W) (hX : Below W1.heap.size W1 W2) : Bk4 W1 q n cap ci X BC r (upd L 4) x10 x11 x12 x13 (.agg (BC.map B8).toArray) x15 W2 :=
  ⟨hX, h.p0, h.p1, h.p2, h.p3, fun _ => rfl, h.p5⟩
theorem Bk4.s5 (h : Bk4 W1 q n cap ci X BC r L x10 x11 x12 x13 x14 x15 W) : Bk4 W1 q n cap ci X BC r (upd L 5) x10 x11 x12 x13 x14 (.bool (!r)) W :=
  ⟨h.x, h.p0, h.p1, h.p2, h.p3, h.p4, fun _ => rfl⟩
end
@[reducible] def IBk4 (W1 : World) (q n cap ci : Nat) (X BC : List By) (r : Bool) (y0 y1 y2 y3 y4 y5 y6 y7 y8 y9 : Value) : (Nat → Bool) → Act → World → Prop := fun L a W => ∃ x10 x11 x12 x13 x14 x15, a = ⟨#[y0, y1, y2, y3, y4, y5, y6, y7, y8, y9, x10, x11, x12, x13, x14, x15], []⟩ ∧ Bk4 W1 q n cap ci X BC r L x10 x11 x12 x13 x14 x15 W
theorem Bk4.step {W1 : World} {q n cap ci : Nat} {X BC : List By} {r : Bool} {y0 y1 y2 y3 y4 y5 y6 y7 y8 y9 : Value} {P : Program} {ops : Array Oper} {Q : Exit → Act → World → Prop} {i : Nat} {o : Oper} (hq : ∀ x10 x11 x12 x13 x14 x15 (L : Nat → Bool) (W : World), Bk4 W1 q n cap ci X BC r L x10 x11 x12 x13 x14 x15 W → L i = false → (∀ j ∈ onesOf o, L j = true) → ∀ K : Act → World → Prop, Shut (∀ a' w', IBk4 W1 q n cap ci X BC r y0 y1 y2 y3 y4 y5 y6 y7 y8 y9 (upd L i) a' w' → K a' w') → if Region.wanted o (yielded ops (⟨#[y0, y1, y2, y3, y4, y5, y6, y7, y8, y9, x10, x11, x12, x13, x14, x15], []⟩ : Act).tmps) = true then Oper.wp P o ⟨#[y0, y1, y2, y3, y4, y5, y6, y7, y8, y9, x10, x11, x12, x13, x14, x15], []⟩ W K Q else K ((⟨#[y0, y1, y2, y3, y4, y5, y6, y7, y8, y9, x10, x11, x12, x13, x14, x15], []⟩ : Act).put o.dst undef) W) : StepI P ops (IBk4 W1 q n cap ci X BC r y0 y1 y2 y3 y4 y5 y6 y7 y8 y9) Q i o := by
  rintro L a W ⟨x10, x11, x12, x13, x14, x15, rfl, h⟩
  exact hq _ _ _ _ _ _ _ _ h
theorem Bk4.ends {W1 : World} {q n cap ci : Nat} {X BC : List By} {r : Bool} {y0 y1 y2 y3 y4 y5 y6 y7 y8 y9 : Value} {mm_ : Nat} {Q : Exit → Act → World → Prop} (hq : ∀ x10 x11 x12 x13 x14 x15 (L : Nat → Bool) (W : World), (∀ j, j < mm_ → L j = true) → Bk4 W1 q n cap ci X BC r L x10 x11 x12 x13 x14 x15 W → Q .normal ⟨#[y0, y1, y2, y3, y4, y5, y6, y7, y8, y9, x10, x11, x12, x13, x14, x15], []⟩ W) : ∀ L a' w', (∀ j, j < mm_ → L j = true) → IBk4 W1 q n cap ci X BC r y0 y1 y2 y3 y4 y5 y6 y7 y8 y9 L a' w' → Q .normal a' w' := by
  rintro L a W hall ⟨x10, x11, x12, x13, x14, x15, rfl, h⟩
  exact hq _ _ _ _ _ _ _ _ hall h
set_option maxHeartbeats 1000000 in
set_option maxRecDepth 100000 in
theorem r14blank_any (q n cap : Nat) (pg : List (List By)) (hn : pg.length = n) (hn8 : n ≤ 256) (w : World) (h : Pg w q pg) :
    Calls Tryz.prog 50 #[.slice (some ⟨q, 0, none⟩) n cap] w fun e w' => e = .returned (.bool (isBlank pg)) ∧ Below w.heap.size w w' := by
  have HB : Hid (∀ W, Calls Tryz.prog 68 #[] W fun e w' => e = .returned (.agg (blankC.map B8).toArray) ∧ Below W.heap.size W w') := fun W => blank_any W
  have HG : Hid (∀ W, Below w.heap.size w W → Pg W q pg) := fun W hb => h.below hb (Nat.le_refl _)
  have HN : Hid (pg.length = n) := hn
  have H32 : Hid (∀ i, i < n → (pg.getD i []).length = 32) := fun i hi => h.2 _ (by rw [List.getD_eq_getElem?_getD, List.getElem?_eq_getElem (by omega)]; exact List.getElem_mem _)
  have HBL : Hid (blankC.length = 32) := rfl
  clear h hn
  generalize hBC : blankC = BC at *
  have HBC : Hid (blankC = BC) := hBC
  clear hBC
  go_enter Tryz.func50, Tryz.ntmps50
  go_wp2_with fail
  go_loopw [3] (fun iv wr => ∃ i : Nat, i ≤ n ∧ iv = .int .i64 i ∧ Hid (isBlank (pg.take i) = true) ∧ Below w.heap.size w wr) (fun iv _ => n - (intOf iv).toNat)
  case atStart => exact ⟨0, by omega, rfl, isBlank_take pg, Below.refl _ _⟩
  case round =>
    obtain ⟨i, hi, rfl, HT, hb⟩ := hrel
    by_cases hlt : i < n
    · have y0 : (0 : Int) ≤ (i : Int) := by omega
      have y1 : (i : Int) < (n : Int) := by omega
      have hx := H32.out i hlt
      have HR : Hid (∀ W, Below wr.heap.size wr W → W.rangeAt q (i * 32) ((pg.getD i []).map B8)) := fun W hW => (HG.out W (hb.trans (hW.mono hb.size))).rng i (by rw [HN.out]; exact hlt)
      have hq := eq_cell (pg.getD i []) BC hx HBL.out
      have HY : Hid (pg.getD i [] = BC → isBlank (pg.take (i + 1)) = true) := fun e => isBlank_step HT.out (by rw [HN.out]; exact hlt) (by rw [HBC.out]; exact e)
      have HX : Hid (¬ pg.getD i [] = BC → isBlank pg = false) := fun e => isBlank_no (by rw [HN.out]; exact hlt) (by rw [HBC.out]; exact e)
      obtain ⟨r, hr⟩ : ∃ r, r = decide (pg.getD i [] = BC) := ⟨_, rfl⟩
      rw [← hr] at hq
      have HQ : Hid (∀ W : World, (Op.equalIn 10000 55 (.agg ((pg.getD i []).map B8).toArray) (.agg (BC.map B8).toArray)).run Tryz.prog W = .ok r W) := hq
      have lx : ((pg.getD i []).map B8).length = 32 := by rw [List.length_map, hx]
      have HRR : Hid (r = decide (pg.getD i [] = BC)) := hr
      clear hq hr hx
      generalize pg.getD i [] = X at *
      obtain ⟨wo, hwo⟩ : ∃ wo, wo = wr := ⟨wr, rfl⟩
      subst hwo
      go_wp2_with fail
      refine wp_region_inv (IBk4 wo q n cap i X BC r _ _ _ _ _ _ _ _ _ _) (by kernel_rfl) (by kernel_rfl) ⟨_, _, _, _, _, _, rfl, ⟨(Below.refl _ _).drew, fun k => (by cases k), fun k => (by cases k), fun k => (by cases k), fun k => (by cases k), fun k => (by cases k), fun k => (by cases k)⟩⟩ ?_ ?_
      · refine .cons ?_ (.cons ?_ (.cons ?_ (.cons ?_ (.cons ?_ (.cons ?_ .nil)))))
        all_goals (refine Bk4.step ?_; intro x10 x11 x12 x13 x14 x15 L W hI hL hd K hK)
        · rw [if_pos (by rfl)]
          go_simp
          exact hK.out _ _ ⟨_, _, _, _, _, _, rfl, hI.s0⟩
        · rw [if_pos (by rfl)]
          go_simp
          exact hK.out _ _ ⟨_, _, _, _, _, _, rfl, hI.s1⟩
        · have hx0 := hI.p0 (hd 0 (by decide))
          subst hx0
          have hx1 := hI.p1 (hd 1 (by decide))
          subst hx1
          rw [if_pos (by rfl)]
          go_simp
          exact hK.out _ _ ⟨_, _, _, _, _, _, rfl, hI.s2⟩
        · have hx2 := hI.p2 (hd 2 (by decide))
          subst hx2
          refine step_load_rng rfl 55 _ rfl q (i * 32) _ (HR.out W hI.x) rfl _ Tryz.underlying55 rfl (by rw [lx]; kernel_rfl) ?_
          exact hK.out _ _ ⟨_, _, _, _, _, _, rfl, hI.s3⟩
        · rw [if_pos (by rfl)]
          go_simp
          refine (HB.out W).mono ?_
          rintro e W2 ⟨rfl, hb3⟩
          go_simp
          exact hK.out _ _ ⟨_, _, _, _, _, _, rfl, hI.s4 (hI.x.trans (hb3.mono hI.x.size))⟩
        · have hx3 := hI.p3 (hd 3 (by decide))
          subst hx3
          have hx4 := hI.p4 (hd 4 (by decide))
          subst hx4
          rw [if_pos (by rfl)]
          have hq := HQ.out
          go_simp
          exact hK.out _ _ ⟨_, _, _, _, _, _, rfl, hI.s5⟩
      · refine Bk4.ends ?_; intro x10 x11 x12 x13 x14 x15 L W hall hI
        have hx0 := hI.p0 (hall 0 (by decide))
        subst hx0
        have hx1 := hI.p1 (hall 1 (by decide))
        subst hx1
        have hx2 := hI.p2 (hall 2 (by decide))
        subst hx2
        have hx3 := hI.p3 (hall 3 (by decide))
        subst hx3
        have hx4 := hI.p4 (hall 4 (by decide))
        subst hx4
        have hx5 := hI.p5 (hall 5 (by decide))
        subst hx5
        have hXe := hI.x
        clear hI hall
        try dsimp only
        have hX2 := hXe
        cases r with
        | true =>
          have h1 := HY.out (of_decide_eq_true HRR.out.symm)
          go_wp2
          exact ⟨⟨i + 1, by omega, by go_num, h1, hb.trans (hX2.mono hb.size)⟩, by simp [intOf]; omega⟩
        | false =>
          have h1 := HX.out (of_decide_eq_false HRR.out.symm)
          go_wp2
          go_ret
          exact ⟨by rw [h1]; rfl, hb.trans (hX2.mono hb.size)⟩
    · obtain rfl : i = n := by omega
      have e : isBlank pg = true := by have := HT.out; rw [List.take_of_length_le (Nat.le_of_eq HN.out)] at this; exact this
      clear HT
      go_wp2
      go_ret
      exact ⟨by rw [e]; rfl, hb⟩
end Go.Proofs.YtcpdanjbnijoiaaGreatDoor


/-! Layer 14, the document's answer: Worn. -/
namespace Go.Proofs.YtcpdanjbnijoiaaGreatDoor
open Go.RowKit
set_option linter.unusedVariables false

theorem RAt.below {w w' : World} {F : RF} {s : RS} (h : RAt w F s) (hb : Below w.heap.size w w') : RAt w' F s := h.keep fun B hB => hb.block B (h.blt B hB)
/-- A page of the document's chip, in memory. -/
theorem RAt.pgAt {w : World} {F : RF} {s : RS} (h : RAt w F s) (hA : s.Ar) (n : Nat) (hn : n < s.pages.length) : ∃ q : Nat × Nat, ∀ W, RAt W F s → W.cell? ⟨F.pB, n, none⟩ = some (.slice (some ⟨q.1, 0, none⟩) (s.pages.getD n []).length q.2) ∧ Pg W q.1 (s.pages.getD n []) := by
  obtain ⟨q, hq, _⟩ := h.pageAt n hn
  refine ⟨q, fun W hW => ?_⟩
  obtain ⟨q', hq', c, p, _⟩ := hW.pageAt n hn
  obtain rfl : q' = q := Option.some.inj (hq'.symm.trans hq)
  exact ⟨c, p, hA.by8 hn⟩
theorem RAt.eraAt {w : World} {F : RF} {s : RS} (h : RAt w F s) (hA : s.Ar) (n : Nat) (hn : n < s.pages.length) : w.cell? ⟨F.eB, n, none⟩ = some (.int .i64 (s.erases.getD n 0)) :=
  h.er.cell n _ (by rw [List.getElem?_map, List.getD_eq_getElem?_getD, List.getElem?_eq_getElem (by rw [hA.ok.er]; exact hn)]; rfl)
/-- What is known of an area's page numbers. -/
theorem RS.Ar.nums {s : RS} (h : s.Ar) {a : Int} (ha : a = 0 ∨ a = 1) : IntKind.i64.wrap (a * s.c.area) = a * s.c.area ∧ IntKind.i64.wrap (2 + a * s.c.area) = 2 + a * s.c.area ∧ ∀ p : Nat, p < s.c.area.toNat → IntKind.i64.wrap (2 + a * s.c.area + (p : Int)) = ((s.pgN a p : Nat) : Int) ∧ s.pgN a p < s.pages.length ∧ s.pgN a p < s.erases.length := by
  have h1 := h.area
  have h2 := h.pl
  have h3 := h.ok.er
  have hb : 0 ≤ a * s.c.area ∧ a * s.c.area ≤ 64 := by
    rcases ha with rfl | rfl
    · rw [Int.zero_mul]; omega
    · rw [Int.one_mul]; omega
  refine ⟨i64_in _ (by omega) (by omega), i64_in _ (by omega) (by omega), fun p hp => ?_⟩
  obtain ⟨g1, g2, _⟩ := h.pg ha hp
  rw [i64_in _ (by omega) (by omega), g1]
  exact ⟨rfl, g2, by omega⟩

/-- Worn, gone through. -/
def wornTo (s : RS) (a : Int) (p : Nat) : Bool := (List.range p).any (s.wornAt a)
theorem wornTo_step {s : RS} {a : Int} {p : Nat} (h : wornTo s a p = false) (hw : s.wornAt a p = false) : wornTo s a (p + 1) = false := by
  unfold wornTo at h ⊢
  rw [List.range_succ, List.any_append, h]; simp [hw]
theorem worn_hit {s : RS} {a : Int} {p : Nat} (hp : p < s.c.area.toNat) (hw : s.wornAt a p = true) : s.aworn a = true := by
  unfold RS.aworn
  rw [List.any_eq_true]
  exact ⟨p, List.mem_range.2 hp, hw⟩

set_option maxHeartbeats 1000000 in
set_option maxRecDepth 100000 in
theorem r14worn_any (F : RF) (s : RS) (a : Int) (w : World) (h : RAt w F s) (hA : s.Ar) :
    Calls Tryz.prog 30 #[.pointer (some ⟨F.g, 0, none⟩), .int .i64 a] w fun e w' => e = .returned (.tuple #[.bool (if s.areaE a = 0 then s.aworn a else false), .int .i64 (s.areaE a)]) ∧ Below w.heap.size w w' := by
  have HM := r14may_any F s a w h
  by_cases h0 : s.areaE a = 0
  · obtain ⟨hg, ha⟩ := areaE_zero h0
    rw [if_pos h0, h0]
    rw [h0] at HM
    obtain ⟨n1, n2, n3⟩ := hA.nums ha
    have har := hA.area
    have hce := hA.cells
    have HW : Hid (∀ W, Below w.heap.size w W → RAt W F s) := fun W hb => h.below hb
    have HN : Hid (∀ p : Nat, p < s.c.area.toNat → IntKind.i64.wrap (2 + a * s.c.area + (p : Int)) = ((s.pgN a p : Nat) : Int) ∧ s.pgN a p < s.pages.length ∧ s.pgN a p < s.erases.length) := n3
    have HA : Hid s.Ar := hA
    have HP : Hid (∀ n, n < s.pages.length → ∃ q : Nat × Nat, ∀ W, RAt W F s → W.cell? ⟨F.pB, n, none⟩ = some (.slice (some ⟨q.1, 0, none⟩) (s.pages.getD n []).length q.2) ∧ Pg W q.1 (s.pages.getD n [])) := fun n hn => h.pgAt hA n hn
    obtain ⟨M, hM⟩ : ∃ M : Nat, s.c.area = (M : Int) := Int.eq_ofNat_of_zero_le har.1
    have HMM : Hid (s.c.area.toNat = M) := by show _ = _; omega
    have c6 := h.row.cell 6 (.int .i64 s.c.area) rfl
    clear n3 h h0
    generalize hAA : a * s.c.area = AA at *
    go_enter Tryz.func30, Tryz.ntmps30
    go_wp2_with fail
    refine HM.mono ?_
    clear HM
    rintro e w1 ⟨rfl, rfl⟩
    dsimp only
    go_wp2
    go_loopw [7] (fun iv wr => ∃ p : Nat, p ≤ M ∧ iv = .int .i64 p ∧ Hid (wornTo s a p = false) ∧ Below w1.heap.size w1 wr) (fun iv _ => M - (intOf iv).toNat)
    case atStart => exact ⟨0, by omega, rfl, rfl, Below.refl _ _⟩
    case round =>
      clear c6
      obtain ⟨p, hp, rfl, HT, hb⟩ := hrel
      have r := HW.out _ hb
      have c6 := r.row.cell 6 (.int .i64 s.c.area) rfl
      rw [hM] at c6
      by_cases hlt : p < M
      · have y1 : (p : Int) < (M : Int) := by omega
        obtain ⟨m1, m2, m3⟩ := HN.out p (by rw [HMM.out]; exact hlt)
        obtain ⟨q, hq⟩ := HP.out _ m2
        obtain ⟨cp, pg⟩ := hq _ r
        have c7 := r.cPages
        have m4 : ((s.pgN a p : Nat) : Int) < (s.pages.length : Int) := by omega
        have m5 : (0 : Int) ≤ ((s.pgN a p : Nat) : Int) := by omega
        have hlen : (s.pages.getD (s.pgN a p) []).length ≤ 256 := by have := HA.out.pgLen m2; omega
        have BK := r14blank_any q.1 _ q.2 _ rfl hlen wr pg
        have HQ : Hid (s.wornAt a p = (!isBlank (s.pages.getD (s.pgN a p) []) && decide (s.c.erases ≤ s.erases.getD (s.pgN a p) 0))) := rfl
        have HCE : Hid (∀ W, RAt W F s → W.cell? ⟨F.eB, s.pgN a p, none⟩ = some (.int .i64 (s.erases.getD (s.pgN a p) 0))) := fun W hW => hW.eraAt HA.out _ m2
        rw [hM] at hAA
        clear hq pg hlen m2
        generalize s.erases.getD (s.pgN a p) 0 = E0 at *
        generalize s.pages.getD (s.pgN a p) [] = PG at *
        generalize s.pgN a p = PN at *
        go_wp2_with fail
        refine BK.mono ?_
        clear BK cp c7
        rintro e w2 ⟨rfl, hb2⟩
        dsimp only
        have bb : Below w1.heap.size w1 w2 := hb.trans (hb2.mono hb.size)
        have r2 := HW.out _ bb
        have c8 := r2.cEr
        have ce := HCE.out _ r2
        have c5 := r2.cErases
        have m6 : (PN : Int) < (s.erases.length : Int) := by omega
        clear r r2 hb2 c6
        generalize isBlank PG = ib at *
        cases ib with
        | true =>
          have HS : Hid (wornTo s a (p + 1) = false) := wornTo_step HT.out (by rw [HQ.out]; rfl)
          go_wp2
          go_quiet (fail)
          go_wp2
          exact ⟨⟨p + 1, by omega, by go_num, HS, Below_dr bb ⟨nq, rfl⟩⟩, by simp [intOf]; omega⟩
        | false =>
          by_cases hw : s.c.erases ≤ E0
          · have g1 : decide (s.c.erases ≤ E0) = true := by simpa using hw
            have hit := worn_hit (s := s) (a := a) (p := p) (by rw [HMM.out]; exact hlt) (by rw [HQ.out, g1]; rfl)
            have HH : Hid (s.aworn a = true) := hit
            clear hit hw
            go_wp2
            go_quiet (fail)
            go_wp2
            go_ret2
            exact ⟨by rw [HH.out]; rfl, Below_dr bb ⟨nq, rfl⟩⟩
          · have g1 : decide (s.c.erases ≤ E0) = false := by simpa using hw
            have HS : Hid (wornTo s a (p + 1) = false) := wornTo_step HT.out (by rw [HQ.out, g1]; rfl)
            clear hw
            go_wp2
            go_quiet (fail)
            go_wp2
            exact ⟨⟨p + 1, by omega, by go_num, HS, Below_dr bb ⟨nq, rfl⟩⟩, by simp [intOf]; omega⟩
      · obtain rfl : p = M := by omega
        have HH : Hid (s.aworn a = false) := by have := HT.out; unfold wornTo at this; rw [← HMM.out] at this; exact this
        go_wp2
        go_ret2
        exact ⟨by rw [HH.out]; rfl, hb⟩
  · rw [if_neg h0]
    have hq : (s.areaE a == 0) = false := by simpa using h0
    generalize s.areaE a = E at *
    go_enter Tryz.func30, Tryz.ntmps30
    go_wp2_with fail
    refine HM.mono ?_
    rintro e w1 ⟨rfl, rfl⟩
    dsimp only
    go_wp2
    go_ret2
    exact ⟨rfl, Below.refl _ _⟩
end Go.Proofs.YtcpdanjbnijoiaaGreatDoor
