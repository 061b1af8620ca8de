import Derived.Test.YtcpdanjbnijoiaaDoorR4Inv
import Derived.Test.YtcpdanjbnijoiaaDoorMMath
import Derived.Deep.RegionHeld3
import Derived.Test.YtcpdanjbnijoiaaDoorArMath2
import Derived.BigQuiet

/-! A drawn region by an invariant over what has come up: one step an operation, whatever the number of orders. -/
namespace Go.Proofs.YtcpdanjbnijoiaaDoor
open Go.RowKit

end Go.Proofs.YtcpdanjbnijoiaaDoor


/-! Layer 14, the document's answer: may, Size, blank, Worn. (Printed by tools/genar14.py.) -/
namespace Go.Proofs.YtcpdanjbnijoiaaDoor
open Go.RowKit
set_option linter.unusedVariables false

theorem step_load_rng {ops : Array Oper} {o : Oper} {a : Act} {w : World} {K : Act → World → Prop} {Q : Exit → Act → World → Prop} {X : Prop} (hw : Region.wanted o (yielded ops a.tmps) = true) (ty : TypeId) (x : Operand) (ho : o.op = .load ty x)
    (g off : Nat) (cs : List Value) (hr : w.rangeAt g off cs) (hx : a.eval x = .pointer (some ⟨g, off, none⟩)) (d : TypeDesc) (hu : Tryd.prog.underlying ty = some d) (hd : d.isRow = true) (hi : (Tryd.prog.info? ty).map (·.size) = some cs.length)
    (h : K (a.put o.dst (.agg cs.toArray)) w) : if Region.wanted o (yielded ops a.tmps) = true then Oper.wp Tryd.prog o a w K Q else X := by
  rw [if_pos hw]
  exact wp_load_mid ty x ho g off hx _ d hr hu hd hi h

theorem asize_zero {c : Cfg} (h : ¬ c.may = 0) : c.asize = 0 := by unfold Cfg.asize; rw [if_neg h]
theorem asize_le {c : Cfg} (h : c.may = 0) : c.asize = c.area * c.cells * 32 ∧ 0 ≤ c.area * c.cells ∧ c.area * c.cells ≤ 16384 := by
  obtain ⟨h1, h2, _, _, h5⟩ := may_parts h
  have b1 : 0 ≤ c.area * c.cells := Int.mul_nonneg (by omega) (by omega)
  have b3 : c.area * c.cells ≤ 64 * 256 := Int.mul_le_mul (by omega) (by omega) (by omega) (by omega)
  exact ⟨by unfold Cfg.asize; rw [if_pos h], b1, by omega⟩

/-- A page in memory. -/
def Pg (w : World) (q : Nat) (pg : List (List By)) : Prop := Pre w q 40 (pg.flatten.map B8) ∧ ∀ x ∈ pg, x.length = 32
theorem Pg.below {w w' : World} {q : Nat} {pg : List (List By)} {N : Nat} (h : Pg w q pg) (hb : Below N w w') (hN : w.heap.size ≤ N) : Pg w' q pg := ⟨h.1.of_block (hb.block q (Nat.lt_of_lt_of_le h.1.lt hN)), h.2⟩
theorem Pg.rng {w : World} {q : Nat} {pg : List (List By)} (h : Pg w q pg) (i : Nat) (hi : i < pg.length) : w.rangeAt q (i * 32) ((pg.getD i []).map B8) := by
  intro j v hv
  rw [List.getElem?_map] at hv
  have hx : (pg.getD i []).length = 32 := h.2 _ (by rw [List.getD_eq_getElem?_getD, List.getElem?_eq_getElem hi]; exact List.getElem_mem hi)
  cases hj : (pg.getD i [])[j]? with
  | none => rw [hj] at hv; cases hv
  | some b =>
    rw [hj] at hv; injection hv with hv; subst hv
    have hj2 := (List.getElem?_eq_some_iff.1 hj).1
    refine h.1.cell (i * 32 + j) _ ?_
    rw [List.getElem?_map, Nat.mul_comm i 32, flat_get pg h.2 i j hi (by omega)]
    rw [List.getD_eq_getElem?_getD, hj]; rfl
theorem Pg.byte {w : World} {q : Nat} {pg : List (List By)} (h : Pg w q pg) (i j : Nat) (hi : i < pg.length) (hj : j < 32) : w.cell? ⟨q, i * 32 + j, none⟩ = some (.int .u8 (((pg.getD i []).getD j 0).toNat : Int)) := by
  have hx : (pg.getD i []).length = 32 := h.2 _ (by rw [List.getD_eq_getElem?_getD, List.getElem?_eq_getElem hi]; exact List.getElem_mem hi)
  refine h.rng i hi j _ ?_
  generalize pg.getD i [] = x at hx
  rw [List.getElem?_map, List.getElem?_eq_getElem (by omega), List.getD_eq_getElem?_getD, List.getElem?_eq_getElem (by omega)]; rfl
theorem isBlank_take (pg : List (List By)) : isBlank (pg.take 0) = true := by simp [isBlank]
theorem isBlank_step {pg : List (List By)} {i : Nat} (h : isBlank (pg.take i) = true) (hi : i < pg.length) (hb : pg.getD i [] = blankC) : isBlank (pg.take (i + 1)) = true := by
  unfold isBlank at h ⊢
  rw [List.take_add_one, List.getElem?_eq_getElem hi, List.all_append, h]
  rw [List.getD_eq_getElem?_getD, List.getElem?_eq_getElem hi] at hb
  simp at hb ⊢
  exact hb
theorem isBlank_no {pg : List (List By)} {i : Nat} (hi : i < pg.length) (hb : ¬ pg.getD i [] = blankC) : isBlank pg = false := by
  unfold isBlank
  rw [List.all_eq_false]
  refine ⟨pg.getD i [], ?_, by simpa using hb⟩
  rw [List.getD_eq_getElem?_getD, List.getElem?_eq_getElem hi]; exact List.getElem_mem hi

structure Bk4 (W1 : World) (q n cap ci : Nat) (X BC : List By) (r : Bool) (L : Nat → Bool) (x10 x11 x12 x13 x14 x15 : Value) (W : World) : Prop where
  x : Below W1.heap.size W1 W
  p0 : L 0 = true → x10 = .slice (some ⟨q, 0, none⟩) n cap
  p1 : L 1 = true → x11 = .int .i64 (ci : Int)
  p2 : L 2 = true → x12 = .pointer (some ⟨q, ci * 32, none⟩)
  p3 : L 3 = true → x13 = .agg (X.map B8).toArray
  p4 : L 4 = true → x14 = .agg (BC.map B8).toArray
  p5 : L 5 = true → x15 = .bool (!r)
section
variable {W1 : World} {q n cap ci : Nat} {X BC : List By} {r : Bool} {L : Nat → Bool} {x10 x11 x12 x13 x14 x15 : Value} {W W2 : World}
theorem Bk4.s0 (h : Bk4 W1 q n cap ci X BC r L x10 x11 x12 x13 x14 x15 W) : Bk4 W1 q n cap ci X BC r (upd L 0) (.slice (some ⟨q, 0, none⟩) n cap) x11 x12 x13 x14 x15 W :=
  ⟨h.x, fun _ => rfl, h.p1, h.p2, h.p3, h.p4, h.p5⟩
theorem Bk4.s1 (h : Bk4 W1 q n cap ci X BC r L x10 x11 x12 x13 x14 x15 W) : Bk4 W1 q n cap ci X BC r (upd L 1) x10 (.int .i64 (ci : Int)) x12 x13 x14 x15 W :=
  ⟨h.x, h.p0, fun _ => rfl, h.p2, h.p3, h.p4, h.p5⟩
theorem Bk4.s2 (h : Bk4 W1 q n cap ci X BC r L x10 x11 x12 x13 x14 x15 W) : Bk4 W1 q n cap ci X BC r (upd L 2) x10 x11 (.pointer (some ⟨q, ci * 32, none⟩)) x13 x14 x15 W :=
  ⟨h.x, h.p0, h.p1, fun _ => rfl, h.p3, h.p4, h.p5⟩
theorem Bk4.s3 (h : Bk4 W1 q n cap ci X BC r L x10 x11 x12 x13 x14 x15 W) : Bk4 W1 q n cap ci X BC r (upd L 3) x10 x11 x12 (.agg (X.map B8).toArray) x14 x15 W :=
  ⟨h.x, h.p0, h.p1, h.p2, fun _ => rfl, h.p4, h.p5⟩
theorem Bk4.s4 (h : Bk4 W1 q n cap ci X BC r L x10 x11 x12 x13 x14 x15 W) (hX : Below W1.heap.size W1 W2) : Bk4 W1 q n cap ci X BC r (upd L 4) x10 x11 x12 x13 (.agg (BC.map B8).toArray) x15 W2 :=
  ⟨hX, h.p0, h.p1, h.p2, h.p3, fun _ => rfl, h.p5⟩
theorem Bk4.s5 (h : Bk4 W1 q n cap ci X BC r L x10 x11 x12 x13 x14 x15 W) : Bk4 W1 q n cap ci X BC r (upd L 5) x10 x11 x12 x13 x14 (.bool (!r)) W :=
  ⟨h.x, h.p0, h.p1, h.p2, h.p3, h.p4, fun _ => rfl⟩
end
@[reducible] def IBk4 (W1 : World) (q n cap ci : Nat) (X BC : List By) (r : Bool) (y0 y1 y2 y3 y4 y5 y6 y7 y8 y9 : Value) : (Nat → Bool) → Act → World → Prop := fun L a W => ∃ x10 x11 x12 x13 x14 x15, a = ⟨#[y0, y1, y2, y3, y4, y5, y6, y7, y8, y9, x10, x11, x12, x13, x14, x15], []⟩ ∧ Bk4 W1 q n cap ci X BC r L x10 x11 x12 x13 x14 x15 W
theorem Bk4.step {W1 : World} {q n cap ci : Nat} {X BC : List By} {r : Bool} {y0 y1 y2 y3 y4 y5 y6 y7 y8 y9 : Value} {P : Program} {ops : Array Oper} {Q : Exit → Act → World → Prop} {i : Nat} {o : Oper} (hq : ∀ x10 x11 x12 x13 x14 x15 (L : Nat → Bool) (W : World), Bk4 W1 q n cap ci X BC r L x10 x11 x12 x13 x14 x15 W → L i = false → (∀ j ∈ onesOf o, L j = true) → ∀ K : Act → World → Prop, Shut (∀ a' w', IBk4 W1 q n cap ci X BC r y0 y1 y2 y3 y4 y5 y6 y7 y8 y9 (upd L i) a' w' → K a' w') → if Region.wanted o (yielded ops (⟨#[y0, y1, y2, y3, y4, y5, y6, y7, y8, y9, x10, x11, x12, x13, x14, x15], []⟩ : Act).tmps) = true then Oper.wp P o ⟨#[y0, y1, y2, y3, y4, y5, y6, y7, y8, y9, x10, x11, x12, x13, x14, x15], []⟩ W K Q else K ((⟨#[y0, y1, y2, y3, y4, y5, y6, y7, y8, y9, x10, x11, x12, x13, x14, x15], []⟩ : Act).put o.dst undef) W) : StepI P ops (IBk4 W1 q n cap ci X BC r y0 y1 y2 y3 y4 y5 y6 y7 y8 y9) Q i o := by
  rintro L a W ⟨x10, x11, x12, x13, x14, x15, rfl, h⟩
  exact hq _ _ _ _ _ _ _ _ h
theorem Bk4.ends {W1 : World} {q n cap ci : Nat} {X BC : List By} {r : Bool} {y0 y1 y2 y3 y4 y5 y6 y7 y8 y9 : Value} {mm_ : Nat} {Q : Exit → Act → World → Prop} (hq : ∀ x10 x11 x12 x13 x14 x15 (L : Nat → Bool) (W : World), (∀ j, j < mm_ → L j = true) → Bk4 W1 q n cap ci X BC r L x10 x11 x12 x13 x14 x15 W → Q .normal ⟨#[y0, y1, y2, y3, y4, y5, y6, y7, y8, y9, x10, x11, x12, x13, x14, x15], []⟩ W) : ∀ L a' w', (∀ j, j < mm_ → L j = true) → IBk4 W1 q n cap ci X BC r y0 y1 y2 y3 y4 y5 y6 y7 y8 y9 L a' w' → Q .normal a' w' := by
  rintro L a W hall ⟨x10, x11, x12, x13, x14, x15, rfl, h⟩
  exact hq _ _ _ _ _ _ _ _ hall h
end Go.Proofs.YtcpdanjbnijoiaaDoor


/-! Layer 14, the document's answer: Worn. -/
namespace Go.Proofs.YtcpdanjbnijoiaaDoor
open Go.RowKit
set_option linter.unusedVariables false

/-- What is known of an area's page numbers. -/
theorem RS.Ar.nums {s : RS} (h : s.Ar) {a : Int} (ha : a = 0 ∨ a = 1) : IntKind.i64.wrap (a * s.c.area) = a * s.c.area ∧ IntKind.i64.wrap (2 + a * s.c.area) = 2 + a * s.c.area ∧ ∀ p : Nat, p < s.c.area.toNat → IntKind.i64.wrap (2 + a * s.c.area + (p : Int)) = ((s.pgN a p : Nat) : Int) ∧ s.pgN a p < s.pages.length ∧ s.pgN a p < s.erases.length := by
  have h1 := h.area
  have h2 := h.pl
  have h3 := h.ok.er
  have hb : 0 ≤ a * s.c.area ∧ a * s.c.area ≤ 64 := by
    rcases ha with rfl | rfl
    · rw [Int.zero_mul]; omega
    · rw [Int.one_mul]; omega
  refine ⟨i64_in _ (by omega) (by omega), i64_in _ (by omega) (by omega), fun p hp => ?_⟩
  obtain ⟨g1, g2, _⟩ := h.pg ha hp
  rw [i64_in _ (by omega) (by omega), g1]
  exact ⟨rfl, g2, by omega⟩

/-- Worn, gone through. -/
def wornTo (s : RS) (a : Int) (p : Nat) : Bool := (List.range p).any (s.wornAt a)
theorem wornTo_step {s : RS} {a : Int} {p : Nat} (h : wornTo s a p = false) (hw : s.wornAt a p = false) : wornTo s a (p + 1) = false := by
  unfold wornTo at h ⊢
  rw [List.range_succ, List.any_append, h]; simp [hw]
theorem worn_hit {s : RS} {a : Int} {p : Nat} (hp : p < s.c.area.toNat) (hw : s.wornAt a p = true) : s.aworn a = true := by
  unfold RS.aworn
  rw [List.any_eq_true]
  exact ⟨p, List.mem_range.2 hp, hw⟩

end Go.Proofs.YtcpdanjbnijoiaaDoor


/-! Layer 14, the document's answer: lay. (Printed by tools/genar14.py.) -/
namespace Go.Proofs.YtcpdanjbnijoiaaDoor
open Go.RowKit
set_option linter.unusedVariables false

/-- The first i bytes of a cell of b, ff behind them. -/
def cellTo (b : List By) (k i : Nat) : List By := (List.range 32).map fun j => if j < i then b.getD (32 * k + j) 255#8 else 255#8
theorem cellTo_len (b : List By) (k i : Nat) : (cellTo b k i).length = 32 := by simp [cellTo]
theorem cellTo_zero (b : List By) (k : Nat) : cellTo b k 0 = blankC := by unfold cellTo blankC; simp only [Nat.not_lt_zero, if_false]; rfl
theorem cellTo_get (b : List By) (k i j : Nat) : (cellTo b k i)[j]? = if j < 32 then some (if j < i then b.getD (32 * k + j) 255#8 else 255#8) else none := by
  unfold cellTo
  rw [List.getElem?_map]
  by_cases h : j < 32
  · rw [List.getElem?_range h, if_pos h]; rfl
  · rw [if_neg h, List.getElem?_eq_none (by simp; omega)]; rfl
theorem cellTo_set (b : List By) (k i : Nat) (hi : i < 32) : (cellTo b k i).set i (b.getD (32 * k + i) 255#8) = cellTo b k (i + 1) := by
  apply List.ext_getElem?
  intro j
  rw [List.getElem?_set, cellTo_get, cellTo_get, cellTo_len]
  by_cases e : i = j
  · subst e
    rw [if_pos rfl, if_pos hi, if_pos hi, if_pos (by omega)]
  · rw [if_neg e]
    by_cases h : j < i
    · rw [if_pos h, if_pos (show j < i + 1 by omega)]
    · rw [if_neg h, if_neg (show ¬ j < i + 1 by omega)]
theorem cellTo_end {b : List By} {k i : Nat} (hi : i ≤ 32) (h : i = 32 ∨ b.length ≤ 32 * k + i) : cellTo b k i = cellOf b k := by
  unfold cellTo cellOf
  apply List.map_congr_left
  intro j hj
  rw [List.mem_range] at hj
  by_cases h2 : j < i
  · rw [if_pos h2]
  · rw [if_neg h2, List.getD_eq_getElem?_getD, List.getElem?_eq_none (by omega)]; rfl

theorem program_c (s : RS) (p c : Int) (x : List By) : (s.program p c x).c = s.c := by unfold RS.program; split <;> rfl
section
variable {W1 : World} {F : RF} {T : RS} {aI AR AA EE : Int} {k C KD KM PN X : Nat} {XX : List By} {L : Nat → Bool} {x34 x35 x36 x37 x38 x39 x40 x41 x42 x43 x44 x45 x46 x47 x48 x49 x50 x51 x52 x53 x54 x55 x56 x57 x58 x59 x8 : Value} {W W2 : World}
end
end Go.Proofs.YtcpdanjbnijoiaaDoor


/-! Layer 14, the document's answer: Write. -/
namespace Go.Proofs.YtcpdanjbnijoiaaDoor
open Go.RowKit
set_option linter.unusedVariables false

theorem eraseGo_good {a : Int} : ∀ (m p : Nat) (s : RS), s.Good → (eraseGo a m p s).1.Good ∧ (eraseGo a m p s).1.n ≤ s.n + m
  | 0, _, s, h => ⟨h, by show s.n ≤ _; omega⟩
  | m + 1, p, s, h => by
    unfold eraseGo
    split
    · have := eraseGo_good (a := a) m (p + 1) s h
      exact ⟨this.1, by omega⟩
    · obtain ⟨g1, g2⟩ := h.erase ((s.pgN a p : Nat) : Int)
      split
      · have := eraseGo_good (a := a) m (p + 1) _ g1
        exact ⟨this.1, by omega⟩
      · exact ⟨g1, by show (s.erase _).n ≤ _; omega⟩
theorem layGo_good {a : Int} {b : List By} : ∀ (m k : Nat) (s : RS), s.Good → (layGo a b m k s).1.Good ∧ (layGo a b m k s).1.n ≤ s.n + m
  | 0, _, s, h => ⟨h, by show s.n ≤ _; omega⟩
  | m + 1, k, s, h => by
    unfold layGo
    obtain ⟨g1, g2⟩ := h.program ((s.pgN a (k / s.c.cells.toNat) : Nat) : Int) ((k % s.c.cells.toNat : Nat) : Int) (cellOf b k)
    have g3 : (s.layC a b k).Good := g1
    have g4 : (s.layC a b k).n ≤ s.n + 1 := g2
    split
    · have := layGo_good (a := a) (b := b) m (k + 1) _ g3
      exact ⟨this.1, by omega⟩
    · exact ⟨g3, by show (s.layC a b k).n ≤ _; omega⟩
theorem erase_c (s : RS) (p : Int) : (s.erase p).c = s.c := by unfold RS.erase; split <;> rfl
theorem RS.Ar.erase {s : RS} (h : s.Ar) (hg : s.gone = false) {q : Nat} (hq : q < s.pages.length) : (s.erase (q : Int)).Ar := by
  by_cases hw : s.erases.getD q 0 < s.c.erases
  · have F := era_f h hg hq hw
    obtain ⟨pg, f1, f2, f3, _⟩ := F.pg
    exact h.setPage _ q hq pg f2 f3 F.c f1 (by rw [F.er, List.length_set]) (by rw [F.bl])
  · have e : s.erase (q : Int) = s := by unfold RS.erase; rw [if_neg (by rw [Int.toNat_natCast]; omega)]
    rw [e]; exact h

/-- What stands between two rounds of the erases: s' at the page p, all that is still to come makes R. -/
structure Ez (a : Int) (M : Nat) (R : RS × Int) (s0 s' : RS) (p : Nat) (e : Int) : Prop where
  ar : s'.Ar
  good : s'.Good
  c : s'.c = s0.c
  n : s'.n ≤ s0.n + p
  e0 : e = 0
  g : s'.gone = false
  go : eraseGo a (M - p) p s' = R
/-- And of the cells. -/
structure Lz (a : Int) (b : List By) (K : Nat) (R : RS × Int) (s0 s' : RS) (k : Nat) : Prop where
  ar : s'.Ar
  good : s'.Good
  c : s'.c = s0.c
  n : s'.n ≤ s0.n + k
  g : s'.gone = false
  go : layGo a b (K - k) k s' = R

theorem layC_c (s : RS) (a : Int) (b : List By) (k : Nat) : (s.layC a b k).c = s.c := by unfold RS.layC; exact program_c _ _ _ _
theorem RS.Ar.lay {s : RS} (h : s.Ar) (hg : s.gone = false) {a : Int} (ha : a = 0 ∨ a = 1) (b : List By) {k : Nat} (hk : k < s.c.area.toNat * s.c.cells.toNat) : (s.layC a b k).Ar ∧ ((s.layE a k = 0 ∧ (s.layC a b k).gone = false) ∨ (s.layE a k = 8)) := by
  have hc := h.cells
  have hkc : k / s.c.cells.toNat < s.c.area.toNat := Nat.div_lt_of_lt_mul (by rw [Nat.mul_comm]; exact hk)
  have hkm : k % s.c.cells.toNat < s.c.cells.toNat := Nat.mod_lt _ (by omega)
  obtain ⟨hp1, hp2, hp3⟩ := h.pg ha hkc
  have F : PrgF s (s.pgN a (k / s.c.cells.toNat)) (k % s.c.cells.toNat) (cellOf b k) (s.layC a b k) (s.layE a k) := prg_f h hg hp2 (k := k % s.c.cells.toNat) (by omega) (cellOf b k)
  obtain ⟨y, f1, f2, f3⟩ := F.pg
  refine ⟨h.setPage _ _ hp2 ((s.pages.getD (s.pgN a (k / s.c.cells.toNat)) []).set (k % s.c.cells.toNat) y) (by rw [List.length_set]) (fun x hx => by
    rcases List.mem_or_eq_of_mem_set hx with h1 | rfl
    · exact h.by8 hp2 x h1
    · exact f2) F.c f1 (by rw [F.er]) (by rw [F.bl]), ?_⟩
  rcases F.e with h1 | h1
  · exact .inl h1
  · exact .inr h1.1
end Go.Proofs.YtcpdanjbnijoiaaDoor


/-! Layer 14, the document's answer: Write. -/
namespace Go.Proofs.YtcpdanjbnijoiaaDoor
open Go.RowKit
set_option linter.unusedVariables false

theorem eraseE_zero {s : RS} (h : s.Ar) (hg : s.gone = false) {q : Nat} (hq : q < s.pages.length) (he : s.eraseE (q : Int) = 0) : (s.erase (q : Int)).gone = false := by
  by_cases hw : s.erases.getD q 0 < s.c.erases
  · have F := era_f h hg hq hw
    rcases F.e with h1 | h1
    · exact h1.2
    · rw [he] at h1; omega
  · have h0 : s.at (q : Int) 0 = 0 := at_of (c := 0) hg hq (by have := h.cells; omega)
    unfold RS.eraseE at he
    rw [if_pos h0, if_pos (by rw [Int.toNat_natCast]; omega)] at he
    omega
theorem ez_blank {a : Int} {M p : Nat} {R : RS × Int} {s0 s' : RS} (h : Ez a M R s0 s' p 0) (hp : p < M) (hb : isBlank (s'.pages.getD (s'.pgN a p) []) = true) : Ez a M R s0 s' (p + 1) 0 := by
  refine ⟨h.ar, h.good, h.c, by have := h.n; omega, rfl, h.g, ?_⟩
  rw [← h.go, show M - p = (M - (p + 1)) + 1 by omega]
  conv => rhs; unfold eraseGo
  rw [if_pos hb]
theorem ez_next {a : Int} (ha : a = 0 ∨ a = 1) {M p : Nat} {R : RS × Int} {s0 s' : RS} (h : Ez a M R s0 s' p 0) (hM : s0.c.area.toNat = M) (hp : p < M) (hb : isBlank (s'.pages.getD (s'.pgN a p) []) = false) (he : s'.eraseE ((s'.pgN a p : Nat) : Int) = 0) : Ez a M R s0 (s'.erase ((s'.pgN a p : Nat) : Int)) (p + 1) 0 := by
  obtain ⟨p1, p2, p3⟩ := h.ar.pg ha (p := p) (by rw [h.c, hM]; exact hp)
  obtain ⟨g1, g2⟩ := h.good.erase ((s'.pgN a p : Nat) : Int)
  refine ⟨h.ar.erase h.g p2, g1, (erase_c _ _).trans h.c, by have := h.n; omega, rfl, eraseE_zero h.ar h.g p2 he, ?_⟩
  rw [← h.go, show M - p = (M - (p + 1)) + 1 by omega]
  conv => rhs; unfold eraseGo
  rw [if_neg (by rw [hb]; decide), if_pos he]
theorem ez_out {a : Int} {M p : Nat} {R : RS × Int} {s0 s' : RS} (h : Ez a M R s0 s' p 0) (hp : p < M) (hb : isBlank (s'.pages.getD (s'.pgN a p) []) = false) (he : ¬ s'.eraseE ((s'.pgN a p : Nat) : Int) = 0) : R = (s'.erase ((s'.pgN a p : Nat) : Int), s'.eraseE ((s'.pgN a p : Nat) : Int)) := by
  rw [← h.go, show M - p = (M - (p + 1)) + 1 by omega]
  conv => lhs; unfold eraseGo
  rw [if_neg (by rw [hb]; decide), if_neg he]
theorem lz_next {a : Int} (ha : a = 0 ∨ a = 1) {b : List By} {K k : Nat} {R : RS × Int} {s0 s' : RS} (h : Lz a b K R s0 s' k) (hK : K ≤ s0.c.area.toNat * s0.c.cells.toNat) (hk : k < K) (he : s'.layE a k = 0) : Lz a b K R s0 (s'.layC a b k) (k + 1) := by
  obtain ⟨l1, l2⟩ := h.ar.lay h.g ha b (k := k) (by rw [h.c]; omega)
  obtain ⟨g1, g2⟩ := h.good.program ((s'.pgN a (k / s'.c.cells.toNat) : Nat) : Int) ((k % s'.c.cells.toNat : Nat) : Int) (cellOf b k)
  have g3 : (s'.layC a b k).Good := g1
  have g4 : (s'.layC a b k).n ≤ s'.n + 1 := g2
  refine ⟨l1, g3, (layC_c _ _ _ _).trans h.c, by have := h.n; omega, ?_, ?_⟩
  · rcases l2 with h1 | h1
    · exact h1.2
    · omega
  · rw [← h.go, show K - k = (K - (k + 1)) + 1 by omega]
    conv => rhs; unfold layGo
    rw [if_pos he]
theorem lz_out {a : Int} {b : List By} {K k : Nat} {R : RS × Int} {s0 s' : RS} (h : Lz a b K R s0 s' k) (hk : k < K) (he : ¬ s'.layE a k = 0) : R = (s'.layC a b k, s'.layE a k) := by
  rw [← h.go, show K - k = (K - (k + 1)) + 1 by omega]
  conv => lhs; unfold layGo
  rw [if_neg he]

end Go.Proofs.YtcpdanjbnijoiaaDoor


/-! The document's HMAC, as the reference computes it. -/
namespace Go.Proofs.YtcpdanjbnijoiaaDoor
open Go.RowKit

theorem row_isb {w : World} {g t : Nat} {l : List By} (h : Row w g t (l.map B8)) : IsB w (some ⟨g, 0, none⟩) l :=
  .inr ⟨g, 0, rfl, fun j v hj => by rw [Nat.zero_add]; exact h.cell j _ (by rw [List.getElem?_map, hj]; rfl)⟩

end Go.Proofs.YtcpdanjbnijoiaaDoor


namespace Go.Proofs.YtcpdanjbnijoiaaDoor
open Go.RowKit

end Go.Proofs.YtcpdanjbnijoiaaDoor
