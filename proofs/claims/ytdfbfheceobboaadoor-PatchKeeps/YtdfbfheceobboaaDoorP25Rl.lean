
import Derived.Test.YtdfbfheceobboaaDoorP25Rk
import Derived.Laws.MakeOwn
/-! The code's patch: Apply. (Printed by tools/genc25.py.) -/
namespace Go.Proofs.YtdfbfheceobboaaDoor
open Go.RowKit
set_option linter.unusedVariables false
set_option linter.unusedSimpArgs false
set_option maxRecDepth 100000

def CApO (w : World) (old p : List By) (e : Ending) (w' : World) : Prop :=
  Below w.heap.size w w' ∧ match applyR old p with
    | .error (k, a) => ∃ v, e = .returned (.tuple #[.slice none 0 0, v]) ∧ ErrV w' k a v
    | .ok m => ∃ ao c, e = .returned (.tuple #[.slice ao m.length c, .nilIface]) ∧ Own w.heap.size w' (.slice ao m.length c) m
theorem wpList_make_cap25 {ops : Array Oper} {rest : List Oper} {o : Oper} {a : Act} {w : World} {Q : Exit → Act → World → Prop} (hgd : o.guard = none) (x y : Operand) (ho : o.op = .makeSlice 22 x y)
    (c : Nat) (hx : a.eval x = .int .i64 0) (hy : a.eval y = .int .i64 (c : Int)) (hc : c ≤ 140737488355328)
    (h : ∀ w', Own w.heap.size w' (.slice (some ⟨w.heap.size, 0, none⟩) 0 c) [] → Below w.heap.size w w' → wpList Tryd.prog ops Q rest (a.put o.dst (.slice (some ⟨w.heap.size, 0, none⟩) 0 c)) w') : wpList Tryd.prog ops Q (o :: rest) a w := by
  refine wpList_plain hgd fun K hK => ?_
  obtain ⟨i0, hi, hz0, hz1, hz2⟩ := info_parts Tryd.info5
  obtain ⟨w', hrun, h2, h3⟩ := run_make_own (P := Tryd.prog) w w.heap.size 22 5 i0 (.int .u8 0) 1 Tryd.underlying22 hi hz0 hz1 .i64 .i64 c (by rw [hz2]; omega) (by unfold maxLen; omega) (Nat.le_refl _)
  unfold Oper.wp
  simp [execOp, ho, hx, hy, hrun, Result.andThen]
  exact hK _ _ (h w' ⟨h2, h3.size⟩ ((Below.refl _ _).grown h3 (Nat.le_refl _) (fun k hk => by cases hk)))
theorem info_rngO {x : PX} {W : World} {G : Nat} (hr : Row W G 47 (infoC x)) (ho : x.old.length = 32) : W.rangeAt G 0 (x.old.map B8) := by
  have := hr.range 0 32
  have e : ((infoC x).drop 0).take 32 = x.old.map B8 := by
    rw [List.drop_zero]
    unfold infoC
    rw [List.append_assoc, List.take_append_of_le_length (by rw [List.length_map, ho]; exact Nat.le_refl _), List.take_of_length_le (by rw [List.length_map, ho]; exact Nat.le_refl _)]
  rwa [e] at this
theorem info_rngN {x : PX} {W : World} {G : Nat} (hr : Row W G 47 (infoC x)) (ho : x.old.length = 32) (hn : x.new.length = 32) : W.rangeAt G 32 (x.new.map B8) := by
  have := hr.range 32 32
  have e : ((infoC x).drop 32).take 32 = x.new.map B8 := by
    unfold infoC
    rw [List.append_assoc, List.drop_append, List.drop_eq_nil_of_le (by rw [List.length_map, ho]; exact Nat.le_refl _), List.nil_append, List.length_map, ho, Nat.sub_self, List.drop_zero, List.take_append_of_le_length (by rw [List.length_map, hn]; exact Nat.le_refl _), List.take_of_length_le (by rw [List.length_map, hn]; exact Nat.le_refl _)]
  rwa [e] at this
theorem tells_take_one {l : List Pt} {i : Nat} {y : Pt} (h : l[i]? = some y) (old : List By) : tells (l.take (i + 1)) old = tells (l.take i) old ++ ptB old y := by
  rw [takeP_one h, tells_app, tells_one]
structure AA4E (W1 : World) (G : Nat) (ao : Option Addr) (n c bf : Nat) (SO OC : List Value) (r : Bool) (L : Nat → Bool) (x22 x23 x24 x25 x26 x27 x28 x29 x30 x31 x32 x33 : Value) (W : World) : Prop where
  x : Below W1.heap.size W1 W
  p0 : L 0 = true → x22 = .slice ao n c
  p1 : L 1 = true → x23 = .int .i64 (n : Int)
  p2 : L 2 = true → x24 = .pointer (some ⟨G, 64, none⟩)
  p3 : L 3 = true → x25 = .int .i64 (bf : Int)
  p4 : L 4 = true → x26 = .bool false
  p5 : L 5 = true → x27 = .bool false
  p6 : L 6 = true → x28 = .slice ao n c
  p7 : L 7 = true → x29 = .agg SO.toArray
  p8 : L 8 = true → x30 = .pointer (some ⟨G, 0, none⟩)
  p9 : L 9 = true → x31 = .agg OC.toArray
  p10 : L 10 = true → x32 = .bool (!r)
  p11 : L 11 = true → x33 = .bool (!r)
section
variable {W1 : World} {G : Nat} {ao : Option Addr} {n c bf : Nat} {SO OC : List Value} {r : Bool} {L : Nat → Bool} {x22 x23 x24 x25 x26 x27 x28 x29 x30 x31 x32 x33 : Value} {W W2 : World}
theorem AA4E.s0 (h : AA4E W1 G ao n c bf SO OC r L x22 x23 x24 x25 x26 x27 x28 x29 x30 x31 x32 x33 W) : AA4E W1 G ao n c bf SO OC r (upd L 0) (.slice ao n c) x23 x24 x25 x26 x27 x28 x29 x30 x31 x32 x33 W :=
  ⟨h.x, fun _ => rfl, h.p1, h.p2, h.p3, h.p4, h.p5, h.p6, h.p7, h.p8, h.p9, h.p10, h.p11⟩
theorem AA4E.s1 (h : AA4E W1 G ao n c bf SO OC r L x22 x23 x24 x25 x26 x27 x28 x29 x30 x31 x32 x33 W) : AA4E W1 G ao n c bf SO OC r (upd L 1) x22 (.int .i64 (n : Int)) x24 x25 x26 x27 x28 x29 x30 x31 x32 x33 W :=
  ⟨h.x, h.p0, fun _ => rfl, h.p2, h.p3, h.p4, h.p5, h.p6, h.p7, h.p8, h.p9, h.p10, h.p11⟩
theorem AA4E.s2 (h : AA4E W1 G ao n c bf SO OC r L x22 x23 x24 x25 x26 x27 x28 x29 x30 x31 x32 x33 W) : AA4E W1 G ao n c bf SO OC r (upd L 2) x22 x23 (.pointer (some ⟨G, 64, none⟩)) x25 x26 x27 x28 x29 x30 x31 x32 x33 W :=
  ⟨h.x, h.p0, h.p1, fun _ => rfl, h.p3, h.p4, h.p5, h.p6, h.p7, h.p8, h.p9, h.p10, h.p11⟩
theorem AA4E.s3 (h : AA4E W1 G ao n c bf SO OC r L x22 x23 x24 x25 x26 x27 x28 x29 x30 x31 x32 x33 W) : AA4E W1 G ao n c bf SO OC r (upd L 3) x22 x23 x24 (.int .i64 (bf : Int)) x26 x27 x28 x29 x30 x31 x32 x33 W :=
  ⟨h.x, h.p0, h.p1, h.p2, fun _ => rfl, h.p4, h.p5, h.p6, h.p7, h.p8, h.p9, h.p10, h.p11⟩
theorem AA4E.s4 (h : AA4E W1 G ao n c bf SO OC r L x22 x23 x24 x25 x26 x27 x28 x29 x30 x31 x32 x33 W) : AA4E W1 G ao n c bf SO OC r (upd L 4) x22 x23 x24 x25 (.bool false) x27 x28 x29 x30 x31 x32 x33 W :=
  ⟨h.x, h.p0, h.p1, h.p2, h.p3, fun _ => rfl, h.p5, h.p6, h.p7, h.p8, h.p9, h.p10, h.p11⟩
theorem AA4E.s5 (h : AA4E W1 G ao n c bf SO OC r L x22 x23 x24 x25 x26 x27 x28 x29 x30 x31 x32 x33 W) : AA4E W1 G ao n c bf SO OC r (upd L 5) x22 x23 x24 x25 x26 (.bool false) x28 x29 x30 x31 x32 x33 W :=
  ⟨h.x, h.p0, h.p1, h.p2, h.p3, h.p4, fun _ => rfl, h.p6, h.p7, h.p8, h.p9, h.p10, h.p11⟩
theorem AA4E.s6 (h : AA4E W1 G ao n c bf SO OC r L x22 x23 x24 x25 x26 x27 x28 x29 x30 x31 x32 x33 W) : AA4E W1 G ao n c bf SO OC r (upd L 6) x22 x23 x24 x25 x26 x27 (.slice ao n c) x29 x30 x31 x32 x33 W :=
  ⟨h.x, h.p0, h.p1, h.p2, h.p3, h.p4, h.p5, fun _ => rfl, h.p7, h.p8, h.p9, h.p10, h.p11⟩
theorem AA4E.s7 (h : AA4E W1 G ao n c bf SO OC r L x22 x23 x24 x25 x26 x27 x28 x29 x30 x31 x32 x33 W) (hX : Below W1.heap.size W1 W2) : AA4E W1 G ao n c bf SO OC r (upd L 7) x22 x23 x24 x25 x26 x27 x28 (.agg SO.toArray) x30 x31 x32 x33 W2 :=
  ⟨hX, h.p0, h.p1, h.p2, h.p3, h.p4, h.p5, h.p6, fun _ => rfl, h.p8, h.p9, h.p10, h.p11⟩
theorem AA4E.s8 (h : AA4E W1 G ao n c bf SO OC r L x22 x23 x24 x25 x26 x27 x28 x29 x30 x31 x32 x33 W) : AA4E W1 G ao n c bf SO OC r (upd L 8) x22 x23 x24 x25 x26 x27 x28 x29 (.pointer (some ⟨G, 0, none⟩)) x31 x32 x33 W :=
  ⟨h.x, h.p0, h.p1, h.p2, h.p3, h.p4, h.p5, h.p6, h.p7, fun _ => rfl, h.p9, h.p10, h.p11⟩
theorem AA4E.s9 (h : AA4E W1 G ao n c bf SO OC r L x22 x23 x24 x25 x26 x27 x28 x29 x30 x31 x32 x33 W) : AA4E W1 G ao n c bf SO OC r (upd L 9) x22 x23 x24 x25 x26 x27 x28 x29 x30 (.agg OC.toArray) x32 x33 W :=
  ⟨h.x, h.p0, h.p1, h.p2, h.p3, h.p4, h.p5, h.p6, h.p7, h.p8, fun _ => rfl, h.p10, h.p11⟩
theorem AA4E.s10 (h : AA4E W1 G ao n c bf SO OC r L x22 x23 x24 x25 x26 x27 x28 x29 x30 x31 x32 x33 W) : AA4E W1 G ao n c bf SO OC r (upd L 10) x22 x23 x24 x25 x26 x27 x28 x29 x30 x31 (.bool (!r)) x33 W :=
  ⟨h.x, h.p0, h.p1, h.p2, h.p3, h.p4, h.p5, h.p6, h.p7, h.p8, h.p9, fun _ => rfl, h.p11⟩
theorem AA4E.s11 (h : AA4E W1 G ao n c bf SO OC r L x22 x23 x24 x25 x26 x27 x28 x29 x30 x31 x32 x33 W) : AA4E W1 G ao n c bf SO OC r (upd L 11) x22 x23 x24 x25 x26 x27 x28 x29 x30 x31 x32 (.bool (!r)) W :=
  ⟨h.x, h.p0, h.p1, h.p2, h.p3, h.p4, h.p5, h.p6, h.p7, h.p8, h.p9, h.p10, fun _ => rfl⟩
end
@[reducible] def IAA4E (W1 : World) (G : Nat) (ao : Option Addr) (n c bf : Nat) (SO OC : List Value) (r : Bool) (y0 y1 y2 y3 y4 y5 y6 y7 y8 y9 y10 y11 y12 y13 y14 y15 y16 y17 y18 y19 y20 y21 y34 y35 y36 y37 y38 y39 y40 y41 y42 y43 y44 y45 y46 y47 y48 y49 y50 y51 y52 y53 y54 y55 y56 y57 y58 y59 : Value) : (Nat → Bool) → Act → World → Prop := fun L a W => ∃ x22 x23 x24 x25 x26 x27 x28 x29 x30 x31 x32 x33, a = ⟨#[y0, y1, y2, y3, y4, y5, y6, y7, y8, y9, y10, y11, y12, y13, y14, y15, y16, y17, y18, y19, y20, y21, x22, x23, x24, x25, x26, x27, x28, x29, x30, x31, x32, x33, y34, y35, y36, y37, y38, y39, y40, y41, y42, y43, y44, y45, y46, y47, y48, y49, y50, y51, y52, y53, y54, y55, y56, y57, y58, y59], []⟩ ∧ AA4E W1 G ao n c bf SO OC r L x22 x23 x24 x25 x26 x27 x28 x29 x30 x31 x32 x33 W
theorem AA4E.step {W1 : World} {G : Nat} {ao : Option Addr} {n c bf : Nat} {SO OC : List Value} {r : Bool} {y0 y1 y2 y3 y4 y5 y6 y7 y8 y9 y10 y11 y12 y13 y14 y15 y16 y17 y18 y19 y20 y21 y34 y35 y36 y37 y38 y39 y40 y41 y42 y43 y44 y45 y46 y47 y48 y49 y50 y51 y52 y53 y54 y55 y56 y57 y58 y59 : Value} {P : Program} {ops : Array Oper} {Q : Exit → Act → World → Prop} {i : Nat} {o : Oper} (hq : ∀ x22 x23 x24 x25 x26 x27 x28 x29 x30 x31 x32 x33 (L : Nat → Bool) (W : World), AA4E W1 G ao n c bf SO OC r L x22 x23 x24 x25 x26 x27 x28 x29 x30 x31 x32 x33 W → L i = false → (∀ j ∈ onesOf o, L j = true) → ∀ K : Act → World → Prop, Shut (∀ a' w', IAA4E W1 G ao n c bf SO OC r y0 y1 y2 y3 y4 y5 y6 y7 y8 y9 y10 y11 y12 y13 y14 y15 y16 y17 y18 y19 y20 y21 y34 y35 y36 y37 y38 y39 y40 y41 y42 y43 y44 y45 y46 y47 y48 y49 y50 y51 y52 y53 y54 y55 y56 y57 y58 y59 (upd L i) a' w' → K a' w') → if Region.wanted o (yielded ops (⟨#[y0, y1, y2, y3, y4, y5, y6, y7, y8, y9, y10, y11, y12, y13, y14, y15, y16, y17, y18, y19, y20, y21, x22, x23, x24, x25, x26, x27, x28, x29, x30, x31, x32, x33, y34, y35, y36, y37, y38, y39, y40, y41, y42, y43, y44, y45, y46, y47, y48, y49, y50, y51, y52, y53, y54, y55, y56, y57, y58, y59], []⟩ : Act).tmps) = true then Oper.wp P o ⟨#[y0, y1, y2, y3, y4, y5, y6, y7, y8, y9, y10, y11, y12, y13, y14, y15, y16, y17, y18, y19, y20, y21, x22, x23, x24, x25, x26, x27, x28, x29, x30, x31, x32, x33, y34, y35, y36, y37, y38, y39, y40, y41, y42, y43, y44, y45, y46, y47, y48, y49, y50, y51, y52, y53, y54, y55, y56, y57, y58, y59], []⟩ W K Q else K ((⟨#[y0, y1, y2, y3, y4, y5, y6, y7, y8, y9, y10, y11, y12, y13, y14, y15, y16, y17, y18, y19, y20, y21, x22, x23, x24, x25, x26, x27, x28, x29, x30, x31, x32, x33, y34, y35, y36, y37, y38, y39, y40, y41, y42, y43, y44, y45, y46, y47, y48, y49, y50, y51, y52, y53, y54, y55, y56, y57, y58, y59], []⟩ : Act).put o.dst undef) W) : StepI P ops (IAA4E W1 G ao n c bf SO OC r y0 y1 y2 y3 y4 y5 y6 y7 y8 y9 y10 y11 y12 y13 y14 y15 y16 y17 y18 y19 y20 y21 y34 y35 y36 y37 y38 y39 y40 y41 y42 y43 y44 y45 y46 y47 y48 y49 y50 y51 y52 y53 y54 y55 y56 y57 y58 y59) Q i o := by
  rintro L a W ⟨x22, x23, x24, x25, x26, x27, x28, x29, x30, x31, x32, x33, rfl, h⟩
  exact hq _ _ _ _ _ _ _ _ _ _ _ _ _ _ h
theorem AA4E.ends {W1 : World} {G : Nat} {ao : Option Addr} {n c bf : Nat} {SO OC : List Value} {r : Bool} {y0 y1 y2 y3 y4 y5 y6 y7 y8 y9 y10 y11 y12 y13 y14 y15 y16 y17 y18 y19 y20 y21 y34 y35 y36 y37 y38 y39 y40 y41 y42 y43 y44 y45 y46 y47 y48 y49 y50 y51 y52 y53 y54 y55 y56 y57 y58 y59 : Value} {mm_ : Nat} {Q : Exit → Act → World → Prop} (hq : ∀ x22 x23 x24 x25 x26 x27 x28 x29 x30 x31 x32 x33 (L : Nat → Bool) (W : World), (∀ j, j < mm_ → L j = true) → AA4E W1 G ao n c bf SO OC r L x22 x23 x24 x25 x26 x27 x28 x29 x30 x31 x32 x33 W → Q .normal ⟨#[y0, y1, y2, y3, y4, y5, y6, y7, y8, y9, y10, y11, y12, y13, y14, y15, y16, y17, y18, y19, y20, y21, x22, x23, x24, x25, x26, x27, x28, x29, x30, x31, x32, x33, y34, y35, y36, y37, y38, y39, y40, y41, y42, y43, y44, y45, y46, y47, y48, y49, y50, y51, y52, y53, y54, y55, y56, y57, y58, y59], []⟩ W) : ∀ L a' w', (∀ j, j < mm_ → L j = true) → IAA4E W1 G ao n c bf SO OC r y0 y1 y2 y3 y4 y5 y6 y7 y8 y9 y10 y11 y12 y13 y14 y15 y16 y17 y18 y19 y20 y21 y34 y35 y36 y37 y38 y39 y40 y41 y42 y43 y44 y45 y46 y47 y48 y49 y50 y51 y52 y53 y54 y55 y56 y57 y58 y59 L a' w' → Q .normal a' w' := by
  rintro L a W hall ⟨x22, x23, x24, x25, x26, x27, x28, x29, x30, x31, x32, x33, rfl, h⟩
  exact hq _ _ _ _ _ _ _ _ _ _ _ _ _ _ hall h
structure AA4L (W1 : World) (G : Nat) (ao : Option Addr) (n c bf : Nat) (SO OC : List Value) (r : Bool) (L : Nat → Bool) (x22 x23 x24 x25 x26 x27 x28 x29 x30 x31 x32 x33 : Value) (W : World) : Prop where
  x : Below W1.heap.size W1 W
  p0 : L 0 = true → x22 = .slice ao n c
  p1 : L 1 = true → x23 = .int .i64 (n : Int)
  p2 : L 2 = true → x24 = .pointer (some ⟨G, 64, none⟩)
  p3 : L 3 = true → x25 = .int .i64 (bf : Int)
  p4 : L 4 = true → x26 = .bool true
  p5 : L 5 = true → x27 = .bool true
  p11 : L 11 = true → x33 = .bool true
section
variable {W1 : World} {G : Nat} {ao : Option Addr} {n c bf : Nat} {SO OC : List Value} {r : Bool} {L : Nat → Bool} {x22 x23 x24 x25 x26 x27 x28 x29 x30 x31 x32 x33 : Value} {W W2 : World}
theorem AA4L.s0 (h : AA4L W1 G ao n c bf SO OC r L x22 x23 x24 x25 x26 x27 x28 x29 x30 x31 x32 x33 W) : AA4L W1 G ao n c bf SO OC r (upd L 0) (.slice ao n c) x23 x24 x25 x26 x27 x28 x29 x30 x31 x32 x33 W :=
  ⟨h.x, fun _ => rfl, h.p1, h.p2, h.p3, h.p4, h.p5, h.p11⟩
theorem AA4L.s1 (h : AA4L W1 G ao n c bf SO OC r L x22 x23 x24 x25 x26 x27 x28 x29 x30 x31 x32 x33 W) : AA4L W1 G ao n c bf SO OC r (upd L 1) x22 (.int .i64 (n : Int)) x24 x25 x26 x27 x28 x29 x30 x31 x32 x33 W :=
  ⟨h.x, h.p0, fun _ => rfl, h.p2, h.p3, h.p4, h.p5, h.p11⟩
theorem AA4L.s2 (h : AA4L W1 G ao n c bf SO OC r L x22 x23 x24 x25 x26 x27 x28 x29 x30 x31 x32 x33 W) : AA4L W1 G ao n c bf SO OC r (upd L 2) x22 x23 (.pointer (some ⟨G, 64, none⟩)) x25 x26 x27 x28 x29 x30 x31 x32 x33 W :=
  ⟨h.x, h.p0, h.p1, fun _ => rfl, h.p3, h.p4, h.p5, h.p11⟩
theorem AA4L.s3 (h : AA4L W1 G ao n c bf SO OC r L x22 x23 x24 x25 x26 x27 x28 x29 x30 x31 x32 x33 W) : AA4L W1 G ao n c bf SO OC r (upd L 3) x22 x23 x24 (.int .i64 (bf : Int)) x26 x27 x28 x29 x30 x31 x32 x33 W :=
  ⟨h.x, h.p0, h.p1, h.p2, fun _ => rfl, h.p4, h.p5, h.p11⟩
theorem AA4L.s4 (h : AA4L W1 G ao n c bf SO OC r L x22 x23 x24 x25 x26 x27 x28 x29 x30 x31 x32 x33 W) : AA4L W1 G ao n c bf SO OC r (upd L 4) x22 x23 x24 x25 (.bool true) x27 x28 x29 x30 x31 x32 x33 W :=
  ⟨h.x, h.p0, h.p1, h.p2, h.p3, fun _ => rfl, h.p5, h.p11⟩
theorem AA4L.s5 (h : AA4L W1 G ao n c bf SO OC r L x22 x23 x24 x25 x26 x27 x28 x29 x30 x31 x32 x33 W) : AA4L W1 G ao n c bf SO OC r (upd L 5) x22 x23 x24 x25 x26 (.bool true) x28 x29 x30 x31 x32 x33 W :=
  ⟨h.x, h.p0, h.p1, h.p2, h.p3, h.p4, fun _ => rfl, h.p11⟩
theorem AA4L.s6 (h : AA4L W1 G ao n c bf SO OC r L x22 x23 x24 x25 x26 x27 x28 x29 x30 x31 x32 x33 W) : AA4L W1 G ao n c bf SO OC r (upd L 6) x22 x23 x24 x25 x26 x27 undef x29 x30 x31 x32 x33 W :=
  ⟨h.x, h.p0, h.p1, h.p2, h.p3, h.p4, h.p5, h.p11⟩
theorem AA4L.s7 (h : AA4L W1 G ao n c bf SO OC r L x22 x23 x24 x25 x26 x27 x28 x29 x30 x31 x32 x33 W) : AA4L W1 G ao n c bf SO OC r (upd L 7) x22 x23 x24 x25 x26 x27 x28 undef x30 x31 x32 x33 W :=
  ⟨h.x, h.p0, h.p1, h.p2, h.p3, h.p4, h.p5, h.p11⟩
theorem AA4L.s8 (h : AA4L W1 G ao n c bf SO OC r L x22 x23 x24 x25 x26 x27 x28 x29 x30 x31 x32 x33 W) : AA4L W1 G ao n c bf SO OC r (upd L 8) x22 x23 x24 x25 x26 x27 x28 x29 undef x31 x32 x33 W :=
  ⟨h.x, h.p0, h.p1, h.p2, h.p3, h.p4, h.p5, h.p11⟩
theorem AA4L.s9 (h : AA4L W1 G ao n c bf SO OC r L x22 x23 x24 x25 x26 x27 x28 x29 x30 x31 x32 x33 W) : AA4L W1 G ao n c bf SO OC r (upd L 9) x22 x23 x24 x25 x26 x27 x28 x29 x30 undef x32 x33 W :=
  ⟨h.x, h.p0, h.p1, h.p2, h.p3, h.p4, h.p5, h.p11⟩
theorem AA4L.s10 (h : AA4L W1 G ao n c bf SO OC r L x22 x23 x24 x25 x26 x27 x28 x29 x30 x31 x32 x33 W) : AA4L W1 G ao n c bf SO OC r (upd L 10) x22 x23 x24 x25 x26 x27 x28 x29 x30 x31 undef x33 W :=
  ⟨h.x, h.p0, h.p1, h.p2, h.p3, h.p4, h.p5, h.p11⟩
theorem AA4L.s11 (h : AA4L W1 G ao n c bf SO OC r L x22 x23 x24 x25 x26 x27 x28 x29 x30 x31 x32 x33 W) : AA4L W1 G ao n c bf SO OC r (upd L 11) x22 x23 x24 x25 x26 x27 x28 x29 x30 x31 x32 (.bool true) W :=
  ⟨h.x, h.p0, h.p1, h.p2, h.p3, h.p4, h.p5, fun _ => rfl⟩
end
@[reducible] def IAA4L (W1 : World) (G : Nat) (ao : Option Addr) (n c bf : Nat) (SO OC : List Value) (r : Bool) (y0 y1 y2 y3 y4 y5 y6 y7 y8 y9 y10 y11 y12 y13 y14 y15 y16 y17 y18 y19 y20 y21 y34 y35 y36 y37 y38 y39 y40 y41 y42 y43 y44 y45 y46 y47 y48 y49 y50 y51 y52 y53 y54 y55 y56 y57 y58 y59 : Value) : (Nat → Bool) → Act → World → Prop := fun L a W => ∃ x22 x23 x24 x25 x26 x27 x28 x29 x30 x31 x32 x33, a = ⟨#[y0, y1, y2, y3, y4, y5, y6, y7, y8, y9, y10, y11, y12, y13, y14, y15, y16, y17, y18, y19, y20, y21, x22, x23, x24, x25, x26, x27, x28, x29, x30, x31, x32, x33, y34, y35, y36, y37, y38, y39, y40, y41, y42, y43, y44, y45, y46, y47, y48, y49, y50, y51, y52, y53, y54, y55, y56, y57, y58, y59], []⟩ ∧ AA4L W1 G ao n c bf SO OC r L x22 x23 x24 x25 x26 x27 x28 x29 x30 x31 x32 x33 W
theorem AA4L.step {W1 : World} {G : Nat} {ao : Option Addr} {n c bf : Nat} {SO OC : List Value} {r : Bool} {y0 y1 y2 y3 y4 y5 y6 y7 y8 y9 y10 y11 y12 y13 y14 y15 y16 y17 y18 y19 y20 y21 y34 y35 y36 y37 y38 y39 y40 y41 y42 y43 y44 y45 y46 y47 y48 y49 y50 y51 y52 y53 y54 y55 y56 y57 y58 y59 : Value} {P : Program} {ops : Array Oper} {Q : Exit → Act → World → Prop} {i : Nat} {o : Oper} (hq : ∀ x22 x23 x24 x25 x26 x27 x28 x29 x30 x31 x32 x33 (L : Nat → Bool) (W : World), AA4L W1 G ao n c bf SO OC r L x22 x23 x24 x25 x26 x27 x28 x29 x30 x31 x32 x33 W → L i = false → (∀ j ∈ onesOf o, L j = true) → ∀ K : Act → World → Prop, Shut (∀ a' w', IAA4L W1 G ao n c bf SO OC r y0 y1 y2 y3 y4 y5 y6 y7 y8 y9 y10 y11 y12 y13 y14 y15 y16 y17 y18 y19 y20 y21 y34 y35 y36 y37 y38 y39 y40 y41 y42 y43 y44 y45 y46 y47 y48 y49 y50 y51 y52 y53 y54 y55 y56 y57 y58 y59 (upd L i) a' w' → K a' w') → if Region.wanted o (yielded ops (⟨#[y0, y1, y2, y3, y4, y5, y6, y7, y8, y9, y10, y11, y12, y13, y14, y15, y16, y17, y18, y19, y20, y21, x22, x23, x24, x25, x26, x27, x28, x29, x30, x31, x32, x33, y34, y35, y36, y37, y38, y39, y40, y41, y42, y43, y44, y45, y46, y47, y48, y49, y50, y51, y52, y53, y54, y55, y56, y57, y58, y59], []⟩ : Act).tmps) = true then Oper.wp P o ⟨#[y0, y1, y2, y3, y4, y5, y6, y7, y8, y9, y10, y11, y12, y13, y14, y15, y16, y17, y18, y19, y20, y21, x22, x23, x24, x25, x26, x27, x28, x29, x30, x31, x32, x33, y34, y35, y36, y37, y38, y39, y40, y41, y42, y43, y44, y45, y46, y47, y48, y49, y50, y51, y52, y53, y54, y55, y56, y57, y58, y59], []⟩ W K Q else K ((⟨#[y0, y1, y2, y3, y4, y5, y6, y7, y8, y9, y10, y11, y12, y13, y14, y15, y16, y17, y18, y19, y20, y21, x22, x23, x24, x25, x26, x27, x28, x29, x30, x31, x32, x33, y34, y35, y36, y37, y38, y39, y40, y41, y42, y43, y44, y45, y46, y47, y48, y49, y50, y51, y52, y53, y54, y55, y56, y57, y58, y59], []⟩ : Act).put o.dst undef) W) : StepI P ops (IAA4L W1 G ao n c bf SO OC r y0 y1 y2 y3 y4 y5 y6 y7 y8 y9 y10 y11 y12 y13 y14 y15 y16 y17 y18 y19 y20 y21 y34 y35 y36 y37 y38 y39 y40 y41 y42 y43 y44 y45 y46 y47 y48 y49 y50 y51 y52 y53 y54 y55 y56 y57 y58 y59) Q i o := by
  rintro L a W ⟨x22, x23, x24, x25, x26, x27, x28, x29, x30, x31, x32, x33, rfl, h⟩
  exact hq _ _ _ _ _ _ _ _ _ _ _ _ _ _ h
theorem AA4L.ends {W1 : World} {G : Nat} {ao : Option Addr} {n c bf : Nat} {SO OC : List Value} {r : Bool} {y0 y1 y2 y3 y4 y5 y6 y7 y8 y9 y10 y11 y12 y13 y14 y15 y16 y17 y18 y19 y20 y21 y34 y35 y36 y37 y38 y39 y40 y41 y42 y43 y44 y45 y46 y47 y48 y49 y50 y51 y52 y53 y54 y55 y56 y57 y58 y59 : Value} {mm_ : Nat} {Q : Exit → Act → World → Prop} (hq : ∀ x22 x23 x24 x25 x26 x27 x28 x29 x30 x31 x32 x33 (L : Nat → Bool) (W : World), (∀ j, j < mm_ → L j = true) → AA4L W1 G ao n c bf SO OC r L x22 x23 x24 x25 x26 x27 x28 x29 x30 x31 x32 x33 W → Q .normal ⟨#[y0, y1, y2, y3, y4, y5, y6, y7, y8, y9, y10, y11, y12, y13, y14, y15, y16, y17, y18, y19, y20, y21, x22, x23, x24, x25, x26, x27, x28, x29, x30, x31, x32, x33, y34, y35, y36, y37, y38, y39, y40, y41, y42, y43, y44, y45, y46, y47, y48, y49, y50, y51, y52, y53, y54, y55, y56, y57, y58, y59], []⟩ W) : ∀ L a' w', (∀ j, j < mm_ → L j = true) → IAA4L W1 G ao n c bf SO OC r y0 y1 y2 y3 y4 y5 y6 y7 y8 y9 y10 y11 y12 y13 y14 y15 y16 y17 y18 y19 y20 y21 y34 y35 y36 y37 y38 y39 y40 y41 y42 y43 y44 y45 y46 y47 y48 y49 y50 y51 y52 y53 y54 y55 y56 y57 y58 y59 L a' w' → Q .normal a' w' := by
  rintro L a W hall ⟨x22, x23, x24, x25, x26, x27, x28, x29, x30, x31, x32, x33, rfl, h⟩
  exact hq _ _ _ _ _ _ _ _ _ _ _ _ _ _ hall h
structure AA12 (W1 : World) (G : Nat) (bo : Option Addr) (m bc : Nat) (SB NC : List Value) (r : Bool) (L : Nat → Bool) (x51 x52 x53 x54 x55 : Value) (W : World) : Prop where
  x : Below W1.heap.size W1 W
  p0 : L 0 = true → x51 = .slice bo m bc
  p1 : L 1 = true → x52 = .agg SB.toArray
  p2 : L 2 = true → x53 = .pointer (some ⟨G, 32, none⟩)
  p3 : L 3 = true → x54 = .agg NC.toArray
  p4 : L 4 = true → x55 = .bool (!r)
section
variable {W1 : World} {G : Nat} {bo : Option Addr} {m bc : Nat} {SB NC : List Value} {r : Bool} {L : Nat → Bool} {x51 x52 x53 x54 x55 : Value} {W W2 : World}
theorem AA12.s0 (h : AA12 W1 G bo m bc SB NC r L x51 x52 x53 x54 x55 W) : AA12 W1 G bo m bc SB NC r (upd L 0) (.slice bo m bc) x52 x53 x54 x55 W :=
  ⟨h.x, fun _ => rfl, h.p1, h.p2, h.p3, h.p4⟩
theorem AA12.s1 (h : AA12 W1 G bo m bc SB NC r L x51 x52 x53 x54 x55 W) (hX : Below W1.heap.size W1 W2) : AA12 W1 G bo m bc SB NC r (upd L 1) x51 (.agg SB.toArray) x53 x54 x55 W2 :=
  ⟨hX, h.p0, fun _ => rfl, h.p2, h.p3, h.p4⟩
theorem AA12.s2 (h : AA12 W1 G bo m bc SB NC r L x51 x52 x53 x54 x55 W) : AA12 W1 G bo m bc SB NC r (upd L 2) x51 x52 (.pointer (some ⟨G, 32, none⟩)) x54 x55 W :=
  ⟨h.x, h.p0, h.p1, fun _ => rfl, h.p3, h.p4⟩
theorem AA12.s3 (h : AA12 W1 G bo m bc SB NC r L x51 x52 x53 x54 x55 W) : AA12 W1 G bo m bc SB NC r (upd L 3) x51 x52 x53 (.agg NC.toArray) x55 W :=
  ⟨h.x, h.p0, h.p1, h.p2, fun _ => rfl, h.p4⟩
theorem AA12.s4 (h : AA12 W1 G bo m bc SB NC r L x51 x52 x53 x54 x55 W) : AA12 W1 G bo m bc SB NC r (upd L 4) x51 x52 x53 x54 (.bool (!r)) W :=
  ⟨h.x, h.p0, h.p1, h.p2, h.p3, fun _ => rfl⟩
end
@[reducible] def IAA12 (W1 : World) (G : Nat) (bo : Option Addr) (m bc : Nat) (SB NC : List Value) (r : Bool) (y0 y1 y2 y3 y4 y5 y6 y7 y8 y9 y10 y11 y12 y13 y14 y15 y16 y17 y18 y19 y20 y21 y22 y23 y24 y25 y26 y27 y28 y29 y30 y31 y32 y33 y34 y35 y36 y37 y38 y39 y40 y41 y42 y43 y44 y45 y46 y47 y48 y49 y50 y56 y57 y58 y59 : Value) : (Nat → Bool) → Act → World → Prop := fun L a W => ∃ x51 x52 x53 x54 x55, a = ⟨#[y0, y1, y2, y3, y4, y5, y6, y7, y8, y9, y10, y11, y12, y13, y14, y15, y16, y17, y18, y19, y20, y21, y22, y23, y24, y25, y26, y27, y28, y29, y30, y31, y32, y33, y34, y35, y36, y37, y38, y39, y40, y41, y42, y43, y44, y45, y46, y47, y48, y49, y50, x51, x52, x53, x54, x55, y56, y57, y58, y59], []⟩ ∧ AA12 W1 G bo m bc SB NC r L x51 x52 x53 x54 x55 W
theorem AA12.step {W1 : World} {G : Nat} {bo : Option Addr} {m bc : Nat} {SB NC : List Value} {r : Bool} {y0 y1 y2 y3 y4 y5 y6 y7 y8 y9 y10 y11 y12 y13 y14 y15 y16 y17 y18 y19 y20 y21 y22 y23 y24 y25 y26 y27 y28 y29 y30 y31 y32 y33 y34 y35 y36 y37 y38 y39 y40 y41 y42 y43 y44 y45 y46 y47 y48 y49 y50 y56 y57 y58 y59 : Value} {P : Program} {ops : Array Oper} {Q : Exit → Act → World → Prop} {i : Nat} {o : Oper} (hq : ∀ x51 x52 x53 x54 x55 (L : Nat → Bool) (W : World), AA12 W1 G bo m bc SB NC r L x51 x52 x53 x54 x55 W → L i = false → (∀ j ∈ onesOf o, L j = true) → ∀ K : Act → World → Prop, Shut (∀ a' w', IAA12 W1 G bo m bc SB NC r y0 y1 y2 y3 y4 y5 y6 y7 y8 y9 y10 y11 y12 y13 y14 y15 y16 y17 y18 y19 y20 y21 y22 y23 y24 y25 y26 y27 y28 y29 y30 y31 y32 y33 y34 y35 y36 y37 y38 y39 y40 y41 y42 y43 y44 y45 y46 y47 y48 y49 y50 y56 y57 y58 y59 (upd L i) a' w' → K a' w') → if Region.wanted o (yielded ops (⟨#[y0, y1, y2, y3, y4, y5, y6, y7, y8, y9, y10, y11, y12, y13, y14, y15, y16, y17, y18, y19, y20, y21, y22, y23, y24, y25, y26, y27, y28, y29, y30, y31, y32, y33, y34, y35, y36, y37, y38, y39, y40, y41, y42, y43, y44, y45, y46, y47, y48, y49, y50, x51, x52, x53, x54, x55, y56, y57, y58, y59], []⟩ : Act).tmps) = true then Oper.wp P o ⟨#[y0, y1, y2, y3, y4, y5, y6, y7, y8, y9, y10, y11, y12, y13, y14, y15, y16, y17, y18, y19, y20, y21, y22, y23, y24, y25, y26, y27, y28, y29, y30, y31, y32, y33, y34, y35, y36, y37, y38, y39, y40, y41, y42, y43, y44, y45, y46, y47, y48, y49, y50, x51, x52, x53, x54, x55, y56, y57, y58, y59], []⟩ W K Q else K ((⟨#[y0, y1, y2, y3, y4, y5, y6, y7, y8, y9, y10, y11, y12, y13, y14, y15, y16, y17, y18, y19, y20, y21, y22, y23, y24, y25, y26, y27, y28, y29, y30, y31, y32, y33, y34, y35, y36, y37, y38, y39, y40, y41, y42, y43, y44, y45, y46, y47, y48, y49, y50, x51, x52, x53, x54, x55, y56, y57, y58, y59], []⟩ : Act).put o.dst undef) W) : StepI P ops (IAA12 W1 G bo m bc SB NC r y0 y1 y2 y3 y4 y5 y6 y7 y8 y9 y10 y11 y12 y13 y14 y15 y16 y17 y18 y19 y20 y21 y22 y23 y24 y25 y26 y27 y28 y29 y30 y31 y32 y33 y34 y35 y36 y37 y38 y39 y40 y41 y42 y43 y44 y45 y46 y47 y48 y49 y50 y56 y57 y58 y59) Q i o := by
  rintro L a W ⟨x51, x52, x53, x54, x55, rfl, h⟩
  exact hq _ _ _ _ _ _ _ h
theorem AA12.ends {W1 : World} {G : Nat} {bo : Option Addr} {m bc : Nat} {SB NC : List Value} {r : Bool} {y0 y1 y2 y3 y4 y5 y6 y7 y8 y9 y10 y11 y12 y13 y14 y15 y16 y17 y18 y19 y20 y21 y22 y23 y24 y25 y26 y27 y28 y29 y30 y31 y32 y33 y34 y35 y36 y37 y38 y39 y40 y41 y42 y43 y44 y45 y46 y47 y48 y49 y50 y56 y57 y58 y59 : Value} {mm_ : Nat} {Q : Exit → Act → World → Prop} (hq : ∀ x51 x52 x53 x54 x55 (L : Nat → Bool) (W : World), (∀ j, j < mm_ → L j = true) → AA12 W1 G bo m bc SB NC r L x51 x52 x53 x54 x55 W → Q .normal ⟨#[y0, y1, y2, y3, y4, y5, y6, y7, y8, y9, y10, y11, y12, y13, y14, y15, y16, y17, y18, y19, y20, y21, y22, y23, y24, y25, y26, y27, y28, y29, y30, y31, y32, y33, y34, y35, y36, y37, y38, y39, y40, y41, y42, y43, y44, y45, y46, y47, y48, y49, y50, x51, x52, x53, x54, x55, y56, y57, y58, y59], []⟩ W) : ∀ L a' w', (∀ j, j < mm_ → L j = true) → IAA12 W1 G bo m bc SB NC r y0 y1 y2 y3 y4 y5 y6 y7 y8 y9 y10 y11 y12 y13 y14 y15 y16 y17 y18 y19 y20 y21 y22 y23 y24 y25 y26 y27 y28 y29 y30 y31 y32 y33 y34 y35 y36 y37 y38 y39 y40 y41 y42 y43 y44 y45 y46 y47 y48 y49 y50 y56 y57 y58 y59 L a' w' → Q .normal a' w' := by
  rintro L a W hall ⟨x51, x52, x53, x54, x55, rfl, h⟩
  exact hq _ _ _ _ _ _ _ hall h
set_option maxHeartbeats 2000000 in
theorem capply_any (w : World) (ao : Option Addr) (n c : Nat) (old : List By) (po : Option Addr) (pn pc : Nat) (p : List By) (h1 : SlB w.heap.size w ao n c old) (h2 : SlB w.heap.size w po pn pc p) (hn : n ≤ 140737488351232) (hpn : pn ≤ 140737488351232) :
    Calls Tryd.prog 6 #[.slice ao n c, .slice po pn pc] w (CApO w old p) := by
  have FT := ctake_any w po pn pc p h2 hpn
  clear h2
  cases hS : readR p with
  | error eb =>
    obtain ⟨ke, be⟩ := eb
    have HX : Hid (applyR old p = .error (ke, be)) := by show _ = _; unfold applyR; rw [hS]
    rw [hS] at FT
    clear hS h1
    go_enter Tryd.func6, Tryd.ntmps6
    go_wp2_with fail
    refine FT.mono ?_
    rintro e w1 ⟨hb1, g1, rfl, hw1⟩
    have R1 : Hid (Row w1 g1 52 [.int .i64 (ke : Int), .int .i64 (be : Int)] ∧ Below w.heap.size w w1) := ⟨hw1, hb1⟩
    have HZ : Hid (Row (w1.alloc (.cells zInf.toArray 47)) w1.heap.size 47 zInf) := Row.at w1 _ _ _ _ rfl rfl
    clear hb1 hw1 FT
    dsimp only
    go_wp2_with (first
      | (have hz := HZ; clear hz; refine wpList_store_Row rfl 47 (.tmp 6) (.tmp 15) rfl w1.heap.size 47 0 zInf zInf HZ.out (Nat.le_refl _) rfl rfl (by kernel_rfl) zInf_one ?_; intro w4 hr4 hs4; have H4 : Hid (CApO w old p (.returned (.tuple #[.slice none 0 0, .iface 48 (.pointer (some ⟨g1, 0, none⟩))])) w4) := (by
          have k2 := R1.out.1.lt
          unfold CApO
          rw [HX.out]
          exact ⟨hs4.below (R1.out.2.alloc R1.out.2.size _) R1.out.2.size, _, rfl, g1, rfl, (R1.out.1.alloc _).but hs4 (by omega)⟩); clear HZ R1 hr4 hs4))
    go_ret2
    exact H4.out
  | ok x =>
    have hok := readR_ok hS
    obtain ⟨hyR, hsum⟩ := readR_right hS
    rw [hS] at FT
    have L0 : Hid ((infoC x).length = 68) := infoC_lenk hok
    have O0 : Hid (∀ v ∈ infoC x, v.oneCell' = true) := infoC_onek x
    have HAPC : Hid (applyR old p = if n ≠ x.before ∨ sha old ≠ x.old then .error (11, 5) else if sha (tells x.l old) ≠ x.new then .error (19, 37) else .ok (tells x.l old)) := by
      show _ = _
      unfold applyR
      rw [hS, h1.len]
    have HOK : Hid (PXok x ∧ (∀ y ∈ x.l, PtR x.before y) ∧ sumN x.l = x.after) := ⟨hok, hyR, hsum⟩
    have H1 : Hid (∀ W, Below w.heap.size w W → SlB w.heap.size W ao n c old) := fun W h => h1.keep h
    clear hS hyR hsum h1
    go_enter Tryd.func6, Tryd.ntmps6
    go_wp2_with fail
    refine FT.mono ?_
    rintro e w1 ⟨hb1, lo, lc, rfl, hp1⟩
    have R1 : Hid (Below w.heap.size w w1 ∧ PaR w.heap.size w1 x.l lo lc) := ⟨hb1, hp1⟩
    have HZ : Hid (Row (w1.alloc (.cells zInf.toArray 47)) w1.heap.size 47 zInf) := Row.at w1 _ _ _ _ rfl rfl
    clear hb1 hp1 FT
    dsimp only
    go_upto_region 4 with (first
      | (have hz := HZ; clear hz; refine wpList_store_Row rfl 47 (.tmp 6) (.tmp 15) rfl w1.heap.size 47 0 zInf (infoC x) HZ.out (by rw [L0.out]; exact Nat.le_refl _) rfl rfl (by rw [L0.out]; kernel_rfl) O0.out ?_; intro w4 hr4 hs4; have R4 : Hid (Row w4 w1.heap.size 47 (infoC x) ∧ Below w.heap.size w w4 ∧ PaR w.heap.size w4 x.l lo lc) := (by
          have hb : Below w1.heap.size w1 w4 := hs4.below ((Below.refl _ _).alloc (Nat.le_refl _) _) (Nat.le_refl _)
          exact ⟨row_whole hr4 (by rw [L0.out]; exact Nat.le_refl _), R1.out.1.trans (hb.mono R1.out.1.size), R1.out.2.keep hb⟩); clear HZ R1 hr4 hs4))
    try dsimp only [Act.put]
    generalize w1.heap.size = G at *
    have RI : Hid (∀ W, Below w4.heap.size w4 W → Row W G 47 (infoC x)) := fun W hW => R4.out.1.below hW R4.out.1.lt
    have RB : Hid (∀ W, Below w4.heap.size w4 W → Below w.heap.size w W) := fun W hW => R4.out.2.1.trans (hW.mono R4.out.2.1.size)
    have RP : Hid (∀ W, Below w4.heap.size w4 W → PaR w.heap.size W x.l lo lc) := fun W hW => R4.out.2.2.keep hW
    obtain ⟨i64', i65', _, _⟩ := infC_num hok.lo hok.ln x.before x.after x.l.length (laidN x.l)
    have CB : Hid (∀ W, Below w4.heap.size w4 W → W.cell? ⟨G, 64, none⟩ = some (.int .i64 (x.before : Int)) ∧ W.cell? ⟨G, 65, none⟩ = some (.int .i64 (x.after : Int))) := fun W hW => ⟨(RI.out W hW).cell 64 _ i64', (RI.out W hW).cell 65 _ i65'⟩
    have RO : Hid (∀ W, Below w4.heap.size w4 W → W.rangeAt G 0 (x.old.map B8)) := fun W hW => info_rngO (RI.out W hW) HOK.out.1.lo
    have RN : Hid (∀ W, Below w4.heap.size w4 W → W.rangeAt G 32 (x.new.map B8)) := fun W hW => info_rngN (RI.out W hW) HOK.out.1.lo HOK.out.1.ln
    have OFO : Hid (∀ W, Below w4.heap.size w4 W → Calls Tryd.prog 14 #[.slice ao n c] W fun e w' => e = .returned (.agg ((sha old).map B8).toArray) ∧ Below W.heap.size W w') := fun W hW => by
      have h := H1.out W (RB.out W hW)
      have := of_any ao c old W h.isb (by rw [h.len]; exact h.cap) (by rw [h.len]; omega)
      rwa [h.len] at this
    have lo32 : (x.old.map B8).length = 32 := by rw [List.length_map, hok.lo]
    have ln32 : (x.new.map B8).length = 32 := by rw [List.length_map, hok.ln]
    clear R4 i64' i65'
    by_cases hbf : n = x.before
    · obtain ⟨r, hr⟩ : ∃ r, r = decide (sha old = x.old) := ⟨_, rfl⟩
      have qe := eq_any (sha old) x.old (sha_len _) hok.lo r hr
      have HRR : Hid (r = decide (sha old = x.old)) := hr
      have CB2 : Hid (∀ W, Below w4.heap.size w4 W → W.cell? ⟨G, 64, none⟩ = some (.int .i64 (n : Int)) ∧ W.cell? ⟨G, 65, none⟩ = some (.int .i64 (x.after : Int))) := by
        have := CB.out
        rw [← hbf] at this
        exact this
      have HBF : Hid (n = x.before) := hbf
      have hxa := hok.aft
      have hxb := hok.bef
      clear hr hbf hok CB
      have QO : Hid (∀ W, Below w4.heap.size w4 W → W.rangeAt G 0 (x.old.map B8)) := RO.out
      generalize hSO : (sha old).map B8 = SO at *
      clear hSO
      generalize hOC : x.old.map B8 = OC at *
      clear hOC RO
      refine wp_region_inv (IAA4E w4 G ao n c n SO OC r _ _ _ _ _ _ _ _ _ _ _ _ _ _ _ _ _ _ _ _ _ _ _ _ _ _ _ _ _ _ _ _ _ _ _ _ _ _ _ _ _ _ _ _ _ _ _ _) (by kernel_rfl) (by kernel_rfl) ⟨_, _, _, _, _, _, _, _, _, _, _, _, rfl, ⟨(Below.refl _ _).drew, fun k => (by cases k), fun k => (by cases k), fun k => (by cases k), fun k => (by cases k), fun k => (by cases k), fun k => (by cases k), fun k => (by cases k), fun k => (by cases k), fun k => (by cases k), fun k => (by cases k), fun k => (by cases k), fun k => (by cases k)⟩⟩ ?_ ?_
      · refine .cons ?_ (.cons ?_ (.cons ?_ (.cons ?_ (.cons ?_ (.cons ?_ (.cons ?_ (.cons ?_ (.cons ?_ (.cons ?_ (.cons ?_ (.cons ?_ .nil)))))))))))
        all_goals (refine AA4E.step ?_; intro x22 x23 x24 x25 x26 x27 x28 x29 x30 x31 x32 x33 L W hI hL hd K hK)
        · rw [if_pos (by rfl)]
          go_simp
          exact hK.out _ _ ⟨_, _, _, _, _, _, _, _, _, _, _, _, rfl, hI.s0⟩
        · have hx0 := hI.p0 (hd 0 (by decide))
          subst hx0
          rw [if_pos (by rfl)]
          go_simp
          exact hK.out _ _ ⟨_, _, _, _, _, _, _, _, _, _, _, _, rfl, hI.s1⟩
        · rw [if_pos (by rfl)]
          go_simp
          exact hK.out _ _ ⟨_, _, _, _, _, _, _, _, _, _, _, _, rfl, hI.s2⟩
        · have hx2 := hI.p2 (hd 2 (by decide))
          subst hx2
          rw [if_pos (by rfl)]
          have hc := (CB2.out _ hI.x).1
          go_simp
          exact hK.out _ _ ⟨_, _, _, _, _, _, _, _, _, _, _, _, rfl, hI.s3⟩
        · have hx1 := hI.p1 (hd 1 (by decide))
          subst hx1
          have hx3 := hI.p3 (hd 3 (by decide))
          subst hx3
          rw [if_pos (by rfl)]
          go_simp
          exact hK.out _ _ ⟨_, _, _, _, _, _, _, _, _, _, _, _, rfl, hI.s4⟩
        · have hx4 := hI.p4 (hd 4 (by decide))
          subst hx4
          rw [if_pos (by rfl)]
          go_simp
          exact hK.out _ _ ⟨_, _, _, _, _, _, _, _, _, _, _, _, rfl, hI.s5⟩
        · have hx5 := hI.p5 (hd 5 (by decide))
          subst hx5
          rw [if_pos (by rfl)]
          go_simp
          exact hK.out _ _ ⟨_, _, _, _, _, _, _, _, _, _, _, _, rfl, hI.s6⟩
        · have hx6 := hI.p6 (hd 6 (by decide))
          subst hx6
          have hx5 := hI.p5 (hd 5 (by decide))
          subst hx5
          rw [if_pos (by rfl)]
          go_simp
          refine (OFO.out _ hI.x).mono ?_
          rintro e W2 ⟨rfl, b2⟩
          go_simp
          have hX := hI.x.trans (b2.mono hI.x.size)
          exact hK.out _ _ ⟨_, _, _, _, _, _, _, _, _, _, _, _, rfl, hI.s7 hX⟩
        · have hx5 := hI.p5 (hd 5 (by decide))
          subst hx5
          rw [if_pos (by rfl)]
          go_simp
          exact hK.out _ _ ⟨_, _, _, _, _, _, _, _, _, _, _, _, rfl, hI.s8⟩
        · have hx8 := hI.p8 (hd 8 (by decide))
          subst hx8
          have hx5 := hI.p5 (hd 5 (by decide))
          subst hx5
          refine step_load_rng25 rfl 44 _ rfl G 0 OC (QO.out _ hI.x) rfl _ Tryd.underlying44 rfl (by rw [lo32]; kernel_rfl) ?_
          exact hK.out _ _ ⟨_, _, _, _, _, _, _, _, _, _, _, _, rfl, hI.s9⟩
        · have hx7 := hI.p7 (hd 7 (by decide))
          subst hx7
          have hx9 := hI.p9 (hd 9 (by decide))
          subst hx9
          have hx5 := hI.p5 (hd 5 (by decide))
          subst hx5
          rw [if_pos (by rfl)]
          go_simp
          exact hK.out _ _ ⟨_, _, _, _, _, _, _, _, _, _, _, _, rfl, hI.s10⟩
        · have hx5 := hI.p5 (hd 5 (by decide))
          subst hx5
          have hx10 := hI.p10 (hd 10 (by decide))
          subst hx10
          rw [if_pos (by rfl)]
          go_simp
          exact hK.out _ _ ⟨_, _, _, _, _, _, _, _, _, _, _, _, rfl, hI.s11⟩
      · refine AA4E.ends ?_; intro x22 x23 x24 x25 x26 x27 x28 x29 x30 x31 x32 x33 L W hall hI
        have hx0 := hI.p0 (hall 0 (by decide))
        subst hx0
        have hx1 := hI.p1 (hall 1 (by decide))
        subst hx1
        have hx2 := hI.p2 (hall 2 (by decide))
        subst hx2
        have hx3 := hI.p3 (hall 3 (by decide))
        subst hx3
        have hx4 := hI.p4 (hall 4 (by decide))
        subst hx4
        have hx5 := hI.p5 (hall 5 (by decide))
        subst hx5
        have hx6 := hI.p6 (hall 6 (by decide))
        subst hx6
        have hx7 := hI.p7 (hall 7 (by decide))
        subst hx7
        have hx8 := hI.p8 (hall 8 (by decide))
        subst hx8
        have hx9 := hI.p9 (hall 9 (by decide))
        subst hx9
        have hx10 := hI.p10 (hall 10 (by decide))
        subst hx10
        have hx11 := hI.p11 (hall 11 (by decide))
        subst hx11
        have hXe := hI.x
        clear hI hall
        try dsimp only
        have HBX : Hid (Below w4.heap.size w4 W) := hXe
        clear hXe qe QO OFO
        cases r with
        | false =>
          have HAP : Hid (applyR old p = .error (11, 5)) := by show _ = _; rw [HAPC.out, if_pos (.inr (of_decide_eq_false HRR.out.symm))]
          have hbW := RB.out _ HBX.out
          have HEB : Hid (∀ X, X = W.alloc (.cells #[.int .i64 11, .int .i64 5] 52) → CApO w old p (.returned (.tuple #[.slice none 0 0, .iface 48 (.pointer (some ⟨W.heap.size, 0, none⟩))])) X) := fun X e => by
            subst e
            unfold CApO
            rw [HAP.out]
            exact ⟨hbW.alloc hbW.size _, _, rfl, _, rfl, Row.at W _ _ _ _ rfl rfl⟩
          clear hbW
          go_wp2
          go_ret2
          exact HEB.out _ rfl
        | true =>
          have HAP1 : Hid (applyR old p = if sha (tells x.l old) ≠ x.new then .error (19, 37) else .ok (tells x.l old)) := by show _ = _; rw [HAPC.out, if_neg (fun h => h.elim (fun h => h HBF.out) (fun h => h (of_decide_eq_true HRR.out.symm)))]
          have c65 := (CB2.out _ HBX.out).2
          clear HAPC HRR
          generalize W = wM at *
          go_wp2_with (first
            | (have hz := c65; clear hz; refine wpList_make_cap25 rfl _ (.tmp 38) rfl x.after rfl rfl (by omega) ?_; intro w6 ho6 hb6; have H6 : Hid (Own wM.heap.size w6 (.slice (some ⟨wM.heap.size, 0, none⟩) 0 x.after) [] ∧ Below wM.heap.size wM w6) := ⟨ho6, hb6⟩; clear ho6 hb6 c65))
          have HBM : Hid (∀ W, Below wM.heap.size wM W → Below w4.heap.size w4 W) := fun W h => HBX.out.trans (h.mono HBX.out.size)
          go_loopw [9, 42] (fun sv iv wr => ∃ (i : Nat) (bo : Option Addr) (bc : Nat), i ≤ x.l.length ∧ sv = .slice bo (sumN (x.l.take i)) bc ∧ iv = .int .i64 (i : Int) ∧ Hid (Own wM.heap.size wr (.slice bo (sumN (x.l.take i)) bc) (tells (x.l.take i) old) ∧ Below wM.heap.size wM wr)) (fun _ iv _ => x.l.length - (intOf iv).toNat)
          case atStart => exact ⟨0, some ⟨wM.heap.size, 0, none⟩, x.after, by omega, rfl, rfl, H6.out⟩
          case round =>
            obtain ⟨i, bo, bc, hi, rfl, rfl, HI⟩ := hrel
            clear H6
            by_cases hlt : i < x.l.length
            · have x0 : (0 : Int) ≤ (i : Int) := by omega
              have x1 : (i : Int) < (x.l.length : Int) := by omega
              have hll : x.l.length ≤ sumN x.l := len_le_sum fun y hy => (HOK.out.2.1 y hy).pos
              have hsm := HOK.out.2.2
              have z1 : IntKind.i64.wrap ((i : Int) + 1) = (i : Int) + 1 := i64_in _ (by omega) (by omega)
              obtain ⟨y, hy⟩ : ∃ y, x.l[i]? = some y := ⟨_, List.getElem?_eq_getElem hlt⟩
              have hyr := HOK.out.2.1 y (List.mem_of_getElem? hy)
              obtain ⟨B, v, e, hc, hv⟩ := (RP.out _ (HBM.out _ HI.out.2)).at hy
              have hT := tells_take_one hy old
              have hT2 := sumN_take_succ hy
              have hT3 := sumN_take_le x.l (i + 1)
              have hpos := hyr.pos
              rcases hv.eq with ⟨hlay, rfl⟩ | ⟨hlay, B2, off2, c2, rfl, hb1, hb2, hb3, hb4⟩
              · have hcp := (hyr.cpy hlay).2
                have hbn := HBF.out
                have S := H1.out _ (RB.out _ (HBM.out _ HI.out.2))
                obtain ⟨B3, off3, e3⟩ : ∃ B3 off3, ao = some ⟨B3, off3, none⟩ := by
                  rcases S.isb with h | ⟨B3, off3, e3, _⟩
                  · have := S.len; rw [h] at this; simp at this; omega
                  · exact ⟨B3, off3, e3⟩
                subst e3
                have FP : Hid (Calls Tryd.prog 93 #[.agg #[.int .i64 (y.frm : Int), .int .i64 (y.n : Int)], .slice bo (sumN (x.l.take i)) bc, .slice (some ⟨B3, off3, none⟩) n c] wr (PutP wM.heap.size bo wr (sumN (x.l.take (i + 1))) (tells (x.l.take (i + 1)) old))) := by
                  have h := stell_any wM.heap.size y.frm y.n bo (sumN (x.l.take i)) bc (tells (x.l.take i) old) B3 off3 n c old wr HI.out.1 S.len S.cap S.isb hpos (by omega) (by omega) (by omega)
                  rw [hT2, hT]
                  have e4 : ptB old y = (old.drop y.frm).take y.n := by unfold ptB; rw [if_neg (by rw [hlay]; decide)]
                  rw [e4]; exact h
                have M1 := mTell_s
                clear hT hT2 hT3 hy hv hyr hcp hbn S hlay hll hsm hpos
                subst e
                go_wp2_with (go_at_call 93; refine FP.out.mono ?_; rintro e w2 ⟨bo2, bc2, rfl, ho2, hg2⟩; have H2 : Hid (Own wM.heap.size w2 (.slice bo2 (sumN (x.l.take (i + 1))) bc2) (tells (x.l.take (i + 1)) old) ∧ Below wM.heap.size wM w2) := ⟨ho2, HI.out.2.trans hg2.bel⟩; clear FP ho2 hg2)
                exact ⟨⟨i + 1, bo2, bc2, by omega, rfl, by go_num, H2⟩, by simp [intOf]; omega⟩
              · have FP : Hid (Calls Tryd.prog 89 #[.agg #[.slice (some ⟨B2, off2, none⟩) y.n c2], .slice bo (sumN (x.l.take i)) bc, .slice ao n c] wr (PutP wM.heap.size bo wr (sumN (x.l.take (i + 1))) (tells (x.l.take (i + 1)) old))) := by
                  have h := ltell_any wM.heap.size B2 off2 y.n c2 y.b bo (sumN (x.l.take i)) bc (tells (x.l.take i) old) (.slice ao n c) wr HI.out.1 hb2 hb1 hpos (by omega) (by omega)
                  rw [hT2, hT]
                  have e4 : ptB old y = y.b := by unfold ptB; rw [if_pos hlay]
                  rw [e4]; exact h
                have M1 := mTell_l
                clear hT hT2 hT3 hy hv hyr hlay hll hsm hpos hb1 hb2 hb3 hb4
                subst e
                go_wp2_with (go_at_call 89; refine FP.out.mono ?_; rintro e w2 ⟨bo2, bc2, rfl, ho2, hg2⟩; have H2 : Hid (Own wM.heap.size w2 (.slice bo2 (sumN (x.l.take (i + 1))) bc2) (tells (x.l.take (i + 1)) old) ∧ Below wM.heap.size wM w2) := ⟨ho2, HI.out.2.trans hg2.bel⟩; clear FP ho2 hg2)
                exact ⟨⟨i + 1, bo2, bc2, by omega, rfl, by go_num, H2⟩, by simp [intOf]; omega⟩
            · have ei : i = x.l.length := by omega
              have x1 : decide ((i : Int) < (x.l.length : Int)) = false := by rw [decide_eq_false_iff_not]; omega
              have x2 : ¬ (i : Int) < (x.l.length : Int) := by omega
              have et : x.l.take i = x.l := List.take_of_length_le (by omega)
              rw [et] at HI ⊢
              have hsm := HOK.out.2.2
              have OW : Hid (∀ W, Below wr.heap.size wr W → Own w.heap.size W (.slice bo (sumN x.l) bc) (tells x.l old)) := fun W hW => own_le (HI.out.1.keep hW) (Nat.le_trans (RB.out wM HBX.out).size (Nat.le_refl _))
              have hb4r : Below w4.heap.size w4 wr := HBM.out _ HI.out.2
              have RBr : Hid (∀ W, Below wr.heap.size wr W → Below w.heap.size w W) := fun W hW => RB.out W (hb4r.trans (hW.mono hb4r.size))
              have QN : Hid (∀ W, Below wr.heap.size wr W → W.rangeAt G 32 (x.new.map B8)) := fun W hW => RN.out W (hb4r.trans (hW.mono hb4r.size))
              have TLEN : Hid ((tells x.l old).length = sumN x.l) := (own_isb (OW.out wr (Below.refl _ _))).1
              have OFB : Hid (∀ W, Below wr.heap.size wr W → Calls Tryd.prog 14 #[.slice bo (sumN x.l) bc] W fun e w' => e = .returned (.agg ((sha (tells x.l old)).map B8).toArray) ∧ Below W.heap.size W w') := fun W hW => by
                have h := OW.out W hW
                have := of_any bo bc (tells x.l old) W (own_IsB h) (by rw [TLEN.out]; exact own_cap h) (by rw [TLEN.out]; omega)
                rwa [TLEN.out] at this
              obtain ⟨r, hr⟩ : ∃ r, r = decide (sha (tells x.l old) = x.new) := ⟨_, rfl⟩
              have qe := eq_any (sha (tells x.l old)) x.new (sha_len _) HOK.out.1.ln r hr
              have HRR : Hid (r = decide (sha (tells x.l old) = x.new)) := hr
              clear hr hb4r HI et ei hsm RN RP RI CB2 HBM HBX RB
              go_upto_region 12 with fail
              try dsimp only [Act.put]
              generalize hSB : (sha (tells x.l old)).map B8 = SB at *
              clear hSB
              generalize hNC : x.new.map B8 = NC at *
              clear hNC
              generalize sumN x.l = ml at *
              generalize wr = w7 at *
              refine wp_region_inv (IAA12 w7 G bo ml bc SB NC r _ _ _ _ _ _ _ _ _ _ _ _ _ _ _ _ _ _ _ _ _ _ _ _ _ _ _ _ _ _ _ _ _ _ _ _ _ _ _ _ _ _ _ _ _ _ _ _ _ _ _ _ _ _ _) (by kernel_rfl) (by kernel_rfl) ⟨_, _, _, _, _, rfl, ⟨(Below.refl _ _).drew, fun k => (by cases k), fun k => (by cases k), fun k => (by cases k), fun k => (by cases k), fun k => (by cases k)⟩⟩ ?_ ?_
              · refine .cons ?_ (.cons ?_ (.cons ?_ (.cons ?_ (.cons ?_ .nil))))
                all_goals (refine AA12.step ?_; intro x51 x52 x53 x54 x55 L W hI hL hd K hK)
                · rw [if_pos (by rfl)]
                  go_simp
                  exact hK.out _ _ ⟨_, _, _, _, _, rfl, hI.s0⟩
                · have hx0 := hI.p0 (hd 0 (by decide))
                  subst hx0
                  rw [if_pos (by rfl)]
                  go_simp
                  refine (OFB.out _ hI.x).mono ?_
                  rintro e W2 ⟨rfl, b2⟩
                  go_simp
                  have hX := hI.x.trans (b2.mono hI.x.size)
                  exact hK.out _ _ ⟨_, _, _, _, _, rfl, hI.s1 hX⟩
                · rw [if_pos (by rfl)]
                  go_simp
                  exact hK.out _ _ ⟨_, _, _, _, _, rfl, hI.s2⟩
                · have hx2 := hI.p2 (hd 2 (by decide))
                  subst hx2
                  refine step_load_rng25 rfl 44 _ rfl G 32 NC (QN.out _ hI.x) rfl _ Tryd.underlying44 rfl (by rw [ln32]; kernel_rfl) ?_
                  exact hK.out _ _ ⟨_, _, _, _, _, rfl, hI.s3⟩
                · have hx1 := hI.p1 (hd 1 (by decide))
                  subst hx1
                  have hx3 := hI.p3 (hd 3 (by decide))
                  subst hx3
                  rw [if_pos (by rfl)]
                  go_simp
                  exact hK.out _ _ ⟨_, _, _, _, _, rfl, hI.s4⟩
              · refine AA12.ends ?_; intro x51 x52 x53 x54 x55 L W hall hI
                have hx0 := hI.p0 (hall 0 (by decide))
                subst hx0
                have hx1 := hI.p1 (hall 1 (by decide))
                subst hx1
                have hx2 := hI.p2 (hall 2 (by decide))
                subst hx2
                have hx3 := hI.p3 (hall 3 (by decide))
                subst hx3
                have hx4 := hI.p4 (hall 4 (by decide))
                subst hx4
                have hXe := hI.x
                clear hI hall
                try dsimp only
                have hbW := RBr.out _ hXe
                have hoW := OW.out _ hXe
                clear hXe qe OFB QN
                cases r with
                | false =>
                  have HAP : Hid (applyR old p = .error (19, 37)) := by show _ = _; rw [HAP1.out, if_pos (of_decide_eq_false HRR.out.symm)]
                  have HEB : Hid (∀ X, X = W.alloc (.cells #[.int .i64 19, .int .i64 37] 52) → CApO w old p (.returned (.tuple #[.slice none 0 0, .iface 48 (.pointer (some ⟨W.heap.size, 0, none⟩))])) X) := fun X e => by
                    subst e
                    unfold CApO
                    rw [HAP.out]
                    exact ⟨hbW.alloc hbW.size _, _, rfl, _, rfl, Row.at W _ _ _ _ rfl rfl⟩
                  clear hbW hoW
                  go_wp2
                  go_ret2
                  exact HEB.out _ rfl
                | true =>
                  have HAP : Hid (applyR old p = .ok (tells x.l old)) := by show _ = _; rw [HAP1.out, if_neg (fun h => h (of_decide_eq_true HRR.out.symm))]
                  have HF : Hid (CApO w old p (.returned (.tuple #[.slice bo ml bc, .nilIface])) W) := by
                    show CApO _ _ _ _ _
                    unfold CApO
                    rw [HAP.out]
                    refine ⟨hbW, bo, bc, ?_, ?_⟩
                    · rw [TLEN.out]
                    · rw [TLEN.out]; exact hoW
                  clear hbW hoW
                  go_wp2
                  go_ret2
                  exact HF.out
    · have HAP : Hid (applyR old p = .error (11, 5)) := by show _ = _; rw [HAPC.out, if_pos (.inl hbf)]
      have kb : ((n : Int) == (x.before : Int)) = false := by rw [beq_eq_false_iff_ne]; omega
      have kb2 : ((n : Int) != (x.before : Int)) = true := by rw [bne_iff_ne]; omega
      have CB2 : Hid (∀ W, Below w4.heap.size w4 W → W.cell? ⟨G, 64, none⟩ = some (.int .i64 (x.before : Int)) ∧ W.cell? ⟨G, 65, none⟩ = some (.int .i64 (x.after : Int))) := CB.out
      generalize hbfv : x.before = bf at *
      clear hbfv hok HOK HAPC RO RN OFO
      refine wp_region_inv (IAA4L w4 G ao n c bf [] [] false _ _ _ _ _ _ _ _ _ _ _ _ _ _ _ _ _ _ _ _ _ _ _ _ _ _ _ _ _ _ _ _ _ _ _ _ _ _ _ _ _ _ _ _ _ _ _ _) (by kernel_rfl) (by kernel_rfl) ⟨_, _, _, _, _, _, _, _, _, _, _, _, rfl, ⟨(Below.refl _ _).drew, fun k => (by cases k), fun k => (by cases k), fun k => (by cases k), fun k => (by cases k), fun k => (by cases k), fun k => (by cases k), fun k => (by cases k)⟩⟩ ?_ ?_
      · refine .cons ?_ (.cons ?_ (.cons ?_ (.cons ?_ (.cons ?_ (.cons ?_ (.cons ?_ (.cons ?_ (.cons ?_ (.cons ?_ (.cons ?_ (.cons ?_ .nil)))))))))))
        all_goals (refine AA4L.step ?_; intro x22 x23 x24 x25 x26 x27 x28 x29 x30 x31 x32 x33 L W hI hL hd K hK)
        · rw [if_pos (by rfl)]
          go_simp
          exact hK.out _ _ ⟨_, _, _, _, _, _, _, _, _, _, _, _, rfl, hI.s0⟩
        · have hx0 := hI.p0 (hd 0 (by decide))
          subst hx0
          rw [if_pos (by rfl)]
          go_simp
          exact hK.out _ _ ⟨_, _, _, _, _, _, _, _, _, _, _, _, rfl, hI.s1⟩
        · rw [if_pos (by rfl)]
          go_simp
          exact hK.out _ _ ⟨_, _, _, _, _, _, _, _, _, _, _, _, rfl, hI.s2⟩
        · have hx2 := hI.p2 (hd 2 (by decide))
          subst hx2
          rw [if_pos (by rfl)]
          have hc := (CB2.out _ hI.x).1
          go_simp
          exact hK.out _ _ ⟨_, _, _, _, _, _, _, _, _, _, _, _, rfl, hI.s3⟩
        · have hx1 := hI.p1 (hd 1 (by decide))
          subst hx1
          have hx3 := hI.p3 (hd 3 (by decide))
          subst hx3
          rw [if_pos (by rfl)]
          go_simp
          exact hK.out _ _ ⟨_, _, _, _, _, _, _, _, _, _, _, _, rfl, hI.s4⟩
        · have hx4 := hI.p4 (hd 4 (by decide))
          subst hx4
          rw [if_pos (by rfl)]
          go_simp
          exact hK.out _ _ ⟨_, _, _, _, _, _, _, _, _, _, _, _, rfl, hI.s5⟩
        · have hx5 := hI.p5 (hd 5 (by decide))
          subst hx5
          rw [if_neg (by first | decide | exact Bool.false_ne_true)]
          exact hK.out _ _ ⟨_, _, _, _, _, _, _, _, _, _, _, _, rfl, hI.s6⟩
        · have hx5 := hI.p5 (hd 5 (by decide))
          subst hx5
          rw [if_neg (by first | decide | exact Bool.false_ne_true)]
          exact hK.out _ _ ⟨_, _, _, _, _, _, _, _, _, _, _, _, rfl, hI.s7⟩
        · have hx5 := hI.p5 (hd 5 (by decide))
          subst hx5
          rw [if_neg (by first | decide | exact Bool.false_ne_true)]
          exact hK.out _ _ ⟨_, _, _, _, _, _, _, _, _, _, _, _, rfl, hI.s8⟩
        · have hx5 := hI.p5 (hd 5 (by decide))
          subst hx5
          rw [if_neg (by first | decide | exact Bool.false_ne_true)]
          exact hK.out _ _ ⟨_, _, _, _, _, _, _, _, _, _, _, _, rfl, hI.s9⟩
        · have hx5 := hI.p5 (hd 5 (by decide))
          subst hx5
          rw [if_neg (by first | decide | exact Bool.false_ne_true)]
          exact hK.out _ _ ⟨_, _, _, _, _, _, _, _, _, _, _, _, rfl, hI.s10⟩
        · have hx5 := hI.p5 (hd 5 (by decide))
          subst hx5
          rw [if_pos (by rfl)]
          go_simp
          exact hK.out _ _ ⟨_, _, _, _, _, _, _, _, _, _, _, _, rfl, hI.s11⟩
      · refine AA4L.ends ?_; intro x22 x23 x24 x25 x26 x27 x28 x29 x30 x31 x32 x33 L W hall hI
        have hx0 := hI.p0 (hall 0 (by decide))
        subst hx0
        have hx1 := hI.p1 (hall 1 (by decide))
        subst hx1
        have hx2 := hI.p2 (hall 2 (by decide))
        subst hx2
        have hx3 := hI.p3 (hall 3 (by decide))
        subst hx3
        have hx4 := hI.p4 (hall 4 (by decide))
        subst hx4
        have hx5 := hI.p5 (hall 5 (by decide))
        subst hx5
        have hx11 := hI.p11 (hall 11 (by decide))
        subst hx11
        have hXe := hI.x
        clear hI hall
        try dsimp only
        have hbW := RB.out _ hXe
        clear hXe
        have HEB : Hid (∀ X, X = W.alloc (.cells #[.int .i64 11, .int .i64 5] 52) → CApO w old p (.returned (.tuple #[.slice none 0 0, .iface 48 (.pointer (some ⟨W.heap.size, 0, none⟩))])) X) := fun X e => by
          subst e
          unfold CApO
          rw [HAP.out]
          exact ⟨hbW.alloc hbW.size _, _, rfl, _, rfl, Row.at W _ _ _ _ rfl rfl⟩
        clear hbW
        go_wp2
        go_ret2
        exact HEB.out _ rfl
end Go.Proofs.YtdfbfheceobboaaDoor
