
import Derived.Test.YtdfbfheceobboaaDoorP25Rg
/-! The code's patch: what stands ahead of the parts is taken. (Printed by tools/genc25.py.) -/
namespace Go.Proofs.YtdfbfheceobboaaDoor
open Go.RowKit
set_option linter.unusedVariables false
set_option linter.unusedSimpArgs false
set_option maxRecDepth 100000

def ThP (w : World) (R : RX25) (e : Ending) (w' : World) : Prop :=
  Below w.heap.size w w' ∧ match R with
    | .error (k, b) => ∃ g, e = .returned (.tuple #[.agg zInf.toArray, .pointer (some ⟨g, 0, none⟩)]) ∧ Row w' g 52 [.int .i64 (k : Int), .int .i64 (b : Int)]
    | .ok x => e = .returned (.tuple #[.agg (infC x.old x.new x.before x.after 0 0).toArray, .pointer none])
theorem zInf_one : ∀ v ∈ zInf, v.oneCell' = true := by decide
theorem infC_one (o nw : List By) (b af p l : Nat) : ∀ v ∈ infC o nw b af p l, v.oneCell' = true := by
  intro v hv
  unfold infC at hv
  rcases List.mem_append.1 hv with hv | hv
  · rcases List.mem_append.1 hv with hv | hv
    · exact B8_one _ v hv
    · exact B8_one _ v hv
  · simp at hv
    rcases hv with rfl | rfl | rfl | rfl <;> rfl
theorem build_inf2 (b af : Int) (w : World) : (Instr.build 47 #[(2, .int .i64 b), (3, .int .i64 af)]).run Tryd.prog w = .ok (.agg (z32b.map B8 ++ z32b.map B8 ++ ([.int .i64 b, .int .i64 af, .int .i64 0, .int .i64 0] : List Value)).toArray) w := by kernel_rfl
theorem wpList_build2 {ops : Array Oper} {rest : List Oper} {o : Oper} {a : Act} {w : World} {Q : Exit → Act → World → Prop} (hg : o.guard = none) (t : TypeId) (i j : Nat) (x y : Operand) (ho : o.op = .build t #[(i, x), (j, y)])
    (vx vy v : Value) (hx : a.eval x = vx) (hy : a.eval y = vy) (hrun : (Instr.build t #[(i, vx), (j, vy)]).run Tryd.prog w = .ok v w) (h : wpList Tryd.prog ops Q rest (a.put o.dst v) w) : wpList Tryd.prog ops Q (o :: rest) a w := by
  subst hx; subst hy
  refine wpList_plain hg fun K hK => ?_
  unfold Oper.wp execOp
  simp only [ho, List.map_toArray, List.map_cons, List.map_nil, Sem.run_bind, Sem.run_pure, hrun, Result.andThen_ok]
  exact hK _ _ h
/-- copy of bytes into an array within a struct, at a step of a drawn region. -/
theorem step_copy_arr {ops : Array Oper} {o : Oper} {a : Act} {w : World} {K : Act → World → Prop} {Q : Exit → Act → World → Prop} {X : Prop} (hw : Region.wanted o (yielded ops a.tmps) = true) (d s : Operand)
    (ho : o.op = .call { callee := .builtin .copy, args := #[d, s], argTypes := #[22, 22] })
    (g ty od B off cap : Nat) (C : List Value) (dc : Nat) (hd : a.eval d = .slice (some ⟨g, od, none⟩) 32 dc) (hs : a.eval s = .slice (some ⟨B, off, none⟩) 32 cap) (hr : Row w g ty C) (hC : od + 32 ≤ C.length) (tg : List By) (h32 : tg.length = 32) (hb : IsB w (some ⟨B, off, none⟩) tg)
    (h : K (a.put o.dst (.int .i64 32)) (w.setCells g od (tg.map B8))) : if Region.wanted o (yielded ops a.tmps) = true then Oper.wp Tryd.prog o a w K Q else X := by
  rw [if_pos hw]
  have hrun := run_copy_cells (P := Tryd.prog) w 22 22 o.type 5 g od 32 dc ⟨B, off, none⟩ 32 cap (tg.map B8) Tryd.underlying22 (by kernel_rfl) (by rw [List.length_map, h32]; rfl)
    (isb_cells25 hb)
    (fun j hj => by rw [hr.cell (od + j) _ (List.getElem?_eq_getElem (by rw [List.length_map, h32] at hj; omega))]; rfl) (fun j hj => hr.frozen _) (B8_one tg)
  rw [List.length_map, h32] at hrun
  have hrun : (Builtin.copy_ #[22, 22] o.type #[.slice (some ⟨g, od, none⟩) 32 dc, .slice (some ⟨B, off, none⟩) 32 cap]).run Tryd.prog w = .ok (.int .i64 32) (w.setCells g od (tg.map B8)) := hrun
  unfold Oper.wp execOp
  simp only [ho, resolve, invoke, builtin, Sem.run_bind, Sem.run_pure, Result.andThen_ok, List.map_toArray, List.map_cons, List.map_nil, hd, hs, hrun]
  exact h
/-- While a hash is copied. -/
structure ThW (N : Nat) (w : World) (G : Nat) (po : Option Addr) (n pc : Nat) (p : List By) (C0 C1 : List Value) (q : Bool) (W : World) : Prop where
  bel : Below w.heap.size w W
  res : Row W w.heap.size 47 zInf
  bx : Row W G 47 (if q then C1 else C0)
  ne : w.heap.size < G
  sl : SlB N W po n pc p
  ln : N ≤ w.heap.size
theorem ThW.drew {N : Nat} {w : World} {G : Nat} {po : Option Addr} {n pc : Nat} {p : List By} {C0 C1 : List Value} {q : Bool} {W : World} (h : ThW N w G po n pc p C0 C1 q W) : ThW N w G po n pc p C0 C1 q W.drew :=
  ⟨h.bel.drew, h.res.drew, h.bx.drew, h.ne, h.sl.keep ((Below.refl _ _).drew), h.ln⟩
theorem ThW.store {N : Nat} {w : World} {G : Nat} {po : Option Addr} {n pc : Nat} {p : List By} {C0 C1 : List Value} {W W2 : World} (h : ThW N w G po n pc p C0 C1 false W) (hs : SameBut G W W2) (hr : Row W2 G 47 C1) : ThW N w G po n pc p C0 C1 true W2 :=
  ⟨hs.below h.bel (Nat.le_of_lt h.ne), h.res.but hs (by have := h.ne; omega), hr, h.ne, h.sl.keep (hs.below (Below.refl _ _) (Nat.le_trans h.ln (Nat.le_of_lt h.ne))), h.ln⟩
theorem infC_set0 {o o2 nw : List By} (ho : o.length = 32) (ho2 : o2.length = 32) (b af p l : Nat) : (infC o nw b af p l).take 0 ++ o2.map B8 ++ (infC o nw b af p l).drop (0 + (o2.map B8).length) = infC o2 nw b af p l := by
  unfold infC
  rw [List.take_zero, List.nil_append, Nat.zero_add, List.length_map, ho2, List.append_assoc, List.append_assoc, List.drop_append, List.drop_eq_nil_of_le (by rw [List.length_map, ho]; exact Nat.le_refl _), List.nil_append, List.length_map, ho]
  rfl
theorem infC_set32 {o nw n2 : List By} (ho : o.length = 32) (hn : nw.length = 32) (hn2 : n2.length = 32) (b af p l : Nat) : (infC o nw b af p l).take 32 ++ n2.map B8 ++ (infC o nw b af p l).drop (32 + (n2.map B8).length) = infC o n2 b af p l := by
  have h1 : (o.map B8).length = 32 := by rw [List.length_map, ho]
  have h2 : (o.map B8 ++ nw.map B8).length = 64 := by simp [ho, hn]
  unfold infC
  rw [List.length_map, hn2]
  have e1 : (o.map B8 ++ nw.map B8 ++ ([.int .i64 (b : Int), .int .i64 (af : Int), .int .i64 (p : Int), .int .i64 (l : Int)] : List Value)).take 32 = o.map B8 := by
    rw [List.append_assoc, List.take_append_of_le_length (by omega), List.take_of_length_le (by omega)]
  have e2 : (o.map B8 ++ nw.map B8 ++ ([.int .i64 (b : Int), .int .i64 (af : Int), .int .i64 (p : Int), .int .i64 (l : Int)] : List Value)).drop (32 + 32) = [.int .i64 (b : Int), .int .i64 (af : Int), .int .i64 (p : Int), .int .i64 (l : Int)] := by
    rw [List.drop_append, List.drop_eq_nil_of_le (by omega), List.nil_append, h2]; rfl
  rw [e1, e2]
structure TH14 (W1 : World) (N : Nat) (w : World) (G B off n pc : Nat) (p : List By) (IC0 IC1 : List Value) (L : Nat → Bool) (x48 x49 x50 x51 x52 : Value) (W : World) : Prop where
  x : ThW N w G (some ⟨B, off, none⟩) n pc p IC0 IC1 (L 4) W
  p0 : L 0 = true → x48 = .pointer (some ⟨G, 0, none⟩)
  p1 : L 1 = true → x49 = .slice (some ⟨G, 0, none⟩) 32 32
  p2 : L 2 = true → x50 = .slice (some ⟨B, off, none⟩) n pc
  p3 : L 3 = true → x51 = .slice (some ⟨B, off + 5, none⟩) 32 (pc - 5)
  p4 : L 4 = true → x52 = .int .i64 32
section
variable {W1 : World} {N : Nat} {w : World} {G B off n pc : Nat} {p : List By} {IC0 IC1 : List Value} {L : Nat → Bool} {x48 x49 x50 x51 x52 : Value} {W W2 : World}
theorem TH14.s0 (h : TH14 W1 N w G B off n pc p IC0 IC1 L x48 x49 x50 x51 x52 W) : TH14 W1 N w G B off n pc p IC0 IC1 (upd L 0) (.pointer (some ⟨G, 0, none⟩)) x49 x50 x51 x52 W :=
  ⟨h.x, fun _ => rfl, h.p1, h.p2, h.p3, h.p4⟩
theorem TH14.s1 (h : TH14 W1 N w G B off n pc p IC0 IC1 L x48 x49 x50 x51 x52 W) : TH14 W1 N w G B off n pc p IC0 IC1 (upd L 1) x48 (.slice (some ⟨G, 0, none⟩) 32 32) x50 x51 x52 W :=
  ⟨h.x, h.p0, fun _ => rfl, h.p2, h.p3, h.p4⟩
theorem TH14.s2 (h : TH14 W1 N w G B off n pc p IC0 IC1 L x48 x49 x50 x51 x52 W) : TH14 W1 N w G B off n pc p IC0 IC1 (upd L 2) x48 x49 (.slice (some ⟨B, off, none⟩) n pc) x51 x52 W :=
  ⟨h.x, h.p0, h.p1, fun _ => rfl, h.p3, h.p4⟩
theorem TH14.s3 (h : TH14 W1 N w G B off n pc p IC0 IC1 L x48 x49 x50 x51 x52 W) : TH14 W1 N w G B off n pc p IC0 IC1 (upd L 3) x48 x49 x50 (.slice (some ⟨B, off + 5, none⟩) 32 (pc - 5)) x52 W :=
  ⟨h.x, h.p0, h.p1, h.p2, fun _ => rfl, h.p4⟩
theorem TH14.s4 (h : TH14 W1 N w G B off n pc p IC0 IC1 L x48 x49 x50 x51 x52 W) (hX : ThW N w G (some ⟨B, off, none⟩) n pc p IC0 IC1 ((upd L 4) 4) W2) : TH14 W1 N w G B off n pc p IC0 IC1 (upd L 4) x48 x49 x50 x51 (.int .i64 32) W2 :=
  ⟨hX, h.p0, h.p1, h.p2, h.p3, fun _ => rfl⟩
end
@[reducible] def ITH14 (W1 : World) (N : Nat) (w : World) (G B off n pc : Nat) (p : List By) (IC0 IC1 : List Value) (y0 y1 y2 y3 y4 y5 y6 y7 y8 y9 y10 y11 y12 y13 y14 y15 y16 y17 y18 y19 y20 y21 y22 y23 y24 y25 y26 y27 y28 y29 y30 y31 y32 y33 y34 y35 y36 y37 y38 y39 y40 y41 y42 y43 y44 y45 y46 y47 y53 y54 y55 y56 y57 y58 : Value) : (Nat → Bool) → Act → World → Prop := fun L a W => ∃ x48 x49 x50 x51 x52, a = ⟨#[y0, y1, y2, y3, y4, y5, y6, y7, y8, y9, y10, y11, y12, y13, y14, y15, y16, y17, y18, y19, y20, y21, y22, y23, y24, y25, y26, y27, y28, y29, y30, y31, y32, y33, y34, y35, y36, y37, y38, y39, y40, y41, y42, y43, y44, y45, y46, y47, x48, x49, x50, x51, x52, y53, y54, y55, y56, y57, y58], []⟩ ∧ TH14 W1 N w G B off n pc p IC0 IC1 L x48 x49 x50 x51 x52 W
theorem TH14.step {W1 : World} {N : Nat} {w : World} {G B off n pc : Nat} {p : List By} {IC0 IC1 : List Value} {y0 y1 y2 y3 y4 y5 y6 y7 y8 y9 y10 y11 y12 y13 y14 y15 y16 y17 y18 y19 y20 y21 y22 y23 y24 y25 y26 y27 y28 y29 y30 y31 y32 y33 y34 y35 y36 y37 y38 y39 y40 y41 y42 y43 y44 y45 y46 y47 y53 y54 y55 y56 y57 y58 : Value} {P : Program} {ops : Array Oper} {Q : Exit → Act → World → Prop} {i : Nat} {o : Oper} (hq : ∀ x48 x49 x50 x51 x52 (L : Nat → Bool) (W : World), TH14 W1 N w G B off n pc p IC0 IC1 L x48 x49 x50 x51 x52 W → L i = false → (∀ j ∈ onesOf o, L j = true) → ∀ K : Act → World → Prop, Shut (∀ a' w', ITH14 W1 N w G B off n pc p IC0 IC1 y0 y1 y2 y3 y4 y5 y6 y7 y8 y9 y10 y11 y12 y13 y14 y15 y16 y17 y18 y19 y20 y21 y22 y23 y24 y25 y26 y27 y28 y29 y30 y31 y32 y33 y34 y35 y36 y37 y38 y39 y40 y41 y42 y43 y44 y45 y46 y47 y53 y54 y55 y56 y57 y58 (upd L i) a' w' → K a' w') → if Region.wanted o (yielded ops (⟨#[y0, y1, y2, y3, y4, y5, y6, y7, y8, y9, y10, y11, y12, y13, y14, y15, y16, y17, y18, y19, y20, y21, y22, y23, y24, y25, y26, y27, y28, y29, y30, y31, y32, y33, y34, y35, y36, y37, y38, y39, y40, y41, y42, y43, y44, y45, y46, y47, x48, x49, x50, x51, x52, y53, y54, y55, y56, y57, y58], []⟩ : Act).tmps) = true then Oper.wp P o ⟨#[y0, y1, y2, y3, y4, y5, y6, y7, y8, y9, y10, y11, y12, y13, y14, y15, y16, y17, y18, y19, y20, y21, y22, y23, y24, y25, y26, y27, y28, y29, y30, y31, y32, y33, y34, y35, y36, y37, y38, y39, y40, y41, y42, y43, y44, y45, y46, y47, x48, x49, x50, x51, x52, y53, y54, y55, y56, y57, y58], []⟩ W K Q else K ((⟨#[y0, y1, y2, y3, y4, y5, y6, y7, y8, y9, y10, y11, y12, y13, y14, y15, y16, y17, y18, y19, y20, y21, y22, y23, y24, y25, y26, y27, y28, y29, y30, y31, y32, y33, y34, y35, y36, y37, y38, y39, y40, y41, y42, y43, y44, y45, y46, y47, x48, x49, x50, x51, x52, y53, y54, y55, y56, y57, y58], []⟩ : Act).put o.dst undef) W) : StepI P ops (ITH14 W1 N w G B off n pc p IC0 IC1 y0 y1 y2 y3 y4 y5 y6 y7 y8 y9 y10 y11 y12 y13 y14 y15 y16 y17 y18 y19 y20 y21 y22 y23 y24 y25 y26 y27 y28 y29 y30 y31 y32 y33 y34 y35 y36 y37 y38 y39 y40 y41 y42 y43 y44 y45 y46 y47 y53 y54 y55 y56 y57 y58) Q i o := by
  rintro L a W ⟨x48, x49, x50, x51, x52, rfl, h⟩
  exact hq _ _ _ _ _ _ _ h
theorem TH14.ends {W1 : World} {N : Nat} {w : World} {G B off n pc : Nat} {p : List By} {IC0 IC1 : List Value} {y0 y1 y2 y3 y4 y5 y6 y7 y8 y9 y10 y11 y12 y13 y14 y15 y16 y17 y18 y19 y20 y21 y22 y23 y24 y25 y26 y27 y28 y29 y30 y31 y32 y33 y34 y35 y36 y37 y38 y39 y40 y41 y42 y43 y44 y45 y46 y47 y53 y54 y55 y56 y57 y58 : Value} {mm_ : Nat} {Q : Exit → Act → World → Prop} (hq : ∀ x48 x49 x50 x51 x52 (L : Nat → Bool) (W : World), (∀ j, j < mm_ → L j = true) → TH14 W1 N w G B off n pc p IC0 IC1 L x48 x49 x50 x51 x52 W → Q .normal ⟨#[y0, y1, y2, y3, y4, y5, y6, y7, y8, y9, y10, y11, y12, y13, y14, y15, y16, y17, y18, y19, y20, y21, y22, y23, y24, y25, y26, y27, y28, y29, y30, y31, y32, y33, y34, y35, y36, y37, y38, y39, y40, y41, y42, y43, y44, y45, y46, y47, x48, x49, x50, x51, x52, y53, y54, y55, y56, y57, y58], []⟩ W) : ∀ L a' w', (∀ j, j < mm_ → L j = true) → ITH14 W1 N w G B off n pc p IC0 IC1 y0 y1 y2 y3 y4 y5 y6 y7 y8 y9 y10 y11 y12 y13 y14 y15 y16 y17 y18 y19 y20 y21 y22 y23 y24 y25 y26 y27 y28 y29 y30 y31 y32 y33 y34 y35 y36 y37 y38 y39 y40 y41 y42 y43 y44 y45 y46 y47 y53 y54 y55 y56 y57 y58 L a' w' → Q .normal a' w' := by
  rintro L a W hall ⟨x48, x49, x50, x51, x52, rfl, h⟩
  exact hq _ _ _ _ _ _ _ hall h
structure TH15 (W1 : World) (N : Nat) (w : World) (G B off n pc : Nat) (p : List By) (IC0 IC1 : List Value) (L : Nat → Bool) (x53 x54 x55 x56 x57 : Value) (W : World) : Prop where
  x : ThW N w G (some ⟨B, off, none⟩) n pc p IC0 IC1 (L 4) W
  p0 : L 0 = true → x53 = .pointer (some ⟨G, 32, none⟩)
  p1 : L 1 = true → x54 = .slice (some ⟨G, 32, none⟩) 32 32
  p2 : L 2 = true → x55 = .slice (some ⟨B, off, none⟩) n pc
  p3 : L 3 = true → x56 = .slice (some ⟨B, off + 37, none⟩) 32 (pc - 37)
  p4 : L 4 = true → x57 = .int .i64 32
section
variable {W1 : World} {N : Nat} {w : World} {G B off n pc : Nat} {p : List By} {IC0 IC1 : List Value} {L : Nat → Bool} {x53 x54 x55 x56 x57 : Value} {W W2 : World}
theorem TH15.s0 (h : TH15 W1 N w G B off n pc p IC0 IC1 L x53 x54 x55 x56 x57 W) : TH15 W1 N w G B off n pc p IC0 IC1 (upd L 0) (.pointer (some ⟨G, 32, none⟩)) x54 x55 x56 x57 W :=
  ⟨h.x, fun _ => rfl, h.p1, h.p2, h.p3, h.p4⟩
theorem TH15.s1 (h : TH15 W1 N w G B off n pc p IC0 IC1 L x53 x54 x55 x56 x57 W) : TH15 W1 N w G B off n pc p IC0 IC1 (upd L 1) x53 (.slice (some ⟨G, 32, none⟩) 32 32) x55 x56 x57 W :=
  ⟨h.x, h.p0, fun _ => rfl, h.p2, h.p3, h.p4⟩
theorem TH15.s2 (h : TH15 W1 N w G B off n pc p IC0 IC1 L x53 x54 x55 x56 x57 W) : TH15 W1 N w G B off n pc p IC0 IC1 (upd L 2) x53 x54 (.slice (some ⟨B, off, none⟩) n pc) x56 x57 W :=
  ⟨h.x, h.p0, h.p1, fun _ => rfl, h.p3, h.p4⟩
theorem TH15.s3 (h : TH15 W1 N w G B off n pc p IC0 IC1 L x53 x54 x55 x56 x57 W) : TH15 W1 N w G B off n pc p IC0 IC1 (upd L 3) x53 x54 x55 (.slice (some ⟨B, off + 37, none⟩) 32 (pc - 37)) x57 W :=
  ⟨h.x, h.p0, h.p1, h.p2, fun _ => rfl, h.p4⟩
theorem TH15.s4 (h : TH15 W1 N w G B off n pc p IC0 IC1 L x53 x54 x55 x56 x57 W) (hX : ThW N w G (some ⟨B, off, none⟩) n pc p IC0 IC1 ((upd L 4) 4) W2) : TH15 W1 N w G B off n pc p IC0 IC1 (upd L 4) x53 x54 x55 x56 (.int .i64 32) W2 :=
  ⟨hX, h.p0, h.p1, h.p2, h.p3, fun _ => rfl⟩
end
@[reducible] def ITH15 (W1 : World) (N : Nat) (w : World) (G B off n pc : Nat) (p : List By) (IC0 IC1 : List Value) (y0 y1 y2 y3 y4 y5 y6 y7 y8 y9 y10 y11 y12 y13 y14 y15 y16 y17 y18 y19 y20 y21 y22 y23 y24 y25 y26 y27 y28 y29 y30 y31 y32 y33 y34 y35 y36 y37 y38 y39 y40 y41 y42 y43 y44 y45 y46 y47 y48 y49 y50 y51 y52 y58 : Value) : (Nat → Bool) → Act → World → Prop := fun L a W => ∃ x53 x54 x55 x56 x57, a = ⟨#[y0, y1, y2, y3, y4, y5, y6, y7, y8, y9, y10, y11, y12, y13, y14, y15, y16, y17, y18, y19, y20, y21, y22, y23, y24, y25, y26, y27, y28, y29, y30, y31, y32, y33, y34, y35, y36, y37, y38, y39, y40, y41, y42, y43, y44, y45, y46, y47, y48, y49, y50, y51, y52, x53, x54, x55, x56, x57, y58], []⟩ ∧ TH15 W1 N w G B off n pc p IC0 IC1 L x53 x54 x55 x56 x57 W
theorem TH15.step {W1 : World} {N : Nat} {w : World} {G B off n pc : Nat} {p : List By} {IC0 IC1 : List Value} {y0 y1 y2 y3 y4 y5 y6 y7 y8 y9 y10 y11 y12 y13 y14 y15 y16 y17 y18 y19 y20 y21 y22 y23 y24 y25 y26 y27 y28 y29 y30 y31 y32 y33 y34 y35 y36 y37 y38 y39 y40 y41 y42 y43 y44 y45 y46 y47 y48 y49 y50 y51 y52 y58 : Value} {P : Program} {ops : Array Oper} {Q : Exit → Act → World → Prop} {i : Nat} {o : Oper} (hq : ∀ x53 x54 x55 x56 x57 (L : Nat → Bool) (W : World), TH15 W1 N w G B off n pc p IC0 IC1 L x53 x54 x55 x56 x57 W → L i = false → (∀ j ∈ onesOf o, L j = true) → ∀ K : Act → World → Prop, Shut (∀ a' w', ITH15 W1 N w G B off n pc p IC0 IC1 y0 y1 y2 y3 y4 y5 y6 y7 y8 y9 y10 y11 y12 y13 y14 y15 y16 y17 y18 y19 y20 y21 y22 y23 y24 y25 y26 y27 y28 y29 y30 y31 y32 y33 y34 y35 y36 y37 y38 y39 y40 y41 y42 y43 y44 y45 y46 y47 y48 y49 y50 y51 y52 y58 (upd L i) a' w' → K a' w') → if Region.wanted o (yielded ops (⟨#[y0, y1, y2, y3, y4, y5, y6, y7, y8, y9, y10, y11, y12, y13, y14, y15, y16, y17, y18, y19, y20, y21, y22, y23, y24, y25, y26, y27, y28, y29, y30, y31, y32, y33, y34, y35, y36, y37, y38, y39, y40, y41, y42, y43, y44, y45, y46, y47, y48, y49, y50, y51, y52, x53, x54, x55, x56, x57, y58], []⟩ : Act).tmps) = true then Oper.wp P o ⟨#[y0, y1, y2, y3, y4, y5, y6, y7, y8, y9, y10, y11, y12, y13, y14, y15, y16, y17, y18, y19, y20, y21, y22, y23, y24, y25, y26, y27, y28, y29, y30, y31, y32, y33, y34, y35, y36, y37, y38, y39, y40, y41, y42, y43, y44, y45, y46, y47, y48, y49, y50, y51, y52, x53, x54, x55, x56, x57, y58], []⟩ W K Q else K ((⟨#[y0, y1, y2, y3, y4, y5, y6, y7, y8, y9, y10, y11, y12, y13, y14, y15, y16, y17, y18, y19, y20, y21, y22, y23, y24, y25, y26, y27, y28, y29, y30, y31, y32, y33, y34, y35, y36, y37, y38, y39, y40, y41, y42, y43, y44, y45, y46, y47, y48, y49, y50, y51, y52, x53, x54, x55, x56, x57, y58], []⟩ : Act).put o.dst undef) W) : StepI P ops (ITH15 W1 N w G B off n pc p IC0 IC1 y0 y1 y2 y3 y4 y5 y6 y7 y8 y9 y10 y11 y12 y13 y14 y15 y16 y17 y18 y19 y20 y21 y22 y23 y24 y25 y26 y27 y28 y29 y30 y31 y32 y33 y34 y35 y36 y37 y38 y39 y40 y41 y42 y43 y44 y45 y46 y47 y48 y49 y50 y51 y52 y58) Q i o := by
  rintro L a W ⟨x53, x54, x55, x56, x57, rfl, h⟩
  exact hq _ _ _ _ _ _ _ h
theorem TH15.ends {W1 : World} {N : Nat} {w : World} {G B off n pc : Nat} {p : List By} {IC0 IC1 : List Value} {y0 y1 y2 y3 y4 y5 y6 y7 y8 y9 y10 y11 y12 y13 y14 y15 y16 y17 y18 y19 y20 y21 y22 y23 y24 y25 y26 y27 y28 y29 y30 y31 y32 y33 y34 y35 y36 y37 y38 y39 y40 y41 y42 y43 y44 y45 y46 y47 y48 y49 y50 y51 y52 y58 : Value} {mm_ : Nat} {Q : Exit → Act → World → Prop} (hq : ∀ x53 x54 x55 x56 x57 (L : Nat → Bool) (W : World), (∀ j, j < mm_ → L j = true) → TH15 W1 N w G B off n pc p IC0 IC1 L x53 x54 x55 x56 x57 W → Q .normal ⟨#[y0, y1, y2, y3, y4, y5, y6, y7, y8, y9, y10, y11, y12, y13, y14, y15, y16, y17, y18, y19, y20, y21, y22, y23, y24, y25, y26, y27, y28, y29, y30, y31, y32, y33, y34, y35, y36, y37, y38, y39, y40, y41, y42, y43, y44, y45, y46, y47, y48, y49, y50, y51, y52, x53, x54, x55, x56, x57, y58], []⟩ W) : ∀ L a' w', (∀ j, j < mm_ → L j = true) → ITH15 W1 N w G B off n pc p IC0 IC1 y0 y1 y2 y3 y4 y5 y6 y7 y8 y9 y10 y11 y12 y13 y14 y15 y16 y17 y18 y19 y20 y21 y22 y23 y24 y25 y26 y27 y28 y29 y30 y31 y32 y33 y34 y35 y36 y37 y38 y39 y40 y41 y42 y43 y44 y45 y46 y47 y48 y49 y50 y51 y52 y58 L a' w' → Q .normal a' w' := by
  rintro L a W hall ⟨x53, x54, x55, x56, x57, rfl, h⟩
  exact hq _ _ _ _ _ _ _ hall h
set_option maxHeartbeats 1000000 in
theorem ctakehead_any (N : Nat) (w : World) (po : Option Addr) (n pc : Nat) (p : List By) (hp : SlB N w po n pc p) (hn : n ≤ 140737488351232) : Calls Tryd.prog 26 #[.slice po n pc] w (ThP w (startR p)) := by
  have hlen := hp.len
  obtain ⟨W0, hW0⟩ : ∃ W0, W0 = w.alloc (.cells zInf.toArray 47) := ⟨_, rfl⟩
  have hb0 : Below w.heap.size w W0 := by rw [hW0]; exact (Below.refl _ _).alloc (Nat.le_refl _) _
  have R0 : Hid (Row W0 w.heap.size 47 zInf) := by show Row _ _ _ _; rw [hW0]; exact Row.at w _ _ _ _ rfl rfl
  have B0 : Hid (Below w.heap.size w W0) := hb0
  have HP : Hid (∀ W, Dr W0 W → SlB N W po n pc p) := fun W h => hp.keep ((hb0.mono hp.lt).trans (Below_dr (Below.refl _ _) h))
  have HLN : Hid (N ≤ w.heap.size) := hp.lt
  obtain ⟨mn, hmn⟩ : ∃ mn, mn = min n 5 := ⟨_, rfl⟩
  have HMN : Hid (mn = min n 5) := hmn
  have E1 : (if 5 < n then (5 : Int) else (n : Int)) = (mn : Int) := by rw [hmn]; split <;> omega
  have E2 : (if (5 : Int) < (n : Int) then (5 : Int) else (n : Int)) = (mn : Int) := by rw [hmn]; split <;> omega
  clear hp hb0 hmn
  go_enter Tryd.func26, Tryd.ntmps26
  go_upto_region 2 with (have hz := hW0; clear hz; refine wpList_at25 hW0 ?_; clear hW0)
  have e0 : (0 : Int) = ((0 : Nat) : Int) := rfl
  clear e0
  go_loopw [12] (fun iv wr => ∃ i : Nat, i ≤ mn ∧ iv = .int .i64 (i : Int) ∧ Hid (Dr W0 wr ∧ ∀ j, j < i → p.getD j 0 = hd5.getD j 0)) (fun iv _ => mn - (intOf iv).toNat)
  case atStart => exact ⟨0, by omega, rfl, Dr.refl _, fun j hj => by omega⟩
  case round =>
    obtain ⟨i, hi, rfl, HI⟩ := hrel
    by_cases hlt : i < mn
    · have hmn := HMN.out
      obtain ⟨B, off, e, HC⟩ := (HP.out _ HI.out.1).isb.cell i (by omega)
      subst e
      have y0 : (0 : Int) ≤ (i : Int) := by omega
      have y1 : (i : Int) < (mn : Int) := by omega
      have y2 : (i : Int) < (n : Int) := by omega
      have hi5 : i < 5 := by omega
      have hin : i < n := by omega
      clear hmn E1 E2
      have SI : ∀ W, (Instr.index 9 (.string ⟨#[80, 67, 80, 84, 1]⟩) (.int .i64 (i : Int))).run Tryd.prog W = .ok (.int .u8 ((hd5.getD i 0).toNat : Int)) W := fun W => by
        rcases (by omega : i = 0 ∨ i = 1 ∨ i = 2 ∨ i = 3 ∨ i = 4) with rfl | rfl | rfl | rfl | rfl <;> kernel_rfl
      by_cases hm : p.getD i 0 = hd5.getD i 0
      · have HM : Hid (p.getD i 0 = hd5.getD i 0) := hm
        rw [hm] at HC
        generalize (hd5.getD i 0).toNat = x at *
        have k1 : ((x : Int) == (x : Int)) = true := beq_self_eq_true _
        have k2 : ((x : Int) != (x : Int)) = false := by simp
        clear hm
        have z1 : IntKind.i64.wrap ((i : Int) + 1) = (i : Int) + 1 := i64_in _ (by omega) (by omega)
        go_wp2
        go_quiet (fail)
        have HD2 : Hid (Dr W0 (wr.drewN nq)) := HI.out.1.drewN nq
        go_wp2
        refine ⟨⟨i + 1, by omega, by go_num, ⟨HD2.out, fun j hj => ?_⟩⟩, by simp [intOf]; omega⟩
        by_cases hj2 : j = i
        · subst hj2; exact HM.out
        · exact HI.out.2 j (by omega)
      · have HX : Hid (startR p = .error (5, i)) := startR_bad hi5 (by omega) HI.out.2 hm
        have hne : (p.getD i 0).toNat ≠ (hd5.getD i 0).toNat := fun e => hm (BitVec.eq_of_toNat_eq e)
        generalize (p.getD i 0).toNat = x at *
        generalize (hd5.getD i 0).toNat = y at *
        have k1 : ((x : Int) == (y : Int)) = false := by rw [beq_eq_false_iff_ne]; omega
        have k2 : ((x : Int) != (y : Int)) = true := by rw [bne_iff_ne]; omega
        clear hne hm
        go_wp2
        go_quiet (fail)
        have HD2 : Hid (Dr W0 (wr.drewN nq)) := HI.out.1.drewN nq
        generalize wr.drewN nq = wq at *
        obtain ⟨W7, hW7⟩ : ∃ W7, W7 = wq.alloc (.cells #[.int .i64 5, .int .i64 (i : Int)] 52) := ⟨_, rfl⟩
        have R7 : Hid (Row W7 w.heap.size 47 zInf ∧ Row W7 wq.heap.size 52 [.int .i64 ((5 : Nat) : Int), .int .i64 (i : Int)] ∧ Below w.heap.size w W7 ∧ w.heap.size < wq.heap.size) := by
          have r0 := R0.out.dr HD2.out
          have b0 := Below_dr B0.out HD2.out
          show _ ∧ _ ∧ _ ∧ _; rw [hW7]
          exact ⟨r0.alloc _, Row.at _ _ _ _ _ rfl rfl, b0.alloc b0.size _, r0.lt⟩
        clear HD2 HI HC
        go_wp2_with (first
          | (have hz := hW7; clear hz; refine wpList_at25 hW7 ?_; clear hW7)
          | (have hz := R7; clear hz; refine wpList_store_Row rfl 47 (.tmp 2) (.tmp 22) rfl w.heap.size 47 0 zInf zInf R7.out.1 (Nat.le_refl _) rfl rfl (by kernel_rfl) zInf_one ?_; intro w8 hr8 hs8; have q8 := row_whole hr8 (by simp); have H8 : Hid (ThP w (startR p) (.returned (.tuple #[.agg zInf.toArray, .pointer (some ⟨wq.heap.size, 0, none⟩)])) w8) := (by rw [HX.out]; exact ⟨hs8.below R7.out.2.2.1 (Nat.le_refl _), _, rfl, R7.out.2.1.but hs8 (by have := R7.out.2.2.2; omega)⟩); clear R7 hr8 hs8))
        refine bodyPost_ret_by (results_rowtmp Tryd.results26 _ w8 w.heap.size 47 _ _ rfl q8 Tryd.underlying47 rfl (by kernel_rfl)) rfl ?_
        exact H8.out
    · obtain rfl : i = mn := by omega
      have x1 : ¬ ((i : Nat) : Int) < (i : Int) := by omega
      have HGD : Hid (startR p = match tlR p 69 with
          | .error e => .error e
          | .ok b => match tlR p 73 with
            | .error e => .error e
            | .ok a => .ok ⟨(p.drop 5).take 32, (p.drop 37).take 32, b, a, []⟩) := startR_good fun j h1 h2 => HI.out.2 j (by have := HMN.out; omega)
      have F1 : Hid (∀ (W : World) (a : Nat), a ≤ 1000 → Dr W0 W → Calls Tryd.prog 39 #[.slice po n pc, .int .i64 (a : Int)] W (TlP W (tlR p a))) := fun W a ha hd => ctakelen_any N W po n pc a p (HP.out W hd) hn ha
      have HD : Hid (Dr W0 wr) := HI.out.1
      clear HI E1 E2 HMN
      go_wp2_with fail
      refine (F1.out _ 69 (by omega) HD.out).mono ?_
      intro e w2 h2
      cases hR1 : tlR p 69 with
      | error eb =>
        obtain ⟨ke, be⟩ := eb
        rw [hR1] at h2
        obtain ⟨g2, rfl, hw2, hb2⟩ := h2
        have HX : Hid (startR p = .error (ke, be)) := by show _ = _; rw [HGD.out, hR1]
        have R7 : Hid (Row w2 w.heap.size 47 zInf ∧ Row w2 g2 52 [.int .i64 (ke : Int), .int .i64 (be : Int)] ∧ Below w.heap.size w w2 ∧ g2 ≠ w.heap.size) := by
          have r0 := R0.out.dr HD.out
          have b0 := Below_dr B0.out HD.out
          have r2 := r0.below hb2 r0.lt
          refine ⟨r2, hw2, b0.trans (hb2.mono b0.size), fun e => ?_⟩
          subst e
          have h1 : w2.heap[w.heap.size]? = _ := hw2
          have h2 : w2.heap[w.heap.size]? = _ := r2
          rw [h1] at h2; injection h2 with h2; injection h2 with _ h2; cases h2
        clear hw2 hb2 HGD hR1 HD
        dsimp only
        go_wp2_with (first
          | (have hz := R7; clear hz; refine wpList_store_Row rfl 47 (.tmp 2) (.tmp 34) rfl w.heap.size 47 0 zInf zInf R7.out.1 (Nat.le_refl _) rfl rfl (by kernel_rfl) zInf_one ?_; intro w8 hr8 hs8; have q8 := row_whole hr8 (by simp); have H8 : Hid (ThP w (startR p) (.returned (.tuple #[.agg zInf.toArray, .pointer (some ⟨g2, 0, none⟩)])) w8) := (by rw [HX.out]; exact ⟨hs8.below R7.out.2.2.1 (Nat.le_refl _), _, rfl, R7.out.2.1.but hs8 R7.out.2.2.2⟩); clear R7 hr8 hs8))
        refine bodyPost_ret_by (results_rowtmp Tryd.results26 _ w8 w.heap.size 47 _ _ rfl q8 Tryd.underlying47 rfl (by kernel_rfl)) rfl ?_
        exact H8.out
      | ok b =>
        rw [hR1] at h2
        obtain ⟨rfl, hw2⟩ := h2
        subst hw2
        dsimp only
        go_wp2_with fail
        refine (F1.out _ 73 (by omega) HD.out).mono ?_
        intro e w3 h3
        cases hR2 : tlR p 73 with
        | error eb =>
          obtain ⟨ke, be⟩ := eb
          rw [hR2] at h3
          obtain ⟨g2, rfl, hw2, hb2⟩ := h3
          have HX : Hid (startR p = .error (ke, be)) := by show _ = _; rw [HGD.out, hR1]; simp only [hR2]
          have R7 : Hid (Row w3 w.heap.size 47 zInf ∧ Row w3 g2 52 [.int .i64 (ke : Int), .int .i64 (be : Int)] ∧ Below w.heap.size w w3 ∧ g2 ≠ w.heap.size) := by
            have r0 := R0.out.dr HD.out
            have b0 := Below_dr B0.out HD.out
            have r2 := r0.below hb2 r0.lt
            refine ⟨r2, hw2, b0.trans (hb2.mono b0.size), fun e => ?_⟩
            subst e
            have h1 : w3.heap[w.heap.size]? = _ := hw2
            have h2 : w3.heap[w.heap.size]? = _ := r2
            rw [h1] at h2; injection h2 with h2; injection h2 with _ h2; cases h2
          clear hw2 hb2 HGD hR1 hR2 HD
          dsimp only
          go_wp2_with (first
            | (have hz := R7; clear hz; refine wpList_store_Row rfl 47 (.tmp 2) (.tmp 43) rfl w.heap.size 47 0 zInf zInf R7.out.1 (Nat.le_refl _) rfl rfl (by kernel_rfl) zInf_one ?_; intro w8 hr8 hs8; have q8 := row_whole hr8 (by simp); have H8 : Hid (ThP w (startR p) (.returned (.tuple #[.agg zInf.toArray, .pointer (some ⟨g2, 0, none⟩)])) w8) := (by rw [HX.out]; exact ⟨hs8.below R7.out.2.2.1 (Nat.le_refl _), _, rfl, R7.out.2.1.but hs8 R7.out.2.2.2⟩); clear R7 hr8 hs8))
          refine bodyPost_ret_by (results_rowtmp Tryd.results26 _ w8 w.heap.size 47 _ _ rfl q8 Tryd.underlying47 rfl (by kernel_rfl)) rfl ?_
          exact H8.out
        | ok af =>
          rw [hR2] at h3
          obtain ⟨rfl, hw3⟩ := h3
          subst hw3
          have HX : Hid (startR p = .ok ⟨(p.drop 5).take 32, (p.drop 37).take 32, b, af, []⟩) := by show _ = _; rw [HGD.out, hR1]; simp only [hR2]
          dsimp only
          have h77 : 77 ≤ n := by
            unfold tlR at hR2
            rw [hlen] at hR2
            by_cases hh : n < 73 + 4
            · rw [if_pos hh] at hR2; cases hR2
            · omega
          obtain ⟨B, off, e⟩ : ∃ B off, po = some ⟨B, off, none⟩ := by
            rcases (HP.out _ HD.out).isb with h | ⟨B, off, e, _⟩
            · rw [h] at hlen; simp at hlen; omega
            · exact ⟨B, off, e⟩
          subst e
          have hcap := (HP.out _ HD.out).cap
          have HOL : Hid (((p.drop 5).take 32).length = 32 ∧ ((p.drop 37).take 32).length = 32) := by
            refine ⟨?_, ?_⟩
            · rw [List.length_take, List.length_drop]; omega
            · rw [List.length_take, List.length_drop]; omega
          have Ioq : Hid (∀ W, SlB N W (some ⟨B, off, none⟩) n pc p → IsB W (some ⟨B, off + 5, none⟩) ((p.drop 5).take 32) ∧ IsB W (some ⟨B, off + 37, none⟩) ((p.drop 37).take 32)) := fun W h => ⟨isb_takek (isb_dropk h.isb 5) _, isb_takek (isb_dropk h.isb 37) _⟩
          clear HGD F1 hR1 hR2
          generalize (p.drop 5).take 32 = OO at *
          generalize (p.drop 37).take 32 = NN at *
          obtain ⟨IC0, hIC0⟩ : ∃ IC, IC = infC z32b z32b b af 0 0 := ⟨_, rfl⟩
          obtain ⟨IC1, hIC1⟩ : ∃ IC, IC = infC OO z32b b af 0 0 := ⟨_, rfl⟩
          obtain ⟨IC2, hIC2⟩ : ∃ IC, IC = infC OO NN b af 0 0 := ⟨_, rfl⟩
          have L0 : Hid (IC0.length = 68 ∧ IC1.length = 68 ∧ IC2.length = 68) := ⟨by rw [hIC0]; exact infC_len rfl rfl _ _ _ _, by rw [hIC1]; exact infC_len HOL.out.1 rfl _ _ _ _, by rw [hIC2]; exact infC_len HOL.out.1 HOL.out.2 _ _ _ _⟩
          have O0 : Hid ((∀ v ∈ IC0, v.oneCell' = true) ∧ ∀ v ∈ IC2, v.oneCell' = true) := ⟨by rw [hIC0]; exact infC_one _ _ _ _ _ _, by rw [hIC2]; exact infC_one _ _ _ _ _ _⟩
          have BI : Hid (∀ W, (Instr.build 47 #[(2, .int .i64 (b : Int)), (3, .int .i64 (af : Int))]).run Tryd.prog W = .ok (.agg IC0.toArray) W) := fun W => by rw [hIC0]; exact build_inf2 b af W
          have S1 : Hid (IC0.take 0 ++ OO.map B8 ++ IC0.drop (0 + (OO.map B8).length) = IC1) := by show _ = _; rw [hIC0, hIC1]; exact infC_set0 rfl HOL.out.1 _ _ _ _
          have S2 : Hid (IC1.take 32 ++ NN.map B8 ++ IC1.drop (32 + (NN.map B8).length) = IC2) := by show _ = _; rw [hIC1, hIC2]; exact infC_set32 HOL.out.1 rfl HOL.out.2 _ _ _ _
          have HE : Hid (∀ W, Below w.heap.size w W → ThP w (startR p) (.returned (.tuple #[.agg IC2.toArray, .pointer none])) W) := fun W h => by
            rw [HX.out, hIC2]
            exact ⟨h, rfl⟩
          clear hIC0 hIC1 hIC2 HX
          have HZ : Hid (Row (w3.alloc (.cells zInf.toArray 47)) w3.heap.size 47 zInf) := Row.at w3 _ _ _ _ rfl rfl
          have H4 : Hid (∀ w4, SameBut w3.heap.size (w3.alloc (.cells zInf.toArray 47)) w4 → Row w4 w3.heap.size 47 IC0 → ThW N w w3.heap.size (some ⟨B, off, none⟩) n pc p IC0 IC1 false w4) := fun w4 hs hr => by
            have r0 := R0.out.dr HD.out
            have b0 := Below_dr B0.out HD.out
            exact ⟨hs.below (b0.alloc b0.size _) b0.size, (r0.alloc _).but hs (by have := r0.lt; omega), hr, r0.lt, (HP.out _ HD.out).keep (hs.below ((Below.refl _ _).alloc (Nat.le_trans HLN.out b0.size) _) (Nat.le_trans HLN.out b0.size)), HLN.out⟩
          have y5 : (37 : Int) ≤ (pc : Int) := by omega
          have y6 : (69 : Int) ≤ (pc : Int) := by omega
          have y7 : ¬ pc = 5 := by omega
          have y8 : ¬ pc = 37 := by omega
          clear HP R0 B0
          go_upto_region 14 with (first
            | (have hz := BI; clear hz; refine wpList_build2 rfl 47 2 3 (.tmp 45) (.tmp 46) rfl (.int .i64 (b : Int)) (.int .i64 (af : Int)) (.agg IC0.toArray) rfl rfl (BI.out _) ?_; clear BI)
            | (have hz := HZ; clear hz; refine wpList_store_Row rfl 47 (.tmp 8) (.tmp 47) rfl w3.heap.size 47 0 zInf IC0 HZ.out (by rw [L0.out.1]; exact Nat.le_refl _) rfl rfl (by rw [L0.out.1]; kernel_rfl) O0.out.1 ?_; intro w4 hr4 hs4; have HT : Hid (ThW N w w3.heap.size (some ⟨B, off, none⟩) n pc p IC0 IC1 false w4) := H4.out _ hs4 (row_whole hr4 (by rw [L0.out.1]; exact Nat.le_refl _)); clear HZ H4 hr4 hs4))
          try dsimp only [Act.put]
          generalize w3.heap.size = G at *
          have HS : Hid (ThW N w G (some ⟨B, off, none⟩) n pc p IC0 IC1 false w4.drew) := HT.out.drew
          clear HT
          refine wp_region_inv (ITH14 w4 N w G B off n pc p IC0 IC1 _ _ _ _ _ _ _ _ _ _ _ _ _ _ _ _ _ _ _ _ _ _ _ _ _ _ _ _ _ _ _ _ _ _ _ _ _ _ _ _ _ _ _ _ _ _ _ _ _ _ _ _ _ _) (by kernel_rfl) (by kernel_rfl) ⟨_, _, _, _, _, rfl, ⟨HS.out, fun k => (by cases k), fun k => (by cases k), fun k => (by cases k), fun k => (by cases k), fun k => (by cases k)⟩⟩ ?_ ?_
          · refine .cons ?_ (.cons ?_ (.cons ?_ (.cons ?_ (.cons ?_ .nil))))
            all_goals (refine TH14.step ?_; intro x48 x49 x50 x51 x52 L W hI hL hd K hK)
            · rw [if_pos (by rfl)]
              go_simp
              exact hK.out _ _ ⟨_, _, _, _, _, rfl, hI.s0⟩
            · have hx0 := hI.p0 (hd 0 (by decide))
              subst hx0
              rw [if_pos (by rfl)]
              go_simp
              exact hK.out _ _ ⟨_, _, _, _, _, rfl, hI.s1⟩
            · rw [if_pos (by rfl)]
              go_simp
              exact hK.out _ _ ⟨_, _, _, _, _, rfl, hI.s2⟩
            · have hx2 := hI.p2 (hd 2 (by decide))
              subst hx2
              rw [if_pos (by rfl)]
              go_simp
              exact hK.out _ _ ⟨_, _, _, _, _, rfl, hI.s3⟩
            · have hx1 := hI.p1 (hd 1 (by decide))
              subst hx1
              have hx3 := hI.p3 (hd 3 (by decide))
              subst hx3
              have hx0 := hI.x
              rw [hL] at hx0
              refine step_copy_arr (by rfl) (.tmp 49) (.tmp 51) rfl G 47 0 B (off + 5) (pc - 5) IC0 32 rfl rfl hx0.bx (by have := L0.out; omega) OO HOL.out.1 (Ioq.out _ hx0.sl).1 ?_
              have hrr := Row.setCells (OO.map B8) 0 W IC0 hx0.bx (by rw [List.length_map, HOL.out.1]; have := L0.out; omega)
              rw [S1.out] at hrr
              have hX := hx0.store (SameBut.setCells G (OO.map B8) 0 W) hrr
              exact hK.out _ _ ⟨_, _, _, _, _, rfl, hI.s4 hX⟩
          · refine TH14.ends ?_; intro x48 x49 x50 x51 x52 L W hall hI
            have hx0 := hI.p0 (hall 0 (by decide))
            subst hx0
            have hx1 := hI.p1 (hall 1 (by decide))
            subst hx1
            have hx2 := hI.p2 (hall 2 (by decide))
            subst hx2
            have hx3 := hI.p3 (hall 3 (by decide))
            subst hx3
            have hx4 := hI.p4 (hall 4 (by decide))
            subst hx4
            have hXe := hI.x
            rw [hall 4 (by decide)] at hXe
            clear hI hall
            try dsimp only
            have HT2 : Hid (ThW N w G (some ⟨B, off, none⟩) n pc p IC0 IC1 true W) := hXe
            clear hXe HS
            have HS2 : Hid (ThW N w G (some ⟨B, off, none⟩) n pc p IC1 IC2 false W.drew) := ⟨HT2.out.bel.drew, HT2.out.res.drew, HT2.out.bx.drew, HT2.out.ne, HT2.out.sl.keep ((Below.refl _ _).drew), HT2.out.ln⟩
            clear HT2
            generalize W = w5 at *
            go_upto_region 15 with fail
            try dsimp only [Act.put]
            refine wp_region_inv (ITH15 w5 N w G B off n pc p IC1 IC2 _ _ _ _ _ _ _ _ _ _ _ _ _ _ _ _ _ _ _ _ _ _ _ _ _ _ _ _ _ _ _ _ _ _ _ _ _ _ _ _ _ _ _ _ _ _ _ _ _ _ _ _ _ _) (by kernel_rfl) (by kernel_rfl) ⟨_, _, _, _, _, rfl, ⟨HS2.out, fun k => (by cases k), fun k => (by cases k), fun k => (by cases k), fun k => (by cases k), fun k => (by cases k)⟩⟩ ?_ ?_
            · refine .cons ?_ (.cons ?_ (.cons ?_ (.cons ?_ (.cons ?_ .nil))))
              all_goals (refine TH15.step ?_; intro x53 x54 x55 x56 x57 L W hI hL hd K hK)
              · rw [if_pos (by rfl)]
                go_simp
                exact hK.out _ _ ⟨_, _, _, _, _, rfl, hI.s0⟩
              · have hx0 := hI.p0 (hd 0 (by decide))
                subst hx0
                rw [if_pos (by rfl)]
                go_simp
                exact hK.out _ _ ⟨_, _, _, _, _, rfl, hI.s1⟩
              · rw [if_pos (by rfl)]
                go_simp
                exact hK.out _ _ ⟨_, _, _, _, _, rfl, hI.s2⟩
              · have hx2 := hI.p2 (hd 2 (by decide))
                subst hx2
                rw [if_pos (by rfl)]
                go_simp
                exact hK.out _ _ ⟨_, _, _, _, _, rfl, hI.s3⟩
              · have hx1 := hI.p1 (hd 1 (by decide))
                subst hx1
                have hx3 := hI.p3 (hd 3 (by decide))
                subst hx3
                have hx0 := hI.x
                rw [hL] at hx0
                refine step_copy_arr (by rfl) (.tmp 54) (.tmp 56) rfl G 47 32 B (off + 37) (pc - 37) IC1 32 rfl rfl hx0.bx (by have := L0.out; omega) NN HOL.out.2 (Ioq.out _ hx0.sl).2 ?_
                have hrr := Row.setCells (NN.map B8) 32 W IC1 hx0.bx (by rw [List.length_map, HOL.out.2]; have := L0.out; omega)
                rw [S2.out] at hrr
                have hX := hx0.store (SameBut.setCells G (NN.map B8) 32 W) hrr
                exact hK.out _ _ ⟨_, _, _, _, _, rfl, hI.s4 hX⟩
            · refine TH15.ends ?_; intro x53 x54 x55 x56 x57 L W hall hI
              have hx0 := hI.p0 (hall 0 (by decide))
              subst hx0
              have hx1 := hI.p1 (hall 1 (by decide))
              subst hx1
              have hx2 := hI.p2 (hall 2 (by decide))
              subst hx2
              have hx3 := hI.p3 (hall 3 (by decide))
              subst hx3
              have hx4 := hI.p4 (hall 4 (by decide))
              subst hx4
              have hXe := hI.x
              rw [hall 4 (by decide)] at hXe
              clear hI hall
              try dsimp only
              have HT3 : Hid (ThW N w G (some ⟨B, off, none⟩) n pc p IC1 IC2 true W) := hXe
              clear hXe HS2
              go_wp2_with (first
                | (have hz := HT3; clear hz; refine wpList_load_Row rfl 47 (.tmp 8) rfl G 47 IC2 HT3.out.bx rfl _ Tryd.underlying47 rfl (by rw [L0.out.2.2]; kernel_rfl) ?_)
                | (have hz := HT3; clear hz; refine wpList_store_Row rfl 47 (.tmp 2) (.tmp 58) rfl w.heap.size 47 0 zInf IC2 HT3.out.res (by rw [L0.out.2.2]; exact Nat.le_refl _) rfl rfl (by rw [L0.out.2.2]; kernel_rfl) O0.out.2 ?_; intro w8 hr8 hs8; have q8 := row_whole hr8 (by rw [L0.out.2.2]; exact Nat.le_refl _); have H8 : Hid (ThP w (startR p) (.returned (.tuple #[.agg IC2.toArray, .pointer none])) w8) := HE.out _ (hs8.below HT3.out.bel (Nat.le_refl _)); clear HT3 hr8 hs8))
              refine bodyPost_ret_by (results_rowtmp Tryd.results26 _ w8 w.heap.size 47 _ _ rfl q8 Tryd.underlying47 rfl (by rw [L0.out.2.2]; kernel_rfl)) rfl ?_
              exact H8.out
end Go.Proofs.YtdfbfheceobboaaDoor
