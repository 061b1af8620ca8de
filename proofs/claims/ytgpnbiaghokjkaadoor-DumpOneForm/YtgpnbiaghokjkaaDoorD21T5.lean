import Derived.Test.YtgpnbiaghokjkaaDoorD21T4
/-! Layer 21, the landed code: takeCell. (Printed by tools/genc21.py.) -/
namespace Go.Proofs.YtgpnbiaghokjkaaDoor
open Go.RowKit
set_option linter.unusedVariables false
set_option linter.unusedSimpArgs false
set_option maxRecDepth 100000

abbrev zc32 : List Value := (List.replicate 32 (0#8 : By)).map B8
/-- A cell's line. -/
def stL (C : Nat) (L : List By) (t : St) (pg cl : Nat) : Option (St × Nat × Nat) :=
  match cellC L with
  | some (n, x) => if 0 < pg ∧ cl ≤ n ∧ n < C ∧ ¬ x = List.replicate 32 255#8 then some (⟨t.pages.set (pg - 1) ((t.pages.getD (pg - 1) []).set n x), t.erases, t.blown⟩, pg, n + 1) else none
  | none => none
theorem new_cell {w w' : World} {o : Obj} (h : SameBut w.heap.size (w.alloc o) w') : Below w.heap.size w w' := h.below ((Below.refl _ _).alloc (Nat.le_refl _) _) (Nat.le_refl _)
/-- A part of a row stored in a drawn order. -/
theorem step_store_off {ops : Array Oper} {o : Oper} {a : Act} {w : World} {K : Act → World → Prop} {Q : Exit → Act → World → Prop} {X : Prop} (hgd : o.guard = none) (ty : TypeId) (x y : Operand) (ho : o.op = .store ty x y)
    (g t off : Nat) (old new : List Value) (hr : Row w g t old) (hl : off + new.length ≤ old.length) (hx : a.eval x = .pointer (some ⟨g, off, none⟩)) (hy : a.eval y = .agg new.toArray)
    (hi : (Tryd.prog.info? ty).map (·.size) = some new.length) (h1 : ∀ v ∈ new, v.oneCell' = true)
    (h : ∀ w', Row w' g t (old.take off ++ new ++ old.drop (off + new.length)) → SameBut g w w' → K (a.put o.dst undef) w') : if Region.wanted o (yielded ops a.tmps) = true then Oper.wp Tryd.prog o a w K Q else X := by
  have hw : Region.wanted o (yielded ops a.tmps) = true := by simp [Region.wanted, hgd]
  rw [if_pos hw]
  refine wp_store_mid ty x y ho g off new.toArray hx hy ?_ (by simpa using hi) (all_oneCell_toArray h1) (h _ ?_ ?_)
  · intro j hj
    refine ⟨?_, hr.frozen _⟩
    have hj' : off + j < old.length := by simp at hj; omega
    rw [hr.cell (off + j) old[off + j] (List.getElem?_eq_getElem hj')]; rfl
  · exact Row.setCells new off w old hr hl
  · exact SameBut.setCells g new off w
/-- Around a drawn order that ends in a panic. -/
structure WF (W1 : World) (l : Bool) (W : World) : Prop where
  z : W = W1.drew
  nf : l = false
theorem WF.zero {W1 : World} : WF W1 false W1.drew := ⟨rfl, rfl⟩
/-- The same where memory is made ahead of it. -/
structure WB (W1 : World) (b l : Bool) (W : World) : Prop where
  bel : Below W1.heap.size W1 W
  ok : l = true → b = true
section
variable {W1 W W2 : World} {b l : Bool}
theorem WB.zero : WB W1 b false W1.drew := ⟨(Below.refl _ _).drew, fun e => (by cases e)⟩
theorem WB.on (h : WB W1 b l W) (hb : Below W.heap.size W W2) : WB W1 b l W2 := ⟨h.bel.trans (hb.mono h.bel.size), h.ok⟩
theorem WB.did (h : WB W1 b l W) (e : b = true) : WB W1 b true W := ⟨h.bel, fun _ => e⟩
end
structure TcA (W1 : World) (R pg cl n C : Nat) (L : Nat → Bool) (x20 x21 x22 x23 x24 x25 x26 x27 x28 x29 x30 x31 x32 x33 x34 x35 x36 x37 x38 x39 x40 x41 x42 x43 x44 x45 x46 x47 : Value) (W : World) : Prop where
  x : WF W1 (L 27) W
  p0 : L 0 = true → x20 = .pointer (some ⟨R, 0, none⟩)
  p1 : L 1 = true → x21 = .pointer (some ⟨R, 0, none⟩)
  p2 : L 2 = true → x22 = .pointer (some ⟨R, 11, none⟩)
  p3 : L 3 = true → x23 = .int .i64 (pg : Int)
  p4 : L 4 = true → x24 = .bool false
  p5 : L 5 = true → x25 = .bool false
  p12 : L 12 = true → x32 = .bool false
  p13 : L 13 = true → x33 = .bool false
  p21 : L 21 = true → x41 = .bool false
  p22 : L 22 = true → x42 = .bool false
  p26 : L 26 = true → x46 = .bool false
section
variable {W1 : World} {R pg cl n C : Nat} {L : Nat → Bool} {x20 x21 x22 x23 x24 x25 x26 x27 x28 x29 x30 x31 x32 x33 x34 x35 x36 x37 x38 x39 x40 x41 x42 x43 x44 x45 x46 x47 : Value} {W W2 : World}
end
@[reducible] def ITcA (W1 : World) (R pg cl n C : Nat) (y0 y1 y2 y3 y4 y5 y6 y7 y8 y9 y10 y11 y12 y13 y14 y15 y16 y17 y18 y19 y48 y49 y50 y51 y52 y53 y54 y55 y56 y57 y58 y59 y60 y61 y62 y63 y64 y65 y66 y67 : Value) : (Nat → Bool) → Act → World → Prop := fun L a W => ∃ x20 x21 x22 x23 x24 x25 x26 x27 x28 x29 x30 x31 x32 x33 x34 x35 x36 x37 x38 x39 x40 x41 x42 x43 x44 x45 x46 x47, a = ⟨#[y0, y1, y2, y3, y4, y5, y6, y7, y8, y9, y10, y11, y12, y13, y14, y15, y16, y17, y18, y19, x20, x21, x22, x23, x24, x25, x26, x27, x28, x29, x30, x31, x32, x33, x34, x35, x36, x37, x38, x39, x40, x41, x42, x43, x44, x45, x46, x47, y48, y49, y50, y51, y52, y53, y54, y55, y56, y57, y58, y59, y60, y61, y62, y63, y64, y65, y66, y67], []⟩ ∧ TcA W1 R pg cl n C L x20 x21 x22 x23 x24 x25 x26 x27 x28 x29 x30 x31 x32 x33 x34 x35 x36 x37 x38 x39 x40 x41 x42 x43 x44 x45 x46 x47 W
theorem TcA.step {W1 : World} {R pg cl n C : Nat} {y0 y1 y2 y3 y4 y5 y6 y7 y8 y9 y10 y11 y12 y13 y14 y15 y16 y17 y18 y19 y48 y49 y50 y51 y52 y53 y54 y55 y56 y57 y58 y59 y60 y61 y62 y63 y64 y65 y66 y67 : Value} {P : Program} {ops : Array Oper} {Q : Exit → Act → World → Prop} {i : Nat} {o : Oper} (hq : ∀ x20 x21 x22 x23 x24 x25 x26 x27 x28 x29 x30 x31 x32 x33 x34 x35 x36 x37 x38 x39 x40 x41 x42 x43 x44 x45 x46 x47 (L : Nat → Bool) (W : World), TcA W1 R pg cl n C L x20 x21 x22 x23 x24 x25 x26 x27 x28 x29 x30 x31 x32 x33 x34 x35 x36 x37 x38 x39 x40 x41 x42 x43 x44 x45 x46 x47 W → L i = false → (∀ j ∈ onesOf o, L j = true) → ∀ K : Act → World → Prop, Shut (∀ a' w', ITcA W1 R pg cl n C y0 y1 y2 y3 y4 y5 y6 y7 y8 y9 y10 y11 y12 y13 y14 y15 y16 y17 y18 y19 y48 y49 y50 y51 y52 y53 y54 y55 y56 y57 y58 y59 y60 y61 y62 y63 y64 y65 y66 y67 (upd L i) a' w' → K a' w') → if Region.wanted o (yielded ops (⟨#[y0, y1, y2, y3, y4, y5, y6, y7, y8, y9, y10, y11, y12, y13, y14, y15, y16, y17, y18, y19, x20, x21, x22, x23, x24, x25, x26, x27, x28, x29, x30, x31, x32, x33, x34, x35, x36, x37, x38, x39, x40, x41, x42, x43, x44, x45, x46, x47, y48, y49, y50, y51, y52, y53, y54, y55, y56, y57, y58, y59, y60, y61, y62, y63, y64, y65, y66, y67], []⟩ : Act).tmps) = true then Oper.wp P o ⟨#[y0, y1, y2, y3, y4, y5, y6, y7, y8, y9, y10, y11, y12, y13, y14, y15, y16, y17, y18, y19, x20, x21, x22, x23, x24, x25, x26, x27, x28, x29, x30, x31, x32, x33, x34, x35, x36, x37, x38, x39, x40, x41, x42, x43, x44, x45, x46, x47, y48, y49, y50, y51, y52, y53, y54, y55, y56, y57, y58, y59, y60, y61, y62, y63, y64, y65, y66, y67], []⟩ W K Q else K ((⟨#[y0, y1, y2, y3, y4, y5, y6, y7, y8, y9, y10, y11, y12, y13, y14, y15, y16, y17, y18, y19, x20, x21, x22, x23, x24, x25, x26, x27, x28, x29, x30, x31, x32, x33, x34, x35, x36, x37, x38, x39, x40, x41, x42, x43, x44, x45, x46, x47, y48, y49, y50, y51, y52, y53, y54, y55, y56, y57, y58, y59, y60, y61, y62, y63, y64, y65, y66, y67], []⟩ : Act).put o.dst undef) W) : StepI P ops (ITcA W1 R pg cl n C y0 y1 y2 y3 y4 y5 y6 y7 y8 y9 y10 y11 y12 y13 y14 y15 y16 y17 y18 y19 y48 y49 y50 y51 y52 y53 y54 y55 y56 y57 y58 y59 y60 y61 y62 y63 y64 y65 y66 y67) Q i o := by
  rintro L a W ⟨x20, x21, x22, x23, x24, x25, x26, x27, x28, x29, x30, x31, x32, x33, x34, x35, x36, x37, x38, x39, x40, x41, x42, x43, x44, x45, x46, x47, rfl, h⟩
  exact hq _ _ _ _ _ _ _ _ _ _ _ _ _ _ _ _ _ _ _ _ _ _ _ _ _ _ _ _ _ _ h
structure TcB (W1 : World) (R pg cl n C : Nat) (L : Nat → Bool) (x20 x21 x22 x23 x24 x25 x26 x27 x28 x29 x30 x31 x32 x33 x34 x35 x36 x37 x38 x39 x40 x41 x42 x43 x44 x45 x46 x47 : Value) (W : World) : Prop where
  x : WF W1 (L 27) W
  p0 : L 0 = true → x20 = .pointer (some ⟨R, 0, none⟩)
  p1 : L 1 = true → x21 = .pointer (some ⟨R, 0, none⟩)
  p2 : L 2 = true → x22 = .pointer (some ⟨R, 11, none⟩)
  p3 : L 3 = true → x23 = .int .i64 (pg : Int)
  p4 : L 4 = true → x24 = .bool true
  p5 : L 5 = true → x25 = .bool true
  p6 : L 6 = true → x26 = .pointer (some ⟨R, 0, none⟩)
  p7 : L 7 = true → x27 = .pointer (some ⟨R, 0, none⟩)
  p8 : L 8 = true → x28 = .pointer (some ⟨R, 12, none⟩)
  p9 : L 9 = true → x29 = .int .i64 (cl : Int)
  p10 : L 10 = true → x30 = .int .i64 (n : Int)
  p11 : L 11 = true → x31 = .bool false
  p12 : L 12 = true → x32 = .bool false
  p13 : L 13 = true → x33 = .bool false
  p21 : L 21 = true → x41 = .bool false
  p22 : L 22 = true → x42 = .bool false
  p26 : L 26 = true → x46 = .bool false
section
variable {W1 : World} {R pg cl n C : Nat} {L : Nat → Bool} {x20 x21 x22 x23 x24 x25 x26 x27 x28 x29 x30 x31 x32 x33 x34 x35 x36 x37 x38 x39 x40 x41 x42 x43 x44 x45 x46 x47 : Value} {W W2 : World}
end
@[reducible] def ITcB (W1 : World) (R pg cl n C : Nat) (y0 y1 y2 y3 y4 y5 y6 y7 y8 y9 y10 y11 y12 y13 y14 y15 y16 y17 y18 y19 y48 y49 y50 y51 y52 y53 y54 y55 y56 y57 y58 y59 y60 y61 y62 y63 y64 y65 y66 y67 : Value) : (Nat → Bool) → Act → World → Prop := fun L a W => ∃ x20 x21 x22 x23 x24 x25 x26 x27 x28 x29 x30 x31 x32 x33 x34 x35 x36 x37 x38 x39 x40 x41 x42 x43 x44 x45 x46 x47, a = ⟨#[y0, y1, y2, y3, y4, y5, y6, y7, y8, y9, y10, y11, y12, y13, y14, y15, y16, y17, y18, y19, x20, x21, x22, x23, x24, x25, x26, x27, x28, x29, x30, x31, x32, x33, x34, x35, x36, x37, x38, x39, x40, x41, x42, x43, x44, x45, x46, x47, y48, y49, y50, y51, y52, y53, y54, y55, y56, y57, y58, y59, y60, y61, y62, y63, y64, y65, y66, y67], []⟩ ∧ TcB W1 R pg cl n C L x20 x21 x22 x23 x24 x25 x26 x27 x28 x29 x30 x31 x32 x33 x34 x35 x36 x37 x38 x39 x40 x41 x42 x43 x44 x45 x46 x47 W
theorem TcB.step {W1 : World} {R pg cl n C : Nat} {y0 y1 y2 y3 y4 y5 y6 y7 y8 y9 y10 y11 y12 y13 y14 y15 y16 y17 y18 y19 y48 y49 y50 y51 y52 y53 y54 y55 y56 y57 y58 y59 y60 y61 y62 y63 y64 y65 y66 y67 : Value} {P : Program} {ops : Array Oper} {Q : Exit → Act → World → Prop} {i : Nat} {o : Oper} (hq : ∀ x20 x21 x22 x23 x24 x25 x26 x27 x28 x29 x30 x31 x32 x33 x34 x35 x36 x37 x38 x39 x40 x41 x42 x43 x44 x45 x46 x47 (L : Nat → Bool) (W : World), TcB W1 R pg cl n C L x20 x21 x22 x23 x24 x25 x26 x27 x28 x29 x30 x31 x32 x33 x34 x35 x36 x37 x38 x39 x40 x41 x42 x43 x44 x45 x46 x47 W → L i = false → (∀ j ∈ onesOf o, L j = true) → ∀ K : Act → World → Prop, Shut (∀ a' w', ITcB W1 R pg cl n C y0 y1 y2 y3 y4 y5 y6 y7 y8 y9 y10 y11 y12 y13 y14 y15 y16 y17 y18 y19 y48 y49 y50 y51 y52 y53 y54 y55 y56 y57 y58 y59 y60 y61 y62 y63 y64 y65 y66 y67 (upd L i) a' w' → K a' w') → if Region.wanted o (yielded ops (⟨#[y0, y1, y2, y3, y4, y5, y6, y7, y8, y9, y10, y11, y12, y13, y14, y15, y16, y17, y18, y19, x20, x21, x22, x23, x24, x25, x26, x27, x28, x29, x30, x31, x32, x33, x34, x35, x36, x37, x38, x39, x40, x41, x42, x43, x44, x45, x46, x47, y48, y49, y50, y51, y52, y53, y54, y55, y56, y57, y58, y59, y60, y61, y62, y63, y64, y65, y66, y67], []⟩ : Act).tmps) = true then Oper.wp P o ⟨#[y0, y1, y2, y3, y4, y5, y6, y7, y8, y9, y10, y11, y12, y13, y14, y15, y16, y17, y18, y19, x20, x21, x22, x23, x24, x25, x26, x27, x28, x29, x30, x31, x32, x33, x34, x35, x36, x37, x38, x39, x40, x41, x42, x43, x44, x45, x46, x47, y48, y49, y50, y51, y52, y53, y54, y55, y56, y57, y58, y59, y60, y61, y62, y63, y64, y65, y66, y67], []⟩ W K Q else K ((⟨#[y0, y1, y2, y3, y4, y5, y6, y7, y8, y9, y10, y11, y12, y13, y14, y15, y16, y17, y18, y19, x20, x21, x22, x23, x24, x25, x26, x27, x28, x29, x30, x31, x32, x33, x34, x35, x36, x37, x38, x39, x40, x41, x42, x43, x44, x45, x46, x47, y48, y49, y50, y51, y52, y53, y54, y55, y56, y57, y58, y59, y60, y61, y62, y63, y64, y65, y66, y67], []⟩ : Act).put o.dst undef) W) : StepI P ops (ITcB W1 R pg cl n C y0 y1 y2 y3 y4 y5 y6 y7 y8 y9 y10 y11 y12 y13 y14 y15 y16 y17 y18 y19 y48 y49 y50 y51 y52 y53 y54 y55 y56 y57 y58 y59 y60 y61 y62 y63 y64 y65 y66 y67) Q i o := by
  rintro L a W ⟨x20, x21, x22, x23, x24, x25, x26, x27, x28, x29, x30, x31, x32, x33, x34, x35, x36, x37, x38, x39, x40, x41, x42, x43, x44, x45, x46, x47, rfl, h⟩
  exact hq _ _ _ _ _ _ _ _ _ _ _ _ _ _ _ _ _ _ _ _ _ _ _ _ _ _ _ _ _ _ h
structure TcC (W1 : World) (R pg cl n C : Nat) (L : Nat → Bool) (x20 x21 x22 x23 x24 x25 x26 x27 x28 x29 x30 x31 x32 x33 x34 x35 x36 x37 x38 x39 x40 x41 x42 x43 x44 x45 x46 x47 : Value) (W : World) : Prop where
  x : WF W1 (L 27) W
  p0 : L 0 = true → x20 = .pointer (some ⟨R, 0, none⟩)
  p1 : L 1 = true → x21 = .pointer (some ⟨R, 0, none⟩)
  p2 : L 2 = true → x22 = .pointer (some ⟨R, 11, none⟩)
  p3 : L 3 = true → x23 = .int .i64 (pg : Int)
  p4 : L 4 = true → x24 = .bool true
  p5 : L 5 = true → x25 = .bool true
  p6 : L 6 = true → x26 = .pointer (some ⟨R, 0, none⟩)
  p7 : L 7 = true → x27 = .pointer (some ⟨R, 0, none⟩)
  p8 : L 8 = true → x28 = .pointer (some ⟨R, 12, none⟩)
  p9 : L 9 = true → x29 = .int .i64 (cl : Int)
  p10 : L 10 = true → x30 = .int .i64 (n : Int)
  p11 : L 11 = true → x31 = .bool true
  p12 : L 12 = true → x32 = .bool true
  p13 : L 13 = true → x33 = .bool true
  p14 : L 14 = true → x34 = .int .i64 (n : Int)
  p15 : L 15 = true → x35 = .pointer (some ⟨R, 0, none⟩)
  p16 : L 16 = true → x36 = .pointer (some ⟨R, 0, none⟩)
  p17 : L 17 = true → x37 = .pointer (some ⟨R, 1, none⟩)
  p18 : L 18 = true → x38 = .pointer (some ⟨R, 1, none⟩)
  p19 : L 19 = true → x39 = .int .i64 (C : Int)
  p20 : L 20 = true → x40 = .bool false
  p21 : L 21 = true → x41 = .bool false
  p22 : L 22 = true → x42 = .bool false
  p26 : L 26 = true → x46 = .bool false
section
variable {W1 : World} {R pg cl n C : Nat} {L : Nat → Bool} {x20 x21 x22 x23 x24 x25 x26 x27 x28 x29 x30 x31 x32 x33 x34 x35 x36 x37 x38 x39 x40 x41 x42 x43 x44 x45 x46 x47 : Value} {W W2 : World}
end
@[reducible] def ITcC (W1 : World) (R pg cl n C : Nat) (y0 y1 y2 y3 y4 y5 y6 y7 y8 y9 y10 y11 y12 y13 y14 y15 y16 y17 y18 y19 y48 y49 y50 y51 y52 y53 y54 y55 y56 y57 y58 y59 y60 y61 y62 y63 y64 y65 y66 y67 : Value) : (Nat → Bool) → Act → World → Prop := fun L a W => ∃ x20 x21 x22 x23 x24 x25 x26 x27 x28 x29 x30 x31 x32 x33 x34 x35 x36 x37 x38 x39 x40 x41 x42 x43 x44 x45 x46 x47, a = ⟨#[y0, y1, y2, y3, y4, y5, y6, y7, y8, y9, y10, y11, y12, y13, y14, y15, y16, y17, y18, y19, x20, x21, x22, x23, x24, x25, x26, x27, x28, x29, x30, x31, x32, x33, x34, x35, x36, x37, x38, x39, x40, x41, x42, x43, x44, x45, x46, x47, y48, y49, y50, y51, y52, y53, y54, y55, y56, y57, y58, y59, y60, y61, y62, y63, y64, y65, y66, y67], []⟩ ∧ TcC W1 R pg cl n C L x20 x21 x22 x23 x24 x25 x26 x27 x28 x29 x30 x31 x32 x33 x34 x35 x36 x37 x38 x39 x40 x41 x42 x43 x44 x45 x46 x47 W
theorem TcC.step {W1 : World} {R pg cl n C : Nat} {y0 y1 y2 y3 y4 y5 y6 y7 y8 y9 y10 y11 y12 y13 y14 y15 y16 y17 y18 y19 y48 y49 y50 y51 y52 y53 y54 y55 y56 y57 y58 y59 y60 y61 y62 y63 y64 y65 y66 y67 : Value} {P : Program} {ops : Array Oper} {Q : Exit → Act → World → Prop} {i : Nat} {o : Oper} (hq : ∀ x20 x21 x22 x23 x24 x25 x26 x27 x28 x29 x30 x31 x32 x33 x34 x35 x36 x37 x38 x39 x40 x41 x42 x43 x44 x45 x46 x47 (L : Nat → Bool) (W : World), TcC W1 R pg cl n C L x20 x21 x22 x23 x24 x25 x26 x27 x28 x29 x30 x31 x32 x33 x34 x35 x36 x37 x38 x39 x40 x41 x42 x43 x44 x45 x46 x47 W → L i = false → (∀ j ∈ onesOf o, L j = true) → ∀ K : Act → World → Prop, Shut (∀ a' w', ITcC W1 R pg cl n C y0 y1 y2 y3 y4 y5 y6 y7 y8 y9 y10 y11 y12 y13 y14 y15 y16 y17 y18 y19 y48 y49 y50 y51 y52 y53 y54 y55 y56 y57 y58 y59 y60 y61 y62 y63 y64 y65 y66 y67 (upd L i) a' w' → K a' w') → if Region.wanted o (yielded ops (⟨#[y0, y1, y2, y3, y4, y5, y6, y7, y8, y9, y10, y11, y12, y13, y14, y15, y16, y17, y18, y19, x20, x21, x22, x23, x24, x25, x26, x27, x28, x29, x30, x31, x32, x33, x34, x35, x36, x37, x38, x39, x40, x41, x42, x43, x44, x45, x46, x47, y48, y49, y50, y51, y52, y53, y54, y55, y56, y57, y58, y59, y60, y61, y62, y63, y64, y65, y66, y67], []⟩ : Act).tmps) = true then Oper.wp P o ⟨#[y0, y1, y2, y3, y4, y5, y6, y7, y8, y9, y10, y11, y12, y13, y14, y15, y16, y17, y18, y19, x20, x21, x22, x23, x24, x25, x26, x27, x28, x29, x30, x31, x32, x33, x34, x35, x36, x37, x38, x39, x40, x41, x42, x43, x44, x45, x46, x47, y48, y49, y50, y51, y52, y53, y54, y55, y56, y57, y58, y59, y60, y61, y62, y63, y64, y65, y66, y67], []⟩ W K Q else K ((⟨#[y0, y1, y2, y3, y4, y5, y6, y7, y8, y9, y10, y11, y12, y13, y14, y15, y16, y17, y18, y19, x20, x21, x22, x23, x24, x25, x26, x27, x28, x29, x30, x31, x32, x33, x34, x35, x36, x37, x38, x39, x40, x41, x42, x43, x44, x45, x46, x47, y48, y49, y50, y51, y52, y53, y54, y55, y56, y57, y58, y59, y60, y61, y62, y63, y64, y65, y66, y67], []⟩ : Act).put o.dst undef) W) : StepI P ops (ITcC W1 R pg cl n C y0 y1 y2 y3 y4 y5 y6 y7 y8 y9 y10 y11 y12 y13 y14 y15 y16 y17 y18 y19 y48 y49 y50 y51 y52 y53 y54 y55 y56 y57 y58 y59 y60 y61 y62 y63 y64 y65 y66 y67) Q i o := by
  rintro L a W ⟨x20, x21, x22, x23, x24, x25, x26, x27, x28, x29, x30, x31, x32, x33, x34, x35, x36, x37, x38, x39, x40, x41, x42, x43, x44, x45, x46, x47, rfl, h⟩
  exact hq _ _ _ _ _ _ _ _ _ _ _ _ _ _ _ _ _ _ _ _ _ _ _ _ _ _ _ _ _ _ h
structure TcD (W1 : World) (R pg cl n C : Nat) (XC : List Value) (BL : Array Value) (bq : Bool) (L : Nat → Bool) (x20 x21 x22 x23 x24 x25 x26 x27 x28 x29 x30 x31 x32 x33 x34 x35 x36 x37 x38 x39 x40 x41 x42 x43 x44 x45 x46 x47 : Value) (W : World) : Prop where
  x : WB W1 bq (L 27) W
  p0 : L 0 = true → x20 = .pointer (some ⟨R, 0, none⟩)
  p1 : L 1 = true → x21 = .pointer (some ⟨R, 0, none⟩)
  p2 : L 2 = true → x22 = .pointer (some ⟨R, 11, none⟩)
  p3 : L 3 = true → x23 = .int .i64 (pg : Int)
  p4 : L 4 = true → x24 = .bool true
  p5 : L 5 = true → x25 = .bool true
  p6 : L 6 = true → x26 = .pointer (some ⟨R, 0, none⟩)
  p7 : L 7 = true → x27 = .pointer (some ⟨R, 0, none⟩)
  p8 : L 8 = true → x28 = .pointer (some ⟨R, 12, none⟩)
  p9 : L 9 = true → x29 = .int .i64 (cl : Int)
  p10 : L 10 = true → x30 = .int .i64 (n : Int)
  p11 : L 11 = true → x31 = .bool true
  p12 : L 12 = true → x32 = .bool true
  p13 : L 13 = true → x33 = .bool true
  p14 : L 14 = true → x34 = .int .i64 (n : Int)
  p15 : L 15 = true → x35 = .pointer (some ⟨R, 0, none⟩)
  p16 : L 16 = true → x36 = .pointer (some ⟨R, 0, none⟩)
  p17 : L 17 = true → x37 = .pointer (some ⟨R, 1, none⟩)
  p18 : L 18 = true → x38 = .pointer (some ⟨R, 1, none⟩)
  p19 : L 19 = true → x39 = .int .i64 (C : Int)
  p20 : L 20 = true → x40 = .bool true
  p21 : L 21 = true → x41 = .bool true
  p22 : L 22 = true → x42 = .bool true
  p23 : L 23 = true → x43 = .agg XC.toArray
  p24 : L 24 = true → x44 = .agg BL
  p25 : L 25 = true → x45 = .bool bq
  p26 : L 26 = true → x46 = .bool bq
section
variable {W1 : World} {R pg cl n C : Nat} {XC : List Value} {BL : Array Value} {bq : Bool} {L : Nat → Bool} {x20 x21 x22 x23 x24 x25 x26 x27 x28 x29 x30 x31 x32 x33 x34 x35 x36 x37 x38 x39 x40 x41 x42 x43 x44 x45 x46 x47 : Value} {W W2 : World}
end
@[reducible] def ITcD (W1 : World) (R pg cl n C : Nat) (XC : List Value) (BL : Array Value) (bq : Bool) (y0 y1 y2 y3 y4 y5 y6 y7 y8 y9 y10 y11 y12 y13 y14 y15 y16 y17 y18 y19 y48 y49 y50 y51 y52 y53 y54 y55 y56 y57 y58 y59 y60 y61 y62 y63 y64 y65 y66 y67 : Value) : (Nat → Bool) → Act → World → Prop := fun L a W => ∃ x20 x21 x22 x23 x24 x25 x26 x27 x28 x29 x30 x31 x32 x33 x34 x35 x36 x37 x38 x39 x40 x41 x42 x43 x44 x45 x46 x47, a = ⟨#[y0, y1, y2, y3, y4, y5, y6, y7, y8, y9, y10, y11, y12, y13, y14, y15, y16, y17, y18, y19, x20, x21, x22, x23, x24, x25, x26, x27, x28, x29, x30, x31, x32, x33, x34, x35, x36, x37, x38, x39, x40, x41, x42, x43, x44, x45, x46, x47, y48, y49, y50, y51, y52, y53, y54, y55, y56, y57, y58, y59, y60, y61, y62, y63, y64, y65, y66, y67], []⟩ ∧ TcD W1 R pg cl n C XC BL bq L x20 x21 x22 x23 x24 x25 x26 x27 x28 x29 x30 x31 x32 x33 x34 x35 x36 x37 x38 x39 x40 x41 x42 x43 x44 x45 x46 x47 W
theorem TcD.step {W1 : World} {R pg cl n C : Nat} {XC : List Value} {BL : Array Value} {bq : Bool} {y0 y1 y2 y3 y4 y5 y6 y7 y8 y9 y10 y11 y12 y13 y14 y15 y16 y17 y18 y19 y48 y49 y50 y51 y52 y53 y54 y55 y56 y57 y58 y59 y60 y61 y62 y63 y64 y65 y66 y67 : Value} {P : Program} {ops : Array Oper} {Q : Exit → Act → World → Prop} {i : Nat} {o : Oper} (hq : ∀ x20 x21 x22 x23 x24 x25 x26 x27 x28 x29 x30 x31 x32 x33 x34 x35 x36 x37 x38 x39 x40 x41 x42 x43 x44 x45 x46 x47 (L : Nat → Bool) (W : World), TcD W1 R pg cl n C XC BL bq L x20 x21 x22 x23 x24 x25 x26 x27 x28 x29 x30 x31 x32 x33 x34 x35 x36 x37 x38 x39 x40 x41 x42 x43 x44 x45 x46 x47 W → L i = false → (∀ j ∈ onesOf o, L j = true) → ∀ K : Act → World → Prop, Shut (∀ a' w', ITcD W1 R pg cl n C XC BL bq y0 y1 y2 y3 y4 y5 y6 y7 y8 y9 y10 y11 y12 y13 y14 y15 y16 y17 y18 y19 y48 y49 y50 y51 y52 y53 y54 y55 y56 y57 y58 y59 y60 y61 y62 y63 y64 y65 y66 y67 (upd L i) a' w' → K a' w') → if Region.wanted o (yielded ops (⟨#[y0, y1, y2, y3, y4, y5, y6, y7, y8, y9, y10, y11, y12, y13, y14, y15, y16, y17, y18, y19, x20, x21, x22, x23, x24, x25, x26, x27, x28, x29, x30, x31, x32, x33, x34, x35, x36, x37, x38, x39, x40, x41, x42, x43, x44, x45, x46, x47, y48, y49, y50, y51, y52, y53, y54, y55, y56, y57, y58, y59, y60, y61, y62, y63, y64, y65, y66, y67], []⟩ : Act).tmps) = true then Oper.wp P o ⟨#[y0, y1, y2, y3, y4, y5, y6, y7, y8, y9, y10, y11, y12, y13, y14, y15, y16, y17, y18, y19, x20, x21, x22, x23, x24, x25, x26, x27, x28, x29, x30, x31, x32, x33, x34, x35, x36, x37, x38, x39, x40, x41, x42, x43, x44, x45, x46, x47, y48, y49, y50, y51, y52, y53, y54, y55, y56, y57, y58, y59, y60, y61, y62, y63, y64, y65, y66, y67], []⟩ W K Q else K ((⟨#[y0, y1, y2, y3, y4, y5, y6, y7, y8, y9, y10, y11, y12, y13, y14, y15, y16, y17, y18, y19, x20, x21, x22, x23, x24, x25, x26, x27, x28, x29, x30, x31, x32, x33, x34, x35, x36, x37, x38, x39, x40, x41, x42, x43, x44, x45, x46, x47, y48, y49, y50, y51, y52, y53, y54, y55, y56, y57, y58, y59, y60, y61, y62, y63, y64, y65, y66, y67], []⟩ : Act).put o.dst undef) W) : StepI P ops (ITcD W1 R pg cl n C XC BL bq y0 y1 y2 y3 y4 y5 y6 y7 y8 y9 y10 y11 y12 y13 y14 y15 y16 y17 y18 y19 y48 y49 y50 y51 y52 y53 y54 y55 y56 y57 y58 y59 y60 y61 y62 y63 y64 y65 y66 y67) Q i o := by
  rintro L a W ⟨x20, x21, x22, x23, x24, x25, x26, x27, x28, x29, x30, x31, x32, x33, x34, x35, x36, x37, x38, x39, x40, x41, x42, x43, x44, x45, x46, x47, rfl, h⟩
  exact hq _ _ _ _ _ _ _ _ _ _ _ _ _ _ _ _ _ _ _ _ _ _ _ _ _ _ _ _ _ _ h
structure Td (W1 : World) (R pg n C M P1 pB QB QC : Nat) (XC NR : List Value) (L : Nat → Bool) (x48 x49 x50 x51 x52 x53 x54 x55 x56 x57 x58 x59 x60 x61 x62 : Value) (W : World) : Prop where
  x : WS W1 QB 56 NR (L 15) W
  p0 : L 0 = true → x48 = .pointer (some ⟨R, 0, none⟩)
  p1 : L 1 = true → x49 = .pointer (some ⟨R, 0, none⟩)
  p2 : L 2 = true → x50 = .pointer (some ⟨R, 8, none⟩)
  p3 : L 3 = true → x51 = .pointer (some ⟨R, 8, none⟩)
  p4 : L 4 = true → x52 = .slice (some ⟨pB, 0, none⟩) M M
  p5 : L 5 = true → x53 = .pointer (some ⟨R, 0, none⟩)
  p6 : L 6 = true → x54 = .pointer (some ⟨R, 0, none⟩)
  p7 : L 7 = true → x55 = .pointer (some ⟨R, 11, none⟩)
  p8 : L 8 = true → x56 = .int .i64 (pg : Int)
  p9 : L 9 = true → x57 = .int .i64 (P1 : Int)
  p10 : L 10 = true → x58 = .pointer (some ⟨pB, P1, none⟩)
  p11 : L 11 = true → x59 = .slice (some ⟨QB, 0, none⟩) C QC
  p12 : L 12 = true → x60 = .int .i64 (n : Int)
  p13 : L 13 = true → x61 = .agg XC.toArray
  p14 : L 14 = true → x62 = .pointer (some ⟨QB, n * 32, none⟩)
section
variable {W1 : World} {R pg n C M P1 pB QB QC : Nat} {XC NR : List Value} {L : Nat → Bool} {x48 x49 x50 x51 x52 x53 x54 x55 x56 x57 x58 x59 x60 x61 x62 : Value} {W W2 : World}
end
@[reducible] def ITd (W1 : World) (R pg n C M P1 pB QB QC : Nat) (XC NR : List Value) (y0 y1 y2 y3 y4 y5 y6 y7 y8 y9 y10 y11 y12 y13 y14 y15 y16 y17 y18 y19 y20 y21 y22 y23 y24 y25 y26 y27 y28 y29 y30 y31 y32 y33 y34 y35 y36 y37 y38 y39 y40 y41 y42 y43 y44 y45 y46 y47 y63 y64 y65 y66 y67 : Value) : (Nat → Bool) → Act → World → Prop := fun L a W => ∃ x48 x49 x50 x51 x52 x53 x54 x55 x56 x57 x58 x59 x60 x61 x62, a = ⟨#[y0, y1, y2, y3, y4, y5, y6, y7, y8, y9, y10, y11, y12, y13, y14, y15, y16, y17, y18, y19, y20, y21, y22, y23, y24, y25, y26, y27, y28, y29, y30, y31, y32, y33, y34, y35, y36, y37, y38, y39, y40, y41, y42, y43, y44, y45, y46, y47, x48, x49, x50, x51, x52, x53, x54, x55, x56, x57, x58, x59, x60, x61, x62, y63, y64, y65, y66, y67], []⟩ ∧ Td W1 R pg n C M P1 pB QB QC XC NR L x48 x49 x50 x51 x52 x53 x54 x55 x56 x57 x58 x59 x60 x61 x62 W
set_option maxHeartbeats 8000000 in
theorem takeCell_any (N R ln C M : Nat) (c : Cfg) (t : St) (pB eB bB : Nat) (ps : List (Nat × Nat)) (pg cl : Nat) (L : List By) (hL : L.length ≤ 140737488355328) (hcc : c.cells = (C : Int)) (hC : C ≤ 1000) (hM : M ≤ 1000) (hp : t.pages.length = M) (hpg : pg ≤ M) (hcl : cl ≤ 1000) (hg : ∀ p ∈ t.pages, p.length = C) (w : World) (h : RdM N R ln c t pB eB bB ps pg cl w) :
    Calls Tryd.prog 61 #[.pointer (some ⟨R, 0, none⟩), .string (strOf L)] w (TkS N R ln c (stL C L t pg cl) pB eB bB ps w) := by
  have HA : Hid (∀ W : World, Calls Tryd.prog 66 #[.string (strOf L), .string { data := #[99, 101, 108, 108] }] W fun e w' => e = aftE L wCell ∧ w' = W) := fun W => by
    rw [k_cell]; exact after_any L wCell hL (by decide) W
  have H0 : Hid (RdM N R ln c t pB eB bB ps pg cl w) := h
  have HP : Hid (t.pages.length = M) := hp
  have HCC : Hid (c.cells = (C : Int)) := hcc
  have HG : Hid (∀ p ∈ t.pages, p.length = C) := hg
  clear h hp hcc hg
  by_cases h1 : L.take wCell.length = wCell
  · have HE : aftE L wCell = .returned (.string (strOf (L.drop wCell.length))) := by unfold aftE; exact if_pos h1
    rw [HE] at HA
    have HC : cellC L = (match numC (L.drop wCell.length) with | some (n, t) => (match hexR t with | some (x, u) => if u = [10#8] then some (n, x) else none | none => none) | none => none) := by unfold cellC; exact if_pos h1
    have hsl : (L.drop wCell.length).length ≤ 140737488355328 := by rw [List.length_drop]; omega
    clear HE h1
    generalize L.drop wCell.length = r0 at *
    generalize hSL : strOf L = SL at *
    have HN1 : Hid (∀ W : World, Calls Tryd.prog 67 #[.string (strOf r0)] W fun e w' => e = numE r0 ∧ Dr W w') := fun W => number_any r0 hsl W
    unfold numE at HN1
    cases h0 : numC r0 with
    | none =>
      rw [h0] at HN1 HC
      have HX : Hid (stL C L t pg cl = none) := by show stL C L t pg cl = none; unfold stL; rw [HC]
      clear HC
      generalize strOf r0 = S0 at *
      go_enter Tryd.func61, Tryd.ntmps61
      go_wp2_with (first
        | (refine (HA.out _).mono ?_; clear HA; rintro e w1 ⟨rfl, hw1⟩; rw [hw1]; clear hw1 w1)
        | (refine (HN1.out _).mono ?_; clear HN1; rintro e w1 ⟨rfl, hd1⟩; have H1 : Hid (RdM N R ln c t pB eB bB ps pg cl w1 ∧ BX N R w w1) := ⟨H0.out.dr hd1, (BX.refl _).dr hd1⟩; clear H0 hd1)
      )
      refine ⟨rfl, ?_⟩
      rw [HX.out]
      exact ⟨rfl, H1.out.1.c0, H1.out.2⟩
    | some q =>
      obtain ⟨n, r1⟩ := q
      rw [h0] at HN1 HC
      dsimp only at HN1 HC
      have hl1 := numC_le h0
      have hnm := (numC_some h0).2.1
      have HX1 : Hid (∀ W : World, Calls Tryd.prog 74 #[.string (strOf r1)] W fun e w' => e = hexE r1 ∧ Below W.heap.size W w') := fun W => cellOf_any r1 (by omega) W
      unfold hexE at HX1
      clear h0
      generalize strOf r0 = S0 at *
      cases h2 : hexR r1 with
      | none =>
        rw [h2] at HX1 HC
        have HX : Hid (stL C L t pg cl = none) := by show stL C L t pg cl = none; unfold stL; rw [HC]
        clear HC
        generalize strOf r1 = S1 at *
        go_enter Tryd.func61, Tryd.ntmps61
        go_wp2_with (first
          | (refine (HA.out _).mono ?_; clear HA; rintro e w1 ⟨rfl, hw1⟩; rw [hw1]; clear hw1 w1)
          | (refine (HN1.out _).mono ?_; clear HN1; rintro e w1 ⟨rfl, hd1⟩; have H1 : Hid (RdM N R ln c t pB eB bB ps pg cl w1 ∧ BX N R w w1) := ⟨H0.out.dr hd1, (BX.refl _).dr hd1⟩; clear H0 hd1)
          | (refine (HX1.out _).mono ?_; clear HX1; rintro e w2 ⟨rfl, hb2⟩; have H2 : Hid (RdM N R ln c t pB eB bB ps pg cl w2 ∧ BX N R w w2 ∧ N ≤ w2.heap.size) := ⟨H1.out.1.below hb2, H1.out.2.on hb2 H1.out.1.sz, (H1.out.1.below hb2).sz⟩; clear H1 hb2))
        refine ⟨rfl, ?_⟩
        rw [HX.out]
        exact ⟨rfl, H2.out.1.c0, H2.out.2.1⟩
      | some q =>
        obtain ⟨x, u⟩ := q
        rw [h2] at HX1 HC
        dsimp only at HX1 HC
        have hx32 := (hexR_some h2).2
        have HEN : Hid (∀ W : World, Calls Tryd.prog 68 #[.string (strOf u)] W fun e w' => e = mustE (decide (u = [10#8])) ∧ w' = W) := fun W => ended_any u W
        clear h2
        generalize strOf r1 = S1 at *
        have lx : (x.map B8).length = 32 := by rw [List.length_map, hx32]
        have ox : Hid (∀ v ∈ x.map B8, v.oneCell' = true) := B8_one _
        obtain ⟨XC, hXC⟩ : ∃ XC, x.map B8 = XC := ⟨_, rfl⟩
        rw [hXC] at lx ox HX1
        have HXC : Hid (x.map B8 = XC) := hXC
        clear hXC
        by_cases hlf : u = [10#8]
        · rw [decide_eq_true hlf] at HEN
          rw [if_pos hlf] at HC
          have HST : Hid (stL C L t pg cl = if 0 < pg ∧ cl ≤ n ∧ n < C ∧ ¬ x = List.replicate 32 255#8 then some (⟨t.pages.set (pg - 1) ((t.pages.getD (pg - 1) []).set n x), t.erases, t.blown⟩, pg, n + 1) else none) := by
            show stL C L t pg cl = _
            unfold stL; rw [HC]
          clear hlf HC
          generalize strOf u = S2 at *
          by_cases k1 : 0 < pg
          · by_cases k2 : cl ≤ n
            · by_cases k3 : n < C
              · have HBK : Hid (∀ W : World, Calls Tryd.prog 54 #[] W fun e w' => e = .returned (.agg ((List.replicate 32 (255#8 : By)).map B8).toArray) ∧ Below W.heap.size W w') := fun W => dublank_any W
                have HEQ : Hid (∀ W : World, (Op.equalIn 10000 56 (.agg XC.toArray) (.agg ((List.replicate 32 (255#8 : By)).map B8).toArray)).run Tryd.prog W = .ok (decide (x = List.replicate 32 255#8)) W) := fun W => by
                  rw [← HXC.out]; exact eq_cell x _ hx32 (by simp) W
                generalize hBL : ((List.replicate 32 (255#8 : By)).map B8).toArray = BL at *
                clear hBL
                have d1 : decide ((pg : Int) > 0) = true := decide_eq_true (by omega)
                have d1' : (pg : Int) > 0 := by omega
                have d2 : (cl : Int) ≤ (n : Int) := by omega
                have d3 : (n : Int) < (C : Int) := by omega
                obtain ⟨bq, hbq⟩ : ∃ bq, (!decide (x = List.replicate 32 255#8)) = bq := ⟨_, rfl⟩
                have HBQ : Hid ((!decide (x = List.replicate 32 255#8)) = bq) := hbq
                obtain ⟨eq, heq⟩ : ∃ eq, decide (x = List.replicate 32 255#8) = eq := ⟨_, rfl⟩
                have hne : (!eq) = bq := by rw [← heq]; exact hbq
                have HNE : Hid ((!eq) = bq) := hne
                rw [heq] at HEQ
                clear hbq heq hne
                have HCS : Hid (∀ W, Below w.heap.size w W → True) := fun _ _ => trivial
                go_enter Tryd.func61, Tryd.ntmps61
                go_wp2_with (first
                  | (refine (HA.out _).mono ?_; clear HA; rintro e w1 ⟨rfl, hw1⟩; rw [hw1]; clear hw1 w1)
                  | (refine (HN1.out _).mono ?_; clear HN1; rintro e w1 ⟨rfl, hd1⟩; have H1 : Hid (RdM N R ln c t pB eB bB ps pg cl w1 ∧ BX N R w w1) := ⟨H0.out.dr hd1, (BX.refl _).dr hd1⟩; clear H0 hd1)
                  | (refine (HX1.out _).mono ?_; clear HX1; rintro e w2 ⟨rfl, hb2⟩; have H2 : Hid (RdM N R ln c t pB eB bB ps pg cl w2 ∧ BX N R w w2 ∧ N ≤ w2.heap.size) := ⟨H1.out.1.below hb2, H1.out.2.on hb2 H1.out.1.sz, (H1.out.1.below hb2).sz⟩; clear H1 hb2)
                  | (refine wpList_store_Row rfl 56 (.tmp 6) _ rfl w2.heap.size 56 0 zc32 XC (Row.at w2 _ _ _ _ rfl rfl) (by rw [lx]; exact Nat.le_refl _) rfl rfl (by rw [lx]; kernel_rfl) ox.out ?_; intro w3 hr3 hs3; have H3 : Hid (RdM N R ln c t pB eB bB ps pg cl w3 ∧ BX N R w w3) := ⟨H2.out.1.below (new_cell hs3), H2.out.2.1.on (new_cell hs3) H2.out.2.2⟩; have HXR : Hid (Row w3 w2.heap.size 56 XC) := row_whole hr3 (by rw [lx]; exact Nat.le_refl _); clear hr3 hs3)
                  | (refine (HEN.out _).mono ?_; clear HEN; rintro e w4 ⟨rfl, hw4⟩; rw [hw4]; clear hw4 w4; dsimp only [mustE]))
                have HCE : Hid (∀ W, Below w3.heap.size w3 W → W.cell? ⟨R, 11, none⟩ = some (.int .i64 (pg : Int)) ∧ W.cell? ⟨R, 12, none⟩ = some (.int .i64 (cl : Int)) ∧ W.cell? ⟨R, 1, none⟩ = some (.int .i64 (C : Int))) := fun W hb => by
                  have q := H3.out.1.below hb
                  exact ⟨q.c11, q.c12, by rw [← HCC.out]; exact q.c1⟩
                have HRX : Hid (∀ W, Below w3.heap.size w3 W → W.rangeAt w2.heap.size 0 XC) := fun W hb => rng0 (HXR.out.below hb HXR.out.lt)
                have HPN : Hid (∀ W, bq = false → Below w3.heap.size w3 W → TkS N R ln c (stL C L t pg cl) pB eB bB ps w (pan 5) W) := fun W hb hw => by
                  have hxx : x = List.replicate 32 255#8 := by have := HBQ.out; rw [hb] at this; simpa using this
                  show TkS _ _ _ _ _ _ _ _ _ _ _ _
                  rw [HST.out, if_neg (fun h => h.2.2.2 hxx)]
                  exact ⟨rfl, (H3.out.1.below hw).c0, H3.out.2.on hw H3.out.1.sz⟩
                refine wp_region_inv (ITcD w3 R pg cl n C XC BL bq _ _ _ _ _ _ _ _ _ _ _ _ _ _ _ _ _ _ _ _ _ _ _ _ _ _ _ _ _ _ _ _ _ _ _ _ _ _ _ _) (by kernel_rfl) (by kernel_rfl) ⟨_, _, _, _, _, _, _, _, _, _, _, _, _, _, _, _, _, _, _, _, _, _, _, _, _, _, _, _, rfl, ⟨WB.zero, fun k => (by cases k), fun k => (by cases k), fun k => (by cases k), fun k => (by cases k), fun k => (by cases k), fun k => (by cases k), fun k => (by cases k), fun k => (by cases k), fun k => (by cases k), fun k => (by cases k), fun k => (by cases k), fun k => (by cases k), fun k => (by cases k), fun k => (by cases k), fun k => (by cases k), fun k => (by cases k), fun k => (by cases k), fun k => (by cases k), fun k => (by cases k), fun k => (by cases k), fun k => (by cases k), fun k => (by cases k), fun k => (by cases k), fun k => (by cases k), fun k => (by cases k), fun k => (by cases k), fun k => (by cases k)⟩⟩ ?_ ?_
                · refine .cons ?_ (.cons ?_ (.cons ?_ (.cons ?_ (.cons ?_ (.cons ?_ (.cons ?_ (.cons ?_ (.cons ?_ (.cons ?_ (.cons ?_ (.cons ?_ (.cons ?_ (.cons ?_ (.cons ?_ (.cons ?_ (.cons ?_ (.cons ?_ (.cons ?_ (.cons ?_ (.cons ?_ (.cons ?_ (.cons ?_ (.cons ?_ (.cons ?_ (.cons ?_ (.cons ?_ (.cons ?_ .nil)))))))))))))))))))))))))))
                  all_goals (refine TcD.step ?_; intro x20 x21 x22 x23 x24 x25 x26 x27 x28 x29 x30 x31 x32 x33 x34 x35 x36 x37 x38 x39 x40 x41 x42 x43 x44 x45 x46 x47 L W hI hL hd K hK)
                  · rw [if_pos (by rfl)]
                    go_simp
                    exact hK.out _ _ ⟨_, _, _, _, _, _, _, _, _, _, _, _, _, _, _, _, _, _, _, _, _, _, _, _, _, _, _, _, rfl, { hI with p0 := fun _ => rfl }⟩
                  · obtain rfl := hI.p0 (hd 0 (by decide))
                    rw [if_pos (by rfl)]
                    go_simp
                    exact hK.out _ _ ⟨_, _, _, _, _, _, _, _, _, _, _, _, _, _, _, _, _, _, _, _, _, _, _, _, _, _, _, _, rfl, { hI with p1 := fun _ => rfl }⟩
                  · obtain rfl := hI.p1 (hd 1 (by decide))
                    rw [if_pos (by rfl)]
                    go_simp
                    exact hK.out _ _ ⟨_, _, _, _, _, _, _, _, _, _, _, _, _, _, _, _, _, _, _, _, _, _, _, _, _, _, _, _, rfl, { hI with p2 := fun _ => rfl }⟩
                  · obtain rfl := hI.p2 (hd 2 (by decide))
                    rw [if_pos (by rfl)]
                    obtain ⟨e11, e12, e1⟩ := HCE.out W hI.x.bel
                    go_simp
                    exact hK.out _ _ ⟨_, _, _, _, _, _, _, _, _, _, _, _, _, _, _, _, _, _, _, _, _, _, _, _, _, _, _, _, rfl, { hI with p3 := fun _ => rfl }⟩
                  · obtain rfl := hI.p3 (hd 3 (by decide))
                    rw [if_pos (by rfl)]
                    go_simp
                    exact hK.out _ _ ⟨_, _, _, _, _, _, _, _, _, _, _, _, _, _, _, _, _, _, _, _, _, _, _, _, _, _, _, _, rfl, { hI with p4 := fun _ => rfl }⟩
                  · obtain rfl := hI.p4 (hd 4 (by decide))
                    rw [if_pos (by rfl)]
                    go_simp
                    exact hK.out _ _ ⟨_, _, _, _, _, _, _, _, _, _, _, _, _, _, _, _, _, _, _, _, _, _, _, _, _, _, _, _, rfl, { hI with p5 := fun _ => rfl }⟩
                  · obtain rfl := hI.p5 (hd 5 (by decide))
                    rw [if_pos (by rfl)]
                    go_simp
                    exact hK.out _ _ ⟨_, _, _, _, _, _, _, _, _, _, _, _, _, _, _, _, _, _, _, _, _, _, _, _, _, _, _, _, rfl, { hI with p6 := fun _ => rfl }⟩
                  · obtain rfl := hI.p6 (hd 6 (by decide))
                    obtain rfl := hI.p5 (hd 5 (by decide))
                    rw [if_pos (by rfl)]
                    go_simp
                    exact hK.out _ _ ⟨_, _, _, _, _, _, _, _, _, _, _, _, _, _, _, _, _, _, _, _, _, _, _, _, _, _, _, _, rfl, { hI with p7 := fun _ => rfl }⟩
                  · obtain rfl := hI.p7 (hd 7 (by decide))
                    obtain rfl := hI.p5 (hd 5 (by decide))
                    rw [if_pos (by rfl)]
                    go_simp
                    exact hK.out _ _ ⟨_, _, _, _, _, _, _, _, _, _, _, _, _, _, _, _, _, _, _, _, _, _, _, _, _, _, _, _, rfl, { hI with p8 := fun _ => rfl }⟩
                  · obtain rfl := hI.p8 (hd 8 (by decide))
                    obtain rfl := hI.p5 (hd 5 (by decide))
                    rw [if_pos (by rfl)]
                    obtain ⟨e11, e12, e1⟩ := HCE.out W hI.x.bel
                    go_simp
                    exact hK.out _ _ ⟨_, _, _, _, _, _, _, _, _, _, _, _, _, _, _, _, _, _, _, _, _, _, _, _, _, _, _, _, rfl, { hI with p9 := fun _ => rfl }⟩
                  · obtain rfl := hI.p5 (hd 5 (by decide))
                    rw [if_pos (by rfl)]
                    go_simp
                    exact hK.out _ _ ⟨_, _, _, _, _, _, _, _, _, _, _, _, _, _, _, _, _, _, _, _, _, _, _, _, _, _, _, _, rfl, { hI with p10 := fun _ => rfl }⟩
                  · obtain rfl := hI.p9 (hd 9 (by decide))
                    obtain rfl := hI.p10 (hd 10 (by decide))
                    obtain rfl := hI.p5 (hd 5 (by decide))
                    rw [if_pos (by rfl)]
                    go_simp
                    exact hK.out _ _ ⟨_, _, _, _, _, _, _, _, _, _, _, _, _, _, _, _, _, _, _, _, _, _, _, _, _, _, _, _, rfl, { hI with p11 := fun _ => rfl }⟩
                  · obtain rfl := hI.p5 (hd 5 (by decide))
                    obtain rfl := hI.p11 (hd 11 (by decide))
                    rw [if_pos (by rfl)]
                    go_simp
                    exact hK.out _ _ ⟨_, _, _, _, _, _, _, _, _, _, _, _, _, _, _, _, _, _, _, _, _, _, _, _, _, _, _, _, rfl, { hI with p12 := fun _ => rfl }⟩
                  · obtain rfl := hI.p12 (hd 12 (by decide))
                    rw [if_pos (by rfl)]
                    go_simp
                    exact hK.out _ _ ⟨_, _, _, _, _, _, _, _, _, _, _, _, _, _, _, _, _, _, _, _, _, _, _, _, _, _, _, _, rfl, { hI with p13 := fun _ => rfl }⟩
                  · obtain rfl := hI.p13 (hd 13 (by decide))
                    rw [if_pos (by rfl)]
                    go_simp
                    exact hK.out _ _ ⟨_, _, _, _, _, _, _, _, _, _, _, _, _, _, _, _, _, _, _, _, _, _, _, _, _, _, _, _, rfl, { hI with p14 := fun _ => rfl }⟩
                  · obtain rfl := hI.p13 (hd 13 (by decide))
                    rw [if_pos (by rfl)]
                    go_simp
                    exact hK.out _ _ ⟨_, _, _, _, _, _, _, _, _, _, _, _, _, _, _, _, _, _, _, _, _, _, _, _, _, _, _, _, rfl, { hI with p15 := fun _ => rfl }⟩
                  · obtain rfl := hI.p15 (hd 15 (by decide))
                    obtain rfl := hI.p13 (hd 13 (by decide))
                    rw [if_pos (by rfl)]
                    go_simp
                    exact hK.out _ _ ⟨_, _, _, _, _, _, _, _, _, _, _, _, _, _, _, _, _, _, _, _, _, _, _, _, _, _, _, _, rfl, { hI with p16 := fun _ => rfl }⟩
                  · obtain rfl := hI.p16 (hd 16 (by decide))
                    obtain rfl := hI.p13 (hd 13 (by decide))
                    rw [if_pos (by rfl)]
                    go_simp
                    exact hK.out _ _ ⟨_, _, _, _, _, _, _, _, _, _, _, _, _, _, _, _, _, _, _, _, _, _, _, _, _, _, _, _, rfl, { hI with p17 := fun _ => rfl }⟩
                  · obtain rfl := hI.p17 (hd 17 (by decide))
                    obtain rfl := hI.p13 (hd 13 (by decide))
                    rw [if_pos (by rfl)]
                    go_simp
                    exact hK.out _ _ ⟨_, _, _, _, _, _, _, _, _, _, _, _, _, _, _, _, _, _, _, _, _, _, _, _, _, _, _, _, rfl, { hI with p18 := fun _ => rfl }⟩
                  · obtain rfl := hI.p18 (hd 18 (by decide))
                    obtain rfl := hI.p13 (hd 13 (by decide))
                    rw [if_pos (by rfl)]
                    obtain ⟨e11, e12, e1⟩ := HCE.out W hI.x.bel
                    go_simp
                    exact hK.out _ _ ⟨_, _, _, _, _, _, _, _, _, _, _, _, _, _, _, _, _, _, _, _, _, _, _, _, _, _, _, _, rfl, { hI with p19 := fun _ => rfl }⟩
                  · obtain rfl := hI.p14 (hd 14 (by decide))
                    obtain rfl := hI.p19 (hd 19 (by decide))
                    obtain rfl := hI.p13 (hd 13 (by decide))
                    rw [if_pos (by rfl)]
                    go_simp
                    exact hK.out _ _ ⟨_, _, _, _, _, _, _, _, _, _, _, _, _, _, _, _, _, _, _, _, _, _, _, _, _, _, _, _, rfl, { hI with p20 := fun _ => rfl }⟩
                  · obtain rfl := hI.p13 (hd 13 (by decide))
                    obtain rfl := hI.p20 (hd 20 (by decide))
                    rw [if_pos (by rfl)]
                    go_simp
                    exact hK.out _ _ ⟨_, _, _, _, _, _, _, _, _, _, _, _, _, _, _, _, _, _, _, _, _, _, _, _, _, _, _, _, rfl, { hI with p21 := fun _ => rfl }⟩
                  · obtain rfl := hI.p21 (hd 21 (by decide))
                    rw [if_pos (by rfl)]
                    go_simp
                    exact hK.out _ _ ⟨_, _, _, _, _, _, _, _, _, _, _, _, _, _, _, _, _, _, _, _, _, _, _, _, _, _, _, _, rfl, { hI with p22 := fun _ => rfl }⟩
                  · obtain rfl := hI.p22 (hd 22 (by decide))
                    refine step_load_rng' (by rfl) 56 _ rfl w2.heap.size 0 XC (HRX.out W hI.x.bel) rfl _ Tryd.underlying56 rfl (by rw [lx]; kernel_rfl) ?_
                    exact hK.out _ _ ⟨_, _, _, _, _, _, _, _, _, _, _, _, _, _, _, _, _, _, _, _, _, _, _, _, _, _, _, _, rfl, { hI with p23 := fun _ => rfl }⟩
                  · obtain rfl := hI.p22 (hd 22 (by decide))
                    rw [if_pos (by rfl)]
                    go_simp
                    refine (HBK.out W).mono ?_
                    rintro e W2 ⟨rfl, hb3⟩
                    go_simp
                    exact hK.out _ _ ⟨_, _, _, _, _, _, _, _, _, _, _, _, _, _, _, _, _, _, _, _, _, _, _, _, _, _, _, _, rfl, { hI with x := (hI.x.on hb3), p24 := fun _ => rfl }⟩
                  · obtain rfl := hI.p23 (hd 23 (by decide))
                    obtain rfl := hI.p24 (hd 24 (by decide))
                    obtain rfl := hI.p22 (hd 22 (by decide))
                    rw [if_pos (by rfl)]
                    have hq := HEQ.out W
                    have hn := HNE.out
                    go_simp
                    exact hK.out _ _ ⟨_, _, _, _, _, _, _, _, _, _, _, _, _, _, _, _, _, _, _, _, _, _, _, _, _, _, _, _, rfl, { hI with p25 := fun _ => rfl }⟩
                  · obtain rfl := hI.p22 (hd 22 (by decide))
                    obtain rfl := hI.p25 (hd 25 (by decide))
                    rw [if_pos (by rfl)]
                    go_simp
                    exact hK.out _ _ ⟨_, _, _, _, _, _, _, _, _, _, _, _, _, _, _, _, _, _, _, _, _, _, _, _, _, _, _, _, rfl, { hI with p26 := fun _ => rfl }⟩
                  · obtain rfl := hI.p26 (hd 26 (by decide))
                    rw [if_pos (by rfl)]
                    go_simp
                    refine (must_any bq W).mono ?_
                    rintro e W2 ⟨he, hw2⟩
                    rw [hw2]; clear hw2 W2
                    by_cases hp : bq = false
                    · rw [he, show mustE bq = pan 5 from by rw [hp]; rfl]
                      exact ⟨rfl, HPN.out W hp hI.x.bel⟩
                    have hq : bq = true := by simpa using hp
                    rw [he, show mustE bq = .returned (.tuple #[]) from by rw [hq]; rfl]
                    dsimp only
                    have hX := hI.x.did hq
                    exact hK.out _ _ ⟨_, _, _, _, _, _, _, _, _, _, _, _, _, _, _, _, _, _, _, _, _, _, _, _, _, _, _, _, rfl, { hI with x := hX }⟩
                · rintro L _ W hall ⟨x20, x21, x22, x23, x24, x25, x26, x27, x28, x29, x30, x31, x32, x33, x34, x35, x36, x37, x38, x39, x40, x41, x42, x43, x44, x45, x46, x47, rfl, hI⟩
                  obtain rfl := hI.p0 (hall 0 (by decide))
                  obtain rfl := hI.p1 (hall 1 (by decide))
                  obtain rfl := hI.p2 (hall 2 (by decide))
                  obtain rfl := hI.p3 (hall 3 (by decide))
                  obtain rfl := hI.p4 (hall 4 (by decide))
                  obtain rfl := hI.p5 (hall 5 (by decide))
                  obtain rfl := hI.p6 (hall 6 (by decide))
                  obtain rfl := hI.p7 (hall 7 (by decide))
                  obtain rfl := hI.p8 (hall 8 (by decide))
                  obtain rfl := hI.p9 (hall 9 (by decide))
                  obtain rfl := hI.p10 (hall 10 (by decide))
                  obtain rfl := hI.p11 (hall 11 (by decide))
                  obtain rfl := hI.p12 (hall 12 (by decide))
                  obtain rfl := hI.p13 (hall 13 (by decide))
                  obtain rfl := hI.p14 (hall 14 (by decide))
                  obtain rfl := hI.p15 (hall 15 (by decide))
                  obtain rfl := hI.p16 (hall 16 (by decide))
                  obtain rfl := hI.p17 (hall 17 (by decide))
                  obtain rfl := hI.p18 (hall 18 (by decide))
                  obtain rfl := hI.p19 (hall 19 (by decide))
                  obtain rfl := hI.p20 (hall 20 (by decide))
                  obtain rfl := hI.p21 (hall 21 (by decide))
                  obtain rfl := hI.p22 (hall 22 (by decide))
                  obtain rfl := hI.p23 (hall 23 (by decide))
                  obtain rfl := hI.p24 (hall 24 (by decide))
                  obtain rfl := hI.p25 (hall 25 (by decide))
                  obtain rfl := hI.p26 (hall 26 (by decide))
                  have hXe := hI.x
                  rw [hall 27 (by decide)] at hXe
                  clear hI hall
                  try dsimp only
                  have hbt := hXe.ok rfl
                  have hb5 := hXe.bel
                  clear hXe
                  have hxx : ¬ x = List.replicate 32 255#8 := by have := HBQ.out; rw [hbt] at this; simpa using this
                  clear hbt
                  have H5 : Hid (RdM N R ln c t pB eB bB ps pg cl W ∧ BX N R w W) := ⟨H3.out.1.below hb5, H3.out.2.on hb5 H3.out.1.sz⟩
                  have HX5 : Hid (Row W w2.heap.size 56 XC) := HXR.out.below hb5 HXR.out.lt
                  rw [if_pos ⟨k1, k2, k3, hxx⟩] at HST
                  clear hb5 HCE HRX HPN HXR H3 HEQ HBK
                  obtain ⟨w5, hw5⟩ : ∃ w5, w5 = W := ⟨W, rfl⟩
                  subst hw5
                  obtain ⟨⟨Q, QC⟩, hps, hcq, hrq, hcap⟩ := H5.out.1.pgAt (pg - 1) (by rw [HP.out]; omega)
                  have hlen : (t.pages.getD (pg - 1) []).length = C := HG.out _ (by rw [List.getD_eq_getElem?_getD, List.getElem?_eq_getElem (by rw [HP.out]; omega)]; exact List.getElem_mem _)
                  have h8 : ∀ y ∈ t.pages.getD (pg - 1) [], y.length = 32 := H5.out.1.h8 _ (by rw [List.getD_eq_getElem?_getD, List.getElem?_eq_getElem (by rw [HP.out]; omega)]; exact List.getElem_mem _)
                  have hOR : ((t.pages.getD (pg - 1) []).flatten.map B8).take (n * 32) ++ XC ++ ((t.pages.getD (pg - 1) []).flatten.map B8).drop (n * 32 + XC.length) = ((t.pages.getD (pg - 1) []).set n x).flatten.map B8 := by
                    have := putAt_cell (t.pages.getD (pg - 1) []) [] n x h8 (by rw [hlen]; exact k3) hx32
                    rw [List.append_nil, List.append_nil] at this
                    rw [← HXC.out]
                    exact this
                  have hfl := flat32 _ h8
                  rw [hlen] at hcq hfl
                  dsimp only at hcq hrq
                  have hQm : Q ∈ ps.map (·.1) := List.mem_map_of_mem (f := (·.1)) (List.mem_of_getElem? hps)
                  have hRQ : R ≠ Q := fun e => H5.out.1.ne (by rw [e]; simp only [List.mem_cons]; exact .inr (.inr (.inr hQm)))
                  have hPQ : pB ≠ Q := fun e => (nd3 H5.out.1.own).2.2.2.1 (by rw [e]; exact hQm)
                  have hXQ : w2.heap.size ≠ Q := by
                    have := H2.out.1.own.lt Q (by simp only [List.mem_cons]; exact .inr (.inr (.inr hQm)))
                    omega
                  have hNQ : N ≤ Q := H5.out.1.own.lo Q (by simp only [List.mem_cons]; exact .inr (.inr (.inr hQm)))
                  have hcp := H5.out.1.own.pg
                  generalize hP1 : pg - 1 = P1 at *
                  have HWP : Hid (IntKind.i64.wrap ((pg : Int) - 1) = (P1 : Int) ∧ IntKind.i64.wrap (P1 : Int) = (P1 : Int)) := by
                    constructor
                    · rw [i64_in _ (by omega) (by omega)]; omega
                    · exact i64_in _ (by omega) (by omega)
                  have HPB : Hid ((0 : Int) ≤ (P1 : Int) ∧ (P1 : Int) < (M : Int) ∧ P1 < M) := ⟨by omega, by omega, by omega⟩
                  have HNB : Hid ((0 : Int) ≤ (n : Int) ∧ (n : Int) < (C : Int) ∧ n < C) := ⟨by omega, by omega, k3⟩
                  have H4C : Hid (∀ (ls : Bool) (W : World), WS w5 Q 56 (((t.pages.getD P1 []).set n x).flatten.map B8) ls W → W.cell? ⟨R, 8, none⟩ = some (.slice (some ⟨pB, 0, none⟩) M M) ∧ W.cell? ⟨R, 11, none⟩ = some (.int .i64 (pg : Int)) ∧ W.cell? ⟨pB, P1, none⟩ = some (.slice (some ⟨Q, 0, none⟩) C QC)) := fun ls W hw => by
                    have e8 : (rdS ln c (ownVals t pB eB bB) pg cl)[8]? = some (.slice (some ⟨pB, 0, none⟩) M M) := by
                      show some (Value.slice (some ⟨pB, 0, none⟩) t.pages.length t.pages.length) = _
                      rw [HP.out]
                    refine ⟨(hw.row H5.out.1.row hRQ).cell 8 _ e8, (hw.row H5.out.1.row hRQ).cell 11 _ rfl, ?_⟩
                    refine (hw.row hcp hPQ).cell P1 _ ?_
                    rw [List.getElem?_zipWith, hps, List.getElem?_eq_getElem (by rw [HP.out]; omega)]
                    show some (Value.slice (some ⟨Q, 0, none⟩) _ QC) = _
                    have : t.pages[P1]'(by rw [HP.out]; omega) = t.pages.getD P1 [] := by rw [List.getD_eq_getElem?_getD, List.getElem?_eq_getElem (by rw [HP.out]; omega)]; rfl
                    rw [this, hlen]
                  have HXL : Hid (∀ (ls : Bool) (W : World), WS w5 Q 56 (((t.pages.getD P1 []).set n x).flatten.map B8) ls W → W.rangeAt w2.heap.size 0 XC) := fun ls W hw => rng0 (hw.row HX5.out hXQ)
                  have HOR : Hid (((t.pages.getD P1 []).flatten.map B8).take (n * 32) ++ XC ++ ((t.pages.getD P1 []).flatten.map B8).drop (n * 32 + XC.length) = ((t.pages.getD P1 []).set n x).flatten.map B8) := hOR
                  have HRQ : Hid (Row w5 Q 56 ((t.pages.getD P1 []).flatten.map B8)) := hrq
                  have HPS : Hid (ps[P1]? = some (Q, QC)) := hps
                  have HLEN : Hid ((t.pages.getD P1 []).length = C) := hlen
                  have HFL : Hid (((t.pages.getD P1 []).flatten.map B8).length = C * 32) := hfl
                  have wk : IntKind.i64.wrap ((n : Int) + 1) = ((n + 1 : Nat) : Int) := by rw [i64_in _ (by omega) (by omega)]; omega
                  clear hOR hrq hps hcq hcap hlen h8 hfl hcp hP1
                  generalize hNR : ((t.pages.getD P1 []).set n x).flatten.map B8 = NR at *
                  go_wp2
                  refine wp_region_inv (ITd w5 R pg n C M P1 pB Q QC XC NR _ _ _ _ _ _ _ _ _ _ _ _ _ _ _ _ _ _ _ _ _ _ _ _ _ _ _ _ _ _ _ _ _ _ _ _ _ _ _ _ _ _ _ _ _ _ _ _ _ _ _ _ _) (by kernel_rfl) (by kernel_rfl) ⟨_, _, _, _, _, _, _, _, _, _, _, _, _, _, _, rfl, ⟨WS.zero, fun k => (by cases k), fun k => (by cases k), fun k => (by cases k), fun k => (by cases k), fun k => (by cases k), fun k => (by cases k), fun k => (by cases k), fun k => (by cases k), fun k => (by cases k), fun k => (by cases k), fun k => (by cases k), fun k => (by cases k), fun k => (by cases k), fun k => (by cases k), fun k => (by cases k)⟩⟩ ?_ ?_
                  · refine .cons ?_ (.cons ?_ (.cons ?_ (.cons ?_ (.cons ?_ (.cons ?_ (.cons ?_ (.cons ?_ (.cons ?_ (.cons ?_ (.cons ?_ (.cons ?_ (.cons ?_ (.cons ?_ (.cons ?_ (.cons ?_ .nil)))))))))))))))
                    all_goals (rintro L _ W ⟨x48, x49, x50, x51, x52, x53, x54, x55, x56, x57, x58, x59, x60, x61, x62, rfl, hI⟩ hL hd K hK)
                    · rw [if_pos (by rfl)]
                      go_simp
                      exact hK.out _ _ ⟨_, _, _, _, _, _, _, _, _, _, _, _, _, _, _, rfl, { hI with p0 := fun _ => rfl }⟩
                    · obtain rfl := hI.p0 (hd 0 (by decide))
                      rw [if_pos (by rfl)]
                      go_simp
                      exact hK.out _ _ ⟨_, _, _, _, _, _, _, _, _, _, _, _, _, _, _, rfl, { hI with p1 := fun _ => rfl }⟩
                    · obtain rfl := hI.p1 (hd 1 (by decide))
                      rw [if_pos (by rfl)]
                      go_simp
                      exact hK.out _ _ ⟨_, _, _, _, _, _, _, _, _, _, _, _, _, _, _, rfl, { hI with p2 := fun _ => rfl }⟩
                    · obtain rfl := hI.p2 (hd 2 (by decide))
                      rw [if_pos (by rfl)]
                      go_simp
                      exact hK.out _ _ ⟨_, _, _, _, _, _, _, _, _, _, _, _, _, _, _, rfl, { hI with p3 := fun _ => rfl }⟩
                    · obtain rfl := hI.p3 (hd 3 (by decide))
                      rw [if_pos (by rfl)]
                      obtain ⟨e8, e11, ep⟩ := H4C.out _ W hI.x
                      go_simp
                      exact hK.out _ _ ⟨_, _, _, _, _, _, _, _, _, _, _, _, _, _, _, rfl, { hI with p4 := fun _ => rfl }⟩
                    · rw [if_pos (by rfl)]
                      go_simp
                      exact hK.out _ _ ⟨_, _, _, _, _, _, _, _, _, _, _, _, _, _, _, rfl, { hI with p5 := fun _ => rfl }⟩
                    · obtain rfl := hI.p5 (hd 5 (by decide))
                      rw [if_pos (by rfl)]
                      go_simp
                      exact hK.out _ _ ⟨_, _, _, _, _, _, _, _, _, _, _, _, _, _, _, rfl, { hI with p6 := fun _ => rfl }⟩
                    · obtain rfl := hI.p6 (hd 6 (by decide))
                      rw [if_pos (by rfl)]
                      go_simp
                      exact hK.out _ _ ⟨_, _, _, _, _, _, _, _, _, _, _, _, _, _, _, rfl, { hI with p7 := fun _ => rfl }⟩
                    · obtain rfl := hI.p7 (hd 7 (by decide))
                      rw [if_pos (by rfl)]
                      obtain ⟨e8, e11, ep⟩ := H4C.out _ W hI.x
                      go_simp
                      exact hK.out _ _ ⟨_, _, _, _, _, _, _, _, _, _, _, _, _, _, _, rfl, { hI with p8 := fun _ => rfl }⟩
                    · obtain rfl := hI.p8 (hd 8 (by decide))
                      rw [if_pos (by rfl)]
                      obtain ⟨h1, h2⟩ := HWP.out
                      go_simp
                      exact hK.out _ _ ⟨_, _, _, _, _, _, _, _, _, _, _, _, _, _, _, rfl, { hI with p9 := fun _ => rfl }⟩
                    · obtain rfl := hI.p4 (hd 4 (by decide))
                      obtain rfl := hI.p9 (hd 9 (by decide))
                      rw [if_pos (by rfl)]
                      obtain ⟨h1, h2, h3⟩ := HPB.out
                      go_simp
                      exact hK.out _ _ ⟨_, _, _, _, _, _, _, _, _, _, _, _, _, _, _, rfl, { hI with p10 := fun _ => rfl }⟩
                    · obtain rfl := hI.p10 (hd 10 (by decide))
                      rw [if_pos (by rfl)]
                      obtain ⟨e8, e11, ep⟩ := H4C.out _ W hI.x
                      go_simp
                      exact hK.out _ _ ⟨_, _, _, _, _, _, _, _, _, _, _, _, _, _, _, rfl, { hI with p11 := fun _ => rfl }⟩
                    · rw [if_pos (by rfl)]
                      go_simp
                      exact hK.out _ _ ⟨_, _, _, _, _, _, _, _, _, _, _, _, _, _, _, rfl, { hI with p12 := fun _ => rfl }⟩
                    · refine step_load_rng' (by rfl) 56 _ rfl w2.heap.size 0 XC (HXL.out _ W hI.x) rfl _ Tryd.underlying56 rfl (by rw [lx]; kernel_rfl) ?_
                      exact hK.out _ _ ⟨_, _, _, _, _, _, _, _, _, _, _, _, _, _, _, rfl, { hI with p13 := fun _ => rfl }⟩
                    · obtain rfl := hI.p11 (hd 11 (by decide))
                      obtain rfl := hI.p12 (hd 12 (by decide))
                      rw [if_pos (by rfl)]
                      obtain ⟨h1, h2, h3⟩ := HNB.out
                      go_simp
                      exact hK.out _ _ ⟨_, _, _, _, _, _, _, _, _, _, _, _, _, _, _, rfl, { hI with p14 := fun _ => rfl }⟩
                    · obtain rfl := hI.p14 (hd 14 (by decide))
                      obtain rfl := hI.p13 (hd 13 (by decide))
                      have hw := hI.x.z hL
                      refine step_store_off rfl 56 _ _ rfl Q 56 (n * 32) ((t.pages.getD P1 []).flatten.map B8) XC (by rw [hw]; exact HRQ.out.dr ⟨1, rfl⟩) (by rw [HFL.out, lx]; omega) rfl rfl (by rw [lx]; kernel_rfl) ox.out ?_
                      intro W2 hr2 hs2
                      rw [HOR.out] at hr2
                      have hX := hI.x.st hL hr2 hs2
                      exact hK.out _ _ ⟨_, _, _, _, _, _, _, _, _, _, _, _, _, _, _, rfl, { hI with x := hX }⟩
                  · rintro L _ W hall ⟨x48, x49, x50, x51, x52, x53, x54, x55, x56, x57, x58, x59, x60, x61, x62, rfl, hI⟩
                    obtain rfl := hI.p0 (hall 0 (by decide))
                    obtain rfl := hI.p1 (hall 1 (by decide))
                    obtain rfl := hI.p2 (hall 2 (by decide))
                    obtain rfl := hI.p3 (hall 3 (by decide))
                    obtain rfl := hI.p4 (hall 4 (by decide))
                    obtain rfl := hI.p5 (hall 5 (by decide))
                    obtain rfl := hI.p6 (hall 6 (by decide))
                    obtain rfl := hI.p7 (hall 7 (by decide))
                    obtain rfl := hI.p8 (hall 8 (by decide))
                    obtain rfl := hI.p9 (hall 9 (by decide))
                    obtain rfl := hI.p10 (hall 10 (by decide))
                    obtain rfl := hI.p11 (hall 11 (by decide))
                    obtain rfl := hI.p12 (hall 12 (by decide))
                    obtain rfl := hI.p13 (hall 13 (by decide))
                    obtain rfl := hI.p14 (hall 14 (by decide))
                    have hXe := hI.x
                    rw [hall 15 (by decide)] at hXe
                    clear hI hall
                    try dsimp only
                    have hr6 := hXe.s rfl
                    have hs6 := hXe.sb rfl
                    clear hXe
                    have H6 : Hid (RdM N R ln c ⟨t.pages.set P1 ((t.pages.getD P1 []).set n x), t.erases, t.blown⟩ pB eB bB ps pg cl W ∧ BX N R w W) := ⟨(H5.out.1.dr ⟨1, rfl⟩).setCell P1 (by rw [HP.out]; exact HPB.out.2.2) n x (by rw [HLEN.out]; exact k3) hx32 (Q, QC) HPS.out hs6 (by rw [hNR]; exact hr6), (H5.out.2.dr ⟨1, rfl⟩).but hs6 (.inr hNQ)⟩
                    have c12 := H6.out.1.c12
                    have f12 := H6.out.1.row.frozen 12
                    clear hr6 hs6 H5
                    go_wp2
                    first | go_end0 | skip
                    rw [HST.out]
                    exact ⟨rfl, H6.out.2.but (SameBut.setCell _ _ _ _) (.inl rfl), H6.out.1.setCl (n + 1)⟩
              · have d1 : (pg : Int) > 0 := by omega
                have d2 : (cl : Int) ≤ (n : Int) := by omega
                have d3 : decide ((n : Int) < (C : Int)) = false := decide_eq_false (by omega)
                rw [if_neg (fun h => k3 h.2.2.1)] at HST
                go_enter Tryd.func61, Tryd.ntmps61
                go_wp2_with (first
                  | (refine (HA.out _).mono ?_; clear HA; rintro e w1 ⟨rfl, hw1⟩; rw [hw1]; clear hw1 w1)
                  | (refine (HN1.out _).mono ?_; clear HN1; rintro e w1 ⟨rfl, hd1⟩; have H1 : Hid (RdM N R ln c t pB eB bB ps pg cl w1 ∧ BX N R w w1) := ⟨H0.out.dr hd1, (BX.refl _).dr hd1⟩; clear H0 hd1)
                  | (refine (HX1.out _).mono ?_; clear HX1; rintro e w2 ⟨rfl, hb2⟩; have H2 : Hid (RdM N R ln c t pB eB bB ps pg cl w2 ∧ BX N R w w2 ∧ N ≤ w2.heap.size) := ⟨H1.out.1.below hb2, H1.out.2.on hb2 H1.out.1.sz, (H1.out.1.below hb2).sz⟩; clear H1 hb2)
                  | (refine wpList_store_Row rfl 56 (.tmp 6) _ rfl w2.heap.size 56 0 zc32 XC (Row.at w2 _ _ _ _ rfl rfl) (by rw [lx]; exact Nat.le_refl _) rfl rfl (by rw [lx]; kernel_rfl) ox.out ?_; intro w3 hr3 hs3; have H3 : Hid (RdM N R ln c t pB eB bB ps pg cl w3 ∧ BX N R w w3) := ⟨H2.out.1.below (new_cell hs3), H2.out.2.1.on (new_cell hs3) H2.out.2.2⟩; have HXR : Hid (Row w3 w2.heap.size 56 XC) := row_whole hr3 (by rw [lx]; exact Nat.le_refl _); clear hr3 hs3)
                  | (refine (HEN.out _).mono ?_; clear HEN; rintro e w4 ⟨rfl, hw4⟩; rw [hw4]; clear hw4 w4; dsimp only [mustE]))
                have HCE : Hid (w3.drew.cell? ⟨R, 11, none⟩ = some (.int .i64 (pg : Int)) ∧ w3.drew.cell? ⟨R, 12, none⟩ = some (.int .i64 (cl : Int)) ∧ w3.drew.cell? ⟨R, 1, none⟩ = some (.int .i64 (C : Int))) := ⟨H3.out.1.c11, H3.out.1.c12, by rw [← HCC.out]; exact H3.out.1.c1⟩
                have HPN : Hid (TkS N R ln c (stL C L t pg cl) pB eB bB ps w (pan 5) w3.drew) := by
                  show TkS _ _ _ _ _ _ _ _ _ _ _ _
                  rw [HST.out]
                  exact ⟨rfl, (H3.out.1.dr ⟨1, rfl⟩).c0, H3.out.2.dr ⟨1, rfl⟩⟩
                refine wp_region_inv (ITcC w3 R pg cl n C _ _ _ _ _ _ _ _ _ _ _ _ _ _ _ _ _ _ _ _ _ _ _ _ _ _ _ _ _ _ _ _ _ _ _ _ _ _ _ _) (by kernel_rfl) (by kernel_rfl) ⟨_, _, _, _, _, _, _, _, _, _, _, _, _, _, _, _, _, _, _, _, _, _, _, _, _, _, _, _, rfl, ⟨WF.zero, fun k => (by cases k), fun k => (by cases k), fun k => (by cases k), fun k => (by cases k), fun k => (by cases k), fun k => (by cases k), fun k => (by cases k), fun k => (by cases k), fun k => (by cases k), fun k => (by cases k), fun k => (by cases k), fun k => (by cases k), fun k => (by cases k), fun k => (by cases k), fun k => (by cases k), fun k => (by cases k), fun k => (by cases k), fun k => (by cases k), fun k => (by cases k), fun k => (by cases k), fun k => (by cases k), fun k => (by cases k), fun k => (by cases k), fun k => (by cases k)⟩⟩ ?_ ?_
                · refine .cons ?_ (.cons ?_ (.cons ?_ (.cons ?_ (.cons ?_ (.cons ?_ (.cons ?_ (.cons ?_ (.cons ?_ (.cons ?_ (.cons ?_ (.cons ?_ (.cons ?_ (.cons ?_ (.cons ?_ (.cons ?_ (.cons ?_ (.cons ?_ (.cons ?_ (.cons ?_ (.cons ?_ (.cons ?_ (.cons ?_ (.cons ?_ (.cons ?_ (.cons ?_ (.cons ?_ (.cons ?_ .nil)))))))))))))))))))))))))))
                  all_goals (refine TcC.step ?_; intro x20 x21 x22 x23 x24 x25 x26 x27 x28 x29 x30 x31 x32 x33 x34 x35 x36 x37 x38 x39 x40 x41 x42 x43 x44 x45 x46 x47 L W hI hL hd K hK)
                  · rw [if_pos (by rfl)]
                    go_simp
                    exact hK.out _ _ ⟨_, _, _, _, _, _, _, _, _, _, _, _, _, _, _, _, _, _, _, _, _, _, _, _, _, _, _, _, rfl, { hI with p0 := fun _ => rfl }⟩
                  · obtain rfl := hI.p0 (hd 0 (by decide))
                    rw [if_pos (by rfl)]
                    go_simp
                    exact hK.out _ _ ⟨_, _, _, _, _, _, _, _, _, _, _, _, _, _, _, _, _, _, _, _, _, _, _, _, _, _, _, _, rfl, { hI with p1 := fun _ => rfl }⟩
                  · obtain rfl := hI.p1 (hd 1 (by decide))
                    rw [if_pos (by rfl)]
                    go_simp
                    exact hK.out _ _ ⟨_, _, _, _, _, _, _, _, _, _, _, _, _, _, _, _, _, _, _, _, _, _, _, _, _, _, _, _, rfl, { hI with p2 := fun _ => rfl }⟩
                  · obtain rfl := hI.p2 (hd 2 (by decide))
                    rw [if_pos (by rfl)]
                    have hw := hI.x.z
                    subst hw
                    obtain ⟨e11, e12, e1⟩ := HCE.out
                    go_simp
                    exact hK.out _ _ ⟨_, _, _, _, _, _, _, _, _, _, _, _, _, _, _, _, _, _, _, _, _, _, _, _, _, _, _, _, rfl, { hI with p3 := fun _ => rfl }⟩
                  · obtain rfl := hI.p3 (hd 3 (by decide))
                    rw [if_pos (by rfl)]
                    go_simp
                    exact hK.out _ _ ⟨_, _, _, _, _, _, _, _, _, _, _, _, _, _, _, _, _, _, _, _, _, _, _, _, _, _, _, _, rfl, { hI with p4 := fun _ => rfl }⟩
                  · obtain rfl := hI.p4 (hd 4 (by decide))
                    rw [if_pos (by rfl)]
                    go_simp
                    exact hK.out _ _ ⟨_, _, _, _, _, _, _, _, _, _, _, _, _, _, _, _, _, _, _, _, _, _, _, _, _, _, _, _, rfl, { hI with p5 := fun _ => rfl }⟩
                  · obtain rfl := hI.p5 (hd 5 (by decide))
                    rw [if_pos (by rfl)]
                    go_simp
                    exact hK.out _ _ ⟨_, _, _, _, _, _, _, _, _, _, _, _, _, _, _, _, _, _, _, _, _, _, _, _, _, _, _, _, rfl, { hI with p6 := fun _ => rfl }⟩
                  · obtain rfl := hI.p6 (hd 6 (by decide))
                    obtain rfl := hI.p5 (hd 5 (by decide))
                    rw [if_pos (by rfl)]
                    go_simp
                    exact hK.out _ _ ⟨_, _, _, _, _, _, _, _, _, _, _, _, _, _, _, _, _, _, _, _, _, _, _, _, _, _, _, _, rfl, { hI with p7 := fun _ => rfl }⟩
                  · obtain rfl := hI.p7 (hd 7 (by decide))
                    obtain rfl := hI.p5 (hd 5 (by decide))
                    rw [if_pos (by rfl)]
                    go_simp
                    exact hK.out _ _ ⟨_, _, _, _, _, _, _, _, _, _, _, _, _, _, _, _, _, _, _, _, _, _, _, _, _, _, _, _, rfl, { hI with p8 := fun _ => rfl }⟩
                  · obtain rfl := hI.p8 (hd 8 (by decide))
                    obtain rfl := hI.p5 (hd 5 (by decide))
                    rw [if_pos (by rfl)]
                    have hw := hI.x.z
                    subst hw
                    obtain ⟨e11, e12, e1⟩ := HCE.out
                    go_simp
                    exact hK.out _ _ ⟨_, _, _, _, _, _, _, _, _, _, _, _, _, _, _, _, _, _, _, _, _, _, _, _, _, _, _, _, rfl, { hI with p9 := fun _ => rfl }⟩
                  · obtain rfl := hI.p5 (hd 5 (by decide))
                    rw [if_pos (by rfl)]
                    go_simp
                    exact hK.out _ _ ⟨_, _, _, _, _, _, _, _, _, _, _, _, _, _, _, _, _, _, _, _, _, _, _, _, _, _, _, _, rfl, { hI with p10 := fun _ => rfl }⟩
                  · obtain rfl := hI.p9 (hd 9 (by decide))
                    obtain rfl := hI.p10 (hd 10 (by decide))
                    obtain rfl := hI.p5 (hd 5 (by decide))
                    rw [if_pos (by rfl)]
                    go_simp
                    exact hK.out _ _ ⟨_, _, _, _, _, _, _, _, _, _, _, _, _, _, _, _, _, _, _, _, _, _, _, _, _, _, _, _, rfl, { hI with p11 := fun _ => rfl }⟩
                  · obtain rfl := hI.p5 (hd 5 (by decide))
                    obtain rfl := hI.p11 (hd 11 (by decide))
                    rw [if_pos (by rfl)]
                    go_simp
                    exact hK.out _ _ ⟨_, _, _, _, _, _, _, _, _, _, _, _, _, _, _, _, _, _, _, _, _, _, _, _, _, _, _, _, rfl, { hI with p12 := fun _ => rfl }⟩
                  · obtain rfl := hI.p12 (hd 12 (by decide))
                    rw [if_pos (by rfl)]
                    go_simp
                    exact hK.out _ _ ⟨_, _, _, _, _, _, _, _, _, _, _, _, _, _, _, _, _, _, _, _, _, _, _, _, _, _, _, _, rfl, { hI with p13 := fun _ => rfl }⟩
                  · obtain rfl := hI.p13 (hd 13 (by decide))
                    rw [if_pos (by rfl)]
                    go_simp
                    exact hK.out _ _ ⟨_, _, _, _, _, _, _, _, _, _, _, _, _, _, _, _, _, _, _, _, _, _, _, _, _, _, _, _, rfl, { hI with p14 := fun _ => rfl }⟩
                  · obtain rfl := hI.p13 (hd 13 (by decide))
                    rw [if_pos (by rfl)]
                    go_simp
                    exact hK.out _ _ ⟨_, _, _, _, _, _, _, _, _, _, _, _, _, _, _, _, _, _, _, _, _, _, _, _, _, _, _, _, rfl, { hI with p15 := fun _ => rfl }⟩
                  · obtain rfl := hI.p15 (hd 15 (by decide))
                    obtain rfl := hI.p13 (hd 13 (by decide))
                    rw [if_pos (by rfl)]
                    go_simp
                    exact hK.out _ _ ⟨_, _, _, _, _, _, _, _, _, _, _, _, _, _, _, _, _, _, _, _, _, _, _, _, _, _, _, _, rfl, { hI with p16 := fun _ => rfl }⟩
                  · obtain rfl := hI.p16 (hd 16 (by decide))
                    obtain rfl := hI.p13 (hd 13 (by decide))
                    rw [if_pos (by rfl)]
                    go_simp
                    exact hK.out _ _ ⟨_, _, _, _, _, _, _, _, _, _, _, _, _, _, _, _, _, _, _, _, _, _, _, _, _, _, _, _, rfl, { hI with p17 := fun _ => rfl }⟩
                  · obtain rfl := hI.p17 (hd 17 (by decide))
                    obtain rfl := hI.p13 (hd 13 (by decide))
                    rw [if_pos (by rfl)]
                    go_simp
                    exact hK.out _ _ ⟨_, _, _, _, _, _, _, _, _, _, _, _, _, _, _, _, _, _, _, _, _, _, _, _, _, _, _, _, rfl, { hI with p18 := fun _ => rfl }⟩
                  · obtain rfl := hI.p18 (hd 18 (by decide))
                    obtain rfl := hI.p13 (hd 13 (by decide))
                    rw [if_pos (by rfl)]
                    have hw := hI.x.z
                    subst hw
                    obtain ⟨e11, e12, e1⟩ := HCE.out
                    go_simp
                    exact hK.out _ _ ⟨_, _, _, _, _, _, _, _, _, _, _, _, _, _, _, _, _, _, _, _, _, _, _, _, _, _, _, _, rfl, { hI with p19 := fun _ => rfl }⟩
                  · obtain rfl := hI.p14 (hd 14 (by decide))
                    obtain rfl := hI.p19 (hd 19 (by decide))
                    obtain rfl := hI.p13 (hd 13 (by decide))
                    rw [if_pos (by rfl)]
                    go_simp
                    exact hK.out _ _ ⟨_, _, _, _, _, _, _, _, _, _, _, _, _, _, _, _, _, _, _, _, _, _, _, _, _, _, _, _, rfl, { hI with p20 := fun _ => rfl }⟩
                  · obtain rfl := hI.p13 (hd 13 (by decide))
                    obtain rfl := hI.p20 (hd 20 (by decide))
                    rw [if_pos (by rfl)]
                    go_simp
                    exact hK.out _ _ ⟨_, _, _, _, _, _, _, _, _, _, _, _, _, _, _, _, _, _, _, _, _, _, _, _, _, _, _, _, rfl, { hI with p21 := fun _ => rfl }⟩
                  · obtain rfl := hI.p21 (hd 21 (by decide))
                    rw [if_pos (by rfl)]
                    go_simp
                    exact hK.out _ _ ⟨_, _, _, _, _, _, _, _, _, _, _, _, _, _, _, _, _, _, _, _, _, _, _, _, _, _, _, _, rfl, { hI with p22 := fun _ => rfl }⟩
                  · obtain rfl := hI.p22 (hd 22 (by decide))
                    rw [if_neg (by first | decide | exact Bool.false_ne_true)]
                    exact hK.out _ _ ⟨_, _, _, _, _, _, _, _, _, _, _, _, _, _, _, _, _, _, _, _, _, _, _, _, _, _, _, _, rfl, { hI with }⟩
                  · obtain rfl := hI.p22 (hd 22 (by decide))
                    rw [if_neg (by first | decide | exact Bool.false_ne_true)]
                    exact hK.out _ _ ⟨_, _, _, _, _, _, _, _, _, _, _, _, _, _, _, _, _, _, _, _, _, _, _, _, _, _, _, _, rfl, { hI with }⟩
                  · obtain rfl := hI.p22 (hd 22 (by decide))
                    rw [if_neg (by first | decide | exact Bool.false_ne_true)]
                    exact hK.out _ _ ⟨_, _, _, _, _, _, _, _, _, _, _, _, _, _, _, _, _, _, _, _, _, _, _, _, _, _, _, _, rfl, { hI with }⟩
                  · obtain rfl := hI.p22 (hd 22 (by decide))
                    rw [if_pos (by rfl)]
                    go_simp
                    exact hK.out _ _ ⟨_, _, _, _, _, _, _, _, _, _, _, _, _, _, _, _, _, _, _, _, _, _, _, _, _, _, _, _, rfl, { hI with p26 := fun _ => rfl }⟩
                  · obtain rfl := hI.p26 (hd 26 (by decide))
                    rw [if_pos (by rfl)]
                    go_simp
                    refine (must_f W).mono ?_
                    rintro e W2 ⟨rfl, hw2⟩
                    rw [hw2, hI.x.z]
                    exact ⟨rfl, HPN.out⟩
                · rintro L _ W hall ⟨x20, x21, x22, x23, x24, x25, x26, x27, x28, x29, x30, x31, x32, x33, x34, x35, x36, x37, x38, x39, x40, x41, x42, x43, x44, x45, x46, x47, rfl, hI⟩
                  obtain rfl := hI.p0 (hall 0 (by decide))
                  obtain rfl := hI.p1 (hall 1 (by decide))
                  obtain rfl := hI.p2 (hall 2 (by decide))
                  obtain rfl := hI.p3 (hall 3 (by decide))
                  obtain rfl := hI.p4 (hall 4 (by decide))
                  obtain rfl := hI.p5 (hall 5 (by decide))
                  obtain rfl := hI.p6 (hall 6 (by decide))
                  obtain rfl := hI.p7 (hall 7 (by decide))
                  obtain rfl := hI.p8 (hall 8 (by decide))
                  obtain rfl := hI.p9 (hall 9 (by decide))
                  obtain rfl := hI.p10 (hall 10 (by decide))
                  obtain rfl := hI.p11 (hall 11 (by decide))
                  obtain rfl := hI.p12 (hall 12 (by decide))
                  obtain rfl := hI.p13 (hall 13 (by decide))
                  obtain rfl := hI.p14 (hall 14 (by decide))
                  obtain rfl := hI.p15 (hall 15 (by decide))
                  obtain rfl := hI.p16 (hall 16 (by decide))
                  obtain rfl := hI.p17 (hall 17 (by decide))
                  obtain rfl := hI.p18 (hall 18 (by decide))
                  obtain rfl := hI.p19 (hall 19 (by decide))
                  obtain rfl := hI.p20 (hall 20 (by decide))
                  obtain rfl := hI.p21 (hall 21 (by decide))
                  obtain rfl := hI.p22 (hall 22 (by decide))
                  obtain rfl := hI.p26 (hall 26 (by decide))
                  have hXe := hI.x
                  rw [hall 27 (by decide)] at hXe
                  clear hI hall
                  try dsimp only
                  exact absurd hXe.nf (by decide)
            · have d1 : (pg : Int) > 0 := by omega
              have d2 : decide ((cl : Int) ≤ (n : Int)) = false := decide_eq_false (by omega)
              rw [if_neg (fun h => k2 h.2.1)] at HST
              go_enter Tryd.func61, Tryd.ntmps61
              go_wp2_with (first
                | (refine (HA.out _).mono ?_; clear HA; rintro e w1 ⟨rfl, hw1⟩; rw [hw1]; clear hw1 w1)
                | (refine (HN1.out _).mono ?_; clear HN1; rintro e w1 ⟨rfl, hd1⟩; have H1 : Hid (RdM N R ln c t pB eB bB ps pg cl w1 ∧ BX N R w w1) := ⟨H0.out.dr hd1, (BX.refl _).dr hd1⟩; clear H0 hd1)
                | (refine (HX1.out _).mono ?_; clear HX1; rintro e w2 ⟨rfl, hb2⟩; have H2 : Hid (RdM N R ln c t pB eB bB ps pg cl w2 ∧ BX N R w w2 ∧ N ≤ w2.heap.size) := ⟨H1.out.1.below hb2, H1.out.2.on hb2 H1.out.1.sz, (H1.out.1.below hb2).sz⟩; clear H1 hb2)
                | (refine wpList_store_Row rfl 56 (.tmp 6) _ rfl w2.heap.size 56 0 zc32 XC (Row.at w2 _ _ _ _ rfl rfl) (by rw [lx]; exact Nat.le_refl _) rfl rfl (by rw [lx]; kernel_rfl) ox.out ?_; intro w3 hr3 hs3; have H3 : Hid (RdM N R ln c t pB eB bB ps pg cl w3 ∧ BX N R w w3) := ⟨H2.out.1.below (new_cell hs3), H2.out.2.1.on (new_cell hs3) H2.out.2.2⟩; have HXR : Hid (Row w3 w2.heap.size 56 XC) := row_whole hr3 (by rw [lx]; exact Nat.le_refl _); clear hr3 hs3)
                | (refine (HEN.out _).mono ?_; clear HEN; rintro e w4 ⟨rfl, hw4⟩; rw [hw4]; clear hw4 w4; dsimp only [mustE]))
              have HCE : Hid (w3.drew.cell? ⟨R, 11, none⟩ = some (.int .i64 (pg : Int)) ∧ w3.drew.cell? ⟨R, 12, none⟩ = some (.int .i64 (cl : Int)) ∧ w3.drew.cell? ⟨R, 1, none⟩ = some (.int .i64 (C : Int))) := ⟨H3.out.1.c11, H3.out.1.c12, by rw [← HCC.out]; exact H3.out.1.c1⟩
              have HPN : Hid (TkS N R ln c (stL C L t pg cl) pB eB bB ps w (pan 5) w3.drew) := by
                show TkS _ _ _ _ _ _ _ _ _ _ _ _
                rw [HST.out]
                exact ⟨rfl, (H3.out.1.dr ⟨1, rfl⟩).c0, H3.out.2.dr ⟨1, rfl⟩⟩
              refine wp_region_inv (ITcB w3 R pg cl n C _ _ _ _ _ _ _ _ _ _ _ _ _ _ _ _ _ _ _ _ _ _ _ _ _ _ _ _ _ _ _ _ _ _ _ _ _ _ _ _) (by kernel_rfl) (by kernel_rfl) ⟨_, _, _, _, _, _, _, _, _, _, _, _, _, _, _, _, _, _, _, _, _, _, _, _, _, _, _, _, rfl, ⟨WF.zero, fun k => (by cases k), fun k => (by cases k), fun k => (by cases k), fun k => (by cases k), fun k => (by cases k), fun k => (by cases k), fun k => (by cases k), fun k => (by cases k), fun k => (by cases k), fun k => (by cases k), fun k => (by cases k), fun k => (by cases k), fun k => (by cases k), fun k => (by cases k), fun k => (by cases k), fun k => (by cases k), fun k => (by cases k)⟩⟩ ?_ ?_
              · refine .cons ?_ (.cons ?_ (.cons ?_ (.cons ?_ (.cons ?_ (.cons ?_ (.cons ?_ (.cons ?_ (.cons ?_ (.cons ?_ (.cons ?_ (.cons ?_ (.cons ?_ (.cons ?_ (.cons ?_ (.cons ?_ (.cons ?_ (.cons ?_ (.cons ?_ (.cons ?_ (.cons ?_ (.cons ?_ (.cons ?_ (.cons ?_ (.cons ?_ (.cons ?_ (.cons ?_ (.cons ?_ .nil)))))))))))))))))))))))))))
                all_goals (refine TcB.step ?_; intro x20 x21 x22 x23 x24 x25 x26 x27 x28 x29 x30 x31 x32 x33 x34 x35 x36 x37 x38 x39 x40 x41 x42 x43 x44 x45 x46 x47 L W hI hL hd K hK)
                · rw [if_pos (by rfl)]
                  go_simp
                  exact hK.out _ _ ⟨_, _, _, _, _, _, _, _, _, _, _, _, _, _, _, _, _, _, _, _, _, _, _, _, _, _, _, _, rfl, { hI with p0 := fun _ => rfl }⟩
                · obtain rfl := hI.p0 (hd 0 (by decide))
                  rw [if_pos (by rfl)]
                  go_simp
                  exact hK.out _ _ ⟨_, _, _, _, _, _, _, _, _, _, _, _, _, _, _, _, _, _, _, _, _, _, _, _, _, _, _, _, rfl, { hI with p1 := fun _ => rfl }⟩
                · obtain rfl := hI.p1 (hd 1 (by decide))
                  rw [if_pos (by rfl)]
                  go_simp
                  exact hK.out _ _ ⟨_, _, _, _, _, _, _, _, _, _, _, _, _, _, _, _, _, _, _, _, _, _, _, _, _, _, _, _, rfl, { hI with p2 := fun _ => rfl }⟩
                · obtain rfl := hI.p2 (hd 2 (by decide))
                  rw [if_pos (by rfl)]
                  have hw := hI.x.z
                  subst hw
                  obtain ⟨e11, e12, e1⟩ := HCE.out
                  go_simp
                  exact hK.out _ _ ⟨_, _, _, _, _, _, _, _, _, _, _, _, _, _, _, _, _, _, _, _, _, _, _, _, _, _, _, _, rfl, { hI with p3 := fun _ => rfl }⟩
                · obtain rfl := hI.p3 (hd 3 (by decide))
                  rw [if_pos (by rfl)]
                  go_simp
                  exact hK.out _ _ ⟨_, _, _, _, _, _, _, _, _, _, _, _, _, _, _, _, _, _, _, _, _, _, _, _, _, _, _, _, rfl, { hI with p4 := fun _ => rfl }⟩
                · obtain rfl := hI.p4 (hd 4 (by decide))
                  rw [if_pos (by rfl)]
                  go_simp
                  exact hK.out _ _ ⟨_, _, _, _, _, _, _, _, _, _, _, _, _, _, _, _, _, _, _, _, _, _, _, _, _, _, _, _, rfl, { hI with p5 := fun _ => rfl }⟩
                · obtain rfl := hI.p5 (hd 5 (by decide))
                  rw [if_pos (by rfl)]
                  go_simp
                  exact hK.out _ _ ⟨_, _, _, _, _, _, _, _, _, _, _, _, _, _, _, _, _, _, _, _, _, _, _, _, _, _, _, _, rfl, { hI with p6 := fun _ => rfl }⟩
                · obtain rfl := hI.p6 (hd 6 (by decide))
                  obtain rfl := hI.p5 (hd 5 (by decide))
                  rw [if_pos (by rfl)]
                  go_simp
                  exact hK.out _ _ ⟨_, _, _, _, _, _, _, _, _, _, _, _, _, _, _, _, _, _, _, _, _, _, _, _, _, _, _, _, rfl, { hI with p7 := fun _ => rfl }⟩
                · obtain rfl := hI.p7 (hd 7 (by decide))
                  obtain rfl := hI.p5 (hd 5 (by decide))
                  rw [if_pos (by rfl)]
                  go_simp
                  exact hK.out _ _ ⟨_, _, _, _, _, _, _, _, _, _, _, _, _, _, _, _, _, _, _, _, _, _, _, _, _, _, _, _, rfl, { hI with p8 := fun _ => rfl }⟩
                · obtain rfl := hI.p8 (hd 8 (by decide))
                  obtain rfl := hI.p5 (hd 5 (by decide))
                  rw [if_pos (by rfl)]
                  have hw := hI.x.z
                  subst hw
                  obtain ⟨e11, e12, e1⟩ := HCE.out
                  go_simp
                  exact hK.out _ _ ⟨_, _, _, _, _, _, _, _, _, _, _, _, _, _, _, _, _, _, _, _, _, _, _, _, _, _, _, _, rfl, { hI with p9 := fun _ => rfl }⟩
                · obtain rfl := hI.p5 (hd 5 (by decide))
                  rw [if_pos (by rfl)]
                  go_simp
                  exact hK.out _ _ ⟨_, _, _, _, _, _, _, _, _, _, _, _, _, _, _, _, _, _, _, _, _, _, _, _, _, _, _, _, rfl, { hI with p10 := fun _ => rfl }⟩
                · obtain rfl := hI.p9 (hd 9 (by decide))
                  obtain rfl := hI.p10 (hd 10 (by decide))
                  obtain rfl := hI.p5 (hd 5 (by decide))
                  rw [if_pos (by rfl)]
                  go_simp
                  exact hK.out _ _ ⟨_, _, _, _, _, _, _, _, _, _, _, _, _, _, _, _, _, _, _, _, _, _, _, _, _, _, _, _, rfl, { hI with p11 := fun _ => rfl }⟩
                · obtain rfl := hI.p5 (hd 5 (by decide))
                  obtain rfl := hI.p11 (hd 11 (by decide))
                  rw [if_pos (by rfl)]
                  go_simp
                  exact hK.out _ _ ⟨_, _, _, _, _, _, _, _, _, _, _, _, _, _, _, _, _, _, _, _, _, _, _, _, _, _, _, _, rfl, { hI with p12 := fun _ => rfl }⟩
                · obtain rfl := hI.p12 (hd 12 (by decide))
                  rw [if_pos (by rfl)]
                  go_simp
                  exact hK.out _ _ ⟨_, _, _, _, _, _, _, _, _, _, _, _, _, _, _, _, _, _, _, _, _, _, _, _, _, _, _, _, rfl, { hI with p13 := fun _ => rfl }⟩
                · obtain rfl := hI.p13 (hd 13 (by decide))
                  rw [if_neg (by first | decide | exact Bool.false_ne_true)]
                  exact hK.out _ _ ⟨_, _, _, _, _, _, _, _, _, _, _, _, _, _, _, _, _, _, _, _, _, _, _, _, _, _, _, _, rfl, { hI with }⟩
                · obtain rfl := hI.p13 (hd 13 (by decide))
                  rw [if_neg (by first | decide | exact Bool.false_ne_true)]
                  exact hK.out _ _ ⟨_, _, _, _, _, _, _, _, _, _, _, _, _, _, _, _, _, _, _, _, _, _, _, _, _, _, _, _, rfl, { hI with }⟩
                · obtain rfl := hI.p13 (hd 13 (by decide))
                  rw [if_neg (by first | decide | exact Bool.false_ne_true)]
                  exact hK.out _ _ ⟨_, _, _, _, _, _, _, _, _, _, _, _, _, _, _, _, _, _, _, _, _, _, _, _, _, _, _, _, rfl, { hI with }⟩
                · obtain rfl := hI.p13 (hd 13 (by decide))
                  rw [if_neg (by first | decide | exact Bool.false_ne_true)]
                  exact hK.out _ _ ⟨_, _, _, _, _, _, _, _, _, _, _, _, _, _, _, _, _, _, _, _, _, _, _, _, _, _, _, _, rfl, { hI with }⟩
                · obtain rfl := hI.p13 (hd 13 (by decide))
                  rw [if_neg (by first | decide | exact Bool.false_ne_true)]
                  exact hK.out _ _ ⟨_, _, _, _, _, _, _, _, _, _, _, _, _, _, _, _, _, _, _, _, _, _, _, _, _, _, _, _, rfl, { hI with }⟩
                · obtain rfl := hI.p13 (hd 13 (by decide))
                  rw [if_neg (by first | decide | exact Bool.false_ne_true)]
                  exact hK.out _ _ ⟨_, _, _, _, _, _, _, _, _, _, _, _, _, _, _, _, _, _, _, _, _, _, _, _, _, _, _, _, rfl, { hI with }⟩
                · obtain rfl := hI.p13 (hd 13 (by decide))
                  rw [if_neg (by first | decide | exact Bool.false_ne_true)]
                  exact hK.out _ _ ⟨_, _, _, _, _, _, _, _, _, _, _, _, _, _, _, _, _, _, _, _, _, _, _, _, _, _, _, _, rfl, { hI with }⟩
                · obtain rfl := hI.p13 (hd 13 (by decide))
                  rw [if_pos (by rfl)]
                  go_simp
                  exact hK.out _ _ ⟨_, _, _, _, _, _, _, _, _, _, _, _, _, _, _, _, _, _, _, _, _, _, _, _, _, _, _, _, rfl, { hI with p21 := fun _ => rfl }⟩
                · obtain rfl := hI.p21 (hd 21 (by decide))
                  rw [if_pos (by rfl)]
                  go_simp
                  exact hK.out _ _ ⟨_, _, _, _, _, _, _, _, _, _, _, _, _, _, _, _, _, _, _, _, _, _, _, _, _, _, _, _, rfl, { hI with p22 := fun _ => rfl }⟩
                · obtain rfl := hI.p22 (hd 22 (by decide))
                  rw [if_neg (by first | decide | exact Bool.false_ne_true)]
                  exact hK.out _ _ ⟨_, _, _, _, _, _, _, _, _, _, _, _, _, _, _, _, _, _, _, _, _, _, _, _, _, _, _, _, rfl, { hI with }⟩
                · obtain rfl := hI.p22 (hd 22 (by decide))
                  rw [if_neg (by first | decide | exact Bool.false_ne_true)]
                  exact hK.out _ _ ⟨_, _, _, _, _, _, _, _, _, _, _, _, _, _, _, _, _, _, _, _, _, _, _, _, _, _, _, _, rfl, { hI with }⟩
                · obtain rfl := hI.p22 (hd 22 (by decide))
                  rw [if_neg (by first | decide | exact Bool.false_ne_true)]
                  exact hK.out _ _ ⟨_, _, _, _, _, _, _, _, _, _, _, _, _, _, _, _, _, _, _, _, _, _, _, _, _, _, _, _, rfl, { hI with }⟩
                · obtain rfl := hI.p22 (hd 22 (by decide))
                  rw [if_pos (by rfl)]
                  go_simp
                  exact hK.out _ _ ⟨_, _, _, _, _, _, _, _, _, _, _, _, _, _, _, _, _, _, _, _, _, _, _, _, _, _, _, _, rfl, { hI with p26 := fun _ => rfl }⟩
                · obtain rfl := hI.p26 (hd 26 (by decide))
                  rw [if_pos (by rfl)]
                  go_simp
                  refine (must_f W).mono ?_
                  rintro e W2 ⟨rfl, hw2⟩
                  rw [hw2, hI.x.z]
                  exact ⟨rfl, HPN.out⟩
              · rintro L _ W hall ⟨x20, x21, x22, x23, x24, x25, x26, x27, x28, x29, x30, x31, x32, x33, x34, x35, x36, x37, x38, x39, x40, x41, x42, x43, x44, x45, x46, x47, rfl, hI⟩
                obtain rfl := hI.p0 (hall 0 (by decide))
                obtain rfl := hI.p1 (hall 1 (by decide))
                obtain rfl := hI.p2 (hall 2 (by decide))
                obtain rfl := hI.p3 (hall 3 (by decide))
                obtain rfl := hI.p4 (hall 4 (by decide))
                obtain rfl := hI.p5 (hall 5 (by decide))
                obtain rfl := hI.p6 (hall 6 (by decide))
                obtain rfl := hI.p7 (hall 7 (by decide))
                obtain rfl := hI.p8 (hall 8 (by decide))
                obtain rfl := hI.p9 (hall 9 (by decide))
                obtain rfl := hI.p10 (hall 10 (by decide))
                obtain rfl := hI.p11 (hall 11 (by decide))
                obtain rfl := hI.p12 (hall 12 (by decide))
                obtain rfl := hI.p13 (hall 13 (by decide))
                obtain rfl := hI.p21 (hall 21 (by decide))
                obtain rfl := hI.p22 (hall 22 (by decide))
                obtain rfl := hI.p26 (hall 26 (by decide))
                have hXe := hI.x
                rw [hall 27 (by decide)] at hXe
                clear hI hall
                try dsimp only
                exact absurd hXe.nf (by decide)
          · have d1 : decide ((pg : Int) > 0) = false := decide_eq_false (by omega)
            rw [if_neg (fun h => k1 h.1)] at HST
            go_enter Tryd.func61, Tryd.ntmps61
            go_wp2_with (first
              | (refine (HA.out _).mono ?_; clear HA; rintro e w1 ⟨rfl, hw1⟩; rw [hw1]; clear hw1 w1)
              | (refine (HN1.out _).mono ?_; clear HN1; rintro e w1 ⟨rfl, hd1⟩; have H1 : Hid (RdM N R ln c t pB eB bB ps pg cl w1 ∧ BX N R w w1) := ⟨H0.out.dr hd1, (BX.refl _).dr hd1⟩; clear H0 hd1)
              | (refine (HX1.out _).mono ?_; clear HX1; rintro e w2 ⟨rfl, hb2⟩; have H2 : Hid (RdM N R ln c t pB eB bB ps pg cl w2 ∧ BX N R w w2 ∧ N ≤ w2.heap.size) := ⟨H1.out.1.below hb2, H1.out.2.on hb2 H1.out.1.sz, (H1.out.1.below hb2).sz⟩; clear H1 hb2)
              | (refine wpList_store_Row rfl 56 (.tmp 6) _ rfl w2.heap.size 56 0 zc32 XC (Row.at w2 _ _ _ _ rfl rfl) (by rw [lx]; exact Nat.le_refl _) rfl rfl (by rw [lx]; kernel_rfl) ox.out ?_; intro w3 hr3 hs3; have H3 : Hid (RdM N R ln c t pB eB bB ps pg cl w3 ∧ BX N R w w3) := ⟨H2.out.1.below (new_cell hs3), H2.out.2.1.on (new_cell hs3) H2.out.2.2⟩; have HXR : Hid (Row w3 w2.heap.size 56 XC) := row_whole hr3 (by rw [lx]; exact Nat.le_refl _); clear hr3 hs3)
              | (refine (HEN.out _).mono ?_; clear HEN; rintro e w4 ⟨rfl, hw4⟩; rw [hw4]; clear hw4 w4; dsimp only [mustE]))
            have HCE : Hid (w3.drew.cell? ⟨R, 11, none⟩ = some (.int .i64 (pg : Int)) ∧ w3.drew.cell? ⟨R, 12, none⟩ = some (.int .i64 (cl : Int)) ∧ w3.drew.cell? ⟨R, 1, none⟩ = some (.int .i64 (C : Int))) := ⟨H3.out.1.c11, H3.out.1.c12, by rw [← HCC.out]; exact H3.out.1.c1⟩
            have HPN : Hid (TkS N R ln c (stL C L t pg cl) pB eB bB ps w (pan 5) w3.drew) := by
              show TkS _ _ _ _ _ _ _ _ _ _ _ _
              rw [HST.out]
              exact ⟨rfl, (H3.out.1.dr ⟨1, rfl⟩).c0, H3.out.2.dr ⟨1, rfl⟩⟩
            refine wp_region_inv (ITcA w3 R pg cl n C _ _ _ _ _ _ _ _ _ _ _ _ _ _ _ _ _ _ _ _ _ _ _ _ _ _ _ _ _ _ _ _ _ _ _ _ _ _ _ _) (by kernel_rfl) (by kernel_rfl) ⟨_, _, _, _, _, _, _, _, _, _, _, _, _, _, _, _, _, _, _, _, _, _, _, _, _, _, _, _, rfl, ⟨WF.zero, fun k => (by cases k), fun k => (by cases k), fun k => (by cases k), fun k => (by cases k), fun k => (by cases k), fun k => (by cases k), fun k => (by cases k), fun k => (by cases k), fun k => (by cases k), fun k => (by cases k), fun k => (by cases k)⟩⟩ ?_ ?_
            · refine .cons ?_ (.cons ?_ (.cons ?_ (.cons ?_ (.cons ?_ (.cons ?_ (.cons ?_ (.cons ?_ (.cons ?_ (.cons ?_ (.cons ?_ (.cons ?_ (.cons ?_ (.cons ?_ (.cons ?_ (.cons ?_ (.cons ?_ (.cons ?_ (.cons ?_ (.cons ?_ (.cons ?_ (.cons ?_ (.cons ?_ (.cons ?_ (.cons ?_ (.cons ?_ (.cons ?_ (.cons ?_ .nil)))))))))))))))))))))))))))
              all_goals (refine TcA.step ?_; intro x20 x21 x22 x23 x24 x25 x26 x27 x28 x29 x30 x31 x32 x33 x34 x35 x36 x37 x38 x39 x40 x41 x42 x43 x44 x45 x46 x47 L W hI hL hd K hK)
              · rw [if_pos (by rfl)]
                go_simp
                exact hK.out _ _ ⟨_, _, _, _, _, _, _, _, _, _, _, _, _, _, _, _, _, _, _, _, _, _, _, _, _, _, _, _, rfl, { hI with p0 := fun _ => rfl }⟩
              · obtain rfl := hI.p0 (hd 0 (by decide))
                rw [if_pos (by rfl)]
                go_simp
                exact hK.out _ _ ⟨_, _, _, _, _, _, _, _, _, _, _, _, _, _, _, _, _, _, _, _, _, _, _, _, _, _, _, _, rfl, { hI with p1 := fun _ => rfl }⟩
              · obtain rfl := hI.p1 (hd 1 (by decide))
                rw [if_pos (by rfl)]
                go_simp
                exact hK.out _ _ ⟨_, _, _, _, _, _, _, _, _, _, _, _, _, _, _, _, _, _, _, _, _, _, _, _, _, _, _, _, rfl, { hI with p2 := fun _ => rfl }⟩
              · obtain rfl := hI.p2 (hd 2 (by decide))
                rw [if_pos (by rfl)]
                have hw := hI.x.z
                subst hw
                obtain ⟨e11, e12, e1⟩ := HCE.out
                go_simp
                exact hK.out _ _ ⟨_, _, _, _, _, _, _, _, _, _, _, _, _, _, _, _, _, _, _, _, _, _, _, _, _, _, _, _, rfl, { hI with p3 := fun _ => rfl }⟩
              · obtain rfl := hI.p3 (hd 3 (by decide))
                rw [if_pos (by rfl)]
                go_simp
                exact hK.out _ _ ⟨_, _, _, _, _, _, _, _, _, _, _, _, _, _, _, _, _, _, _, _, _, _, _, _, _, _, _, _, rfl, { hI with p4 := fun _ => rfl }⟩
              · obtain rfl := hI.p4 (hd 4 (by decide))
                rw [if_pos (by rfl)]
                go_simp
                exact hK.out _ _ ⟨_, _, _, _, _, _, _, _, _, _, _, _, _, _, _, _, _, _, _, _, _, _, _, _, _, _, _, _, rfl, { hI with p5 := fun _ => rfl }⟩
              · obtain rfl := hI.p5 (hd 5 (by decide))
                rw [if_neg (by first | decide | exact Bool.false_ne_true)]
                exact hK.out _ _ ⟨_, _, _, _, _, _, _, _, _, _, _, _, _, _, _, _, _, _, _, _, _, _, _, _, _, _, _, _, rfl, { hI with }⟩
              · obtain rfl := hI.p5 (hd 5 (by decide))
                rw [if_neg (by first | decide | exact Bool.false_ne_true)]
                exact hK.out _ _ ⟨_, _, _, _, _, _, _, _, _, _, _, _, _, _, _, _, _, _, _, _, _, _, _, _, _, _, _, _, rfl, { hI with }⟩
              · obtain rfl := hI.p5 (hd 5 (by decide))
                rw [if_neg (by first | decide | exact Bool.false_ne_true)]
                exact hK.out _ _ ⟨_, _, _, _, _, _, _, _, _, _, _, _, _, _, _, _, _, _, _, _, _, _, _, _, _, _, _, _, rfl, { hI with }⟩
              · obtain rfl := hI.p5 (hd 5 (by decide))
                rw [if_neg (by first | decide | exact Bool.false_ne_true)]
                exact hK.out _ _ ⟨_, _, _, _, _, _, _, _, _, _, _, _, _, _, _, _, _, _, _, _, _, _, _, _, _, _, _, _, rfl, { hI with }⟩
              · obtain rfl := hI.p5 (hd 5 (by decide))
                rw [if_neg (by first | decide | exact Bool.false_ne_true)]
                exact hK.out _ _ ⟨_, _, _, _, _, _, _, _, _, _, _, _, _, _, _, _, _, _, _, _, _, _, _, _, _, _, _, _, rfl, { hI with }⟩
              · obtain rfl := hI.p5 (hd 5 (by decide))
                rw [if_neg (by first | decide | exact Bool.false_ne_true)]
                exact hK.out _ _ ⟨_, _, _, _, _, _, _, _, _, _, _, _, _, _, _, _, _, _, _, _, _, _, _, _, _, _, _, _, rfl, { hI with }⟩
              · obtain rfl := hI.p5 (hd 5 (by decide))
                rw [if_pos (by rfl)]
                go_simp
                exact hK.out _ _ ⟨_, _, _, _, _, _, _, _, _, _, _, _, _, _, _, _, _, _, _, _, _, _, _, _, _, _, _, _, rfl, { hI with p12 := fun _ => rfl }⟩
              · obtain rfl := hI.p12 (hd 12 (by decide))
                rw [if_pos (by rfl)]
                go_simp
                exact hK.out _ _ ⟨_, _, _, _, _, _, _, _, _, _, _, _, _, _, _, _, _, _, _, _, _, _, _, _, _, _, _, _, rfl, { hI with p13 := fun _ => rfl }⟩
              · obtain rfl := hI.p13 (hd 13 (by decide))
                rw [if_neg (by first | decide | exact Bool.false_ne_true)]
                exact hK.out _ _ ⟨_, _, _, _, _, _, _, _, _, _, _, _, _, _, _, _, _, _, _, _, _, _, _, _, _, _, _, _, rfl, { hI with }⟩
              · obtain rfl := hI.p13 (hd 13 (by decide))
                rw [if_neg (by first | decide | exact Bool.false_ne_true)]
                exact hK.out _ _ ⟨_, _, _, _, _, _, _, _, _, _, _, _, _, _, _, _, _, _, _, _, _, _, _, _, _, _, _, _, rfl, { hI with }⟩
              · obtain rfl := hI.p13 (hd 13 (by decide))
                rw [if_neg (by first | decide | exact Bool.false_ne_true)]
                exact hK.out _ _ ⟨_, _, _, _, _, _, _, _, _, _, _, _, _, _, _, _, _, _, _, _, _, _, _, _, _, _, _, _, rfl, { hI with }⟩
              · obtain rfl := hI.p13 (hd 13 (by decide))
                rw [if_neg (by first | decide | exact Bool.false_ne_true)]
                exact hK.out _ _ ⟨_, _, _, _, _, _, _, _, _, _, _, _, _, _, _, _, _, _, _, _, _, _, _, _, _, _, _, _, rfl, { hI with }⟩
              · obtain rfl := hI.p13 (hd 13 (by decide))
                rw [if_neg (by first | decide | exact Bool.false_ne_true)]
                exact hK.out _ _ ⟨_, _, _, _, _, _, _, _, _, _, _, _, _, _, _, _, _, _, _, _, _, _, _, _, _, _, _, _, rfl, { hI with }⟩
              · obtain rfl := hI.p13 (hd 13 (by decide))
                rw [if_neg (by first | decide | exact Bool.false_ne_true)]
                exact hK.out _ _ ⟨_, _, _, _, _, _, _, _, _, _, _, _, _, _, _, _, _, _, _, _, _, _, _, _, _, _, _, _, rfl, { hI with }⟩
              · obtain rfl := hI.p13 (hd 13 (by decide))
                rw [if_neg (by first | decide | exact Bool.false_ne_true)]
                exact hK.out _ _ ⟨_, _, _, _, _, _, _, _, _, _, _, _, _, _, _, _, _, _, _, _, _, _, _, _, _, _, _, _, rfl, { hI with }⟩
              · obtain rfl := hI.p13 (hd 13 (by decide))
                rw [if_pos (by rfl)]
                go_simp
                exact hK.out _ _ ⟨_, _, _, _, _, _, _, _, _, _, _, _, _, _, _, _, _, _, _, _, _, _, _, _, _, _, _, _, rfl, { hI with p21 := fun _ => rfl }⟩
              · obtain rfl := hI.p21 (hd 21 (by decide))
                rw [if_pos (by rfl)]
                go_simp
                exact hK.out _ _ ⟨_, _, _, _, _, _, _, _, _, _, _, _, _, _, _, _, _, _, _, _, _, _, _, _, _, _, _, _, rfl, { hI with p22 := fun _ => rfl }⟩
              · obtain rfl := hI.p22 (hd 22 (by decide))
                rw [if_neg (by first | decide | exact Bool.false_ne_true)]
                exact hK.out _ _ ⟨_, _, _, _, _, _, _, _, _, _, _, _, _, _, _, _, _, _, _, _, _, _, _, _, _, _, _, _, rfl, { hI with }⟩
              · obtain rfl := hI.p22 (hd 22 (by decide))
                rw [if_neg (by first | decide | exact Bool.false_ne_true)]
                exact hK.out _ _ ⟨_, _, _, _, _, _, _, _, _, _, _, _, _, _, _, _, _, _, _, _, _, _, _, _, _, _, _, _, rfl, { hI with }⟩
              · obtain rfl := hI.p22 (hd 22 (by decide))
                rw [if_neg (by first | decide | exact Bool.false_ne_true)]
                exact hK.out _ _ ⟨_, _, _, _, _, _, _, _, _, _, _, _, _, _, _, _, _, _, _, _, _, _, _, _, _, _, _, _, rfl, { hI with }⟩
              · obtain rfl := hI.p22 (hd 22 (by decide))
                rw [if_pos (by rfl)]
                go_simp
                exact hK.out _ _ ⟨_, _, _, _, _, _, _, _, _, _, _, _, _, _, _, _, _, _, _, _, _, _, _, _, _, _, _, _, rfl, { hI with p26 := fun _ => rfl }⟩
              · obtain rfl := hI.p26 (hd 26 (by decide))
                rw [if_pos (by rfl)]
                go_simp
                refine (must_f W).mono ?_
                rintro e W2 ⟨rfl, hw2⟩
                rw [hw2, hI.x.z]
                exact ⟨rfl, HPN.out⟩
            · rintro L _ W hall ⟨x20, x21, x22, x23, x24, x25, x26, x27, x28, x29, x30, x31, x32, x33, x34, x35, x36, x37, x38, x39, x40, x41, x42, x43, x44, x45, x46, x47, rfl, hI⟩
              obtain rfl := hI.p0 (hall 0 (by decide))
              obtain rfl := hI.p1 (hall 1 (by decide))
              obtain rfl := hI.p2 (hall 2 (by decide))
              obtain rfl := hI.p3 (hall 3 (by decide))
              obtain rfl := hI.p4 (hall 4 (by decide))
              obtain rfl := hI.p5 (hall 5 (by decide))
              obtain rfl := hI.p12 (hall 12 (by decide))
              obtain rfl := hI.p13 (hall 13 (by decide))
              obtain rfl := hI.p21 (hall 21 (by decide))
              obtain rfl := hI.p22 (hall 22 (by decide))
              obtain rfl := hI.p26 (hall 26 (by decide))
              have hXe := hI.x
              rw [hall 27 (by decide)] at hXe
              clear hI hall
              try dsimp only
              exact absurd hXe.nf (by decide)
        · rw [decide_eq_false hlf] at HEN
          rw [if_neg hlf] at HC
          have HX : Hid (stL C L t pg cl = none) := by show stL C L t pg cl = none; unfold stL; rw [HC]
          clear HC hlf
          generalize strOf u = S2 at *
          go_enter Tryd.func61, Tryd.ntmps61
          go_wp2_with (first
            | (refine (HA.out _).mono ?_; clear HA; rintro e w1 ⟨rfl, hw1⟩; rw [hw1]; clear hw1 w1)
            | (refine (HN1.out _).mono ?_; clear HN1; rintro e w1 ⟨rfl, hd1⟩; have H1 : Hid (RdM N R ln c t pB eB bB ps pg cl w1 ∧ BX N R w w1) := ⟨H0.out.dr hd1, (BX.refl _).dr hd1⟩; clear H0 hd1)
            | (refine (HX1.out _).mono ?_; clear HX1; rintro e w2 ⟨rfl, hb2⟩; have H2 : Hid (RdM N R ln c t pB eB bB ps pg cl w2 ∧ BX N R w w2 ∧ N ≤ w2.heap.size) := ⟨H1.out.1.below hb2, H1.out.2.on hb2 H1.out.1.sz, (H1.out.1.below hb2).sz⟩; clear H1 hb2)
            | (refine wpList_store_Row rfl 56 (.tmp 6) _ rfl w2.heap.size 56 0 zc32 XC (Row.at w2 _ _ _ _ rfl rfl) (by rw [lx]; exact Nat.le_refl _) rfl rfl (by rw [lx]; kernel_rfl) ox.out ?_; intro w3 hr3 hs3; have H3 : Hid (RdM N R ln c t pB eB bB ps pg cl w3 ∧ BX N R w w3) := ⟨H2.out.1.below (new_cell hs3), H2.out.2.1.on (new_cell hs3) H2.out.2.2⟩; have HXR : Hid (Row w3 w2.heap.size 56 XC) := row_whole hr3 (by rw [lx]; exact Nat.le_refl _); clear hr3 hs3)
            | (refine (HEN.out _).mono ?_; clear HEN; rintro e w4 ⟨rfl, hw4⟩; rw [hw4]; clear hw4 w4; dsimp only [mustE]))
          refine ⟨rfl, ?_⟩
          rw [HX.out]
          exact ⟨rfl, H3.out.1.c0, H3.out.2⟩
  · have HE : aftE L wCell = pan 5 := by unfold aftE; exact if_neg h1
    have HX : Hid (stL C L t pg cl = none) := by show stL C L t pg cl = none; unfold stL cellC; rw [if_neg (show ¬ L.take 4 = wCell from h1)]
    rw [HE] at HA
    generalize strOf L = SL at *
    go_enter Tryd.func61, Tryd.ntmps61
    go_wp2_with (refine (HA.out _).mono ?_; rintro e w1 ⟨rfl, hw1⟩; rw [hw1]; clear hw1 w1)
    refine ⟨rfl, ?_⟩
    rw [HX.out]
    exact ⟨rfl, H0.out.c0, .refl _⟩
end Go.Proofs.YtgpnbiaghokjkaaDoor
