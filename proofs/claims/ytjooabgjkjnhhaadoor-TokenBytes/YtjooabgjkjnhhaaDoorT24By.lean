
import Derived.Test.YtjooabgjkjnhhaaDoorT24Op
/-! TokenBytes. (Printed by tools/gent24c.py.) -/
namespace Go.Proofs.YtjooabgjkjnhhaaDoor
open Go.RowKit
set_option linter.unusedVariables false
set_option linter.unusedSimpArgs false
set_option maxRecDepth 100000

structure BY15 (W1 : World) (x : Tk) (io : Option Addr) (ic : Nat) (T X : List Value) (E A : Int) (L : Nat → Bool) (x64 x65 x66 x67 x68 x69 x70 x71 x72 x73 x74 x75 x76 x77 : Value) (W : World) : Prop where
  x : BS W1 x io ic (L 9) x73 W
  p0 : L 0 = true → x64 = .bool true
  p1 : L 1 = true → x65 = .bool false
  p2 : L 2 = true → x66 = .bool false
  p3 : L 3 = true → x67 = .agg #[.int .i64 E, .int .i64 A]
  p4 : L 4 = true → x68 = .agg #[.int .i64 E, .int .i64 A]
  p5 : L 5 = true → x69 = .bool false
  p6 : L 6 = true → x70 = .bool false
  p7 : L 7 = true → x71 = .bool false
  p8 : L 8 = true → x72 = .agg X.toArray
  p10 : L 10 = true → x74 = .agg T.toArray
  p11 : L 11 = true → x75 = .bool true
  p12 : L 12 = true → x76 = .bool false
  p13 : L 13 = true → x77 = .bool false
section
variable {W1 : World} {x : Tk} {io : Option Addr} {ic : Nat} {T X : List Value} {E A : Int} {L : Nat → Bool} {x64 x65 x66 x67 x68 x69 x70 x71 x72 x73 x74 x75 x76 x77 : Value} {W W2 : World}
theorem BY15.s0 (h : BY15 W1 x io ic T X E A L x64 x65 x66 x67 x68 x69 x70 x71 x72 x73 x74 x75 x76 x77 W) : BY15 W1 x io ic T X E A (upd L 0) (.bool true) x65 x66 x67 x68 x69 x70 x71 x72 x73 x74 x75 x76 x77 W :=
  ⟨h.x, fun _ => rfl, h.p1, h.p2, h.p3, h.p4, h.p5, h.p6, h.p7, h.p8, h.p10, h.p11, h.p12, h.p13⟩
theorem BY15.s1 (h : BY15 W1 x io ic T X E A L x64 x65 x66 x67 x68 x69 x70 x71 x72 x73 x74 x75 x76 x77 W) : BY15 W1 x io ic T X E A (upd L 1) x64 (.bool false) x66 x67 x68 x69 x70 x71 x72 x73 x74 x75 x76 x77 W :=
  ⟨h.x, h.p0, fun _ => rfl, h.p2, h.p3, h.p4, h.p5, h.p6, h.p7, h.p8, h.p10, h.p11, h.p12, h.p13⟩
theorem BY15.s2 (h : BY15 W1 x io ic T X E A L x64 x65 x66 x67 x68 x69 x70 x71 x72 x73 x74 x75 x76 x77 W) : BY15 W1 x io ic T X E A (upd L 2) x64 x65 (.bool false) x67 x68 x69 x70 x71 x72 x73 x74 x75 x76 x77 W :=
  ⟨h.x, h.p0, h.p1, fun _ => rfl, h.p3, h.p4, h.p5, h.p6, h.p7, h.p8, h.p10, h.p11, h.p12, h.p13⟩
theorem BY15.s3 (h : BY15 W1 x io ic T X E A L x64 x65 x66 x67 x68 x69 x70 x71 x72 x73 x74 x75 x76 x77 W) : BY15 W1 x io ic T X E A (upd L 3) x64 x65 x66 (.agg #[.int .i64 E, .int .i64 A]) x68 x69 x70 x71 x72 x73 x74 x75 x76 x77 W :=
  ⟨h.x, h.p0, h.p1, h.p2, fun _ => rfl, h.p4, h.p5, h.p6, h.p7, h.p8, h.p10, h.p11, h.p12, h.p13⟩
theorem BY15.s4 (h : BY15 W1 x io ic T X E A L x64 x65 x66 x67 x68 x69 x70 x71 x72 x73 x74 x75 x76 x77 W) : BY15 W1 x io ic T X E A (upd L 4) x64 x65 x66 x67 (.agg #[.int .i64 E, .int .i64 A]) x69 x70 x71 x72 x73 x74 x75 x76 x77 W :=
  ⟨h.x, h.p0, h.p1, h.p2, h.p3, fun _ => rfl, h.p5, h.p6, h.p7, h.p8, h.p10, h.p11, h.p12, h.p13⟩
theorem BY15.s5 (h : BY15 W1 x io ic T X E A L x64 x65 x66 x67 x68 x69 x70 x71 x72 x73 x74 x75 x76 x77 W) : BY15 W1 x io ic T X E A (upd L 5) x64 x65 x66 x67 x68 (.bool false) x70 x71 x72 x73 x74 x75 x76 x77 W :=
  ⟨h.x, h.p0, h.p1, h.p2, h.p3, h.p4, fun _ => rfl, h.p6, h.p7, h.p8, h.p10, h.p11, h.p12, h.p13⟩
theorem BY15.s6 (h : BY15 W1 x io ic T X E A L x64 x65 x66 x67 x68 x69 x70 x71 x72 x73 x74 x75 x76 x77 W) : BY15 W1 x io ic T X E A (upd L 6) x64 x65 x66 x67 x68 x69 (.bool false) x71 x72 x73 x74 x75 x76 x77 W :=
  ⟨h.x, h.p0, h.p1, h.p2, h.p3, h.p4, h.p5, fun _ => rfl, h.p7, h.p8, h.p10, h.p11, h.p12, h.p13⟩
theorem BY15.s7 (h : BY15 W1 x io ic T X E A L x64 x65 x66 x67 x68 x69 x70 x71 x72 x73 x74 x75 x76 x77 W) : BY15 W1 x io ic T X E A (upd L 7) x64 x65 x66 x67 x68 x69 x70 (.bool false) x72 x73 x74 x75 x76 x77 W :=
  ⟨h.x, h.p0, h.p1, h.p2, h.p3, h.p4, h.p5, h.p6, fun _ => rfl, h.p8, h.p10, h.p11, h.p12, h.p13⟩
theorem BY15.s8 (h : BY15 W1 x io ic T X E A L x64 x65 x66 x67 x68 x69 x70 x71 x72 x73 x74 x75 x76 x77 W) : BY15 W1 x io ic T X E A (upd L 8) x64 x65 x66 x67 x68 x69 x70 x71 (.agg X.toArray) x73 x74 x75 x76 x77 W :=
  ⟨h.x, h.p0, h.p1, h.p2, h.p3, h.p4, h.p5, h.p6, h.p7, fun _ => rfl, h.p10, h.p11, h.p12, h.p13⟩
theorem BY15.s9 (h : BY15 W1 x io ic T X E A L x64 x65 x66 x67 x68 x69 x70 x71 x72 x73 x74 x75 x76 x77 W) {v : Value} (hX : BS W1 x io ic ((upd L 9) 9) v W2) : BY15 W1 x io ic T X E A (upd L 9) x64 x65 x66 x67 x68 x69 x70 x71 x72 v x74 x75 x76 x77 W2 :=
  ⟨hX, h.p0, h.p1, h.p2, h.p3, h.p4, h.p5, h.p6, h.p7, h.p8, h.p10, h.p11, h.p12, h.p13⟩
theorem BY15.s10 (h : BY15 W1 x io ic T X E A L x64 x65 x66 x67 x68 x69 x70 x71 x72 x73 x74 x75 x76 x77 W) : BY15 W1 x io ic T X E A (upd L 10) x64 x65 x66 x67 x68 x69 x70 x71 x72 x73 (.agg T.toArray) x75 x76 x77 W :=
  ⟨h.x, h.p0, h.p1, h.p2, h.p3, h.p4, h.p5, h.p6, h.p7, h.p8, fun _ => rfl, h.p11, h.p12, h.p13⟩
theorem BY15.s11 (h : BY15 W1 x io ic T X E A L x64 x65 x66 x67 x68 x69 x70 x71 x72 x73 x74 x75 x76 x77 W) (hX : BS W1 x io ic ((upd L 11) 9) x73 W2) : BY15 W1 x io ic T X E A (upd L 11) x64 x65 x66 x67 x68 x69 x70 x71 x72 x73 x74 (.bool true) x76 x77 W2 :=
  ⟨hX, h.p0, h.p1, h.p2, h.p3, h.p4, h.p5, h.p6, h.p7, h.p8, h.p10, fun _ => rfl, h.p12, h.p13⟩
theorem BY15.s12 (h : BY15 W1 x io ic T X E A L x64 x65 x66 x67 x68 x69 x70 x71 x72 x73 x74 x75 x76 x77 W) : BY15 W1 x io ic T X E A (upd L 12) x64 x65 x66 x67 x68 x69 x70 x71 x72 x73 x74 x75 (.bool false) x77 W :=
  ⟨h.x, h.p0, h.p1, h.p2, h.p3, h.p4, h.p5, h.p6, h.p7, h.p8, h.p10, h.p11, fun _ => rfl, h.p13⟩
theorem BY15.s13 (h : BY15 W1 x io ic T X E A L x64 x65 x66 x67 x68 x69 x70 x71 x72 x73 x74 x75 x76 x77 W) : BY15 W1 x io ic T X E A (upd L 13) x64 x65 x66 x67 x68 x69 x70 x71 x72 x73 x74 x75 x76 (.bool false) W :=
  ⟨h.x, h.p0, h.p1, h.p2, h.p3, h.p4, h.p5, h.p6, h.p7, h.p8, h.p10, h.p11, h.p12, fun _ => rfl⟩
end
@[reducible] def IBY15 (W1 : World) (x : Tk) (io : Option Addr) (ic : Nat) (T X : List Value) (E A : Int) (y0 y1 y2 y3 y4 y5 y6 y7 y8 y9 y10 y11 y12 y13 y14 y15 y16 y17 y18 y19 y20 y21 y22 y23 y24 y25 y26 y27 y28 y29 y30 y31 y32 y33 y34 y35 y36 y37 y38 y39 y40 y41 y42 y43 y44 y45 y46 y47 y48 y49 y50 y51 y52 y53 y54 y55 y56 y57 y58 y59 y60 y61 y62 y63 y78 : Value) : (Nat → Bool) → Act → World → Prop := fun L a W => ∃ x64 x65 x66 x67 x68 x69 x70 x71 x72 x73 x74 x75 x76 x77, a = ⟨#[y0, y1, y2, y3, y4, y5, y6, y7, y8, y9, y10, y11, y12, y13, y14, y15, y16, y17, y18, y19, y20, y21, y22, y23, y24, y25, y26, y27, y28, y29, y30, y31, y32, y33, y34, y35, y36, y37, y38, y39, y40, y41, y42, y43, y44, y45, y46, y47, y48, y49, y50, y51, y52, y53, y54, y55, y56, y57, y58, y59, y60, y61, y62, y63, x64, x65, x66, x67, x68, x69, x70, x71, x72, x73, x74, x75, x76, x77, y78], []⟩ ∧ BY15 W1 x io ic T X E A L x64 x65 x66 x67 x68 x69 x70 x71 x72 x73 x74 x75 x76 x77 W
theorem BY15.step {W1 : World} {x : Tk} {io : Option Addr} {ic : Nat} {T X : List Value} {E A : Int} {y0 y1 y2 y3 y4 y5 y6 y7 y8 y9 y10 y11 y12 y13 y14 y15 y16 y17 y18 y19 y20 y21 y22 y23 y24 y25 y26 y27 y28 y29 y30 y31 y32 y33 y34 y35 y36 y37 y38 y39 y40 y41 y42 y43 y44 y45 y46 y47 y48 y49 y50 y51 y52 y53 y54 y55 y56 y57 y58 y59 y60 y61 y62 y63 y78 : Value} {P : Program} {ops : Array Oper} {Q : Exit → Act → World → Prop} {i : Nat} {o : Oper} (hq : ∀ x64 x65 x66 x67 x68 x69 x70 x71 x72 x73 x74 x75 x76 x77 (L : Nat → Bool) (W : World), BY15 W1 x io ic T X E A L x64 x65 x66 x67 x68 x69 x70 x71 x72 x73 x74 x75 x76 x77 W → L i = false → (∀ j ∈ onesOf o, L j = true) → ∀ K : Act → World → Prop, Shut (∀ a' w', IBY15 W1 x io ic T X E A y0 y1 y2 y3 y4 y5 y6 y7 y8 y9 y10 y11 y12 y13 y14 y15 y16 y17 y18 y19 y20 y21 y22 y23 y24 y25 y26 y27 y28 y29 y30 y31 y32 y33 y34 y35 y36 y37 y38 y39 y40 y41 y42 y43 y44 y45 y46 y47 y48 y49 y50 y51 y52 y53 y54 y55 y56 y57 y58 y59 y60 y61 y62 y63 y78 (upd L i) a' w' → K a' w') → if Region.wanted o (yielded ops (⟨#[y0, y1, y2, y3, y4, y5, y6, y7, y8, y9, y10, y11, y12, y13, y14, y15, y16, y17, y18, y19, y20, y21, y22, y23, y24, y25, y26, y27, y28, y29, y30, y31, y32, y33, y34, y35, y36, y37, y38, y39, y40, y41, y42, y43, y44, y45, y46, y47, y48, y49, y50, y51, y52, y53, y54, y55, y56, y57, y58, y59, y60, y61, y62, y63, x64, x65, x66, x67, x68, x69, x70, x71, x72, x73, x74, x75, x76, x77, y78], []⟩ : Act).tmps) = true then Oper.wp P o ⟨#[y0, y1, y2, y3, y4, y5, y6, y7, y8, y9, y10, y11, y12, y13, y14, y15, y16, y17, y18, y19, y20, y21, y22, y23, y24, y25, y26, y27, y28, y29, y30, y31, y32, y33, y34, y35, y36, y37, y38, y39, y40, y41, y42, y43, y44, y45, y46, y47, y48, y49, y50, y51, y52, y53, y54, y55, y56, y57, y58, y59, y60, y61, y62, y63, x64, x65, x66, x67, x68, x69, x70, x71, x72, x73, x74, x75, x76, x77, y78], []⟩ W K Q else K ((⟨#[y0, y1, y2, y3, y4, y5, y6, y7, y8, y9, y10, y11, y12, y13, y14, y15, y16, y17, y18, y19, y20, y21, y22, y23, y24, y25, y26, y27, y28, y29, y30, y31, y32, y33, y34, y35, y36, y37, y38, y39, y40, y41, y42, y43, y44, y45, y46, y47, y48, y49, y50, y51, y52, y53, y54, y55, y56, y57, y58, y59, y60, y61, y62, y63, x64, x65, x66, x67, x68, x69, x70, x71, x72, x73, x74, x75, x76, x77, y78], []⟩ : Act).put o.dst undef) W) : StepI P ops (IBY15 W1 x io ic T X E A y0 y1 y2 y3 y4 y5 y6 y7 y8 y9 y10 y11 y12 y13 y14 y15 y16 y17 y18 y19 y20 y21 y22 y23 y24 y25 y26 y27 y28 y29 y30 y31 y32 y33 y34 y35 y36 y37 y38 y39 y40 y41 y42 y43 y44 y45 y46 y47 y48 y49 y50 y51 y52 y53 y54 y55 y56 y57 y58 y59 y60 y61 y62 y63 y78) Q i o := by
  rintro L a W ⟨x64, x65, x66, x67, x68, x69, x70, x71, x72, x73, x74, x75, x76, x77, rfl, h⟩
  exact hq _ _ _ _ _ _ _ _ _ _ _ _ _ _ _ _ h
theorem BY15.ends {W1 : World} {x : Tk} {io : Option Addr} {ic : Nat} {T X : List Value} {E A : Int} {y0 y1 y2 y3 y4 y5 y6 y7 y8 y9 y10 y11 y12 y13 y14 y15 y16 y17 y18 y19 y20 y21 y22 y23 y24 y25 y26 y27 y28 y29 y30 y31 y32 y33 y34 y35 y36 y37 y38 y39 y40 y41 y42 y43 y44 y45 y46 y47 y48 y49 y50 y51 y52 y53 y54 y55 y56 y57 y58 y59 y60 y61 y62 y63 y78 : Value} {mm_ : Nat} {Q : Exit → Act → World → Prop} (hq : ∀ x64 x65 x66 x67 x68 x69 x70 x71 x72 x73 x74 x75 x76 x77 (L : Nat → Bool) (W : World), (∀ j, j < mm_ → L j = true) → BY15 W1 x io ic T X E A L x64 x65 x66 x67 x68 x69 x70 x71 x72 x73 x74 x75 x76 x77 W → Q .normal ⟨#[y0, y1, y2, y3, y4, y5, y6, y7, y8, y9, y10, y11, y12, y13, y14, y15, y16, y17, y18, y19, y20, y21, y22, y23, y24, y25, y26, y27, y28, y29, y30, y31, y32, y33, y34, y35, y36, y37, y38, y39, y40, y41, y42, y43, y44, y45, y46, y47, y48, y49, y50, y51, y52, y53, y54, y55, y56, y57, y58, y59, y60, y61, y62, y63, x64, x65, x66, x67, x68, x69, x70, x71, x72, x73, x74, x75, x76, x77, y78], []⟩ W) : ∀ L a' w', (∀ j, j < mm_ → L j = true) → IBY15 W1 x io ic T X E A y0 y1 y2 y3 y4 y5 y6 y7 y8 y9 y10 y11 y12 y13 y14 y15 y16 y17 y18 y19 y20 y21 y22 y23 y24 y25 y26 y27 y28 y29 y30 y31 y32 y33 y34 y35 y36 y37 y38 y39 y40 y41 y42 y43 y44 y45 y46 y47 y48 y49 y50 y51 y52 y53 y54 y55 y56 y57 y58 y59 y60 y61 y62 y63 y78 L a' w' → Q .normal a' w' := by
  rintro L a W hall ⟨x64, x65, x66, x67, x68, x69, x70, x71, x72, x73, x74, x75, x76, x77, rfl, h⟩
  exact hq _ _ _ _ _ _ _ _ _ _ _ _ _ _ _ _ hall h
theorem wrow (W : World) : Row (W.alloc (.cells #[.int .i64 0, .int .i64 0] 44)) W.heap.size 44 [.int .i64 0, .int .i64 0] := Row.at W _ _ _ _ rfl rfl
set_option maxHeartbeats 4000000 in
/-- The loop over the rows of bytes. -/
theorem byt6 (c0 c2 c3 c4 c5 c6 c7 c8 c9 c10 c11 c12 c13 c14 c15 c16 c17 c18 c19 c20 c21 c22 c23 c24 c25 c26 c27 c28 c29 c30 c31 c32 c33 c34 c35 c36 c37 c38 c39 c40 c41 c42 c43 c44 c45 c46 c47 c48 c49 c50 c51 c52 c53 c54 c55 c56 c57 c58 c59 c60 c61 c62 c63 c64 c65 c66 c67 c68 c69 c70 c71 c72 c73 c74 c75 c76 c77 c78 : Value) (C : Tok) (w Wa : World) (hg : HG w) (hB : Below w.heap.size w Wa) (lo : Option Addr) (cap : Nat) (L : List (List By)) (hL : LsB w lo L) (hl : L.length ≤ 140737488355328) : Code.wp Tryd.prog (dropS 6 (Tryd.f4.body.getD .skip)) (bodyPost Tryd.prog Tryd.f4 (OkP w)) ⟨#[c0, .slice lo L.length cap, c2, c3, c4, c5, c6, c7, c8, c9, c10, c11, c12, c13, c14, c15, c16, c17, c18, c19, c20, c21, c22, c23, c24, c25, c26, c27, c28, c29, c30, c31, c32, c33, c34, c35, c36, c37, c38, c39, c40, c41, c42, c43, c44, c45, c46, c47, c48, c49, c50, c51, c52, c53, c54, c55, c56, c57, c58, c59, c60, c61, c62, c63, c64, c65, c66, c67, c68, c69, c70, c71, c72, c73, c74, c75, c76, c77, c78], []⟩ Wa := by
  have HC : Hid Tok := C
  have HGW : Hid (HG w) := hg
  have HLS : Hid (∀ W, Below w.heap.size w W → LsB W lo L) := fun W h => by
    intro i b hi
    obtain ⟨B, off, bo, cp, e, hB2, hc, h1, h2, h3, h4⟩ := hL i b hi
    exact ⟨B, off, bo, cp, e, Nat.lt_of_lt_of_le hB2 h.size, (h.cell (p := ⟨B, off + i, none⟩) hB2).trans hc, h1.below h (Nat.le_refl _), h2, h3, h4⟩
  have HB0 : Hid (Below w.heap.size w Wa) := hB
  obtain ⟨m, hm⟩ : ∃ m, L.length = m := ⟨_, rfl⟩
  have HM : Hid (L.length = m) := hm
  have HML : Hid (m ≤ 140737488355328) := by show m ≤ _; omega
  rw [hm]
  clear C hg hL hB hl hm
  conv => arg 2; whnf
  go_wp2
  go_loopw [45] (fun iv wr => ∃ i : Nat, i ≤ m ∧ iv = .int .i64 (i : Int) ∧ Hid (Below w.heap.size w wr)) (fun iv _ => m - (intOf iv).toNat)
  case atStart => exact ⟨0, by omega, rfl, HB0⟩
  case round =>
    clear HB0
    obtain ⟨i, hi, rfl, HI⟩ := hrel
    by_cases hlt : i < m
    · have y0 : (0 : Int) ≤ (i : Int) := by omega
      have y1 : (i : Int) < (m : Int) := by omega
      have z1 : IntKind.i64.wrap ((i : Int) + 1) = (i : Int) + 1 := i64_in _ (by omega) (by have := HML.out; omega)
      obtain ⟨b, hb⟩ : ∃ b, L[i]? = some b := ⟨_, List.getElem?_eq_getElem (by rw [HM.out]; exact hlt)⟩
      obtain ⟨B, off, bo, cp, hlo, _, hc, h1, h2, h3, h4⟩ := HLS.out wr HI.out i b hb
      subst hlo
      obtain ⟨x, E, A, hx, hE, hA, K1, K2⟩ := get_both HC.out b h4
      have HLT : Hid (i < m) := hlt
      have HX32 : Hid (x.cs.length ≤ 32) := hx
      have EQW := fun W => eq_wrong24 E A E A (by omega) (by omega) (by omega) (by omega) true (by simp) W
      have G1 := K1 bo cp wr h1 h2 h3
      have G2 : Hid (∀ W, Below wr.heap.size wr W → Calls Tryd.prog 12 #[.slice bo b.length cp] W fun e w' => Below W.heap.size W w' ∧ ∃ io ic lo lc, e = .returned (.tuple #[.agg (tkCells x io ic lo lc).toArray, .agg #[.int .i64 E, .int .i64 A]]) ∧ TkV w' x io ic lo lc) := fun W h => K2 bo cp W (h1.below h (Nat.le_refl _)) h2
      clear hb h1 h2 h3 h4 hx hE hA K1 K2 hlt hi
      generalize b.length = n at *
      go_wp2_with fail
      refine G1.mono ?_
      clear G1
      rintro e w2 ⟨hb2, gv, ⟨io2, ic2, lo2, lc2, rfl, ho2⟩, htl⟩
      dsimp only
      have HB2 : Hid (Below wr.heap.size wr w2) := hb2
      have HO2 : Hid (TkO 64 wr.heap.size w2 x io2 ic2 lo2 lc2) := ho2
      have HTL : Hid (TldV w2 gv E A) := htl
      clear hb2 ho2 htl hc
      go_wp2_with (first
        | (have hz := HO2; clear hz; refine wpList_store_Row rfl 36 (.tmp 11) (.tmp 52) rfl w2.heap.size 36 0 zTk (tkCells x io2 ic2 lo2 lc2) (zRow w2) (by rw [tkCells_len HO2.out.tag]; exact Nat.le_refl _) rfl rfl (by rw [tkCells_len HO2.out.tag]; kernel_rfl) (tkCells_one _ _ _ _ _) ?_; intro w3 hr hs; have HR2 : Hid (TkR wr.heap.size w3 w2.heap.size x io2 ic2 lo2 lc2 ∧ Below w2.heap.size w2 w3) := tkR_lay HO2.out hr hs; clear HO2 hr hs)
        | (have hz := HR2; clear hz; have HB3 : Hid (Below wr.heap.size wr w3) := HB2.out.trans (HR2.out.2.mono HB2.out.size); have HX3 : Hid (TkR wr.heap.size w3 w2.heap.size x io2 ic2 lo2 lc2) := HR2.out.1; have HW3 : Hid (Below w2.heap.size w2 w3) := HR2.out.2; have G3 := G2.out w3 HB3.out; clear HR2 HB2 G2))
      refine G3.mono ?_
      clear G3
      rintro e w4 ⟨hb4, io4, ic4, lo4, lc4, rfl, hv4⟩
      dsimp only
      have HB4 : Hid (Below wr.heap.size wr w4) := HB3.out.trans (hb4.mono HB3.out.size)
      have HW4 : Hid (Below w2.heap.size w2 w4) := HW3.out.trans (hb4.mono HW3.out.size)
      have HX4 : Hid (TkR wr.heap.size w4 w2.heap.size x io2 ic2 lo2 lc2) := HX3.out.keep hb4
      have HV4 : Hid (TkV w4 x io4 ic4 lo4 lc4) := hv4
      clear hb4 hv4 HB3 HW3 HX3
      obtain ⟨W5, hW5⟩ : ∃ W5, W5 = (w4.alloc (.cells zTk.toArray 28)).alloc (.cells #[.int .i64 0, .int .i64 0] 44) := ⟨_, rfl⟩
      have b5 : Below w4.heap.size w4 W5 := by rw [hW5]; exact ((Below.refl _ _).alloc (Nat.le_refl _) _).alloc (by simp) _
      have r5 : Row W5 w4.heap.size 28 zTk := by rw [hW5]; exact (Row.at w4 _ _ _ _ rfl rfl).alloc _
      have q5 : Row W5 (w4.heap.size + 1) 44 [.int .i64 0, .int .i64 0] := by rw [hW5]; exact Row.at _ _ _ _ _ (by simp) rfl
      obtain ⟨Y, hY⟩ : ∃ Y, Y = tkCells x io4 ic4 lo4 lc4 := ⟨_, rfl⟩
      have LY : Hid (Y.length = 35) := by rw [hY]; exact tkC_len HX4.out.own.tag
      have OY : Hid (∀ v ∈ Y, v.oneCell' = true) := by rw [hY]; exact tkCells_one _ _ _ _ _
      have HYE : Hid (tkCells x io4 ic4 lo4 lc4 = Y) := hY.symm
      rw [← hY]
      have R5 : Hid (Row W5 w4.heap.size 28 zTk) := r5
      have ST6 : Hid (∀ w6 w7, Row w6 w4.heap.size 28 (zTk.take 0 ++ Y ++ zTk.drop (0 + Y.length)) → SameBut w4.heap.size W5 w6 → Row w7 (w4.heap.size + 1) 44 ([Value.int .i64 0, .int .i64 0].take 0 ++ [.int .i64 E, .int .i64 A] ++ [Value.int .i64 0, .int .i64 0].drop (0 + [Value.int .i64 E, .int .i64 A].length)) → SameBut (w4.heap.size + 1) w6 w7 → Row w7 w4.heap.size 28 Y ∧ Row w7 (w4.heap.size + 1) 44 [.int .i64 E, .int .i64 A] ∧ Below w4.heap.size w4 w7) := fun w6 w7 hr6 hs6 hr7 hs7 =>
        ⟨(row_whole hr6 (by rw [LY.out]; exact Nat.le_refl _)).but hs7 (by omega), hr7, hs7.below (hs6.below b5 (Nat.le_refl _)) (by omega)⟩
      have Q6 : Hid (∀ w6, SameBut w4.heap.size W5 w6 → Row w6 (w4.heap.size + 1) 44 [.int .i64 0, .int .i64 0]) := fun w6 h => q5.but h (by omega)
      clear hY b5 r5 q5
      go_wp2_with (first
        | (have hz := hW5; clear hz; refine wpList_at24 hW5 ?_; clear hW5)
        | (have hz := R5; clear hz; refine wpList_store_Row rfl 28 (.tmp 13) (.tmp 57) rfl w4.heap.size 28 0 zTk Y R5.out (by rw [LY.out]; exact Nat.le_refl _) rfl rfl (by rw [LY.out]; kernel_rfl) OY.out ?_; intro w6 hr6 hs6; have HR6 := hr6; have HS6 : Hid (SameBut w4.heap.size W5 w6) := hs6; clear R5 hr6 hs6)
        | (have hz := HS6; clear hz; refine wpList_store_Row rfl 44 (.tmp 14) (.tmp 58) rfl (w4.heap.size + 1) 44 0 _ [.int .i64 E, .int .i64 A] (Q6.out w6 HS6.out) (Nat.le_refl _) rfl rfl (by kernel_rfl) (by simp [Value.oneCell']) ?_; intro w7 hr7 hs7; have HF7 : Hid _ := ST6.out w6 w7 HR6 HS6.out hr7 hs7; clear HR6 HS6 hr7 hs7 ST6 Q6))
      have TD := HTL.out w7 (HW4.out.trans (HF7.out.2.2.mono HW4.out.size)) (HGW.out.below (HI.out.trans ((HB4.out.trans (HF7.out.2.2.mono HB4.out.size)).mono HI.out.size)) HGW.out.lt)
      refine TD.mono ?_
      clear TD
      rintro e w8 ⟨rfl, hb8⟩
      dsimp only
      have H8 : Hid (TkR wr.heap.size w8 w2.heap.size x io2 ic2 lo2 lc2 ∧ TkV w8 x io4 ic4 lo4 lc4 ∧ Row w8 w4.heap.size 28 Y ∧ Row w8 (w4.heap.size + 1) 44 [.int .i64 E, .int .i64 A] ∧ Below wr.heap.size wr w8) := by
        have hb := HF7.out.2.2.trans (hb8.mono HF7.out.2.2.size)
        exact ⟨HX4.out.keep hb, HV4.out.keep hb, HF7.out.1.below hb8 HF7.out.1.lt, HF7.out.2.1.below hb8 HF7.out.2.1.lt, HB4.out.trans (hb.mono HB4.out.size)⟩
      clear hb8 HF7 HX4 HV4 HB4 HW4 HTL
      generalize w2.heap.size = G2x at *
      generalize w4.heap.size = G4x at *
      have Z8 : Hid (Row (w8.alloc (.cells #[.int .i64 0, .int .i64 0] 44)) w8.heap.size 44 [.int .i64 0, .int .i64 0]) := wrow w8
      go_upto_region 15 with (first
        | (have hz := Z8; clear hz; refine wpList_store_Row rfl 44 (.tmp 15) (.tmp 62) rfl w8.heap.size 44 0 _ [.int .i64 E, .int .i64 A] Z8.out (Nat.le_refl _) rfl rfl (by kernel_rfl) (by simp [Value.oneCell']) ?_; intro w9 hr9 hs9; have HR9 : Hid (Row w9 w8.heap.size 44 [.int .i64 E, .int .i64 A]) := hr9; have HB9 : Hid (Below w8.heap.size w8 w9) := hs9.below ((Below.refl _ _).alloc (Nat.le_refl _) _) (Nat.le_refl _); clear Z8 hr9 hs9))
      obtain ⟨X, hX0⟩ : ∃ X, X = tkCells x io2 ic2 lo2 lc2 := ⟨_, rfl⟩
      have LX : Hid (X.length = 35) := by rw [hX0]; exact tkC_len H8.out.1.own.tag
      have XP : Hid ((X.drop 0).take 35 = X) := by show _ = _; rw [List.drop_zero, List.take_of_length_le (by rw [LX.out]; exact Nat.le_refl _)]
      have TP : Hid ((Y.drop 0).take 35 = Y) := by show _ = _; rw [List.drop_zero, List.take_of_length_le (by rw [LY.out]; exact Nat.le_refl _)]
      have LT : Hid (Y.length = 35) := LY.out
      have RX : Hid (∀ W, Below w9.heap.size w9 W → Row W G2x 36 X) := fun W h => by rw [hX0]; exact (H8.out.1.keep HB9.out).row.below h (H8.out.1.keep HB9.out).row.lt
      have RY : Hid (∀ W, Below w9.heap.size w9 W → Row W G4x 28 Y) := fun W h => (H8.out.2.2.1.below HB9.out H8.out.2.2.1.lt).below h (H8.out.2.2.1.below HB9.out H8.out.2.2.1.lt).lt
      have RW : Hid (∀ W, Below w9.heap.size w9 W → Row W (G4x + 1) 44 [.int .i64 E, .int .i64 A]) := fun W h => (H8.out.2.2.2.1.below HB9.out H8.out.2.2.2.1.lt).below h (H8.out.2.2.2.1.below HB9.out H8.out.2.2.2.1.lt).lt
      have RV : Hid (∀ W, Below w9.heap.size w9 W → Row W w8.heap.size 44 [.int .i64 E, .int .i64 A]) := fun W h => HR9.out.below h HR9.out.lt
      have BKC : Hid (∀ W, Below w9.heap.size w9 W → Calls Tryd.prog 15 #[.agg X.toArray] W (BackP x io2 ic2 W)) := fun W h => by rw [hX0]; exact l24back_any x io2 ic2 lo2 lc2 W ((H8.out.1.keep HB9.out).own.v.keep h) (by have := HX32.out; omega)
      have SMC : Hid (∀ W lo9 lc9, Below w9.heap.size w9 W → TkV W x io2 ic2 lo9 lc9 → Calls Tryd.prog 14 #[.agg (tkCells x io2 ic2 lo9 lc9).toArray, .agg Y.toArray] W fun e w' => e = .returned (.bool true) ∧ Below W.heap.size W w') := fun W lo9 lc9 h hv => by rw [← HYE.out]; exact r24Same_any x x io2 ic2 lo9 lc9 io4 ic4 lo4 lc4 W hv ((H8.out.2.1.keep HB9.out).keep h) (by have := HX32.out; omega) true (by simp)
      have NX2 : Hid (∀ W, Below w9.heap.size w9 W → Below w.heap.size w W) := fun W h => HI.out.trans ((H8.out.2.2.2.2.trans ((HB9.out.trans (h.mono HB9.out.size)).mono H8.out.2.2.2.2.size)).mono HI.out.size)
      clear hX0
      generalize w8.heap.size = G8x at *
      refine wp_region_inv (IBY15 w9 x io2 ic2 Y X E A _ _ _ _ _ _ _ _ _ _ _ _ _ _ _ _ _ _ _ _ _ _ _ _ _ _ _ _ _ _ _ _ _ _ _ _ _ _ _ _ _ _ _ _ _ _ _ _ _ _ _ _ _ _ _ _ _ _ _ _ _ _ _ _ _) (by kernel_rfl) (by kernel_rfl) ⟨_, _, _, _, _, _, _, _, _, _, _, _, _, _, rfl, ⟨BS.zero _ _ _ _ _, fun k => (by cases k), fun k => (by cases k), fun k => (by cases k), fun k => (by cases k), fun k => (by cases k), fun k => (by cases k), fun k => (by cases k), fun k => (by cases k), fun k => (by cases k), fun k => (by cases k), fun k => (by cases k), fun k => (by cases k), fun k => (by cases k)⟩⟩ ?_ ?_
      · refine .cons ?_ (.cons ?_ (.cons ?_ (.cons ?_ (.cons ?_ (.cons ?_ (.cons ?_ (.cons ?_ (.cons ?_ (.cons ?_ (.cons ?_ (.cons ?_ (.cons ?_ (.cons ?_ .nil)))))))))))))
        all_goals (refine BY15.step ?_; intro x64 x65 x66 x67 x68 x69 x70 x71 x72 x73 x74 x75 x76 x77 L W hI hL hd K hK)
        · rw [if_pos (by rfl)]
          go_simp
          exact hK.out _ _ ⟨_, _, _, _, _, _, _, _, _, _, _, _, _, _, rfl, hI.s0⟩
        · have hx0 := hI.p0 (hd 0 (by decide))
          subst hx0
          rw [if_pos (by rfl)]
          go_simp
          exact hK.out _ _ ⟨_, _, _, _, _, _, _, _, _, _, _, _, _, _, rfl, hI.s1⟩
        · have hx1 := hI.p1 (hd 1 (by decide))
          subst hx1
          rw [if_pos (by rfl)]
          go_simp
          exact hK.out _ _ ⟨_, _, _, _, _, _, _, _, _, _, _, _, _, _, rfl, hI.s2⟩
        · have hx2 := hI.p2 (hd 2 (by decide))
          subst hx2
          refine step_load_part (by rfl) 44 _ rfl G8x 0 44 2 [.int .i64 E, .int .i64 A] (RV.out W hI.x.bel) rfl _ [.int .i64 E, .int .i64 A] rfl rfl Tryd.underlying44 rfl (by kernel_rfl) ?_
          exact hK.out _ _ ⟨_, _, _, _, _, _, _, _, _, _, _, _, _, _, rfl, hI.s3⟩
        · have hx2 := hI.p2 (hd 2 (by decide))
          subst hx2
          refine step_load_part (by rfl) 44 _ rfl (G4x + 1) 0 44 2 [.int .i64 E, .int .i64 A] (RW.out W hI.x.bel) rfl _ [.int .i64 E, .int .i64 A] rfl rfl Tryd.underlying44 rfl (by kernel_rfl) ?_
          exact hK.out _ _ ⟨_, _, _, _, _, _, _, _, _, _, _, _, _, _, rfl, hI.s4⟩
        · have hx3 := hI.p3 (hd 3 (by decide))
          subst hx3
          have hx4 := hI.p4 (hd 4 (by decide))
          subst hx4
          have hx2 := hI.p2 (hd 2 (by decide))
          subst hx2
          rw [if_pos (by rfl)]
          have heq := EQW W
          go_simp
          exact hK.out _ _ ⟨_, _, _, _, _, _, _, _, _, _, _, _, _, _, rfl, hI.s5⟩
        · have hx2 := hI.p2 (hd 2 (by decide))
          subst hx2
          have hx5 := hI.p5 (hd 5 (by decide))
          subst hx5
          rw [if_pos (by rfl)]
          go_simp
          exact hK.out _ _ ⟨_, _, _, _, _, _, _, _, _, _, _, _, _, _, rfl, hI.s6⟩
        · have hx6 := hI.p6 (hd 6 (by decide))
          subst hx6
          rw [if_pos (by rfl)]
          go_simp
          exact hK.out _ _ ⟨_, _, _, _, _, _, _, _, _, _, _, _, _, _, rfl, hI.s7⟩
        · have hx7 := hI.p7 (hd 7 (by decide))
          subst hx7
          refine step_load_part (by rfl) 36 _ rfl G2x 0 36 35 X (RX.out W hI.x.bel) rfl _ X XP.out LX.out Tryd.underlying36 rfl (by kernel_rfl) ?_
          exact hK.out _ _ ⟨_, _, _, _, _, _, _, _, _, _, _, _, _, _, rfl, hI.s8⟩
        · have hx8 := hI.p8 (hd 8 (by decide))
          subst hx8
          have hx7 := hI.p7 (hd 7 (by decide))
          subst hx7
          rw [if_pos (by rfl)]
          go_simp
          refine (BKC.out W hI.x.bel).mono ?_
          rintro e W2 ⟨lo9, lc9, rfl, hv9, hb9⟩
          go_simp
          have hX := hI.x.s hb9 hv9 (q' := true)
          exact hK.out _ _ ⟨_, _, _, _, _, _, _, _, _, _, _, _, _, _, rfl, hI.s9 hX⟩
        · have hx7 := hI.p7 (hd 7 (by decide))
          subst hx7
          refine step_load_part (by rfl) 28 _ rfl G4x 0 28 35 Y (RY.out W hI.x.bel) rfl _ Y TP.out LT.out Tryd.underlying28 rfl (by kernel_rfl) ?_
          exact hK.out _ _ ⟨_, _, _, _, _, _, _, _, _, _, _, _, _, _, rfl, hI.s10⟩
        · have hx10 := hI.p10 (hd 10 (by decide))
          subst hx10
          have hx7 := hI.p7 (hd 7 (by decide))
          subst hx7
          rw [if_pos (by rfl)]
          go_simp
          obtain ⟨lo9, lc9, e9, hv9⟩ := hI.x.p (hd 9 (by decide))
          subst e9
          refine (SMC.out W lo9 lc9 hI.x.bel hv9).mono ?_
          rintro e W2 ⟨rfl, hb9⟩
          go_simp
          have hX := hI.x.keep hb9
          exact hK.out _ _ ⟨_, _, _, _, _, _, _, _, _, _, _, _, _, _, rfl, hI.s11 hX⟩
        · have hx11 := hI.p11 (hd 11 (by decide))
          subst hx11
          have hx7 := hI.p7 (hd 7 (by decide))
          subst hx7
          rw [if_pos (by rfl)]
          go_simp
          exact hK.out _ _ ⟨_, _, _, _, _, _, _, _, _, _, _, _, _, _, rfl, hI.s12⟩
        · have hx7 := hI.p7 (hd 7 (by decide))
          subst hx7
          have hx12 := hI.p12 (hd 12 (by decide))
          subst hx12
          rw [if_pos (by rfl)]
          go_simp
          exact hK.out _ _ ⟨_, _, _, _, _, _, _, _, _, _, _, _, _, _, rfl, hI.s13⟩
      · refine BY15.ends ?_; intro x64 x65 x66 x67 x68 x69 x70 x71 x72 x73 x74 x75 x76 x77 L W hall hI
        have hx0 := hI.p0 (hall 0 (by decide))
        subst hx0
        have hx1 := hI.p1 (hall 1 (by decide))
        subst hx1
        have hx2 := hI.p2 (hall 2 (by decide))
        subst hx2
        have hx3 := hI.p3 (hall 3 (by decide))
        subst hx3
        have hx4 := hI.p4 (hall 4 (by decide))
        subst hx4
        have hx5 := hI.p5 (hall 5 (by decide))
        subst hx5
        have hx6 := hI.p6 (hall 6 (by decide))
        subst hx6
        have hx7 := hI.p7 (hall 7 (by decide))
        subst hx7
        have hx8 := hI.p8 (hall 8 (by decide))
        subst hx8
        have hx10 := hI.p10 (hall 10 (by decide))
        subst hx10
        have hx11 := hI.p11 (hall 11 (by decide))
        subst hx11
        have hx12 := hI.p12 (hall 12 (by decide))
        subst hx12
        have hx13 := hI.p13 (hall 13 (by decide))
        subst hx13
        have hXe := hI.x
        rw [hall 9 (by decide)] at hXe
        clear hI hall
        try dsimp only
        have HX9 : Hid (Below w.heap.size w W) := NX2.out W hXe.bel
        clear hXe
        go_wp2
        exact ⟨⟨i + 1, HLT.out, by go_num, HX9⟩, by have := HLT.out; simp [intOf]; omega⟩
    · obtain rfl : i = m := by omega
      have y1 : ¬ ((i : Nat) : Int) < (i : Int) := by omega
      go_wp2
      go_ret
      exact ⟨rfl, HI.out⟩
set_option maxHeartbeats 4000000 in
theorem bytes24_any (C : Tok) (w : World) (hg : HG w) (t : Tk) (io : Option Addr) (ic : Nat) (lo : Option Addr) (lc : Nat) (hv : TkV w t io ic lo lc) (so : Option Addr) (cap : Nat) (L : List (List By)) (hL : LsB w so L) (hl : L.length ≤ 140737488355328) :
    Calls Tryd.prog 4 #[.agg (tkCells t io ic lo lc).toArray, .slice so L.length cap] w (OkP w) := by
  have NXT : Hid (∀ c0 c2 c3 c4 c5 c6 c7 c8 c9 c10 c11 c12 c13 c14 c15 c16 c17 c18 c19 c20 c21 c22 c23 c24 c25 c26 c27 c28 c29 c30 c31 c32 c33 c34 c35 c36 c37 c38 c39 c40 c41 c42 c43 c44 c45 c46 c47 c48 c49 c50 c51 c52 c53 c54 c55 c56 c57 c58 c59 c60 c61 c62 c63 c64 c65 c66 c67 c68 c69 c70 c71 c72 c73 c74 c75 c76 c77 c78 W, Below w.heap.size w W → Code.wp Tryd.prog (dropS 6 (Tryd.f4.body.getD .skip)) (bodyPost Tryd.prog Tryd.f4 (OkP w)) ⟨#[c0, .slice so L.length cap, c2, c3, c4, c5, c6, c7, c8, c9, c10, c11, c12, c13, c14, c15, c16, c17, c18, c19, c20, c21, c22, c23, c24, c25, c26, c27, c28, c29, c30, c31, c32, c33, c34, c35, c36, c37, c38, c39, c40, c41, c42, c43, c44, c45, c46, c47, c48, c49, c50, c51, c52, c53, c54, c55, c56, c57, c58, c59, c60, c61, c62, c63, c64, c65, c66, c67, c68, c69, c70, c71, c72, c73, c74, c75, c76, c77, c78], []⟩ W) := fun c0 c2 c3 c4 c5 c6 c7 c8 c9 c10 c11 c12 c13 c14 c15 c16 c17 c18 c19 c20 c21 c22 c23 c24 c25 c26 c27 c28 c29 c30 c31 c32 c33 c34 c35 c36 c37 c38 c39 c40 c41 c42 c43 c44 c45 c46 c47 c48 c49 c50 c51 c52 c53 c54 c55 c56 c57 c58 c59 c60 c61 c62 c63 c64 c65 c66 c67 c68 c69 c70 c71 c72 c73 c74 c75 c76 c77 c78 W h => byt6 c0 c2 c3 c4 c5 c6 c7 c8 c9 c10 c11 c12 c13 c14 c15 c16 c17 c18 c19 c20 c21 c22 c23 c24 c25 c26 c27 c28 c29 c30 c31 c32 c33 c34 c35 c36 c37 c38 c39 c40 c41 c42 c43 c44 c45 c46 c47 c48 c49 c50 c51 c52 c53 c54 c55 c56 c57 c58 c59 c60 c61 c62 c63 c64 c65 c66 c67 c68 c69 c70 c71 c72 c73 c74 c75 c76 c77 c78 C w W hg h so cap L hL hl
  obtain ⟨T, hT⟩ : ∃ T, T = tkCells t io ic lo lc := ⟨_, rfl⟩
  have LT : Hid (T.length = 35) := by rw [hT]; exact tkC_len hv.tag
  obtain ⟨W1, hW1⟩ : ∃ W1, W1 = w.alloc (.cells T.toArray 28) := ⟨_, rfl⟩
  have r1 : Row W1 w.heap.size 28 T := by rw [hW1]; exact Row.at w _ _ _ _ rfl rfl
  have b1 : Below w.heap.size w W1 := by rw [hW1]; exact (Below.refl _ _).alloc (Nat.le_refl _) _
  have AW := awake24_any C W1 (hg.below b1 hg.lt)
  have HB1 : Hid (Below w.heap.size w W1) := b1
  have RT : Hid (∀ W, Below W1.heap.size W1 W → Row W w.heap.size 28 T) := fun W h => r1.below h r1.lt
  have VT : Hid (∀ W, Below W1.heap.size W1 W → TkV W t io ic lo lc) := fun W h => (hv.keep b1).keep h
  have HC : Hid Tok := C
  have HT : Hid (tkCells t io ic lo lc = T) := hT.symm
  have HV : Hid (TkV w t io ic lo lc) := hv
  rw [← hT]
  clear hT r1 b1 hv C hg hL hl
  generalize L.length = n at *
  go_enter Tryd.func4, Tryd.ntmps4
  refine wp_seq_k fun K hK => ?_
  have HK : Hid _ := hK
  clear hK
  go_wp2
  refine HK.out _ _ ?_
  clear HK
  refine wp_at24 hW1 ?_
  clear hW1
  refine wp_seq_k fun K hK => ?_
  have HK : Hid _ := hK
  clear hK
  go_wp2_with fail
  refine AW.mono ?_
  clear AW
  rintro e w2 ⟨rfl, hb2⟩
  dsimp only
  have HB2 : Hid (Below W1.heap.size W1 w2) := hb2
  have R2 := RT.out w2 hb2
  have FW : Calls Tryd.prog 7 #[.agg T.toArray] w2 fun e w' => e = .returned (.bool (decide (t.cs.length ≤ 65536))) ∧ Below w2.heap.size w2 w' := by rw [← HT.out]; exact r24Few_any t io ic lo lc w2
  clear hb2
  go_wp2
  refine HK.out _ _ ?_
  clear HK
  refine wp_seq_k fun K hK => ?_
  have HK : Hid _ := hK
  clear hK
  by_cases hf : t.cs.length ≤ 65536
  · rw [decide_eq_true hf] at FW
    have HFW : Hid (t.cs.length ≤ 65536) := hf
    clear hf
    go_wp2_with (first
      | (have hz := R2; clear hz; refine wpList_load_Row rfl 28 (.tmp 2) rfl w.heap.size 28 T R2 rfl _ Tryd.underlying28 rfl (by rw [LT.out]; kernel_rfl) ?_; clear R2))
    refine FW.mono ?_
    clear FW
    rintro e w3 ⟨rfl, hb3⟩
    dsimp only
    have HB3 : Hid (Below W1.heap.size W1 w3) := HB2.out.trans (hb3.mono HB2.out.size)
    have R3 := RT.out w3 HB3.out
    have OF : Calls Tryd.prog 9 #[.agg T.toArray] w3 (OfP t w3) := by rw [← HT.out]; exact l24of_any t io ic lo lc w3 (VT.out w3 HB3.out) HFW.out
    clear hb3 HB2
    go_wp2
    refine HK.out _ _ ?_
    clear HK
    refine wp_seq_k fun K hK => ?_
    have HK : Hid _ := hK
    clear hK
    go_wp2_with (first
      | (have hz := R3; clear hz; refine wpList_load_Row rfl 28 (.tmp 2) rfl w.heap.size 28 T R3 rfl _ Tryd.underlying28 rfl (by rw [LT.out]; kernel_rfl) ?_; clear R3))
    refine OF.mono ?_
    clear OF
    rintro e w4 ⟨G, c4, H, rfl, ho4, hr4, hH, hb4⟩
    dsimp only
    have HB4 : Hid (Below W1.heap.size W1 w4) := HB3.out.trans (hb4.mono HB3.out.size)
    -- what Put tells, of both
    obtain ⟨PB, PE, hP⟩ : ∃ (PB : List By) (PE : Int), ∀ (W : World) (e : Ending) (w' : World), PutP t W e w' → Below W.heap.size W w' ∧ ∃ ao c', e = .returned (.tuple #[.slice ao PB.length c', .int .i64 PE]) ∧ IsB w' ao PB := by
      cases hm : tkMay t with
      | true => exact ⟨tkB t, 0, fun W e w' ⟨h1, h2⟩ => ⟨h1, by rw [if_pos hm] at h2; obtain ⟨ao, c', he, ho⟩ := h2; exact ⟨ao, c', he, own_IsB ho⟩⟩⟩
      | false => exact ⟨[], 5, fun W e w' ⟨h1, h2⟩ => ⟨h1, by rw [hm] at h2; exact ⟨none, 0, h2, .inl rfl⟩⟩⟩
    have PU : Calls Tryd.prog 8 #[.agg (tkC t.key (some ⟨G, 0, none⟩) t.id.length c4 (some ⟨H, 0, none⟩) t.cs.length (t.cs.length + 2) t.tag).toArray] w4 fun e w' => Below w4.heap.size w4 w' ∧ ∃ ao c', e = .returned (.tuple #[.slice ao PB.length c', .int .i64 PE]) ∧ IsB w' ao PB := (HC.out.put t _ _ _ _ w4 (of_tkv HV.out ho4 hr4) (by have := HFW.out; omega)).mono fun e w' h => hP w4 e w' h
    have PR : Hid (∀ W, Below W1.heap.size W1 W → Calls Tryd.prog 10 #[.agg T.toArray] W fun e w' => Below W.heap.size W w' ∧ ∃ ao c', e = .returned (.tuple #[.slice ao PB.length c', .int .i64 PE]) ∧ IsB w' ao PB) := fun W h => (by rw [← HT.out]; exact (r24Put_any t io ic lo lc W (VT.out W h)).mono fun e w' h => hP W e w' h)
    clear ho4 hr4 hH hb4 HB3 hP
    generalize tkC t.key (some ⟨G, 0, none⟩) t.id.length c4 (some ⟨H, 0, none⟩) t.cs.length (t.cs.length + 2) t.tag = D at *
    go_wp2_with fail
    refine PU.mono ?_
    clear PU
    rintro e w5 ⟨hb5, ao5, c5, rfl, ho5⟩
    dsimp only
    have HB5 : Hid (Below W1.heap.size W1 w5) := HB4.out.trans (hb5.mono HB4.out.size)
    have HO5 : Hid (IsB w5 ao5 PB) := ho5
    have R5 := RT.out w5 HB5.out
    have P5 := PR.out w5 HB5.out
    clear hb5 ho5 HB4 PR
    go_wp2
    refine HK.out _ _ ?_
    clear HK
    refine wp_seq_k fun K hK => ?_
    have HK : Hid _ := hK
    clear hK
    go_wp2_with (first
      | (have hz := R5; clear hz; refine wpList_load_Row rfl 28 (.tmp 2) rfl w.heap.size 28 T R5 rfl _ Tryd.underlying28 rfl (by rw [LT.out]; kernel_rfl) ?_; clear R5))
    refine P5.mono ?_
    clear P5
    rintro e w6 ⟨hb6, ao6, c6, rfl, ho6⟩
    dsimp only
    have HB6 : Hid (Below w.heap.size w w6) := HB1.out.trans ((HB5.out.trans (hb6.mono HB5.out.size)).mono HB1.out.size)
    have cv1 := conv_bytes w6 ao5 PB.length c5 PB rfl (HO5.out.below hb6 (Nat.le_refl _))
    have cv2 := conv_bytes w6 ao6 PB.length c6 PB rfl ho6
    clear hb6 ho6 HB5 HO5
    go_wp2
    refine HK.out _ _ ?_
    clear HK
    generalize strOf PB = Sb at *
    have e1 : (Sb.toList == Sb.toList) = true := by simp
    generalize PB.length = lb at *
    have e2 : (PE == PE) = true := by simp
    have e3 : (PE != PE) = false := by simp
    refine wp_seq_k fun K hK => ?_
    have HK : Hid _ := hK
    clear hK
    go_wp2
    refine HK.out _ _ ?_
    exact NXT.out _ _ _ _ _ _ _ _ _ _ _ _ _ _ _ _ _ _ _ _ _ _ _ _ _ _ _ _ _ _ _ _ _ _ _ _ _ _ _ _ _ _ _ _ _ _ _ _ _ _ _ _ _ _ _ _ _ _ _ _ _ _ _ _ _ _ _ _ _ _ _ _ _ _ _ _ _ _ w6 HB6.out
  · rw [decide_eq_false hf] at FW
    clear hf
    go_wp2_with (first
      | (have hz := R2; clear hz; refine wpList_load_Row rfl 28 (.tmp 2) rfl w.heap.size 28 T R2 rfl _ Tryd.underlying28 rfl (by rw [LT.out]; kernel_rfl) ?_; clear R2))
    refine FW.mono ?_
    clear FW
    rintro e w3 ⟨rfl, hb3⟩
    dsimp only
    have HB3 : Hid (Below w.heap.size w w3) := HB1.out.trans ((HB2.out.trans (hb3.mono HB2.out.size)).mono HB1.out.size)
    clear hb3
    go_wp2
    go_ret
    exact ⟨rfl, HB3.out⟩
end Go.Proofs.YtjooabgjkjnhhaaDoor
