
import Derived.Test.YtgpnbiaghokjkaaDoorD21OnM
import Derived.Test.YtgpnbiaghokjkaaDoorD21Fits
import Derived.Test.YtgpnbiaghokjkaaDoorD21Print
/-! Layer 21, the document's answer: one. (Printed by tools/gend21.py.) -/
namespace Go.Proofs.YtgpnbiaghokjkaaDoor
open Go.RowKit
set_option linter.unusedVariables false
set_option linter.unusedSimpArgs false
set_option maxRecDepth 100000

theorem results_trt {fn : Func} {q p u : Tmp} {ty : TypeId} (h : fn.results = #[.tmp q, .cell p ty, .tmp u]) (tmps : Array Value) (w : World) (g t : Nat) (cs : List Value) (d : TypeDesc)
    (hp : tmps.getD p undef = .pointer (some ⟨g, 0, none⟩)) (hr : Row w g t cs) (hu : Tryd.prog.underlying ty = some d) (hd : d.isRow = true) (hi : (Tryd.prog.info? ty).map (·.size) = some cs.length) :
    (results fn tmps).run Tryd.prog w = .ok (.tuple #[tmps.getD q undef, .agg cs.toArray, tmps.getD u undef]) w := by
  have hl := run_loadVar_mid (P := Tryd.prog) w g 0 ty cs d (by have := hr.range 0 cs.length; simpa using this) hu hd hi
  rw [Array.getD_eq_getD_getElem?] at hp
  simp only [results, h]
  simp [Sem.run_bind, Result.andThen, asAddr, hp, hl]

/-- Around the store of what is told. -/
structure OS (w : World) (N G3 G5 : Nat) (xs : List Value) (l : Bool) (W : World) : Prop where
  bel : Below N w W
  r5 : Row W G5 56 xs
  r3 : ∃ old, Row W G3 56 old ∧ old.length = 32 ∧ (l = true → old = xs)
section
variable {w : World} {N G3 G5 : Nat} {xs : List Value} {l : Bool} {W W2 : World}
theorem OS.zero (hb : Below N w W) (h5 : Row W G5 56 xs) (old : List Value) (h3 : Row W G3 56 old) (hl : old.length = 32) : OS w N G3 G5 xs false W.drew :=
  ⟨Below_dr hb ⟨1, rfl⟩, h5, ⟨old, h3, hl, fun e => by cases e⟩⟩
theorem OS.st (h : OS w N G3 G5 xs l W) (hr : Row W2 G3 56 xs) (hs : SameBut G3 W W2) (hne : G5 ≠ G3) (hN : N ≤ G3) (lx : xs.length = 32) : OS w N G3 G5 xs true W2 :=
  ⟨hs.below h.bel hN, h.r5.but hs hne, ⟨xs, hr, lx, fun _ => rfl⟩⟩
theorem OS.call (h : OS w N G3 G5 xs l W) (hN : N ≤ W.heap.size) (hb : Below W.heap.size W W2) : OS w N G3 G5 xs l W2 := by
  obtain ⟨old, h1, h2, h3⟩ := h.r3
  exact ⟨h.bel.trans (hb.mono hN), h.r5.below hb h.r5.lt, ⟨old, h1.below hb h1.lt, h2, h3⟩⟩
theorem OS.sz (h : OS w N G3 G5 xs l W) (hN : N ≤ G3) : N ≤ W.heap.size := by
  obtain ⟨old, h1, _⟩ := h.r3
  have := h1.lt
  omega
end

theorem cell_bytes : ([99, 101, 108, 108] : List UInt8) = (strOf wCell).toList := by
  rw [ByteArray.toList_eq, strOf_data]; rfl
/-- What one tells. -/
def OneP (N : Nat) (w : World) (l : List By) (e : Ending) (w' : World) : Prop :=
  (∃ (n : Int) (x : List By) (ok : Bool), e = .returned (.tuple #[.int .i64 n, .agg (x.map B8).toArray, .bool ok]) ∧ x.length = 32 ∧ (ok = true → ∃ m : Nat, n = (m : Int) ∧ one? l = some (m, x)) ∧ (ok = false → one? l = none)) ∧ Below N w w'
theorem OneP.no {N : Nat} {w w' : World} {l : List By} {x : List By} (hx : x.length = 32) (h : one? l = none) (hb : Below N w w') (n : Int) : OneP N w l (.returned (.tuple #[.int .i64 n, .agg (x.map B8).toArray, .bool false])) w' :=
  ⟨⟨n, x, false, rfl, hx, fun e => (by cases e), fun _ => h⟩, hb⟩
structure On4 (W1 : World) (w : World) (N G3 G5 : Nat) (xs : List Value) (L : Nat → Bool) (x30 x2 x4 : Value) (W : World) : Prop where
  x : OS w N G3 G5 xs (L 2) W
  p0 : L 0 = true → x30 = .agg xs.toArray
  p1 : L 1 = true → x2 = .int .i64 0
  p3 : L 3 = true → x4 = .bool false
section
variable {W1 : World} {w : World} {N G3 G5 : Nat} {xs : List Value} {L : Nat → Bool} {x30 x2 x4 : Value} {W W2 : World}
end
@[reducible] def IOn4 (W1 : World) (w : World) (N G3 G5 : Nat) (xs : List Value) (y0 y1 y3 y5 y6 y7 y8 y9 y10 y11 y12 y13 y14 y15 y16 y17 y18 y19 y20 y21 y22 y23 y24 y25 y26 y27 y28 y29 y31 y32 y33 y34 y35 y36 y37 y38 y39 y40 y41 y42 y43 y44 y45 y46 y47 y48 y49 y50 y51 y52 y53 y54 y55 y56 y57 y58 y59 y60 y61 y62 y63 y64 y65 y66 y67 y68 y69 y70 y71 y72 y73 y74 y75 y76 y77 : Value) : (Nat → Bool) → Act → World → Prop := fun L a W => ∃ x30 x2 x4, a = ⟨#[y0, y1, x2, y3, x4, y5, y6, y7, y8, y9, y10, y11, y12, y13, y14, y15, y16, y17, y18, y19, y20, y21, y22, y23, y24, y25, y26, y27, y28, y29, x30, y31, y32, y33, y34, y35, y36, y37, y38, y39, y40, y41, y42, y43, y44, y45, y46, y47, y48, y49, y50, y51, y52, y53, y54, y55, y56, y57, y58, y59, y60, y61, y62, y63, y64, y65, y66, y67, y68, y69, y70, y71, y72, y73, y74, y75, y76, y77], []⟩ ∧ On4 W1 w N G3 G5 xs L x30 x2 x4 W
structure On13 (W1 : World) (w : World) (N G3 G5 : Nat) (xs : List Value) (L : Nat → Bool) (x58 x2 x4 : Value) (W : World) : Prop where
  x : OS w N G3 G5 xs (L 2) W
  p0 : L 0 = true → x58 = .agg xs.toArray
  p1 : L 1 = true → x2 = .int .i64 0
  p3 : L 3 = true → x4 = .bool false
section
variable {W1 : World} {w : World} {N G3 G5 : Nat} {xs : List Value} {L : Nat → Bool} {x58 x2 x4 : Value} {W W2 : World}
end
@[reducible] def IOn13 (W1 : World) (w : World) (N G3 G5 : Nat) (xs : List Value) (y0 y1 y3 y5 y6 y7 y8 y9 y10 y11 y12 y13 y14 y15 y16 y17 y18 y19 y20 y21 y22 y23 y24 y25 y26 y27 y28 y29 y30 y31 y32 y33 y34 y35 y36 y37 y38 y39 y40 y41 y42 y43 y44 y45 y46 y47 y48 y49 y50 y51 y52 y53 y54 y55 y56 y57 y59 y60 y61 y62 y63 y64 y65 y66 y67 y68 y69 y70 y71 y72 y73 y74 y75 y76 y77 : Value) : (Nat → Bool) → Act → World → Prop := fun L a W => ∃ x58 x2 x4, a = ⟨#[y0, y1, x2, y3, x4, y5, y6, y7, y8, y9, y10, y11, y12, y13, y14, y15, y16, y17, y18, y19, y20, y21, y22, y23, y24, y25, y26, y27, y28, y29, y30, y31, y32, y33, y34, y35, y36, y37, y38, y39, y40, y41, y42, y43, y44, y45, y46, y47, y48, y49, y50, y51, y52, y53, y54, y55, y56, y57, x58, y59, y60, y61, y62, y63, y64, y65, y66, y67, y68, y69, y70, y71, y72, y73, y74, y75, y76, y77], []⟩ ∧ On13 W1 w N G3 G5 xs L x58 x2 x4 W
structure On15t (W1 : World) (w : World) (N G3 G5 : Nat) (xs : List Value) (vn : Int) (bk : Bool) (L : Nat → Bool) (x70 x71 x72 x73 x74 x75 x76 x77 x2 x4 : Value) (W : World) : Prop where
  x : OS w N G3 G5 xs (L 9) W
  p0 : L 0 = true → x70 = .int .i64 vn
  p1 : L 1 = true → x71 = .agg xs.toArray
  p2 : L 2 = true → x72 = .bool true
  p3 : L 3 = true → x73 = .bool true
  p4 : L 4 = true → x74 = .agg xs.toArray
  p5 : L 5 = true → x75 = .bool bk
  p6 : L 6 = true → x76 = .bool (!bk)
  p7 : L 7 = true → x77 = .bool (!bk)
  p8 : L 8 = true → x2 = .int .i64 vn
  p10 : L 10 = true → x4 = .bool (!bk)
section
variable {W1 : World} {w : World} {N G3 G5 : Nat} {xs : List Value} {vn : Int} {bk : Bool} {L : Nat → Bool} {x70 x71 x72 x73 x74 x75 x76 x77 x2 x4 : Value} {W W2 : World}
end
@[reducible] def IOn15t (W1 : World) (w : World) (N G3 G5 : Nat) (xs : List Value) (vn : Int) (bk : Bool) (y0 y1 y3 y5 y6 y7 y8 y9 y10 y11 y12 y13 y14 y15 y16 y17 y18 y19 y20 y21 y22 y23 y24 y25 y26 y27 y28 y29 y30 y31 y32 y33 y34 y35 y36 y37 y38 y39 y40 y41 y42 y43 y44 y45 y46 y47 y48 y49 y50 y51 y52 y53 y54 y55 y56 y57 y58 y59 y60 y61 y62 y63 y64 y65 y66 y67 y68 y69 : Value) : (Nat → Bool) → Act → World → Prop := fun L a W => ∃ x70 x71 x72 x73 x74 x75 x76 x77 x2 x4, a = ⟨#[y0, y1, x2, y3, x4, y5, y6, y7, y8, y9, y10, y11, y12, y13, y14, y15, y16, y17, y18, y19, y20, y21, y22, y23, y24, y25, y26, y27, y28, y29, y30, y31, y32, y33, y34, y35, y36, y37, y38, y39, y40, y41, y42, y43, y44, y45, y46, y47, y48, y49, y50, y51, y52, y53, y54, y55, y56, y57, y58, y59, y60, y61, y62, y63, y64, y65, y66, y67, y68, y69, x70, x71, x72, x73, x74, x75, x76, x77], []⟩ ∧ On15t W1 w N G3 G5 xs vn bk L x70 x71 x72 x73 x74 x75 x76 x77 x2 x4 W
structure On15f (W1 : World) (w : World) (N G3 G5 : Nat) (xs : List Value) (vn : Int) (bk : Bool) (L : Nat → Bool) (x70 x71 x72 x73 x74 x75 x76 x77 x2 x4 : Value) (W : World) : Prop where
  x : OS w N G3 G5 xs (L 9) W
  p0 : L 0 = true → x70 = .int .i64 vn
  p1 : L 1 = true → x71 = .agg xs.toArray
  p2 : L 2 = true → x72 = .bool false
  p3 : L 3 = true → x73 = .bool false
  p7 : L 7 = true → x77 = .bool false
  p8 : L 8 = true → x2 = .int .i64 vn
  p10 : L 10 = true → x4 = .bool false
section
variable {W1 : World} {w : World} {N G3 G5 : Nat} {xs : List Value} {vn : Int} {bk : Bool} {L : Nat → Bool} {x70 x71 x72 x73 x74 x75 x76 x77 x2 x4 : Value} {W W2 : World}
end
@[reducible] def IOn15f (W1 : World) (w : World) (N G3 G5 : Nat) (xs : List Value) (vn : Int) (bk : Bool) (y0 y1 y3 y5 y6 y7 y8 y9 y10 y11 y12 y13 y14 y15 y16 y17 y18 y19 y20 y21 y22 y23 y24 y25 y26 y27 y28 y29 y30 y31 y32 y33 y34 y35 y36 y37 y38 y39 y40 y41 y42 y43 y44 y45 y46 y47 y48 y49 y50 y51 y52 y53 y54 y55 y56 y57 y58 y59 y60 y61 y62 y63 y64 y65 y66 y67 y68 y69 : Value) : (Nat → Bool) → Act → World → Prop := fun L a W => ∃ x70 x71 x72 x73 x74 x75 x76 x77 x2 x4, a = ⟨#[y0, y1, x2, y3, x4, y5, y6, y7, y8, y9, y10, y11, y12, y13, y14, y15, y16, y17, y18, y19, y20, y21, y22, y23, y24, y25, y26, y27, y28, y29, y30, y31, y32, y33, y34, y35, y36, y37, y38, y39, y40, y41, y42, y43, y44, y45, y46, y47, y48, y49, y50, y51, y52, y53, y54, y55, y56, y57, y58, y59, y60, y61, y62, y63, y64, y65, y66, y67, y68, y69, x70, x71, x72, x73, x74, x75, x76, x77], []⟩ ∧ On15f W1 w N G3 G5 xs vn bk L x70 x71 x72 x73 x74 x75 x76 x77 x2 x4 W
set_option maxHeartbeats 8000000 in
theorem r21one_any (l : List By) (hl : l.length ≤ 2000000) (w : World) :
    Calls Tryd.prog 49 #[.string (strOf l)] w (OneP w.heap.size w l) := by
  have HWD : Hid (∀ W, Calls Tryd.prog 46 #[.string (strOf l)] W fun e w' => ∃ v, e = .returned v ∧ OwnE 9 W.heap.size w' v ((wordsL l).map strV) ∧ Below W.heap.size W w') := fun W => r21words_any l (by omega) W
  obtain ⟨ws, hws⟩ : ∃ ws, wordsL l = ws := ⟨_, rfl⟩
  have hwl := words_len l
  have HWL : Hid (∀ x ∈ ws, x.length ≤ 4000000) := fun x hx => by
    have := words_le l x (by rw [hws]; exact hx)
    omega
  have HONE := one_eq l
  rw [hws] at HWD hwl HONE
  clear hws
  have r3 : ∀ o1 : Obj, Row ((w.alloc (.cells ((List.replicate 32 (0 : By)).map B8).toArray 56)).alloc o1) w.heap.size 56 ((List.replicate 32 (0 : By)).map B8) := fun o1 => (Row.at w 56 _ _ _ rfl rfl).alloc o1
  have r5 : Row ((w.alloc (.cells ((List.replicate 32 (0 : By)).map B8).toArray 56)).alloc (.cells ((List.replicate 32 (0 : By)).map B8).toArray 56)) (w.heap.size + 1) 56 ((List.replicate 32 (0 : By)).map B8) := Row.at _ _ _ _ _ (by simp) rfl
  have b0 : ∀ o1 o2 : Obj, Below w.heap.size w ((w.alloc o1).alloc o2) := fun o1 o2 => ((Below.refl _ _).alloc (Nat.le_refl _) _).alloc (by simp) _
  go_enter Tryd.func49, Tryd.ntmps49
  go_wp2_with (refine wpList_store_Row rfl 56 _ _ rfl (w.heap.size + 1) 56 0 _ ((List.replicate 32 (0 : By)).map B8) r5 (by simp) rfl rfl (by kernel_rfl) (B8_one _) ?_; intro w1 hr1 hs1)
  have HR5 : Hid (Row w1 (w.heap.size + 1) 56 ((List.replicate 32 (0 : By)).map B8)) := row_whole hr1 (by simp)
  have HR3 : Hid (Row w1 w.heap.size 56 ((List.replicate 32 (0 : By)).map B8)) := (r3 _).but hs1 (by omega)
  have HB1 : Hid (Below w.heap.size w w1) := hs1.below (b0 _ _) (by omega)
  clear hr1 hs1 r3 r5 b0
  refine (HWD.out _).mono ?_
  rintro e w2 ⟨v, rfl, ho, hb2⟩
  dsimp only
  have HB2 : Hid (Below w.heap.size w w2) := HB1.out.trans (hb2.mono HB1.out.size)
  have HR5b : Hid (Row w2 (w.heap.size + 1) 56 ((List.replicate 32 (0 : By)).map B8)) := HR5.out.below hb2 HR5.out.lt
  have HR3b : Hid (Row w2 w.heap.size 56 ((List.replicate 32 (0 : By)).map B8)) := HR3.out.below hb2 HR3.out.lt
  have HOW : Hid (OwnE 9 w1.heap.size w2 v (ws.map strV)) := ho
  obtain ⟨ao, cv, hve⟩ := ho.form
  subst hve
  rw [List.length_map] at HOW ⊢
  have hne : w.heap.size + 1 ≠ w.heap.size := by omega
  have HG1 : Hid (w.heap.size + 1 < w1.heap.size) := HR5.out.lt
  have hN3 : w.heap.size ≤ w.heap.size := Nat.le_refl _
  clear hb2 ho HR5 HR3 HB1 HWD
  obtain ⟨wq, hwq⟩ : ∃ wq, wq = w2 := ⟨w2, rfl⟩
  subst hwq
  by_cases h3 : ws.length = 3
  · obtain ⟨a, b, t, hws3⟩ : ∃ a b t, ws = [a, b, t] := by
      match ws, h3 with
      | [a, b, t], _ => exact ⟨a, b, t, rfl⟩
    subst hws3
    have hb4 : b.length ≤ 4000000 := HWL.out b (by simp)
    have ht4 : t.length ≤ 4000000 := HWL.out t (by simp)
    obtain ⟨g, c', e', hg, hgl, k0⟩ := HOW.out.at 0 (strV a) rfl
    injection e' with e1 _ _
    subst e1
    obtain ⟨g2, c2, e2, _, _, k1⟩ := HOW.out.at 1 (strV b) rfl
    injection e2 with e2 _ _
    injection e2 with e2
    injection e2 with e2 _
    subst e2
    obtain ⟨g3, c3, e3, _, _, k2⟩ := HOW.out.at 2 (strV t) rfl
    injection e3 with e3 _ _
    injection e3 with e3
    injection e3 with e3 _
    subst e3
    have K0 : wq.cell? ⟨g, 0, none⟩ = some (.string (strOf a)) := k0
    have K1 : wq.cell? ⟨g, 1, none⟩ = some (.string (strOf b)) := k1
    have K2 : wq.cell? ⟨g, 2, none⟩ = some (.string (strOf t)) := k2
    have HGG : Hid (w.heap.size + 1 < g ∧ g < wq.heap.size) := ⟨by have := HG1.out; omega, hgl⟩
    have hq := strOf_beq a wCell
    have slt : ∀ W : World, (Builtin.len_ #[9] 3 #[.string (strOf t)]).run Tryd.prog W = .ok (goInt t.length) W := fun W => str_len t 3 W
    clear k0 k1 k2 hg hgl HOW HWL h3 HG1
    by_cases ha : a = wCell
    · have hq2 : ((strOf a).toList != ({ data := #[99, 101, 108, 108] } : ByteArray).toList) = false := by rw [k_cell, bne, hq, decide_eq_true ha]; rfl
      have hq3 : ((strOf a).toList == [99, 101, 108, 108]) = true := by rw [cell_bytes, hq, decide_eq_true ha]
      have hq4 : (strOf a).toList = [99, 101, 108, 108] := by simpa using hq3
      by_cases ht : t.length = 64
      · have ht2 : ((t.length : Int) != 64) = false := by rw [bne_eq_false_iff_eq]; omega
        have HTL : Hid (t.length = 64) := ht
        have HON : Hid (one? l = match val? b, unhex t with | some n, some x => if x = List.replicate 32 255#8 then none else some (n, x) | _, _ => none) := by
          show _ = _
          rw [HONE]
          exact if_pos ⟨ha, ht⟩
        have HVL : Hid (∀ W, Calls Tryd.prog 47 #[.string (strOf b)] W fun e w' => e = .returned (.tuple #[.int .i64 (valN b : Int), .bool (val? b).isSome]) ∧ Below W.heap.size W w') := fun W => r21value_any b hb4 W
        have HVN : Hid (∀ m, val? b = some m → valN b = m) := fun m hm => by
          unfold val? at hm
          split at hm
          · injection hm
          · cases hm
        have HIX : Hid (∀ i : Nat, i < 64 → ∀ W : World, (Instr.index 9 (.string (strOf t)) (.int .i64 (i : Int))).run Tryd.prog W = .ok (.int .u8 ((t.getD i 0).toNat : Int)) W) := fun i hi W => str_index t .i64 i (by omega) W
        have HDX : Hid (∀ d : Nat, d < 16 → ∀ W : World, (Instr.index 9 (.string { data := #[48, 49, 50, 51, 52, 53, 54, 55, 56, 57, 97, 98, 99, 100, 101, 102] }) (.int .i64 (d : Int))).run Tryd.prog W = .ok (.int .u8 ((hx d).toNat : Int)) W) := fun d hd W => by
          rw [k_digits, str_index hexD .i64 d hd W, hexD_get d hd]
        have HBKA : Hid (∀ W x, x.length = 32 → Calls Tryd.prog 25 #[.agg (x.map B8).toArray] W fun e w' => e = .returned (.bool (decide (x = List.replicate 32 255#8))) ∧ Below W.heap.size W w') := fun W x hx' => r21blank_any x hx' W
        clear HONE ha hq ht
        have HR5z : Hid (Row wq (w.heap.size + 1) 56 ((hexTo t 0).map B8)) := by rw [hexTo_zero]; exact HR5b.out
        generalize strOf a = SA at *
        obtain ⟨TL, hTL⟩ : ∃ TL, t.length = TL := ⟨_, rfl⟩
        rw [hTL] at ht2
        simp only [hTL] at slt
        clear hTL ht4
        generalize hok : (val? b).isSome = ok at *
        have HOKE : Hid ((val? b).isSome = ok) := hok
        clear hok
        generalize strOf b = SB at *
        generalize hST : strOf t = ST at *
        clear hST
        go_wp2_with fail
        refine (HVL.out _).mono ?_
        rintro e w3 ⟨rfl, hb3⟩
        dsimp only
        have HB3 : Hid (Below w.heap.size w w3) := HB2.out.trans (hb3.mono HB2.out.size)
        have HR5c : Hid (Row w3 (w.heap.size + 1) 56 ((hexTo t 0).map B8)) := HR5z.out.below hb3 HR5z.out.lt
        have HR3c : Hid (Row w3 w.heap.size 56 ((List.replicate 32 (0 : By)).map B8)) := HR3b.out.below hb3 HR3b.out.lt
        have HC3 : Hid (w3.cell? ⟨g, 2, none⟩ = some (.string ST)) := (hb3.cell (p := ⟨g, 2, none⟩) HGG.out.2).trans K2
        clear hb3 K0 K1 K2 HR5b HR5z HR3b HB2 HVL hq2 hq3 hq4 ht2 slt
        go_wp2_with fail
        go_loopw [9] (fun iv wr => ∃ i : Nat, i ≤ 64 ∧ iv = .int .i64 i ∧ Hid (∀ j, j < i → hv (t.getD j 0) = some (hN t j)) ∧ Hid (Row wr (w.heap.size + 1) 56 ((hexTo t i).map B8)) ∧ Hid (Row wr w.heap.size 56 ((List.replicate 32 (0 : By)).map B8)) ∧ Hid (wr.cell? ⟨g, 2, none⟩ = some (.string ST)) ∧ Hid (Below w.heap.size w wr)) (fun iv _ => 64 - (intOf iv).toNat)
        case atStart => exact ⟨0, by omega, rfl, fun j hj => by omega, HR5c, HR3c, HC3, HB3⟩
        case round =>
          clear HR5c HR3c HC3 HB3
          obtain ⟨i, hi, rfl, HAL, HR5w, HR3w, HCw, HBw⟩ := hrel
          by_cases hlt : i < 64
          · have y0 : (0 : Int) ≤ (i : Int) := by omega
            have y1 : (i : Int) < 64 := by omega
            have ix := HIX.out i hlt
            have i1 : Int.tdiv (i : Int) 2 = ((i / 2 : Nat) : Int) := rfl
            have i2 : (i : Int) / 2 = ((i / 2 : Nat) : Int) := by omega
            have i3 : (0 : Int) ≤ ((i / 2 : Nat) : Int) := by omega
            have i4 : ((i / 2 : Nat) : Int) < 32 := by omega
            have i5 : IntKind.i64.wrap ((i / 2 : Nat) : Int) = ((i / 2 : Nat) : Int) := i64_in _ (by omega) (by omega)
            have hi2 : i / 2 < 32 := by omega
            have hyl := ((hexTo t i).getD (i / 2) 0).isLt
            have HST := hexTo_step t i hlt
            have HSO := shl_or ((hexTo t i).getD (i / 2) 0)
            have HCE : Hid (∀ W, Dr wr W → W.cell? ⟨w.heap.size + 1, i / 2, none⟩ = some (.int .u8 (((hexTo t i).getD (i / 2) 0).toNat : Int)) ∧ W.frozen? ⟨w.heap.size + 1, i / 2, none⟩ = false) := fun W d => by
              have r := HR5w.out.dr d
              refine ⟨r.cell (i / 2) _ ?_, r.frozen _⟩
              rw [List.getElem?_map, List.getElem?_eq_getElem (by rw [hexTo_len]; exact hi2), List.getD_eq_getElem?_getD, List.getElem?_eq_getElem (by rw [hexTo_len]; exact hi2)]; rfl
            have HNX : Hid (∀ W (d : Nat), Dr wr W → hN t i = d → d < 16 → Row (W.setCell ⟨w.heap.size + 1, i / 2, none⟩ (.int .u8 (((((hexTo t i).getD (i / 2) 0).toNat * 16) % 256 + d : Nat) : Int))) (w.heap.size + 1) 56 ((hexTo t (i + 1)).map B8) ∧ Row (W.setCell ⟨w.heap.size + 1, i / 2, none⟩ (.int .u8 (((((hexTo t i).getD (i / 2) 0).toNat * 16) % 256 + d : Nat) : Int))) w.heap.size 56 ((List.replicate 32 (0 : By)).map B8) ∧ (W.setCell ⟨w.heap.size + 1, i / 2, none⟩ (.int .u8 (((((hexTo t i).getD (i / 2) 0).toNat * 16) % 256 + d : Nat) : Int))).cell? ⟨g, 2, none⟩ = some (.string ST) ∧ Below w.heap.size w (W.setCell ⟨w.heap.size + 1, i / 2, none⟩ (.int .u8 (((((hexTo t i).getD (i / 2) 0).toNat * 16) % 256 + d : Nat) : Int)))) := fun W d dr hd hd16 => by
              have sb := SameBut.setCell (w.heap.size + 1) (i / 2) (.int .u8 (((((hexTo t i).getD (i / 2) 0).toNat * 16) % 256 + d : Nat) : Int)) W
              have r := (HR5w.out.dr dr).set (i / 2) (.int .u8 (((((hexTo t i).getD (i / 2) 0).toNat * 16) % 256 + d : Nat) : Int))
              refine ⟨?_, (HR3w.out.dr dr).but sb (by omega), (World.cell?_of_block (sb.block g (by have := HGG.out.1; omega))).trans (dr.cell HCw.out), sb.below (Below_dr HBw.out dr) (by omega)⟩
              rw [← HST, List.map_set, hd]
              have e : B8 (BitVec.ofNat 8 ((((hexTo t i).getD (i / 2) 0).toNat * 16) % 256 + d)) = .int .u8 (((((hexTo t i).getD (i / 2) 0).toNat * 16) % 256 + d : Nat) : Int) := by
                unfold B8
                rw [BitVec.toNat_ofNat, Nat.mod_eq_of_lt (by omega)]
              rw [e]
              exact r
            clear HST
            obtain ⟨wo, hwo⟩ : ∃ wo, wo = wr := ⟨wr, rfl⟩
            subst hwo
            have z1 : ((((hexTo t i).getD (i / 2) 0).toNat : Int) * 2 ^ 4) % 256 = (((((hexTo t i).getD (i / 2) 0).toNat * 16) % 256 : Nat) : Int) := by omega
            have z2 : ((((hexTo t i).getD (i / 2) 0).toNat : Int) * 16) % 256 = (((((hexTo t i).getD (i / 2) 0).toNat * 16) % 256 : Nat) : Int) := by omega
            have HSO2 : Hid (∀ d : Nat, d < 16 → bits .or .u8 (((((hexTo t i).getD (i / 2) 0).toNat * 16) % 256 : Nat) : Int) (d : Int) = (((((hexTo t i).getD (i / 2) 0).toNat * 16) % 256 + d : Nat) : Int)) := fun d hd => HSO ⟨d, hd⟩
            clear HSO hyl
            generalize ((hexTo t i).getD (i / 2) 0).toNat = Y at *
            generalize hJ : i / 2 = J at *
            go_wp2_with fail
            go_loopw [10] (fun dv wr => ∃ d : Nat, d ≤ 16 ∧ dv = .int .i64 d ∧ Dr wo wr ∧ Hid (∀ j, j < d → ¬ hx j = t.getD i 0)) (fun dv _ => 16 - (intOf dv).toNat)
            case atStart => exact ⟨0, by omega, rfl, Dr.refl _, fun j hj => by omega⟩
            case round =>
              obtain ⟨d, hd, rfl, dr, HNE⟩ := hrel
              have kk := dr.cell HCw.out
              by_cases hd16 : d < 16
              · have dx := HDX.out d hd16
                have u0 : (0 : Int) ≤ (d : Int) := by omega
                have u1 : (d : Int) < 16 := by omega
                have g0 : decide ((d : Int) < 16) = true := decide_eq_true (by omega)
                have g0' : decide (d < 16) = true := decide_eq_true (by omega)
                by_cases he : hx d = t.getD i 0
                · have hvd : hN t i = d := by
                    unfold hN
                    rw [hv_of hd16 he]; rfl
                  have HAL2 : Hid (∀ j, j < i + 1 → hv (t.getD j 0) = some (hN t j)) := fun j hj => by
                    by_cases e : j = i
                    · rw [e, hvd]; exact hv_of hd16 he
                    · exact HAL.out j (by omega)
                  rw [he] at dx
                  have g1 : (((t.getD i 0).toNat : Int) != ((t.getD i 0).toNat : Int)) = false := by simp
                  have e16 : ((d : Int) == 16) = false := by rw [beq_eq_false_iff_ne]; omega
                  obtain ⟨V, hV⟩ : ∃ V, (Y * 16) % 256 + d = V := ⟨_, rfl⟩
                  have or1 : bits .or .u8 ((Y : Int) * 16 % 256) (d : Int) = (V : Int) := by
                    have h := HSO2.out d hd16
                    rw [hV] at h
                    rw [← h, z2]
                  have w8 : IntKind.u8.wrap (d : Int) = (d : Int) := u8_in _ (by omega) (by omega)
                  have HNQ := fun q => HNX.out (wr.drewN q) d (dr.drewN q) hvd hd16
                  rw [hV] at HNQ
                  have HNQH : Hid (∀ q, _) := HNQ
                  have HCQ : Hid (∀ q, _) := fun q => HCE.out (wr.drewN q) (dr.drewN q)
                  clear HNQ hV z1 z2
                  clear HNE he hvd HNX HCE HSO2 HAL
                  generalize (t.getD i 0).toNat = TB at *
                  go_wp2
                  go_quiet (fail)
                  obtain ⟨cc, cf⟩ := HCQ.out nq
                  go_wp2
                  obtain ⟨s1, s2, s3, s4⟩ := HNQH.out nq
                  exact ⟨⟨i + 1, by omega, by go_num, HAL2, s1, s2, s3, s4⟩, by simp [intOf]; omega⟩
                · have g1 : (((hx d).toNat : Int) != ((t.getD i 0).toNat : Int)) = true := by
                    rw [bne_iff_ne]
                    intro e
                    exact he (BitVec.eq_of_toNat_eq (by omega))
                  have HNE2 : Hid (∀ j, j < d + 1 → ¬ hx j = t.getD i 0) := fun j hj => by
                    by_cases e : j = d
                    · rw [e]; exact he
                    · exact HNE.out j (by omega)
                  clear HNE he
                  generalize (t.getD i 0).toNat = TB at *
                  generalize (hx d).toNat = TD at *
                  go_wp2
                  go_quiet (fail)
                  go_wp2
                  exact ⟨⟨d + 1, by omega, by go_num, dr.drewN nq, HNE2⟩, by simp [intOf]; omega⟩
              · obtain rfl : d = 16 := by omega
                have hvn : hv (t.getD i 0) = none := hv_no (fun j hj => HNE.out j hj)
                have HNO : Hid (one? l = none) := by
                  show _ = _
                  have hu := unhex_no t i (by rw [HTL.out]; exact hlt) hvn
                  rw [HON.out, hu]
                  cases val? b <;> rfl
                have HR5v : Hid (∀ q, Row (wr.drewN q) (w.heap.size + 1) 56 ((hexTo t i).map B8) ∧ Row (wr.drewN q) w.heap.size 56 ((List.replicate 32 (0 : By)).map B8) ∧ Below w.heap.size w (wr.drewN q)) := fun q => ⟨HR5w.out.dr (dr.drewN q), HR3w.out.dr (dr.drewN q), Below_dr HBw.out (dr.drewN q)⟩
                have hx32 := hexTo_len t i
                clear HNE hvn HNX HCE HSO2 HAL
                go_wp2
                go_quiet (fail)
                obtain ⟨q5, q3, qb⟩ := HR5v.out nq
                obtain ⟨wq, hwq⟩ : ∃ wq, wq = wr.drewN nq := ⟨_, rfl⟩
                rw [← hwq] at q5 q3 qb ⊢
                have HB2 : Hid (Below w.heap.size w wq) := qb
                have HR5w2 : Hid (Row wq (w.heap.size + 1) 56 ((hexTo t i).map B8)) := q5
                have HR3w2 : Hid (Row wq w.heap.size 56 ((List.replicate 32 (0 : By)).map B8)) := q3
                clear hwq q5 q3 qb HR5v
                obtain ⟨XS0, hXS⟩ : ∃ X, (hexTo t i).map B8 = X := ⟨_, rfl⟩
                have HXS : Hid ((hexTo t i).map B8 = XS0) := hXS
                have lxs : XS0.length = 32 := by rw [← hXS, List.length_map, hexTo_len]
                have h1xs : ∀ u ∈ XS0, Value.oneCell' u = true := by rw [← hXS]; exact B8_one _
                have HR5q : Hid (Row wq (w.heap.size + 1) 56 XS0) := by rw [← hXS]; exact HR5w2.out
                have HR3q := HR3w2
                clear hXS
                have HOZ : Hid (OS w w.heap.size w.heap.size (w.heap.size + 1) XS0 false wq.drew) := OS.zero HB2.out HR5q.out _ HR3q.out (by simp)
                go_wp2_with fail
                refine wp_region_inv (IOn13 wq w w.heap.size w.heap.size (w.heap.size + 1) XS0 _ _ _ _ _ _ _ _ _ _ _ _ _ _ _ _ _ _ _ _ _ _ _ _ _ _ _ _ _ _ _ _ _ _ _ _ _ _ _ _ _ _ _ _ _ _ _ _ _ _ _ _ _ _ _ _ _ _ _ _ _ _ _ _ _ _ _ _ _ _ _ _ _ _ _) (by kernel_rfl) (by kernel_rfl) ⟨_, _, _, rfl, ⟨HOZ.out, fun k => (by cases k), fun k => (by cases k), fun k => (by cases k)⟩⟩ ?_ ?_
                · refine .cons ?_ (.cons ?_ (.cons ?_ (.cons ?_ .nil)))
                  all_goals (rintro L _ W ⟨x58, x2, x4, rfl, hI⟩ hL hd K hK)
                  · refine step_load_rng' (by rfl) 56 _ rfl _ 0 XS0 (load_agg_at hI.x.r5) rfl _ Tryd.underlying56 rfl (by rw [lxs]; kernel_rfl) ?_
                    exact hK.out _ _ ⟨_, _, _, rfl, { hI with p0 := fun _ => rfl }⟩
                  · rw [if_pos (by rfl)]
                    go_simp
                    exact hK.out _ _ ⟨_, _, _, rfl, { hI with p1 := fun _ => rfl }⟩
                  · obtain rfl := hI.p0 (hd 0 (by decide))
                    obtain ⟨old, ro, lo, _⟩ := hI.x.r3
                    refine step_store_Row rfl 56 _ _ rfl _ 56 old XS0 ro (by rw [lo]; exact lxs) rfl rfl (by rw [lxs]; kernel_rfl) h1xs ?_
                    intro W2 hr2 hs2
                    exact hK.out _ _ ⟨_, _, _, rfl, { hI with x := (hI.x.st hr2 hs2 hne hN3 lxs) }⟩
                  · rw [if_pos (by rfl)]
                    go_simp
                    exact hK.out _ _ ⟨_, _, _, rfl, { hI with p3 := fun _ => rfl }⟩
                · rintro L _ W hall ⟨x58, x2, x4, rfl, hI⟩
                  obtain rfl := hI.p0 (hall 0 (by decide))
                  obtain rfl := hI.p1 (hall 1 (by decide))
                  obtain rfl := hI.p3 (hall 3 (by decide))
                  have hXe := hI.x
                  rw [hall 2 (by decide)] at hXe
                  clear hI hall
                  try dsimp only
                  obtain ⟨old, ro, lo, hoe⟩ := hXe.r3
                  have e3 := hoe rfl
                  subst e3
                  have hbW := hXe.bel
                  go_wp2
                  exact bodyPost_ret_by (results_trt Tryd.results49 _ _ w.heap.size 56 _ _ rfl ro Tryd.underlying56 rfl (by rw [lxs]; kernel_rfl)) rfl (by rw [← HXS.out]; exact OneP.no hx32 HNO.out hbW 0)
          · obtain rfl : i = 64 := by omega
            have HUN : Hid (unhex t = some (hexTo t 64)) := hexTo_end t HTL.out (fun j hj => HAL.out j hj)
            have hx32 := hexTo_len t 64
            have HBK0 : Hid (∀ W, Calls Tryd.prog 25 #[.agg ((hexTo t 64).map B8).toArray] W fun e w' => e = .returned (.bool (decide (hexTo t 64 = List.replicate 32 255#8))) ∧ Below W.heap.size W w') := fun W => HBKA.out W _ hx32
            obtain ⟨wq, hwq⟩ : ∃ wq, wq = wr := ⟨wr, rfl⟩
            subst hwq
            have HB2 := HBw
            obtain ⟨bk, hbk⟩ : ∃ bk, bk = decide (hexTo t 64 = List.replicate 32 255#8) := ⟨_, rfl⟩
            rw [← hbk] at HBK0
            have HBKE : Hid (bk = decide (hexTo t 64 = List.replicate 32 255#8)) := hbk
            clear hbk HAL HBKA
            obtain ⟨XS0, hXS⟩ : ∃ X, (hexTo t 64).map B8 = X := ⟨_, rfl⟩
            have HXS : Hid ((hexTo t 64).map B8 = XS0) := hXS
            have lxs : XS0.length = 32 := by rw [← hXS, List.length_map, hexTo_len]
            have h1xs : ∀ u ∈ XS0, Value.oneCell' u = true := by rw [← hXS]; exact B8_one _
            have HR5q : Hid (Row wq (w.heap.size + 1) 56 XS0) := by rw [← hXS]; exact HR5w.out
            have HR3q := HR3w
            rw [hXS] at HBK0
            have HBK := HBK0
            obtain ⟨vn, hvn⟩ : ∃ vn : Int, vn = (valN b : Int) := ⟨_, rfl⟩
            rw [← hvn]
            have HVNE : Hid (vn = (valN b : Int)) := hvn
            clear hXS HR5w HR3w hvn HBw
            have HOZ : Hid (OS w w.heap.size w.heap.size (w.heap.size + 1) XS0 false wq.drew) := OS.zero HB2.out HR5q.out _ HR3q.out (by simp)
            cases ok with
            | true =>
              obtain ⟨m, hm⟩ : ∃ m, val? b = some m := Option.isSome_iff_exists.1 HOKE.out
              have HFIN : Hid (one? l = if hexTo t 64 = List.replicate 32 255#8 then none else some (m, hexTo t 64)) := by
                show _ = _
                rw [HON.out, hm, HUN.out]
              have HVM : Hid (vn = (m : Int)) := by rw [HVNE.out, HVN.out m hm]; exact rfl
              clear hm
              go_wp2_with fail
              refine wp_region_inv (IOn15t wq w w.heap.size w.heap.size (w.heap.size + 1) XS0 vn bk _ _ _ _ _ _ _ _ _ _ _ _ _ _ _ _ _ _ _ _ _ _ _ _ _ _ _ _ _ _ _ _ _ _ _ _ _ _ _ _ _ _ _ _ _ _ _ _ _ _ _ _ _ _ _ _ _ _ _ _ _ _ _ _ _ _ _ _) (by kernel_rfl) (by kernel_rfl) ⟨_, _, _, _, _, _, _, _, _, _, rfl, ⟨HOZ.out, fun k => (by cases k), fun k => (by cases k), fun k => (by cases k), fun k => (by cases k), fun k => (by cases k), fun k => (by cases k), fun k => (by cases k), fun k => (by cases k), fun k => (by cases k), fun k => (by cases k)⟩⟩ ?_ ?_
              · refine .cons ?_ (.cons ?_ (.cons ?_ (.cons ?_ (.cons ?_ (.cons ?_ (.cons ?_ (.cons ?_ (.cons ?_ (.cons ?_ (.cons ?_ .nil))))))))))
                all_goals (rintro L _ W ⟨x70, x71, x72, x73, x74, x75, x76, x77, x2, x4, rfl, hI⟩ hL hd K hK)
                · rw [if_pos (by rfl)]
                  go_simp
                  exact hK.out _ _ ⟨_, _, _, _, _, _, _, _, _, _, rfl, { hI with p0 := fun _ => rfl }⟩
                · refine step_load_rng' (by rfl) 56 _ rfl _ 0 XS0 (load_agg_at hI.x.r5) rfl _ Tryd.underlying56 rfl (by rw [lxs]; kernel_rfl) ?_
                  exact hK.out _ _ ⟨_, _, _, _, _, _, _, _, _, _, rfl, { hI with p1 := fun _ => rfl }⟩
                · rw [if_pos (by rfl)]
                  go_simp
                  exact hK.out _ _ ⟨_, _, _, _, _, _, _, _, _, _, rfl, { hI with p2 := fun _ => rfl }⟩
                · obtain rfl := hI.p2 (hd 2 (by decide))
                  rw [if_pos (by rfl)]
                  go_simp
                  exact hK.out _ _ ⟨_, _, _, _, _, _, _, _, _, _, rfl, { hI with p3 := fun _ => rfl }⟩
                · obtain rfl := hI.p3 (hd 3 (by decide))
                  refine step_load_rng' (by rfl) 56 _ rfl _ 0 XS0 (load_agg_at hI.x.r5) rfl _ Tryd.underlying56 rfl (by rw [lxs]; kernel_rfl) ?_
                  exact hK.out _ _ ⟨_, _, _, _, _, _, _, _, _, _, rfl, { hI with p4 := fun _ => rfl }⟩
                · obtain rfl := hI.p4 (hd 4 (by decide))
                  obtain rfl := hI.p3 (hd 3 (by decide))
                  rw [if_pos (by rfl)]
                  go_simp
                  refine (HBK.out W).mono ?_
                  rintro e W2 ⟨rfl, hb3⟩
                  go_simp
                  exact hK.out _ _ ⟨_, _, _, _, _, _, _, _, _, _, rfl, { hI with x := (hI.x.call (hI.x.sz hN3) hb3), p5 := fun _ => rfl }⟩
                · obtain rfl := hI.p5 (hd 5 (by decide))
                  obtain rfl := hI.p3 (hd 3 (by decide))
                  rw [if_pos (by rfl)]
                  go_simp
                  exact hK.out _ _ ⟨_, _, _, _, _, _, _, _, _, _, rfl, { hI with p6 := fun _ => rfl }⟩
                · obtain rfl := hI.p3 (hd 3 (by decide))
                  obtain rfl := hI.p6 (hd 6 (by decide))
                  rw [if_pos (by rfl)]
                  go_simp
                  exact hK.out _ _ ⟨_, _, _, _, _, _, _, _, _, _, rfl, { hI with p7 := fun _ => rfl }⟩
                · obtain rfl := hI.p0 (hd 0 (by decide))
                  rw [if_pos (by rfl)]
                  go_simp
                  exact hK.out _ _ ⟨_, _, _, _, _, _, _, _, _, _, rfl, { hI with p8 := fun _ => rfl }⟩
                · obtain rfl := hI.p1 (hd 1 (by decide))
                  obtain ⟨old, ro, lo, _⟩ := hI.x.r3
                  refine step_store_Row rfl 56 _ _ rfl _ 56 old XS0 ro (by rw [lo]; exact lxs) rfl rfl (by rw [lxs]; kernel_rfl) h1xs ?_
                  intro W2 hr2 hs2
                  exact hK.out _ _ ⟨_, _, _, _, _, _, _, _, _, _, rfl, { hI with x := (hI.x.st hr2 hs2 hne hN3 lxs) }⟩
                · obtain rfl := hI.p7 (hd 7 (by decide))
                  rw [if_pos (by rfl)]
                  go_simp
                  exact hK.out _ _ ⟨_, _, _, _, _, _, _, _, _, _, rfl, { hI with p10 := fun _ => rfl }⟩
              · rintro L _ W hall ⟨x70, x71, x72, x73, x74, x75, x76, x77, x2, x4, rfl, hI⟩
                obtain rfl := hI.p0 (hall 0 (by decide))
                obtain rfl := hI.p1 (hall 1 (by decide))
                obtain rfl := hI.p2 (hall 2 (by decide))
                obtain rfl := hI.p3 (hall 3 (by decide))
                obtain rfl := hI.p4 (hall 4 (by decide))
                obtain rfl := hI.p5 (hall 5 (by decide))
                obtain rfl := hI.p6 (hall 6 (by decide))
                obtain rfl := hI.p7 (hall 7 (by decide))
                obtain rfl := hI.p8 (hall 8 (by decide))
                obtain rfl := hI.p10 (hall 10 (by decide))
                have hXe := hI.x
                rw [hall 9 (by decide)] at hXe
                clear hI hall
                try dsimp only
                obtain ⟨old, ro, lo, hoe⟩ := hXe.r3
                have e3 := hoe rfl
                subst e3
                have hbW := hXe.bel
                go_wp2
                refine bodyPost_ret_by (results_trt Tryd.results49 _ _ w.heap.size 56 _ _ rfl ro Tryd.underlying56 rfl (by rw [lxs]; kernel_rfl)) rfl ⟨⟨vn, hexTo t 64, !bk, by rw [HXS.out]; rfl, hx32, fun e => ⟨m, HVM.out, ?_⟩, fun e => ?_⟩, hbW⟩
                · rw [HFIN.out, if_neg]
                  intro e2
                  rw [HBKE.out, decide_eq_true e2] at e
                  cases e
                · rw [HFIN.out, if_pos]
                  have : bk = true := by cases bk with | true => rfl | false => cases e
                  rw [HBKE.out] at this
                  exact of_decide_eq_true this
            | false =>
              have HNO : Hid (one? l = none) := by
                show _ = _
                have hn : val? b = none := by
                  cases hv' : val? b with
                  | none => rfl
                  | some m => have := HOKE.out; rw [hv'] at this; cases this
                rw [HON.out, hn]
              go_wp2_with fail
              refine wp_region_inv (IOn15f wq w w.heap.size w.heap.size (w.heap.size + 1) XS0 vn bk _ _ _ _ _ _ _ _ _ _ _ _ _ _ _ _ _ _ _ _ _ _ _ _ _ _ _ _ _ _ _ _ _ _ _ _ _ _ _ _ _ _ _ _ _ _ _ _ _ _ _ _ _ _ _ _ _ _ _ _ _ _ _ _ _ _ _ _) (by kernel_rfl) (by kernel_rfl) ⟨_, _, _, _, _, _, _, _, _, _, rfl, ⟨HOZ.out, fun k => (by cases k), fun k => (by cases k), fun k => (by cases k), fun k => (by cases k), fun k => (by cases k), fun k => (by cases k), fun k => (by cases k)⟩⟩ ?_ ?_
              · refine .cons ?_ (.cons ?_ (.cons ?_ (.cons ?_ (.cons ?_ (.cons ?_ (.cons ?_ (.cons ?_ (.cons ?_ (.cons ?_ (.cons ?_ .nil))))))))))
                all_goals (rintro L _ W ⟨x70, x71, x72, x73, x74, x75, x76, x77, x2, x4, rfl, hI⟩ hL hd K hK)
                · rw [if_pos (by rfl)]
                  go_simp
                  exact hK.out _ _ ⟨_, _, _, _, _, _, _, _, _, _, rfl, { hI with p0 := fun _ => rfl }⟩
                · refine step_load_rng' (by rfl) 56 _ rfl _ 0 XS0 (load_agg_at hI.x.r5) rfl _ Tryd.underlying56 rfl (by rw [lxs]; kernel_rfl) ?_
                  exact hK.out _ _ ⟨_, _, _, _, _, _, _, _, _, _, rfl, { hI with p1 := fun _ => rfl }⟩
                · rw [if_pos (by rfl)]
                  go_simp
                  exact hK.out _ _ ⟨_, _, _, _, _, _, _, _, _, _, rfl, { hI with p2 := fun _ => rfl }⟩
                · obtain rfl := hI.p2 (hd 2 (by decide))
                  rw [if_pos (by rfl)]
                  go_simp
                  exact hK.out _ _ ⟨_, _, _, _, _, _, _, _, _, _, rfl, { hI with p3 := fun _ => rfl }⟩
                · obtain rfl := hI.p3 (hd 3 (by decide))
                  rw [if_neg (by first | decide | exact Bool.false_ne_true)]
                  exact hK.out _ _ ⟨_, _, _, _, _, _, _, _, _, _, rfl, { hI with }⟩
                · obtain rfl := hI.p3 (hd 3 (by decide))
                  rw [if_neg (by first | decide | exact Bool.false_ne_true)]
                  exact hK.out _ _ ⟨_, _, _, _, _, _, _, _, _, _, rfl, { hI with }⟩
                · obtain rfl := hI.p3 (hd 3 (by decide))
                  rw [if_neg (by first | decide | exact Bool.false_ne_true)]
                  exact hK.out _ _ ⟨_, _, _, _, _, _, _, _, _, _, rfl, { hI with }⟩
                · obtain rfl := hI.p3 (hd 3 (by decide))
                  rw [if_pos (by rfl)]
                  go_simp
                  exact hK.out _ _ ⟨_, _, _, _, _, _, _, _, _, _, rfl, { hI with p7 := fun _ => rfl }⟩
                · obtain rfl := hI.p0 (hd 0 (by decide))
                  rw [if_pos (by rfl)]
                  go_simp
                  exact hK.out _ _ ⟨_, _, _, _, _, _, _, _, _, _, rfl, { hI with p8 := fun _ => rfl }⟩
                · obtain rfl := hI.p1 (hd 1 (by decide))
                  obtain ⟨old, ro, lo, _⟩ := hI.x.r3
                  refine step_store_Row rfl 56 _ _ rfl _ 56 old XS0 ro (by rw [lo]; exact lxs) rfl rfl (by rw [lxs]; kernel_rfl) h1xs ?_
                  intro W2 hr2 hs2
                  exact hK.out _ _ ⟨_, _, _, _, _, _, _, _, _, _, rfl, { hI with x := (hI.x.st hr2 hs2 hne hN3 lxs) }⟩
                · obtain rfl := hI.p7 (hd 7 (by decide))
                  rw [if_pos (by rfl)]
                  go_simp
                  exact hK.out _ _ ⟨_, _, _, _, _, _, _, _, _, _, rfl, { hI with p10 := fun _ => rfl }⟩
              · rintro L _ W hall ⟨x70, x71, x72, x73, x74, x75, x76, x77, x2, x4, rfl, hI⟩
                obtain rfl := hI.p0 (hall 0 (by decide))
                obtain rfl := hI.p1 (hall 1 (by decide))
                obtain rfl := hI.p2 (hall 2 (by decide))
                obtain rfl := hI.p3 (hall 3 (by decide))
                obtain rfl := hI.p7 (hall 7 (by decide))
                obtain rfl := hI.p8 (hall 8 (by decide))
                obtain rfl := hI.p10 (hall 10 (by decide))
                have hXe := hI.x
                rw [hall 9 (by decide)] at hXe
                clear hI hall
                try dsimp only
                obtain ⟨old, ro, lo, hoe⟩ := hXe.r3
                have e3 := hoe rfl
                subst e3
                have hbW := hXe.bel
                go_wp2
                exact bodyPost_ret_by (results_trt Tryd.results49 _ _ w.heap.size 56 _ _ rfl ro Tryd.underlying56 rfl (by rw [lxs]; kernel_rfl)) rfl (by rw [← HXS.out]; exact OneP.no hx32 HNO.out hbW vn)
      · have ht2 : ((t.length : Int) != 64) = true := by rw [bne_iff_ne]; omega
        have HNO : Hid (one? l = none) := by
          show _ = _
          rw [HONE]
          show (if a = wCell ∧ t.length = 64 then _ else none) = none
          rw [if_neg (fun h => ht h.2)]
        generalize strOf a = SA at *
        generalize strOf t = ST at *
        generalize t.length = TL at *
        obtain ⟨XS0, hXS⟩ : ∃ X, (List.replicate 32 (0 : By)).map B8 = X := ⟨_, rfl⟩
        have HXS : Hid ((List.replicate 32 (0 : By)).map B8 = XS0) := hXS
        have lxs : XS0.length = 32 := by rw [← hXS]; simp
        have h1xs : ∀ u ∈ XS0, Value.oneCell' u = true := by rw [← hXS]; exact B8_one _
        have HR5q : Hid (Row wq (w.heap.size + 1) 56 XS0) := by rw [← hXS]; exact HR5b.out
        have HR3q := HR3b
        clear hXS HR5b HR3b HONE ht ha hq
        have HOZ : Hid (OS w w.heap.size w.heap.size (w.heap.size + 1) XS0 false wq.drew) := OS.zero HB2.out HR5q.out _ HR3q.out (by simp)
        go_wp2_with fail
        refine wp_region_inv (IOn4 wq w w.heap.size w.heap.size (w.heap.size + 1) XS0 _ _ _ _ _ _ _ _ _ _ _ _ _ _ _ _ _ _ _ _ _ _ _ _ _ _ _ _ _ _ _ _ _ _ _ _ _ _ _ _ _ _ _ _ _ _ _ _ _ _ _ _ _ _ _ _ _ _ _ _ _ _ _ _ _ _ _ _ _ _ _ _ _ _ _) (by kernel_rfl) (by kernel_rfl) ⟨_, _, _, rfl, ⟨HOZ.out, fun k => (by cases k), fun k => (by cases k), fun k => (by cases k)⟩⟩ ?_ ?_
        · refine .cons ?_ (.cons ?_ (.cons ?_ (.cons ?_ .nil)))
          all_goals (rintro L _ W ⟨x30, x2, x4, rfl, hI⟩ hL hd K hK)
          · refine step_load_rng' (by rfl) 56 _ rfl _ 0 XS0 (load_agg_at hI.x.r5) rfl _ Tryd.underlying56 rfl (by rw [lxs]; kernel_rfl) ?_
            exact hK.out _ _ ⟨_, _, _, rfl, { hI with p0 := fun _ => rfl }⟩
          · rw [if_pos (by rfl)]
            go_simp
            exact hK.out _ _ ⟨_, _, _, rfl, { hI with p1 := fun _ => rfl }⟩
          · obtain rfl := hI.p0 (hd 0 (by decide))
            obtain ⟨old, ro, lo, _⟩ := hI.x.r3
            refine step_store_Row rfl 56 _ _ rfl _ 56 old XS0 ro (by rw [lo]; exact lxs) rfl rfl (by rw [lxs]; kernel_rfl) h1xs ?_
            intro W2 hr2 hs2
            exact hK.out _ _ ⟨_, _, _, rfl, { hI with x := (hI.x.st hr2 hs2 hne hN3 lxs) }⟩
          · rw [if_pos (by rfl)]
            go_simp
            exact hK.out _ _ ⟨_, _, _, rfl, { hI with p3 := fun _ => rfl }⟩
        · rintro L _ W hall ⟨x30, x2, x4, rfl, hI⟩
          obtain rfl := hI.p0 (hall 0 (by decide))
          obtain rfl := hI.p1 (hall 1 (by decide))
          obtain rfl := hI.p3 (hall 3 (by decide))
          have hXe := hI.x
          rw [hall 2 (by decide)] at hXe
          clear hI hall
          try dsimp only
          obtain ⟨old, ro, lo, hoe⟩ := hXe.r3
          have e3 := hoe rfl
          subst e3
          have hbW := hXe.bel
          go_wp2
          exact bodyPost_ret_by (results_trt Tryd.results49 _ _ w.heap.size 56 _ _ rfl ro Tryd.underlying56 rfl (by rw [lxs]; kernel_rfl)) rfl (by rw [← HXS.out]; exact OneP.no (by simp) HNO.out hbW 0)
    · have hq2 : ((strOf a).toList != ({ data := #[99, 101, 108, 108] } : ByteArray).toList) = true := by rw [k_cell, bne, hq, decide_eq_false ha]; rfl
      have hq3 : ((strOf a).toList == [99, 101, 108, 108]) = false := by rw [cell_bytes, hq, decide_eq_false ha]
      have hq4 : ¬ (strOf a).toList = [99, 101, 108, 108] := by simpa using hq3
      have HNO : Hid (one? l = none) := by
        show _ = _
        rw [HONE]
        show (if a = wCell ∧ t.length = 64 then _ else none) = none
        rw [if_neg (fun h => ha h.1)]
      generalize strOf a = SA at *
      obtain ⟨XS0, hXS⟩ : ∃ X, (List.replicate 32 (0 : By)).map B8 = X := ⟨_, rfl⟩
      have HXS : Hid ((List.replicate 32 (0 : By)).map B8 = XS0) := hXS
      have lxs : XS0.length = 32 := by rw [← hXS]; simp
      have h1xs : ∀ u ∈ XS0, Value.oneCell' u = true := by rw [← hXS]; exact B8_one _
      have HR5q : Hid (Row wq (w.heap.size + 1) 56 XS0) := by rw [← hXS]; exact HR5b.out
      have HR3q := HR3b
      clear hXS HR5b HR3b HONE ha hq
      have HOZ : Hid (OS w w.heap.size w.heap.size (w.heap.size + 1) XS0 false wq.drew) := OS.zero HB2.out HR5q.out _ HR3q.out (by simp)
      go_wp2_with fail
      refine wp_region_inv (IOn4 wq w w.heap.size w.heap.size (w.heap.size + 1) XS0 _ _ _ _ _ _ _ _ _ _ _ _ _ _ _ _ _ _ _ _ _ _ _ _ _ _ _ _ _ _ _ _ _ _ _ _ _ _ _ _ _ _ _ _ _ _ _ _ _ _ _ _ _ _ _ _ _ _ _ _ _ _ _ _ _ _ _ _ _ _ _ _ _ _ _) (by kernel_rfl) (by kernel_rfl) ⟨_, _, _, rfl, ⟨HOZ.out, fun k => (by cases k), fun k => (by cases k), fun k => (by cases k)⟩⟩ ?_ ?_
      · refine .cons ?_ (.cons ?_ (.cons ?_ (.cons ?_ .nil)))
        all_goals (rintro L _ W ⟨x30, x2, x4, rfl, hI⟩ hL hd K hK)
        · refine step_load_rng' (by rfl) 56 _ rfl _ 0 XS0 (load_agg_at hI.x.r5) rfl _ Tryd.underlying56 rfl (by rw [lxs]; kernel_rfl) ?_
          exact hK.out _ _ ⟨_, _, _, rfl, { hI with p0 := fun _ => rfl }⟩
        · rw [if_pos (by rfl)]
          go_simp
          exact hK.out _ _ ⟨_, _, _, rfl, { hI with p1 := fun _ => rfl }⟩
        · obtain rfl := hI.p0 (hd 0 (by decide))
          obtain ⟨old, ro, lo, _⟩ := hI.x.r3
          refine step_store_Row rfl 56 _ _ rfl _ 56 old XS0 ro (by rw [lo]; exact lxs) rfl rfl (by rw [lxs]; kernel_rfl) h1xs ?_
          intro W2 hr2 hs2
          exact hK.out _ _ ⟨_, _, _, rfl, { hI with x := (hI.x.st hr2 hs2 hne hN3 lxs) }⟩
        · rw [if_pos (by rfl)]
          go_simp
          exact hK.out _ _ ⟨_, _, _, rfl, { hI with p3 := fun _ => rfl }⟩
      · rintro L _ W hall ⟨x30, x2, x4, rfl, hI⟩
        obtain rfl := hI.p0 (hall 0 (by decide))
        obtain rfl := hI.p1 (hall 1 (by decide))
        obtain rfl := hI.p3 (hall 3 (by decide))
        have hXe := hI.x
        rw [hall 2 (by decide)] at hXe
        clear hI hall
        try dsimp only
        obtain ⟨old, ro, lo, hoe⟩ := hXe.r3
        have e3 := hoe rfl
        subst e3
        have hbW := hXe.bel
        go_wp2
        exact bodyPost_ret_by (results_trt Tryd.results49 _ _ w.heap.size 56 _ _ rfl ro Tryd.underlying56 rfl (by rw [lxs]; kernel_rfl)) rfl (by rw [← HXS.out]; exact OneP.no (by simp) HNO.out hbW 0)
  · have e3 : ((ws.length : Int) != 3) = true := by rw [bne_iff_ne]; omega
    have HNO : Hid (one? l = none) := by
      show _ = _
      rw [HONE]
      match ws, h3 with
      | [], _ => rfl
      | [_], _ => rfl
      | [_, _], _ => rfl
      | [_, _, _], h => exact absurd rfl h
      | _ :: _ :: _ :: _ :: _, _ => rfl
    obtain ⟨XS0, hXS⟩ : ∃ X, (List.replicate 32 (0 : By)).map B8 = X := ⟨_, rfl⟩
    have HXS : Hid ((List.replicate 32 (0 : By)).map B8 = XS0) := hXS
    have lxs : XS0.length = 32 := by rw [← hXS]; simp
    have h1xs : ∀ u ∈ XS0, Value.oneCell' u = true := by rw [← hXS]; exact B8_one _
    have HR5q : Hid (Row wq (w.heap.size + 1) 56 XS0) := by rw [← hXS]; exact HR5b.out
    have HR3q := HR3b
    generalize ws.length = n at *
    clear hXS HR5b HR3b HOW HONE
    have HOZ : Hid (OS w w.heap.size w.heap.size (w.heap.size + 1) XS0 false wq.drew) := OS.zero HB2.out HR5q.out _ HR3q.out (by simp)
    go_wp2_with fail
    refine wp_region_inv (IOn4 wq w w.heap.size w.heap.size (w.heap.size + 1) XS0 _ _ _ _ _ _ _ _ _ _ _ _ _ _ _ _ _ _ _ _ _ _ _ _ _ _ _ _ _ _ _ _ _ _ _ _ _ _ _ _ _ _ _ _ _ _ _ _ _ _ _ _ _ _ _ _ _ _ _ _ _ _ _ _ _ _ _ _ _ _ _ _ _ _ _) (by kernel_rfl) (by kernel_rfl) ⟨_, _, _, rfl, ⟨HOZ.out, fun k => (by cases k), fun k => (by cases k), fun k => (by cases k)⟩⟩ ?_ ?_
    · refine .cons ?_ (.cons ?_ (.cons ?_ (.cons ?_ .nil)))
      all_goals (rintro L _ W ⟨x30, x2, x4, rfl, hI⟩ hL hd K hK)
      · refine step_load_rng' (by rfl) 56 _ rfl _ 0 XS0 (load_agg_at hI.x.r5) rfl _ Tryd.underlying56 rfl (by rw [lxs]; kernel_rfl) ?_
        exact hK.out _ _ ⟨_, _, _, rfl, { hI with p0 := fun _ => rfl }⟩
      · rw [if_pos (by rfl)]
        go_simp
        exact hK.out _ _ ⟨_, _, _, rfl, { hI with p1 := fun _ => rfl }⟩
      · obtain rfl := hI.p0 (hd 0 (by decide))
        obtain ⟨old, ro, lo, _⟩ := hI.x.r3
        refine step_store_Row rfl 56 _ _ rfl _ 56 old XS0 ro (by rw [lo]; exact lxs) rfl rfl (by rw [lxs]; kernel_rfl) h1xs ?_
        intro W2 hr2 hs2
        exact hK.out _ _ ⟨_, _, _, rfl, { hI with x := (hI.x.st hr2 hs2 hne hN3 lxs) }⟩
      · rw [if_pos (by rfl)]
        go_simp
        exact hK.out _ _ ⟨_, _, _, rfl, { hI with p3 := fun _ => rfl }⟩
    · rintro L _ W hall ⟨x30, x2, x4, rfl, hI⟩
      obtain rfl := hI.p0 (hall 0 (by decide))
      obtain rfl := hI.p1 (hall 1 (by decide))
      obtain rfl := hI.p3 (hall 3 (by decide))
      have hXe := hI.x
      rw [hall 2 (by decide)] at hXe
      clear hI hall
      try dsimp only
      obtain ⟨old, ro, lo, hoe⟩ := hXe.r3
      have e3 := hoe rfl
      subst e3
      have hbW := hXe.bel
      go_wp2
      exact bodyPost_ret_by (results_trt Tryd.results49 _ _ w.heap.size 56 _ _ rfl ro Tryd.underlying56 rfl (by rw [lxs]; kernel_rfl)) rfl (by rw [← HXS.out]; exact OneP.no (by simp) HNO.out hbW 0)
end Go.Proofs.YtgpnbiaghokjkaaDoor
