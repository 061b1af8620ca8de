
import Derived.Test.YtcpdanjbnijoiaaDoorArC3
import Derived.Test.YtcpdanjbnijoiaaDoorI11CPo
import Derived.Test.YtcpdanjbnijoiaaDoorA11B
import Derived.Test.YtcpdanjbnijoiaaDoorArReads
/-! The program's area: holds, ends, Read. (Printed by tools/gencar14.py.) -/
namespace Go.Proofs.YtcpdanjbnijoiaaDoor
open Go.RowKit
set_option linter.unusedVariables false

/-- The cells of the first m pages of an area. -/
def RS.acl (s : RS) (a : Int) (m : Nat) : List (List By) := (List.range m).flatMap fun p => s.pages.getD (s.pgN a p) []
theorem acl_succ (s : RS) (a : Int) (p : Nat) : s.acl a (p + 1) = s.acl a p ++ s.pages.getD (s.pgN a p) [] := by
  unfold RS.acl
  rw [List.range_succ, List.flatMap_append]
  simp
theorem acl_flat (s : RS) (a : Int) : ∀ m, (s.acl a m).flatten = s.abytes a m
  | 0 => rfl
  | m + 1 => by rw [acl_succ, abytes_succ, List.flatten_append, acl_flat s a m]
theorem acl_len {s : RS} (h : s.Ar) {a : Int} (ha : a = 0 ∨ a = 1) : ∀ p, p ≤ s.c.area.toNat → (s.acl a p).length = p * s.c.cells.toNat
  | 0, _ => by simp [RS.acl]
  | p + 1, hp => by
    have hq := (h.pg ha (p := p) (by omega)).2.1
    have hl : (s.pages.getD (s.pgN a p) []).length = s.c.cells.toNat := by have := h.pgLen hq; have := h.cells; omega
    rw [acl_succ, List.length_append, acl_len h ha p (by omega), hl, Nat.add_mul, Nat.one_mul]
theorem acl_32 {s : RS} (h : s.Ar) {a : Int} (ha : a = 0 ∨ a = 1) : ∀ p, p ≤ s.c.area.toNat → ∀ x ∈ s.acl a p, x.length = 32
  | 0, _, x, hx => by simp [RS.acl] at hx
  | p + 1, hp, x, hx => by
    rw [acl_succ, List.mem_append] at hx
    rcases hx with hx | hx
    · exact acl_32 h ha p (by omega) x hx
    · exact h.by8 (h.pg ha (p := p) (by omega)).2.1 x hx
theorem acl_get {s : RS} (h : s.Ar) {a : Int} (ha : a = 0 ∨ a = 1) : ∀ p, p ≤ s.c.area.toNat → ∀ i, i < p * s.c.cells.toNat → (s.acl a p).getD i [] = s.acell a i
  | 0, _, i, hi => by omega
  | p + 1, hp, i, hi => by
    have hce := h.cells
    have hl := acl_len h ha p (by omega)
    rw [acl_succ, List.getD_eq_getElem?_getD, List.getElem?_append, hl]
    by_cases hlt : i < p * s.c.cells.toNat
    · rw [if_pos hlt, ← List.getD_eq_getElem?_getD]
      exact acl_get h ha p (by omega) i hlt
    · rw [if_neg hlt, ← List.getD_eq_getElem?_getD]
      unfold RS.acell
      have hi2 : i - p * s.c.cells.toNat < s.c.cells.toNat := by rw [Nat.add_mul, Nat.one_mul] at hi; omega
      have e : i = (i - p * s.c.cells.toNat) + s.c.cells.toNat * p := by rw [Nat.mul_comm s.c.cells.toNat p]; omega
      generalize hr : i - p * s.c.cells.toNat = r at *
      have e1 : i / s.c.cells.toNat = p := by
        rw [e, Nat.add_mul_div_left _ _ (by omega), Nat.div_eq_of_lt hi2, Nat.zero_add]
      have e2 : i % s.c.cells.toNat = r := by
        rw [e, Nat.add_mul_mod_self_left, Nat.mod_eq_of_lt hi2]
      rw [e1, e2]
theorem abytes_seg {s : RS} (h : s.Ar) {a : Int} (ha : a = 0 ∨ a = 1) (i : Nat) (hi : i < s.c.area.toNat * s.c.cells.toNat) : ((s.abytes a s.c.area.toNat).drop (32 * i)).take 32 = s.acell a i := by
  rw [← acl_flat, flat_seg _ (acl_32 h ha _ (Nat.le_refl _)) i (by rw [acl_len h ha _ (Nat.le_refl _)]; exact hi), acl_get h ha _ (Nat.le_refl _) i hi]

/-- The bytes read so far, zeroes behind them. -/
def readTo (L : List By) (k : Nat) : List By := L.take k ++ List.replicate (L.length - k) 0
theorem readTo_len (L : List By) (k : Nat) (hk : k ≤ L.length) : (readTo L k).length = L.length := by simp [readTo]; omega
theorem readTo_next (L : List By) (k : Nat) (hk : k + 32 ≤ L.length) (x : List By) (hx : (L.drop k).take 32 = x) : ((readTo L k).map B8).take k ++ x.map B8 ++ ((readTo L k).map B8).drop (k + (x.map B8).length) = (readTo L (k + 32)).map B8 := by
  have hl : x.length = 32 := by rw [← hx, List.length_take, List.length_drop]; omega
  rw [List.length_map, hl, ← List.map_take, ← List.map_drop, ← List.map_append, ← List.map_append]
  congr 1
  unfold readTo
  have e1 : (L.take k ++ List.replicate (L.length - k) 0).take k = L.take k := by
    rw [List.take_append_of_le_length (by rw [List.length_take]; omega), List.take_take, Nat.min_self]
  have e2 : (L.take k ++ List.replicate (L.length - k) (0 : By)).drop (k + 32) = List.replicate (L.length - (k + 32)) 0 := by
    rw [List.drop_append, List.drop_eq_nil_of_le (by rw [List.length_take]; omega), List.nil_append, List.length_take, List.drop_replicate]
    congr 1
    omega
  rw [e1, e2, List.take_add, hx]

/-- Around the copy. -/
structure HC14 (W1 : World) (w : World) (D : Nat) (x1 : List Value) (l : Bool) (W : World) : Prop where
  a : l = false → W = W1.drew
  b : l = true → Row W D 5 x1 ∧ Below w.heap.size w W

structure Ho9 (W1 : World) (w : World) (D X NN KK ci : Nat) (R1 : List By) (L : Nat → Bool) (x39 x40 x41 x42 x43 x44 : Value) (W : World) : Prop where
  x : HC14 W1 w D (R1.map B8) (L 5) W
  p0 : L 0 = true → x39 = .slice (some ⟨D, 0, none⟩) NN NN
  p1 : L 1 = true → x40 = .int .i64 (ci : Int)
  p2 : L 2 = true → x41 = .int .i64 (KK : Int)
  p3 : L 3 = true → x42 = .slice (some ⟨D, KK, none⟩) (NN - KK) (NN - KK)
  p4 : L 4 = true → x43 = .slice (some ⟨X, 0, none⟩) 32 32
  p5 : L 5 = true → x44 = .int .i64 ((32 : Nat) : Int)
section
variable {W1 : World} {w : World} {D X NN KK ci : Nat} {R1 : List By} {L : Nat → Bool} {x39 x40 x41 x42 x43 x44 : Value} {W W2 : World}
theorem Ho9.s0 (h : Ho9 W1 w D X NN KK ci R1 L x39 x40 x41 x42 x43 x44 W) : Ho9 W1 w D X NN KK ci R1 (upd L 0) (.slice (some ⟨D, 0, none⟩) NN NN) x40 x41 x42 x43 x44 W :=
  ⟨h.x, fun _ => rfl, h.p1, h.p2, h.p3, h.p4, h.p5⟩
theorem Ho9.s1 (h : Ho9 W1 w D X NN KK ci R1 L x39 x40 x41 x42 x43 x44 W) : Ho9 W1 w D X NN KK ci R1 (upd L 1) x39 (.int .i64 (ci : Int)) x41 x42 x43 x44 W :=
  ⟨h.x, h.p0, fun _ => rfl, h.p2, h.p3, h.p4, h.p5⟩
theorem Ho9.s2 (h : Ho9 W1 w D X NN KK ci R1 L x39 x40 x41 x42 x43 x44 W) : Ho9 W1 w D X NN KK ci R1 (upd L 2) x39 x40 (.int .i64 (KK : Int)) x42 x43 x44 W :=
  ⟨h.x, h.p0, h.p1, fun _ => rfl, h.p3, h.p4, h.p5⟩
theorem Ho9.s3 (h : Ho9 W1 w D X NN KK ci R1 L x39 x40 x41 x42 x43 x44 W) : Ho9 W1 w D X NN KK ci R1 (upd L 3) x39 x40 x41 (.slice (some ⟨D, KK, none⟩) (NN - KK) (NN - KK)) x43 x44 W :=
  ⟨h.x, h.p0, h.p1, h.p2, fun _ => rfl, h.p4, h.p5⟩
theorem Ho9.s4 (h : Ho9 W1 w D X NN KK ci R1 L x39 x40 x41 x42 x43 x44 W) : Ho9 W1 w D X NN KK ci R1 (upd L 4) x39 x40 x41 x42 (.slice (some ⟨X, 0, none⟩) 32 32) x44 W :=
  ⟨h.x, h.p0, h.p1, h.p2, h.p3, fun _ => rfl, h.p5⟩
theorem Ho9.s5 (h : Ho9 W1 w D X NN KK ci R1 L x39 x40 x41 x42 x43 x44 W) (hX : HC14 W1 w D (R1.map B8) ((upd L 5) 5) W2) : Ho9 W1 w D X NN KK ci R1 (upd L 5) x39 x40 x41 x42 x43 (.int .i64 ((32 : Nat) : Int)) W2 :=
  ⟨hX, h.p0, h.p1, h.p2, h.p3, h.p4, fun _ => rfl⟩
end
@[reducible] def IHo9 (W1 : World) (w : World) (D X NN KK ci : Nat) (R1 : List By) (y0 y1 y2 y3 y4 y5 y6 y7 y8 y9 y10 y11 y12 y13 y14 y15 y16 y17 y18 y19 y20 y21 y22 y23 y24 y25 y26 y27 y28 y29 y30 y31 y32 y33 y34 y35 y36 y37 y38 y45 y46 : Value) : (Nat → Bool) → Act → World → Prop := fun L a W => ∃ x39 x40 x41 x42 x43 x44, a = ⟨#[y0, y1, y2, y3, y4, y5, y6, y7, y8, y9, y10, y11, y12, y13, y14, y15, y16, y17, y18, y19, y20, y21, y22, y23, y24, y25, y26, y27, y28, y29, y30, y31, y32, y33, y34, y35, y36, y37, y38, x39, x40, x41, x42, x43, x44, y45, y46], []⟩ ∧ Ho9 W1 w D X NN KK ci R1 L x39 x40 x41 x42 x43 x44 W
theorem Ho9.step {W1 : World} {w : World} {D X NN KK ci : Nat} {R1 : List By} {y0 y1 y2 y3 y4 y5 y6 y7 y8 y9 y10 y11 y12 y13 y14 y15 y16 y17 y18 y19 y20 y21 y22 y23 y24 y25 y26 y27 y28 y29 y30 y31 y32 y33 y34 y35 y36 y37 y38 y45 y46 : Value} {P : Program} {ops : Array Oper} {Q : Exit → Act → World → Prop} {i : Nat} {o : Oper} (hq : ∀ x39 x40 x41 x42 x43 x44 (L : Nat → Bool) (W : World), Ho9 W1 w D X NN KK ci R1 L x39 x40 x41 x42 x43 x44 W → L i = false → (∀ j ∈ onesOf o, L j = true) → ∀ K : Act → World → Prop, Shut (∀ a' w', IHo9 W1 w D X NN KK ci R1 y0 y1 y2 y3 y4 y5 y6 y7 y8 y9 y10 y11 y12 y13 y14 y15 y16 y17 y18 y19 y20 y21 y22 y23 y24 y25 y26 y27 y28 y29 y30 y31 y32 y33 y34 y35 y36 y37 y38 y45 y46 (upd L i) a' w' → K a' w') → if Region.wanted o (yielded ops (⟨#[y0, y1, y2, y3, y4, y5, y6, y7, y8, y9, y10, y11, y12, y13, y14, y15, y16, y17, y18, y19, y20, y21, y22, y23, y24, y25, y26, y27, y28, y29, y30, y31, y32, y33, y34, y35, y36, y37, y38, x39, x40, x41, x42, x43, x44, y45, y46], []⟩ : Act).tmps) = true then Oper.wp P o ⟨#[y0, y1, y2, y3, y4, y5, y6, y7, y8, y9, y10, y11, y12, y13, y14, y15, y16, y17, y18, y19, y20, y21, y22, y23, y24, y25, y26, y27, y28, y29, y30, y31, y32, y33, y34, y35, y36, y37, y38, x39, x40, x41, x42, x43, x44, y45, y46], []⟩ W K Q else K ((⟨#[y0, y1, y2, y3, y4, y5, y6, y7, y8, y9, y10, y11, y12, y13, y14, y15, y16, y17, y18, y19, y20, y21, y22, y23, y24, y25, y26, y27, y28, y29, y30, y31, y32, y33, y34, y35, y36, y37, y38, x39, x40, x41, x42, x43, x44, y45, y46], []⟩ : Act).put o.dst undef) W) : StepI P ops (IHo9 W1 w D X NN KK ci R1 y0 y1 y2 y3 y4 y5 y6 y7 y8 y9 y10 y11 y12 y13 y14 y15 y16 y17 y18 y19 y20 y21 y22 y23 y24 y25 y26 y27 y28 y29 y30 y31 y32 y33 y34 y35 y36 y37 y38 y45 y46) Q i o := by
  rintro L a W ⟨x39, x40, x41, x42, x43, x44, rfl, h⟩
  exact hq _ _ _ _ _ _ _ _ h
theorem Ho9.ends {W1 : World} {w : World} {D X NN KK ci : Nat} {R1 : List By} {y0 y1 y2 y3 y4 y5 y6 y7 y8 y9 y10 y11 y12 y13 y14 y15 y16 y17 y18 y19 y20 y21 y22 y23 y24 y25 y26 y27 y28 y29 y30 y31 y32 y33 y34 y35 y36 y37 y38 y45 y46 : Value} {mm_ : Nat} {Q : Exit → Act → World → Prop} (hq : ∀ x39 x40 x41 x42 x43 x44 (L : Nat → Bool) (W : World), (∀ j, j < mm_ → L j = true) → Ho9 W1 w D X NN KK ci R1 L x39 x40 x41 x42 x43 x44 W → Q .normal ⟨#[y0, y1, y2, y3, y4, y5, y6, y7, y8, y9, y10, y11, y12, y13, y14, y15, y16, y17, y18, y19, y20, y21, y22, y23, y24, y25, y26, y27, y28, y29, y30, y31, y32, y33, y34, y35, y36, y37, y38, x39, x40, x41, x42, x43, x44, y45, y46], []⟩ W) : ∀ L a' w', (∀ j, j < mm_ → L j = true) → IHo9 W1 w D X NN KK ci R1 y0 y1 y2 y3 y4 y5 y6 y7 y8 y9 y10 y11 y12 y13 y14 y15 y16 y17 y18 y19 y20 y21 y22 y23 y24 y25 y26 y27 y28 y29 y30 y31 y32 y33 y34 y35 y36 y37 y38 y45 y46 L a' w' → Q .normal a' w' := by
  rintro L a W hall ⟨x39, x40, x41, x42, x43, x44, rfl, h⟩
  exact hq _ _ _ _ _ _ _ _ hall h
set_option maxHeartbeats 4000000 in
set_option maxRecDepth 100000 in
theorem arholds_any (G : RF) (s : RS) (S : ByteArray) (a : Int) (w : World) (h : CAt w G s S) (hA : s.Ar) (hg : s.gone = false) (ha : a = 0 ∨ a = 1) :
    Calls Tryd.prog 27 #[.pointer (some ⟨G.g, 0, none⟩), .int .i64 a] w fun e w' => ∃ D, e = .returned (.tuple #[.slice (some ⟨D, 0, none⟩) (s.abytes a s.c.area.toNat).length (s.abytes a s.c.area.toNat).length, .int .i64 0]) ∧ w.heap.size ≤ D ∧ Row w' D 5 ((s.abytes a s.c.area.toNat).map B8) ∧ Below w.heap.size w w' := by
  have har := hA.area
  have hce := hA.cells
  have hMC : s.c.area.toNat * s.c.cells.toNat ≤ 64 * 256 := Nat.mul_le_mul (by omega) (by omega)
  have hAL : (s.abytes a s.c.area.toNat).length = 32 * (s.c.area.toNat * s.c.cells.toNat) := by rw [abytes_len hA ha _ (Nat.le_refl _), Nat.mul_left_comm]
  have hAS : s.c.asize = ((32 * (s.c.area.toNat * s.c.cells.toNat) : Nat) : Int) := by
    have e : ((s.c.area.toNat * s.c.cells.toNat : Nat) : Int) = s.c.area * s.c.cells := by rw [Int.natCast_mul]; congr 1 <;> omega
    rw [hA.asize, ← e]; omega
  have HSG : Hid (∀ i, i < s.c.area.toNat * s.c.cells.toNat → ((s.abytes a s.c.area.toNat).drop (32 * i)).take 32 = s.acell a i) := fun i hi => abytes_seg hA ha i hi
  have HCF : Hid (∀ W, W = w → Calls Tryd.prog 21 #[.pointer (some ⟨G.g, 0, none⟩)] W fun e w' => e = .returned (.agg s.c.vals.toArray) ∧ Below W.heap.size W w') := by
    rintro W rfl
    exact cconfig_any G s S W h
  have HSZ : Hid (∀ W, Calls Tryd.prog 10 #[.agg s.c.vals.toArray] W fun e w' => e = .returned (.int .i64 s.c.asize) ∧ Below W.heap.size W w') := fun W => arsize_any s.c W
  have HPL : Hid (∀ W (k : Nat), Below w.heap.size w W → k < s.c.area.toNat * s.c.cells.toNat → Calls Tryd.prog 40 #[.pointer (some ⟨G.g, 0, none⟩), .int .i64 a, .int .i64 (k : Int)] W fun e w' => e = .returned (.tuple #[.int .i64 ((s.pgN a (k / s.c.cells.toNat) : Nat) : Int), .int .i64 ((k % s.c.cells.toNat : Nat) : Int)]) ∧ Below W.heap.size W w') := fun W k hW hk => arplace_any G s S a k W (h.below hW (Nat.le_refl _)) hA ha hk
  have HRD : Hid (∀ W (k : Nat), Below w.heap.size w W → k < s.c.area.toNat * s.c.cells.toNat → Calls Tryd.prog 15 #[.pointer (some ⟨G.g, 0, none⟩), .int .i64 ((s.pgN a (k / s.c.cells.toNat) : Nat) : Int), .int .i64 ((k % s.c.cells.toNat : Nat) : Int)] W fun e w' => e = .returned (.tuple #[.agg ((s.acell a k).map B8).toArray, .int .i64 0]) ∧ Below W.heap.size W w') := fun W k hW hk => by
    have hkc : k / s.c.cells.toNat < s.c.area.toNat := Nat.div_lt_of_lt_mul (by rw [Nat.mul_comm]; exact hk)
    have hkm : k % s.c.cells.toNat < s.c.cells.toNat := Nat.mod_lt _ (by omega)
    have := cread_any G s S ((s.pgN a (k / s.c.cells.toNat) : Nat) : Int) ((k % s.c.cells.toNat : Nat) : Int) W (h.below hW (Nat.le_refl _))
    have e1 : s.at ((s.pgN a (k / s.c.cells.toNat) : Nat) : Int) ((k % s.c.cells.toNat : Nat) : Int) = 0 := at_of hg (hA.pg ha hkc).2.1 (by omega)
    rw [e1, if_pos rfl, Int.toNat_natCast, Int.toNat_natCast] at this
    exact this
  have H32 : Hid (∀ i, i < s.c.area.toNat * s.c.cells.toNat → (s.acell a i).length = 32) := fun i hi => by
    show _ = _
    rw [← HSG.out i hi, List.length_take, List.length_drop, hAL]; omega
  obtain ⟨Z, hZ⟩ : ∃ Z, s.c.area.toNat * s.c.cells.toNat = Z := ⟨_, rfl⟩
  rw [hZ] at hMC hAL hAS HSG HPL HRD H32
  have HZ32 : Hid (∀ L : List By, readTo L 0 = List.replicate L.length 0) := fun L => by show _ = _; simp [readTo]
  generalize hLL : s.abytes a s.c.area.toNat = L at *
  rw [hAS] at HSZ
  rw [hAL]
  have HAL : Hid (L.length = 32 * Z) := hAL
  have w1 : Int.tdiv ((32 * Z : Nat) : Int) 32 = (Z : Int) := by
    show ((32 * Z / 32 : Nat) : Int) = _
    rw [Nat.mul_div_cancel_left _ (by omega)]
  have w2 : ((32 * Z : Nat) : Int) / 32 = (Z : Int) := by omega
  have w3 : IntKind.i64.wrap (Z : Int) = (Z : Int) := i64_in _ (by omega) (by omega)
  clear h hA hg hZ hLL hAS har hce hAL
  generalize s.c.vals = CV at *
  generalize hNN : 32 * Z = NN at *
  go_enter Tryd.func27, Tryd.ntmps27
  go_wp2_with (first | (refine (HCF.out _ rfl).mono ?_; rintro e w2 ⟨rfl, hb2⟩) | (refine (HSZ.out _).mono ?_; rintro e w3 ⟨rfl, hb3⟩; have bb3 := hb2.trans (hb3.mono hb2.size)) | (refine wpList_make_rowN rfl _ _ rfl .i64 .i64 _ _ NN rfl rfl rfl rfl (by omega) ?_; intro w4 hr4 hb4 hz4))
  have HR4 : Hid (Row w4 w3.heap.size 5 ((readTo L 0).map B8)) := by show Row _ _ _ _; rw [HZ32.out, HAL.out]; exact hr4
  have HB4 : Hid (Below w.heap.size w w4) := bb3.trans (hb4.mono bb3.size)
  have hD : w.heap.size ≤ w3.heap.size := bb3.size
  clear hr4 hb4 hz4 hb2 hb3 bb3 HCF HSZ
  generalize w3.heap.size = D at *
  go_loopw [19] (fun iv wr => ∃ i : Nat, i ≤ Z ∧ iv = .int .i64 i ∧ Hid (Row wr D 5 ((readTo L (32 * i)).map B8)) ∧ Hid (Below w.heap.size w wr)) (fun iv _ => Z - (intOf iv).toNat)
  case atStart => exact ⟨0, by omega, rfl, HR4, HB4⟩
  case round =>
    clear HR4 HB4
    obtain ⟨i, hi, rfl, HRi, HBi⟩ := hrel
    by_cases hlt : i < Z
    · have y1 : (i : Int) < (Z : Int) := by omega
      have PL := HPL.out _ i HBi.out hlt
      have RD : Hid (∀ W, Below w.heap.size w W → Calls Tryd.prog 15 #[.pointer (some ⟨G.g, 0, none⟩), .int .i64 ((s.pgN a (i / s.c.cells.toNat) : Nat) : Int), .int .i64 ((i % s.c.cells.toNat : Nat) : Int)] W fun e w' => e = .returned (.tuple #[.agg ((s.acell a i).map B8).toArray, .int .i64 0]) ∧ Below W.heap.size W w') := fun W hW => HRD.out W i hW hlt
      have hx := H32.out i hlt
      have HNX : Hid (((readTo L (32 * i)).map B8).take (32 * i) ++ (s.acell a i).map B8 ++ ((readTo L (32 * i)).map B8).drop (32 * i + ((s.acell a i).map B8).length) = (readTo L (32 * (i + 1))).map B8) := by
        show _ = _
        rw [readTo_next L (32 * i) (by rw [HAL.out]; omega) _ (HSG.out i hlt)]; rfl
      have HLR : Hid (((readTo L (32 * i)).map B8).length = NN) := by show _ = _; rw [List.length_map, readTo_len _ _ (by rw [HAL.out]; omega), HAL.out]
      have kw : IntKind.i64.wrap ((i : Int) * 32) = ((32 * i : Nat) : Int) := by rw [i64_in _ (by omega) (by omega)]; omega
      have HSL : Hid (∀ W : World, (Instr.slice 29 (.slice (some ⟨D, 0, none⟩) NN NN) (some (.int .i64 ((32 * i : Nat) : Int))) none none).run Tryd.prog W = .ok (.slice (some ⟨D, 32 * i, none⟩) (NN - 32 * i) (NN - 32 * i)) W) := fun W => by
        have := run_tailN D 0 NN NN (32 * i) (by omega) (Nat.le_refl _) W
        rw [Nat.zero_add] at this
        exact this
      have hNK : 32 * i + 32 ≤ NN := by omega
      have lx : ((s.acell a i).map B8).length = 32 := by rw [List.length_map, hx]
      generalize s.pgN a (i / s.c.cells.toNat) = PN at *
      generalize i % s.c.cells.toNat = KM at *
      generalize s.acell a i = XX at *
      obtain ⟨R1, hR1⟩ : ∃ R1, readTo L (32 * (i + 1)) = R1 := ⟨_, rfl⟩
      rw [hR1] at HNX
      have HR1E : Hid (readTo L (32 * (i + 1)) = R1) := hR1
      clear hR1
      generalize readTo L (32 * i) = R0 at *
      generalize hKK : 32 * i = KK at *
      go_wp2_with fail
      refine PL.mono ?_
      clear PL
      rintro e w5 ⟨rfl, hb5⟩
      dsimp only
      have HB5 : Hid (Below w.heap.size w w5) := HBi.out.trans (hb5.mono HBi.out.size)
      have HR5 : Hid (Row w5 D 5 (R0.map B8)) := HRi.out.below hb5 HRi.out.lt
      clear hb5
      go_wp2_with fail
      refine (RD.out _ HB5.out).mono ?_
      rintro e w6 ⟨rfl, hb6⟩
      dsimp only
      have HB6 : Hid (Below w.heap.size w w6) := HB5.out.trans (hb6.mono HB5.out.size)
      have HR6 : Hid (Row w6 D 5 (R0.map B8)) := HR5.out.below hb6 HR5.out.lt
      clear hb6 HB5 HR5 RD HBi HRi
      have r9 := Row.at w6 40 (List.replicate 32 (.int .u8 0)) _ _ rfl rfl
      have hz6 := HB6.out.size
      have hDl := HR6.out.lt
      have HBA : Hid (∀ o1, Below w.heap.size w (w6.alloc o1)) := fun o1 => HB6.out.alloc hz6 o1
      have HRA : Hid (∀ o1, Row (w6.alloc o1) D 5 (R0.map B8)) := fun o1 => HR6.out.alloc o1
      generalize hX : w6.heap.size = X at *
      go_wp2_with (refine wpList_store_Row rfl 40 _ _ rfl X 40 0 (List.replicate 32 (.int .u8 0)) (XX.map B8) r9 (by rw [lx]; exact Nat.le_refl _) rfl rfl (by rw [lx]; kernel_rfl) (B8_one _) ?_; intro w7 hr7 hs7)
      have HX7 : Hid (Row w7 X 40 (XX.map B8)) := row_whole hr7 (by rw [lx]; exact Nat.le_refl _)
      have HB7 : Hid (Below w.heap.size w w7) := hs7.below (HBA.out _) hz6
      have HR7 : Hid (Row w7 D 5 (R0.map B8)) := (HRA.out _).but hs7 (by omega)
      have HSRC : Hid (∀ W, Dr w7 W → ∀ j v, XX[j]? = some v → W.cell? ⟨X, 0 + j, none⟩ = some (B8 v)) := fun W d j v hj => by
        rw [Nat.zero_add]
        exact (HX7.out.dr d).cell j _ (by rw [List.getElem?_map, hj]; rfl)
      clear hr7 hs7 r9 HBA HRA HB6 HR6
      refine wp_region_inv (IHo9 w7 w D X NN KK i R1 _ _ _ _ _ _ _ _ _ _ _ _ _ _ _ _ _ _ _ _ _ _ _ _ _ _ _ _ _ _ _ _ _ _ _ _ _ _ _ _ _) (by kernel_rfl) (by kernel_rfl) ⟨_, _, _, _, _, _, rfl, ⟨⟨fun _ => rfl, fun e => by (cases e)⟩, fun k => (by cases k), fun k => (by cases k), fun k => (by cases k), fun k => (by cases k), fun k => (by cases k), fun k => (by cases k)⟩⟩ ?_ ?_
      · refine .cons ?_ (.cons ?_ (.cons ?_ (.cons ?_ (.cons ?_ (.cons ?_ .nil)))))
        all_goals (refine Ho9.step ?_; intro x39 x40 x41 x42 x43 x44 L W hI hL hd K hK)
        · rw [if_pos (by rfl)]
          go_simp
          exact hK.out _ _ ⟨_, _, _, _, _, _, rfl, hI.s0⟩
        · rw [if_pos (by rfl)]
          go_simp
          exact hK.out _ _ ⟨_, _, _, _, _, _, rfl, hI.s1⟩
        · have hx1 := hI.p1 (hd 1 (by decide))
          subst hx1
          rw [if_pos (by rfl)]
          go_simp
          exact hK.out _ _ ⟨_, _, _, _, _, _, rfl, hI.s2⟩
        · have hx0 := hI.p0 (hd 0 (by decide))
          subst hx0
          have hx2 := hI.p2 (hd 2 (by decide))
          subst hx2
          rw [if_pos (by rfl)]
          have hsl := HSL.out
          go_simp
          exact hK.out _ _ ⟨_, _, _, _, _, _, rfl, hI.s3⟩
        · rw [if_pos (by rfl)]
          go_simp
          exact hK.out _ _ ⟨_, _, _, _, _, _, rfl, hI.s4⟩
        · have hx3 := hI.p3 (hd 3 (by decide))
          subst hx3
          have hx4 := hI.p4 (hd 4 (by decide))
          subst hx4
          refine step_copy_Row rfl (.tmp 42) (.tmp 43) rfl D KK (NN - KK) (NN - KK) X 0 32 32 rfl rfl 5 (R0.map B8) (by rw [hI.x.a hL]; exact HR7.out.dr ⟨1, rfl⟩) XX 32 (by rw [← lx, List.length_map]) (by show 32 = min 32 (NN - KK); omega) (by rw [hI.x.a hL]; exact HSRC.out _ ⟨1, rfl⟩) (by rw [HLR.out]; exact hNK) ?_
          intro W2 hr2 hs2
          rw [HNX.out] at hr2
          have hW := hI.x.a hL
          rw [hW] at hs2
          exact hK.out _ _ ⟨_, _, _, _, _, _, rfl, hI.s5 (⟨fun e => by (cases e), fun _ => ⟨hr2, hs2.below (Below_dr HB7.out ⟨1, rfl⟩) hD⟩⟩)⟩
      · refine Ho9.ends ?_; intro x39 x40 x41 x42 x43 x44 L W hall hI
        have hx0 := hI.p0 (hall 0 (by decide))
        subst hx0
        have hx1 := hI.p1 (hall 1 (by decide))
        subst hx1
        have hx2 := hI.p2 (hall 2 (by decide))
        subst hx2
        have hx3 := hI.p3 (hall 3 (by decide))
        subst hx3
        have hx4 := hI.p4 (hall 4 (by decide))
        subst hx4
        have hx5 := hI.p5 (hall 5 (by decide))
        subst hx5
        have hXe := hI.x
        rw [hall 5 (by decide)] at hXe
        clear hI hall
        try dsimp only
        obtain ⟨rx, bx⟩ := hXe.b rfl
        have HRX : Hid (Row W D 5 (R1.map B8)) := rx
        have HBX : Hid (Below w.heap.size w W) := bx
        clear hXe rx bx HX7 HB7 HR7 HSRC
        go_wp2
        exact ⟨⟨i + 1, by omega, by go_num, by rw [HR1E.out]; exact HRX, HBX⟩, by simp [intOf]; omega⟩
    · obtain rfl : i = Z := by omega
      have e : readTo L (32 * i) = L := by
        have := HAL.out
        unfold readTo
        rw [List.take_of_length_le (by omega), show L.length - 32 * i = 0 by omega]; simp
      have HRF : Hid (Row wr D 5 (L.map B8)) := by have := HRi.out; rw [e] at this; exact this
      clear HRi e
      go_wp2
      go_ret2
      exact ⟨D, rfl, hD, HRF.out, HBi.out⟩

/-- errors.As of a *image.Wrong, at a variable of one's own. -/
theorem as_row (g t N : Nat) (old : Value) (w : World) (hg : HG w) (hr : Row w t 87 [old]) (hN : N ≤ t) :
    Calls Tryd.prog 42 #[.iface 87 (.pointer (some ⟨g, 0, none⟩)), .iface 89 (.pointer (some ⟨t, 0, none⟩))] w fun ev w' => ev = .returned (.bool true) ∧ Row w' t 87 [.pointer (some ⟨g, 0, none⟩)] ∧ (∀ x ty cs, x ≠ t → Row w x ty cs → Row w' x ty cs) ∧ Below N w w' := by
  have hN2 : N ≤ w.heap.size := Nat.le_of_lt (Nat.lt_of_le_of_lt hN hr.lt)
  refine (as_wrong ⟨g, 0, none⟩ ⟨t, 0, none⟩ old w hg (hr.cell 0 _ rfl) (hr.frozen 0)).mono ?_
  rintro e w' ⟨rfl, rfl⟩
  have sb := fun W : World => SameBut.setCell t 0 (.pointer (some ⟨g, 0, none⟩)) W
  refine ⟨rfl, ((((hr.alloc _).alloc _).alloc _).alloc _).set 0 _, fun x ty cs hx h => ((((h.alloc _).alloc _).alloc _).alloc _).but (sb _) hx, ?_⟩
  exact (sb _).below (((((Below.refl _ _).alloc hN2 _).alloc (by simp; omega) _).alloc (by simp; omega) _).alloc (by simp; omega) _) hN

set_option maxHeartbeats 4000000 in
set_option maxRecDepth 100000 in
theorem arends_any (ao : Option Addr) (n cap : Nat) (b : List By) (hb0 : b.length = n) (w : World) (hg : HG w) (hb : IsB w ao b) (hnil : ao = none → cap = 0) (hcap : n ≤ cap) (hl : n ≤ 524288) :
    Calls Tryd.prog 28 #[.slice ao n cap] w fun e w' => (∃ i, endOf b = some i ∧ e = .returned (.tuple #[.int .i64 (i : Int), .bool true]) ∨ endOf b = none ∧ e = .returned (.tuple #[.int .i64 0, .bool false])) ∧ Below w.heap.size w w' := by
  cases hp : parse b with
  | ok q =>
    obtain ⟨s, k, v, p, t⟩ := q
    have HE : Hid (endOf b = some n) := by show _ = _; unfold endOf; rw [hp, hb0]
    have htl : t.length = 32 := (parse_img (show parse b = .ok (s, k, v, p, t) from hp)).2.2.2.2.1
    have HP : Hid (∀ W, W = w → Calls Tryd.prog 41 #[.slice ao n cap] W fun e w' => ∃ ao' c', e = .returned (.tuple #[.agg (imgC s k v (.slice ao' p.length c') t).toArray, .nilIface]) ∧ Own W.heap.size w' (.slice ao' p.length c') p ∧ Below W.heap.size W w') := by
      rintro W rfl
      exact cparse_img ao n cap b hb0 W hb hnil hcap s k v p t hp
    have HIL : Hid (∀ ao' c', (imgC s k v (.slice ao' p.length c') t).length = 36 ∧ ∀ x ∈ imgC s k v (.slice ao' p.length c') t, Value.oneCell' x = true) := fun ao' c' => ⟨imgC_len _ _ _ _ _ htl, imgC_one _ _ _ _ _ _ _⟩
    generalize endOf b = EO at *
    clear hp hb htl
    go_enter Tryd.func28, Tryd.ntmps28
    go_wp2_with fail
    refine (HP.out _ rfl).mono ?_
    rintro e w1 ⟨ao1, c1, rfl, _, hb1⟩
    dsimp only
    obtain ⟨hil, h1⟩ := HIL.out ao1 c1
    generalize imgC (s : Int) k v (.slice ao1 p.length c1) t = IM at *
    have rI := Row.at w1 82 zImg _ _ rfl rfl
    have hz1 := hb1.size
    have HBA : Hid (∀ o1, Below w.heap.size w (w1.alloc o1)) := fun o1 => hb1.alloc hz1 o1
    clear hb1
    go_wp2_with (refine wpList_store_Row rfl 82 _ _ rfl w1.heap.size 82 0 zImg IM rI (by rw [hil]; exact Nat.le_refl _) rfl rfl (by rw [hil]; kernel_rfl) h1 ?_; intro w2 hr2 hs2)
    go_ret2
    exact ⟨⟨n, .inl ⟨HE.out, rfl⟩⟩, hs2.below (HBA.out _) hz1⟩
  | error ea =>
    obtain ⟨e0, a0⟩ := ea
    have HE : Hid (endOf b = if e0 = 7 then some a0 else none) := by show _ = _; unfold endOf; rw [hp]
    have hw := parse_wrong (show parse b = .error (e0, a0) from hp)
    have HP : Hid (∀ W, W = w → Calls Tryd.prog 41 #[.slice ao n cap] W fun e w' => ∃ ao' c' g, e = .returned (.tuple #[.agg (imgC 0 0 0 (.slice ao' 0 c') (List.replicate 32 0)).toArray, .iface 87 (.pointer (some ⟨g, 0, none⟩))]) ∧ Own W.heap.size w' (.slice ao' 0 c') [] ∧ W.heap.size ≤ g ∧ Row w' g 91 [.int .i64 e0, .int .i64 a0] ∧ Below W.heap.size W w') := by
      rintro W rfl
      exact cparse_wrong ao n cap b hb0 W hb hnil hcap (by omega) e0 a0 hp
    have HIL : Hid (∀ ao' c', (imgC 0 0 0 (.slice ao' 0 c') (List.replicate 32 0)).length = 36 ∧ ∀ x ∈ imgC 0 0 0 (.slice ao' 0 c') (List.replicate 32 0), Value.oneCell' x = true) := fun ao' c' => ⟨imgC_len _ _ _ _ _ (by simp), imgC_one _ _ _ _ _ _ _⟩
    have HHG : Hid (HG w) := hg
    have HAS : Hid (∀ (W : World) (g t : Nat) (old : Value), HG W → Row W t 87 [old] → w.heap.size ≤ t → Calls Tryd.prog 42 #[.iface 87 (.pointer (some ⟨g, 0, none⟩)), .iface 89 (.pointer (some ⟨t, 0, none⟩))] W fun ev w' => ev = .returned (.bool true) ∧ Row w' t 87 [.pointer (some ⟨g, 0, none⟩)] ∧ (∀ x ty cs, x ≠ t → Row W x ty cs → Row w' x ty cs) ∧ Below w.heap.size W w') := fun W g t old h1 h2 h3 => as_row g t w.heap.size old W h1 h2 h3
    generalize endOf b = EO at *
    clear hp hb hg hw
    go_enter Tryd.func28, Tryd.ntmps28
    go_wp2_with fail
    refine (HP.out _ rfl).mono ?_
    rintro e w1 ⟨ao1, c1, g, rfl, _, hgl, hrg, hb1⟩
    dsimp only
    obtain ⟨hil, h1⟩ := HIL.out ao1 c1
    generalize imgC 0 0 0 (.slice ao1 0 c1) (List.replicate 32 0) = IM at *
    have rI := Row.at w1 82 zImg _ _ rfl rfl
    have hz1 := hb1.size
    have HBA : Hid (∀ o1, Below w.heap.size w (w1.alloc o1)) := fun o1 => hb1.alloc hz1 o1
    have HRA : Hid (∀ o1, Row (w1.alloc o1) g 91 [.int .i64 e0, .int .i64 a0]) := fun o1 => hrg.alloc o1
    have hgl2 := hrg.lt
    clear hb1 hrg HP HIL
    go_upto_region 2 with (refine wpList_store_Row rfl 82 _ _ rfl w1.heap.size 82 0 zImg IM rI (by rw [hil]; exact Nat.le_refl _) rfl rfl (by rw [hil]; kernel_rfl) h1 ?_; intro w2 hr2 hs2)
    have HB2 : Hid (Below w.heap.size w w2) := hs2.below (HBA.out _) hz1
    have HR2 : Hid (Row w2 g 91 [.int .i64 e0, .int .i64 a0]) := (HRA.out _).but hs2 (by omega)
    clear hr2 hs2 HBA HRA rI hil h1
    have HT2 : Hid (∀ old, Row (w2.alloc (.cells #[old] 87)) w2.heap.size 87 [old]) := fun old => Row.at _ _ _ _ _ rfl rfl
    have HBB : Hid (∀ o1, Below w.heap.size w (w2.alloc o1)) := fun o1 => HB2.out.alloc HB2.out.size o1
    have HRB : Hid (∀ o1, Row (w2.alloc o1) g 91 [.int .i64 e0, .int .i64 a0]) := fun o1 => HR2.out.alloc o1
    have hz2 := HB2.out.size
    have hgl3 := HR2.out.lt
    clear HB2 HR2
    generalize hT : w2.heap.size = TT at *
    go_wp2_with fail
    refine (HAS.out _ g TT _ (HHG.out.below (HBB.out _) HHG.out.lt) (HT2.out _) hz2).mono ?_
    rintro e w3 ⟨rfl, hr3, hk3, hb3⟩
    dsimp only
    have rg3 := hk3 g _ _ (by omega) (HRB.out _)
    have HB3 : Hid (Below w.heap.size w w3) := (HBB.out _).trans hb3
    have ct := hr3.cell 0 _ rfl
    have ce := rg3.cell 0 _ rfl
    have ca := rg3.cell 1 _ rfl
    clear hr3 hk3 hb3 rg3 HRB HT2 HBB
    by_cases h7 : e0 = 7
    · subst h7
      go_wp2
      go_ret2
      exact ⟨⟨a0, .inl ⟨by rw [HE.out]; simp, rfl⟩⟩, HB3.out⟩
    · have h71 : ((e0 : Int) == 7) = false := by rw [beq_eq_false_iff_ne]; omega
      go_wp2
      go_ret2
      exact ⟨⟨0, .inr ⟨by rw [HE.out, if_neg h7], rfl⟩⟩, HB3.out⟩

set_option maxHeartbeats 4000000 in
set_option maxRecDepth 100000 in
theorem arread_any (G : RF) (s : RS) (S : ByteArray) (a : Int) (w : World) (hG : HG w) (h : CAt w G s S) (hA : s.Ar) :
    Calls Tryd.prog 14 #[.pointer (some ⟨G.g, 0, none⟩), .int .i64 a] w fun e w' => ∃ ao c, e = .returned (.tuple #[.slice ao (s.aread a).1.length c, .int .i64 (s.aread a).2]) ∧ Nw w.heap.size w' ao (s.aread a).1.length c (s.aread a).1 ∧ Below w.heap.size w w' := by
  have HASK : Hid (∀ W, W = w → Calls Tryd.prog 20 #[.pointer (some ⟨G.g, 0, none⟩), .int .i64 a] W fun e w' => e = .returned (.int .i64 (s.areaE a)) ∧ w' = W) := by
    rintro W rfl
    exact arask_any G s S a W h
  have HNIL : Hid (∀ N (W : World), Nw N W none 0 0 []) := fun N W => ⟨rfl, Nat.le_refl _, .inl ⟨rfl, rfl⟩⟩
  by_cases h0 : s.areaE a = 0
  · obtain ⟨hg, ha⟩ := areaE_zero h0
    rw [h0] at HASK
    have HAR : Hid (s.aread a = match imgAt (s.abytes a s.c.area.toNat) with | some l => (l, 0) | none => ([], 5)) := by show _ = _; exact if_pos h0
    have HO : Hid (∀ W, W = w → Calls Tryd.prog 27 #[.pointer (some ⟨G.g, 0, none⟩), .int .i64 a] W fun e w' => ∃ D, e = .returned (.tuple #[.slice (some ⟨D, 0, none⟩) (s.abytes a s.c.area.toNat).length (s.abytes a s.c.area.toNat).length, .int .i64 0]) ∧ W.heap.size ≤ D ∧ Row w' D 5 ((s.abytes a s.c.area.toNat).map B8) ∧ Below W.heap.size W w') := by
      rintro W rfl
      exact arholds_any G s S a W h hA hg ha
    have hlen : (s.abytes a s.c.area.toNat).length ≤ 524288 := by
      have har := hA.area
      have hce := hA.cells
      have hMC : s.c.area.toNat * s.c.cells.toNat ≤ 64 * 256 := Nat.mul_le_mul (by omega) (by omega)
      rw [abytes_len hA ha _ (Nat.le_refl _), Nat.mul_left_comm]; omega
    generalize s.abytes a s.c.area.toNat = L at *
    obtain ⟨hEO, hEL⟩ := endOf_eq L hlen
    rw [hEO] at HAR
    have HEL : Hid (∀ i, endOf L = some i → i ≤ L.length) := hEL
    have HEN : Hid (∀ W D, HG W → Row W D 5 (L.map B8) → Calls Tryd.prog 28 #[.slice (some ⟨D, 0, none⟩) L.length L.length] W fun e w' => (∃ i, endOf L = some i ∧ e = .returned (.tuple #[.int .i64 (i : Int), .bool true]) ∨ endOf L = none ∧ e = .returned (.tuple #[.int .i64 0, .bool false])) ∧ Below W.heap.size W w') := fun W D hgW hr => arends_any (some ⟨D, 0, none⟩) L.length L.length L rfl W hgW (.inr ⟨D, 0, rfl, fun j v hj => by
      rw [Nat.zero_add]
      exact hr.cell j _ (by rw [List.getElem?_map, hj]; rfl)⟩) (fun e => by cases e) (Nat.le_refl _) hlen
    have HNW : Hid (∀ (W : World) (D i : Nat), w.heap.size ≤ D → Row W D 5 (L.map B8) → i ≤ L.length → Nw w.heap.size W (some ⟨D, 0, none⟩) i L.length (L.take i)) := fun W D i h1 h2 h3 => ⟨by rw [List.length_take]; omega, h3, .inr ⟨D, 0, L.map B8, rfl, h1, h2, by simp, fun j v hj => by
      rw [List.getElem?_take] at hj
      split at hj
      · rw [Nat.zero_add, List.getElem?_map, hj]; rfl
      · cases hj⟩⟩
    have HHG : Hid (HG w) := hG
    generalize s.aread a = R at *
    generalize endOf L = EO at *
    obtain ⟨n, hn⟩ : ∃ n, L.length = n := ⟨_, rfl⟩
    have HLT : Hid (∀ i, i ≤ n → (L.take i).length = i) := fun i hi => by show _ = _; rw [List.length_take]; omega
    rw [hn] at HO HEN HEL HNW
    clear h hA hEO hEL hlen hG
    go_enter Tryd.func14, Tryd.ntmps14
    go_wp2_with (refine (HASK.out _ rfl).mono ?_; rintro e w1 ⟨rfl, rfl⟩)
    refine (HO.out _ rfl).mono ?_
    rintro e w2 ⟨D, rfl, hD, hr2, hb2⟩
    dsimp only
    have HR2 : Hid (Row w2 D 5 (L.map B8)) := hr2
    have HB2 : Hid (Below w1.heap.size w1 w2) := hb2
    clear hr2 hb2
    go_wp2_with fail
    refine (HEN.out _ D (HHG.out.below HB2.out HHG.out.lt) HR2.out).mono ?_
    rintro e w3 ⟨⟨i, he⟩, hb3⟩
    have HB3 : Hid (Below w1.heap.size w1 w3) := HB2.out.trans (hb3.mono HB2.out.size)
    have HR3 : Hid (Row w3 D 5 (L.map B8)) := HR2.out.below hb3 HR2.out.lt
    clear hb3 HB2 HR2 HO
    rcases he with ⟨he, rfl⟩ | ⟨he, rfl⟩
    · dsimp only
      have hin := HEL.out i he
      have hin2 : (i : Int) ≤ (n : Int) := by omega
      have hin0 : (0 : Int) ≤ (i : Int) := by omega
      have HF : Hid (R = (L.take i, 0)) := by show _ = _; rw [HAR.out, he]; rfl
      clear HAR HEN HEL
      go_wp2
      go_ret2
      refine ⟨some ⟨D, 0, none⟩, n, ?_, ?_, HB3.out⟩
      · rw [HF.out]; show _ = _; rw [HLT.out i hin]; simp
      · rw [HF.out]; show Nw _ _ _ (L.take i).length _ _; rw [HLT.out i hin]; exact HNW.out _ D i hD HR3.out hin
    · dsimp only
      have HF : Hid (R = ([], 5)) := by show _ = _; rw [HAR.out, he]; rfl
      clear HAR HEN HEL
      go_wp2
      go_ret2
      exact ⟨none, 0, by rw [HF.out]; rfl, by rw [HF.out]; exact HNIL.out _ _, HB3.out⟩
  · have HF : Hid (s.aread a = ([], s.areaE a)) := by show _ = _; unfold RS.aread; rw [if_neg h0]
    have hq : (s.areaE a != 0) = true := by simpa using h0
    generalize s.aread a = R at *
    generalize s.areaE a = E at *
    go_enter Tryd.func14, Tryd.ntmps14
    go_wp2_with (refine (HASK.out _ rfl).mono ?_; rintro e w1 ⟨rfl, rfl⟩)
    go_ret2
    exact ⟨none, 0, by rw [HF.out]; rfl, by rw [HF.out]; exact HNIL.out _ _, Below.refl _ _⟩
end Go.Proofs.YtcpdanjbnijoiaaDoor
