
import Derived.Test.YtdfbfheceobboaaDoorP25Ri
/-! The code's patch: a patch taken apart. (Printed by tools/genc25.py.) -/
namespace Go.Proofs.YtdfbfheceobboaaDoor
open Go.RowKit
set_option linter.unusedVariables false
set_option linter.unusedSimpArgs false
set_option maxRecDepth 100000

/-- What taking a patch apart tells. -/
def TkP (w : World) (R : RX25) (e : Ending) (w' : World) : Prop :=
  Below w.heap.size w w' ∧ match R with
    | .error (k, b) => ∃ g, e = .returned (.tuple #[.agg zInf.toArray, .slice none 0 0, .pointer (some ⟨g, 0, none⟩)]) ∧ Row w' g 52 [.int .i64 (k : Int), .int .i64 (b : Int)]
    | .ok x => ∃ lo lc, e = .returned (.tuple #[.agg (infoC x).toArray, .slice lo x.l.length lc, .pointer none]) ∧ PaR w.heap.size w' x.l lo lc
def slLen : Value → Nat
  | .slice _ n _ => n
  | _ => 0
/-- While it is told that bytes are left. -/
structure TrW (w : World) (g7 : Nat) (RC : List Value) (a : Nat) (q4 q7 : Bool) (x50 x4 : Value) (W : World) : Prop where
  bel : Below w.heap.size w W
  res : Row W w.heap.size 47 zInf
  rd : Row W g7 75 RC
  p4 : q4 = true → ∃ g, x50 = .pointer (some ⟨g, 0, none⟩) ∧ Row W g 52 [.int .i64 ((7 : Nat) : Int), .int .i64 (a : Int)] ∧ g ≠ w.heap.size
  p7 : q7 = true → q4 = true ∧ x4 = x50
  ne : g7 ≠ w.heap.size
section
variable {w : World} {g7 : Nat} {RC : List Value} {a : Nat} {q4 q7 : Bool} {x50 x4 : Value} {W W2 : World}
theorem TrW.s4 (h : TrW w g7 RC a q4 q7 x50 x4 W) (e4 : q4 = false) : TrW w g7 RC a true q7 (.pointer (some ⟨W.heap.size, 0, none⟩)) x4 (W.alloc (.cells #[.int .i64 7, .int .i64 (a : Int)] 52)) := by
  have e7 := ff25 (fun e => (h.p7 e).1) e4
  subst e4; subst e7
  exact ⟨h.bel.alloc h.bel.size _, h.res.alloc _, h.rd.alloc _, fun _ => ⟨_, rfl, Row.at W _ _ _ _ rfl rfl, by have := h.res.lt; omega⟩, fun e => (by cases e), h.ne⟩
theorem TrW.s5 (h : TrW w g7 RC a q4 q7 x50 x4 W) (hs : SameBut w.heap.size W W2) (hr : Row W2 w.heap.size 47 zInf) : TrW w g7 RC a q4 q7 x50 x4 W2 :=
  ⟨hs.below h.bel (Nat.le_refl _), hr, h.rd.but hs h.ne, fun e => let ⟨g, a1, b1, c1⟩ := h.p4 e; ⟨g, a1, b1.but hs c1, c1⟩, h.p7, h.ne⟩
theorem TrW.s7 (h : TrW w g7 RC a q4 q7 x50 x4 W) (e4 : q4 = true) : TrW w g7 RC a q4 true x50 x50 W :=
  ⟨h.bel, h.res, h.rd, h.p4, fun _ => ⟨e4, rfl⟩, h.ne⟩
end
structure TK12 (W1 : World) (w : World) (g7 qa : Nat) (RC : List Value) (L : Nat → Bool) (x46 x47 x48 x49 x50 x3 x4 : Value) (W : World) : Prop where
  x : TrW w g7 RC qa (L 4) (L 7) x50 x4 W
  p0 : L 0 = true → x46 = .agg zInf.toArray
  p1 : L 1 = true → x47 = .pointer (some ⟨g7, 1, none⟩)
  p2 : L 2 = true → x48 = .int .i64 (qa : Int)
  p3 : L 3 = true → x49 = .agg #[.int .i64 7, .int .i64 (qa : Int)]
  p6 : L 6 = true → x3 = .slice none 0 0
section
variable {W1 : World} {w : World} {g7 qa : Nat} {RC : List Value} {L : Nat → Bool} {x46 x47 x48 x49 x50 x3 x4 : Value} {W W2 : World}
theorem TK12.s0 (h : TK12 W1 w g7 qa RC L x46 x47 x48 x49 x50 x3 x4 W) : TK12 W1 w g7 qa RC (upd L 0) (.agg zInf.toArray) x47 x48 x49 x50 x3 x4 W :=
  ⟨h.x, fun _ => rfl, h.p1, h.p2, h.p3, h.p6⟩
theorem TK12.s1 (h : TK12 W1 w g7 qa RC L x46 x47 x48 x49 x50 x3 x4 W) : TK12 W1 w g7 qa RC (upd L 1) x46 (.pointer (some ⟨g7, 1, none⟩)) x48 x49 x50 x3 x4 W :=
  ⟨h.x, h.p0, fun _ => rfl, h.p2, h.p3, h.p6⟩
theorem TK12.s2 (h : TK12 W1 w g7 qa RC L x46 x47 x48 x49 x50 x3 x4 W) : TK12 W1 w g7 qa RC (upd L 2) x46 x47 (.int .i64 (qa : Int)) x49 x50 x3 x4 W :=
  ⟨h.x, h.p0, h.p1, fun _ => rfl, h.p3, h.p6⟩
theorem TK12.s3 (h : TK12 W1 w g7 qa RC L x46 x47 x48 x49 x50 x3 x4 W) : TK12 W1 w g7 qa RC (upd L 3) x46 x47 x48 (.agg #[.int .i64 7, .int .i64 (qa : Int)]) x50 x3 x4 W :=
  ⟨h.x, h.p0, h.p1, h.p2, fun _ => rfl, h.p6⟩
theorem TK12.s4 (h : TK12 W1 w g7 qa RC L x46 x47 x48 x49 x50 x3 x4 W) {v : Value} (hX : TrW w g7 RC qa ((upd L 4) 4) ((upd L 4) 7) v x4 W2) : TK12 W1 w g7 qa RC (upd L 4) x46 x47 x48 x49 v x3 x4 W2 :=
  ⟨hX, h.p0, h.p1, h.p2, h.p3, h.p6⟩
theorem TK12.s5 (h : TK12 W1 w g7 qa RC L x46 x47 x48 x49 x50 x3 x4 W) (hX : TrW w g7 RC qa ((upd L 5) 4) ((upd L 5) 7) x50 x4 W2) : TK12 W1 w g7 qa RC (upd L 5) x46 x47 x48 x49 x50 x3 x4 W2 :=
  ⟨hX, h.p0, h.p1, h.p2, h.p3, h.p6⟩
theorem TK12.s6 (h : TK12 W1 w g7 qa RC L x46 x47 x48 x49 x50 x3 x4 W) : TK12 W1 w g7 qa RC (upd L 6) x46 x47 x48 x49 x50 (.slice none 0 0) x4 W :=
  ⟨h.x, h.p0, h.p1, h.p2, h.p3, fun _ => rfl⟩
theorem TK12.s7 (h : TK12 W1 w g7 qa RC L x46 x47 x48 x49 x50 x3 x4 W) {v : Value} (hX : TrW w g7 RC qa ((upd L 7) 4) ((upd L 7) 7) x50 v W2) : TK12 W1 w g7 qa RC (upd L 7) x46 x47 x48 x49 x50 x3 v W2 :=
  ⟨hX, h.p0, h.p1, h.p2, h.p3, h.p6⟩
end
@[reducible] def ITK12 (W1 : World) (w : World) (g7 qa : Nat) (RC : List Value) (y0 y1 y2 y5 y6 y7 y8 y9 y10 y11 y12 y13 y14 y15 y16 y17 y18 y19 y20 y21 y22 y23 y24 y25 y26 y27 y28 y29 y30 y31 y32 y33 y34 y35 y36 y37 y38 y39 y40 y41 y42 y43 y44 y45 y51 y52 y53 y54 y55 y56 y57 y58 : Value) : (Nat → Bool) → Act → World → Prop := fun L a W => ∃ x46 x47 x48 x49 x50 x3 x4, a = ⟨#[y0, y1, y2, x3, x4, y5, y6, y7, y8, y9, y10, y11, y12, y13, y14, y15, y16, y17, y18, y19, y20, y21, y22, y23, y24, y25, y26, y27, y28, y29, y30, y31, y32, y33, y34, y35, y36, y37, y38, y39, y40, y41, y42, y43, y44, y45, x46, x47, x48, x49, x50, y51, y52, y53, y54, y55, y56, y57, y58], []⟩ ∧ TK12 W1 w g7 qa RC L x46 x47 x48 x49 x50 x3 x4 W
theorem TK12.step {W1 : World} {w : World} {g7 qa : Nat} {RC : List Value} {y0 y1 y2 y5 y6 y7 y8 y9 y10 y11 y12 y13 y14 y15 y16 y17 y18 y19 y20 y21 y22 y23 y24 y25 y26 y27 y28 y29 y30 y31 y32 y33 y34 y35 y36 y37 y38 y39 y40 y41 y42 y43 y44 y45 y51 y52 y53 y54 y55 y56 y57 y58 : Value} {P : Program} {ops : Array Oper} {Q : Exit → Act → World → Prop} {i : Nat} {o : Oper} (hq : ∀ x46 x47 x48 x49 x50 x3 x4 (L : Nat → Bool) (W : World), TK12 W1 w g7 qa RC L x46 x47 x48 x49 x50 x3 x4 W → L i = false → (∀ j ∈ onesOf o, L j = true) → ∀ K : Act → World → Prop, Shut (∀ a' w', ITK12 W1 w g7 qa RC y0 y1 y2 y5 y6 y7 y8 y9 y10 y11 y12 y13 y14 y15 y16 y17 y18 y19 y20 y21 y22 y23 y24 y25 y26 y27 y28 y29 y30 y31 y32 y33 y34 y35 y36 y37 y38 y39 y40 y41 y42 y43 y44 y45 y51 y52 y53 y54 y55 y56 y57 y58 (upd L i) a' w' → K a' w') → if Region.wanted o (yielded ops (⟨#[y0, y1, y2, x3, x4, y5, y6, y7, y8, y9, y10, y11, y12, y13, y14, y15, y16, y17, y18, y19, y20, y21, y22, y23, y24, y25, y26, y27, y28, y29, y30, y31, y32, y33, y34, y35, y36, y37, y38, y39, y40, y41, y42, y43, y44, y45, x46, x47, x48, x49, x50, y51, y52, y53, y54, y55, y56, y57, y58], []⟩ : Act).tmps) = true then Oper.wp P o ⟨#[y0, y1, y2, x3, x4, y5, y6, y7, y8, y9, y10, y11, y12, y13, y14, y15, y16, y17, y18, y19, y20, y21, y22, y23, y24, y25, y26, y27, y28, y29, y30, y31, y32, y33, y34, y35, y36, y37, y38, y39, y40, y41, y42, y43, y44, y45, x46, x47, x48, x49, x50, y51, y52, y53, y54, y55, y56, y57, y58], []⟩ W K Q else K ((⟨#[y0, y1, y2, x3, x4, y5, y6, y7, y8, y9, y10, y11, y12, y13, y14, y15, y16, y17, y18, y19, y20, y21, y22, y23, y24, y25, y26, y27, y28, y29, y30, y31, y32, y33, y34, y35, y36, y37, y38, y39, y40, y41, y42, y43, y44, y45, x46, x47, x48, x49, x50, y51, y52, y53, y54, y55, y56, y57, y58], []⟩ : Act).put o.dst undef) W) : StepI P ops (ITK12 W1 w g7 qa RC y0 y1 y2 y5 y6 y7 y8 y9 y10 y11 y12 y13 y14 y15 y16 y17 y18 y19 y20 y21 y22 y23 y24 y25 y26 y27 y28 y29 y30 y31 y32 y33 y34 y35 y36 y37 y38 y39 y40 y41 y42 y43 y44 y45 y51 y52 y53 y54 y55 y56 y57 y58) Q i o := by
  rintro L a W ⟨x46, x47, x48, x49, x50, x3, x4, rfl, h⟩
  exact hq _ _ _ _ _ _ _ _ _ h
theorem TK12.ends {W1 : World} {w : World} {g7 qa : Nat} {RC : List Value} {y0 y1 y2 y5 y6 y7 y8 y9 y10 y11 y12 y13 y14 y15 y16 y17 y18 y19 y20 y21 y22 y23 y24 y25 y26 y27 y28 y29 y30 y31 y32 y33 y34 y35 y36 y37 y38 y39 y40 y41 y42 y43 y44 y45 y51 y52 y53 y54 y55 y56 y57 y58 : Value} {mm_ : Nat} {Q : Exit → Act → World → Prop} (hq : ∀ x46 x47 x48 x49 x50 x3 x4 (L : Nat → Bool) (W : World), (∀ j, j < mm_ → L j = true) → TK12 W1 w g7 qa RC L x46 x47 x48 x49 x50 x3 x4 W → Q .normal ⟨#[y0, y1, y2, x3, x4, y5, y6, y7, y8, y9, y10, y11, y12, y13, y14, y15, y16, y17, y18, y19, y20, y21, y22, y23, y24, y25, y26, y27, y28, y29, y30, y31, y32, y33, y34, y35, y36, y37, y38, y39, y40, y41, y42, y43, y44, y45, x46, x47, x48, x49, x50, y51, y52, y53, y54, y55, y56, y57, y58], []⟩ W) : ∀ L a' w', (∀ j, j < mm_ → L j = true) → ITK12 W1 w g7 qa RC y0 y1 y2 y5 y6 y7 y8 y9 y10 y11 y12 y13 y14 y15 y16 y17 y18 y19 y20 y21 y22 y23 y24 y25 y26 y27 y28 y29 y30 y31 y32 y33 y34 y35 y36 y37 y38 y39 y40 y41 y42 y43 y44 y45 y51 y52 y53 y54 y55 y56 y57 y58 L a' w' → Q .normal a' w' := by
  rintro L a W hall ⟨x46, x47, x48, x49, x50, x3, x4, rfl, h⟩
  exact hq _ _ _ _ _ _ _ _ _ hall h
theorem infC_setpl {o nw : List By} (ho : o.length = 32) (hn : nw.length = 32) (b af p l : Nat) : ((infC o nw b af 0 0).set 66 (.int .i64 (p : Int))).set 67 (.int .i64 (l : Int)) = infC o nw b af p l := by
  have hl : (o.map B8 ++ nw.map B8).length = 64 := by simp [ho, hn]
  unfold infC
  rw [List.set_append_right _ _ (by omega), List.set_append_right _ _ (by omega), hl]
  rfl
theorem readL_ends {bef aft : Nat} {p : List By} {k a hv : Nat} {l : List Pt} (h : aft ≤ hv) : readL bef aft p k a hv l = .ok (l, a) := by
  cases k with
  | zero => rfl
  | succ k => rw [readL, if_pos h]
set_option maxHeartbeats 2000000 in
theorem ctake_any (w : World) (po : Option Addr) (n pc : Nat) (p : List By) (hp : SlB w.heap.size w po n pc p) (hn : n ≤ 140737488351232) : Calls Tryd.prog 15 #[.slice po n pc] w (TkP w (readR p)) := by
  have hlen := hp.len
  obtain ⟨W0, hW0⟩ : ∃ W0, W0 = w.alloc (.cells zInf.toArray 47) := ⟨_, rfl⟩
  have hb0 : Below w.heap.size w W0 := by rw [hW0]; exact (Below.refl _ _).alloc (Nat.le_refl _) _
  have R0 : Hid (Row W0 w.heap.size 47 zInf) := by show Row _ _ _ _; rw [hW0]; exact Row.at w _ _ _ _ rfl rfl
  have B0 : Hid (Below w.heap.size w W0) := hb0
  have HP : Hid (∀ W, Below w.heap.size w W → SlB w.heap.size W po n pc p) := fun W h => hp.keep h
  have FT := ctakehead_any w.heap.size W0 po n pc p (hp.keep hb0) hn
  cases hS : startR p with
  | error eb =>
    obtain ⟨ke, be⟩ := eb
    have HX : Hid (readR p = .error (ke, be)) := by show _ = _; unfold readR; rw [hS]
    rw [hS] at FT
    clear hp hb0 hS HP
    go_enter Tryd.func15, Tryd.ntmps15
    go_wp2_with (have hz := hW0; clear hz; refine wpList_at25 hW0 ?_; clear hW0)
    refine FT.mono ?_
    rintro e w1 ⟨hb1, g1, rfl, hw1⟩
    have R1 : Hid (Row w1 w.heap.size 47 zInf ∧ Row w1 g1 52 [.int .i64 (ke : Int), .int .i64 (be : Int)] ∧ Below w.heap.size w w1) := ⟨R0.out.below hb1 R0.out.lt, hw1, B0.out.trans (hb1.mono B0.out.size)⟩
    have HZ : Hid (Row (w1.alloc (.cells zInf.toArray 47)) w1.heap.size 47 zInf) := Row.at w1 _ _ _ _ rfl rfl
    clear hb1 hw1 R0 B0 FT
    dsimp only
    go_wp2_with (first
      | (have hz := HZ; clear hz; refine wpList_store_Row rfl 47 (.tmp 5) (.tmp 14) rfl w1.heap.size 47 0 zInf zInf HZ.out (Nat.le_refl _) rfl rfl (by kernel_rfl) zInf_one ?_; intro w4 hr4 hs4; have R4 : Hid (Row w4 w.heap.size 47 zInf ∧ Row w4 g1 52 [.int .i64 (ke : Int), .int .i64 (be : Int)] ∧ Below w.heap.size w w4 ∧ g1 ≠ w.heap.size) := (by
          have k1 := R1.out.1.lt
          have k2 := R1.out.2.1.lt
          refine ⟨(R1.out.1.alloc _).but hs4 (by omega), (R1.out.2.1.alloc _).but hs4 (by omega), hs4.below (R1.out.2.2.alloc R1.out.2.2.size _) R1.out.2.2.size, fun e => ?_⟩
          subst e
          have h1 : w1.heap[w.heap.size]? = _ := R1.out.2.1
          have h2 : w1.heap[w.heap.size]? = _ := R1.out.1
          rw [h1] at h2; injection h2 with h2; injection h2 with _ h2; cases h2); clear HZ R1 hr4 hs4)
      | (have hz := R4; clear hz; refine wpList_store_Row rfl 47 (.tmp 2) (.tmp 18) rfl w.heap.size 47 0 zInf zInf R4.out.1 (Nat.le_refl _) rfl rfl (by kernel_rfl) zInf_one ?_; intro w8 hr8 hs8; have q8 := row_whole hr8 (by simp); have H8 : Hid (TkP w (readR p) (.returned (.tuple #[.agg zInf.toArray, .slice none 0 0, .pointer (some ⟨g1, 0, none⟩)])) w8) := (by rw [HX.out]; exact ⟨hs8.below R4.out.2.2.1 (Nat.le_refl _), _, rfl, R4.out.2.1.but hs8 R4.out.2.2.2⟩); clear R4 hr8 hs8))
    refine bodyPost_ret_by (results_rtt25 Tryd.results15 _ w8 w.heap.size 47 _ _ rfl q8 Tryd.underlying47 rfl (by kernel_rfl)) rfl ?_
    exact H8.out
  | ok x0 =>
    obtain ⟨q77, qo, qn, qb, qa, ql, qle⟩ := startR_ok hS
    have qbe := startR_bef hS
    obtain ⟨xo, xn, bef, aft, xl⟩ := x0
    simp only at qo qn qb qa ql qle qbe
    subst ql
    have ho32 : xo.length = 32 := by rw [qo, List.length_take, List.length_drop]; omega
    have hn32 : xn.length = 32 := by rw [qn, List.length_take, List.length_drop]; omega
    have HX : Hid (∀ l a, readL bef aft p aft 77 0 [] = .ok (l, a) → readR p = if a < n then .error (7, a) else .ok ⟨xo, xn, bef, aft, l⟩) := fun l a h => by
      unfold readR
      rw [hS]
      simp only
      rw [h, hlen]
    have HXe : Hid (∀ k b, readL bef aft p aft 77 0 [] = .error (k, b) → readR p = .error (k, b)) := fun k b h => by
      unfold readR
      rw [hS]
      simp only
      rw [h]
    rw [hS] at FT
    obtain ⟨B, off, e⟩ : ∃ B off, po = some ⟨B, off, none⟩ := by
      rcases hp.isb with h | ⟨B, off, e, _⟩
      · rw [h] at q77; simp at q77
      · exact ⟨B, off, e⟩
    subst e
    have H77 : Hid (77 ≤ n) := by show 77 ≤ n; omega
    obtain ⟨IC, hIC⟩ : ∃ IC, IC = infC xo xn bef aft 0 0 := ⟨_, rfl⟩
    have L0 : Hid (IC.length = 68) := by show _ = _; rw [hIC]; exact infC_len ho32 hn32 _ _ _ _
    have O0 : Hid (∀ v ∈ IC, v.oneCell' = true) := by show ∀ v ∈ IC, _; rw [hIC]; exact infC_one _ _ _ _ _ _
    obtain ⟨n64, n65, n66, n67⟩ := infC_num ho32 hn32 bef aft 0 0
    rw [← hIC] at n64 n65 n66 n67
    have NI : Hid (IC[64]? = some (.int .i64 (bef : Int)) ∧ IC[65]? = some (.int .i64 (aft : Int)) ∧ IC[66]? = some (.int .i64 ((0 : Nat) : Int)) ∧ IC[67]? = some (.int .i64 ((0 : Nat) : Int))) := ⟨n64, n65, n66, n67⟩
    have SPL : Hid (∀ q l : Nat, (IC.set 66 (.int .i64 (q : Int))).set 67 (.int .i64 (l : Int)) = infC xo xn bef aft q l) := fun q l => by rw [hIC]; exact infC_setpl ho32 hn32 bef aft q l
    have FT2 : Calls Tryd.prog 26 #[.slice (some ⟨B, off, none⟩) n pc] W0 fun e w' => Below W0.heap.size W0 w' ∧ e = .returned (.tuple #[.agg IC.toArray, .pointer none]) := by rw [hIC]; exact FT
    clear hp hb0 hS qo qn qb qa FT n64 n65 n66 n67 q77 hIC ho32 hn32
    go_enter Tryd.func15, Tryd.ntmps15
    go_wp2_with (have hz := hW0; clear hz; refine wpList_at25 hW0 ?_; clear hW0)
    refine FT2.mono ?_
    rintro e w1 ⟨hb1, rfl⟩
    have R1 : Hid (Row w1 w.heap.size 47 zInf ∧ Below w.heap.size w w1) := ⟨R0.out.below hb1 R0.out.lt, B0.out.trans (hb1.mono B0.out.size)⟩
    have HZ : Hid (Row (w1.alloc (.cells zInf.toArray 47)) w1.heap.size 47 zInf) := Row.at w1 _ _ _ _ rfl rfl
    clear hb1 R0 B0 FT2
    dsimp only
    go_upto_region 6 with (first
      | (have hz := HZ; clear hz; refine wpList_store_Row rfl 47 (.tmp 5) (.tmp 14) rfl w1.heap.size 47 0 zInf IC HZ.out (by rw [L0.out]; exact Nat.le_refl _) rfl rfl (by rw [L0.out]; kernel_rfl) O0.out ?_; intro w4 hr4 hs4; have R4 : Hid (Row w4 w.heap.size 47 zInf ∧ Row w4 w1.heap.size 47 IC ∧ Below w.heap.size w w4 ∧ w.heap.size < w1.heap.size) := (by
          have k1 := R1.out.1.lt
          exact ⟨(R1.out.1.alloc _).but hs4 (by omega), row_whole hr4 (by rw [L0.out]; exact Nat.le_refl _), hs4.below (R1.out.2.alloc R1.out.2.size _) R1.out.2.size, k1⟩); have c64 := R4.out.2.1.cell 64 _ NI.out.1; have c65 := R4.out.2.1.cell 65 _ NI.out.2.1; clear HZ R1 hr4 hs4))
    obtain ⟨W6, hW6⟩ : ∃ W6, W6 = w4.alloc (.cells #[.slice (some ⟨B, off, none⟩) n pc, .int .i64 77, .int .i64 (bef : Int), .int .i64 (aft : Int), .nilIface] 75) := ⟨_, rfl⟩
    have HT0 : Hid (TkW w w1.heap.size w4.heap.size IC (.slice (some ⟨B, off, none⟩) n pc) n bef aft 77 0 [] .nilIface none 0 W6) := by
      have k4 := R4.out
      have hb : Below w4.heap.size w4 W6 := by rw [hW6]; exact (Below.refl _ _).alloc (Nat.le_refl _) _
      exact ⟨k4.2.2.1.trans (hb.mono k4.2.2.1.size), k4.1.below hb k4.1.lt, k4.2.1.below hb k4.2.1.lt, by rw [hW6]; exact Row.at w4 _ _ _ _ rfl rfl, PaR.nil _ _ (Nat.le_trans k4.2.2.1.size hb.size), k4.2.2.2, k4.2.1.lt, rfl, rfl, Nat.zero_le _, H77.out, Nat.le_refl _⟩
    rw [← hW6]
    clear hW6 R4 c64 c65 H77
    generalize w1.heap.size = g5 at *
    generalize w4.heap.size = g7 at *
    go_loopw [8] (fun pv8 wr => ∃ (a hv : Nat) (l : List Pt) (av : Value) (lo : Option Addr) (lc : Nat), pv8 = .slice lo l.length lc ∧ Hid (TkW w g5 g7 IC (.slice (some ⟨B, off, none⟩) n pc) n bef aft a hv l av lo lc wr ∧ ∃ k, aft ≤ hv + k ∧ readL bef aft p aft 77 0 [] = readL bef aft p k a hv l)) (fun pv8 _ => aft - slLen pv8)
    case atStart => exact ⟨77, 0, [], .nilIface, none, 0, rfl, HT0.out, aft, by omega, rfl⟩
    case round =>
      obtain ⟨a, hv, l, av, lo, lc, rfl, HI⟩ := hrel
      have HTK : Hid (TkW w g5 g7 IC (.slice (some ⟨B, off, none⟩) n pc) n bef aft a hv l av lo lc wr) := HI.out.1
      obtain ⟨k0, hk0, hrl⟩ := HI.out.2
      have HRK : Hid (aft ≤ hv + k0 ∧ readL bef aft p aft 77 0 [] = readL bef aft p k0 a hv l) := ⟨hk0, hrl⟩
      clear hk0 hrl HI
      have hle := HTK.out.le
      by_cases hlt : hv < aft
      · have x1 : (0 : Int) < ((aft - hv : Nat) : Int) := by omega
        have x2 : 0 < aft - hv := by omega
        have c3 := HTK.out.rd.cell 3 _ rfl
        have FN := next_any w.heap.size wr g7 B off n pc a bef aft hv p l av (by have := HTK.out.n5; have := HTK.out.n7; omega) HTK.out.rd (HP.out _ HTK.out.bel) hn HTK.out.an HTK.out.ah qbe qle HTK.out.le
        cases hR : partR bef aft l p a hv with
        | error eb =>
          obtain ⟨ke, be⟩ := eb
          rw [hR] at FN
          have HE : Hid (readR p = .error (ke, be)) := by
            refine HXe.out _ _ ?_
            rw [HRK.out.2]
            have := HRK.out.1
            obtain ⟨k1, rfl⟩ : ∃ k1, k0 = k1 + 1 := ⟨k0 - 1, by omega⟩
            rw [readL, if_neg (by omega), hR]
          clear HRK hR
          go_wp2_with fail
          refine FN.mono ?_
          rintro e w2 ⟨g1, rfl, hw2, hb2⟩
          have R4 : Hid (Row w2 w.heap.size 47 zInf ∧ Row w2 g1 52 [.int .i64 (ke : Int), .int .i64 (be : Int)] ∧ Below w.heap.size w w2 ∧ g1 ≠ w.heap.size) := by
            have h2 := HTK.out.keep hb2
            refine ⟨h2.res, hw2, h2.bel, fun e => ?_⟩
            subst e
            have h3 : w2.heap[w.heap.size]? = _ := hw2
            have h4 : w2.heap[w.heap.size]? = _ := h2.res
            rw [h3] at h4; injection h4 with h4; injection h4 with _ h4; cases h4
          clear hw2 hb2 FN c3
          dsimp only
          go_wp2_with (first
            | (have hz := R4; clear hz; refine wpList_store_Row rfl 47 (.tmp 2) (.tmp 35) rfl w.heap.size 47 0 zInf zInf R4.out.1 (Nat.le_refl _) rfl rfl (by kernel_rfl) zInf_one ?_; intro w8 hr8 hs8; have q8 := row_whole hr8 (by simp); have H8 : Hid (TkP w (readR p) (.returned (.tuple #[.agg zInf.toArray, .slice none 0 0, .pointer (some ⟨g1, 0, none⟩)])) w8) := (by rw [HE.out]; exact ⟨hs8.below R4.out.2.2.1 (Nat.le_refl _), _, rfl, R4.out.2.1.but hs8 R4.out.2.2.2⟩); clear R4 hr8 hs8))
          refine bodyPost_ret_by (results_rtt25 Tryd.results15 _ w8 w.heap.size 47 _ _ rfl q8 Tryd.underlying47 rfl (by kernel_rfl)) rfl ?_
          exact H8.out
        | ok yn =>
          obtain ⟨⟨ylay, yfrm, k, yb⟩, nx⟩ := yn
          rw [hR] at FN
          have hnx := ptR_nx hR
          obtain ⟨hy1, hy2, _⟩ := partR_ok hR
          have hk1 : 1 ≤ k := hy1.pos
          have hk2 : hv + k ≤ aft := hy2
          have hcp : ylay = false → yfrm + k ≤ bef := fun e => (hy1.cpy e).2
          have HRL : Hid (∃ k', aft ≤ hv + k + k' ∧ readL bef aft p aft 77 0 [] = readL bef aft p k' nx (hv + k) (l ++ [⟨ylay, yfrm, k, yb⟩])) := by
            have := HRK.out.1
            obtain ⟨k1, rfl⟩ : ∃ k1, k0 = k1 + 1 := ⟨k0 - 1, by omega⟩
            refine ⟨k1, by omega, ?_⟩
            rw [HRK.out.2, readL, if_neg (by omega), hR]
          have HNX : Hid (nx ≤ n ∧ hv + k ≤ aft ∧ (ylay = false → yfrm + k ≤ bef) ∧ 1 ≤ k) := ⟨by show nx ≤ n; omega, hk2, hcp, hk1⟩
          clear hR hy1 hy2 hnx hcp HRK
          go_wp2_with fail
          refine FN.mono ?_
          rintro e w2 ⟨v, rfl, hv2, hrd2, hg2⟩
          have HN2 : Hid (Below w.heap.size w w2 ∧ Row w2 w.heap.size 47 zInf ∧ Row w2 g5 47 IC ∧ PaR w.heap.size w2 l lo lc) := HTK.out.next hg2
          have HM : Hid (∀ lo3 lc3 w3 vs, vs.length = l.length → (∀ (i : Nat) (y : Pt) (v : Value), l[i]? = some y → vs[i]? = some v → PaV w.heap.size w2 y v) → w3.ownsRow w.heap.size 54 1 (.slice lo3 (l.length + 1) lc3) (l.length + 1) (vs ++ [v]) → Grw w.heap.size lo lo3 w2 w3 → TkW w g5 g7 IC (.slice (some ⟨B, off, none⟩) n pc) n bef aft nx (hv + k) (l ++ [⟨ylay, yfrm, k, yb⟩]) v lo3 lc3 w3) := fun lo3 lc3 w3 vs q1 q2 q3 q4 => HTK.out.more hg2 hrd2 hv2 HNX.out.1 HNX.out.2.1 (fun e => by have := HNX.out.2.2.1 e; show yfrm + k < _; omega) HNX.out.2.2.2 q1 q2 q3 q4
          have HVV : Hid (PaV w.heap.size w2 ⟨ylay, yfrm, k, yb⟩ v) := hv2
          clear hv2 hrd2 hg2 FN c3
          dsimp only
          obtain ⟨vs, v1, v2, v3⟩ := HN2.out.2.2.2.vs
          have V1 : Hid (vs.length = l.length) := v1
          have V2 : Hid (w2.ownsRow w.heap.size 54 1 (.slice lo l.length lc) l.length vs) := v2
          have V3 : Hid (∀ (i : Nat) (y : Pt) (v : Value), l[i]? = some y → vs[i]? = some v → PaV w.heap.size w2 y v) := v3
          clear v1 v2 v3
          rcases HVV.out.eq with ⟨hlay, rfl⟩ | ⟨hlay, B2, off2, c2, rfl, _⟩
          · dsimp only at HM
            clear HVV hlay
            try dsimp only
            go_wp2_with (first
              | (have hz := V2; clear hz; at_builtin; refine wpList_append_part rfl (.tmp 37) (.tmp 39) rfl w.heap.size HN2.out.2.2.2.sz lo l.length lc vs rfl V2.out w2.heap.size rfl rfl (spV yfrm k) rfl (by have := HTK.out.ln; have := HTK.out.le; omega) ?_; intro lo3 lc3 w3 ho3 hg3; have H3 : Hid (TkW w g5 g7 IC (.slice (some ⟨B, off, none⟩) n pc) n bef aft nx (hv + k) (l ++ [⟨ylay, yfrm, k, yb⟩]) (spV yfrm k) lo3 lc3 w3) := HM.out _ _ _ _ V1.out V3.out ho3 hg3; clear ho3 hg3 V2 HM))
            refine ⟨⟨nx, hv + k, l ++ [⟨ylay, yfrm, k, yb⟩], spV yfrm k, lo3, lc3, by rw [List.length_append]; rfl, H3.out, HRL.out⟩, ?_⟩
            have h1 := HTK.out.ln
            simp only [slLen, List.length_append, List.length_cons, List.length_nil]
            omega
          · dsimp only at HM
            clear HVV hlay
            try dsimp only
            go_wp2_with (first
              | (have hz := V2; clear hz; at_builtin; refine wpList_append_part rfl (.tmp 37) (.tmp 39) rfl w.heap.size HN2.out.2.2.2.sz lo l.length lc vs rfl V2.out w2.heap.size rfl rfl (layV (some ⟨B2, off2, none⟩) k c2) rfl (by have := HTK.out.ln; have := HTK.out.le; omega) ?_; intro lo3 lc3 w3 ho3 hg3; have H3 : Hid (TkW w g5 g7 IC (.slice (some ⟨B, off, none⟩) n pc) n bef aft nx (hv + k) (l ++ [⟨ylay, yfrm, k, yb⟩]) (layV (some ⟨B2, off2, none⟩) k c2) lo3 lc3 w3) := HM.out _ _ _ _ V1.out V3.out ho3 hg3; clear ho3 hg3 V2 HM))
            refine ⟨⟨nx, hv + k, l ++ [⟨ylay, yfrm, k, yb⟩], layV (some ⟨B2, off2, none⟩) k c2, lo3, lc3, by rw [List.length_append]; rfl, H3.out, HRL.out⟩, ?_⟩
            have h1 := HTK.out.ln
            simp only [slLen, List.length_append, List.length_cons, List.length_nil]
            omega
      · have hz : aft - hv = 0 := by omega
        have c3 : wr.cell? ⟨g7, 3, none⟩ = some (.int .i64 0) := by
          have := HTK.out.rd.cell 3 _ rfl
          rw [hz] at this
          exact this
        have c1 := HTK.out.rd.cell 1 _ rfl
        have HRR0 := HX.out l a (HRK.out.2.trans (readL_ends (by omega)))
        by_cases han : a < n
        · rw [if_pos han] at HRR0
          have HRR : Hid (readR p = .error (7, a)) := HRR0
          clear HRR0
          have x1 : (a : Int) < (n : Int) := by omega
          obtain ⟨RC, hRC⟩ : ∃ RC, RC = rdC (.slice (some ⟨B, off, none⟩) n pc) a bef (aft - hv) av := ⟨_, rfl⟩
          have R1 : Hid (RC[1]? = some (.int .i64 (a : Int))) := by show _ = _; rw [hRC]; rfl
          have HS : Hid (∀ x50 x4, TrW w g7 RC a false false x50 x4 wr.drew) := fun x50 x4 => by
            have h := HTK.out
            refine ⟨h.bel.drew, h.res.drew, by rw [hRC]; exact h.rd.drew, fun e => (by cases e), fun e => (by cases e), by have := h.n5; have := h.n7; omega⟩
          clear HTK HRK hRC
          go_upto_region 12 with fail
          try dsimp only [Act.put]
          clear c1 c3
          refine wp_region_inv (ITK12 wr w g7 a RC _ _ _ _ _ _ _ _ _ _ _ _ _ _ _ _ _ _ _ _ _ _ _ _ _ _ _ _ _ _ _ _ _ _ _ _ _ _ _ _ _ _ _ _ _ _ _ _ _ _ _ _) (by kernel_rfl) (by kernel_rfl) ⟨_, _, _, _, _, _, _, rfl, ⟨HS.out _ _, fun k => (by cases k), fun k => (by cases k), fun k => (by cases k), fun k => (by cases k), fun k => (by cases k)⟩⟩ ?_ ?_
          · refine .cons ?_ (.cons ?_ (.cons ?_ (.cons ?_ (.cons ?_ (.cons ?_ (.cons ?_ (.cons ?_ .nil)))))))
            all_goals (refine TK12.step ?_; intro x46 x47 x48 x49 x50 x3 x4 L W hI hL hd K hK)
            · rw [if_pos (by rfl)]
              go_simp
              exact hK.out _ _ ⟨_, _, _, _, _, _, _, rfl, hI.s0⟩
            · rw [if_pos (by rfl)]
              go_simp
              exact hK.out _ _ ⟨_, _, _, _, _, _, _, rfl, hI.s1⟩
            · have hx1 := hI.p1 (hd 1 (by decide))
              subst hx1
              rw [if_pos (by rfl)]
              have hc := hI.x.rd.cell 1 _ R1.out
              go_simp
              exact hK.out _ _ ⟨_, _, _, _, _, _, _, rfl, hI.s2⟩
            · have hx2 := hI.p2 (hd 2 (by decide))
              subst hx2
              rw [if_pos (by rfl)]
              go_simp
              exact hK.out _ _ ⟨_, _, _, _, _, _, _, rfl, hI.s3⟩
            · have hx3 := hI.p3 (hd 3 (by decide))
              subst hx3
              rw [if_pos (by rfl)]
              go_simp
              have hX := hI.x.s4 hL
              exact hK.out _ _ ⟨_, _, _, _, _, _, _, rfl, hI.s4 hX⟩
            · have hx0 := hI.p0 (hd 0 (by decide))
              subst hx0
              refine step_store_Row rfl 47 (.tmp 2) (.tmp 46) rfl w.heap.size 47 zInf zInf hI.x.res rfl rfl rfl (by kernel_rfl) zInf_one ?_
              intro W2 hr2 hs2
              have hX := hI.x.s5 hs2 hr2
              exact hK.out _ _ ⟨_, _, _, _, _, _, _, rfl, hI.s5 hX⟩
            · rw [if_pos (by rfl)]
              go_simp
              exact hK.out _ _ ⟨_, _, _, _, _, _, _, rfl, hI.s6⟩
            · rw [if_pos (by rfl)]
              go_simp
              have hX := hI.x.s7 (hd 4 (by decide))
              exact hK.out _ _ ⟨_, _, _, _, _, _, _, rfl, hI.s7 hX⟩
          · refine TK12.ends ?_; intro x46 x47 x48 x49 x50 x3 x4 L W hall hI
            have hx0 := hI.p0 (hall 0 (by decide))
            subst hx0
            have hx1 := hI.p1 (hall 1 (by decide))
            subst hx1
            have hx2 := hI.p2 (hall 2 (by decide))
            subst hx2
            have hx3 := hI.p3 (hall 3 (by decide))
            subst hx3
            have hx6 := hI.p6 (hall 6 (by decide))
            subst hx6
            have hXe := hI.x
            rw [hall 4 (by decide)] at hXe
            rw [hall 7 (by decide)] at hXe
            clear hI hall
            try dsimp only
            obtain ⟨_, e4⟩ := hXe.p7 rfl
            subst e4
            obtain ⟨g1, u1, r1, n1⟩ := hXe.p4 rfl
            subst u1
            have q8 := hXe.res
            have H8 : Hid (TkP w (readR p) (.returned (.tuple #[.agg zInf.toArray, .slice none 0 0, .pointer (some ⟨g1, 0, none⟩)])) W) := by rw [HRR.out]; exact ⟨hXe.bel, _, rfl, r1⟩
            clear hXe r1 HS
            go_wp2
            refine bodyPost_ret_by (results_rtt25 Tryd.results15 _ W w.heap.size 47 _ _ rfl q8 Tryd.underlying47 rfl (by kernel_rfl)) rfl ?_
            exact H8.out
        · rw [if_neg han] at HRR0
          have x1 : decide ((a : Int) < (n : Int)) = false := by rw [decide_eq_false_iff_not]; omega
          have x2 : ¬ (a : Int) < (n : Int) := by omega
          have HRR : Hid (readR p = .ok ⟨xo, xn, bef, aft, l⟩) := HRR0
          clear HRR0
          have FL : Hid (Calls Tryd.prog 28 #[.slice lo l.length lc] wr fun e w' => e = .returned (.int .i64 (laidN l : Int)) ∧ Below wr.heap.size wr w') := claid_any w.heap.size wr l lo lc HTK.out.pr (by have := HTK.out.hs; omega) (by have := HTK.out.ln; omega)
          go_wp2_with fail
          refine FL.out.mono ?_
          rintro e w2 ⟨rfl, hb2⟩
          have HT2 : Hid (TkW w g5 g7 IC (.slice (some ⟨B, off, none⟩) n pc) n bef aft a hv l av lo lc w2) := HTK.out.keep hb2
          clear hb2 FL HTK c1 c3 HRK
          dsimp only
          have e66 := HT2.out.inf.cell 66 _ NI.out.2.2.1
          have e67 := HT2.out.inf.cell 67 _ NI.out.2.2.2
          have f66 := HT2.out.inf.frozen 66
          have f67 := HT2.out.inf.frozen 67
          obtain ⟨W9, hW9⟩ : ∃ W9, W9 = (w2.setCell ⟨g5, 66, none⟩ (.int .i64 (l.length : Int))).setCell ⟨g5, 67, none⟩ (.int .i64 (laidN l : Int)) := ⟨_, rfl⟩
          have H9 : Hid (Row W9 g5 47 (infC xo xn bef aft l.length (laidN l)) ∧ Row W9 w.heap.size 47 zInf ∧ Below w.heap.size w W9 ∧ PaR w.heap.size W9 l lo lc) := by
            have h := HT2.out
            have hs : SameBut g5 w2 W9 := by rw [hW9]; exact (SameBut.setCell _ _ _ _).trans (SameBut.setCell _ _ _ _)
            have hg : Grw w.heap.size (some ⟨g5, 0, none⟩) (some ⟨g5, 0, none⟩) w2 W9 := ⟨hs.below (Below.refl _ _) (Nat.le_of_lt h.n5), Nat.le_of_eq hs.size.symm, fun k _ hne => hs.block k (hne g5 rfl), .inl rfl⟩
            refine ⟨?_, h.res.but hs (by have := h.n5; omega), hs.below h.bel (Nat.le_of_lt h.n5), h.pr.grw hg (fun q e e2 => by injection e2 with e2; injection e2 with e2; subst e2; exact par_ne h.pr h.inf (by decide) e)⟩
            rw [← SPL.out, hW9]
            exact (h.inf.set 66 _).set 67 _
          have LL : Hid ((infC xo xn bef aft l.length (laidN l)).length = 68 ∧ (∀ v ∈ infC xo xn bef aft l.length (laidN l), v.oneCell' = true)) := by
            refine ⟨?_, infC_one _ _ _ _ _ _⟩
            rw [← SPL.out, List.length_set, List.length_set]; exact L0.out
          have HE : Hid (∀ W, Below w.heap.size w W → PaR w.heap.size W l lo lc → TkP w (readR p) (.returned (.tuple #[.agg (infC xo xn bef aft l.length (laidN l)).toArray, .slice lo l.length lc, .pointer none])) W) := fun W h1 h2 => by
            rw [HRR.out]
            exact ⟨h1, lo, lc, rfl, h2⟩
          generalize infC xo xn bef aft l.length (laidN l) = IC2 at *
          clear HT2
          go_wp2_with (first
            | (have hz := hW9; clear hz; refine wpList_at25 hW9 ?_; clear hW9 e66 e67 f66 f67)
            | (have hz := H9; clear hz; refine wpList_load_Row rfl 47 (.tmp 5) rfl g5 47 IC2 H9.out.1 rfl _ Tryd.underlying47 rfl (by rw [LL.out.1]; kernel_rfl) ?_)
            | (have hz := H9; clear hz; refine wpList_store_Row rfl 47 (.tmp 2) (.tmp 57) rfl w.heap.size 47 0 zInf IC2 H9.out.2.1 (by rw [LL.out.1]; exact Nat.le_refl _) rfl rfl (by rw [LL.out.1]; kernel_rfl) LL.out.2 ?_; intro w8 hr8 hs8; have q8 := row_whole hr8 (by rw [LL.out.1]; exact Nat.le_refl _); have H8 : Hid (TkP w (readR p) (.returned (.tuple #[.agg IC2.toArray, .slice lo l.length lc, .pointer none])) w8) := (by
                have hg : Grw w.heap.size (some ⟨w.heap.size, 0, none⟩) (some ⟨w.heap.size, 0, none⟩) W9 w8 := ⟨hs8.below (Below.refl _ _) (Nat.le_refl _), Nat.le_of_eq hs8.size.symm, fun k _ hne => hs8.block k (hne _ rfl), .inl rfl⟩
                exact HE.out _ (hs8.below H9.out.2.2.1 (Nat.le_refl _)) (H9.out.2.2.2.grw hg (fun q e e2 => by injection e2 with e2; injection e2 with e2; subst e2; exact par_ne H9.out.2.2.2 H9.out.2.1 (by decide) e))); clear H9 hr8 hs8))
          refine bodyPost_ret_by (results_rtt25 Tryd.results15 _ w8 w.heap.size 47 _ _ rfl q8 Tryd.underlying47 rfl (by rw [LL.out.1]; kernel_rfl)) rfl ?_
          exact H8.out
end Go.Proofs.YtdfbfheceobboaaDoor
