
import Derived.Test.YtdfbfheceobboaaDoorP25Ra
/-! The code's patch: the next part, a copy. (Printed by tools/genc25.py.) -/
namespace Go.Proofs.YtdfbfheceobboaaDoor
open Go.RowKit
set_option linter.unusedVariables false
set_option linter.unusedSimpArgs false
set_option maxRecDepth 100000

/-- While a copy is held against the part ahead. -/
structure LcW (w : World) (g G : Nat) (RC XC : List Value) (W : World) : Prop where
  bel : Below w.heap.size w W
  rd : Row W g 75 RC
  x : Row W G 66 XC
theorem LcW.keep {w : World} {g G : Nat} {RC XC : List Value} {W W2 : World} (h : LcW w g G RC XC W) (hb : Below W.heap.size W W2) : LcW w g G RC XC W2 :=
  ⟨h.bel.trans (hb.mono h.bel.size), h.rd.below hb h.rd.lt, h.x.below hb h.x.lt⟩
structure LC7 (W1 : World) (w : World) (g G f k : Nat) (av : Value) (RC : List Value) (r : Bool) (L : Nat → Bool) (x64 x65 x66 x67 x68 x69 x70 : Value) (W : World) : Prop where
  x : LcW w g G RC [.int .i64 (f : Int), .int .i64 (k : Int)] W
  p0 : L 0 = true → x64 = .pointer (some ⟨g, 0, none⟩)
  p1 : L 1 = true → x65 = .pointer (some ⟨g, 0, none⟩)
  p2 : L 2 = true → x66 = .pointer (some ⟨g, 4, none⟩)
  p3 : L 3 = true → x67 = av
  p4 : L 4 = true → x68 = .agg #[.int .i64 (f : Int), .int .i64 (k : Int)]
  p5 : L 5 = true → x69 = .iface 66 (.agg #[.int .i64 (f : Int), .int .i64 (k : Int)])
  p6 : L 6 = true → x70 = .bool r
section
variable {W1 : World} {w : World} {g G f k : Nat} {av : Value} {RC : List Value} {r : Bool} {L : Nat → Bool} {x64 x65 x66 x67 x68 x69 x70 : Value} {W W2 : World}
theorem LC7.s0 (h : LC7 W1 w g G f k av RC r L x64 x65 x66 x67 x68 x69 x70 W) : LC7 W1 w g G f k av RC r (upd L 0) (.pointer (some ⟨g, 0, none⟩)) x65 x66 x67 x68 x69 x70 W :=
  ⟨h.x, fun _ => rfl, h.p1, h.p2, h.p3, h.p4, h.p5, h.p6⟩
theorem LC7.s1 (h : LC7 W1 w g G f k av RC r L x64 x65 x66 x67 x68 x69 x70 W) : LC7 W1 w g G f k av RC r (upd L 1) x64 (.pointer (some ⟨g, 0, none⟩)) x66 x67 x68 x69 x70 W :=
  ⟨h.x, h.p0, fun _ => rfl, h.p2, h.p3, h.p4, h.p5, h.p6⟩
theorem LC7.s2 (h : LC7 W1 w g G f k av RC r L x64 x65 x66 x67 x68 x69 x70 W) : LC7 W1 w g G f k av RC r (upd L 2) x64 x65 (.pointer (some ⟨g, 4, none⟩)) x67 x68 x69 x70 W :=
  ⟨h.x, h.p0, h.p1, fun _ => rfl, h.p3, h.p4, h.p5, h.p6⟩
theorem LC7.s3 (h : LC7 W1 w g G f k av RC r L x64 x65 x66 x67 x68 x69 x70 W) : LC7 W1 w g G f k av RC r (upd L 3) x64 x65 x66 (av) x68 x69 x70 W :=
  ⟨h.x, h.p0, h.p1, h.p2, fun _ => rfl, h.p4, h.p5, h.p6⟩
theorem LC7.s4 (h : LC7 W1 w g G f k av RC r L x64 x65 x66 x67 x68 x69 x70 W) : LC7 W1 w g G f k av RC r (upd L 4) x64 x65 x66 x67 (.agg #[.int .i64 (f : Int), .int .i64 (k : Int)]) x69 x70 W :=
  ⟨h.x, h.p0, h.p1, h.p2, h.p3, fun _ => rfl, h.p5, h.p6⟩
theorem LC7.s5 (h : LC7 W1 w g G f k av RC r L x64 x65 x66 x67 x68 x69 x70 W) : LC7 W1 w g G f k av RC r (upd L 5) x64 x65 x66 x67 x68 (.iface 66 (.agg #[.int .i64 (f : Int), .int .i64 (k : Int)])) x70 W :=
  ⟨h.x, h.p0, h.p1, h.p2, h.p3, h.p4, fun _ => rfl, h.p6⟩
theorem LC7.s6 (h : LC7 W1 w g G f k av RC r L x64 x65 x66 x67 x68 x69 x70 W) (hX : LcW w g G RC [.int .i64 (f : Int), .int .i64 (k : Int)] W2) : LC7 W1 w g G f k av RC r (upd L 6) x64 x65 x66 x67 x68 x69 (.bool r) W2 :=
  ⟨hX, h.p0, h.p1, h.p2, h.p3, h.p4, h.p5, fun _ => rfl⟩
end
@[reducible] def ILC7 (W1 : World) (w : World) (g G f k : Nat) (av : Value) (RC : List Value) (r : Bool) (y0 y1 y2 y3 y4 y5 y6 y7 y8 y9 y10 y11 y12 y13 y14 y15 y16 y17 y18 y19 y20 y21 y22 y23 y24 y25 y26 y27 y28 y29 y30 y31 y32 y33 y34 y35 y36 y37 y38 y39 y40 y41 y42 y43 y44 y45 y46 y47 y48 y49 y50 y51 y52 y53 y54 y55 y56 y57 y58 y59 y60 y61 y62 y63 y71 y72 y73 y74 : Value) : (Nat → Bool) → Act → World → Prop := fun L a W => ∃ x64 x65 x66 x67 x68 x69 x70, a = ⟨#[y0, y1, y2, y3, y4, y5, y6, y7, y8, y9, y10, y11, y12, y13, y14, y15, y16, y17, y18, y19, y20, y21, y22, y23, y24, y25, y26, y27, y28, y29, y30, y31, y32, y33, y34, y35, y36, y37, y38, y39, y40, y41, y42, y43, y44, y45, y46, y47, y48, y49, y50, y51, y52, y53, y54, y55, y56, y57, y58, y59, y60, y61, y62, y63, x64, x65, x66, x67, x68, x69, x70, y71, y72, y73, y74], []⟩ ∧ LC7 W1 w g G f k av RC r L x64 x65 x66 x67 x68 x69 x70 W
theorem LC7.step {W1 : World} {w : World} {g G f k : Nat} {av : Value} {RC : List Value} {r : Bool} {y0 y1 y2 y3 y4 y5 y6 y7 y8 y9 y10 y11 y12 y13 y14 y15 y16 y17 y18 y19 y20 y21 y22 y23 y24 y25 y26 y27 y28 y29 y30 y31 y32 y33 y34 y35 y36 y37 y38 y39 y40 y41 y42 y43 y44 y45 y46 y47 y48 y49 y50 y51 y52 y53 y54 y55 y56 y57 y58 y59 y60 y61 y62 y63 y71 y72 y73 y74 : Value} {P : Program} {ops : Array Oper} {Q : Exit → Act → World → Prop} {i : Nat} {o : Oper} (hq : ∀ x64 x65 x66 x67 x68 x69 x70 (L : Nat → Bool) (W : World), LC7 W1 w g G f k av RC r L x64 x65 x66 x67 x68 x69 x70 W → L i = false → (∀ j ∈ onesOf o, L j = true) → ∀ K : Act → World → Prop, Shut (∀ a' w', ILC7 W1 w g G f k av RC r y0 y1 y2 y3 y4 y5 y6 y7 y8 y9 y10 y11 y12 y13 y14 y15 y16 y17 y18 y19 y20 y21 y22 y23 y24 y25 y26 y27 y28 y29 y30 y31 y32 y33 y34 y35 y36 y37 y38 y39 y40 y41 y42 y43 y44 y45 y46 y47 y48 y49 y50 y51 y52 y53 y54 y55 y56 y57 y58 y59 y60 y61 y62 y63 y71 y72 y73 y74 (upd L i) a' w' → K a' w') → if Region.wanted o (yielded ops (⟨#[y0, y1, y2, y3, y4, y5, y6, y7, y8, y9, y10, y11, y12, y13, y14, y15, y16, y17, y18, y19, y20, y21, y22, y23, y24, y25, y26, y27, y28, y29, y30, y31, y32, y33, y34, y35, y36, y37, y38, y39, y40, y41, y42, y43, y44, y45, y46, y47, y48, y49, y50, y51, y52, y53, y54, y55, y56, y57, y58, y59, y60, y61, y62, y63, x64, x65, x66, x67, x68, x69, x70, y71, y72, y73, y74], []⟩ : Act).tmps) = true then Oper.wp P o ⟨#[y0, y1, y2, y3, y4, y5, y6, y7, y8, y9, y10, y11, y12, y13, y14, y15, y16, y17, y18, y19, y20, y21, y22, y23, y24, y25, y26, y27, y28, y29, y30, y31, y32, y33, y34, y35, y36, y37, y38, y39, y40, y41, y42, y43, y44, y45, y46, y47, y48, y49, y50, y51, y52, y53, y54, y55, y56, y57, y58, y59, y60, y61, y62, y63, x64, x65, x66, x67, x68, x69, x70, y71, y72, y73, y74], []⟩ W K Q else K ((⟨#[y0, y1, y2, y3, y4, y5, y6, y7, y8, y9, y10, y11, y12, y13, y14, y15, y16, y17, y18, y19, y20, y21, y22, y23, y24, y25, y26, y27, y28, y29, y30, y31, y32, y33, y34, y35, y36, y37, y38, y39, y40, y41, y42, y43, y44, y45, y46, y47, y48, y49, y50, y51, y52, y53, y54, y55, y56, y57, y58, y59, y60, y61, y62, y63, x64, x65, x66, x67, x68, x69, x70, y71, y72, y73, y74], []⟩ : Act).put o.dst undef) W) : StepI P ops (ILC7 W1 w g G f k av RC r y0 y1 y2 y3 y4 y5 y6 y7 y8 y9 y10 y11 y12 y13 y14 y15 y16 y17 y18 y19 y20 y21 y22 y23 y24 y25 y26 y27 y28 y29 y30 y31 y32 y33 y34 y35 y36 y37 y38 y39 y40 y41 y42 y43 y44 y45 y46 y47 y48 y49 y50 y51 y52 y53 y54 y55 y56 y57 y58 y59 y60 y61 y62 y63 y71 y72 y73 y74) Q i o := by
  rintro L a W ⟨x64, x65, x66, x67, x68, x69, x70, rfl, h⟩
  exact hq _ _ _ _ _ _ _ _ _ h
theorem LC7.ends {W1 : World} {w : World} {g G f k : Nat} {av : Value} {RC : List Value} {r : Bool} {y0 y1 y2 y3 y4 y5 y6 y7 y8 y9 y10 y11 y12 y13 y14 y15 y16 y17 y18 y19 y20 y21 y22 y23 y24 y25 y26 y27 y28 y29 y30 y31 y32 y33 y34 y35 y36 y37 y38 y39 y40 y41 y42 y43 y44 y45 y46 y47 y48 y49 y50 y51 y52 y53 y54 y55 y56 y57 y58 y59 y60 y61 y62 y63 y71 y72 y73 y74 : Value} {mm_ : Nat} {Q : Exit → Act → World → Prop} (hq : ∀ x64 x65 x66 x67 x68 x69 x70 (L : Nat → Bool) (W : World), (∀ j, j < mm_ → L j = true) → LC7 W1 w g G f k av RC r L x64 x65 x66 x67 x68 x69 x70 W → Q .normal ⟨#[y0, y1, y2, y3, y4, y5, y6, y7, y8, y9, y10, y11, y12, y13, y14, y15, y16, y17, y18, y19, y20, y21, y22, y23, y24, y25, y26, y27, y28, y29, y30, y31, y32, y33, y34, y35, y36, y37, y38, y39, y40, y41, y42, y43, y44, y45, y46, y47, y48, y49, y50, y51, y52, y53, y54, y55, y56, y57, y58, y59, y60, y61, y62, y63, x64, x65, x66, x67, x68, x69, x70, y71, y72, y73, y74], []⟩ W) : ∀ L a' w', (∀ j, j < mm_ → L j = true) → ILC7 W1 w g G f k av RC r y0 y1 y2 y3 y4 y5 y6 y7 y8 y9 y10 y11 y12 y13 y14 y15 y16 y17 y18 y19 y20 y21 y22 y23 y24 y25 y26 y27 y28 y29 y30 y31 y32 y33 y34 y35 y36 y37 y38 y39 y40 y41 y42 y43 y44 y45 y46 y47 y48 y49 y50 y51 y52 y53 y54 y55 y56 y57 y58 y59 y60 y61 y62 y63 y71 y72 y73 y74 L a' w' → Q .normal a' w' := by
  rintro L a W hall ⟨x64, x65, x66, x67, x68, x69, x70, rfl, h⟩
  exact hq _ _ _ _ _ _ _ _ _ hall h
set_option maxHeartbeats 4000000 in
theorem lkcopy_any (N : Nat) (w : World) (g B off n pc a bef aft hv : Nat) (p : List By) (l : List Pt) (av : Value) (hr : Row w g 75 (rdC (.slice (some ⟨B, off, none⟩) n pc) a bef (aft - hv) av)) (hp : SlB N w (some ⟨B, off, none⟩) n pc p) (hn : n ≤ 140737488351232) (ha : a < n) (h1 : (p.getD a 0).toNat = 1) (hah : AhV l av) (hbef : bef ≤ 524288) (haft : aft ≤ 524288) (hhv : hv ≤ aft) :
    Calls Tryd.prog 50 #[.pointer (some ⟨g, 0, none⟩)] w (LkP N w a (partR bef aft l p a hv)) := by
  have hlen := hp.len
  have hpR := ptR_copy (bef := bef) (aft := aft) (l := l) (hv := hv) (a := a) (p := p) (by omega) h1
  rw [hlen] at hpR
  have c0 := hr.cell 0 _ rfl
  have c1 := hr.cell 1 _ rfl
  have HR : Hid (∀ W, Dr w W → Row W g 75 (rdC (.slice (some ⟨B, off, none⟩) n pc) a bef (aft - hv) av)) := fun W h => hr.dr h
  have z0 : IntKind.i64.wrap ((n : Int) - (a : Int)) = ((n - a : Nat) : Int) := by rw [i64_in _ (by omega) (by omega)]; omega
  by_cases hA : n < a + 9
  · rw [if_pos hA] at hpR
    have x1 : ((n - a : Nat) : Int) < 9 := by omega
    have Fsq : Hid (∀ W, Dr w W → Calls Tryd.prog 49 #[.pointer (some ⟨g, 0, none⟩)] W (WrgP W 6 n)) := fun W h => cshort_any W g _ n pc a bef _ av (hr.dr h)
    have HE : Hid (∀ W W' g', Dr w W → Below W.heap.size W W' → Row W' g' 52 [.int .i64 ((6 : Nat) : Int), .int .i64 (n : Int)] → LkP N w a (partR bef aft l p a hv) (.returned (.tuple #[.nilIface, .int .i64 0, .pointer (some ⟨g', 0, none⟩)])) W') := fun W W' g' hd hb hw => by
      rw [hpR]
      obtain ⟨k, rfl⟩ := hd
      exact ⟨(Below_drewN (Below.refl _ _) k).trans hb, g', rfl, hw⟩
    clear hpR hr hp hah HR
    generalize partR bef aft l p a hv = R at *
    generalize n - a = d at *
    go_enter Tryd.func50, Tryd.ntmps50
    go_wp2
    go_quiet (fail)
    go_wp2_with fail
    refine (Fsq.out _ ⟨_, rfl⟩).mono ?_
    rintro e w2 ⟨g', rfl, hw2, hb2⟩
    dsimp only
    have H2 := HE.out _ w2 g' ⟨_, rfl⟩ hb2 hw2
    have H2 : Hid (LkP N w a R (.returned (.tuple #[.nilIface, .int .i64 0, .pointer (some ⟨g', 0, none⟩)])) w2) := H2
    clear hw2 hb2
    go_wp2
    go_ret3
    exact H2.out
  · rw [if_neg hA] at hpR
    have x1 : decide (((n - a : Nat) : Int) < 9) = false := by rw [decide_eq_false_iff_not]; omega
    have hcap := hp.cap
    obtain ⟨nn, hnn⟩ : ∃ nn : Nat → Nat, nn = fun j => num4 (p.drop j) := ⟨_, rfl⟩
    have F1 : Hid (∀ W j, Dr w W → j + 4 ≤ n → Calls Tryd.prog 48 #[.slice (some ⟨B, off, none⟩) n pc, .int .i64 (j : Int)] W fun e w' => e = .returned (.int .u64 (nn j : Int)) ∧ w' = W) := fun W j h hj => by rw [hnn]; exact cnum_any B off n pc p j W hlen hj hcap hn (hp.isb.below (Below_dr (Below.refl _ _) h) (Nat.le_refl _))
    have en1 : nn (a + 1) = num4 (p.drop (a + 1)) := by rw [hnn]
    have en5 : nn (a + 5) = num4 (p.drop (a + 5)) := by rw [hnn]
    have l1 : a + 1 + 4 ≤ n := by omega
    have l5 : a + 5 + 4 ≤ n := by omega
    clear hnn
    have hf := num4_lt (p.drop (a + 1))
    have hk := num4_lt (p.drop (a + 5))
    have z1 : IntKind.i64.wrap ((a : Int) + 1) = ((a + 1 : Nat) : Int) := by rw [i64_in _ (by omega) (by omega)]; push_cast; rfl
    have z2 : IntKind.i64.wrap (((a + 1 : Nat) : Int) + 4) = ((a + 5 : Nat) : Int) := by rw [i64_in _ (by omega) (by omega)]; push_cast; omega
    generalize num4 (p.drop (a + 1)) = f at *
    generalize num4 (p.drop (a + 5)) = k at *
    have FF : Hid (∀ W, Dr w W → Calls Tryd.prog 61 #[.pointer (some ⟨g, 0, none⟩), .int .u64 (k : Int)] W fun e w' => e = .returned (.bool (decide (1 ≤ k ∧ k ≤ aft - hv))) ∧ w' = W) := fun W h => cfits_any W g _ a bef _ k av (by omega) hk (hr.dr h)
    have FO : Hid (∀ W, Below w.heap.size w W → Row W g 75 (rdC (.slice (some ⟨B, off, none⟩) n pc) a bef (aft - hv) av) → Calls Tryd.prog 52 #[.pointer (some ⟨g, 0, none⟩)] W (WrgP W 5 a)) := fun W h hrW => cform_any W g _ a bef _ av hrW
    have zf : IntKind.u64.wrap ((f : Int) + (k : Int)) = ((f + k : Nat) : Int) := by rw [wrapU64]; push_cast; omega
    have zb : IntKind.u64.wrap (bef : Int) = (bef : Int) := by rw [wrapU64]; omega
    have HBx : Hid (∀ W, Dr w W → Below w.heap.size w W) := fun W h => Below_dr (Below.refl _ _) h
    by_cases hB : 1 ≤ k ∧ k ≤ aft - hv
    · have q1 : Hid (decide (1 ≤ k ∧ k ≤ aft - hv) = true) := by show _ = _; rw [decide_eq_true_iff]; exact hB
      have FF : Hid (∀ W, Dr w W → Calls Tryd.prog 61 #[.pointer (some ⟨g, 0, none⟩), .int .u64 (k : Int)] W fun e w' => e = .returned (.bool true) ∧ w' = W) := fun W h => by rw [← q1.out]; exact FF.out W h
      by_cases hC : bef < f + k
      · rw [if_pos (.inr (.inr (.inl hC)))] at hpR
        have x2 : decide ((bef : Int) < ((f + k : Nat) : Int)) = true := by rw [decide_eq_true_iff]; omega
        have x3 : (bef : Int) < ((f + k : Nat) : Int) := by omega
        have HE : Hid (∀ W W' g', Below w.heap.size w W → Below W.heap.size W W' → Row W' g' 52 [.int .i64 ((5 : Nat) : Int), .int .i64 (a : Int)] → LkP N w a (partR bef aft l p a hv) (.returned (.tuple #[.nilIface, .int .i64 0, .pointer (some ⟨g', 0, none⟩)])) W') := fun W W' g' hd hb hw => by
          rw [hpR]
          exact ⟨hd.trans (hb.mono hd.size), g', rfl, hw⟩
        clear hpR hr hp hah
        generalize partR bef aft l p a hv = R at *
        generalize n - a = d at *
        generalize a + 1 = a1 at *
        generalize a + 5 = a5 at *
        generalize f + k = fk at *
        go_enter Tryd.func50, Tryd.ntmps50
        go_wp2
        go_quiet (fail)
        have HD1 : Hid (Dr w (w.drewN nq)) := ⟨nq, rfl⟩
        generalize w.drewN nq = W1 at *
        clear c0 c1
        have r1 := HR.out W1 HD1.out
        have d0 := r1.cell 0 _ rfl
        have d1 := r1.cell 1 _ rfl
        clear r1
        go_wp2
        go_quiet (first | (go_at_call 48; exact Calls.quiet_of_same (F1.out _ _ (HD1.out.drewN _) (by omega))))
        have HD2 : Hid (Dr w (W1.drewN nq)) := HD1.out.drewN nq
        generalize W1.drewN nq = W2 at *
        clear d0 d1
        have r2 := HR.out W2 HD2.out
        have c2 := r2.cell 2 _ rfl
        clear r2 F1 l1 l5
        go_wp2_with fail
        refine (FF.out _ HD2.out).mono ?_
        rintro e w2 ⟨rfl, hw2⟩
        subst hw2
        dsimp only
        go_wp2_with fail
        refine (FO.out _ (HBx.out _ HD2.out) (HR.out _ HD2.out)).mono ?_
        rintro e w3 ⟨g', rfl, hw2, hb2⟩
        dsimp only
        have H2 := HE.out _ w3 g' (HBx.out _ HD2.out) hb2 hw2
        have H2 : Hid (LkP N w a R (.returned (.tuple #[.nilIface, .int .i64 0, .pointer (some ⟨g', 0, none⟩)])) w3) := H2
        clear hw2 hb2
        go_wp2
        go_ret3
        exact H2.out
      · have x2 : decide ((bef : Int) < ((f + k : Nat) : Int)) = false := by rw [decide_eq_false_iff_not]; omega
        have zf2 : IntKind.i64.wrap (f : Int) = (f : Int) := i64_in _ (by omega) (by omega)
        have zk2 : IntKind.i64.wrap (k : Int) = (k : Int) := i64_in _ (by omega) (by omega)
        obtain ⟨r, hrr⟩ : ∃ r, r = !behB l false f := ⟨_, rfl⟩
        have FG : Hid (∀ W, Calls Tryd.prog 41 #[av, spV f k] W fun e w' => e = .returned (.bool r) ∧ Below W.heap.size W w') := fun W => by rw [hrr]; exact goes_sp l av hah f k (by omega) W
        have HE1 : Hid (r = true → ∀ W W' g', Below w.heap.size w W → Below W.heap.size W W' → Row W' g' 52 [.int .i64 ((5 : Nat) : Int), .int .i64 (a : Int)] → LkP N w a (partR bef aft l p a hv) (.returned (.tuple #[.nilIface, .int .i64 0, .pointer (some ⟨g', 0, none⟩)])) W') := fun hr1 W W' g' hd hb hw => by
          rw [hpR, if_pos (.inr (.inr (.inr (by rw [hr1] at hrr; simpa using hrr.symm))))]
          exact ⟨hd.trans (hb.mono hd.size), g', rfl, hw⟩
        have HE2 : Hid (r = false → ∀ W, Below w.heap.size w W → LkP N w a (partR bef aft l p a hv) (.returned (.tuple #[spV f k, .int .i64 9, .pointer none])) W) := fun hr1 W hd => by
          have hbe : behB l false f = true := by rw [hr1] at hrr; simpa using hrr.symm
          rw [hpR, if_neg (by rw [hbe]; simp only [not_or]; exact ⟨by omega, by omega, hC, by simp⟩)]
          exact ⟨hd, spV f k, by rw [show a + 9 - a = 9 by omega]; rfl, ⟨.inl ⟨rfl, rfl⟩⟩⟩
        clear hpR hr hp hah hrr
        generalize partR bef aft l p a hv = R at *
        generalize n - a = d at *
        generalize a + 1 = a1 at *
        generalize a + 5 = a5 at *
        generalize f + k = fk at *
        go_enter Tryd.func50, Tryd.ntmps50
        go_wp2
        go_quiet (fail)
        have HD1 : Hid (Dr w (w.drewN nq)) := ⟨nq, rfl⟩
        generalize w.drewN nq = W1 at *
        clear c0 c1
        have r1 := HR.out W1 HD1.out
        have d0 := r1.cell 0 _ rfl
        have d1 := r1.cell 1 _ rfl
        clear r1
        go_wp2
        go_quiet (first | (go_at_call 48; exact Calls.quiet_of_same (F1.out _ _ (HD1.out.drewN _) (by omega))))
        have HD2 : Hid (Dr w (W1.drewN nq)) := HD1.out.drewN nq
        generalize W1.drewN nq = W2 at *
        clear d0 d1
        have r2 := HR.out W2 HD2.out
        have c2 := r2.cell 2 _ rfl
        clear r2 F1 l1 l5
        go_wp2_with fail
        refine (FF.out _ HD2.out).mono ?_
        rintro e w2 ⟨rfl, hw2⟩
        subst hw2
        dsimp only
        obtain ⟨W3, hW3⟩ : ∃ W3, W3 = w2.alloc (.cells #[.int .i64 (f : Int), .int .i64 (k : Int)] 66) := ⟨_, rfl⟩
        have HS : Hid (LcW w g w2.heap.size (rdC (.slice (some ⟨B, off, none⟩) n pc) a bef (aft - hv) av) [.int .i64 (f : Int), .int .i64 (k : Int)] W3.drew) := by
          have hb : Below w2.heap.size w2 W3 := by rw [hW3]; exact (Below.refl _ _).alloc (Nat.le_refl _) _
          have h2 := HBx.out _ HD2.out
          have r2 := HR.out _ HD2.out
          exact ⟨(h2.trans (hb.mono h2.size)).drew, (r2.below hb r2.lt).drew, by rw [hW3]; exact (Row.at w2 _ _ _ _ rfl rfl).drew⟩
        go_upto_region 7 with fail
        rw [← hW3, en1, en5]
        clear en1 en5
        generalize w2.heap.size = G at *
        clear hW3 c2 HBx HR HD1 HD2 FF
        generalize hRC : rdC (.slice (some ⟨B, off, none⟩) n pc) a bef (aft - hv) av = RC at *
        have R4 : Hid (RC[4]? = some av) := by show _ = _; rw [← hRC]; rfl
        have FO : Hid (∀ W, Below w.heap.size w W → Row W g 75 RC → Calls Tryd.prog 52 #[.pointer (some ⟨g, 0, none⟩)] W (WrgP W 5 a)) := FO
        clear hRC
        refine wp_region_inv (ILC7 W3 w g G f k av RC r _ _ _ _ _ _ _ _ _ _ _ _ _ _ _ _ _ _ _ _ _ _ _ _ _ _ _ _ _ _ _ _ _ _ _ _ _ _ _ _ _ _ _ _ _ _ _ _ _ _ _ _ _ _ _ _ _ _ _ _ _ _ _ _ _ _ _ _) (by kernel_rfl) (by kernel_rfl) ⟨_, _, _, _, _, _, _, rfl, ⟨HS.out, fun k => (by cases k), fun k => (by cases k), fun k => (by cases k), fun k => (by cases k), fun k => (by cases k), fun k => (by cases k), fun k => (by cases k)⟩⟩ ?_ ?_
        · refine .cons ?_ (.cons ?_ (.cons ?_ (.cons ?_ (.cons ?_ (.cons ?_ (.cons ?_ .nil))))))
          all_goals (refine LC7.step ?_; intro x64 x65 x66 x67 x68 x69 x70 L W hI hL hd K hK)
          · rw [if_pos (by rfl)]
            go_simp
            exact hK.out _ _ ⟨_, _, _, _, _, _, _, rfl, hI.s0⟩
          · have hx0 := hI.p0 (hd 0 (by decide))
            subst hx0
            rw [if_pos (by rfl)]
            go_simp
            exact hK.out _ _ ⟨_, _, _, _, _, _, _, rfl, hI.s1⟩
          · have hx1 := hI.p1 (hd 1 (by decide))
            subst hx1
            rw [if_pos (by rfl)]
            go_simp
            exact hK.out _ _ ⟨_, _, _, _, _, _, _, rfl, hI.s2⟩
          · have hx2 := hI.p2 (hd 2 (by decide))
            subst hx2
            rw [if_pos (by rfl)]
            have hc := hI.x.rd.cell 4 _ R4.out
            go_simp
            exact hK.out _ _ ⟨_, _, _, _, _, _, _, rfl, hI.s3⟩
          · rw [if_pos (by rfl)]
            have hc := hI.x.x.cell 0 _ rfl
            have hc1 := hI.x.x.cell 1 _ rfl
            go_simp
            exact hK.out _ _ ⟨_, _, _, _, _, _, _, rfl, hI.s4⟩
          · have hx4 := hI.p4 (hd 4 (by decide))
            subst hx4
            rw [if_pos (by rfl)]
            go_simp
            exact hK.out _ _ ⟨_, _, _, _, _, _, _, rfl, hI.s5⟩
          · have hx3 := hI.p3 (hd 3 (by decide))
            subst hx3
            have hx5 := hI.p5 (hd 5 (by decide))
            subst hx5
            rw [if_pos (by rfl)]
            go_simp
            refine (FG.out W).mono ?_
            rintro e W2 ⟨rfl, hb2⟩
            go_simp
            have hX := hI.x.keep hb2
            exact hK.out _ _ ⟨_, _, _, _, _, _, _, rfl, hI.s6 hX⟩
        · refine LC7.ends ?_; intro x64 x65 x66 x67 x68 x69 x70 L W hall hI
          have hx0 := hI.p0 (hall 0 (by decide))
          subst hx0
          have hx1 := hI.p1 (hall 1 (by decide))
          subst hx1
          have hx2 := hI.p2 (hall 2 (by decide))
          subst hx2
          have hx3 := hI.p3 (hall 3 (by decide))
          subst hx3
          have hx4 := hI.p4 (hall 4 (by decide))
          subst hx4
          have hx5 := hI.p5 (hall 5 (by decide))
          subst hx5
          have hx6 := hI.p6 (hall 6 (by decide))
          subst hx6
          have hXe := hI.x
          clear hI hall
          try dsimp only
          cases r with
          | true =>
            have HX : Hid (LcW w g G RC [.int .i64 (f : Int), .int .i64 (k : Int)] W) := hXe
            clear hXe
            go_wp2_with fail
            refine (FO.out _ HX.out.bel HX.out.rd).mono ?_
            rintro e w3 ⟨g', rfl, hw2, hb2⟩
            dsimp only
            have H2 := HE1.out (by first | rfl | trivial) _ w3 g' HX.out.bel hb2 hw2
            have H2 : Hid (LkP N w a R (.returned (.tuple #[.nilIface, .int .i64 0, .pointer (some ⟨g', 0, none⟩)])) w3) := H2
            clear hw2 hb2
            go_wp2
            go_ret3
            exact H2.out
          | false =>
            have x0 := hXe.x.cell 0 _ rfl
            have x1 := hXe.x.cell 1 _ rfl
            have H2 := HE2.out (by first | rfl | trivial) _ hXe.bel
            have H2 : Hid (LkP N w a R (.returned (.tuple #[spV f k, .int .i64 9, .pointer none])) W) := H2
            clear hXe
            go_wp2
            go_ret3
            exact H2.out
    · rw [if_pos (by omega)] at hpR
      have FF : Hid (∀ W, Dr w W → Calls Tryd.prog 61 #[.pointer (some ⟨g, 0, none⟩), .int .u64 (k : Int)] W fun e w' => e = .returned (.bool false) ∧ w' = W) := fun W h => by
        have q1 : decide (1 ≤ k ∧ k ≤ aft - hv) = false := by rw [decide_eq_false_iff_not]; exact hB
        rw [← q1]; exact FF.out W h
      have HE : Hid (∀ W W' g', Below w.heap.size w W → Below W.heap.size W W' → Row W' g' 52 [.int .i64 ((5 : Nat) : Int), .int .i64 (a : Int)] → LkP N w a (partR bef aft l p a hv) (.returned (.tuple #[.nilIface, .int .i64 0, .pointer (some ⟨g', 0, none⟩)])) W') := fun W W' g' hd hb hw => by
        rw [hpR]
        exact ⟨hd.trans (hb.mono hd.size), g', rfl, hw⟩
      clear hpR hr hp hah
      generalize partR bef aft l p a hv = R at *
      generalize n - a = d at *
      generalize a + 1 = a1 at *
      generalize a + 5 = a5 at *
      generalize f + k = fk at *
      go_enter Tryd.func50, Tryd.ntmps50
      go_wp2
      go_quiet (fail)
      have HD1 : Hid (Dr w (w.drewN nq)) := ⟨nq, rfl⟩
      generalize w.drewN nq = W1 at *
      clear c0 c1
      have r1 := HR.out W1 HD1.out
      have d0 := r1.cell 0 _ rfl
      have d1 := r1.cell 1 _ rfl
      clear r1
      go_wp2
      go_quiet (first | (go_at_call 48; exact Calls.quiet_of_same (F1.out _ _ (HD1.out.drewN _) (by omega))))
      have HD2 : Hid (Dr w (W1.drewN nq)) := HD1.out.drewN nq
      generalize W1.drewN nq = W2 at *
      clear d0 d1
      have r2 := HR.out W2 HD2.out
      have c2 := r2.cell 2 _ rfl
      clear r2 F1 l1 l5
      go_wp2_with fail
      refine (FF.out _ HD2.out).mono ?_
      rintro e w2 ⟨rfl, hw2⟩
      subst hw2
      dsimp only
      go_wp2_with fail
      refine (FO.out _ (HBx.out _ HD2.out) (HR.out _ HD2.out)).mono ?_
      rintro e w3 ⟨g', rfl, hw2, hb2⟩
      dsimp only
      have H2 := HE.out _ w3 g' (HBx.out _ HD2.out) hb2 hw2
      have H2 : Hid (LkP N w a R (.returned (.tuple #[.nilIface, .int .i64 0, .pointer (some ⟨g', 0, none⟩)])) w3) := H2
      clear hw2 hb2
      go_wp2
      go_ret3
      exact H2.out
end Go.Proofs.YtdfbfheceobboaaDoor
