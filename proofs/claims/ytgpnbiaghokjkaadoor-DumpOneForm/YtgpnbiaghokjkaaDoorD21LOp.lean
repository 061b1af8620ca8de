import Derived.Test.YtgpnbiaghokjkaaDoorD21LRe
/-! Layer 21: DumpOneForm of texts however long, of any code that keeps its contracts and parses such texts. (Printed by tools/genlaw21.py out of D21LOp.in.) -/
namespace Go.Proofs.YtgpnbiaghokjkaaDoor
open Go.RowKit
set_option linter.unusedVariables false
set_option linter.unusedSimpArgs false
set_option maxRecDepth 100000

set_option maxHeartbeats 8000000 in
theorem l21oneform_all (DM : Dmp) (PA : ∀ (T : List By) (W : World), T.length ≤ 140737488355328 → Calls Tryd.prog 12 #[.string (strOf T)] W (ParP T W)) (T : List By) (hT : T.length ≤ 140737488355328) (w : World) (hq : Tab w) :
    Calls Tryd.prog 7 #[.string (strOf T)] w fun e w' => e = .returned (.bool true) ∧ Below w.heap.size w w' := by
  have HAW : Hid (∀ W : World, Tab W → Calls Tryd.prog 9 #[] W fun e w' => e = .returned (.bool true) ∧ Below W.heap.size W w') := fun W hW => l21awake_any DM W hW
  have HQ : Hid (∀ W, Below w.heap.size w W → Tab W) := fun W hW => hq.on hW (Nat.le_refl _)
  clear hq
  have HCP : Hid (∀ W : World, Calls Tryd.prog 12 #[.string (strOf T)] W (ParP T W)) := fun W => PA T W hT
  have slen : ∀ W : World, (Builtin.len_ #[9] 3 #[.string (strOf T)]).run Tryd.prog W = .ok (goInt T.length) W := fun W => str_len T 3 W
  unfold ParP at HCP
  cases hpl : parseL T with
  | error q =>
    obtain ⟨k, l⟩ := q
    rw [parseR_err hpl] at HCP
    dsimp only at HCP
    obtain ⟨hk, hl1, hl2⟩ := parse_line hpl
    have hk1 : (k != 0) = true := by rw [bne_iff_ne]; omega
    have hk0 : ¬ k = 0 := by omega
    have HSM : Hid (∀ (W : World) (va : SV), StV W va st0 → Calls Tryd.prog 14 #[.agg (va.vals st0).toArray, .agg #[.slice none 0 0, .slice none 0 0, .slice none 0 0]] W fun e w' => e = .returned (.bool true) ∧ Below W.heap.size W w') := fun W va h1 => r21same_any va sv0 st0 st0 W h1 (stv0 W) ⟨by simp, by simp, by simp, fun p hp => by cases hp⟩ ⟨by simp, by simp, by simp, fun p hp => by cases hp⟩ true (by simp)
    have z1 : (1 : Int) ≤ (l : Int) := by omega
    have z2 : IntKind.i64.wrap ((T.length : Int) + 1) = (T.length : Int) + 1 := i64_in _ (by omega) (by omega)
    have z3 : (l : Int) ≤ (T.length : Int) + 1 := by omega
    have z4 : decide ((l : Int) ≤ (T.length : Int) + 1) = true := decide_eq_true z3
    have z5 : decide (l ≤ T.length + 1) = true := decide_eq_true hl2
    have z6 : decide (1 ≤ l) = true := decide_eq_true hl1
    generalize strOf T = ST at *
    clear hpl hk
    go_enter Tryd.func7, Tryd.ntmps7
    go_wp2_with fail
    refine (HAW.out _ (HQ.out _ (Below.refl _ _))).mono ?_
    rintro e w0 ⟨rfl, hb0⟩
    have HB0 : Hid (Below w.heap.size w w0) := hb0
    clear hb0
    dsimp only
    go_wp2_with fail
    refine (HCP.out _).mono ?_
    rintro e w1 ⟨v1, rfl, hv1, hb1⟩
    have HV1 : Hid (∀ W, Below w1.heap.size w1 W → StV W v1 st0) := fun W hW => hv1.below hW (Nat.le_refl _)
    have HB1 : Hid (Below w.heap.size w w1) := HB0.out.trans (hb1.mono HB0.out.size)
    clear hv1 hb1 HCP HB0
    unfold Tells4
    dsimp only
    have lc := cfg_len cfg0
    have oc := cfg_one cfg0
    have ls := sv_len v1 st0
    have os := sv_one v1 st0
    have zc : ∀ o : Obj, Row ((w1.alloc (.cells #[.int .i64 0, .int .i64 0, .int .i64 0, .int .i64 0, .int .i64 0, .int .i64 0, .int .i64 0] 24)).alloc o) w1.heap.size 24 ([.int .i64 0, .int .i64 0, .int .i64 0, .int .i64 0, .int .i64 0, .int .i64 0, .int .i64 0] : List Value) := fun o => (Row.at _ _ _ _ _ rfl rfl).alloc _
    have zs : ∀ o : Obj, Row ((w1.alloc o).alloc (.cells #[.slice none 0 0, .slice none 0 0, .slice none 0 0] 29)) (w1.heap.size + 1) 29 [nilS, nilS, nilS] := fun o => Row.at _ _ _ _ _ (by simp) rfl
    have zb : ∀ o o2 : Obj, Below w1.heap.size w1 ((w1.alloc o).alloc o2) := fun o o2 => ((Below.refl _ _).alloc (Nat.le_refl _) _).alloc (by simp) _
    go_upto_region 4 with (first | (refine wpList_store_Row rfl 24 _ _ rfl w1.heap.size 24 0 ([.int .i64 0, .int .i64 0, .int .i64 0, .int .i64 0, .int .i64 0, .int .i64 0, .int .i64 0] : List Value) cfg0.vals (zc _) (by rw [lc]; decide) rfl rfl (by rw [lc]; kernel_rfl) oc ?_; intro w2a hra hsa; have zs2 := (zs _).but hsa (by omega)) | (refine wpList_store_Row rfl 29 _ _ rfl (w1.heap.size + 1) 29 0 [nilS, nilS, nilS] (v1.vals st0) zs2 (by rw [ls]; decide) rfl rfl (by rw [ls]; kernel_rfl) os ?_; intro w2 hrb hsb))
    have w2_c := (row_whole hra (by rw [lc]; decide)).but hsb (by omega)
    have w2_s := row_whole hrb (by rw [ls]; decide)
    have w2_b : Below w1.heap.size w1 w2 := hsb.below (hsa.below (zb _ _) (Nat.le_refl _)) (by omega)
    clear zc zs zb zs2 hra hrb hsa hsb w2a
    have d0 := w2_c.cell 0 (.int .i64 0) rfl
    have d1 := w2_c.cell 1 (.int .i64 0) rfl
    have d2 := w2_c.cell 2 (.int .i64 0) rfl
    have d3 := w2_c.cell 3 (.int .i64 0) rfl
    have d4 := w2_c.cell 4 (.int .i64 0) rfl
    have d5 := w2_c.cell 5 (.int .i64 0) rfl
    have d6 := w2_c.cell 6 (.int .i64 0) rfl
    have p0 := w2_s.cell 0 (.slice v1.po 0 v1.pc) rfl
    have p1 := w2_s.cell 1 (.slice v1.eo 0 v1.ec) rfl
    have p2 := w2_s.cell 2 (.slice v1.bo 0 v1.bc) rfl
    have SM := HSM.out w2 v1 (HV1.out _ w2_b)
    have HB2 : Hid (Below w.heap.size w w2) := HB1.out.trans (w2_b.mono HB1.out.size)
    clear w2_c w2_s w2_b lc oc ls os HV1 HSM HB1
    go_wp2_with fail
    refine SM.mono ?_
    rintro e w3 ⟨rfl, hb3⟩
    have HB3 : Hid (Below w.heap.size w w3) := HB2.out.trans (hb3.mono HB2.out.size)
    clear hb3 SM d0 d1 d2 d3 d4 d5 d6 p0 p1 p2
    dsimp only
    go_wp2
    go_ret
    exact ⟨by first | rfl | simp, HB3.out⟩
  | ok q =>
    obtain ⟨c, t⟩ := q
    rw [parseR_ok hpl] at HCP
    dsimp only at HCP
    obtain ⟨hpp, hF, hE⟩ := print_parse hpl
    have HPR : Hid (∀ (W : World) (v : SV), Tab W → StV W v t → Calls Tryd.prog 10 #[.agg c.vals.toArray, .agg (v.vals t).toArray] W fun e w' => e = .returned (.tuple #[.string (strOf T), .int .i64 0]) ∧ Below W.heap.size W w') := fun W v hq hv => by
      refine (DM.print c v t W hq hv (fit_lens hF.1 hF.2.1) (fun e he => by have := hE e he; omega)).mono ?_
      rintro e w' ⟨U, k, hp, rfl, hb⟩
      rcases hp with ⟨_, _, rfl, rfl⟩ | ⟨h1, _, _⟩
      · rw [hpp]; exact ⟨rfl, hb⟩
      · exact absurd ⟨hF.1, hF.2.1⟩ h1
    have HLY : Hid (∀ (W : World) (v : SV), StV W v t → Calls Tryd.prog 15 #[.agg c.vals.toArray, .agg (v.vals t).toArray] W fun e w' => (∃ pv, e = .returned (.tuple #[pv, .int .i64 0])) ∧ Below W.heap.size W w') := fun W v hv => by
      have hl := fit_lens hF.1 hF.2.1
      refine (clay_any c v t W hv hl.1 hl.2.1 hl.2.2.1 hl.2.2.2).mono ?_
      intro e w' hlp
      obtain ⟨h1, h2⟩ := lay_prp hlp (.inl ⟨hF.1, hF.2.1, rfl, rfl⟩)
      exact ⟨h2, h1⟩
    generalize strOf T = ST at *
    clear hpl hpp hF hE slen
    go_enter Tryd.func7, Tryd.ntmps7
    go_wp2_with fail
    refine (HAW.out _ (HQ.out _ (Below.refl _ _))).mono ?_
    rintro e w0 ⟨rfl, hb0⟩
    have HB0 : Hid (Below w.heap.size w w0) := hb0
    clear hb0
    dsimp only
    go_wp2_with fail
    refine (HCP.out _).mono ?_
    rintro e w1 ⟨v1, rfl, hv1, hb1⟩
    have HV1 : Hid (∀ W, Below w1.heap.size w1 W → StV W v1 t) := fun W hW => hv1.below hW (Nat.le_refl _)
    have HB1 : Hid (Below w.heap.size w w1) := HB0.out.trans (hb1.mono HB0.out.size)
    clear hv1 hb1 HCP HB0
    unfold Tells4
    dsimp only
    have lc := cfg_len c
    have oc := cfg_one c
    have ls := sv_len v1 t
    have os := sv_one v1 t
    have zc : ∀ o : Obj, Row ((w1.alloc (.cells #[.int .i64 0, .int .i64 0, .int .i64 0, .int .i64 0, .int .i64 0, .int .i64 0, .int .i64 0] 24)).alloc o) w1.heap.size 24 ([.int .i64 0, .int .i64 0, .int .i64 0, .int .i64 0, .int .i64 0, .int .i64 0, .int .i64 0] : List Value) := fun o => (Row.at _ _ _ _ _ rfl rfl).alloc _
    have zs : ∀ o : Obj, Row ((w1.alloc o).alloc (.cells #[.slice none 0 0, .slice none 0 0, .slice none 0 0] 29)) (w1.heap.size + 1) 29 [nilS, nilS, nilS] := fun o => Row.at _ _ _ _ _ (by simp) rfl
    have zb : ∀ o o2 : Obj, Below w1.heap.size w1 ((w1.alloc o).alloc o2) := fun o o2 => ((Below.refl _ _).alloc (Nat.le_refl _) _).alloc (by simp) _
    go_upto_region 4 with (first | (refine wpList_store_Row rfl 24 _ _ rfl w1.heap.size 24 0 ([.int .i64 0, .int .i64 0, .int .i64 0, .int .i64 0, .int .i64 0, .int .i64 0, .int .i64 0] : List Value) c.vals (zc _) (by rw [lc]; decide) rfl rfl (by rw [lc]; kernel_rfl) oc ?_; intro w2a hra hsa; have zs2 := (zs _).but hsa (by omega)) | (refine wpList_store_Row rfl 29 _ _ rfl (w1.heap.size + 1) 29 0 [nilS, nilS, nilS] (v1.vals t) zs2 (by rw [ls]; decide) rfl rfl (by rw [ls]; kernel_rfl) os ?_; intro w2 hrb hsb))
    have w2_c := (row_whole hra (by rw [lc]; decide)).but hsb (by omega)
    have w2_s := row_whole hrb (by rw [ls]; decide)
    have w2_b : Below w1.heap.size w1 w2 := hsb.below (hsa.below (zb _ _) (Nat.le_refl _)) (by omega)
    clear zc zs zb zs2 hra hrb hsa hsb w2a
    have PR1 := HPR.out w2 v1 (HQ.out _ (HB1.out.trans (w2_b.mono HB1.out.size))) (HV1.out _ w2_b)
    have HB2 : Hid (Below w1.heap.size w1 w2) := w2_b
    have HLY1 : Hid (∀ W, Below w1.heap.size w1 W → Calls Tryd.prog 15 #[.agg c.vals.toArray, .agg (v1.vals t).toArray] W fun e w' => (∃ pv, e = .returned (.tuple #[pv, .int .i64 0])) ∧ Below W.heap.size W w') := fun W hW => HLY.out W v1 (HV1.out W hW)
    clear HLY HPR HV1 w2_b oc os
    generalize c.vals = CV at *
    generalize v1.vals t = XS at *
    go_wp2_with (first | (refine wpList_load_Row rfl 24 _ rfl _ _ CV w2_c rfl _ Tryd.underlying24 rfl (by rw [lc]; kernel_rfl) ?_) | (refine wpList_load_Row rfl 29 _ rfl _ _ XS w2_s rfl _ Tryd.underlying29 rfl (by rw [ls]; kernel_rfl) ?_))
    refine PR1.mono ?_
    rintro e w3 ⟨rfl, hb3⟩
    have w3_c := w2_c.below hb3 w2_c.lt
    have w3_s := w2_s.below hb3 w2_s.lt
    have LY := HLY1.out w3 (HB2.out.trans (hb3.mono HB2.out.size))
    have HB3 : Hid (Below w.heap.size w w3) := HB1.out.trans ((HB2.out.trans (hb3.mono HB2.out.size)).mono HB1.out.size)
    clear w2_c w2_s hb3 PR1 HLY1 HB2
    dsimp only
    go_wp2_with (first | (refine wpList_load_Row rfl 24 _ rfl _ _ CV w3_c rfl _ Tryd.underlying24 rfl (by rw [lc]; kernel_rfl) ?_) | (refine wpList_load_Row rfl 29 _ rfl _ _ XS w3_s rfl _ Tryd.underlying29 rfl (by rw [ls]; kernel_rfl) ?_))
    refine LY.mono ?_
    rintro e w4 ⟨⟨pv, rfl⟩, hb4⟩
    have HB4 : Hid (Below w.heap.size w w4) := HB3.out.trans (hb4.mono HB3.out.size)
    clear w3_c w3_s hb4 LY
    dsimp only
    go_wp2
    go_ret
    exact ⟨by first | rfl | simp, HB4.out⟩
end Go.Proofs.YtgpnbiaghokjkaaDoor
