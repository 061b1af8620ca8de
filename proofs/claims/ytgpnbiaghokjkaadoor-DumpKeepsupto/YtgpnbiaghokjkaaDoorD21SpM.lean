import Derived.Test.YtgpnbiaghokjkaaDoorD21Pa
import Derived.Test.YtgpnbiaghokjkaaDoorD21PrW
import Derived.Test.YtgpnbiaghokjkaaDoorD21Rd
/-! Layer 21: what the law asks of any code: its two contracts; some answers that the document fixes. -/
namespace Go.Proofs.YtgpnbiaghokjkaaDoor
open Go.RowKit
set_option linter.unusedVariables false
set_option linter.unusedSimpArgs false
set_option maxRecDepth 100000

/-- What Print tells, as data. -/
def PrP (c : Cfg) (t : St) (T : List By) (k : Int) : Prop := (c.may = 0 ∧ Fit c t ∧ T = printL c t ∧ k = 0) ∨ (¬ (c.may = 0 ∧ Fit c t) ∧ T = [] ∧ k = if c.may = 0 then 5 else 1)
theorem PrP.one {c : Cfg} {t : St} {T U : List By} {k l : Int} (h : PrP c t T k) (h' : PrP c t U l) : T = U ∧ k = l := by
  rcases h with ⟨h1, h2, h3, h4⟩ | ⟨h1, h3, h4⟩
  · rcases h' with ⟨_, _, g3, g4⟩ | ⟨g1, _, _⟩
    · exact ⟨h3.trans g3.symm, h4.trans g4.symm⟩
    · exact absurd ⟨h1, h2⟩ g1
  · rcases h' with ⟨g1, g2, _, _⟩ | ⟨_, g3, g4⟩
    · exact absurd ⟨g1, g2⟩ h1
    · exact ⟨h3.trans g3.symm, h4.trans g4.symm⟩
def Lens (t : St) : Prop := t.pages.length ≤ 140737488355328 ∧ t.erases.length ≤ 140737488355328 ∧ t.blown.length ≤ 140737488355328 ∧ ∀ p ∈ t.pages, p.length ≤ 140737488355328
def PrintP (c : Cfg) (t : St) (w : World) (e : Ending) (w' : World) : Prop := ∃ T k, PrP c t T k ∧ e = .returned (.tuple #[.string (strOf T), .int .i64 k]) ∧ Below w.heap.size w w'
/-- What the law asks of the code: Print (where the table of its numbers stands), and Parse of texts that are not too long. -/
structure Dmp : Prop where
  print : ∀ (c : Cfg) (v : SV) (t : St) (w : World), Tab w → StV w v t → Lens t → (∀ e ∈ t.erases, e < 9223372036854775808) → Calls Tryd.prog 10 #[.agg c.vals.toArray, .agg (v.vals t).toArray] w (PrintP c t w)
  parse : ∀ (T : List By) (w : World), T.length ≤ 4000000 → Calls Tryd.prog 12 #[.string (strOf T)] w (ParP T w)
/-- The document's Print, in the same words. -/
theorem r21print_any (c : Cfg) (v : SV) (t : St) (w : World) (h : StV w v t) (hl : Lens t) (he : ∀ e ∈ t.erases, e < 9223372036854775808) : Calls Tryd.prog 11 #[.agg c.vals.toArray, .agg (v.vals t).toArray] w (PrintP c t w) := by
  by_cases hb : c.may = 0 ∧ Fit c t
  · refine (r21print_ok c v t w h hb.1 hb.2 he).mono ?_
    rintro e w' ⟨rfl, hbl⟩
    exact ⟨_, _, .inl ⟨hb.1, hb.2, rfl, rfl⟩, rfl, hbl⟩
  · refine (r21print_bad c v t w h hl.1 hl.2.1 hl.2.2.1 hb).mono ?_
    rintro e w' ⟨rfl, hbl⟩
    exact ⟨_, _, .inr ⟨hb, rfl, rfl⟩, rfl, hbl⟩

/-- The text that awake asks. -/
def awkT : List By := [99#8, 104#8, 105#8, 112#8, 32#8, 52#8, 32#8, 49#8, 32#8, 50#8, 32#8, 49#8, 48#8, 32#8, 49#8, 32#8, 53#8, 32#8, 48#8, 10#8, 98#8, 108#8, 111#8, 119#8, 110#8, 32#8, 48#8, 32#8, 50#8, 10#8, 112#8, 97#8, 103#8, 101#8, 32#8, 48#8, 32#8, 48#8, 10#8, 112#8, 97#8, 103#8, 101#8, 32#8, 49#8, 32#8, 49#8, 10#8]
def awkC : Cfg := ⟨4, 1, 2, 10, 1, 5, 0⟩
def awkS : St := ⟨List.replicate 2 (List.replicate 4 (List.replicate 32 255#8)), [0, 1], [true, false, true]⟩
theorem awk_parse : parseL awkT = .ok (awkC, awkS) := by kernel_rfl
theorem awk_none : parseL [] = .error (5, 1) := by kernel_rfl
theorem awk_print : (printL awkC awkS).length = 48 := by kernel_rfl
theorem awk_may : awkC.may = 0 := by kernel_rfl
theorem awk_fit : Fit awkC awkS := by
  refine ⟨rfl, rfl, rfl, fun p hp => ?_⟩
  have hp2 : p < 2 := hp
  match p, hp2 with
  | 0, _ => exact ⟨rfl, by decide⟩
  | 1, _ => exact ⟨rfl, by decide⟩
theorem awk_text : ({ data := #[99, 104, 105, 112, 32, 52, 32, 49, 32, 50, 32, 49, 48, 32, 49, 32, 53, 32, 48, 10, 98, 108, 111, 119, 110, 32, 48, 32, 50, 10, 112, 97, 103, 101, 32, 48, 32, 48, 10, 112, 97, 103, 101, 32, 49, 32, 49, 10] } : ByteArray) = strOf awkT := rfl
set_option maxHeartbeats 8000000 in
theorem l21awake_any (DM : Dmp) (w : World) (hq : Tab w) : Calls Tryd.prog 9 #[] w fun e w' => e = .returned (.bool true) ∧ Below w.heap.size w w' := by
  have HP1 : Hid (∀ W : World, Calls Tryd.prog 12 #[.string { data := #[99, 104, 105, 112, 32, 52, 32, 49, 32, 50, 32, 49, 48, 32, 49, 32, 53, 32, 48, 10, 98, 108, 111, 119, 110, 32, 48, 32, 50, 10, 112, 97, 103, 101, 32, 48, 32, 48, 10, 112, 97, 103, 101, 32, 49, 32, 49, 10] }] W fun e w' => ∃ v, e = Tells4 awkC v awkS 0 0 ∧ StV w' v awkS ∧ Below W.heap.size W w') := fun W => by
    have := DM.parse awkT W (by decide)
    rw [awk_text]
    unfold ParP at this
    rw [parseR_ok awk_parse] at this
    exact this
  have HP2 : Hid (∀ W : World, Calls Tryd.prog 12 #[.string { data := #[] }] W fun e w' => ∃ v, e = Tells4 cfg0 v st0 5 1 ∧ StV w' v st0 ∧ Below W.heap.size W w') := fun W => by
    have := DM.parse [] W (by decide)
    unfold ParP at this
    rw [parseR_err awk_none] at this
    exact this
  have HQ : Hid (∀ W, Below w.heap.size w W → Tab W) := fun W hW => hq.on hW (Nat.le_refl _)
  have HPR : Hid (∀ (W : World) (v : SV), Tab W → StV W v awkS → Calls Tryd.prog 10 #[.agg awkC.vals.toArray, .agg (v.vals awkS).toArray] W fun e w' => e = .returned (.tuple #[.string (strOf (printL awkC awkS)), .int .i64 0]) ∧ Below W.heap.size W w') := fun W v ht hv => by
    refine (DM.print awkC v awkS W ht hv ⟨by decide, by decide, by decide, fun p hp => by rw [List.eq_of_mem_replicate hp]; decide⟩ (fun e he => by simp [awkS] at he; rcases he with rfl | rfl <;> decide)).mono ?_
    rintro e w' ⟨T, k, hp, rfl, hb⟩
    rcases hp with ⟨_, _, rfl, rfl⟩ | ⟨h1, _, _⟩
    · exact ⟨rfl, hb⟩
    · exact absurd ⟨awk_may, awk_fit⟩ h1
  have slen : ∀ W : World, (Builtin.len_ #[9] 3 #[.string (strOf (printL awkC awkS))]).run Tryd.prog W = .ok (goInt 48) W := fun W => by
    have := str_len (printL awkC awkS) 3 W
    rw [awk_print] at this
    exact this
  generalize strOf (printL awkC awkS) = SP at *
  clear hq
  go_enter Tryd.func9, Tryd.ntmps9
  go_wp2_with fail
  refine (HP1.out _).mono ?_
  rintro e w1 ⟨v, rfl, hv1, hb1⟩
  obtain ⟨EB, eo, heo, cE⟩ := hv1.er.cell 1 (.int .i64 1) rfl
  obtain ⟨BB, bo, hbo, cB1⟩ := hv1.bl.cell 1 (.bool false) rfl
  obtain ⟨BB', bo', hbo', cB2⟩ := hv1.bl.cell 2 (.bool true) rfl
  rw [hbo] at hbo'
  injection hbo' with hbo'
  injection hbo' with hb2' hb3'
  subst hb2'
  subst hb3'
  have HC1 : Hid (∀ W, Below w1.heap.size w1 W → W.cell? ⟨EB, eo + 1, none⟩ = some (.int .i64 1) ∧ W.cell? ⟨BB, bo + 1, none⟩ = some (.bool false) ∧ W.cell? ⟨BB, bo + 2, none⟩ = some (.bool true)) := fun W hW => by
    have q := hv1.below hW (Nat.le_refl _)
    obtain ⟨E2, e2, h1, k1⟩ := q.er.cell 1 (.int .i64 1) rfl
    obtain ⟨B2, b2, h2, k2⟩ := q.bl.cell 1 (.bool false) rfl
    obtain ⟨B3, b3, h3, k3⟩ := q.bl.cell 2 (.bool true) rfl
    rw [heo] at h1
    rw [hbo] at h2 h3
    injection h1 with h1
    injection h2 with h2
    injection h3 with h3
    injection h1 with h1 h1'
    injection h2 with h2 h2'
    injection h3 with h3 h3'
    subst h1 h1' h2 h2' h3 h3'
    exact ⟨k1, k2, k3⟩
  have HV1 : Hid (∀ W, Below w1.heap.size w1 W → StV W v awkS) := fun W hW => hv1.below hW (Nat.le_refl _)
  have HB1 : Hid (Below w.heap.size w w1) := hb1
  have HCV : Hid (awkC.vals = [.int .i64 4, .int .i64 1, .int .i64 2, .int .i64 10, .int .i64 1, .int .i64 5, .int .i64 0]) := rfl
  have HSV : Hid (v.vals awkS = [.slice v.po 2 v.pc, .slice (some ⟨EB, eo, none⟩) 2 v.ec, .slice (some ⟨BB, bo, none⟩) 3 v.bc]) := by
    show _ = _
    unfold SV.vals; rw [heo, hbo]; rfl
  have lc : awkC.vals.length = 7 := rfl
  have oc : ∀ u ∈ awkC.vals, Value.oneCell' u = true := by rw [HCV.out]; intro u hu; simp at hu; rcases hu with rfl | rfl | rfl | rfl | rfl | rfl | rfl <;> rfl
  have ls : (v.vals awkS).length = 3 := rfl
  have os : ∀ u ∈ v.vals awkS, Value.oneCell' u = true := by rw [HSV.out]; intro u hu; simp at hu; rcases hu with rfl | rfl | rfl <;> rfl
  clear hv1 hb1 heo hbo cE cB1 cB2
  unfold Tells4
  dsimp only
  obtain ⟨CV, hCV⟩ : ∃ CV, awkC.vals = CV := ⟨_, rfl⟩
  obtain ⟨XS, hXS⟩ : ∃ XS, v.vals awkS = XS := ⟨_, rfl⟩
  rw [hCV] at lc oc HCV ⊢
  rw [hXS] at ls os HSV ⊢
  have HEC : Hid (awkC.vals = CV) := hCV
  have HEX : Hid (v.vals awkS = XS) := hXS
  clear hCV hXS
  have zc : ∀ o : Obj, Row ((w1.alloc (.cells #[.int .i64 0, .int .i64 0, .int .i64 0, .int .i64 0, .int .i64 0, .int .i64 0, .int .i64 0] 24)).alloc o) w1.heap.size 24 ([.int .i64 0, .int .i64 0, .int .i64 0, .int .i64 0, .int .i64 0, .int .i64 0, .int .i64 0] : List Value) := fun o => (Row.at _ _ _ _ _ rfl rfl).alloc _
  have zs : ∀ o : Obj, Row ((w1.alloc o).alloc (.cells #[.slice none 0 0, .slice none 0 0, .slice none 0 0] 29)) (w1.heap.size + 1) 29 [nilS, nilS, nilS] := fun o => Row.at _ _ _ _ _ (by simp) rfl
  have zb : ∀ o o2 : Obj, Below w1.heap.size w1 ((w1.alloc o).alloc o2) := fun o o2 => ((Below.refl _ _).alloc (Nat.le_refl _) _).alloc (by simp) _
  go_upto_region 2 with (first | (refine wpList_store_Row rfl 24 _ _ rfl w1.heap.size 24 0 ([.int .i64 0, .int .i64 0, .int .i64 0, .int .i64 0, .int .i64 0, .int .i64 0, .int .i64 0] : List Value) CV (zc _) (by rw [lc]; decide) rfl rfl (by rw [lc]; kernel_rfl) oc ?_; intro w2a hra hsa; have zs2 := (zs _).but hsa (by omega)) | (refine wpList_store_Row rfl 29 _ _ rfl (w1.heap.size + 1) 29 0 [nilS, nilS, nilS] XS zs2 (by rw [ls]; decide) rfl rfl (by rw [ls]; kernel_rfl) os ?_; intro w2 hrb hsb))
  have w2_c := (row_whole hra (by rw [lc]; decide)).but hsb (by omega)
  have w2_s := row_whole hrb (by rw [ls]; decide)
  have w2_b : Below w1.heap.size w1 w2 := hsb.below (hsa.below (zb _ _) (Nat.le_refl _)) (by omega)
  clear zc zs zb zs2 hra hrb hsa hsb w2a
  go_wp2_with fail
  have HRC : Hid (Row w2 w1.heap.size 24 CV) := w2_c
  have HRS : Hid (Row w2 (w1.heap.size + 1) 29 XS) := w2_s
  have HB2 : Hid (Below w1.heap.size w1 w2) := w2_b
  clear w2_c w2_s w2_b
  refine (HP2.out _).mono ?_
  rintro e w3 ⟨v3, rfl, hv3, hb3⟩
  clear hv3
  have HRC3 : Hid (Row w3 w1.heap.size 24 CV) := HRC.out.below hb3 HRC.out.lt
  have HRS3 : Hid (Row w3 (w1.heap.size + 1) 29 XS) := HRS.out.below hb3 HRS.out.lt
  have HB3 : Hid (Below w1.heap.size w1 w3) := HB2.out.trans (hb3.mono HB2.out.size)
  clear HRC HRS HB2 hb3
  unfold Tells4
  dsimp only
  have lc0 : cfg0.vals.length = 7 := rfl
  have oc0 : ∀ u ∈ cfg0.vals, Value.oneCell' u = true := by intro u hu; simp [Cfg.vals] at hu; subst hu; rfl
  have ls0 : (v3.vals st0).length = 3 := rfl
  have os0 : ∀ u ∈ v3.vals st0, Value.oneCell' u = true := by intro u hu; simp [SV.vals] at hu; rcases hu with rfl | rfl | rfl <;> rfl
  obtain ⟨C0, hC0⟩ : ∃ CV, cfg0.vals = CV := ⟨_, rfl⟩
  obtain ⟨X0, hX0⟩ : ∃ XS, v3.vals st0 = XS := ⟨_, rfl⟩
  rw [hC0] at lc0 oc0 ⊢
  rw [hX0] at ls0 os0 ⊢
  clear hC0 hX0
  have hcL : ∀ W, Below w3.heap.size w3 W → Row W w1.heap.size 24 CV := fun W hW => HRC3.out.below hW HRC3.out.lt
  have hsL : ∀ W, Below w3.heap.size w3 W → Row W (w1.heap.size + 1) 29 XS := fun W hW => HRS3.out.below hW HRS3.out.lt
  have HCL : Hid (∀ W, Below w3.heap.size w3 W → Row W w1.heap.size 24 CV) := hcL
  have HSL : Hid (∀ W, Below w3.heap.size w3 W → Row W (w1.heap.size + 1) 29 XS) := hsL
  clear hcL hsL
  have zc : ∀ o : Obj, Row ((w3.alloc (.cells #[.int .i64 0, .int .i64 0, .int .i64 0, .int .i64 0, .int .i64 0, .int .i64 0, .int .i64 0] 24)).alloc o) w3.heap.size 24 ([.int .i64 0, .int .i64 0, .int .i64 0, .int .i64 0, .int .i64 0, .int .i64 0, .int .i64 0] : List Value) := fun o => (Row.at _ _ _ _ _ rfl rfl).alloc _
  have zs : ∀ o : Obj, Row ((w3.alloc o).alloc (.cells #[.slice none 0 0, .slice none 0 0, .slice none 0 0] 29)) (w3.heap.size + 1) 29 [nilS, nilS, nilS] := fun o => Row.at _ _ _ _ _ (by simp) rfl
  have zb : ∀ o o2 : Obj, Below w3.heap.size w3 ((w3.alloc o).alloc o2) := fun o o2 => ((Below.refl _ _).alloc (Nat.le_refl _) _).alloc (by simp) _
  go_upto_region 3 with (first | (refine wpList_store_Row rfl 24 _ _ rfl w3.heap.size 24 0 ([.int .i64 0, .int .i64 0, .int .i64 0, .int .i64 0, .int .i64 0, .int .i64 0, .int .i64 0] : List Value) C0 (zc _) (by rw [lc0]; decide) rfl rfl (by rw [lc0]; kernel_rfl) oc0 ?_; intro w4a hra hsa; have zs2 := (zs _).but hsa (by omega)) | (refine wpList_store_Row rfl 29 _ _ rfl (w3.heap.size + 1) 29 0 [nilS, nilS, nilS] X0 zs2 (by rw [ls0]; decide) rfl rfl (by rw [ls0]; kernel_rfl) os0 ?_; intro w4 hrb hsb))
  have w4_c := (row_whole hra (by rw [lc0]; decide)).but hsb (by omega)
  have w4_s := row_whole hrb (by rw [ls0]; decide)
  have w4_b : Below w3.heap.size w3 w4 := hsb.below (hsa.below (zb _ _) (Nat.le_refl _)) (by omega)
  clear zc zs zb zs2 hra hrb hsa hsb w4a
  have r1 := HCL.out _ w4_b
  have r2 := HSL.out _ w4_b
  have HB4 : Hid (Below w1.heap.size w1 w4) := HB3.out.trans (w4_b.mono HB3.out.size)
  have HPR4 : Hid (Calls Tryd.prog 10 #[.agg CV.toArray, .agg XS.toArray] w4 fun e w' => e = .returned (.tuple #[.string SP, .int .i64 0]) ∧ Below w4.heap.size w4 w') := by
    have := HPR.out w4 v (HQ.out _ (HB1.out.trans (HB4.out.mono HB1.out.size))) (HV1.out _ HB4.out)
    rw [HEC.out, HEX.out] at this
    exact this
  have hlt : w1.heap.size + 1 < w4.heap.size := r2.lt
  clear w4_c w4_s w4_b HCL HSL HRC3 HRS3 HB3 HPR
  go_wp2_with (first | (refine wpList_load_Row rfl 24 _ rfl _ _ CV r1 rfl _ Tryd.underlying24 rfl (by rw [lc]; kernel_rfl) ?_) | (refine wpList_load_Row rfl 29 _ rfl _ _ XS r2 rfl _ Tryd.underlying29 rfl (by rw [ls]; kernel_rfl) ?_))
  refine HPR4.out.mono ?_
  rintro e w5 ⟨rfl, hb5⟩
  have HB5 : Hid (Below w1.heap.size w1 w5) := HB4.out.trans (hb5.mono HB4.out.size)
  have k1 := r1.below hb5 r1.lt
  have k2 := r2.below hb5 r2.lt
  rw [HCV.out] at k1
  rw [HSV.out] at k2
  have c0 := k1.cell 0 _ rfl
  have s0 := k2.cell 0 _ rfl
  have s1 := k2.cell 1 _ rfl
  have s2 := k2.cell 2 _ rfl
  obtain ⟨q1, q2, q3⟩ := HC1.out _ HB5.out
  clear r1 r2 k1 k2 HPR4 HB4 hb5
  dsimp only
  go_wp2
  go_ret
  exact ⟨rfl, HB1.out.trans (HB5.out.mono HB1.out.size)⟩
end Go.Proofs.YtgpnbiaghokjkaaDoor

/-! Layer 21: DumpPrints, DumpNames, of any code that keeps its contracts. (Printed by tools/genlaw21.py.) -/
namespace Go.Proofs.YtgpnbiaghokjkaaDoor
open Go.RowKit
set_option linter.unusedVariables false
set_option linter.unusedSimpArgs false
set_option maxRecDepth 100000

theorem cfg_len (c : Cfg) : c.vals.length = 7 := rfl
theorem cfg_one (c : Cfg) : ∀ u ∈ c.vals, Value.oneCell' u = true := by intro u hu; simp [Cfg.vals] at hu; rcases hu with rfl | rfl | rfl | rfl | rfl | rfl | rfl <;> rfl
theorem sv_len (v : SV) (t : St) : (v.vals t).length = 3 := rfl
theorem sv_one (v : SV) (t : St) : ∀ u ∈ v.vals t, Value.oneCell' u = true := by intro u hu; simp [SV.vals] at hu; rcases hu with rfl | rfl | rfl <;> rfl

end Go.Proofs.YtgpnbiaghokjkaaDoor

/-! Layer 21: DumpParses, of any code that keeps its contracts. (Printed by tools/genlaw21.py.) -/
namespace Go.Proofs.YtgpnbiaghokjkaaDoor
open Go.RowKit
set_option linter.unusedVariables false
set_option linter.unusedSimpArgs false
set_option maxRecDepth 100000

theorem fit_lens {c : Cfg} {t : St} (hm : c.may = 0) (hf : Fit c t) : Lens t := by
  obtain ⟨m1, m2, m3, m4, m5, m6, m7⟩ := may_all hm
  obtain ⟨h1, h2, h3, h4⟩ := hf
  have hprod : c.slots * c.fuses ≤ 512 := by
    have := Int.mul_le_mul m1.2 m3.2 (by omega) (by omega); omega
  refine ⟨by omega, by omega, by omega, fun p hp => ?_⟩
  obtain ⟨i, hi, rfl⟩ := List.getElem_of_mem hp
  have := (h4 i hi).1
  rw [List.getD_eq_getElem?_getD, List.getElem?_eq_getElem hi] at this
  simp at this
  omega
theorem parseR_lens (T : List By) : Lens (parseR T).2.1 := by
  cases h : parseL T with
  | error q =>
    obtain ⟨k, l⟩ := q
    rw [parseR_err h]
    exact ⟨by simp, by simp, by simp, fun p hp => by cases hp⟩
  | ok q =>
    obtain ⟨c, t⟩ := q
    rw [parseR_ok h]
    have h1 := (print_parse h).2.1
    exact fit_lens h1.1 h1.2.1

end Go.Proofs.YtgpnbiaghokjkaaDoor


/-! Layer 21 as plain data: how long a text is, which line an error tells. -/
namespace Go.Proofs.YtgpnbiaghokjkaaDoor
open Go.RowKit
set_option linter.unusedVariables false
set_option linter.unusedSimpArgs false
set_option maxRecDepth 100000

theorem line_split : ∀ (t l r : List By), lineOf t = some (l, r) → l.length + 1 + r.length = t.length := by
  intro t
  induction t with
  | nil => intro l r h; cases h
  | cons x t ih =>
    intro l r h
    rw [lineOf] at h
    split at h
    · injection h with h; injection h with h1 h2; subst h1; subst h2; simp; omega
    · split at h
      · rename_i a' b' hab
        injection h with h; injection h with h1 h2; subst h1; subst h2
        have := ih _ _ hab
        rw [List.length_cons, List.length_cons]; omega
      · cases h
theorem cellsP_line (C : Nat) : ∀ (k : Nat) (t : List By) (ln : Nat) (last : Int) (g : List (List By)),
    (∀ m, cellsP C k t ln last g = .error m → 1 ≤ m ∧ m ≤ ln + 1 + t.length) ∧ (∀ g' r ln', cellsP C k t ln last g = .ok (g', r, ln') → ln' + r.length ≤ ln + t.length)
  | 0, t, ln, last, g => by
    refine ⟨fun m h => (by cases h), fun g' r ln' h => ?_⟩
    injection h with h; injection h with h1 h; injection h with h2 h3; subst h2; subst h3; exact Nat.le_refl _
  | k + 1, t, ln, last, g => by
    rw [cellsP]
    split
    · cases hl : lineOf t with
      | none =>
        dsimp only
        refine ⟨fun m h => by injection h with h; omega, fun g' r ln' h => by cases h⟩
      | some q =>
        obtain ⟨l, r⟩ := q
        have hs := line_split t l r hl
        dsimp only
        cases ho : one? l with
        | none =>
          dsimp only
          refine ⟨fun m h => by injection h with h; omega, fun g' r ln' h => by cases h⟩
        | some q =>
          obtain ⟨n, x⟩ := q
          dsimp only
          split
          · refine ⟨fun m h => by injection h with h; omega, fun g' r ln' h => by cases h⟩
          · have ih := cellsP_line C k r (ln + 1) n (g.set n x)
            refine ⟨fun m h => ?_, fun g' r' ln' h => ?_⟩
            · have := ih.1 m h; omega
            · have := ih.2 g' r' ln' h; omega
    · refine ⟨fun m h => (by cases h), fun g' r ln' h => ?_⟩
      injection h with h; injection h with h1 h; injection h with h2 h3; subst h2; subst h3; exact Nat.le_refl _
theorem pageP_line (C p : Nat) (t : List By) (ln : Nat) : (∀ m, pageP C p t ln = .error m → 1 ≤ m ∧ m ≤ ln + 1 + t.length) ∧ (∀ g e r ln', pageP C p t ln = .ok (g, e, r, ln') → ln' + r.length ≤ ln + t.length) := by
  unfold pageP
  cases hl : lineOf t with
  | none =>
    dsimp only
    refine ⟨fun m h => by injection h with h; omega, fun g e r ln' h => by cases h⟩
  | some q =>
    obtain ⟨l, r⟩ := q
    have hs := line_split t l r hl
    dsimp only
    split
    · split
      · have ih := cellsP_line C r.length r (ln + 1) (-1) (List.replicate C (List.replicate 32 255#8))
        split
        · rename_i g2 r2 ln2 hc
          refine ⟨fun m h => (by cases h), fun g e r' ln' h => ?_⟩
          injection h with h; injection h with h1 h; injection h with h2 h; injection h with h3 h4
          subst h3; subst h4
          have := ih.2 _ _ _ hc
          omega
        · rename_i k hc
          refine ⟨fun m h => ?_, fun g e r' ln' h => by cases h⟩
          injection h with h
          subst h
          have := ih.1 _ hc
          omega
      · refine ⟨fun m h => by injection h with h; omega, fun g e r ln' h => by cases h⟩
    · refine ⟨fun m h => by injection h with h; omega, fun g e r ln' h => by cases h⟩
theorem pagesP_line (C : Nat) : ∀ (k p : Nat) (t : List By) (ln : Nat),
    (∀ m, pagesP C k p t ln = .error m → 1 ≤ m ∧ m ≤ ln + 1 + t.length) ∧ (∀ gs es r ln', pagesP C k p t ln = .ok (gs, es, r, ln') → ln' + r.length ≤ ln + t.length)
  | 0, p, t, ln => by
    refine ⟨fun m h => (by cases h), fun gs es r ln' h => ?_⟩
    injection h with h; injection h with h1 h; injection h with h2 h; injection h with h3 h4; subst h3; subst h4; exact Nat.le_refl _
  | k + 1, p, t, ln => by
    rw [pagesP]
    have h0 := pageP_line C p t ln
    cases hp : pageP C p t ln with
    | error k' =>
      dsimp only
      refine ⟨fun m h => ?_, fun gs es r ln' h => by cases h⟩
      injection h with h
      subst h
      exact h0.1 _ hp
    | ok q =>
      obtain ⟨g, e, r, ln2⟩ := q
      have h1 := h0.2 _ _ _ _ hp
      have ih := pagesP_line C k (p + 1) r ln2
      dsimp only
      cases hq : pagesP C k (p + 1) r ln2 with
      | error k' =>
        dsimp only
        refine ⟨fun m h => ?_, fun gs es r ln' h => by cases h⟩
        injection h with h
        subst h
        have := ih.1 _ hq
        omega
      | ok q =>
        obtain ⟨gs, es, r2, ln3⟩ := q
        dsimp only
        refine ⟨fun m h => (by cases h), fun gs' es' r' ln' h => ?_⟩
        injection h with h; injection h with h1 h; injection h with h2 h; injection h with h3 h4
        subst h3; subst h4
        have := ih.2 _ _ _ _ hq
        omega
theorem parse_line {T : List By} {k : Int} {l : Nat} (h : parseL T = .error (k, l)) : (k = 5 ∨ k = 1) ∧ 1 ≤ l ∧ l ≤ T.length + 1 := by
  unfold parseL at h
  split at h
  · injection h with h; injection h with h1 h2; omega
  · rename_i l0 r hl
    have hs := line_split T l0 r hl
    split at h
    · injection h with h; injection h with h1 h2; omega
    · rename_i c hc
      split at h
      · split at h
        · injection h with h; injection h with h1 h2; omega
        · rename_i l2 r2 hl2
          have hs2 := line_split r l2 r2 hl2
          split at h
          · injection h with h; injection h with h1 h2; omega
          · rename_i bl hbl
            have hp := pagesP_line c.cells.toNat (2 + 2 * c.area).toNat 0 r2 2
            split at h
            · rename_i k' hk
              have := hp.1 _ hk
              injection h with h; injection h with h1 h2; omega
            · rename_i gs es r3 ln hk
              have := hp.2 _ _ _ _ hk
              split at h
              · cases h
              · rename_i hr3
                have : 0 < r3.length := List.length_pos_iff.2 hr3
                injection h with h; injection h with h1 h2; omega
      · injection h with h; injection h with h1 h2; omega
end Go.Proofs.YtgpnbiaghokjkaaDoor


/-! Layer 21: append in place or elsewhere, and what it leaves of what was there. -/
namespace Go.Proofs.YtgpnbiaghokjkaaDoor
open Go.RowKit
set_option linter.unusedVariables false
set_option linter.unusedSimpArgs false
set_option maxRecDepth 100000

/-- What an append onto an own slice leaves. -/
structure AppP (w w' : World) (ao ao' : Option Addr) (vs : List Value) : Prop where
  os : w'.os = w.os
  tape : w'.tape = w.tape
  output : w'.output = w.output
  size : w.heap.size ≤ w'.heap.size
  other : ∀ k, k < w.heap.size → (∀ g, ao = some ⟨g, 0, none⟩ → k ≠ g) → w'.heap[k]? = w.heap[k]?
  pre : ∀ g, ao = some ⟨g, 0, none⟩ → ∀ j u, vs[j]? = some u → w'.cell? ⟨g, j, none⟩ = some u
  loc : ao' = ao ∨ ∃ g', ao' = some ⟨g', 0, none⟩ ∧ w.heap.size ≤ g'
theorem AppP.kept {w w' : World} {ao ao' : Option Addr} {vs : List Value} (h : AppP w w' ao ao' vs) {L : List Nat} {a : World} (hk : KeptL L a w) (hL : ∀ g, ao = some ⟨g, 0, none⟩ → g ∈ L ∨ a.heap.size ≤ g) : KeptL L a w' :=
  ⟨h.os.trans hk.os, h.tape.trans hk.tape, h.output.trans hk.output, Nat.le_trans hk.size h.size, fun k hkk hne => (h.other k (Nat.lt_of_lt_of_le hkk hk.size) (fun g hg e => by rcases hL g hg with h1 | h1; exact hne (e ▸ h1); omega)).trans (hk.block k hkk hne)⟩
theorem wpList_append_pre {T e size bytes : Nat} {z : Value} (E : ElT T e size bytes z) {ops : Array Oper} {rest : List Oper} {o : Oper} {a : Act} {w : World} {Q : Exit → Act → World → Prop} (hgd : o.guard = none) (s x : Operand)
    (ho : o.op = .call { callee := .builtin .append, args := #[s, x], argTypes := #[T, T] })
    (t : Nat) (ao : Option Addr) (n c : Nat) (vs news : List Value) (hs : a.eval s = .slice ao n c) (g0 : Nat) (hg0 : g0 = w.heap.size) (hx : a.eval x = .slice (some ⟨g0, 0, none⟩) 1 1)
    (hown : w.ownsRow 0 e size (.slice ao n c) n vs) (hn : news.length = 1 * size) (h1 : ∀ u ∈ news, u.oneCell' = true) (hm : n + 1 ≤ maxLen) (hl : (n + 1) * bytes ≤ 140737488355328)
    (h : ∀ ao' c' w', w'.ownsRow 0 e size (.slice ao' (n + 1) c') (n + 1) (vs ++ news) → AppP w w' ao ao' vs → wpList Tryd.prog ops Q rest (a.put o.dst (.slice ao' (n + 1) c')) w') :
    wpList Tryd.prog ops Q (o :: rest) a (w.alloc (.cells news.toArray t)) := by
  subst hg0
  have hr : Row (w.alloc (.cells news.toArray t)) w.heap.size t news := Row.at w t news _ _ rfl rfl
  have hown2 : (w.alloc (.cells news.toArray t)).ownsRow 0 e size (.slice ao n c) n vs := hown.alloc _
  have hc : ∀ j u, news[j]? = some u → (w.alloc (.cells news.toArray t)).cell? ⟨w.heap.size, 0 + j, none⟩ = some u := fun j u hu => by rw [Nat.zero_add]; exact hr.cell j u hu
  refine wpList_plain hgd fun K hK => ?_
  obtain ⟨ao', cap', w', hrun, h2, h3, h4, h5⟩ := run_append_gen E 0 (w.alloc (.cells news.toArray t)) (w.alloc (.cells news.toArray t)) o.type ao n c vs hown2 (Nat.zero_le _) (Below.refl _ _) (some ⟨w.heap.size, 0, none⟩) 1 1 news hn (.inr ⟨w.heap.size, 0, rfl, hc⟩) h1 (by simp) hm hl
  have hwh := append_where E 0 (w.alloc (.cells news.toArray t)) o.type ao n c vs hown2 ⟨w.heap.size, 0, none⟩ 1 1 news hn (fun j u hu => by rw [Addr.add_mid]; exact hc j u hu) h1 (by omega) hm hl ao' _ cap' w' hrun
  unfold Oper.wp execOp
  simp only [ho, resolve, invoke, builtin, Sem.run_bind, Sem.run_pure, Result.andThen_ok, List.map_toArray, List.map_cons, List.map_nil, hs, hx, hrun]
  refine hK _ _ (h ao' cap' w' h2 ⟨h3.os, h3.tape, h3.output, ?_, ?_, ?_, ?_⟩)
  · simp at h4; omega
  · intro k hk hne
    exact (h5 k (by simp; omega) hne).trans (Below.heap_alloc w _ k hk)
  · intro g hg j u hu
    rcases hwh with ⟨e1, _⟩ | ⟨_, hb, _⟩
    · have hcells := h2.cells (g := g) (by rw [e1, hg]; rfl)
      have := hcells j u (by rw [List.getElem?_append_left (List.getElem?_eq_some_iff.1 hu).1]; exact hu)
      rw [Addr.add_mid, Nat.zero_add] at this
      exact this
    · have hcells := hown2.cells (g := g) (by rw [hg]; rfl)
      have := hcells j u hu
      rw [Addr.add_mid, Nat.zero_add] at this
      exact (hb.cell (p := ⟨g, j, none⟩) (owns_at hown2 g hg).2).trans this
  · rcases hwh with ⟨e1, _⟩ | ⟨e1, _⟩
    · exact .inl e1
    · exact .inr ⟨_, e1, by simp⟩
end Go.Proofs.YtgpnbiaghokjkaaDoor
