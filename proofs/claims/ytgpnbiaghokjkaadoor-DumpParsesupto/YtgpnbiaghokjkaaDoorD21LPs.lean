import Derived.Test.YtgpnbiaghokjkaaDoorD21Law
/-! Layer 21: DumpPrints, DumpNames, of any code that keeps its contracts. (Printed by tools/genlaw21.py.) -/
namespace Go.Proofs.YtgpnbiaghokjkaaDoor
open Go.RowKit
set_option linter.unusedVariables false
set_option linter.unusedSimpArgs false
set_option maxRecDepth 100000

theorem cfg_len (c : Cfg) : c.vals.length = 7 := rfl
theorem cfg_one (c : Cfg) : ∀ u ∈ c.vals, Value.oneCell' u = true := by intro u hu; simp [Cfg.vals] at hu; rcases hu with rfl | rfl | rfl | rfl | rfl | rfl | rfl <;> rfl
theorem sv_len (v : SV) (t : St) : (v.vals t).length = 3 := rfl
theorem sv_one (v : SV) (t : St) : ∀ u ∈ v.vals t, Value.oneCell' u = true := by intro u hu; simp [SV.vals] at hu; rcases hu with rfl | rfl | rfl <;> rfl

end Go.Proofs.YtgpnbiaghokjkaaDoor

/-! Layer 21: DumpParses, of any code that keeps its contracts. (Printed by tools/genlaw21.py.) -/
namespace Go.Proofs.YtgpnbiaghokjkaaDoor
open Go.RowKit
set_option linter.unusedVariables false
set_option linter.unusedSimpArgs false
set_option maxRecDepth 100000

theorem fit_lens {c : Cfg} {t : St} (hm : c.may = 0) (hf : Fit c t) : Lens t := by
  obtain ⟨m1, m2, m3, m4, m5, m6, m7⟩ := may_all hm
  obtain ⟨h1, h2, h3, h4⟩ := hf
  have hprod : c.slots * c.fuses ≤ 512 := by
    have := Int.mul_le_mul m1.2 m3.2 (by omega) (by omega); omega
  refine ⟨by omega, by omega, by omega, fun p hp => ?_⟩
  obtain ⟨i, hi, rfl⟩ := List.getElem_of_mem hp
  have := (h4 i hi).1
  rw [List.getD_eq_getElem?_getD, List.getElem?_eq_getElem hi] at this
  simp at this
  omega
theorem parseR_lens (T : List By) : Lens (parseR T).2.1 := by
  cases h : parseL T with
  | error q =>
    obtain ⟨k, l⟩ := q
    rw [parseR_err h]
    exact ⟨by simp, by simp, by simp, fun p hp => by cases hp⟩
  | ok q =>
    obtain ⟨c, t⟩ := q
    rw [parseR_ok h]
    have h1 := (print_parse h).2.1
    exact fit_lens h1.1 h1.2.1

set_option maxHeartbeats 8000000 in
theorem l21parses_any (DM : Dmp) (Ts : List (List By)) (ao : Option Addr) (cap : Nat) (w : World) (hq : Tab w) (h : IsL w ao (Ts.map strV)) (hn : Ts.length ≤ 140737488355328) (hT : ∀ T ∈ Ts, T.length ≤ 2000000) :
    Calls Tryd.prog 5 #[.slice ao Ts.length cap] w fun e w' => e = .returned (.bool true) ∧ Below w.heap.size w w' := by
  have HAW : Hid (∀ W : World, Tab W → Calls Tryd.prog 9 #[] W fun e w' => e = .returned (.bool true) ∧ Below W.heap.size W w') := fun W hW => l21awake_any DM W hW
  have HQ : Hid (∀ W, Below w.heap.size w W → Tab W) := fun W hW => hq.on hW (Nat.le_refl _)
  have HCP : Hid (∀ (W : World) (T : List By), T.length ≤ 2000000 → Calls Tryd.prog 12 #[.string (strOf T)] W (ParP T W)) := fun W T h => DM.parse T W (by omega)
  have HRP : Hid (∀ (W : World) (T : List By), T.length ≤ 2000000 → Calls Tryd.prog 13 #[.string (strOf T)] W (ParP T W)) := fun W T h => r21parse_any T h W
  have HSM : Hid (∀ (W : World) (va vb : SV) (t : St), StV W va t → StV W vb t → Lens t → Calls Tryd.prog 14 #[.agg (va.vals t).toArray, .agg (vb.vals t).toArray] W fun e w' => e = .returned (.bool true) ∧ Below W.heap.size W w') := fun W va vb t h1 h2 h3 => r21same_any va vb t t W h1 h2 h3 h3 true (by simp)
  have HIS : Hid (∀ W, Below w.heap.size w W → ∀ i, i < Ts.length → ∃ B off, ao = some ⟨B, off, none⟩ ∧ W.cell? ⟨B, off + i, none⟩ = some (.string (strOf (Ts.getD i [])))) := fun W hW i hi => (h.below hW (Nat.le_refl _)).cell i _ (by rw [List.getElem?_map, List.getElem?_eq_getElem hi, List.getD_eq_getElem?_getD, List.getElem?_eq_getElem hi]; rfl)
  have HTL : Hid (∀ i, i < Ts.length → (Ts.getD i []).length ≤ 2000000) := fun i hi => hT _ (by rw [List.getD_eq_getElem?_getD, List.getElem?_eq_getElem hi]; exact List.getElem_mem hi)
  clear h hT hq
  obtain ⟨n, hn'⟩ : ∃ n, Ts.length = n := ⟨_, rfl⟩
  rw [hn'] at hn HIS HTL ⊢
  clear hn'
  go_enter Tryd.func5, Tryd.ntmps5
  go_wp2_with fail
  refine (HAW.out _ (HQ.out _ (Below.refl _ _))).mono ?_
  rintro e w0 ⟨rfl, hb0⟩
  have HB0 : Hid (Below w.heap.size w w0) := hb0
  clear hb0
  dsimp only
  go_wp2_with fail
  go_loopw [17] (fun iv wr => ∃ i : Nat, i ≤ n ∧ iv = .int .i64 i ∧ Hid (Below w.heap.size w wr)) (fun iv _ => n - (intOf iv).toNat)
  case atStart => exact ⟨0, by omega, rfl, HB0⟩
  case round =>
    clear HB0
    obtain ⟨i, hi, rfl, HB⟩ := hrel
    by_cases hlt : i < n
    · have y0 : (0 : Int) ≤ (i : Int) := by omega
      have y1 : (i : Int) < (n : Int) := by omega
      obtain ⟨B, off, hao, cc⟩ := HIS.out wr HB.out i hlt
      have hTi := HTL.out i hlt
      generalize Ts.getD i [] = T at *
      subst hao
      have CP := HCP.out wr T hTi
      have HRP2 : Hid (∀ W : World, Calls Tryd.prog 13 #[.string (strOf T)] W (ParP T W)) := fun W => HRP.out W T hTi
      have HLN : Hid (Lens (parseR T).2.1) := parseR_lens T
      clear hTi HTL HCP HRP
      unfold ParP at CP HRP2
      obtain ⟨PT, hPT⟩ : ∃ P, parseR T = P := ⟨_, rfl⟩
      rw [hPT] at CP HRP2 HLN
      clear hPT
      obtain ⟨c, t, k, ln⟩ := PT
      dsimp only at CP HRP2 HLN
      generalize strOf T = ST at *
      go_wp2_with fail
      refine CP.mono ?_
      rintro e w1 ⟨v1, rfl, hv1, hb1⟩
      have HV1 : Hid (∀ W, Below w1.heap.size w1 W → StV W v1 t) := fun W hW => hv1.below hW (Nat.le_refl _)
      have HB1 : Hid (Below w.heap.size w w1) := HB.out.trans (hb1.mono HB.out.size)
      clear hv1 hb1 CP cc
      unfold Tells4
      dsimp only
      have lc := cfg_len c
      have oc := cfg_one c
      have ls := sv_len v1 t
      have os := sv_one v1 t
      have zc : ∀ o : Obj, Row ((w1.alloc (.cells #[.int .i64 0, .int .i64 0, .int .i64 0, .int .i64 0, .int .i64 0, .int .i64 0, .int .i64 0] 24)).alloc o) w1.heap.size 24 ([.int .i64 0, .int .i64 0, .int .i64 0, .int .i64 0, .int .i64 0, .int .i64 0, .int .i64 0] : List Value) := fun o => (Row.at _ _ _ _ _ rfl rfl).alloc _
      have zs : ∀ o : Obj, Row ((w1.alloc o).alloc (.cells #[.slice none 0 0, .slice none 0 0, .slice none 0 0] 29)) (w1.heap.size + 1) 29 [nilS, nilS, nilS] := fun o => Row.at _ _ _ _ _ (by simp) rfl
      have zb : ∀ o o2 : Obj, Below w1.heap.size w1 ((w1.alloc o).alloc o2) := fun o o2 => ((Below.refl _ _).alloc (Nat.le_refl _) _).alloc (by simp) _
      go_upto_region 7 with (first | (refine wpList_store_Row rfl 24 _ _ rfl w1.heap.size 24 0 ([.int .i64 0, .int .i64 0, .int .i64 0, .int .i64 0, .int .i64 0, .int .i64 0, .int .i64 0] : List Value) c.vals (zc _) (by rw [lc]; decide) rfl rfl (by rw [lc]; kernel_rfl) oc ?_; intro w2a hra hsa; have zs2 := (zs _).but hsa (by omega)) | (refine wpList_store_Row rfl 29 _ _ rfl (w1.heap.size + 1) 29 0 [nilS, nilS, nilS] (v1.vals t) zs2 (by rw [ls]; decide) rfl rfl (by rw [ls]; kernel_rfl) os ?_; intro w2 hrb hsb))
      have w2_c := (row_whole hra (by rw [lc]; decide)).but hsb (by omega)
      have w2_s := row_whole hrb (by rw [ls]; decide)
      have w2_b : Below w1.heap.size w1 w2 := hsb.below (hsa.below (zb _ _) (Nat.le_refl _)) (by omega)
      clear zc zs zb zs2 hra hrb hsa hsb w2a
      have HR2 : Hid (Row w2 w1.heap.size 24 c.vals) := w2_c
      have HS2 : Hid (Row w2 (w1.heap.size + 1) 29 (v1.vals t)) := w2_s
      have HB2 : Hid (Below w1.heap.size w1 w2) := w2_b
      clear w2_c w2_s w2_b
      go_wp2_with fail
      refine (HRP2.out _).mono ?_
      rintro e w3 ⟨v3, rfl, hv3, hb3⟩
      have HV3 : Hid (∀ W, Below w3.heap.size w3 W → StV W v3 t) := fun W hW => hv3.below hW (Nat.le_refl _)
      have HR3 : Hid (∀ W, Below w3.heap.size w3 W → Row W w1.heap.size 24 c.vals) := fun W hW => (HR2.out.below hb3 HR2.out.lt).below hW (Nat.lt_of_lt_of_le HR2.out.lt hb3.size)
      have HS3 : Hid (∀ W, Below w3.heap.size w3 W → Row W (w1.heap.size + 1) 29 (v1.vals t)) := fun W hW => (HS2.out.below hb3 HS2.out.lt).below hW (Nat.lt_of_lt_of_le HS2.out.lt hb3.size)
      have HB3 : Hid (Below w1.heap.size w1 w3) := HB2.out.trans (hb3.mono HB2.out.size)
      clear hv3 hb3 HR2 HS2 HB2
      unfold Tells4
      dsimp only
      have ls3 := sv_len v3 t
      have os3 := sv_one v3 t
      have zc : ∀ o : Obj, Row ((w3.alloc (.cells #[.int .i64 0, .int .i64 0, .int .i64 0, .int .i64 0, .int .i64 0, .int .i64 0, .int .i64 0] 24)).alloc o) w3.heap.size 24 ([.int .i64 0, .int .i64 0, .int .i64 0, .int .i64 0, .int .i64 0, .int .i64 0, .int .i64 0] : List Value) := fun o => (Row.at _ _ _ _ _ rfl rfl).alloc _
      have zs : ∀ o : Obj, Row ((w3.alloc o).alloc (.cells #[.slice none 0 0, .slice none 0 0, .slice none 0 0] 29)) (w3.heap.size + 1) 29 [nilS, nilS, nilS] := fun o => Row.at _ _ _ _ _ (by simp) rfl
      have zb : ∀ o o2 : Obj, Below w3.heap.size w3 ((w3.alloc o).alloc o2) := fun o o2 => ((Below.refl _ _).alloc (Nat.le_refl _) _).alloc (by simp) _
      go_upto_region 8 with (first | (refine wpList_store_Row rfl 24 _ _ rfl w3.heap.size 24 0 ([.int .i64 0, .int .i64 0, .int .i64 0, .int .i64 0, .int .i64 0, .int .i64 0, .int .i64 0] : List Value) c.vals (zc _) (by rw [lc]; decide) rfl rfl (by rw [lc]; kernel_rfl) oc ?_; intro w4a hra hsa; have zs2 := (zs _).but hsa (by omega)) | (refine wpList_store_Row rfl 29 _ _ rfl (w3.heap.size + 1) 29 0 [nilS, nilS, nilS] (v3.vals t) zs2 (by rw [ls3]; decide) rfl rfl (by rw [ls3]; kernel_rfl) os3 ?_; intro w4 hrb hsb))
      have w4_c := (row_whole hra (by rw [lc]; decide)).but hsb (by omega)
      have w4_s := row_whole hrb (by rw [ls3]; decide)
      have w4_b : Below w3.heap.size w3 w4 := hsb.below (hsa.below (zb _ _) (Nat.le_refl _)) (by omega)
      clear zc zs zb zs2 hra hrb hsa hsb w4a
      have r1 : Row w4 w1.heap.size 24 [.int .i64 c.cells, .int .i64 c.slots, .int .i64 c.fuses, .int .i64 c.step, .int .i64 c.keys, .int .i64 c.erases, .int .i64 c.area] := HR3.out _ w4_b
      have s1 := HS3.out _ w4_b
      have r2 : Row w4 w3.heap.size 24 [.int .i64 c.cells, .int .i64 c.slots, .int .i64 c.fuses, .int .i64 c.step, .int .i64 c.keys, .int .i64 c.erases, .int .i64 c.area] := w4_c
      have s2 := w4_s
      have HB4 : Hid (Below w1.heap.size w1 w4) := HB3.out.trans (w4_b.mono HB3.out.size)
      have SM := HSM.out w4 v1 v3 t (HV1.out _ HB4.out) (HV3.out _ w4_b) HLN.out
      clear w4_c w4_s w4_b HR3 HS3 HB3 HV1 HV3 HLN oc os os3
      have a0 := s1.cell 0 (.slice v1.po t.pages.length v1.pc) rfl
      have a1 := s1.cell 1 (.slice v1.eo t.erases.length v1.ec) rfl
      have a2 := s1.cell 2 (.slice v1.bo t.blown.length v1.bc) rfl
      have b0 := s2.cell 0 (.slice v3.po t.pages.length v3.pc) rfl
      have b1 := s2.cell 1 (.slice v3.eo t.erases.length v3.ec) rfl
      have b2 := s2.cell 2 (.slice v3.bo t.blown.length v3.bc) rfl
      go_wp2_with (first | (refine wpList_load_Row rfl 24 _ rfl _ _ _ r1 rfl _ Tryd.underlying24 rfl (by kernel_rfl) ?_) | (refine wpList_load_Row rfl 24 _ rfl _ _ _ r2 rfl _ Tryd.underlying24 rfl (by kernel_rfl) ?_))
      refine SM.mono ?_
      rintro e w5 ⟨rfl, hb5⟩
      have HB5 : Hid (Below w.heap.size w w5) := (HB1.out.trans (HB4.out.mono HB1.out.size)).trans (hb5.mono (Nat.le_trans HB1.out.size HB4.out.size))
      have wi : IntKind.i64.wrap ((i : Int) + 1) = (i : Int) + 1 := i64_in _ (by omega) (by omega)
      clear r1 r2 s1 s2 a0 a1 a2 b0 b1 b2 hb5 HB4 SM
      dsimp only
      go_wp2
      exact ⟨⟨i + 1, by omega, by go_num, HB5⟩, by simp [intOf]; omega⟩
    · have y1 : ¬ (i : Int) < (n : Int) := by omega
      go_wp2
      go_ret
      exact ⟨rfl, HB.out⟩
end Go.Proofs.YtgpnbiaghokjkaaDoor
