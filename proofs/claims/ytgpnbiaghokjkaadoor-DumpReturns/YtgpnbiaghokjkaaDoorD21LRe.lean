import Derived.Test.YtgpnbiaghokjkaaDoorD21KpM
import Derived.Test.YtgpnbiaghokjkaaDoorC4Lay2
/-! Layer 21: DumpReturns, of any code that keeps its contracts. (Printed by tools/genlaw21.py.) -/
namespace Go.Proofs.YtgpnbiaghokjkaaDoor
open Go.RowKit
set_option linter.unusedVariables false
set_option linter.unusedSimpArgs false
set_option maxRecDepth 100000

/-- What Lay tells, beside Print. -/
theorem lay_prp {c : Cfg} {t : St} {w w' : World} {e : Ending} {T : List By} {k : Int} (h : LayPost c t w e w') (hp : PrP c t T k) : Below w.heap.size w w' ∧ ∃ v, e = .returned (.tuple #[v, .int .i64 k]) := by
  refine ⟨h.1, ?_⟩
  rcases h.2 with ⟨h1, h2⟩ | ⟨h1, h2, h3⟩ | ⟨h1, h2, F, h3, _⟩
  · rcases hp with ⟨g1, _⟩ | ⟨_, _, g4⟩
    · exact absurd g1 h1
    · rw [if_neg h1] at g4
      rw [may_ne h1] at h2
      subst g4
      exact ⟨_, h2⟩
  · rcases hp with ⟨_, g2, _⟩ | ⟨_, _, g4⟩
    · exact absurd g2 h2
    · rw [if_pos h1] at g4
      subst g4
      exact ⟨_, h3⟩
  · rcases hp with ⟨_, _, _, g4⟩ | ⟨g1, _, _⟩
    · subst g4
      exact ⟨_, h3⟩
    · exact absurd ⟨h1, h2⟩ g1

set_option maxHeartbeats 8000000 in
theorem l21returns_any (DM : Dmp) (c : Cfg) (v : SV) (t : St) (w : World) (hq : Tab w) (h : StV w v t) (hl : Lens t) (he : ∀ e ∈ t.erases, -9223372036854775808 ≤ e ∧ e < 9223372036854775808) :
    Calls Tryd.prog 6 #[.agg c.vals.toArray, .agg (v.vals t).toArray] w fun e w' => e = .returned (.bool true) ∧ Below w.heap.size w w' := by
  have HAW : Hid (∀ W : World, Tab W → Calls Tryd.prog 9 #[] W fun e w' => e = .returned (.bool true) ∧ Below W.heap.size W w') := fun W hW => l21awake_any DM W hW
  have HQ : Hid (∀ W, Below w.heap.size w W → Tab W) := fun W hW => hq.on hW (Nat.le_refl _)
  have HPR : Hid (∀ W, Below w.heap.size w W → Calls Tryd.prog 10 #[.agg c.vals.toArray, .agg (v.vals t).toArray] W (PrintP c t W)) := fun W hW => DM.print c v t W (hq.on hW (Nat.le_refl _)) (h.below hW (Nat.le_refl _)) hl (fun e h => (he e h).2)
  have HLY : Hid (∀ W, Below w.heap.size w W → Calls Tryd.prog 15 #[.agg c.vals.toArray, .agg (v.vals t).toArray] W (LayPost c t W)) := fun W hW => clay_any c v t W (h.below hW (Nat.le_refl _)) hl.1 hl.2.1 hl.2.2.1 hl.2.2.2
  have HCP : Hid (∀ (W : World) (T : List By), T.length ≤ 4000000 → Calls Tryd.prog 12 #[.string (strOf T)] W (ParP T W)) := fun W T h => DM.parse T W h
  have HSM : Hid (∀ (W : World) (va : SV), StV W va t → Below w.heap.size w W → Calls Tryd.prog 14 #[.agg (va.vals t).toArray, .agg (v.vals t).toArray] W fun e w' => e = .returned (.bool true) ∧ Below W.heap.size W w') := fun W va h1 h2 => r21same_any va v t t W h1 (h.below h2 (Nat.le_refl _)) hl hl true (by simp)
  have HIS : Hid (∀ W, Below w.heap.size w W → ∀ i, i < t.erases.length → ∃ B off, v.eo = some ⟨B, off, none⟩ ∧ W.cell? ⟨B, off + i, none⟩ = some (.int .i64 (t.erases.getD i 0))) := fun W hW i hi => (h.er.below hW (Nat.le_refl _)).cell i _ (by rw [List.getElem?_map, List.getElem?_eq_getElem hi, List.getD_eq_getElem?_getD, List.getElem?_eq_getElem hi]; rfl)
  have H32 : Hid (∀ p ∈ t.pages, ∀ x ∈ p, x.length = 32) := h.by8
  have hel := hl.2.1
  have r0 : Row ((w.alloc (.cells c.vals.toArray 24)).alloc (.cells (v.vals t).toArray 29)) w.heap.size 24 c.vals := (Row.at _ _ _ _ _ rfl rfl).alloc _
  have s0 : Row ((w.alloc (.cells c.vals.toArray 24)).alloc (.cells (v.vals t).toArray 29)) (w.heap.size + 1) 29 (v.vals t) := Row.at _ _ _ _ _ (by simp) rfl
  have b0 : Below w.heap.size w ((w.alloc (.cells c.vals.toArray 24)).alloc (.cells (v.vals t).toArray 29)) := ((Below.refl _ _).alloc (Nat.le_refl _) _).alloc (by simp) _
  have lc := cfg_len c
  have ls := sv_len v t
  obtain ⟨CV, hCV⟩ : ∃ CV, c.vals = CV := ⟨_, rfl⟩
  have HEC : Hid (CV = [.int .i64 c.cells, .int .i64 c.slots, .int .i64 c.fuses, .int .i64 c.step, .int .i64 c.keys, .int .i64 c.erases, .int .i64 c.area]) := by rw [← hCV]; exact rfl
  have HECv : Hid (c.vals = CV) := hCV
  obtain ⟨XS, hXS⟩ : ∃ XS, v.vals t = XS := ⟨_, rfl⟩
  have HEX : Hid (XS = [.slice v.po t.pages.length v.pc, .slice v.eo t.erases.length v.ec, .slice v.bo t.blown.length v.bc]) := by rw [← hXS]; exact rfl
  rw [hCV, hXS] at HPR HLY r0 s0 b0 ⊢
  rw [hXS] at HSM ls
  rw [hCV] at lc
  have HR0 : Hid (Row ((w.alloc (.cells CV.toArray 24)).alloc (.cells XS.toArray 29)) w.heap.size 24 CV) := r0
  have HS0 : Hid (Row ((w.alloc (.cells CV.toArray 24)).alloc (.cells XS.toArray 29)) (w.heap.size + 1) 29 XS) := s0
  have HB0 : Hid (Below w.heap.size w ((w.alloc (.cells CV.toArray 24)).alloc (.cells XS.toArray 29))) := b0
  clear r0 s0 b0 h he hl hCV hXS hq
  go_enter Tryd.func6, Tryd.ntmps6
  go_wp2_with fail
  generalize (w.alloc (.cells CV.toArray 24)).alloc (.cells XS.toArray 29) = W0 at *
  refine (HAW.out _ (HQ.out _ HB0.out)).mono ?_
  rintro e w1 ⟨rfl, hb1⟩
  have r1 : Row w1 w.heap.size 24 CV := HR0.out.below hb1 HR0.out.lt
  have s1 : Row w1 (w.heap.size + 1) 29 XS := HS0.out.below hb1 HS0.out.lt
  have HB1 : Hid (Below w.heap.size w w1) := HB0.out.trans (hb1.mono HB0.out.size)
  clear HR0 HS0 HB0 hb1
  dsimp only
  go_wp2_with (first | (refine wpList_load_Row rfl 24 _ rfl _ _ CV r1 rfl _ Tryd.underlying24 rfl (by rw [lc]; kernel_rfl) ?_) | (refine wpList_load_Row rfl 29 _ rfl _ _ XS s1 rfl _ Tryd.underlying29 rfl (by rw [ls]; kernel_rfl) ?_))
  refine (HPR.out _ HB1.out).mono ?_
  rintro e w2 ⟨T, k, hp1, rfl, hb2⟩
  have r2 : Row w2 w.heap.size 24 CV := r1.below hb2 r1.lt
  have s2 : Row w2 (w.heap.size + 1) 29 XS := s1.below hb2 s1.lt
  have HB2 : Hid (Below w.heap.size w w2) := HB1.out.trans (hb2.mono HB1.out.size)
  have HP1 : Hid (PrP c t T k) := hp1
  clear r1 s1 HB1 hb2 hp1
  dsimp only
  obtain ⟨ST, hST⟩ : ∃ S, strOf T = S := ⟨_, rfl⟩
  rw [hST]
  have HST : Hid (strOf T = ST) := hST
  clear hST
  go_wp2_with (first | (refine wpList_load_Row rfl 24 _ rfl _ _ CV r2 rfl _ Tryd.underlying24 rfl (by rw [lc]; kernel_rfl) ?_) | (refine wpList_load_Row rfl 29 _ rfl _ _ XS s2 rfl _ Tryd.underlying29 rfl (by rw [ls]; kernel_rfl) ?_))
  refine (HLY.out _ HB2.out).mono ?_
  intro e w3 hlp
  obtain ⟨hb3, pv, rfl⟩ := lay_prp hlp HP1.out
  have r3 : Row w3 w.heap.size 24 CV := r2.below hb3 r2.lt
  have s3 : Row w3 (w.heap.size + 1) 29 XS := s2.below hb3 s2.lt
  have HB3 : Hid (Below w.heap.size w w3) := HB2.out.trans (hb3.mono HB2.out.size)
  clear hlp r2 s2 HB2 hb3 HPR HLY
  dsimp only
  rcases HP1.out with ⟨hma, hfi, rfl, rfl⟩ | ⟨hno, rfl, hk⟩
  · have HF32 : Hid (Fit32 c t) := ⟨hma, hfi, H32.out⟩
    have s3e := s3
    rw [HEX.out] at s3e
    have c1 := s3e.cell 1 _ rfl
    clear hma hfi HP1 s3e
    go_wp2_with fail
    go_loopw [45] (fun iv wr => ∃ i : Nat, i ≤ t.erases.length ∧ iv = .int .i64 i ∧ wr = w3 ∧ Hid (∀ j, j < i → t.erases.getD j 0 ≤ 2147483647)) (fun iv _ => t.erases.length - (intOf iv).toNat)
    case atStart => exact ⟨0, by omega, rfl, rfl, fun j hj => by omega⟩
    case round =>
      obtain ⟨i, hi, rfl, rfl, HLE⟩ := hrel
      by_cases hlt : i < t.erases.length
      · have y0 : (0 : Int) ≤ (i : Int) := by omega
        have y1 : (i : Int) < (t.erases.length : Int) := by omega
        obtain ⟨B, off, heo, cc⟩ := HIS.out wr HB3.out i hlt
        have HEO : Hid (v.eo = some ⟨B, off, none⟩) := heo
        rw [heo]
        clear heo
        by_cases hbig : t.erases.getD i 0 > 2147483647
        · generalize t.erases.getD i 0 = E at *
          go_wp2
          go_ret
          exact ⟨rfl, HB3.out⟩
        · have hN : t.erases.getD i 0 ≤ 2147483647 := by omega
          have HLE2 : Hid (∀ j, j < i + 1 → t.erases.getD j 0 ≤ 2147483647) := fun j hj => by
            rcases Nat.lt_succ_iff_lt_or_eq.1 hj with h | h
            · exact HLE.out j h
            · rw [h]; exact hN
          have wi : IntKind.i64.wrap ((i : Int) + 1) = (i : Int) + 1 := i64_in _ (by omega) (by omega)
          clear HLE
          generalize t.erases.getD i 0 = E at *
          go_wp2
          exact ⟨⟨i + 1, by omega, by go_num, by first | trivial | rfl, HLE2⟩, by simp [intOf]; omega⟩
      · have y1 : ¬ (i : Int) < (t.erases.length : Int) := by omega
        have HALL : Hid (∀ e ∈ t.erases, e ≤ 2147483647) := fun e hem => by
          obtain ⟨j, hj, rfl⟩ := List.getElem_of_mem hem
          have := HLE.out j (by omega)
          rw [List.getD_eq_getElem?_getD, List.getElem?_eq_getElem hj] at this
          exact this
        have HPP : Hid (parseL (printL c t) = .ok (c, t)) := parse_print HF32.out HALL.out
        have CP := HCP.out wr (printL c t) (printL_len HF32.out)
        unfold ParP at CP
        rw [parseR_ok HPP.out, HST.out] at CP
        dsimp only at CP
        clear HLE HALL HPP HF32 HST c1
        go_wp2_with fail
        refine CP.mono ?_
        rintro e w4 ⟨v4, rfl, hv4, hb4⟩
        have HV4 : Hid (∀ W, Below w4.heap.size w4 W → StV W v4 t) := fun W hW => hv4.below hW (Nat.le_refl _)
        have HR4 : Hid (∀ W, Below w4.heap.size w4 W → Row W w.heap.size 24 CV) := fun W hW => (r3.below hb4 r3.lt).below hW (Nat.lt_of_lt_of_le r3.lt hb4.size)
        have HS4 : Hid (∀ W, Below w4.heap.size w4 W → Row W (w.heap.size + 1) 29 XS) := fun W hW => (s3.below hb4 s3.lt).below hW (Nat.lt_of_lt_of_le s3.lt hb4.size)
        have HB4 : Hid (Below w.heap.size w w4) := HB3.out.trans (hb4.mono HB3.out.size)
        clear hv4 hb4 CP r3 s3 HB3
        unfold Tells4
        dsimp only
        rw [HECv.out]
        have oc := cfg_one c
        rw [HECv.out] at oc
        have ls4 := sv_len v4 t
        have os4 := sv_one v4 t
        have zc : ∀ o : Obj, Row ((w4.alloc (.cells #[.int .i64 0, .int .i64 0, .int .i64 0, .int .i64 0, .int .i64 0, .int .i64 0, .int .i64 0] 24)).alloc o) w4.heap.size 24 ([.int .i64 0, .int .i64 0, .int .i64 0, .int .i64 0, .int .i64 0, .int .i64 0, .int .i64 0] : List Value) := fun o => (Row.at _ _ _ _ _ rfl rfl).alloc _
        have zs : ∀ o : Obj, Row ((w4.alloc o).alloc (.cells #[.slice none 0 0, .slice none 0 0, .slice none 0 0] 29)) (w4.heap.size + 1) 29 [nilS, nilS, nilS] := fun o => Row.at _ _ _ _ _ (by simp) rfl
        have zb : ∀ o o2 : Obj, Below w4.heap.size w4 ((w4.alloc o).alloc o2) := fun o o2 => ((Below.refl _ _).alloc (Nat.le_refl _) _).alloc (by simp) _
        go_upto_region 14 with (first | (refine wpList_store_Row rfl 24 _ _ rfl w4.heap.size 24 0 ([.int .i64 0, .int .i64 0, .int .i64 0, .int .i64 0, .int .i64 0, .int .i64 0, .int .i64 0] : List Value) CV (zc _) (by rw [lc]; decide) rfl rfl (by rw [lc]; kernel_rfl) oc ?_; intro w5a hra hsa; have zs2 := (zs _).but hsa (by omega)) | (refine wpList_store_Row rfl 29 _ _ rfl (w4.heap.size + 1) 29 0 [nilS, nilS, nilS] (v4.vals t) zs2 (by rw [ls4]; decide) rfl rfl (by rw [ls4]; kernel_rfl) os4 ?_; intro w5 hrb hsb))
        have w5_c := (row_whole hra (by rw [lc]; decide)).but hsb (by omega)
        have w5_s := row_whole hrb (by rw [ls4]; decide)
        have w5_b : Below w4.heap.size w4 w5 := hsb.below (hsa.below (zb _ _) (Nat.le_refl _)) (by omega)
        clear zc zs zb zs2 hra hrb hsa hsb w5a
        have r5 := HR4.out _ w5_b
        have s5 := HS4.out _ w5_b
        have q5 := w5_c
        rw [HEC.out] at r5 q5
        rw [HEX.out] at s5
        have p0 := w5_s.cell 0 (.slice v4.po t.pages.length v4.pc) rfl
        have p1 := w5_s.cell 1 (.slice v4.eo t.erases.length v4.ec) rfl
        have p2 := w5_s.cell 2 (.slice v4.bo t.blown.length v4.bc) rfl
        have x0 := s5.cell 0 _ rfl
        have x1 := s5.cell 1 _ rfl
        have x2 := s5.cell 2 _ rfl
        have SM := HSM.out w5 v4 (HV4.out _ w5_b) (HB4.out.trans (w5_b.mono HB4.out.size))
        rw [HEX.out] at SM
        have d0 := r5.cell 0 _ rfl
        have d1 := r5.cell 1 _ rfl
        have d2 := r5.cell 2 _ rfl
        have d3 := r5.cell 3 _ rfl
        have d4 := r5.cell 4 _ rfl
        have d5 := r5.cell 5 _ rfl
        have d6 := r5.cell 6 _ rfl
        have f0 := q5.cell 0 _ rfl
        have f1 := q5.cell 1 _ rfl
        have f2 := q5.cell 2 _ rfl
        have f3 := q5.cell 3 _ rfl
        have f4 := q5.cell 4 _ rfl
        have f5 := q5.cell 5 _ rfl
        have f6 := q5.cell 6 _ rfl
        have HB5 : Hid (Below w.heap.size w w5) := HB4.out.trans (w5_b.mono HB4.out.size)
        clear w5_c w5_s w5_b r5 s5 q5 HR4 HS4 HV4 HB4 oc os4
        go_wp2_with fail
        refine SM.mono ?_
        rintro e w6 ⟨rfl, hb6⟩
        have HB6 : Hid (Below w.heap.size w w6) := HB5.out.trans (hb6.mono HB5.out.size)
        dsimp only
        go_wp2
        go_ret
        exact ⟨rfl, HB6.out⟩
  · have hk0 : ¬ k = 0 := by rw [hk]; split <;> decide
    have hk1 : (k != 0) = true := by simp [hk0]
    have hST0 : ST = { data := #[] } := by rw [← HST.out]; rfl
    subst hST0
    clear hk HP1 HST hno
    go_wp2
    go_ret
    exact ⟨by first | rfl | simp, HB3.out⟩
end Go.Proofs.YtgpnbiaghokjkaaDoor
