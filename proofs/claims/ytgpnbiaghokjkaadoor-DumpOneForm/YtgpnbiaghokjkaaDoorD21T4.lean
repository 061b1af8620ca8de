import Derived.Test.YtgpnbiaghokjkaaDoorD21KM
/-! Layer 21, the landed code: its first line. -/
namespace Go.Proofs.YtgpnbiaghokjkaaDoor
open Go.RowKit
set_option linter.unusedVariables false
set_option linter.unusedSimpArgs false
set_option maxRecDepth 100000

theorem may_one (c : Cfg) (h : ¬ c.may = 0) : c.may = 1 := by
  unfold Cfg.may at *
  split at h <;> simp_all
set_option maxHeartbeats 2000000 in
theorem configOf_any (n0 n1 n2 n3 n4 n5 n6 : Nat) (w : World) : Calls Tryd.prog 70 #[.agg #[nI n0, nI n1, nI n2, nI n3, nI n4, nI n5, nI n6]] w fun e w' => e = .returned (.agg (⟨n0, n1, n2, n3, n4, n5, n6⟩ : Cfg).vals.toArray) ∧ Below w.heap.size w w' := by
  unfold nI
  have r1 := Row.at w 81 [.int .i64 (n0 : Int), .int .i64 n1, .int .i64 n2, .int .i64 n3, .int .i64 n4, .int .i64 n5, .int .i64 n6] _ _ rfl rfl
  have r2 := Row.at (w.alloc (.cells #[.int .i64 (n0 : Int), .int .i64 n1, .int .i64 n2, .int .i64 n3, .int .i64 n4, .int .i64 n5, .int .i64 n6] 81)) 24 [.int .i64 0, .int .i64 0, .int .i64 0, .int .i64 0, .int .i64 0, .int .i64 0, .int .i64 0] _ _ rfl rfl
  have b2 : Below w.heap.size w ((w.alloc (.cells #[.int .i64 (n0 : Int), .int .i64 n1, .int .i64 n2, .int .i64 n3, .int .i64 n4, .int .i64 n5, .int .i64 n6] 81)).alloc (.cells #[.int .i64 0, .int .i64 0, .int .i64 0, .int .i64 0, .int .i64 0, .int .i64 0, .int .i64 0] 24)) := ((Below.refl _ _).alloc (Nat.le_refl _) _).alloc (by simp) _
  have hsz : (w.alloc (.cells #[.int .i64 (n0 : Int), .int .i64 n1, .int .i64 n2, .int .i64 n3, .int .i64 n4, .int .i64 n5, .int .i64 n6] 81)).heap.size = w.heap.size + 1 := by simp
  rw [hsz] at r2
  go_enter Tryd.func70, Tryd.ntmps70
  go_wp2_with (refine wpList_store_Row rfl 24 _ _ rfl (w.heap.size + 1) 24 0 _ (⟨n0, n1, n2, n3, n4, n5, n6⟩ : Cfg).vals r2 (by simp [Cfg.vals]) rfl rfl (by simp only [Cfg.vals, List.length_cons, List.length_nil]; kernel_rfl) (by simp [Value.oneCell', Cfg.vals]) ?_; intro w9 hr9 hs9)
  have hr := row_whole hr9 (by simp [Cfg.vals])
  exact bodyPost_ret_by (results_Row Tryd.results70 _ w9 (w.heap.size + 1) 24 _ _ rfl hr Tryd.underlying24 rfl (by simp only [Cfg.vals, List.length_cons, List.length_nil]; kernel_rfl)) rfl ⟨rfl, hs9.below b2 (by omega)⟩
/-- The reader ahead of its first line. -/
def rd0 (ln : Nat) : List Value := rdS ln cfg0 [nilS, nilS, nilS] 0 0
/-- What the first line makes. -/
def cfC (L : List By) : Option Cfg := (lineC wChip 7 L).bind cfgOf
/-- What takeConfig leaves. -/
def TkC (N R ln : Nat) (L : List By) (w : World) (e : Ending) (w' : World) : Prop :=
  match cfC L with
  | none => TkE N R ln 5 w e w'
  | some c => if c.may = 0 then e = .returned (.tuple #[]) ∧ BX N R w w' ∧ ∃ pB eB bB ps, RdM N R ln c (freshC c) pB eB bB ps 0 0 w' else TkE N R ln 1 w e w'
theorem takeNs_succ (k : Nat) (r : List By) : takeNs (k + 1) r = (match numC r with | none => none | some (n, t) => (takeNs k t).map fun p => (n :: p.1, p.2)) := by
  rw [takeNs]
  cases numC r with
  | none => rfl
  | some p =>
    obtain ⟨n, t⟩ := p
    dsimp only
    cases takeNs k t with
    | none => rfl
    | some q => rfl
theorem numC_le {r : List By} {m : Nat} {t : List By} (h : numC r = some (m, t)) : t.length ≤ r.length := Nat.le_of_lt (numC_len h)
def arrC (ns : List Nat) : List Value := (ns ++ List.replicate (7 - ns.length) 0).map nI
theorem arrC_set (ns : List Nat) (n : Nat) (h : ns.length < 7) : (arrC ns).set ns.length (nI n) = arrC (ns ++ [n]) := by
  unfold arrC
  rw [← List.map_set, List.length_append, List.length_singleton]
  obtain ⟨k, hk⟩ : ∃ k, 7 - ns.length = k + 1 := ⟨7 - ns.length - 1, by omega⟩
  have hk2 : 7 - (ns.length + 1) = k := by omega
  rw [hk, hk2, List.replicate_succ, set_mid, List.append_assoc]; rfl
end Go.Proofs.YtgpnbiaghokjkaaDoor

/-! Layer 21, the landed code: takeConfig. -/
namespace Go.Proofs.YtgpnbiaghokjkaaDoor
open Go.RowKit
set_option linter.unusedVariables false
set_option linter.unusedSimpArgs false
set_option maxRecDepth 100000

theorem vals_one (c : Cfg) : ∀ v ∈ c.vals, v.oneCell' = true := by simp [Value.oneCell', Cfg.vals]
theorem own_one3 (t : St) (pB eB bB : Nat) : ∀ v ∈ ownVals t pB eB bB, v.oneCell' = true := by simp [Value.oneCell', ownVals]
set_option maxHeartbeats 4000000 in
theorem takeConfig_any (N R ln : Nat) (L : List By) (hL : L.length ≤ 140737488355328) (w : World) (hr : Row w R 61 (rd0 ln)) (hN : N ≤ w.heap.size) :
    Calls Tryd.prog 58 #[.pointer (some ⟨R, 0, none⟩), .string (strOf L)] w (TkC N R ln L w) := by
  have HA : Hid (∀ W : World, Calls Tryd.prog 66 #[.string (strOf L), .string { data := #[99, 104, 105, 112] }] W fun e w' => e = aftE L wChip ∧ w' = W) := fun W => by
    rw [k_chip]; exact after_any L wChip hL (by decide) W
  have HLN : Hid (∀ W, Below w.heap.size w W → LnAt R ln W) := fun W hb => (hr.below hb hr.lt).cell 0 _ rfl
  have hRl := hr.lt
  have HR : Hid (Row w R 61 (rd0 ln)) := hr
  clear hr
  by_cases h1 : L.take wChip.length = wChip
  · have HE : aftE L wChip = .returned (.string (strOf (L.drop wChip.length))) := by unfold aftE; exact if_pos h1
    rw [HE] at HA
    have HC : Hid (cfC L = (match takeNs 7 (L.drop wChip.length) with | some (ns, u) => if u = [10#8] then cfgOf ns else none | none => none)) := by
      show cfC L = _
      unfold cfC lineC
      rw [if_pos h1]
      cases takeNs 7 (L.drop wChip.length) with
      | none => rfl
      | some p =>
        obtain ⟨ns, u⟩ := p
        dsimp only
        by_cases hu : u = [10#8]
        · rw [if_pos hu, if_pos hu]; rfl
        · rw [if_neg hu, if_neg hu]; rfl
    have hsl : (L.drop wChip.length).length ≤ 140737488355328 := by rw [List.length_drop]; omega
    clear HE h1
    generalize L.drop wChip.length = r0 at *
    generalize hSL : strOf L = SL at *
    have HZ : Hid (Row (w.alloc (.cells (arrC []).toArray 81)) w.heap.size 81 (arrC [])) := Row.at w _ _ _ _ rfl rfl
    have HB0 : Hid (Below w.heap.size w (w.alloc (.cells (arrC []).toArray 81))) := (Below.refl _ _).alloc (Nat.le_refl _) _
    go_enter Tryd.func58, Tryd.ntmps58
    go_wp2_with (refine (HA.out _).mono ?_; rintro e w1 ⟨rfl, hw1⟩; rw [hw1]; clear hw1 w1)
    clear HA
    go_loopw [4, 11] (fun sv iv wr => ∃ (i : Nat) (ns : List Nat) (ri : List By), i ≤ 7 ∧ Hid (ns.length = i) ∧ ri.length ≤ 140737488355328 ∧ iv = .int .i64 i ∧ sv = .string (strOf ri) ∧ Hid (takeNs 7 r0 = (takeNs (7 - i) ri).map fun p => (ns ++ p.1, p.2)) ∧ Hid (Row wr w.heap.size 81 (arrC ns)) ∧ Hid (Below w.heap.size w wr)) (fun _ iv _ => 7 - (intOf iv).toNat)
    case atStart => exact ⟨0, [], r0, by omega, rfl, hsl, rfl, rfl, by show takeNs 7 r0 = _; cases takeNs 7 r0 <;> rfl, HZ, HB0⟩
    case round =>
      clear HZ HB0
      obtain ⟨i, ns, ri, hi, hns, hri, rfl, rfl, HT, HW, HB⟩ := hrel
      by_cases hlt : i < 7
      · have y0 : (0 : Int) ≤ (i : Int) := by omega
        have y1 : (i : Int) < 7 := by omega
        have HN1 : Hid (∀ W : World, Calls Tryd.prog 67 #[.string (strOf ri)] W fun e w' => e = numE ri ∧ Dr W w') := fun W => number_any ri hri W
        obtain ⟨k, hk⟩ : ∃ k, 7 - i = k + 1 := ⟨7 - i - 1, by omega⟩
        rw [hk, takeNs_succ k ri] at HT
        unfold numE at HN1
        cases hc : numC ri with
        | none =>
          rw [hc] at HN1 HT
          have HX : Hid (cfC L = none) := by show cfC L = none; rw [HC.out, HT.out]; rfl
          clear HC HT HW
          generalize strOf ri = SI at *
          go_wp2_with (refine (HN1.out _).mono ?_; rintro e w1 ⟨rfl, hd⟩)
          have hb : Below w.heap.size w w1 := Below_dr HB.out hd
          refine ⟨rfl, ?_⟩
          unfold TkC
          rw [HX.out]
          exact ⟨rfl, HLN.out _ hb, .ofB hb hN⟩
        | some p =>
          obtain ⟨n, t⟩ := p
          rw [hc] at HN1 HT
          dsimp only at HN1 HT
          have htl := numC_le hc
          have HT2 : Hid (takeNs 7 r0 = (takeNs (7 - (i + 1)) t).map fun p => ((ns ++ [n]) ++ p.1, p.2)) := by
            show takeNs 7 r0 = _
            rw [HT.out, show 7 - (i + 1) = k by omega]
            cases takeNs k t with
            | none => rfl
            | some q => simp
          clear HT hc
          generalize strOf ri = SI at *
          generalize hST : strOf t = SJ at *
          have HSJ : Hid (strOf t = SJ) := hST
          clear hST
          have HCL : Hid (∃ v0, (arrC ns)[i]? = some v0) := ⟨_, List.getElem?_eq_getElem (by unfold arrC; rw [List.length_map, List.length_append, List.length_replicate, hns.out]; omega)⟩
          go_wp2_with (refine (HN1.out _).mono ?_; clear HN1; rintro e w1 ⟨rfl, hd⟩; have rw1 := HW.out.dr hd; obtain ⟨v0, hv0⟩ := HCL.out; have cc1 := rw1.cell i v0 hv0; have ff1 := rw1.frozen i; have HB1 : Hid (Below w.heap.size w w1) := Below_dr HB.out hd; have HR1 : Hid (Row w1 w.heap.size 81 (arrC ns)) := rw1; clear rw1 hd)
          refine ⟨⟨i + 1, ns ++ [n], t, by omega, by show _ = _; rw [List.length_append, hns.out]; rfl, by omega, by go_num, by rw [HSJ.out], HT2, ?_, (SameBut.setCell _ _ _ _).below HB1.out (Nat.le_refl _)⟩, by simp [intOf]; omega⟩
          show Row _ _ _ _
          have := HR1.out.set i (nI n)
          rw [← arrC_set ns n (by rw [hns.out]; exact hlt), hns.out]
          exact this
      · obtain rfl : i = 7 := by omega
        have y1 : ¬ ((7 : Int) < 7) := by omega
        have HT2 : Hid (takeNs 7 r0 = some (ns, ri)) := by
          show takeNs 7 r0 = _
          rw [HT.out]
          show some (ns ++ [], ri) = _
          rw [List.append_nil]
        have HEN : Hid (∀ W : World, Calls Tryd.prog 68 #[.string (strOf ri)] W fun e w' => e = mustE (decide (ri = [10#8])) ∧ w' = W) := fun W => ended_any ri W
        by_cases hlf : ri = [10#8]
        · rw [decide_eq_true hlf] at HEN
          have HC2 : Hid (cfC L = cfgOf ns) := by
            show cfC L = _
            rw [HC.out, HT2.out]
            show (if ri = [10#8] then cfgOf ns else none) = _
            rw [if_pos hlf]
          clear HC HT HT2 hlf
          generalize strOf ri = SI at *
          match ns, hns with
          | [], h => exact absurd h.out (by decide)
          | [_], h => exact absurd h.out (by simp)
          | [_, _], h => exact absurd h.out (by simp)
          | [_, _, _], h => exact absurd h.out (by simp)
          | [_, _, _, _], h => exact absurd h.out (by simp)
          | [_, _, _, _, _], h => exact absurd h.out (by simp)
          | [_, _, _, _, _, _], h => exact absurd h.out (by simp)
          | _ :: _ :: _ :: _ :: _ :: _ :: _ :: _ :: _, h => exact absurd h.out (by simp)
          | [n0, n1, n2, n3, n4, n5, n6], _ =>
            have HCF : Hid (∀ W : World, Calls Tryd.prog 70 #[.agg #[nI n0, nI n1, nI n2, nI n3, nI n4, nI n5, nI n6]] W fun e w' => e = .returned (.agg (⟨n0, n1, n2, n3, n4, n5, n6⟩ : Cfg).vals.toArray) ∧ Below W.heap.size W w') := fun W => configOf_any n0 n1 n2 n3 n4 n5 n6 W
            have HC3 : Hid (cfC L = some ⟨n0, n1, n2, n3, n4, n5, n6⟩) := HC2.out
            have hrw : Row wr w.heap.size 81 [nI n0, nI n1, nI n2, nI n3, nI n4, nI n5, nI n6] := HW.out
            clear HC2 HW
            generalize (⟨n0, n1, n2, n3, n4, n5, n6⟩ : Cfg) = c at *
            have HNW : Hid (∀ W : World, Calls Tryd.prog 69 #[.agg c.vals.toArray] W (NewPost c W)) := fun W => cnew_any c W
            generalize hcv : c.vals.toArray = CV at *
            have HCV : Hid (c.vals.toArray = CV) := hcv
            clear hcv
            have HCG : Hid (∀ (F : RF) (W : World), CAt W F (layS c (freshC c)) ⟨#[]⟩ → Calls Tryd.prog 71 #[.pointer (some ⟨F.g, 0, none⟩)] W fun e w' => e = .returned (.agg CV) ∧ Below W.heap.size W w') := fun F W h => by rw [← HCV.out]; exact cconfig_any F _ _ W h
            have HST : Hid (∀ (F : RF) (W : World), CAt W F (layS c (freshC c)) ⟨#[]⟩ → Calls Tryd.prog 72 #[.pointer (some ⟨F.g, 0, none⟩)] W (AgainPost (freshC c) W)) := fun F W h => cstate_any F _ _ W h
            by_cases hm : c.may = 0
            · have HM : Hid (c.may = 0) := hm
              clear hm
              go_wp2_with (first
                | (refine (HEN.out _).mono ?_; clear HEN; rintro e w1 ⟨rfl, hw1⟩; rw [hw1]; clear hw1 w1; dsimp only [mustE])
                | (refine wpList_load_Row rfl 81 (.tmp 5) rfl w.heap.size 81 [nI n0, nI n1, nI n2, nI n3, nI n4, nI n5, nI n6] hrw rfl _ Tryd.underlying81 rfl (by kernel_rfl) ?_)
                | (refine (HCF.out _).mono ?_; clear HCF hrw; rintro e w2 ⟨rfl, hb2⟩; have HB2 : Hid (Below w.heap.size w w2) := HB.out.trans (hb2.mono HB.out.size); clear hb2 HB)
                | (refine (HNW.out _).mono ?_; clear HNW; rintro e w3 hnp; obtain ⟨hb3, ⟨hbad, _⟩ | ⟨_, F, rfl, hca, hfb⟩⟩ := hnp; exact absurd HM.out hbad; have HB3 : Hid (Below w.heap.size w w3) := HB2.out.trans (hb3.mono HB2.out.size); have HCA : Hid (CAt w3 F (layS c (freshC c)) ⟨#[]⟩) := hca; clear hb3 HB2 hca hfb)
                | (have hz := HCG; clear hz; refine (HCG.out F _ HCA.out).mono ?_; clear HCG; rintro e w4 ⟨rfl, hb4⟩; have HB4 : Hid (Below w.heap.size w w4) := HB3.out.trans (hb4.mono HB3.out.size); have HCB : Hid (CAt w4 F (layS c (freshC c)) ⟨#[]⟩) := HCA.out.below hb4 (Nat.le_refl _); clear hb4 HB3 HCA)
                | (refine (HST.out F _ HCB.out).mono ?_; clear HST HCB; rintro e w5 ⟨pB, eB, bB, ps, rfl, hox, hb5⟩; have HB5 : Hid (Below w.heap.size w w5) := HB4.out.trans (hb5.mono HB4.out.size); have HOX : Hid (OwnX w5 w4.heap.size (freshC c) pB eB bB ps) := hox; have HRz : Hid (R < w4.heap.size ∧ N ≤ w4.heap.size) := ⟨Nat.lt_of_lt_of_le hRl HB4.out.size, Nat.le_trans hN HB4.out.size⟩; have HR5 : Hid (Row w5 R 61 (rd0 ln)) := HR.out.below HB5.out hRl; clear hox hb5 HB4)
                | (refine wpList_store_Row rfl 24 _ _ rfl R 61 1 (rd0 ln) c.vals HR5.out (by simp [rd0, rdS, Cfg.vals]) rfl (by rw [HCV.out]; rfl) (by simp only [Cfg.vals, List.length_cons, List.length_nil]; kernel_rfl) (vals_one c) ?_; clear HR5; intro w6 hr6 hs6; have HR6 : Hid (Row w6 R 61 (rdS ln c [nilS, nilS, nilS] 0 0)) := hr6; have HS6 : Hid (SameBut R w5 w6) := hs6; clear hr6 hs6)
                | (refine wpList_store_Row rfl 29 _ _ rfl R 61 8 (rdS ln c [nilS, nilS, nilS] 0 0) (ownVals (freshC c) pB eB bB) HR6.out (by simp [rdS, Cfg.vals, ownVals]) rfl rfl (by simp only [ownVals, List.length_cons, List.length_nil]; kernel_rfl) (own_one3 _ _ _ _) ?_; clear HR6; intro w7 hr7 hs7))
              first | go_end0 | skip
              unfold TkC
              rw [HC3.out]
              dsimp only
              rw [if_pos HM.out]
              have hlo : ∀ b ∈ pB :: eB :: bB :: ps.map (·.1), b ≠ R := fun b hb e => by have := HOX.out.lo b hb; have := HRz.out.1; omega
              have ho7 : OwnX w7 N (freshC c) pB eB bB ps := ((HOX.out.keep fun b hb => HS6.out.block b (hlo b hb)).keep fun b hb => hs7.block b (hlo b hb)).base HRz.out.2
              have hr8 : Row w7 R 61 (rdS ln c (ownVals (freshC c) pB eB bB) 0 0) := hr7
              exact ⟨rfl, ((BX.ofB HB5.out hN).but HS6.out (.inl rfl)).but hs7 (.inl rfl), pB, eB, bB, ps, hr8, ho7, freshN_8 _ _ _, by rw [hs7.size, HS6.out.size]; exact Nat.le_trans hN HB5.out.size⟩
            · have hm1 := may_one c hm
              have HM : Hid (¬ c.may = 0) := hm
              clear hm
              go_wp2_with (first
                | (refine (HEN.out _).mono ?_; clear HEN; rintro e w1 ⟨rfl, hw1⟩; rw [hw1]; clear hw1 w1; dsimp only [mustE])
                | (refine wpList_load_Row rfl 81 (.tmp 5) rfl w.heap.size 81 [nI n0, nI n1, nI n2, nI n3, nI n4, nI n5, nI n6] hrw rfl _ Tryd.underlying81 rfl (by kernel_rfl) ?_)
                | (refine (HCF.out _).mono ?_; clear HCF hrw; rintro e w2 ⟨rfl, hb2⟩; have HB2 : Hid (Below w.heap.size w w2) := HB.out.trans (hb2.mono HB.out.size); clear hb2 HB)
                | (refine (HNW.out _).mono ?_; clear HNW; rintro e w3 hnp; obtain ⟨hb3, ⟨_, he3⟩ | ⟨hbad, _⟩⟩ := hnp; rotate_left; exact absurd hbad HM.out; rw [hm1] at he3; subst he3; have HB3 : Hid (Below w.heap.size w w3) := HB2.out.trans (hb3.mono HB2.out.size); clear hb3 HB2))
              refine ⟨rfl, ?_⟩
              unfold TkC
              rw [HC3.out]
              dsimp only
              rw [if_neg HM.out]
              exact ⟨rfl, HLN.out _ HB3.out, .ofB HB3.out hN⟩
        · rw [decide_eq_false hlf] at HEN
          have HX : Hid (cfC L = none) := by
            show cfC L = none
            rw [HC.out, HT2.out]
            show (if ri = [10#8] then cfgOf ns else none) = _
            rw [if_neg hlf]
          clear HC HT HT2 hlf HW
          generalize strOf ri = SI at *
          go_wp2_with (refine (HEN.out _).mono ?_; rintro e w1 ⟨rfl, hw1⟩; rw [hw1]; clear hw1 w1; dsimp only [mustE])
          refine ⟨rfl, ?_⟩
          unfold TkC
          rw [HX.out]
          exact ⟨rfl, HLN.out _ HB.out, .ofB HB.out hN⟩
  · have HE : aftE L wChip = pan 5 := by unfold aftE; exact if_neg h1
    have HX : Hid (cfC L = none) := by show cfC L = none; unfold cfC lineC; rw [if_neg h1]; rfl
    rw [HE] at HA
    generalize strOf L = SL at *
    go_enter Tryd.func58, Tryd.ntmps58
    go_wp2_with (refine (HA.out _).mono ?_; rintro e w1 ⟨rfl, hw1⟩; rw [hw1]; clear hw1 w1)
    refine ⟨rfl, ?_⟩
    unfold TkC
    rw [HX.out]
    exact ⟨rfl, HLN.out _ (Below.refl _ _), .refl _⟩
end Go.Proofs.YtgpnbiaghokjkaaDoor

/-! Layer 21, the landed code: takeBlown. -/
namespace Go.Proofs.YtgpnbiaghokjkaaDoor
open Go.RowKit
set_option linter.unusedVariables false
set_option linter.unusedSimpArgs false
set_option maxRecDepth 100000

def szOf : Value → Nat | .string s => s.size | _ => 0
/-- What takeBlown leaves. -/
def TkB (N R ln NB : Nat) (c : Cfg) (t : St) (pB eB bB : Nat) (ps : List (Nat × Nat)) (pg cl : Nat) (L : List By) (w : World) (e : Ending) (w' : World) : Prop :=
  match blownC NB L with
  | none => TkE N R ln 5 w e w'
  | some v => e = .returned (.tuple #[]) ∧ BX N R w w' ∧ RdM N R ln c ⟨t.pages, t.erases, marks NB v⟩ pB eB bB ps pg cl w'
theorem blC_succ (NB f least : Nat) (r : List By) (h : ¬ r = [10#8]) : blC NB (f + 1) least r = (match numC r with | none => none | some (i, t) => if least ≤ i ∧ i < NB then (blC NB f (i + 1) t).map (i :: ·) else none) := by
  rw [blC, if_neg h]
  cases numC r with
  | none => rfl
  | some p =>
    obtain ⟨i, t⟩ := p
    dsimp only
    by_cases hc : least ≤ i ∧ i < NB
    · rw [if_pos hc, if_pos hc]
      cases blC NB f (i + 1) t <;> rfl
    · rw [if_neg hc, if_neg hc]
set_option maxHeartbeats 4000000 in
theorem takeBlown_any (N R ln NB : Nat) (c : Cfg) (t : St) (pB eB bB : Nat) (ps : List (Nat × Nat)) (pg cl : Nat) (L : List By) (hL : L.length ≤ 140737488355328) (hNB : NB ≤ 1000) (ht : t.blown = marks NB []) (w : World) (h : RdM N R ln c t pB eB bB ps pg cl w) :
    Calls Tryd.prog 59 #[.pointer (some ⟨R, 0, none⟩), .string (strOf L)] w (TkB N R ln NB c t pB eB bB ps pg cl L w) := by
  have HA : Hid (∀ W : World, Calls Tryd.prog 66 #[.string (strOf L), .string { data := #[98, 108, 111, 119, 110] }] W fun e w' => e = aftE L wBlown ∧ w' = W) := fun W => by
    rw [k_blown]; exact after_any L wBlown hL (by decide) W
  have H0 : Hid (RdM N R ln c ⟨t.pages, t.erases, marks NB []⟩ pB eB bB ps pg cl w) := by show RdM _ _ _ _ _ _ _ _ _ _ _ _; rw [← ht]; exact h
  clear h ht
  by_cases h1 : L.take wBlown.length = wBlown
  · have HE : aftE L wBlown = .returned (.string (strOf (L.drop wBlown.length))) := by unfold aftE; exact if_pos h1
    rw [HE] at HA
    have HC : Hid (blownC NB L = blC NB (L.length + 1) 0 (L.drop wBlown.length)) := by show blownC NB L = _; unfold blownC; exact if_pos h1
    have hsl : (L.drop wBlown.length).length ≤ L.length := by rw [List.length_drop]; omega
    clear HE h1
    generalize L.drop wBlown.length = r0 at *
    generalize hSL : strOf L = SL at *
    go_enter Tryd.func59, Tryd.ntmps59
    go_wp2_with (refine (HA.out _).mono ?_; rintro e w1 ⟨rfl, hw1⟩; rw [hw1]; clear hw1 w1)
    clear HA
    go_loopw [4, 5, 6] (fun sv kv lv wr => ∃ (vs : List Nat) (ri : List By) (k least f : Nat), ri.length ≤ L.length ∧ Hid (ri.length < f) ∧ sv = .string (strOf ri) ∧ kv = .int .i64 k ∧ lv = .int .i64 least ∧ least ≤ 2147483648 ∧ Hid (blownC NB L = (blC NB f least ri).map (vs ++ ·)) ∧ Hid (RdM N R ln c ⟨t.pages, t.erases, marks NB vs⟩ pB eB bB ps pg cl wr) ∧ Hid (BX N R w wr)) (fun sv _ _ _ => szOf sv)
    case atStart => exact ⟨[], r0, 0, 0, L.length + 1, hsl, by show _ < _; omega, rfl, rfl, rfl, by omega, by show blownC NB L = _; rw [HC.out]; cases blC NB (L.length + 1) 0 r0 <;> rfl, H0, BX.refl _⟩
    case round =>
      clear H0 HC
      obtain ⟨vs, ri, k, least, f, hri, hf, rfl, rfl, rfl, hle, HT, HM, HB⟩ := hrel
      have hq := strOf_beq ri [10#8]
      rw [lf_list] at hq
      by_cases hlf : ri = [10#8]
      · rw [decide_eq_true hlf] at hq
        have HX : Hid (blownC NB L = some vs) := by
          show blownC NB L = _
          obtain ⟨f', rfl⟩ : ∃ f', f = f' + 1 := ⟨f - 1, by have := hf.out; omega⟩
          rw [HT.out, blC, if_pos hlf]
          simp
        clear HT hlf
        generalize strOf ri = SI at *
        go_wp2
        first | go_end0 | skip
        unfold TkB
        rw [HX.out]
        exact ⟨rfl, HB.out, HM.out⟩
      · rw [decide_eq_false hlf] at hq
        have HN1 : Hid (∀ W : World, Calls Tryd.prog 67 #[.string (strOf ri)] W fun e w' => e = numE ri ∧ Dr W w') := fun W => number_any ri (by omega) W
        obtain ⟨f', hf'⟩ : ∃ f', f = f' + 1 := ⟨f - 1, by have := hf.out; omega⟩
        have hff := hf.out
        subst hf'
        rw [blC_succ NB f' least ri hlf] at HT
        unfold numE at HN1
        have HSZ : Hid (szOf (.string (strOf ri)) = ri.length) := strOf_size ri
        cases hc : numC ri with
        | none =>
          rw [hc] at HN1 HT
          have HX : Hid (blownC NB L = none) := HT.out
          clear HT hlf HSZ
          generalize strOf ri = SI at *
          go_wp2_with (refine (HN1.out _).mono ?_; rintro e w1 ⟨rfl, hd⟩)
          refine ⟨rfl, ?_⟩
          unfold TkB
          rw [HX.out]
          exact ⟨rfl, (HM.out.dr hd).c0, HB.out.dr hd⟩
        | some p =>
          obtain ⟨n, u⟩ := p
          rw [hc] at HN1 HT
          dsimp only at HN1 HT
          have hul := numC_len hc
          have hn := (numC_some hc).2.1
          have HSU : Hid (szOf (.string (strOf u)) = u.length) := strOf_size u
          have hmk : ∀ l, (marks NB l).length = NB := fun l => marks_len NB l
          generalize hSI : strOf ri = SI at *
          generalize hSJ : strOf u = SJ at *
          have HSJ : Hid (strOf u = SJ) := hSJ
          clear hSJ hSI hlf hc
          by_cases h2 : least ≤ n
          · have g2 : (least : Int) ≤ (n : Int) := by omega
            by_cases h3 : n < NB
            · have g3 : (n : Int) < (NB : Int) := by omega
              have HX : Hid (blownC NB L = (blC NB f' (n + 1) u).map ((vs ++ [n]) ++ ·)) := by
                show blownC NB L = _
                rw [HT.out, if_pos ⟨h2, h3⟩]
                cases blC NB f' (n + 1) u <;> simp
              have wk : IntKind.i64.wrap ((n : Int) + 1) = ((n + 1 : Nat) : Int) := by rw [i64_in _ (by omega) (by omega)]; omega
              have g0 : (0 : Int) ≤ (n : Int) := by omega
              clear HT
              go_wp2_with (first
                | (refine (HN1.out _).mono ?_; clear HN1; rintro e w1 ⟨rfl, hd⟩; have HM1 : Hid (RdM N R ln c ⟨t.pages, t.erases, marks NB vs⟩ pB eB bB ps pg cl w1) := HM.out.dr hd; have HB1 : Hid (BX N R w w1) := HB.out.dr hd; have c10 := HM1.out.c10; dsimp only at c10; rw [hmk] at c10; have cb := HM1.out.blAt n (by show n < (marks NB vs).length; rw [hmk]; exact h3); have fb := HM1.out.own.bl.frozen n; clear hd HM HB)
                | (refine (must_t _).mono ?_; rintro e w2 ⟨rfl, hw2⟩; rw [hw2]; clear hw2 w2))
              refine ⟨⟨vs ++ [n], u, n, n + 1, f', by omega, by show _ < _; omega, by rw [HSJ.out], rfl, rfl, by omega, HX, ?_, HB1.out.but (SameBut.setCell _ _ _ _) (.inr (HM1.out.own.lo _ (by simp)))⟩, by simp only [HSZ.out, HSU.out]; omega⟩
              have := HM1.out.setBl n true
              rw [marks_step NB vs n h3]
              exact this
            · have g3 : decide ((n : Int) < (NB : Int)) = false := decide_eq_false (by omega)
              have HX : Hid (blownC NB L = none) := by
                show blownC NB L = _
                rw [HT.out, if_neg (fun h => h3 h.2)]; rfl
              clear HT
              go_wp2_with (first
                | (refine (HN1.out _).mono ?_; clear HN1; rintro e w1 ⟨rfl, hd⟩; have HM1 : Hid (RdM N R ln c ⟨t.pages, t.erases, marks NB vs⟩ pB eB bB ps pg cl w1) := HM.out.dr hd; have HB1 : Hid (BX N R w w1) := HB.out.dr hd; have c10 := HM1.out.c10; dsimp only at c10; rw [hmk] at c10; clear hd HM HB)
                | (refine (must_f _).mono ?_; rintro e w2 ⟨rfl, hw2⟩; rw [hw2]; clear hw2 w2))
              refine ⟨rfl, ?_⟩
              unfold TkB
              rw [HX.out]
              exact ⟨rfl, HM1.out.c0, HB1.out⟩
          · have g2 : decide ((least : Int) ≤ (n : Int)) = false := decide_eq_false (by omega)
            have HX : Hid (blownC NB L = none) := by
              show blownC NB L = _
              rw [HT.out, if_neg (fun h => h2 h.1)]; rfl
            clear HT
            go_wp2_with (first
              | (refine (HN1.out _).mono ?_; clear HN1; rintro e w1 ⟨rfl, hd⟩; have HM1 : Hid (RdM N R ln c ⟨t.pages, t.erases, marks NB vs⟩ pB eB bB ps pg cl w1) := HM.out.dr hd; have HB1 : Hid (BX N R w w1) := HB.out.dr hd; clear hd HM HB)
              | (refine (must_f _).mono ?_; rintro e w2 ⟨rfl, hw2⟩; rw [hw2]; clear hw2 w2))
            refine ⟨rfl, ?_⟩
            unfold TkB
            rw [HX.out]
            exact ⟨rfl, HM1.out.c0, HB1.out⟩
  · have HE : aftE L wBlown = pan 5 := by unfold aftE; exact if_neg h1
    have HX : Hid (blownC NB L = none) := by show blownC NB L = none; unfold blownC; exact if_neg h1
    rw [HE] at HA
    generalize strOf L = SL at *
    go_enter Tryd.func59, Tryd.ntmps59
    go_wp2_with (refine (HA.out _).mono ?_; rintro e w1 ⟨rfl, hw1⟩; rw [hw1]; clear hw1 w1)
    refine ⟨rfl, ?_⟩
    unfold TkB
    rw [HX.out]
    exact ⟨rfl, H0.out.c0, .refl _⟩
end Go.Proofs.YtgpnbiaghokjkaaDoor

/-! Layer 21, the landed code: takePage. -/
namespace Go.Proofs.YtgpnbiaghokjkaaDoor
open Go.RowKit
set_option linter.unusedVariables false
set_option linter.unusedSimpArgs false
set_option maxRecDepth 100000

/-- What a line from the third on leaves. -/
def TkS (N R ln : Nat) (c : Cfg) (o : Option (St × Nat × Nat)) (pB eB bB : Nat) (ps : List (Nat × Nat)) (w : World) (e : Ending) (w' : World) : Prop :=
  match o with
  | none => TkE N R ln 5 w e w'
  | some (t2, pg2, cl2) => e = .returned (.tuple #[]) ∧ BX N R w w' ∧ RdM N R ln c t2 pB eB bB ps pg2 cl2 w'
/-- A page's line. -/
def stP (M : Nat) (L : List By) (t : St) (pg : Nat) : Option (St × Nat × Nat) :=
  match lineC wPage 2 L with
  | some [p, e] => if p = pg ∧ p < M then some (⟨t.pages, t.erases.set p (e : Int), t.blown⟩, pg + 1, 0) else none
  | _ => none
theorem stP_eq (M : Nat) (L : List By) (t : St) (pg : Nat) (h : L.take wPage.length = wPage) : stP M L t pg = (match numC (L.drop wPage.length) with | none => none | some (p, r) => (match numC r with | none => none | some (e, u) => if u = [10#8] then (if p = pg ∧ p < M then some (⟨t.pages, t.erases.set p (e : Int), t.blown⟩, pg + 1, 0) else none) else none)) := by
  unfold stP lineC
  rw [if_pos h, takeNs]
  cases numC (L.drop wPage.length) with
  | none => rfl
  | some q =>
    obtain ⟨p, r⟩ := q
    dsimp only
    rw [takeNs]
    cases numC r with
    | none => rfl
    | some q =>
      obtain ⟨e, u⟩ := q
      show (match (if u = [10#8] then some [p, e] else none) with
        | some [p, e] => if p = pg ∧ p < M then some ((⟨t.pages, t.erases.set p (e : Int), t.blown⟩ : St), pg + 1, 0) else none
        | _ => none) = _
      by_cases hu : u = [10#8]
      · rw [if_pos hu]; dsimp only; rw [if_pos hu]
      · rw [if_neg hu]; dsimp only; rw [if_neg hu]
set_option maxHeartbeats 4000000 in
theorem takePage_any (N R ln M : Nat) (c : Cfg) (t : St) (pB eB bB : Nat) (ps : List (Nat × Nat)) (pg cl : Nat) (L : List By) (hL : L.length ≤ 140737488355328) (hM : M ≤ 1000) (hp : t.pages.length = M) (he : t.erases.length = M) (hpg : pg ≤ 1000) (w : World) (h : RdM N R ln c t pB eB bB ps pg cl w) :
    Calls Tryd.prog 62 #[.pointer (some ⟨R, 0, none⟩), .string (strOf L)] w (TkS N R ln c (stP M L t pg) pB eB bB ps w) := by
  have HA : Hid (∀ W : World, Calls Tryd.prog 66 #[.string (strOf L), .string { data := #[112, 97, 103, 101] }] W fun e w' => e = aftE L wPage ∧ w' = W) := fun W => by
    rw [k_page]; exact after_any L wPage hL (by decide) W
  have H0 : Hid (RdM N R ln c t pB eB bB ps pg cl w) := h
  have HP : Hid (t.pages.length = M) := hp
  have HEL : Hid (t.erases.length = M) := he
  clear h hp he
  by_cases h1 : L.take wPage.length = wPage
  · have HE : aftE L wPage = .returned (.string (strOf (L.drop wPage.length))) := by unfold aftE; exact if_pos h1
    rw [HE] at HA
    have HC := stP_eq M L t pg h1
    have hsl : (L.drop wPage.length).length ≤ 140737488355328 := by rw [List.length_drop]; omega
    clear HE h1
    generalize L.drop wPage.length = r0 at *
    generalize hSL : strOf L = SL at *
    have HN1 : Hid (∀ W : World, Calls Tryd.prog 67 #[.string (strOf r0)] W fun e w' => e = numE r0 ∧ Dr W w') := fun W => number_any r0 hsl W
    unfold numE at HN1
    cases h0 : numC r0 with
    | none =>
      rw [h0] at HN1 HC
      have HX : Hid (stP M L t pg = none) := HC
      clear HC
      generalize strOf r0 = S0 at *
      go_enter Tryd.func62, Tryd.ntmps62
      go_wp2_with (first
        | (refine (HA.out _).mono ?_; clear HA; rintro e w1 ⟨rfl, hw1⟩; rw [hw1]; clear hw1 w1)
        | (refine (HN1.out _).mono ?_; clear HN1; rintro e w1 ⟨rfl, hd⟩))
      refine ⟨rfl, ?_⟩
      rw [HX.out]
      exact ⟨rfl, (H0.out.dr hd).c0, (BX.refl _).dr hd⟩
    | some q =>
      obtain ⟨p, r1⟩ := q
      rw [h0] at HN1 HC
      dsimp only at HN1 HC
      have hl1 := numC_le h0
      have hpm := (numC_some h0).2.1
      have HN2 : Hid (∀ W : World, Calls Tryd.prog 67 #[.string (strOf r1)] W fun e w' => e = numE r1 ∧ Dr W w') := fun W => number_any r1 (by omega) W
      unfold numE at HN2
      clear h0
      generalize strOf r0 = S0 at *
      cases h2 : numC r1 with
      | none =>
        rw [h2] at HN2 HC
        have HX : Hid (stP M L t pg = none) := HC
        clear HC
        generalize strOf r1 = S1 at *
        go_enter Tryd.func62, Tryd.ntmps62
        go_wp2_with (first
          | (refine (HA.out _).mono ?_; clear HA; rintro e w1 ⟨rfl, hw1⟩; rw [hw1]; clear hw1 w1)
          | (refine (HN1.out _).mono ?_; clear HN1; rintro e w1 ⟨rfl, hd1⟩)
          | (refine (HN2.out _).mono ?_; clear HN2; rintro e w2 ⟨rfl, hd2⟩))
        refine ⟨rfl, ?_⟩
        rw [HX.out]
        exact ⟨rfl, ((H0.out.dr hd1).dr hd2).c0, ((BX.refl _).dr hd1).dr hd2⟩
      | some q =>
        obtain ⟨e, u⟩ := q
        rw [h2] at HN2 HC
        dsimp only at HN2 HC
        have hem := (numC_some h2).2.1
        have HEN : Hid (∀ W : World, Calls Tryd.prog 68 #[.string (strOf u)] W fun e w' => e = mustE (decide (u = [10#8])) ∧ w' = W) := fun W => ended_any u W
        clear h2
        generalize strOf r1 = S1 at *
        by_cases hlf : u = [10#8]
        · rw [decide_eq_true hlf] at HEN
          rw [if_pos hlf] at HC
          clear hlf
          generalize strOf u = S2 at *
          by_cases hq : p = pg
          · subst hq
            have g1 : ((p : Int) == (p : Int)) = true := by simp
            by_cases hlt : p < M
            · rw [if_pos ⟨rfl, hlt⟩] at HC
              have g2 : (p : Int) < (M : Int) := by omega
              have g0 : (0 : Int) ≤ (p : Int) := by omega
              have wk : IntKind.i64.wrap ((p : Int) + 1) = ((p + 1 : Nat) : Int) := by rw [i64_in _ (by omega) (by omega)]; omega
              have HX : Hid (stP M L t p = some (⟨t.pages, t.erases.set p (e : Int), t.blown⟩, p + 1, 0)) := HC
              clear HC
              go_enter Tryd.func62, Tryd.ntmps62
              go_wp2_with (first
                | (refine (HA.out _).mono ?_; clear HA; rintro e w1 ⟨rfl, hw1⟩; rw [hw1]; clear hw1 w1)
                | (refine (HN1.out _).mono ?_; clear HN1; rintro e w1 ⟨rfl, hd1⟩; have H1 : Hid (RdM N R ln c t pB eB bB ps p cl w1 ∧ BX N R w w1) := ⟨H0.out.dr hd1, (BX.refl _).dr hd1⟩; clear H0 hd1)
                | (refine (HN2.out _).mono ?_; clear HN2; rintro e w2 ⟨rfl, hd2⟩; have H2 : Hid (RdM N R ln c t pB eB bB ps p cl w2 ∧ BX N R w w2) := ⟨H1.out.1.dr hd2, H1.out.2.dr hd2⟩; clear H1 hd2; have c11 := H2.out.1.c11; have c12 := H2.out.1.c12; have c8 := H2.out.1.c8; rw [HP.out] at c8; have c9 := H2.out.1.c9; rw [HEL.out] at c9; have ce := H2.out.1.erAt p (by rw [HEL.out]; exact hlt); have fe := H2.out.1.own.er.frozen p; have fr := fun k => H2.out.1.row.frozen k; have nR := H2.out.1.ne; simp only [List.mem_cons, not_or] at nR; have n9 : ¬ eB = R := fun e => nR.2.1 e.symm)
                | (refine (HEN.out _).mono ?_; clear HEN; rintro e w3 ⟨rfl, hw3⟩; rw [hw3]; clear hw3 w3; dsimp only [mustE])
                | (refine (must_t _).mono ?_; rintro e w3 ⟨rfl, hw3⟩; rw [hw3]; clear hw3 w3))
              first | go_end0 | skip
              rw [HX.out]
              have r3 := ((H2.out.1.setEr p (e : Int)).setPs (p + 1)).setCl 0
              exact ⟨rfl, ((H2.out.2.but (SameBut.setCell _ _ _ _) (.inr (H2.out.1.own.lo _ (by simp)))).but (SameBut.setCell _ _ _ _) (.inl rfl)).but (SameBut.setCell _ _ _ _) (.inl rfl), r3⟩
            · rw [if_neg (fun h => hlt h.2)] at HC
              have g2 : decide ((p : Int) < (M : Int)) = false := decide_eq_false (by omega)
              have HX : Hid (stP M L t p = none) := HC
              clear HC
              go_enter Tryd.func62, Tryd.ntmps62
              go_wp2_with (first
                | (refine (HA.out _).mono ?_; clear HA; rintro e w1 ⟨rfl, hw1⟩; rw [hw1]; clear hw1 w1)
                | (refine (HN1.out _).mono ?_; clear HN1; rintro e w1 ⟨rfl, hd1⟩; have H1 : Hid (RdM N R ln c t pB eB bB ps p cl w1 ∧ BX N R w w1) := ⟨H0.out.dr hd1, (BX.refl _).dr hd1⟩; clear H0 hd1)
                | (refine (HN2.out _).mono ?_; clear HN2; rintro e w2 ⟨rfl, hd2⟩; have H2 : Hid (RdM N R ln c t pB eB bB ps p cl w2 ∧ BX N R w w2) := ⟨H1.out.1.dr hd2, H1.out.2.dr hd2⟩; clear H1 hd2; have c11 := H2.out.1.c11; have c8 := H2.out.1.c8; rw [HP.out] at c8)
                | (refine (HEN.out _).mono ?_; clear HEN; rintro e w3 ⟨rfl, hw3⟩; rw [hw3]; clear hw3 w3; dsimp only [mustE])
                | (refine (must_f _).mono ?_; rintro e w3 ⟨rfl, hw3⟩; rw [hw3]; clear hw3 w3))
              refine ⟨rfl, ?_⟩
              rw [HX.out]
              exact ⟨rfl, H2.out.1.c0, H2.out.2⟩
          · rw [if_neg (fun h => hq h.1)] at HC
            have g1 : ((p : Int) == (pg : Int)) = false := by rw [beq_eq_false_iff_ne]; omega
            have HX : Hid (stP M L t pg = none) := HC
            clear HC
            go_enter Tryd.func62, Tryd.ntmps62
            go_wp2_with (first
              | (refine (HA.out _).mono ?_; clear HA; rintro e w1 ⟨rfl, hw1⟩; rw [hw1]; clear hw1 w1)
              | (refine (HN1.out _).mono ?_; clear HN1; rintro e w1 ⟨rfl, hd1⟩; have H1 : Hid (RdM N R ln c t pB eB bB ps pg cl w1 ∧ BX N R w w1) := ⟨H0.out.dr hd1, (BX.refl _).dr hd1⟩; clear H0 hd1)
              | (refine (HN2.out _).mono ?_; clear HN2; rintro e w2 ⟨rfl, hd2⟩; have H2 : Hid (RdM N R ln c t pB eB bB ps pg cl w2 ∧ BX N R w w2) := ⟨H1.out.1.dr hd2, H1.out.2.dr hd2⟩; clear H1 hd2; have c11 := H2.out.1.c11; have c8 := H2.out.1.c8; rw [HP.out] at c8)
              | (refine (HEN.out _).mono ?_; clear HEN; rintro e w3 ⟨rfl, hw3⟩; rw [hw3]; clear hw3 w3; dsimp only [mustE])
              | (refine (must_f _).mono ?_; rintro e w3 ⟨rfl, hw3⟩; rw [hw3]; clear hw3 w3))
            refine ⟨rfl, ?_⟩
            rw [HX.out]
            exact ⟨rfl, H2.out.1.c0, H2.out.2⟩
        · rw [decide_eq_false hlf] at HEN
          rw [if_neg hlf] at HC
          have HX : Hid (stP M L t pg = none) := HC
          clear HC hlf
          generalize strOf u = S2 at *
          go_enter Tryd.func62, Tryd.ntmps62
          go_wp2_with (first
            | (refine (HA.out _).mono ?_; clear HA; rintro e w1 ⟨rfl, hw1⟩; rw [hw1]; clear hw1 w1)
            | (refine (HN1.out _).mono ?_; clear HN1; rintro e w1 ⟨rfl, hd1⟩)
            | (refine (HN2.out _).mono ?_; clear HN2; rintro e w2 ⟨rfl, hd2⟩)
            | (refine (HEN.out _).mono ?_; clear HEN; rintro e w3 ⟨rfl, hw3⟩; rw [hw3]; clear hw3 w3; dsimp only [mustE]))
          refine ⟨rfl, ?_⟩
          rw [HX.out]
          exact ⟨rfl, ((H0.out.dr hd1).dr hd2).c0, ((BX.refl _).dr hd1).dr hd2⟩
  · have HE : aftE L wPage = pan 5 := by unfold aftE; exact if_neg h1
    have HX : Hid (stP M L t pg = none) := by show stP M L t pg = none; unfold stP lineC; rw [if_neg h1]
    rw [HE] at HA
    generalize strOf L = SL at *
    go_enter Tryd.func62, Tryd.ntmps62
    go_wp2_with (refine (HA.out _).mono ?_; rintro e w1 ⟨rfl, hw1⟩; rw [hw1]; clear hw1 w1)
    refine ⟨rfl, ?_⟩
    rw [HX.out]
    exact ⟨rfl, H0.out.c0, .refl _⟩
end Go.Proofs.YtgpnbiaghokjkaaDoor
