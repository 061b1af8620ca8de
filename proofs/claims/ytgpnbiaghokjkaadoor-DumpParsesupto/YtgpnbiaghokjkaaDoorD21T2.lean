import Derived.Test.YtgpnbiaghokjkaaDoorD21KM
/-! Layer 21, the landed code: its first line. -/
namespace Go.Proofs.YtgpnbiaghokjkaaDoor
open Go.RowKit
set_option linter.unusedVariables false
set_option linter.unusedSimpArgs false
set_option maxRecDepth 100000

theorem may_one (c : Cfg) (h : ¬ c.may = 0) : c.may = 1 := by
  unfold Cfg.may at *
  split at h <;> simp_all
set_option maxHeartbeats 2000000 in
theorem configOf_any (n0 n1 n2 n3 n4 n5 n6 : Nat) (w : World) : Calls Tryd.prog 70 #[.agg #[nI n0, nI n1, nI n2, nI n3, nI n4, nI n5, nI n6]] w fun e w' => e = .returned (.agg (⟨n0, n1, n2, n3, n4, n5, n6⟩ : Cfg).vals.toArray) ∧ Below w.heap.size w w' := by
  unfold nI
  have r1 := Row.at w 81 [.int .i64 (n0 : Int), .int .i64 n1, .int .i64 n2, .int .i64 n3, .int .i64 n4, .int .i64 n5, .int .i64 n6] _ _ rfl rfl
  have r2 := Row.at (w.alloc (.cells #[.int .i64 (n0 : Int), .int .i64 n1, .int .i64 n2, .int .i64 n3, .int .i64 n4, .int .i64 n5, .int .i64 n6] 81)) 24 [.int .i64 0, .int .i64 0, .int .i64 0, .int .i64 0, .int .i64 0, .int .i64 0, .int .i64 0] _ _ rfl rfl
  have b2 : Below w.heap.size w ((w.alloc (.cells #[.int .i64 (n0 : Int), .int .i64 n1, .int .i64 n2, .int .i64 n3, .int .i64 n4, .int .i64 n5, .int .i64 n6] 81)).alloc (.cells #[.int .i64 0, .int .i64 0, .int .i64 0, .int .i64 0, .int .i64 0, .int .i64 0, .int .i64 0] 24)) := ((Below.refl _ _).alloc (Nat.le_refl _) _).alloc (by simp) _
  have hsz : (w.alloc (.cells #[.int .i64 (n0 : Int), .int .i64 n1, .int .i64 n2, .int .i64 n3, .int .i64 n4, .int .i64 n5, .int .i64 n6] 81)).heap.size = w.heap.size + 1 := by simp
  rw [hsz] at r2
  go_enter Tryd.func70, Tryd.ntmps70
  go_wp2_with (refine wpList_store_Row rfl 24 _ _ rfl (w.heap.size + 1) 24 0 _ (⟨n0, n1, n2, n3, n4, n5, n6⟩ : Cfg).vals r2 (by simp [Cfg.vals]) rfl rfl (by simp only [Cfg.vals, List.length_cons, List.length_nil]; kernel_rfl) (by simp [Value.oneCell', Cfg.vals]) ?_; intro w9 hr9 hs9)
  have hr := row_whole hr9 (by simp [Cfg.vals])
  exact bodyPost_ret_by (results_Row Tryd.results70 _ w9 (w.heap.size + 1) 24 _ _ rfl hr Tryd.underlying24 rfl (by simp only [Cfg.vals, List.length_cons, List.length_nil]; kernel_rfl)) rfl ⟨rfl, hs9.below b2 (by omega)⟩
/-- The reader ahead of its first line. -/
def rd0 (ln : Nat) : List Value := rdS ln cfg0 [nilS, nilS, nilS] 0 0
/-- What the first line makes. -/
def cfC (L : List By) : Option Cfg := (lineC wChip 7 L).bind cfgOf
/-- What takeConfig leaves. -/
def TkC (N R ln : Nat) (L : List By) (w : World) (e : Ending) (w' : World) : Prop :=
  match cfC L with
  | none => TkE N R ln 5 w e w'
  | some c => if c.may = 0 then e = .returned (.tuple #[]) ∧ BX N R w w' ∧ ∃ pB eB bB ps, RdM N R ln c (freshC c) pB eB bB ps 0 0 w' else TkE N R ln 1 w e w'
theorem takeNs_succ (k : Nat) (r : List By) : takeNs (k + 1) r = (match numC r with | none => none | some (n, t) => (takeNs k t).map fun p => (n :: p.1, p.2)) := by
  rw [takeNs]
  cases numC r with
  | none => rfl
  | some p =>
    obtain ⟨n, t⟩ := p
    dsimp only
    cases takeNs k t with
    | none => rfl
    | some q => rfl
theorem numC_le {r : List By} {m : Nat} {t : List By} (h : numC r = some (m, t)) : t.length ≤ r.length := Nat.le_of_lt (numC_len h)
def arrC (ns : List Nat) : List Value := (ns ++ List.replicate (7 - ns.length) 0).map nI
theorem arrC_set (ns : List Nat) (n : Nat) (h : ns.length < 7) : (arrC ns).set ns.length (nI n) = arrC (ns ++ [n]) := by
  unfold arrC
  rw [← List.map_set, List.length_append, List.length_singleton]
  obtain ⟨k, hk⟩ : ∃ k, 7 - ns.length = k + 1 := ⟨7 - ns.length - 1, by omega⟩
  have hk2 : 7 - (ns.length + 1) = k := by omega
  rw [hk, hk2, List.replicate_succ, set_mid, List.append_assoc]; rfl
end Go.Proofs.YtgpnbiaghokjkaaDoor

/-! Layer 21, the landed code: takeConfig. -/
namespace Go.Proofs.YtgpnbiaghokjkaaDoor
open Go.RowKit
set_option linter.unusedVariables false
set_option linter.unusedSimpArgs false
set_option maxRecDepth 100000

theorem vals_one (c : Cfg) : ∀ v ∈ c.vals, v.oneCell' = true := by simp [Value.oneCell', Cfg.vals]
theorem own_one3 (t : St) (pB eB bB : Nat) : ∀ v ∈ ownVals t pB eB bB, v.oneCell' = true := by simp [Value.oneCell', ownVals]
set_option maxHeartbeats 4000000 in
theorem takeConfig_any (N R ln : Nat) (L : List By) (hL : L.length ≤ 140737488355328) (w : World) (hr : Row w R 61 (rd0 ln)) (hN : N ≤ w.heap.size) :
    Calls Tryd.prog 58 #[.pointer (some ⟨R, 0, none⟩), .string (strOf L)] w (TkC N R ln L w) := by
  have HA : Hid (∀ W : World, Calls Tryd.prog 66 #[.string (strOf L), .string { data := #[99, 104, 105, 112] }] W fun e w' => e = aftE L wChip ∧ w' = W) := fun W => by
    rw [k_chip]; exact after_any L wChip hL (by decide) W
  have HLN : Hid (∀ W, Below w.heap.size w W → LnAt R ln W) := fun W hb => (hr.below hb hr.lt).cell 0 _ rfl
  have hRl := hr.lt
  have HR : Hid (Row w R 61 (rd0 ln)) := hr
  clear hr
  by_cases h1 : L.take wChip.length = wChip
  · have HE : aftE L wChip = .returned (.string (strOf (L.drop wChip.length))) := by unfold aftE; exact if_pos h1
    rw [HE] at HA
    have HC : Hid (cfC L = (match takeNs 7 (L.drop wChip.length) with | some (ns, u) => if u = [10#8] then cfgOf ns else none | none => none)) := by
      show cfC L = _
      unfold cfC lineC
      rw [if_pos h1]
      cases takeNs 7 (L.drop wChip.length) with
      | none => rfl
      | some p =>
        obtain ⟨ns, u⟩ := p
        dsimp only
        by_cases hu : u = [10#8]
        · rw [if_pos hu, if_pos hu]; rfl
        · rw [if_neg hu, if_neg hu]; rfl
    have hsl : (L.drop wChip.length).length ≤ 140737488355328 := by rw [List.length_drop]; omega
    clear HE h1
    generalize L.drop wChip.length = r0 at *
    generalize hSL : strOf L = SL at *
    have HZ : Hid (Row (w.alloc (.cells (arrC []).toArray 81)) w.heap.size 81 (arrC [])) := Row.at w _ _ _ _ rfl rfl
    have HB0 : Hid (Below w.heap.size w (w.alloc (.cells (arrC []).toArray 81))) := (Below.refl _ _).alloc (Nat.le_refl _) _
    go_enter Tryd.func58, Tryd.ntmps58
    go_wp2_with (refine (HA.out _).mono ?_; rintro e w1 ⟨rfl, hw1⟩; rw [hw1]; clear hw1 w1)
    clear HA
    go_loopw [4, 11] (fun sv iv wr => ∃ (i : Nat) (ns : List Nat) (ri : List By), i ≤ 7 ∧ Hid (ns.length = i) ∧ ri.length ≤ 140737488355328 ∧ iv = .int .i64 i ∧ sv = .string (strOf ri) ∧ Hid (takeNs 7 r0 = (takeNs (7 - i) ri).map fun p => (ns ++ p.1, p.2)) ∧ Hid (Row wr w.heap.size 81 (arrC ns)) ∧ Hid (Below w.heap.size w wr)) (fun _ iv _ => 7 - (intOf iv).toNat)
    case atStart => exact ⟨0, [], r0, by omega, rfl, hsl, rfl, rfl, by show takeNs 7 r0 = _; cases takeNs 7 r0 <;> rfl, HZ, HB0⟩
    case round =>
      clear HZ HB0
      obtain ⟨i, ns, ri, hi, hns, hri, rfl, rfl, HT, HW, HB⟩ := hrel
      by_cases hlt : i < 7
      · have y0 : (0 : Int) ≤ (i : Int) := by omega
        have y1 : (i : Int) < 7 := by omega
        have HN1 : Hid (∀ W : World, Calls Tryd.prog 67 #[.string (strOf ri)] W fun e w' => e = numE ri ∧ Dr W w') := fun W => number_any ri hri W
        obtain ⟨k, hk⟩ : ∃ k, 7 - i = k + 1 := ⟨7 - i - 1, by omega⟩
        rw [hk, takeNs_succ k ri] at HT
        unfold numE at HN1
        cases hc : numC ri with
        | none =>
          rw [hc] at HN1 HT
          have HX : Hid (cfC L = none) := by show cfC L = none; rw [HC.out, HT.out]; rfl
          clear HC HT HW
          generalize strOf ri = SI at *
          go_wp2_with (refine (HN1.out _).mono ?_; rintro e w1 ⟨rfl, hd⟩)
          have hb : Below w.heap.size w w1 := Below_dr HB.out hd
          refine ⟨rfl, ?_⟩
          unfold TkC
          rw [HX.out]
          exact ⟨rfl, HLN.out _ hb, .ofB hb hN⟩
        | some p =>
          obtain ⟨n, t⟩ := p
          rw [hc] at HN1 HT
          dsimp only at HN1 HT
          have htl := numC_le hc
          have HT2 : Hid (takeNs 7 r0 = (takeNs (7 - (i + 1)) t).map fun p => ((ns ++ [n]) ++ p.1, p.2)) := by
            show takeNs 7 r0 = _
            rw [HT.out, show 7 - (i + 1) = k by omega]
            cases takeNs k t with
            | none => rfl
            | some q => simp
          clear HT hc
          generalize strOf ri = SI at *
          generalize hST : strOf t = SJ at *
          have HSJ : Hid (strOf t = SJ) := hST
          clear hST
          have HCL : Hid (∃ v0, (arrC ns)[i]? = some v0) := ⟨_, List.getElem?_eq_getElem (by unfold arrC; rw [List.length_map, List.length_append, List.length_replicate, hns.out]; omega)⟩
          go_wp2_with (refine (HN1.out _).mono ?_; clear HN1; rintro e w1 ⟨rfl, hd⟩; have rw1 := HW.out.dr hd; obtain ⟨v0, hv0⟩ := HCL.out; have cc1 := rw1.cell i v0 hv0; have ff1 := rw1.frozen i; have HB1 : Hid (Below w.heap.size w w1) := Below_dr HB.out hd; have HR1 : Hid (Row w1 w.heap.size 81 (arrC ns)) := rw1; clear rw1 hd)
          refine ⟨⟨i + 1, ns ++ [n], t, by omega, by show _ = _; rw [List.length_append, hns.out]; rfl, by omega, by go_num, by rw [HSJ.out], HT2, ?_, (SameBut.setCell _ _ _ _).below HB1.out (Nat.le_refl _)⟩, by simp [intOf]; omega⟩
          show Row _ _ _ _
          have := HR1.out.set i (nI n)
          rw [← arrC_set ns n (by rw [hns.out]; exact hlt), hns.out]
          exact this
      · obtain rfl : i = 7 := by omega
        have y1 : ¬ ((7 : Int) < 7) := by omega
        have HT2 : Hid (takeNs 7 r0 = some (ns, ri)) := by
          show takeNs 7 r0 = _
          rw [HT.out]
          show some (ns ++ [], ri) = _
          rw [List.append_nil]
        have HEN : Hid (∀ W : World, Calls Tryd.prog 68 #[.string (strOf ri)] W fun e w' => e = mustE (decide (ri = [10#8])) ∧ w' = W) := fun W => ended_any ri W
        by_cases hlf : ri = [10#8]
        · rw [decide_eq_true hlf] at HEN
          have HC2 : Hid (cfC L = cfgOf ns) := by
            show cfC L = _
            rw [HC.out, HT2.out]
            show (if ri = [10#8] then cfgOf ns else none) = _
            rw [if_pos hlf]
          clear HC HT HT2 hlf
          generalize strOf ri = SI at *
          match ns, hns with
          | [], h => exact absurd h.out (by decide)
          | [_], h => exact absurd h.out (by simp)
          | [_, _], h => exact absurd h.out (by simp)
          | [_, _, _], h => exact absurd h.out (by simp)
          | [_, _, _, _], h => exact absurd h.out (by simp)
          | [_, _, _, _, _], h => exact absurd h.out (by simp)
          | [_, _, _, _, _, _], h => exact absurd h.out (by simp)
          | _ :: _ :: _ :: _ :: _ :: _ :: _ :: _ :: _, h => exact absurd h.out (by simp)
          | [n0, n1, n2, n3, n4, n5, n6], _ =>
            have HCF : Hid (∀ W : World, Calls Tryd.prog 70 #[.agg #[nI n0, nI n1, nI n2, nI n3, nI n4, nI n5, nI n6]] W fun e w' => e = .returned (.agg (⟨n0, n1, n2, n3, n4, n5, n6⟩ : Cfg).vals.toArray) ∧ Below W.heap.size W w') := fun W => configOf_any n0 n1 n2 n3 n4 n5 n6 W
            have HC3 : Hid (cfC L = some ⟨n0, n1, n2, n3, n4, n5, n6⟩) := HC2.out
            have hrw : Row wr w.heap.size 81 [nI n0, nI n1, nI n2, nI n3, nI n4, nI n5, nI n6] := HW.out
            clear HC2 HW
            generalize (⟨n0, n1, n2, n3, n4, n5, n6⟩ : Cfg) = c at *
            have HNW : Hid (∀ W : World, Calls Tryd.prog 69 #[.agg c.vals.toArray] W (NewPost c W)) := fun W => cnew_any c W
            generalize hcv : c.vals.toArray = CV at *
            have HCV : Hid (c.vals.toArray = CV) := hcv
            clear hcv
            have HCG : Hid (∀ (F : RF) (W : World), CAt W F (layS c (freshC c)) ⟨#[]⟩ → Calls Tryd.prog 71 #[.pointer (some ⟨F.g, 0, none⟩)] W fun e w' => e = .returned (.agg CV) ∧ Below W.heap.size W w') := fun F W h => by rw [← HCV.out]; exact cconfig_any F _ _ W h
            have HST : Hid (∀ (F : RF) (W : World), CAt W F (layS c (freshC c)) ⟨#[]⟩ → Calls Tryd.prog 72 #[.pointer (some ⟨F.g, 0, none⟩)] W (AgainPost (freshC c) W)) := fun F W h => cstate_any F _ _ W h
            by_cases hm : c.may = 0
            · have HM : Hid (c.may = 0) := hm
              clear hm
              go_wp2_with (first
                | (refine (HEN.out _).mono ?_; clear HEN; rintro e w1 ⟨rfl, hw1⟩; rw [hw1]; clear hw1 w1; dsimp only [mustE])
                | (refine wpList_load_Row rfl 81 (.tmp 5) rfl w.heap.size 81 [nI n0, nI n1, nI n2, nI n3, nI n4, nI n5, nI n6] hrw rfl _ Tryd.underlying81 rfl (by kernel_rfl) ?_)
                | (refine (HCF.out _).mono ?_; clear HCF hrw; rintro e w2 ⟨rfl, hb2⟩; have HB2 : Hid (Below w.heap.size w w2) := HB.out.trans (hb2.mono HB.out.size); clear hb2 HB)
                | (refine (HNW.out _).mono ?_; clear HNW; rintro e w3 hnp; obtain ⟨hb3, ⟨hbad, _⟩ | ⟨_, F, rfl, hca, hfb⟩⟩ := hnp; exact absurd HM.out hbad; have HB3 : Hid (Below w.heap.size w w3) := HB2.out.trans (hb3.mono HB2.out.size); have HCA : Hid (CAt w3 F (layS c (freshC c)) ⟨#[]⟩) := hca; clear hb3 HB2 hca hfb)
                | (have hz := HCG; clear hz; refine (HCG.out F _ HCA.out).mono ?_; clear HCG; rintro e w4 ⟨rfl, hb4⟩; have HB4 : Hid (Below w.heap.size w w4) := HB3.out.trans (hb4.mono HB3.out.size); have HCB : Hid (CAt w4 F (layS c (freshC c)) ⟨#[]⟩) := HCA.out.below hb4 (Nat.le_refl _); clear hb4 HB3 HCA)
                | (refine (HST.out F _ HCB.out).mono ?_; clear HST HCB; rintro e w5 ⟨pB, eB, bB, ps, rfl, hox, hb5⟩; have HB5 : Hid (Below w.heap.size w w5) := HB4.out.trans (hb5.mono HB4.out.size); have HOX : Hid (OwnX w5 w4.heap.size (freshC c) pB eB bB ps) := hox; have HRz : Hid (R < w4.heap.size ∧ N ≤ w4.heap.size) := ⟨Nat.lt_of_lt_of_le hRl HB4.out.size, Nat.le_trans hN HB4.out.size⟩; have HR5 : Hid (Row w5 R 61 (rd0 ln)) := HR.out.below HB5.out hRl; clear hox hb5 HB4)
                | (refine wpList_store_Row rfl 24 _ _ rfl R 61 1 (rd0 ln) c.vals HR5.out (by simp [rd0, rdS, Cfg.vals]) rfl (by rw [HCV.out]; rfl) (by simp only [Cfg.vals, List.length_cons, List.length_nil]; kernel_rfl) (vals_one c) ?_; clear HR5; intro w6 hr6 hs6; have HR6 : Hid (Row w6 R 61 (rdS ln c [nilS, nilS, nilS] 0 0)) := hr6; have HS6 : Hid (SameBut R w5 w6) := hs6; clear hr6 hs6)
                | (refine wpList_store_Row rfl 29 _ _ rfl R 61 8 (rdS ln c [nilS, nilS, nilS] 0 0) (ownVals (freshC c) pB eB bB) HR6.out (by simp [rdS, Cfg.vals, ownVals]) rfl rfl (by simp only [ownVals, List.length_cons, List.length_nil]; kernel_rfl) (own_one3 _ _ _ _) ?_; clear HR6; intro w7 hr7 hs7))
              first | go_end0 | skip
              unfold TkC
              rw [HC3.out]
              dsimp only
              rw [if_pos HM.out]
              have hlo : ∀ b ∈ pB :: eB :: bB :: ps.map (·.1), b ≠ R := fun b hb e => by have := HOX.out.lo b hb; have := HRz.out.1; omega
              have ho7 : OwnX w7 N (freshC c) pB eB bB ps := ((HOX.out.keep fun b hb => HS6.out.block b (hlo b hb)).keep fun b hb => hs7.block b (hlo b hb)).base HRz.out.2
              have hr8 : Row w7 R 61 (rdS ln c (ownVals (freshC c) pB eB bB) 0 0) := hr7
              exact ⟨rfl, ((BX.ofB HB5.out hN).but HS6.out (.inl rfl)).but hs7 (.inl rfl), pB, eB, bB, ps, hr8, ho7, freshN_8 _ _ _, by rw [hs7.size, HS6.out.size]; exact Nat.le_trans hN HB5.out.size⟩
            · have hm1 := may_one c hm
              have HM : Hid (¬ c.may = 0) := hm
              clear hm
              go_wp2_with (first
                | (refine (HEN.out _).mono ?_; clear HEN; rintro e w1 ⟨rfl, hw1⟩; rw [hw1]; clear hw1 w1; dsimp only [mustE])
                | (refine wpList_load_Row rfl 81 (.tmp 5) rfl w.heap.size 81 [nI n0, nI n1, nI n2, nI n3, nI n4, nI n5, nI n6] hrw rfl _ Tryd.underlying81 rfl (by kernel_rfl) ?_)
                | (refine (HCF.out _).mono ?_; clear HCF hrw; rintro e w2 ⟨rfl, hb2⟩; have HB2 : Hid (Below w.heap.size w w2) := HB.out.trans (hb2.mono HB.out.size); clear hb2 HB)
                | (refine (HNW.out _).mono ?_; clear HNW; rintro e w3 hnp; obtain ⟨hb3, ⟨_, he3⟩ | ⟨hbad, _⟩⟩ := hnp; rotate_left; exact absurd hbad HM.out; rw [hm1] at he3; subst he3; have HB3 : Hid (Below w.heap.size w w3) := HB2.out.trans (hb3.mono HB2.out.size); clear hb3 HB2))
              refine ⟨rfl, ?_⟩
              unfold TkC
              rw [HC3.out]
              dsimp only
              rw [if_neg HM.out]
              exact ⟨rfl, HLN.out _ HB3.out, .ofB HB3.out hN⟩
        · rw [decide_eq_false hlf] at HEN
          have HX : Hid (cfC L = none) := by
            show cfC L = none
            rw [HC.out, HT2.out]
            show (if ri = [10#8] then cfgOf ns else none) = _
            rw [if_neg hlf]
          clear HC HT HT2 hlf HW
          generalize strOf ri = SI at *
          go_wp2_with (refine (HEN.out _).mono ?_; rintro e w1 ⟨rfl, hw1⟩; rw [hw1]; clear hw1 w1; dsimp only [mustE])
          refine ⟨rfl, ?_⟩
          unfold TkC
          rw [HX.out]
          exact ⟨rfl, HLN.out _ HB.out, .ofB HB.out hN⟩
  · have HE : aftE L wChip = pan 5 := by unfold aftE; exact if_neg h1
    have HX : Hid (cfC L = none) := by show cfC L = none; unfold cfC lineC; rw [if_neg h1]; rfl
    rw [HE] at HA
    generalize strOf L = SL at *
    go_enter Tryd.func58, Tryd.ntmps58
    go_wp2_with (refine (HA.out _).mono ?_; rintro e w1 ⟨rfl, hw1⟩; rw [hw1]; clear hw1 w1)
    refine ⟨rfl, ?_⟩
    unfold TkC
    rw [HX.out]
    exact ⟨rfl, HLN.out _ (Below.refl _ _), .refl _⟩
end Go.Proofs.YtgpnbiaghokjkaaDoor
