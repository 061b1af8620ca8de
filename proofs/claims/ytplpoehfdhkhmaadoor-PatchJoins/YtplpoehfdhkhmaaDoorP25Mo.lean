
import Derived.Test.YtplpoehfdhkhmaaDoorP25MoM
import Derived.BigQuiet
/-! The reference's patch: Most. -/
namespace Go.Proofs.YtplpoehfdhkhmaaDoor
open Go.RowKit
set_option linter.unusedVariables false

theorem by_beq (x y : By) : (((x.toNat : Nat) : Int) == ((y.toNat : Nat) : Int)) = decide (x = y) := by
  rw [Bool.eq_iff_iff]
  simp only [beq_iff_eq, decide_eq_true_eq, Int.natCast_inj]
  exact ⟨fun h => BitVec.eq_of_toNat_eq h, fun h => by rw [h]⟩

set_option maxHeartbeats 4000000 in
set_option maxRecDepth 100000 in
theorem r25Most_any (w : World) (ao : Option Addr) (n cap : Nat) (old : List By) (hn : old.length = n) (hn47 : n <= 524288) (hb : IsB w ao old)
    (po : Option Addr) (pn pc : Nat) (new : List By) (hpn : new.length = pn) (hp47 : pn <= 524288) (hp : IsB w po new) :
    Calls Tryd.prog 17 #[.slice ao n cap, .slice po pn pc] w fun e w' => e = .returned (.int .i64 (mostN old new : Int)) /\ Below w.heap.size w w' := by
  by_cases h0 : pn = 0
  · have HM : Hid (mostN old new = 77) := by show _ = _; unfold mostN; rw [if_pos (by omega)]
    subst h0
    have HB : Hid (Below w.heap.size w w) := Below.refl _ _
    clear hb hp
    go_enter Tryd.func17, Tryd.ntmps17
    go_wp2
    go_ret
    exact ⟨by rw [HM.out]; rfl, HB.out⟩
  · have i0 : ((pn : Int) == 0) = false := by rw [beq_eq_false_iff_ne]; omega
    have HN : Hid (old.length = n) := hn
    have HP : Hid (new.length = pn) := hpn
    have HI : Hid (∀ W, Dr w W -> ∀ j, j < n -> ∃ B off, ao = some ⟨B, off, none⟩ /\ W.cell? ⟨B, off + j, none⟩ = some (.int .u8 ((old.getD j 0).toNat : Int))) := fun W h j hj => (hb.below (Below_dr (Below.refl _ _) h) (Nat.le_refl _)).cell j (by omega)
    have HJ : Hid (∀ W, Dr w W -> ∀ j, j < pn -> ∃ B off, po = some ⟨B, off, none⟩ /\ W.cell? ⟨B, off + j, none⟩ = some (.int .u8 ((new.getD j 0).toNat : Int))) := fun W h j hj => (hp.below (Below_dr (Below.refl _ _) h) (Nat.le_refl _)).cell j (by omega)
    clear hb hp hn hpn
    go_enter Tryd.func17, Tryd.ntmps17
    go_wp2
    go_loopw [5] (fun av wr => ∃ a : Nat, a <= n /\ a <= pn /\ av = .int .i64 a /\ Hid (a + lcp (old.drop a) (new.drop a) = lcp old new /\ Dr w wr)) (fun av _ => n - (intOf av).toNat)
    case atStart => exact ⟨0, by omega, by omega, rfl, by simp, Dr.refl _⟩
    case round =>
      obtain ⟨a, ha, hap, rfl, HA⟩ := hrel
      obtain ⟨r, hr⟩ : ∃ r, r = decide (a < n /\ a < pn /\ old.getD a 0 = new.getD a 0) := ⟨_, rfl⟩
      have HR : Hid (r = decide (a < n /\ a < pn /\ old.getD a 0 = new.getD a 0)) := hr
      have y0 : (0 : Int) <= (a : Int) := by omega
      clear hr
      go_upto_region 4 with fail
      go_cut [31] (fun s31 wx => s31 = .bool r /\ Dr w wx)
      case first =>
        by_cases h1 : a < n
        · have k1 : (a : Int) < (n : Int) := by omega
          by_cases h2 : a < pn
          · have k2 : (a : Int) < (pn : Int) := by omega
            obtain ⟨B, off, rfl, c1⟩ := HI.out _ HA.out.2 a h1
            obtain ⟨B2, off2, rfl, c2⟩ := HJ.out _ HA.out.2 a h2
            have qb := by_beq (old.getD a 0) (new.getD a 0)
            have hr : decide (old.getD a 0 = new.getD a 0) = r := by rw [HR.out]; simp [h1, h2]
            rw [hr] at qb
            clear hr
            generalize (old.getD a 0).toNat = x1 at *
            generalize (new.getD a 0).toNat = x2 at *
            go_quiet (fail)
            go_wp2
            go_meet
            case rel => exact ⟨rfl, HA.out.2.drewN nq⟩
          · have k2 : decide ((a : Int) < (pn : Int)) = false := by rw [decide_eq_false_iff_not]; omega
            obtain rfl : r = false := by rw [HR.out]; simp [h2]
            go_quiet (fail)
            go_wp2
            go_meet
            case rel => exact ⟨rfl, HA.out.2.drewN nq⟩
        · have k1 : decide ((a : Int) < (n : Int)) = false := by rw [decide_eq_false_iff_not]; omega
          obtain rfl : r = false := by rw [HR.out]; simp [h1]
          go_quiet (fail)
          go_wp2
          go_meet
          case rel => exact ⟨rfl, HA.out.2.drewN nq⟩
      case rest =>
        obtain ⟨rfl, hd⟩ := hcut
        have hst := lcp_step old new a
        rw [HN.out, HP.out] at hst
        have HD : Hid (Dr w _) := hd
        clear hd
        cases r with
        | true =>
          have hc := of_decide_eq_true HR.out.symm
          rw [if_pos hc] at hst
          have HA2 : Hid ((a + 1) + lcp (old.drop (a + 1)) (new.drop (a + 1)) = lcp old new) := by show _ = _; have := HA.out.1; omega
          have hc1 := hc.1
          have hc2 := hc.2.1
          have z1 : IntKind.i64.wrap ((a : Int) + 1) = (a : Int) + 1 := i64_in _ (by omega) (by omega)
          clear hst hc HA HR
          go_wp2
          exact ⟨⟨a + 1, by omega, by omega, by go_num, HA2.out, HD.out⟩, by simp [intOf]; omega⟩
        | false =>
          rw [if_neg (of_decide_eq_false HR.out.symm)] at hst
          have HL : Hid (a = lcp old new) := by show _ = _; have := HA.out.1; omega
          clear hst HA HR
          have HRO : Hid (∀ z, z < n - a -> (old.drop a).reverse.getD z 0 = old.getD (n - 1 - z) 0) := fun z hz => by rw [rev_getD old a z (by rw [HN.out]; exact hz), HN.out]
          have HRN : Hid (∀ z, z < pn - a -> (new.drop a).reverse.getD z 0 = new.getD (pn - 1 - z) 0) := fun z hz => by rw [rev_getD new a z (by rw [HP.out]; exact hz), HP.out]
          have HLO : Hid ((old.drop a).reverse.length = n - a) := by show _ = _; rw [List.length_reverse, List.length_drop, HN.out]
          have HLN : Hid ((new.drop a).reverse.length = pn - a) := by show _ = _; rw [List.length_reverse, List.length_drop, HP.out]
          have HLC : Hid (lcp (old.drop a).reverse (new.drop a).reverse = lcs old new a) := rfl
          generalize (old.drop a).reverse = OR at *
          generalize (new.drop a).reverse = NR at *
          obtain ⟨na, hna⟩ : ∃ na, na = n - a := ⟨_, rfl⟩
          obtain ⟨pa, hpa⟩ : ∃ pa, pa = pn - a := ⟨_, rfl⟩
          have zA : IntKind.i64.wrap ((n : Int) - (a : Int)) = (na : Int) := by rw [i64_in _ (by omega) (by omega)]; omega
          have zB : IntKind.i64.wrap ((pn : Int) - (a : Int)) = (pa : Int) := by rw [i64_in _ (by omega) (by omega)]; omega
          have HNA : Hid (na = n - a) := hna
          have HPA : Hid (pa = pn - a) := hpa
          clear hna hpa
          go_wp2
          go_loopw [6] (fun zv wr => ∃ z : Nat, z <= na /\ z <= pa /\ zv = .int .i64 z /\ Hid (z + lcp (OR.drop z) (NR.drop z) = lcs old new a /\ Dr w wr)) (fun zv _ => na - (intOf zv).toNat)
          case atStart => exact ⟨0, by omega, by omega, rfl, by rw [List.drop_zero, List.drop_zero, Nat.zero_add]; exact HLC.out, HD.out⟩
          case round =>
            obtain ⟨z, hz, hzp, rfl, HZ⟩ := hrel
            obtain ⟨r, hr⟩ : ∃ r, r = decide (z < na /\ z < pa /\ OR.getD z 0 = NR.getD z 0) := ⟨_, rfl⟩
            have HR : Hid (r = decide (z < na /\ z < pa /\ OR.getD z 0 = NR.getD z 0)) := hr
            clear hr HD
            go_upto_region 7 with fail
            go_cut [66] (fun s66 wx => s66 = .bool r /\ Dr w wx)
            case first =>
              by_cases h1 : z < na
              · have k1 : (z : Int) < (na : Int) := by omega
                by_cases h2 : z < pa
                · have k2 : (z : Int) < (pa : Int) := by omega
                  have hna := HNA.out
                  have hpa := HPA.out
                  obtain ⟨nz, hnz⟩ : ∃ nz, nz = n - 1 - z := ⟨_, rfl⟩
                  obtain ⟨pz, hpz⟩ : ∃ pz, pz = pn - 1 - z := ⟨_, rfl⟩
                  obtain ⟨n1, hn1⟩ : ∃ n1, n1 = n - 1 := ⟨_, rfl⟩
                  obtain ⟨p1, hp1⟩ : ∃ p1, p1 = pn - 1 := ⟨_, rfl⟩
                  have zC : IntKind.i64.wrap ((n : Int) - 1) = (n1 : Int) := by rw [i64_in _ (by omega) (by omega)]; omega
                  have zD : IntKind.i64.wrap ((n1 : Int) - (z : Int)) = (nz : Int) := by rw [i64_in _ (by omega) (by omega)]; omega
                  have zE : IntKind.i64.wrap ((pn : Int) - 1) = (p1 : Int) := by rw [i64_in _ (by omega) (by omega)]; omega
                  have zF : IntKind.i64.wrap ((p1 : Int) - (z : Int)) = (pz : Int) := by rw [i64_in _ (by omega) (by omega)]; omega
                  have g1 : (0 : Int) <= (nz : Int) := by omega
                  have g2 : (nz : Int) < (n : Int) := by omega
                  have g3 : (0 : Int) <= (pz : Int) := by omega
                  have g4 : (pz : Int) < (pn : Int) := by omega
                  obtain ⟨B, off, rfl, c1⟩ := HI.out _ HZ.out.2 nz (by omega)
                  obtain ⟨B2, off2, rfl, c2⟩ := HJ.out _ HZ.out.2 pz (by omega)
                  have qb := by_beq (old.getD nz 0) (new.getD pz 0)
                  have hr : decide (old.getD nz 0 = new.getD pz 0) = r := by
                    rw [HR.out, HRO.out z (by omega), HRN.out z (by omega), hnz, hpz]
                    simp [h1, h2]
                  rw [hr] at qb
                  clear hr hnz hpz hn1 hp1 hna hpa
                  generalize (old.getD nz 0).toNat = x1 at *
                  generalize (new.getD pz 0).toNat = x2 at *
                  go_quiet (fail)
                  go_wp2
                  go_meet
                  case rel => exact ⟨rfl, HZ.out.2.drewN nq⟩
                · have k2 : decide ((z : Int) < (pa : Int)) = false := by rw [decide_eq_false_iff_not]; omega
                  obtain rfl : r = false := by rw [HR.out]; simp [h2]
                  go_quiet (fail)
                  go_wp2
                  go_meet
                  case rel => exact ⟨rfl, HZ.out.2.drewN nq⟩
              · have k1 : decide ((z : Int) < (na : Int)) = false := by rw [decide_eq_false_iff_not]; omega
                obtain rfl : r = false := by rw [HR.out]; simp [h1]
                go_quiet (fail)
                go_wp2
                go_meet
                case rel => exact ⟨rfl, HZ.out.2.drewN nq⟩
            case rest =>
              obtain ⟨rfl, hd⟩ := hcut
              have hst := lcp_step OR NR z
              rw [HLO.out, HLN.out, <- HNA.out, <- HPA.out] at hst
              have HD : Hid (Dr w _) := hd
              clear hd
              cases r with
              | true =>
                have hc := of_decide_eq_true HR.out.symm
                rw [if_pos hc] at hst
                have HA2 : Hid ((z + 1) + lcp (OR.drop (z + 1)) (NR.drop (z + 1)) = lcs old new a) := by show _ = _; have := HZ.out.1; omega
                have hc1 := hc.1
                have hc2 := hc.2.1
                have hna := HNA.out
                have z1 : IntKind.i64.wrap ((z : Int) + 1) = (z : Int) + 1 := i64_in _ (by omega) (by omega)
                clear hst hc HZ HR hna
                go_wp2
                exact ⟨⟨z + 1, by omega, by omega, by go_num, HA2.out, HD.out⟩, by simp [intOf]; omega⟩
              | false =>
                rw [if_neg (of_decide_eq_false HR.out.symm)] at hst
                have hzl : z = lcs old new a := by have := HZ.out.1; omega
                have HM : Hid (mostN old new = min (77 + (if 0 < a then 9 else 0) + (if 0 < z then 9 else 0) + (if a + z < pn then 5 + pn - a - z else 0)) (82 + pn)) := by
                  show _ = _
                  unfold mostN
                  rw [if_neg (by rw [HP.out]; exact h0), <- HL.out, <- hzl, HP.out]
                have hza : a + z <= pn := by have := HPA.out; omega
                have HB : Hid (Below w.heap.size w _) := Below_dr (Below.refl _ _) HD.out
                clear hst HZ HR hzl HL HRO HRN HLO HLN HLC zA zB
                have zS : IntKind.i64.wrap ((a : Int) + (z : Int)) = (a : Int) + (z : Int) := i64_in _ (by omega) (by omega)
                have zT : IntKind.i64.wrap (5 + (pn : Int)) = 5 + (pn : Int) := i64_in _ (by omega) (by omega)
                have zU : IntKind.i64.wrap (5 + (pn : Int) - (a : Int)) = 5 + (pn : Int) - (a : Int) := i64_in _ (by omega) (by omega)
                have zV : IntKind.i64.wrap (5 + (pn : Int) - (a : Int) - (z : Int)) = 5 + (pn : Int) - (a : Int) - (z : Int) := i64_in _ (by omega) (by omega)
                have zW : ∀ k : Int, 0 <= k -> k < 1000 -> IntKind.i64.wrap (k + (5 + (pn : Int) - (a : Int) - (z : Int))) = k + (5 + (pn : Int) - (a : Int) - (z : Int)) := fun k h1 h2 => i64_in _ (by omega) (by omega)
                have zW1 := zW 77 (by omega) (by omega)
                have zW2 := zW 86 (by omega) (by omega)
                have zW3 := zW 95 (by omega) (by omega)
                have zX : IntKind.i64.wrap (82 + (pn : Int)) = 82 + (pn : Int) := i64_in _ (by omega) (by omega)
                clear zW
                by_cases p1 : (0 : Int) < (a : Int)
                all_goals by_cases p2 : (0 : Int) < (z : Int)
                all_goals by_cases p3 : (a : Int) + (z : Int) < (pn : Int)
                all_goals go_wp2
                all_goals
                  go_ret
                  refine ⟨congrArg (fun k => Ending.returned (Value.int .i64 k)) ?_, HB.out⟩
                  rw [HM.out]
                  show _ = ((_ : Nat) : Int)
                  repeat' split
                  all_goals first | omega | (simp; omega)
end Go.Proofs.YtplpoehfdhkhmaaDoor
