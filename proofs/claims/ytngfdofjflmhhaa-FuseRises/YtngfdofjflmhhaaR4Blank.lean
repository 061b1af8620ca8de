
import Derived.Test.YtngfdofjflmhhaaR4AppG
/-! The reference's Blank, Fits. -/
namespace Go.Proofs.Ytngfdofjflmhhaa
open Go.RowKit
set_option linter.unusedVariables false

theorem blank_set (k : Nat) (hk : k < 32) : (List.replicate k (255#8 : By) ++ List.replicate (32 - k) 0).set k 255#8 = List.replicate (k + 1) 255#8 ++ List.replicate (32 - (k + 1)) 0 := by
  rw [List.set_append_right _ _ (by simp), List.length_replicate, Nat.sub_self, show 32 - k = (32 - (k + 1)) + 1 by omega, List.replicate_succ, List.set_cons_zero, List.replicate_succ', List.append_assoc]; rfl
theorem map_set_255 (l : List By) (k : Nat) : (l.map B8).set k (.int .u8 255) = (l.set k 255#8).map B8 := by rw [List.map_set]; rfl

/-- Has it the sizes of a config that may be? -/
def Fit (c : Cfg) (t : St) : Prop := (t.pages.length : Int) = 2 + 2 * c.area ∧ (t.erases.length : Int) = 2 + 2 * c.area ∧ (t.blown.length : Int) = c.slots * c.fuses + c.keys ∧ (∀ p, p < t.pages.length → ((t.pages.getD p []).length : Int) = c.cells ∧ 0 ≤ t.erases.getD p 0)

set_option maxHeartbeats 2000000 in
set_option maxRecDepth 100000 in
theorem fits_any (c : Cfg) (v : SV) (t : St) (w : World) (h : StV w v t) (hc : c.may = 0) (l1 : t.pages.length ≤ 140737488355328) (l2 : t.erases.length ≤ 140737488355328) (l3 : t.blown.length ≤ 140737488355328) (r : Bool) (hr : r = true ↔ Fit c t) :
    Calls Try.prog 24 #[.agg c.vals.toArray, .agg (v.vals t).toArray] w fun e w' => e = .returned (.bool r) ∧ Below w.heap.size w w' := by
  have HRF : Hid (¬ Fit c t → r = false) := fun hh => by cases hrr : r with | false => rfl | true => exact absurd (hr.1 hrr) hh
  have HRT : Hid (Fit c t → r = true) := fun hh => hr.2 hh
  have hcc : (1 ≤ c.slots ∧ c.slots ≤ 8) ∧ (c.slots + 3 ≤ c.cells ∧ c.cells ≤ 256) ∧ (1 ≤ c.fuses ∧ c.fuses ≤ 64) ∧ (1 ≤ c.keys ∧ c.keys ≤ 64) ∧ (0 ≤ c.area ∧ c.area ≤ 64) := by
    unfold Cfg.may at hc
    split at hc
    · rename_i hh
      simp [Cfg.a, Cfg.b] at hh
      omega
    · omega
  obtain ⟨⟨s1, s2⟩, ⟨q1, q2⟩, ⟨f1, f2⟩, ⟨k1, k2⟩, ar1, ar2⟩ := hcc
  have hmul : 1 ≤ c.slots * c.fuses ∧ c.slots * c.fuses ≤ 512 := by
    refine ⟨?_, ?_⟩
    · have := Int.mul_le_mul s1 f1 (by omega) (by omega); omega
    · have := Int.mul_le_mul s2 f2 (by omega) (by omega); omega
  clear hr hc
  obtain ⟨cells, slots, fuses, step, keys, erases, area⟩ := c
  simp only [Cfg.vals, SV.vals] at *
  have r0 : Row ((w.alloc (.cells #[.int .i64 cells, .int .i64 slots, .int .i64 fuses, .int .i64 step, .int .i64 keys, .int .i64 erases, .int .i64 area] 23)).alloc (.cells #[.slice v.po t.pages.length v.pc, .slice v.eo t.erases.length v.ec, .slice v.bo t.blown.length v.bc] 28)) w.heap.size 23 [.int .i64 cells, .int .i64 slots, .int .i64 fuses, .int .i64 step, .int .i64 keys, .int .i64 erases, .int .i64 area] := (Row.at w 23 _ _ _ rfl rfl).alloc _
  have r1 : Row ((w.alloc (.cells #[.int .i64 cells, .int .i64 slots, .int .i64 fuses, .int .i64 step, .int .i64 keys, .int .i64 erases, .int .i64 area] 23)).alloc (.cells #[.slice v.po t.pages.length v.pc, .slice v.eo t.erases.length v.ec, .slice v.bo t.blown.length v.bc] 28)) (w.heap.size + 1) 28 [.slice v.po t.pages.length v.pc, .slice v.eo t.erases.length v.ec, .slice v.bo t.blown.length v.bc] := Row.at _ _ _ _ _ (by simp) rfl
  have bb : Below w.heap.size w ((w.alloc (.cells #[.int .i64 cells, .int .i64 slots, .int .i64 fuses, .int .i64 step, .int .i64 keys, .int .i64 erases, .int .i64 area] 23)).alloc (.cells #[.slice v.po t.pages.length v.pc, .slice v.eo t.erases.length v.ec, .slice v.bo t.blown.length v.bc] 28)) := ((Below.refl _ _).alloc (Nat.le_refl _) _).alloc (by simp) _
  generalize hW0 : (w.alloc (.cells #[.int .i64 cells, .int .i64 slots, .int .i64 fuses, .int .i64 step, .int .i64 keys, .int .i64 erases, .int .i64 area] 23)).alloc (.cells #[.slice v.po t.pages.length v.pc, .slice v.eo t.erases.length v.ec, .slice v.bo t.blown.length v.bc] 28) = W0 at *
  have c0 := r0.cell 0 _ rfl
  have c1 := r0.cell 1 _ rfl
  have c2 := r0.cell 2 _ rfl
  have c4 := r0.cell 4 _ rfl
  have c6 := r0.cell 6 _ rfl
  have d0 := r1.cell 0 _ rfl
  have d1 := r1.cell 1 _ rfl
  have d2 := r1.cell 2 _ rfl
  have HV : Hid (∀ W, Below w.heap.size w W → StV W v t) := fun W hW => h.below hW (Nat.le_refl _)
  clear r0 r1 h
  have HF : Hid (Fit ⟨cells, slots, fuses, step, keys, erases, area⟩ t ↔ ((t.pages.length : Int) = 2 + 2 * area ∧ (t.erases.length : Int) = 2 + 2 * area ∧ (t.blown.length : Int) = slots * fuses + keys ∧ (∀ p, p < t.pages.length → ((t.pages.getD p []).length : Int) = cells ∧ 0 ≤ t.erases.getD p 0))) := Iff.rfl
  obtain ⟨m1, m2⟩ := hmul
  generalize hSF : slots * fuses = SF at *
  by_cases n1 : (t.pages.length : Int) = 2 + 2 * area
  · by_cases n2 : (t.erases.length : Int) = 2 + 2 * area
    · by_cases n3 : (t.blown.length : Int) = SF + keys
      · have e1 : ((t.pages.length : Int) != 2 + 2 * area) = false := by rw [bne_eq_false_iff_eq]; exact n1
        have e2 : ((t.erases.length : Int) != 2 + 2 * area) = false := by rw [bne_eq_false_iff_eq]; exact n2
        have e3 : ((t.blown.length : Int) != SF + keys) = false := by rw [bne_eq_false_iff_eq]; exact n3
        have N1 : Hid ((t.pages.length : Int) = 2 + 2 * area) := n1
        have N2 : Hid ((t.erases.length : Int) = 2 + 2 * area) := n2
        have N3 : Hid ((t.blown.length : Int) = SF + keys) := n3
        clear n1 n2 n3
        go_enter Try.func24, Try.ntmps24
        go_wp2
        go_loopw [6] (fun iv wr => ∃ p : Nat, p ≤ t.pages.length ∧ iv = .int .i64 p ∧ Dr W0 wr ∧ Hid (∀ j, j < p → ((t.pages.getD j []).length : Int) = cells ∧ 0 ≤ t.erases.getD j 0)) (fun iv _ => t.pages.length - (intOf iv).toNat)
        case atStart => exact ⟨0, by omega, rfl, Dr.refl _, fun j hj => by omega⟩
        case round =>
          obtain ⟨p, hp, rfl, d, heq⟩ := hrel
          have hn1 := N1.out
          have hn2 := N2.out
          by_cases hlt : p < t.pages.length
          · have y1 : (p : Int) < 2 + 2 * area := by omega
            have y2 : (p : Int) < (t.pages.length : Int) := by omega
            have y3 : (p : Int) < (t.erases.length : Int) := by omega
            have y0 : (0 : Int) ≤ (p : Int) := by omega
            have bwr : Below w.heap.size w wr := Below_dr bb d
            have d0' := d.cell d0
            have d1' := d.cell d1
            have c0' := d.cell c0
            obtain ⟨BA, oA, qa, qca, epa, cpa, _, _⟩ := (HV.out wr bwr).page p hlt
            obtain ⟨BB, oB, eB, cB⟩ := (HV.out wr bwr).er.cell p (Value.int .i64 (t.erases.getD p 0)) (by rw [List.getElem?_map, List.getD_eq_getElem?_getD, List.getElem?_eq_getElem (by omega)]; rfl)
            rw [epa] at d0'
            rw [eB] at d1'
            clear epa eB hn1 hn2
            by_cases x1 : ((t.pages.getD p []).length : Int) = cells
            · have g1 : (((t.pages.getD p []).length : Int) != cells) = false := by rw [bne_eq_false_iff_eq]; exact x1
              by_cases x2 : t.erases.getD p 0 < 0
              · have g2 : decide (t.erases.getD p 0 < 0) = true := by simpa using x2
                have N : Hid (¬ Fit ⟨cells, slots, fuses, step, keys, erases, area⟩ t) := fun hh => by have := ((HF.out.1 hh).2.2.2 p hlt).2; omega
                clear x1 x2
                generalize t.erases.getD p 0 = E0 at *
                generalize (t.pages.getD p []).length = PL at *
                go_wp2
                go_quiet (fail)
                go_wp2
                go_ret
                exact ⟨by rw [HRF.out N.out]; rfl, Below_dr bb (d.drewN nq)⟩
              · have g2 : decide (t.erases.getD p 0 < 0) = false := by simpa using x2
                have HS : Hid (∀ j, j < p + 1 → ((t.pages.getD j []).length : Int) = cells ∧ 0 ≤ t.erases.getD j 0) := fun j hj => by
                  by_cases hjp : j = p
                  · rw [hjp]; exact ⟨x1, by omega⟩
                  · exact heq.out j (by omega)
                clear x1 x2
                generalize t.erases.getD p 0 = E0 at *
                generalize (t.pages.getD p []).length = PL at *
                go_wp2
                go_quiet (fail)
                go_wp2
                exact ⟨⟨p + 1, by omega, by go_num, d.drewN nq, HS.out⟩, by simp [intOf]; omega⟩
            · have g1 : (((t.pages.getD p []).length : Int) != cells) = true := by rw [bne_iff_ne]; exact x1
              have N : Hid (¬ Fit ⟨cells, slots, fuses, step, keys, erases, area⟩ t) := fun hh => x1 ((HF.out.1 hh).2.2.2 p hlt).1
              clear x1
              generalize (t.pages.getD p []).length = PL at *
              go_wp2
              go_quiet (fail)
              go_wp2
              go_ret
              exact ⟨by rw [HRF.out N.out]; rfl, Below_dr bb (d.drewN nq)⟩
          · obtain rfl : p = t.pages.length := by omega
            have y1 : ¬ (t.pages.length : Int) < 2 + 2 * area := by omega
            have HY : Hid (Fit ⟨cells, slots, fuses, step, keys, erases, area⟩ t) := HF.out.2 ⟨N1.out, N2.out, N3.out, heq.out⟩
            clear hlt hp heq hn1 hn2
            go_wp2
            go_ret
            exact ⟨by rw [HRT.out HY.out]; rfl, Below_dr bb d⟩
      · have e1 : ((t.pages.length : Int) != 2 + 2 * area) = false := by rw [bne_eq_false_iff_eq]; exact n1
        have e2 : ((t.erases.length : Int) != 2 + 2 * area) = false := by rw [bne_eq_false_iff_eq]; exact n2
        have e3 : ((t.blown.length : Int) != SF + keys) = true := by rw [bne_iff_ne]; exact n3
        have N : Hid (¬ Fit ⟨cells, slots, fuses, step, keys, erases, area⟩ t) := fun hh => n3 (HF.out.1 hh).2.2.1
        clear n1 n2 n3
        go_enter Try.func24, Try.ntmps24
        go_wp2
        go_ret
        exact ⟨by rw [HRF.out N.out]; rfl, bb⟩
    · have e1 : ((t.pages.length : Int) != 2 + 2 * area) = false := by rw [bne_eq_false_iff_eq]; exact n1
      have e2 : ((t.erases.length : Int) != 2 + 2 * area) = true := by rw [bne_iff_ne]; exact n2
      have N : Hid (¬ Fit ⟨cells, slots, fuses, step, keys, erases, area⟩ t) := fun hh => n2 (HF.out.1 hh).2.1
      clear n1 n2
      go_enter Try.func24, Try.ntmps24
      go_wp2
      go_ret
      exact ⟨by rw [HRF.out N.out]; rfl, bb⟩
  · have e1 : ((t.pages.length : Int) != 2 + 2 * area) = true := by rw [bne_iff_ne]; exact n1
    have N : Hid (¬ Fit ⟨cells, slots, fuses, step, keys, erases, area⟩ t) := fun hh => n1 (HF.out.1 hh).1
    clear n1
    go_enter Try.func24, Try.ntmps24
    go_wp2
    go_ret
    exact ⟨by rw [HRF.out N.out]; rfl, bb⟩
end Go.Proofs.Ytngfdofjflmhhaa
