
import Derived.Test.YtgpnbiaghokjkaaDoorC4Again
/-! The code's chip: May, pages, fuses. -/
namespace Go.Proofs.YtgpnbiaghokjkaaDoor
open Go.RowKit

set_option maxHeartbeats 2000000 in
set_option maxRecDepth 100000 in
theorem cmay_any (c : Cfg) (w : World) :
    Calls Tryd.prog 34 #[.agg c.vals.toArray] w fun e w' => e = .returned (.int .i64 c.may) ∧ Below w.heap.size w w' := by
  obtain ⟨b1, h1⟩ : ∃ b, decide (1 ≤ c.slots ∧ c.slots ≤ 8) = b := ⟨_, rfl⟩
  obtain ⟨b2, h2⟩ : ∃ b, decide (c.slots + 3 ≤ c.cells ∧ c.cells ≤ 256) = b := ⟨_, rfl⟩
  obtain ⟨b3, h3⟩ : ∃ b, decide (1 ≤ c.fuses ∧ c.fuses ≤ 64) = b := ⟨_, rfl⟩
  obtain ⟨b4, h4⟩ : ∃ b, decide (1 ≤ c.step ∧ c.step ≤ 65536) = b := ⟨_, rfl⟩
  obtain ⟨b5, h5⟩ : ∃ b, decide (1 ≤ c.keys ∧ c.keys ≤ 64) = b := ⟨_, rfl⟩
  obtain ⟨b6, h6⟩ : ∃ b, decide (0 ≤ c.erases ∧ c.erases ≤ 65536) = b := ⟨_, rfl⟩
  obtain ⟨b7, h7⟩ : ∃ b, decide (0 ≤ c.area ∧ c.area ≤ 64) = b := ⟨_, rfl⟩
  have HM : Hid (c.may = (if (b1 && (b2 && (b3 && b4))) && (b5 && (b6 && b7)) then 0 else 1)) := by show _ = _; simp only [Cfg.may, Cfg.a, Cfg.b, h1, h2, h3, h4, h5, h6, h7]
  have W1 := fun w => cwithin_any c.slots 1 8 b1 h1 w
  have W2 := fun w => cwithin_any c.cells (c.slots + 3) 256 b2 h2 w
  have W3 := fun w => cwithin_any c.fuses 1 64 b3 h3 w
  have W4 := fun w => cwithin_any c.step 1 65536 b4 h4 w
  have W5 := fun w => cwithin_any c.keys 1 64 b5 h5 w
  have W6 := fun w => cwithin_any c.erases 0 65536 b6 h6 w
  have W7 := fun w => cwithin_any c.area 0 64 b7 h7 w
  have hsl : b1 = true → 1 ≤ c.slots ∧ c.slots ≤ 8 := fun e => by rw [e] at h1; simpa using h1
  have HSL : Hid (b1 = true → 1 ≤ c.slots ∧ c.slots ≤ 8) := hsl
  have b0 : ∀ o1, Below w.heap.size w (w.alloc o1) := fun o1 => (Below.refl _ _).alloc (Nat.le_refl _) _
  clear h1 h2 h3 h4 h5 h6 h7 hsl
  obtain ⟨cells, slots, fuses, step, keys, erases, area⟩ := c
  simp only [Cfg.vals] at *
  go_enter Tryd.func34, Tryd.ntmps34
  go_upto_region 1 with fail
  have r0 : Row (w.alloc (.cells #[.int .i64 cells, .int .i64 slots, .int .i64 fuses, .int .i64 step, .int .i64 keys, .int .i64 erases, .int .i64 area] 24)) w.heap.size 24 [.int .i64 cells, .int .i64 slots, .int .i64 fuses, .int .i64 step, .int .i64 keys, .int .i64 erases, .int .i64 area] := Row.at _ _ _ _ _ rfl rfl
  have hb0 := b0 (.cells #[.int .i64 cells, .int .i64 slots, .int .i64 fuses, .int .i64 step, .int .i64 keys, .int .i64 erases, .int .i64 area] 24)
  generalize hW0 : w.alloc (.cells #[.int .i64 cells, .int .i64 slots, .int .i64 fuses, .int .i64 step, .int .i64 keys, .int .i64 erases, .int .i64 area] 24) = W0 at *
  have c0 := r0.cell 0 _ rfl
  have c1 := r0.cell 1 _ rfl
  have c2 := r0.cell 2 _ rfl
  have c3 := r0.cell 3 _ rfl
  have c4 := r0.cell 4 _ rfl
  have c5 := r0.cell 5 _ rfl
  have c6 := r0.cell 6 _ rfl
  clear r0 hW0 b0
  go_cut [3] (fun v wx => v = .bool (b1 && (b2 && (b3 && (b4 && (b5 && (b6 && b7)))))) ∧ wx = W0)
  case first =>
    go_wp2_with fail
    refine (W1 _).mono ?_
    rintro e w1 ⟨rfl, hw1⟩
    obtain rfl := hw1.symm
    cases b1
    · go_wp2
      go_meet
      case rel => exact ⟨rfl, rfl⟩
    · obtain ⟨q1, q2⟩ := HSL.out rfl
      go_wp2_with fail
      refine (W2 _).mono ?_
      rintro e w2 ⟨rfl, hw2⟩
      obtain rfl := hw2.symm
      cases b2
      · go_wp2
        go_meet
        case rel => exact ⟨rfl, rfl⟩
      · go_wp2_with fail
        refine (W3 _).mono ?_
        rintro e w3 ⟨rfl, hw3⟩
        obtain rfl := hw3.symm
        cases b3
        · go_wp2
          go_meet
          case rel => exact ⟨rfl, rfl⟩
        · go_wp2_with fail
          refine (W4 _).mono ?_
          rintro e w4 ⟨rfl, hw4⟩
          obtain rfl := hw4.symm
          cases b4
          · go_wp2
            go_meet
            case rel => exact ⟨rfl, rfl⟩
          · go_wp2_with fail
            refine (W5 _).mono ?_
            rintro e w5 ⟨rfl, hw5⟩
            obtain rfl := hw5.symm
            cases b5
            · go_wp2
              go_meet
              case rel => exact ⟨rfl, rfl⟩
            · go_wp2_with fail
              refine (W6 _).mono ?_
              rintro e w6 ⟨rfl, hw6⟩
              obtain rfl := hw6.symm
              cases b6
              · go_wp2
                go_meet
                case rel => exact ⟨rfl, rfl⟩
              · go_wp2_with fail
                refine (W7 _).mono ?_
                rintro e w7 ⟨rfl, hw7⟩
                obtain rfl := hw7.symm
                cases b7
                all_goals
                  go_wp2
                  go_meet
                  case rel => exact ⟨rfl, rfl⟩
  case rest =>
    obtain ⟨rfl, rfl⟩ := hcut
    have HM2 : Hid (Cfg.may ⟨cells, slots, fuses, step, keys, erases, area⟩ = (if b1 && (b2 && (b3 && (b4 && (b5 && (b6 && b7))))) then 0 else 1)) := by
      show _ = _
      rw [HM.out]
      cases b1 <;> cases b2 <;> cases b3 <;> cases b4 <;> rfl
    clear HM W1 W2 W3 W4 W5 W6 W7 HSL
    generalize (b1 && (b2 && (b3 && (b4 && (b5 && (b6 && b7)))))) = B at *
    cases B
    all_goals
      go_wp2
      go_ret
      exact ⟨by rw [HM2.out]; rfl, hb0⟩

set_option maxHeartbeats 1000000 in
set_option maxRecDepth 100000 in
theorem cpages_any (cells slots fuses step keys erases area : Int) (h0 : 0 ≤ area) (h1 : area ≤ 64) (w : World) :
    Calls Tryd.prog 51 #[.agg #[.int .i64 cells, .int .i64 slots, .int .i64 fuses, .int .i64 step, .int .i64 keys, .int .i64 erases, .int .i64 area]] w fun e w' => e = .returned (.int .i64 (2 + 2 * area)) ∧ Below w.heap.size w w' := by
  have b0 : ∀ o1, Below w.heap.size w (w.alloc o1) := fun o1 => (Below.refl _ _).alloc (Nat.le_refl _) _
  have r0 : Row (w.alloc (.cells #[.int .i64 cells, .int .i64 slots, .int .i64 fuses, .int .i64 step, .int .i64 keys, .int .i64 erases, .int .i64 area] 24)) w.heap.size 24 [.int .i64 cells, .int .i64 slots, .int .i64 fuses, .int .i64 step, .int .i64 keys, .int .i64 erases, .int .i64 area] := Row.at _ _ _ _ _ rfl rfl
  have c6 := r0.cell 6 _ rfl
  have j1 : IntKind.i64.wrap (2 * area) = 2 * area := i64_in _ (by omega) (by omega)
  have j2 : IntKind.i64.wrap (2 + 2 * area) = 2 + 2 * area := i64_in _ (by omega) (by omega)
  go_enter Tryd.func51, Tryd.ntmps51
  go_wp2
  go_ret
  exact ⟨rfl, b0 _⟩

set_option maxHeartbeats 1000000 in
set_option maxRecDepth 100000 in
theorem cfuses_any (cells slots fuses step keys erases area : Int) (hm : 1 ≤ slots * fuses ∧ slots * fuses ≤ 512) (h0 : 1 ≤ keys) (h1 : keys ≤ 64) (w : World) :
    Calls Tryd.prog 52 #[.agg #[.int .i64 cells, .int .i64 slots, .int .i64 fuses, .int .i64 step, .int .i64 keys, .int .i64 erases, .int .i64 area]] w fun e w' => e = .returned (.int .i64 (slots * fuses + keys)) ∧ Below w.heap.size w w' := by
  have b0 : ∀ o1, Below w.heap.size w (w.alloc o1) := fun o1 => (Below.refl _ _).alloc (Nat.le_refl _) _
  have r0 : Row (w.alloc (.cells #[.int .i64 cells, .int .i64 slots, .int .i64 fuses, .int .i64 step, .int .i64 keys, .int .i64 erases, .int .i64 area] 24)) w.heap.size 24 [.int .i64 cells, .int .i64 slots, .int .i64 fuses, .int .i64 step, .int .i64 keys, .int .i64 erases, .int .i64 area] := Row.at _ _ _ _ _ rfl rfl
  have c1 := r0.cell 1 _ rfl
  have c2 := r0.cell 2 _ rfl
  have c4 := r0.cell 4 _ rfl
  have j1 : IntKind.i64.wrap (slots * fuses) = slots * fuses := i64_in _ (by omega) (by omega)
  have j2 : IntKind.i64.wrap (slots * fuses + keys) = slots * fuses + keys := i64_in _ (by omega) (by omega)
  go_enter Tryd.func52, Tryd.ntmps52
  go_wp2
  go_ret
  exact ⟨rfl, b0 _⟩
end Go.Proofs.YtgpnbiaghokjkaaDoor
