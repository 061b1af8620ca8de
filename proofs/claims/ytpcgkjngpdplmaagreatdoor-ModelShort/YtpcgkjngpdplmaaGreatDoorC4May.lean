import Derived.Test.YtpcgkjngpdplmaaGreatDoorN19De
import Derived.Test.YtpcgkjngpdplmaaGreatDoorA
import Derived.Laws.MakeOwn
import Derived.Laws.CopyOwn

/-! The code's model: deed. (Printed by tools/genn19.py.) -/
namespace Go.Proofs.YtpcgkjngpdplmaaGreatDoor
open Go.RowKit Go.Maps
set_option linter.unusedVariables false
set_option linter.unusedSimpArgs false

theorem neq_func (k : Nat) (fs bs : Array Value) (w : World) : (binOp BinOp.neq 73 (.func (.func k) fs bs) .nilFunc).run Tryz.prog w = .ok (.bool true) w := by kernel_rfl
theorem neq_nil (w : World) : (binOp BinOp.neq 73 .nilFunc .nilFunc).run Tryz.prog w = .ok (.bool false) w := by kernel_rfl
set_option maxHeartbeats 4000000 in
set_option maxRecDepth 100000 in
theorem deed_any {N : Nat} {w : World} {mg rg nb so cap : Nat} {c : Cfg} {l : Secs} {B : List (List By)} {o : SP} {bo : Option Addr} {bc : Nat} (h : AskIn N w mg rg nb so cap c l B o bo bc) :
    Calls Tryz.prog 17 #[.pointer (some ⟨mg, 0, none⟩), .agg (spC o bo bc).toArray] w (DeedM N mg rg nb so c l (staC c l B o) (deedC c l B o) w) := by
  obtain ⟨w1, hw1⟩ : ∃ w1, w1 = w.alloc (.cells (spC o bo bc).toArray 34) := ⟨_, rfl⟩
  have hb1 : Below w.heap.size w w1 := by rw [hw1]; exact (Below.refl _ _).alloc (Nat.le_refl _) _
  have r1 : Row w1 w.heap.size 34 (spC o bo bc) := by rw [hw1]; exact Row.at _ _ _ _ _ rfl rfl
  have c0 : w1.cell? ⟨w.heap.size, 0, none⟩ = some (.int .i64 o.kind) := r1.cell 0 _ rfl
  have LSP : Hid ((spC o bo bc).length = 4) := rfl
  have h1 := h.keep hb1
  have hbN : Below N w w1 := hb1.mono h.md.ne.2.2.2.2
  obtain ⟨DD, hDD⟩ : ∃ DD, DD = deedC c l B o := ⟨_, rfl⟩
  rw [← hDD]
  obtain ⟨BB, hBB⟩ : ∃ BB, BB = staC c l B o := ⟨_, rfl⟩
  rw [← hBB]
  have st0 : ¬ o.kind = 8 → BB = B := fun q => by rw [hBB]; unfold staC; rw [if_neg q]
  unfold deedC at hDD
  by_cases k11 : o.kind = 11
  · have hB := st0 (by omega)
    rw [k11] at c0
    rw [if_pos k11] at hDD
    have HQ : Hid (DeedM N mg rg nb so c l BB DD w (.returned (.func (.func 27) #[] #[])) w1) := by rw [hB, hDD]; exact ⟨_, _, _, so, cap, rfl, ent_nothing, nothing_deed c (B.length + 1) w1, h1.md, (LyB.refl w).keep hb1⟩
    clear hDD hBB st0 hB h1 h hb1 r1 hbN k11
    generalize hPP : DeedM N mg rg nb so c l BB DD w = PP at *
    clear hPP
    go_enter Tryz.func17, Tryz.ntmps17
    go_wp2_with (rw [← hw1]; have hz := hw1; clear hz hw1)
    exact HQ.out
  by_cases k12 : o.kind = 12
  · have hB := st0 (by omega)
    rw [k12] at c0
    rw [if_neg k11, if_pos k12] at hDD
    have HQ : Hid (DeedM N mg rg nb so c l BB DD w (.returned (.func (.func 28) #[] #[])) w1) := by rw [hB, hDD]; exact ⟨_, _, _, so, cap, rfl, ent_restore, restore_deed c (B.length + 1) w1, h1.md, (LyB.refl w).keep hb1⟩
    clear hDD hBB st0 hB h1 h hb1 r1 hbN k12
    generalize hPP : DeedM N mg rg nb so c l BB DD w = PP at *
    clear hPP
    go_enter Tryz.func17, Tryz.ntmps17
    go_wp2_with (rw [← hw1]; have hz := hw1; clear hz hw1)
    exact HQ.out
  by_cases k10 : o.kind = 10
  · have hB := st0 (by omega)
    rw [k10] at c0
    rw [if_neg k11, if_neg k12, if_pos k10] at hDD
    have HQ : Hid (DeedM N mg rg nb so c l BB DD w (.returned (.func (.func 29) #[] #[])) w1) := by rw [hB, hDD]; exact ⟨_, _, _, so, cap, rfl, ent_mount, mount_deed c (B.length + 1) w1, h1.md, (LyB.refl w).keep hb1⟩
    clear hDD hBB st0 hB h1 h hb1 r1 hbN k10
    generalize hPP : DeedM N mg rg nb so c l BB DD w = PP at *
    clear hPP
    go_enter Tryz.func17, Tryz.ntmps17
    go_wp2_with (rw [← hw1]; have hz := hw1; clear hz hw1)
    exact HQ.out
  by_cases k13 : o.kind = 13
  · have hB := st0 (by omega)
    rw [k13] at c0
    rw [if_neg k11, if_neg k12, if_neg k10, if_pos k13] at hDD
    have X := onRom_any (c := c) (g := B.length + 1) (D := nothingC) 27 #[] #[] w1 ent_nothing (nothing_deed c (B.length + 1) w1)
    rw [← hDD] at X
    have HF : Hid (∀ e w2, DeedR c (B.length + 1) DD w1 e w2 → DeedM N mg rg nb so c l BB DD w e w2) := fun e w2 hd => by rw [hB]; exact (hd.m h1.md).from hb1
    clear hDD hBB st0 hB h1 h hb1 r1 hbN k13 k11 k12 k10
    generalize hPP : DeedM N mg rg nb so c l BB DD w = PP at *
    clear hPP
    go_enter Tryz.func17, Tryz.ntmps17
    go_wp2_with (rw [← hw1]; have hz := hw1; clear hz hw1)
    refine X.mono ?_
    rintro e w2 ⟨k, fs, bs, rfl, hk2, hD2, hb2⟩
    dsimp only
    have HQ : Hid _ := HF.out _ _ ⟨k, fs, bs, rfl, hk2, hD2, hb2⟩
    clear HF hk2 hD2 hb2
    go_wp2
    exact HQ.out
  rw [if_neg k11, if_neg k12, if_neg k10, if_neg k13] at hDD
  have d11 : (o.kind == 11) = false := beq_false_of_ne k11
  have d12 : (o.kind == 12) = false := beq_false_of_ne k12
  have d10 : (o.kind == 10) = false := beq_false_of_ne k10
  have d13 : (o.kind == 13) = false := beq_false_of_ne k13
  by_cases hr : 1 ≤ o.kind ∧ o.kind ≤ 9
  · rw [if_pos hr] at hDD
    have X := asked_any h1 hr
    have WP : Hid (∀ w2 k fs bs so2 cap2, Ent k → DeedIs c ((staC c l B o).length + 1) w2 k fs bs (askedC c l (staC c l B o) (layC c l B o.b).1 o) → MdM N w2 mg rg nb so2 cap2 c l (staC c l B o) → Calls Tryz.prog 32 #[.func (.func k) fs bs] w2 (DeedR c ((staC c l B o).length + 1) (withPowerC (askedC c l (staC c l B o) (layC c l B o.b).1 o)) w2)) := fun w2 k fs bs so2 cap2 hk hD hM => withPower_any k fs bs w2 hk hD
    have OR : Hid (∀ w3 k fs bs, Ent k → DeedIs c ((staC c l B o).length + 1) w3 k fs bs (withPowerC (askedC c l (staC c l B o) (layC c l B o.b).1 o)) → Calls Tryz.prog 30 #[.func (.func k) fs bs] w3 (DeedR c ((staC c l B o).length + 1) DD w3)) := fun w3 k fs bs hk hD => by rw [hDD]; exact onRom_any k fs bs w3 hk hD
    have HF : Hid (∀ w2 w3 so2 cap2 e w4, MdM N w2 mg rg nb so2 cap2 c l (staC c l B o) → LyB (fun i => i = nb ∨ i = so ∨ i = mg) w1 w2 → Below w2.heap.size w2 w3 → DeedR c ((staC c l B o).length + 1) DD w3 e w4 → DeedM N mg rg nb so c l BB DD w e w4) := fun w2 w3 so2 cap2 e w4 hM hb h3 hd => by
      rw [hBB]
      obtain ⟨k, fs, bs, rfl, hk, hD, h4⟩ := hd
      exact ⟨k, fs, bs, so2, cap2, rfl, hk, hD, (hM.keep h3).keep h4, LyB.after hb1 ((hb.keep h3).keep h4)⟩
    clear hDD hBB st0 h1 h hb1 hbN hr
    generalize hPP : DeedM N mg rg nb so c l BB DD w = PP at *
    clear hPP
    go_enter Tryz.func17, Tryz.ntmps17
    go_wp2_with (first
      | (rw [← hw1]; have hz := hw1; clear hz hw1)
      | (refine wpList_load_whole_g ?_ 34 (.tmp 3) rfl w.heap.size 34 4 (spC o bo bc) r1 rfl _ LSP.out Tryz.underlying34 rfl (by kernel_rfl) ?_; · rfl))
    refine X.mono ?_
    rintro e w2 ⟨k, fs, bs, so2, cap2, rfl, hk2, hD2, hM2, hb2⟩
    dsimp only
    have Y := WP.out w2 k fs bs so2 cap2 hk2 hD2 hM2
    have NE := neq_func k fs bs w2
    have HM2 : Hid (MdM N w2 mg rg nb so2 cap2 c l (staC c l B o) ∧ LyB (fun i => i = nb ∨ i = so ∨ i = mg) w1 w2) := ⟨hM2, hb2⟩
    clear WP hk2 hD2 hM2 hb2 X
    go_wp2_with fail
    refine Y.mono ?_
    rintro e w3 ⟨k3, fs3, bs3, rfl, hk3, hD3, hb3⟩
    dsimp only
    have Z := OR.out w3 k3 fs3 bs3 hk3 hD3
    have HB3 : Hid (Below w2.heap.size w2 w3) := hb3
    clear OR hk3 hD3 hb3 Y
    go_wp2_with fail
    refine Z.mono ?_
    rintro e w4 ⟨k4, fs4, bs4, rfl, hk4, hD4, hb4⟩
    dsimp only
    have HQ : Hid _ := HF.out w2 w3 so2 cap2 _ _ HM2.out.1 HM2.out.2 HB3.out ⟨k4, fs4, bs4, rfl, hk4, hD4, hb4⟩
    clear HF hk4 hD4 hb4 Z HM2 HB3
    go_wp2
    exact HQ.out
  · rw [if_neg hr] at hDD
    have hB := st0 (by omega)
    have X := asked_none mg o bo bc w1 hr
    have HF : Hid (∀ w2, Below w1.heap.size w1 w2 → DeedM N mg rg nb so c l BB DD w (.returned (.func (.func 33) #[] #[])) w2) := fun w2 h2 => by
      rw [hB, hDD]
      exact ⟨_, _, _, so, cap, rfl, ent_kind, kind_deed c (B.length + 1) w2, h1.md.keep h2, ((LyB.refl w).keep hb1).keep h2⟩
    clear hDD hBB st0 hB h1 h hb1 hbN hr
    generalize hPP : DeedM N mg rg nb so c l BB DD w = PP at *
    clear hPP
    go_enter Tryz.func17, Tryz.ntmps17
    go_wp2_with (first
      | (rw [← hw1]; have hz := hw1; clear hz hw1)
      | (refine wpList_load_whole_g ?_ 34 (.tmp 3) rfl w.heap.size 34 4 (spC o bo bc) r1 rfl _ LSP.out Tryz.underlying34 rfl (by kernel_rfl) ?_; · rfl))
    refine X.mono ?_
    rintro e w2 ⟨rfl, hb2⟩
    dsimp only
    have HQ : Hid _ := HF.out w2 hb2
    have NE := neq_nil w2
    clear HF hb2
    go_wp2
    exact HQ.out
end Go.Proofs.YtpcgkjngpdplmaaGreatDoor


/-! The code's chip: Blow, Config, blank. -/
namespace Go.Proofs.YtpcgkjngpdplmaaGreatDoor
open Go.RowKit

end Go.Proofs.YtpcgkjngpdplmaaGreatDoor


/-! The code's chip: blank, raise. (Printed by tools/genraise.py.) -/
namespace Go.Proofs.YtpcgkjngpdplmaaGreatDoor
open Go.RowKit

section
variable {w0 : World} {B PL cap c j : Nat} {M : ByteArray} {wb mb nb : By} {L : Nat → Bool} {x22 x23 x24 x25 x26 x27 x28 x29 x30 x31 x32 x33 x34 x35 x36 : Value} {W : World}
end
end Go.Proofs.YtpcgkjngpdplmaaGreatDoor


/-! The code's chip: Erase, Config. -/
namespace Go.Proofs.YtpcgkjngpdplmaaGreatDoor
open Go.RowKit

end Go.Proofs.YtpcgkjngpdplmaaGreatDoor


/-! make and copy: rows of one value; a copy over a whole row. -/
namespace Go.Proofs.YtpcgkjngpdplmaaGreatDoor
open Go.RowKit

end Go.Proofs.YtpcgkjngpdplmaaGreatDoor


/-! The code's chip: again. (Printed by tools/genagain.py.) -/
namespace Go.Proofs.YtpcgkjngpdplmaaGreatDoor
open Go.RowKit

section
variable {W1 : World} {sz : Nat} {v : SV} {np ne nb : Nat} {L : Nat → Bool} {x6 x7 x8 x9 x10 x11 x12 x13 x14 x15 x16 x17 x18 x3 : Value} {G3 G7 G11 G13 : Nat} {W W2 : World}
end
section
variable {W1 : World} {gp tB np i n : Nat} {qo : Option Addr} {qc : Nat} {old : List Value} {L : Nat → Bool} {x27 x28 x29 x30 x31 x32 x33 : Value} {G5 : Nat} {W W2 : World}
end
end Go.Proofs.YtpcgkjngpdplmaaGreatDoor


/-! The code's chip: May, pages, fuses. -/
namespace Go.Proofs.YtpcgkjngpdplmaaGreatDoor
open Go.RowKit

set_option maxHeartbeats 2000000 in
set_option maxRecDepth 100000 in
theorem cmay_any (c : Cfg) (w : World) :
    Calls Tryz.prog 14 #[.agg c.vals.toArray] w fun e w' => e = .returned (.int .i64 c.may) ∧ Below w.heap.size w w' := by
  obtain ⟨b1, h1⟩ : ∃ b, decide (1 ≤ c.slots ∧ c.slots ≤ 8) = b := ⟨_, rfl⟩
  obtain ⟨b2, h2⟩ : ∃ b, decide (c.slots + 3 ≤ c.cells ∧ c.cells ≤ 256) = b := ⟨_, rfl⟩
  obtain ⟨b3, h3⟩ : ∃ b, decide (1 ≤ c.fuses ∧ c.fuses ≤ 64) = b := ⟨_, rfl⟩
  obtain ⟨b4, h4⟩ : ∃ b, decide (1 ≤ c.step ∧ c.step ≤ 65536) = b := ⟨_, rfl⟩
  obtain ⟨b5, h5⟩ : ∃ b, decide (1 ≤ c.keys ∧ c.keys ≤ 64) = b := ⟨_, rfl⟩
  obtain ⟨b6, h6⟩ : ∃ b, decide (0 ≤ c.erases ∧ c.erases ≤ 65536) = b := ⟨_, rfl⟩
  obtain ⟨b7, h7⟩ : ∃ b, decide (0 ≤ c.area ∧ c.area ≤ 64) = b := ⟨_, rfl⟩
  have HM : Hid (c.may = (if (b1 && (b2 && (b3 && b4))) && (b5 && (b6 && b7)) then 0 else 1)) := by show _ = _; simp only [Cfg.may, Cfg.a, Cfg.b, h1, h2, h3, h4, h5, h6, h7]
  have W1 := fun w => cwithin_any c.slots 1 8 b1 h1 w
  have W2 := fun w => cwithin_any c.cells (c.slots + 3) 256 b2 h2 w
  have W3 := fun w => cwithin_any c.fuses 1 64 b3 h3 w
  have W4 := fun w => cwithin_any c.step 1 65536 b4 h4 w
  have W5 := fun w => cwithin_any c.keys 1 64 b5 h5 w
  have W6 := fun w => cwithin_any c.erases 0 65536 b6 h6 w
  have W7 := fun w => cwithin_any c.area 0 64 b7 h7 w
  have hsl : b1 = true → 1 ≤ c.slots ∧ c.slots ≤ 8 := fun e => by rw [e] at h1; simpa using h1
  have HSL : Hid (b1 = true → 1 ≤ c.slots ∧ c.slots ≤ 8) := hsl
  have b0 : ∀ o1, Below w.heap.size w (w.alloc o1) := fun o1 => (Below.refl _ _).alloc (Nat.le_refl _) _
  clear h1 h2 h3 h4 h5 h6 h7 hsl
  obtain ⟨cells, slots, fuses, step, keys, erases, area⟩ := c
  simp only [Cfg.vals] at *
  go_enter Tryz.func14, Tryz.ntmps14
  go_upto_region 1 with fail
  have r0 : Row (w.alloc (.cells #[.int .i64 cells, .int .i64 slots, .int .i64 fuses, .int .i64 step, .int .i64 keys, .int .i64 erases, .int .i64 area] 23)) w.heap.size 23 [.int .i64 cells, .int .i64 slots, .int .i64 fuses, .int .i64 step, .int .i64 keys, .int .i64 erases, .int .i64 area] := Row.at _ _ _ _ _ rfl rfl
  have hb0 := b0 (.cells #[.int .i64 cells, .int .i64 slots, .int .i64 fuses, .int .i64 step, .int .i64 keys, .int .i64 erases, .int .i64 area] 23)
  generalize hW0 : w.alloc (.cells #[.int .i64 cells, .int .i64 slots, .int .i64 fuses, .int .i64 step, .int .i64 keys, .int .i64 erases, .int .i64 area] 23) = W0 at *
  have c0 := r0.cell 0 _ rfl
  have c1 := r0.cell 1 _ rfl
  have c2 := r0.cell 2 _ rfl
  have c3 := r0.cell 3 _ rfl
  have c4 := r0.cell 4 _ rfl
  have c5 := r0.cell 5 _ rfl
  have c6 := r0.cell 6 _ rfl
  clear r0 hW0 b0
  go_cut [3] (fun v wx => v = .bool (b1 && (b2 && (b3 && (b4 && (b5 && (b6 && b7)))))) ∧ wx = W0)
  case first =>
    go_wp2_with fail
    refine (W1 _).mono ?_
    rintro e w1 ⟨rfl, hw1⟩
    obtain rfl := hw1.symm
    cases b1
    · go_wp2
      go_meet
      case rel => exact ⟨rfl, rfl⟩
    · obtain ⟨q1, q2⟩ := HSL.out rfl
      go_wp2_with fail
      refine (W2 _).mono ?_
      rintro e w2 ⟨rfl, hw2⟩
      obtain rfl := hw2.symm
      cases b2
      · go_wp2
        go_meet
        case rel => exact ⟨rfl, rfl⟩
      · go_wp2_with fail
        refine (W3 _).mono ?_
        rintro e w3 ⟨rfl, hw3⟩
        obtain rfl := hw3.symm
        cases b3
        · go_wp2
          go_meet
          case rel => exact ⟨rfl, rfl⟩
        · go_wp2_with fail
          refine (W4 _).mono ?_
          rintro e w4 ⟨rfl, hw4⟩
          obtain rfl := hw4.symm
          cases b4
          · go_wp2
            go_meet
            case rel => exact ⟨rfl, rfl⟩
          · go_wp2_with fail
            refine (W5 _).mono ?_
            rintro e w5 ⟨rfl, hw5⟩
            obtain rfl := hw5.symm
            cases b5
            · go_wp2
              go_meet
              case rel => exact ⟨rfl, rfl⟩
            · go_wp2_with fail
              refine (W6 _).mono ?_
              rintro e w6 ⟨rfl, hw6⟩
              obtain rfl := hw6.symm
              cases b6
              · go_wp2
                go_meet
                case rel => exact ⟨rfl, rfl⟩
              · go_wp2_with fail
                refine (W7 _).mono ?_
                rintro e w7 ⟨rfl, hw7⟩
                obtain rfl := hw7.symm
                cases b7
                all_goals
                  go_wp2
                  go_meet
                  case rel => exact ⟨rfl, rfl⟩
  case rest =>
    obtain ⟨rfl, rfl⟩ := hcut
    have HM2 : Hid (Cfg.may ⟨cells, slots, fuses, step, keys, erases, area⟩ = (if b1 && (b2 && (b3 && (b4 && (b5 && (b6 && b7))))) then 0 else 1)) := by
      show _ = _
      rw [HM.out]
      cases b1 <;> cases b2 <;> cases b3 <;> cases b4 <;> rfl
    clear HM W1 W2 W3 W4 W5 W6 W7 HSL
    generalize (b1 && (b2 && (b3 && (b4 && (b5 && (b6 && b7)))))) = B at *
    cases B
    all_goals
      go_wp2
      go_ret
      exact ⟨by rw [HM2.out]; rfl, hb0⟩

end Go.Proofs.YtpcgkjngpdplmaaGreatDoor
