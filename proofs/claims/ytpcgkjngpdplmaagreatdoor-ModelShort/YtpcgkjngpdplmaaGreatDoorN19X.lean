
import Derived.Test.YtpcgkjngpdplmaaGreatDoorN19W
import Derived.Test.YtpcgkjngpdplmaaGreatDoorN19L
import Derived.Test.YtpcgkjngpdplmaaGreatDoorN19F
import Derived.Test.YtpcgkjngpdplmaaGreatDoorN19Q
import Derived.Test.YtpcgkjngpdplmaaGreatDoorI11Code
/-! The code's model: deeds that are made. (Printed by tools/genn19.py.) -/
namespace Go.Proofs.YtpcgkjngpdplmaaGreatDoor
open Go.RowKit Go.Maps
set_option linter.unusedVariables false
set_option linter.unusedSimpArgs false

theorem wpList_at_eq {P : Program} {ops : Array Oper} {Q : Exit → Act → World → Prop} {rest : List Oper} {a : Act} {w w' : World} (h : w' = w) (hh : wpList P ops Q rest a w') : wpList P ops Q rest a w := h ▸ hh
/-- A deed is handed back. -/
def DeedR (c : Cfg) (g : Nat) (D : CS → TL) (w : World) (e : Ending) (w' : World) : Prop := ∃ k fs bs, e = .returned (.func (.func k) fs bs) ∧ Ent k ∧ DeedIs c g w' k fs bs D ∧ Below w.heap.size w w'
theorem ent_beyond : Ent 61 := enters_of Tryz.func61 (by kernel_rfl) rfl
theorem ent_kind : Ent 33 := enters_of Tryz.func33 (by kernel_rfl) rfl
theorem ent_restore : Ent 28 := enters_of Tryz.func28 (by kernel_rfl) rfl
theorem ent_mount : Ent 29 := enters_of Tryz.func29 (by kernel_rfl) rfl
theorem ent_onRom : Ent 43 := enters_of Tryz.func43 (by kernel_rfl) rfl
theorem ent_power : Ent 53 := enters_of Tryz.func53 (by kernel_rfl) rfl
theorem ent_read : Ent 62 := enters_of Tryz.func62 (by kernel_rfl) rfl
theorem ent_bump : Ent 63 := enters_of Tryz.func63 (by kernel_rfl) rfl
theorem ent_bumpTo : Ent 65 := enters_of Tryz.func65 (by kernel_rfl) rfl
theorem ent_revoke : Ent 67 := enters_of Tryz.func67 (by kernel_rfl) rfl
theorem ent_revoked : Ent 69 := enters_of Tryz.func69 (by kernel_rfl) rfl
theorem ent_boot : Ent 72 := enters_of Tryz.func72 (by kernel_rfl) rfl
theorem ent_stage : Ent 76 := enters_of Tryz.func76 (by kernel_rfl) rfl
theorem ent_confirm : Ent 50 := enters_of Tryz.func50 (by kernel_rfl) rfl
theorem ent_start : Ent 52 := enters_of Tryz.func52 (by kernel_rfl) rfl

set_option maxHeartbeats 2000000 in
set_option maxRecDepth 100000 in
theorem onRom_any {c : Cfg} {g : Nat} {D : CS → TL} (k : Nat) (fs bs : Array Value) (w : World) (hk : Ent k) (h : DeedIs c g w k fs bs D) : Calls Tryz.prog 30 #[.func (.func k) fs bs] w (DeedR c g (onRomC D) w) := by
  obtain ⟨w1, hw1⟩ : ∃ w1, w1 = w.alloc (.cells #[.func (.func k) fs bs] 73) := ⟨_, rfl⟩
  have hb : Below w.heap.size w w1 := by rw [hw1]; exact (Below.refl _ _).alloc (Nat.le_refl _) _
  have r1 : Row w1 w.heap.size 73 [.func (.func k) fs bs] := by rw [hw1]; exact Row.at _ _ _ _ _ rfl rfl
  have HD : Hid (DeedIs c g w1 43 #[] #[.pointer (some ⟨w.heap.size, 0, none⟩)] (onRomC D) ∧ Below w.heap.size w w1) := ⟨onRom_deed (h.keep hb) hk r1, hb⟩
  clear hb r1 h hk
  go_enter Tryz.func30, Tryz.ntmps30
  go_wp2_with (rw [← hw1]; have hz := hw1; clear hz hw1)
  go_ret
  exact ⟨_, _, _, rfl, ent_onRom, HD.out⟩

set_option maxHeartbeats 2000000 in
set_option maxRecDepth 100000 in
theorem withPower_any {c : Cfg} {g : Nat} {D : CS → TL} (k : Nat) (fs bs : Array Value) (w : World) (hk : Ent k) (h : DeedIs c g w k fs bs D) : Calls Tryz.prog 32 #[.func (.func k) fs bs] w (DeedR c g (withPowerC D) w) := by
  obtain ⟨w1, hw1⟩ : ∃ w1, w1 = w.alloc (.cells #[.func (.func k) fs bs] 73) := ⟨_, rfl⟩
  have hb : Below w.heap.size w w1 := by rw [hw1]; exact (Below.refl _ _).alloc (Nat.le_refl _) _
  have r1 : Row w1 w.heap.size 73 [.func (.func k) fs bs] := by rw [hw1]; exact Row.at _ _ _ _ _ rfl rfl
  have HD : Hid (DeedIs c g w1 53 #[] #[.pointer (some ⟨w.heap.size, 0, none⟩)] (withPowerC D) ∧ Below w.heap.size w w1) := ⟨withPower_deed (h.keep hb) hk r1, hb⟩
  clear hb r1 h hk
  go_enter Tryz.func32, Tryz.ntmps32
  go_wp2_with (rw [← hw1]; have hz := hw1; clear hz hw1)
  go_ret
  exact ⟨_, _, _, rfl, ent_power, HD.out⟩

set_option maxHeartbeats 2000000 in
set_option maxRecDepth 100000 in
theorem read_any {c : Cfg} {g : Nat} (h8 : c.slots ≤ 8) (mg : Nat) (n : Int) (w : World) (hs : w.cell? ⟨mg, 1, none⟩ = some (.int .i64 c.slots)) : Calls Tryz.prog 44 #[.pointer (some ⟨mg, 0, none⟩), .int .i64 n] w (DeedR c g (fun (s : CS) => if 0 ≤ n ∧ n < c.slots then (fun (s : CS) => [(⟨0, s.num.getD n.toNat 0, false, zH⟩, s)]) s else [(an0 2, s)]) w) := by
  obtain ⟨DD, hDD⟩ : ∃ DD : CS → TL, DD = (fun (s : CS) => if 0 ≤ n ∧ n < c.slots then (fun (s : CS) => [(⟨0, s.num.getD n.toNat 0, false, zH⟩, s)]) s else [(an0 2, s)]) := ⟨_, rfl⟩
  rw [← hDD]
  obtain ⟨w1, hw1⟩ : ∃ w1, w1 = w.alloc (.cells #[.int .i64 n] 3) := ⟨_, rfl⟩
  have hb : Below w.heap.size w w1 := by rw [hw1]; exact (Below.refl _ _).alloc (Nat.le_refl _) _
  have rs : Row w1 w.heap.size 3 [.int .i64 n] := by rw [hw1]; exact Row.at _ _ _ _ _ rfl rfl
  have HS := hasSlot_any mg c n w1 ((hb.cell (cell_lt hs)).trans hs)
  have cb : w1.cell? ⟨w.heap.size, 0, none⟩ = some (.int .i64 n) := rs.cell 0 _ rfl
  by_cases hn : 0 ≤ n ∧ n < c.slots
  · rw [decide_eq_true hn] at HS
    obtain ⟨k, rfl⟩ : ∃ k : Nat, n = (k : Int) := ⟨n.toNat, by omega⟩
    have HD : Hid (∀ w2, Below w1.heap.size w1 w2 → DeedIs c g w2 62 #[] #[.pointer (some ⟨w.heap.size, 0, none⟩)] DD ∧ Below w.heap.size w w2) := fun w2 h2 => by
      refine ⟨?_, hb.trans (h2.mono hb.size)⟩
      have e : DD = (fun (s : CS) => [(⟨0, s.num.getD (k : Int).toNat 0, false, zH⟩, s)]) := by rw [hDD]; funext s; rw [if_pos hn]
      rw [e]
      simp only [Int.toNat_natCast]
      exact read_deed (rs.below h2 rs.lt) (by omega)
    clear hDD hb rs hs
    go_enter Tryz.func44, Tryz.ntmps44
    go_wp2_with (rw [← hw1]; have hz := hw1; clear hz hw1)
    refine HS.mono ?_
    rintro e w2 ⟨rfl, hb2⟩
    dsimp only
    have HD2 := HD.out w2 hb2
    have HD3 : Hid (DeedIs c g w2 62 #[] #[.pointer (some ⟨w.heap.size, 0, none⟩)] DD ∧ Below w.heap.size w w2) := HD2
    clear HD2 HD hb2
    go_wp2
    go_ret
    exact ⟨_, _, _, rfl, ent_read, HD3.out⟩
  · rw [decide_eq_false hn] at HS
    have HD : Hid (∀ w2, Below w1.heap.size w1 w2 → DeedIs c g w2 61 #[] #[] DD ∧ Below w.heap.size w w2) := fun w2 h2 => by
      refine ⟨?_, hb.trans (h2.mono hb.size)⟩
      have e : DD = fun (s : CS) => [(an0 2, s)] := by rw [hDD]; funext s; rw [if_neg hn]
      rw [e]
      exact beyond_deed c g w2
    clear hDD hb rs hs
    go_enter Tryz.func44, Tryz.ntmps44
    go_wp2_with (rw [← hw1]; have hz := hw1; clear hz hw1)
    refine HS.mono ?_
    rintro e w2 ⟨rfl, hb2⟩
    dsimp only
    have HD2 : Hid _ := HD.out w2 hb2
    clear HD hb2
    go_wp2
    go_ret
    exact ⟨_, _, _, rfl, ent_beyond, HD2.out⟩

set_option maxHeartbeats 2000000 in
set_option maxRecDepth 100000 in
theorem revoked_any {c : Cfg} {g : Nat} (h8 : c.keys ≤ 64) (mg : Nat) (n : Int) (w : World) (hs : w.cell? ⟨mg, 4, none⟩ = some (.int .i64 c.keys)) : Calls Tryz.prog 48 #[.pointer (some ⟨mg, 0, none⟩), .int .i64 n] w (DeedR c g (fun (s : CS) => if 0 ≤ n ∧ n < c.keys then (fun (s : CS) => [(⟨0, 0, s.rev.testBit n.toNat, zH⟩, s)]) s else [(an0 2, s)]) w) := by
  obtain ⟨DD, hDD⟩ : ∃ DD : CS → TL, DD = (fun (s : CS) => if 0 ≤ n ∧ n < c.keys then (fun (s : CS) => [(⟨0, 0, s.rev.testBit n.toNat, zH⟩, s)]) s else [(an0 2, s)]) := ⟨_, rfl⟩
  rw [← hDD]
  obtain ⟨w1, hw1⟩ : ∃ w1, w1 = w.alloc (.cells #[.int .i64 n] 3) := ⟨_, rfl⟩
  have hb : Below w.heap.size w w1 := by rw [hw1]; exact (Below.refl _ _).alloc (Nat.le_refl _) _
  have rs : Row w1 w.heap.size 3 [.int .i64 n] := by rw [hw1]; exact Row.at _ _ _ _ _ rfl rfl
  have HS := hasKey_any mg c n w1 ((hb.cell (cell_lt hs)).trans hs)
  have cb : w1.cell? ⟨w.heap.size, 0, none⟩ = some (.int .i64 n) := rs.cell 0 _ rfl
  by_cases hn : 0 ≤ n ∧ n < c.keys
  · rw [decide_eq_true hn] at HS
    obtain ⟨k, rfl⟩ : ∃ k : Nat, n = (k : Int) := ⟨n.toNat, by omega⟩
    have HD : Hid (∀ w2, Below w1.heap.size w1 w2 → DeedIs c g w2 69 #[] #[.pointer (some ⟨w.heap.size, 0, none⟩)] DD ∧ Below w.heap.size w w2) := fun w2 h2 => by
      refine ⟨?_, hb.trans (h2.mono hb.size)⟩
      have e : DD = (fun (s : CS) => [(⟨0, 0, s.rev.testBit (k : Int).toNat, zH⟩, s)]) := by rw [hDD]; funext s; rw [if_pos hn]
      rw [e]
      simp only [Int.toNat_natCast]
      exact revoked_deed (rs.below h2 rs.lt) (by omega)
    clear hDD hb rs hs
    go_enter Tryz.func48, Tryz.ntmps48
    go_wp2_with (rw [← hw1]; have hz := hw1; clear hz hw1)
    refine HS.mono ?_
    rintro e w2 ⟨rfl, hb2⟩
    dsimp only
    have HD2 := HD.out w2 hb2
    have HD3 : Hid (DeedIs c g w2 69 #[] #[.pointer (some ⟨w.heap.size, 0, none⟩)] DD ∧ Below w.heap.size w w2) := HD2
    clear HD2 HD hb2
    go_wp2
    go_ret
    exact ⟨_, _, _, rfl, ent_revoked, HD3.out⟩
  · rw [decide_eq_false hn] at HS
    have HD : Hid (∀ w2, Below w1.heap.size w1 w2 → DeedIs c g w2 61 #[] #[] DD ∧ Below w.heap.size w w2) := fun w2 h2 => by
      refine ⟨?_, hb.trans (h2.mono hb.size)⟩
      have e : DD = fun (s : CS) => [(an0 2, s)] := by rw [hDD]; funext s; rw [if_neg hn]
      rw [e]
      exact beyond_deed c g w2
    clear hDD hb rs hs
    go_enter Tryz.func48, Tryz.ntmps48
    go_wp2_with (rw [← hw1]; have hz := hw1; clear hz hw1)
    refine HS.mono ?_
    rintro e w2 ⟨rfl, hb2⟩
    dsimp only
    have HD2 : Hid _ := HD.out w2 hb2
    clear HD hb2
    go_wp2
    go_ret
    exact ⟨_, _, _, rfl, ent_beyond, HD2.out⟩

set_option maxHeartbeats 2000000 in
set_option maxRecDepth 100000 in
theorem revoke_any {c : Cfg} {g : Nat} (h8 : c.keys ≤ 64) (mg : Nat) (n : Int) (w : World) (hs : w.cell? ⟨mg, 4, none⟩ = some (.int .i64 c.keys)) : Calls Tryz.prog 47 #[.pointer (some ⟨mg, 0, none⟩), .int .i64 n] w (DeedR c g (fun (s : CS) => if 0 ≤ n ∧ n < c.keys then (revokeC n.toNat) s else [(an0 2, s)]) w) := by
  obtain ⟨DD, hDD⟩ : ∃ DD : CS → TL, DD = (fun (s : CS) => if 0 ≤ n ∧ n < c.keys then (revokeC n.toNat) s else [(an0 2, s)]) := ⟨_, rfl⟩
  rw [← hDD]
  obtain ⟨w1, hw1⟩ : ∃ w1, w1 = w.alloc (.cells #[.int .i64 n] 3) := ⟨_, rfl⟩
  have hb : Below w.heap.size w w1 := by rw [hw1]; exact (Below.refl _ _).alloc (Nat.le_refl _) _
  have rs : Row w1 w.heap.size 3 [.int .i64 n] := by rw [hw1]; exact Row.at _ _ _ _ _ rfl rfl
  have HS := hasKey_any mg c n w1 ((hb.cell (cell_lt hs)).trans hs)
  have cb : w1.cell? ⟨w.heap.size, 0, none⟩ = some (.int .i64 n) := rs.cell 0 _ rfl
  by_cases hn : 0 ≤ n ∧ n < c.keys
  · rw [decide_eq_true hn] at HS
    obtain ⟨k, rfl⟩ : ∃ k : Nat, n = (k : Int) := ⟨n.toNat, by omega⟩
    have HD : Hid (∀ w2, Below w1.heap.size w1 w2 → DeedIs c g w2 67 #[] #[.pointer (some ⟨w.heap.size, 0, none⟩)] DD ∧ Below w.heap.size w w2) := fun w2 h2 => by
      refine ⟨?_, hb.trans (h2.mono hb.size)⟩
      have e : DD = (revokeC (k : Int).toNat) := by rw [hDD]; funext s; rw [if_pos hn]
      rw [e]
      simp only [Int.toNat_natCast]
      exact revoke_deed (rs.below h2 rs.lt) (by omega)
    clear hDD hb rs hs
    go_enter Tryz.func47, Tryz.ntmps47
    go_wp2_with (rw [← hw1]; have hz := hw1; clear hz hw1)
    refine HS.mono ?_
    rintro e w2 ⟨rfl, hb2⟩
    dsimp only
    have HD2 := HD.out w2 hb2
    have HD3 : Hid (DeedIs c g w2 67 #[] #[.pointer (some ⟨w.heap.size, 0, none⟩)] DD ∧ Below w.heap.size w w2) := HD2
    clear HD2 HD hb2
    go_wp2
    go_ret
    exact ⟨_, _, _, rfl, ent_revoke, HD3.out⟩
  · rw [decide_eq_false hn] at HS
    have HD : Hid (∀ w2, Below w1.heap.size w1 w2 → DeedIs c g w2 61 #[] #[] DD ∧ Below w.heap.size w w2) := fun w2 h2 => by
      refine ⟨?_, hb.trans (h2.mono hb.size)⟩
      have e : DD = fun (s : CS) => [(an0 2, s)] := by rw [hDD]; funext s; rw [if_neg hn]
      rw [e]
      exact beyond_deed c g w2
    clear hDD hb rs hs
    go_enter Tryz.func47, Tryz.ntmps47
    go_wp2_with (rw [← hw1]; have hz := hw1; clear hz hw1)
    refine HS.mono ?_
    rintro e w2 ⟨rfl, hb2⟩
    dsimp only
    have HD2 : Hid _ := HD.out w2 hb2
    clear HD hb2
    go_wp2
    go_ret
    exact ⟨_, _, _, rfl, ent_beyond, HD2.out⟩

set_option maxHeartbeats 2000000 in
set_option maxRecDepth 100000 in
theorem bump_any {c : Cfg} {g : Nat} (h8 : c.slots ≤ 8) (hc : c.last ≤ 1000000000) (mg : Nat) (n : Int) (w : World) (hl : w.cell? ⟨mg, 8, none⟩ = some (.int .i64 c.last)) (hs : w.cell? ⟨mg, 1, none⟩ = some (.int .i64 c.slots)) : Calls Tryz.prog 45 #[.pointer (some ⟨mg, 0, none⟩), .int .i64 n] w (DeedR c g (fun (s : CS) => if 0 ≤ n ∧ n < c.slots then (fun (s : CS) => raiseC c n.toNat (s.num.getD n.toNat 0 + 1) ⟨0, s.num.getD n.toNat 0 + 1, false, zH⟩ s) s else [(an0 2, s)]) w) := by
  obtain ⟨DD, hDD⟩ : ∃ DD : CS → TL, DD = (fun (s : CS) => if 0 ≤ n ∧ n < c.slots then (fun (s : CS) => raiseC c n.toNat (s.num.getD n.toNat 0 + 1) ⟨0, s.num.getD n.toNat 0 + 1, false, zH⟩ s) s else [(an0 2, s)]) := ⟨_, rfl⟩
  rw [← hDD]
  obtain ⟨w1, hw1⟩ : ∃ w1, w1 = (w.alloc (.cells #[.pointer (some ⟨mg, 0, none⟩)] 59)).alloc (.cells #[.int .i64 n] 3) := ⟨_, rfl⟩
  have hb : Below w.heap.size w w1 := by rw [hw1]; exact ((Below.refl _ _).alloc (Nat.le_refl _) _).alloc (by simp) _
  have rs : Row w1 (w.heap.size + 1) 3 [.int .i64 n] := by rw [hw1]; exact Row.at _ _ _ _ _ (by simp) rfl
  have rp : Row w1 w.heap.size 59 [.pointer (some ⟨mg, 0, none⟩)] := by rw [hw1]; exact (Row.at w 59 _ _ _ rfl rfl).alloc _
  have HS := hasSlot_any mg c n w1 ((hb.cell (cell_lt hs)).trans hs)
  have cp : w1.cell? ⟨w.heap.size, 0, none⟩ = some (.pointer (some ⟨mg, 0, none⟩)) := rp.cell 0 _ rfl
  have cb : w1.cell? ⟨w.heap.size + 1, 0, none⟩ = some (.int .i64 n) := rs.cell 0 _ rfl
  by_cases hn : 0 ≤ n ∧ n < c.slots
  · rw [decide_eq_true hn] at HS
    obtain ⟨k, rfl⟩ : ∃ k : Nat, n = (k : Int) := ⟨n.toNat, by omega⟩
    have HD : Hid (∀ w2, Below w1.heap.size w1 w2 → DeedIs c g w2 63 #[] #[.pointer (some ⟨w.heap.size + 1, 0, none⟩), .pointer (some ⟨w.heap.size, 0, none⟩)] DD ∧ Below w.heap.size w w2) := fun w2 h2 => by
      refine ⟨?_, hb.trans (h2.mono hb.size)⟩
      have e : DD = (fun (s : CS) => raiseC c (k : Int).toNat (s.num.getD (k : Int).toNat 0 + 1) ⟨0, s.num.getD (k : Int).toNat 0 + 1, false, zH⟩ s) := by rw [hDD]; funext s; rw [if_pos hn]
      rw [e]
      simp only [Int.toNat_natCast]
      exact bump_deed (rs.below h2 rs.lt) (rp.below h2 rp.lt) ((h2.cell (Nat.lt_of_lt_of_le (cell_lt hl) hb.size)).trans ((hb.cell (cell_lt hl)).trans hl)) hc (by omega)
    clear hDD hb rs hs rp hl
    go_enter Tryz.func45, Tryz.ntmps45
    go_wp2_with (rw [← hw1]; have hz := hw1; clear hz hw1)
    refine HS.mono ?_
    rintro e w2 ⟨rfl, hb2⟩
    dsimp only
    have HD2 := HD.out w2 hb2
    have HD3 : Hid (DeedIs c g w2 63 #[] #[.pointer (some ⟨w.heap.size + 1, 0, none⟩), .pointer (some ⟨w.heap.size, 0, none⟩)] DD ∧ Below w.heap.size w w2) := HD2
    clear HD2 HD hb2
    go_wp2
    go_ret
    exact ⟨_, _, _, rfl, ent_bump, HD3.out⟩
  · rw [decide_eq_false hn] at HS
    have HD : Hid (∀ w2, Below w1.heap.size w1 w2 → DeedIs c g w2 61 #[] #[] DD ∧ Below w.heap.size w w2) := fun w2 h2 => by
      refine ⟨?_, hb.trans (h2.mono hb.size)⟩
      have e : DD = fun (s : CS) => [(an0 2, s)] := by rw [hDD]; funext s; rw [if_neg hn]
      rw [e]
      exact beyond_deed c g w2
    clear hDD hb rs hs rp hl
    go_enter Tryz.func45, Tryz.ntmps45
    go_wp2_with (rw [← hw1]; have hz := hw1; clear hz hw1)
    refine HS.mono ?_
    rintro e w2 ⟨rfl, hb2⟩
    dsimp only
    have HD2 : Hid _ := HD.out w2 hb2
    clear HD hb2
    go_wp2
    go_ret
    exact ⟨_, _, _, rfl, ent_beyond, HD2.out⟩
set_option maxHeartbeats 2000000 in
set_option maxRecDepth 100000 in
theorem bumpTo_any {c : Cfg} {g : Nat} (h8 : c.slots ≤ 8) (hc : c.last ≤ 1000000000) (mg : Nat) (n v : Int) (w : World) (hl : w.cell? ⟨mg, 8, none⟩ = some (.int .i64 c.last)) (hs : w.cell? ⟨mg, 1, none⟩ = some (.int .i64 c.slots)) : Calls Tryz.prog 46 #[.pointer (some ⟨mg, 0, none⟩), .int .i64 n, .int .i64 v] w (DeedR c g (fun (s : CS) => if (0 ≤ n ∧ n < c.slots) ∧ 0 ≤ v then raiseC c n.toNat v (an0 0) s else [(an0 2, s)]) w) := by
  obtain ⟨DD, hDD⟩ : ∃ DD : CS → TL, DD = (fun (s : CS) => if (0 ≤ n ∧ n < c.slots) ∧ 0 ≤ v then raiseC c n.toNat v (an0 0) s else [(an0 2, s)]) := ⟨_, rfl⟩
  rw [← hDD]
  obtain ⟨w1, hw1⟩ : ∃ w1, w1 = ((w.alloc (.cells #[.pointer (some ⟨mg, 0, none⟩)] 59)).alloc (.cells #[.int .i64 n] 3)).alloc (.cells #[.int .i64 v] 2) := ⟨_, rfl⟩
  have hb : Below w.heap.size w w1 := by rw [hw1]; exact (((Below.refl _ _).alloc (Nat.le_refl _) _).alloc (by simp) _).alloc (by simp; omega) _
  have rp : Row w1 w.heap.size 59 [.pointer (some ⟨mg, 0, none⟩)] := by rw [hw1]; exact ((Row.at w 59 _ _ _ rfl rfl).alloc _).alloc _
  have rs : Row w1 (w.heap.size + 1) 3 [.int .i64 n] := by rw [hw1]; exact (Row.at _ _ _ _ _ (by simp) rfl).alloc _
  have rv : Row w1 (w.heap.size + 2) 2 [.int .i64 v] := by rw [hw1]; exact Row.at _ _ _ _ _ (by simp) rfl
  have HS := hasSlot_any mg c n w1 ((hb.cell (cell_lt hs)).trans hs)
  have cp : w1.cell? ⟨w.heap.size, 0, none⟩ = some (.pointer (some ⟨mg, 0, none⟩)) := rp.cell 0 _ rfl
  have cb : w1.cell? ⟨w.heap.size + 1, 0, none⟩ = some (.int .i64 n) := rs.cell 0 _ rfl
  have CV : Hid (∀ w2, Below w1.heap.size w1 w2 → w2.cell? ⟨w.heap.size + 2, 0, none⟩ = some (.int .i64 v)) := fun w2 h2 => (rv.below h2 rv.lt).cell 0 _ rfl
  have HB : Hid (∀ w2, Below w1.heap.size w1 w2 → (¬ ((0 ≤ n ∧ n < c.slots) ∧ 0 ≤ v)) → DeedIs c g w2 61 #[] #[] DD ∧ Below w.heap.size w w2) := fun w2 h2 hn => by
    refine ⟨?_, hb.trans (h2.mono hb.size)⟩
    have e : DD = fun (s : CS) => [(an0 2, s)] := by rw [hDD]; funext s; rw [if_neg hn]
    rw [e]
    exact beyond_deed c g w2
  have HD : Hid (∀ w2, Below w1.heap.size w1 w2 → ((0 ≤ n ∧ n < c.slots) ∧ 0 ≤ v) → DeedIs c g w2 65 #[] #[.pointer (some ⟨w.heap.size, 0, none⟩), .pointer (some ⟨w.heap.size + 1, 0, none⟩), .pointer (some ⟨w.heap.size + 2, 0, none⟩)] DD ∧ Below w.heap.size w w2) := fun w2 h2 hn => by
    refine ⟨?_, hb.trans (h2.mono hb.size)⟩
    obtain ⟨k, hk⟩ : ∃ k : Nat, n = (k : Int) := ⟨n.toNat, by omega⟩
    have e : DD = fun (s : CS) => raiseC c k v (an0 0) s := by rw [hDD]; funext s; rw [if_pos hn, hk, Int.toNat_natCast]
    rw [e]
    rw [hk] at rs
    exact bumpTo_deed (rs.below h2 rs.lt) (rv.below h2 rv.lt) (rp.below h2 rp.lt) ((h2.cell (Nat.lt_of_lt_of_le (cell_lt hl) hb.size)).trans ((hb.cell (cell_lt hl)).trans hl)) hc (by omega)
  clear hDD hb rs rp rv hs hl
  by_cases hn : 0 ≤ n ∧ n < c.slots
  · rw [decide_eq_true hn] at HS
    by_cases hv : 0 ≤ v
    · have HD2 : Hid (∀ w2, Below w1.heap.size w1 w2 → _) := fun w2 h2 => HD.out w2 h2 ⟨hn, hv⟩
      have i1 : ¬ v < 0 := by omega
      clear HD HB hn
      go_enter Tryz.func46, Tryz.ntmps46
      go_wp2_with (rw [← hw1]; have hz := hw1; clear hz hw1)
      refine HS.mono ?_
      rintro e w2 ⟨rfl, hb2⟩
      dsimp only
      have cv := CV.out w2 hb2
      have HD3 : Hid _ := HD2.out w2 hb2
      clear HD2 hb2 CV
      go_wp2
      go_ret
      exact ⟨_, _, _, rfl, ent_bumpTo, HD3.out⟩
    · have HD2 : Hid (∀ w2, Below w1.heap.size w1 w2 → _) := fun w2 h2 => HB.out w2 h2 (fun q => hv q.2)
      have i1 : v < 0 := by omega
      clear HD HB hn
      go_enter Tryz.func46, Tryz.ntmps46
      go_wp2_with (rw [← hw1]; have hz := hw1; clear hz hw1)
      refine HS.mono ?_
      rintro e w2 ⟨rfl, hb2⟩
      dsimp only
      have cv := CV.out w2 hb2
      have HD3 : Hid _ := HD2.out w2 hb2
      clear HD2 hb2 CV
      go_wp2
      go_ret
      exact ⟨_, _, _, rfl, ent_beyond, HD3.out⟩
  · rw [decide_eq_false hn] at HS
    have HD2 : Hid (∀ w2, Below w1.heap.size w1 w2 → _) := fun w2 h2 => HB.out w2 h2 (fun q => hn q.1)
    clear HD HB hn CV
    go_enter Tryz.func46, Tryz.ntmps46
    go_wp2_with (rw [← hw1]; have hz := hw1; clear hz hw1)
    refine HS.mono ?_
    rintro e w2 ⟨rfl, hb2⟩
    dsimp only
    have HD3 : Hid _ := HD2.out w2 hb2
    clear HD2 hb2
    go_wp2
    go_ret
    exact ⟨_, _, _, rfl, ent_beyond, HD3.out⟩

theorem moFind_any (c : Cfg) (l : Secs) (mg rg : Nat) (bo : Option Addr) (bc : Nat) (b : List By) (w : World) (hg : HG w) (hM : FdIn w mg rg c l) (hb : IsB w bo b) (hnil : bo = none → bc = 0) (hcap : b.length ≤ bc) (hl : b.length ≤ 140737488351232) :
    Calls Tryz.prog 71 #[.pointer (some ⟨mg, 0, none⟩), .slice bo b.length bc] w fun e w' => e = .returned (.agg (fdC (findC c l b)).toArray) ∧ Below w.heap.size w w' := by
  cases hp : parse b with
  | error x => exact find_wrong c l mg bo bc b w hg hb hnil hcap hl x.1 x.2 hp
  | ok x => exact find_img c l mg rg bo bc b w hM hb hnil hcap hl x.1 x.2.1 x.2.2.1 x.2.2.2.1 x.2.2.2.2 hp

set_option maxHeartbeats 2000000 in
set_option maxRecDepth 100000 in
theorem boot_any {c : Cfg} {g : Nat} (h8 : c.slots ≤ 8) (h64 : c.keys ≤ 64) (l : Secs) (mg rg : Nat) (bo : Option Addr) (bc : Nat) (b : List By) (w : World) (hg : HG w) (hM : FdIn w mg rg c l) (hl : w.cell? ⟨mg, 8, none⟩ = some (.int .i64 c.last)) (hb : IsB w bo b) (hnil : bo = none → bc = 0) (hcap : b.length ≤ bc) (hbl : b.length ≤ 140737488351232) :
    Calls Tryz.prog 49 #[.pointer (some ⟨mg, 0, none⟩), .slice bo b.length bc] w (DeedR c g (fun (s : CS) => triedC (findC c l b) (checkC c (findC c l b) s) zH s) w) := by
  obtain ⟨DD, hDD⟩ : ∃ DD : CS → TL, DD = (fun (s : CS) => triedC (findC c l b) (checkC c (findC c l b) s) zH s) := ⟨_, rfl⟩
  rw [← hDD]
  obtain ⟨w1, hw1⟩ : ∃ w1, w1 = w.alloc (.cells #[.pointer (some ⟨mg, 0, none⟩)] 59) := ⟨_, rfl⟩
  have hb1 : Below w.heap.size w w1 := by rw [hw1]; exact (Below.refl _ _).alloc (Nat.le_refl _) _
  have rp : Row w1 w.heap.size 59 [.pointer (some ⟨mg, 0, none⟩)] := by rw [hw1]; exact Row.at _ _ _ _ _ rfl rfl
  have cp : w1.cell? ⟨w.heap.size, 0, none⟩ = some (.pointer (some ⟨mg, 0, none⟩)) := rp.cell 0 _ rfl
  have FI := moFind_any c l mg rg bo bc b w1 (hg.below hb1 hg.lt) (hM.keep hb1) (hb.below hb1 (Nat.le_refl _)) hnil hcap hbl
  have HD : Hid (∀ w2 w3, Below w1.heap.size w1 w2 → Row w3 w2.heap.size 89 (fdC (findC c l b)) → Below w2.heap.size w2 w3 → DeedIs c g w3 72 #[] #[.pointer (some ⟨w2.heap.size, 0, none⟩), .pointer (some ⟨w.heap.size, 0, none⟩)] DD ∧ Below w.heap.size w w3) := fun w2 w3 h2 hr h3 => by
    have h23 : Below w1.heap.size w1 w3 := h2.trans (h3.mono h2.size)
    refine ⟨?_, hb1.trans (h23.mono hb1.size)⟩
    rw [hDD]
    exact boot_deed h8 h64 hr (rp.below h23 rp.lt) ((h23.cell (Nat.lt_of_lt_of_le (cell_lt hl) hb1.size)).trans ((hb1.cell (cell_lt hl)).trans hl))
  clear hDD hb1 rp hM hl hb hnil hcap hbl hg
  generalize findC c l b = F at *
  have LF : Hid ((fdC F).length = 5) := rfl
  go_enter Tryz.func49, Tryz.ntmps49
  go_wp2_with (rw [← hw1]; have hz := hw1; clear hz hw1)
  refine FI.mono ?_
  rintro e w2 ⟨rfl, hb2⟩
  dsimp only
  obtain ⟨w3, hw3⟩ : ∃ w3, w3 = w2.alloc (.cells (fdC fd0).toArray 89) := ⟨_, rfl⟩
  have r3 : Row w3 w2.heap.size 89 (fdC fd0) := by rw [hw3]; exact Row.at _ _ _ _ _ rfl rfl
  have hb3 : Hid (Below w2.heap.size w2 w3) := by rw [hw3]; exact (Below.refl _ _).alloc (Nat.le_refl _) _
  go_wp2_with (first
    | (refine wpList_store_Row rfl 89 (.tmp 5) (.tmp 8) rfl w2.heap.size 89 0 (fdC fd0) (fdC F) r3 (Nat.le_refl _) rfl rfl (by kernel_rfl) (fdC_one _) ?_; intro w4 hr4 hs4; have r4 := row_whole hr4 (Nat.le_refl _); have HD4 : Hid _ := HD.out w2 w4 hb2 r4 (hs4.below hb3.out (Nat.le_refl _)); clear hr4 hs4)
    | (refine wpList_at_eq hw3 ?_; have hz := hw3; clear hz hw3))
  go_ret
  exact ⟨_, _, _, rfl, ent_boot, HD4.out⟩
end Go.Proofs.YtpcgkjngpdplmaaGreatDoor
