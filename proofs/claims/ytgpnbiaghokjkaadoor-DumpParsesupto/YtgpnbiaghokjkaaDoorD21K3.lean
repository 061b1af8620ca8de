import Derived.Test.YtgpnbiaghokjkaaDoorD21K2
import Derived.BigQuiet
/-! Layer 21, the landed code: a number taken off a line. -/
namespace Go.Proofs.YtgpnbiaghokjkaaDoor
open Go.RowKit
set_option linter.unusedVariables false
set_option linter.unusedSimpArgs false
set_option maxRecDepth 100000

/-- What number tells. -/
def numE (r : List By) : Ending := match numC r with | some (n, t) => .returned (.tuple #[.int .i64 (n : Int), .string (strOf t)]) | none => pan 5
set_option maxHeartbeats 4000000 in
theorem number_any (r : List By) (hr : r.length ≤ 140737488355328) (w : World) : Calls Tryd.prog 67 #[.string (strOf r)] w fun e w' => e = numE r ∧ Dr w w' := by
  have HA : Hid (∀ W : World, Calls Tryd.prog 66 #[.string (strOf r), .string { data := #[32] }] W fun e w' => e = aftE r [32#8] ∧ w' = W) := fun W => by
    rw [k_blank]; exact after_any r [32#8] hr (by decide) W
  by_cases h1 : r.take 1 = [32#8]
  · have HE : aftE r [32#8] = .returned (.string (strOf (r.drop 1))) := by unfold aftE; exact if_pos h1
    have HN : Hid (numC r = scan (r.drop 1) 0 0) := by show numC r = _; unfold numC; rw [if_pos h1]
    rw [HE] at HA
    clear HE
    have hsl : (r.drop 1).length ≤ 140737488355328 := by rw [List.length_drop]; omega
    generalize r.drop 1 = s at *
    generalize strOf r = SR at *
    have slen : ∀ W : World, (Builtin.len_ #[9] 3 #[.string (strOf s)]).run Tryd.prog W = .ok (goInt s.length) W := fun W => str_len s 3 W
    have SIX : Hid (∀ (i : Nat), i < s.length → ∀ W : World, (Instr.index 9 (.string (strOf s)) (.int .i64 (i : Int))).run Tryd.prog W = .ok (.int .u8 ((s.getD i 0).toNat : Int)) W) := fun i hi W => str_index s .i64 i hi W
    obtain ⟨SS, hSS⟩ : ∃ SS, strOf s = SS := ⟨_, rfl⟩
    have HSS : Hid (strOf s = SS) := hSS
    rw [hSS] at slen SIX HA
    clear hSS h1
    go_enter Tryd.func67, Tryd.ntmps67
    go_wp2_with (refine (HA.out _).mono ?_; rintro e w1 ⟨rfl, hw1⟩; rw [hw1]; clear hw1 w1)
    go_loopw [4, 5] (fun nv iv wr => wr = w ∧ ∃ n i : Nat, i ≤ s.length ∧ n ≤ 2147483647 ∧ nv = .int .i64 n ∧ iv = .int .i64 i ∧ Hid (scan s 0 0 = scan (s.drop i) i n)) (fun _ iv _ => s.length - (intOf iv).toNat)
    case atStart => exact ⟨rfl, 0, 0, by omega, by omega, rfl, rfl, rfl⟩
    case round =>
      clear HA
      obtain ⟨rfl, n, i, hi, hn, rfl, rfl, HS⟩ := hrel
      by_cases hlt : i < s.length
      · have y1 : (i : Int) < (s.length : Int) := by omega
        have six := SIX.out i hlt
        have hdr : s.drop i = s.getD i 0 :: s.drop (i + 1) := by
          rw [List.drop_eq_getElem_cons hlt, List.getD_eq_getElem?_getD, List.getElem?_eq_getElem hlt]; rfl
        have hX := (s.getD i 0).isLt
        generalize hx : s.getD i 0 = x at *
        generalize hXX : x.toNat = X at *
        clear hx
        by_cases h48 : 48 ≤ X
        · have d1 : (48 : Int) ≤ (X : Int) := by omega
          by_cases h57 : X ≤ 57
          · have d2 : (X : Int) ≤ 57 := by omega
            have wu : IntKind.u8.wrap ((X : Int) - 48) = ((X - 48 : Nat) : Int) := by rw [u8_in _ (by omega) (by omega)]; omega
            have wi : IntKind.i64.wrap ((X - 48 : Nat) : Int) = ((X - 48 : Nat) : Int) := i64_in _ (by omega) (by omega)
            have wm : IntKind.i64.wrap (10 * (n : Int)) = 10 * (n : Int) := i64_in _ (by omega) (by omega)
            have ws : IntKind.i64.wrap (10 * (n : Int) + ((X - 48 : Nat) : Int)) = ((10 * n + (X - 48) : Nat) : Int) := by rw [i64_in _ (by omega) (by omega)]; omega
            have wk : IntKind.i64.wrap ((i : Int) + 1) = ((i + 1 : Nat) : Int) := by rw [i64_in _ (by omega) (by omega)]; omega
            by_cases hi0 : i = 0
            · subst hi0
              have six0 : ∀ W : World, (Instr.index 9 (.string SS) (.int .i64 0)).run Tryd.prog W = .ok (.int .u8 (X : Int)) W := fun W => by simpa using six W
              have y10 : (0 : Int) < (s.length : Int) := by omega
              clear six y1 wk
              by_cases hle : 10 * n + (X - 48) ≤ 2147483647
              · have z2 : ((10 * n + (X - 48) : Nat) : Int) ≤ 2147483647 := by omega
                have HS2 : Hid (scan s 0 0 = scan (s.drop 1) 1 (10 * n + (X - 48))) := by
                  show scan s 0 0 = _
                  rw [HS.out, hdr, scan, hXX, if_pos ⟨h48, h57⟩, if_pos ⟨.inl rfl, hle⟩]
                clear HS hdr
                generalize hM : 10 * n + (X - 48) = M at *
                generalize X - 48 = Y at *
                clear hM
                go_wp2_with (refine (must_t _).mono ?_; rintro e w1 ⟨rfl, hw1⟩; rw [hw1]; clear hw1 w1)
                exact ⟨⟨trivial, M, 1, by omega, by omega, rfl, rfl, HS2⟩, by simp [intOf]; omega⟩
              · have z2 : decide (((10 * n + (X - 48) : Nat) : Int) ≤ 2147483647) = false := decide_eq_false (by omega)
                have HR : Hid (numC r = none) := by
                  show numC r = none
                  rw [HN.out, HS.out, hdr, scan, hXX, if_pos ⟨h48, h57⟩, if_neg (fun h => hle h.2)]
                clear HS hdr HN
                generalize hM : 10 * n + (X - 48) = M at *
                generalize X - 48 = Y at *
                clear hM hle
                have HM : Hid (∀ W : World, Calls Tryd.prog 63 #[.bool true] W fun e w' => e = .returned (.tuple #[]) ∧ w' = W) := must_t
                go_wp2_with (first
                  | (refine (HM.out _).mono ?_; clear HM; rintro e w1 ⟨rfl, hw1⟩; rw [hw1]; clear hw1 w1)
                  | (refine (must_f _).mono ?_; rintro e w1 ⟨rfl, hw1⟩; rw [hw1]; clear hw1 w1))
                exact ⟨rfl, by rw [numE, HR.out], ⟨0, rfl⟩⟩
            · have z1 : ((i : Int) == 0) = false := by rw [beq_eq_false_iff_ne]; omega
              by_cases hz : 0 < n
              · have z3 : (n : Int) > 0 := by omega
                by_cases hle : 10 * n + (X - 48) ≤ 2147483647
                · have z2 : ((10 * n + (X - 48) : Nat) : Int) ≤ 2147483647 := by omega
                  have HS2 : Hid (scan s 0 0 = scan (s.drop (i + 1)) (i + 1) (10 * n + (X - 48))) := by
                    show scan s 0 0 = _
                    rw [HS.out, hdr, scan, hXX, if_pos ⟨h48, h57⟩, if_pos ⟨.inr hz, hle⟩]
                  clear HS hdr
                  generalize hM : 10 * n + (X - 48) = M at *
                  generalize X - 48 = Y at *
                  clear hM
                  go_wp2_with (refine (must_t _).mono ?_; rintro e w1 ⟨rfl, hw1⟩; rw [hw1]; clear hw1 w1)
                  exact ⟨⟨trivial, M, i + 1, by omega, by omega, rfl, rfl, HS2⟩, by simp [intOf]; omega⟩
                · have z2 : decide (((10 * n + (X - 48) : Nat) : Int) ≤ 2147483647) = false := decide_eq_false (by omega)
                  have HR : Hid (numC r = none) := by
                    show numC r = none
                    rw [HN.out, HS.out, hdr, scan, hXX, if_pos ⟨h48, h57⟩, if_neg (fun h => hle h.2)]
                  clear HS hdr HN
                  generalize hM : 10 * n + (X - 48) = M at *
                  generalize X - 48 = Y at *
                  clear hM hle
                  have HM : Hid (∀ W : World, Calls Tryd.prog 63 #[.bool true] W fun e w' => e = .returned (.tuple #[]) ∧ w' = W) := must_t
                  go_wp2_with (first
                    | (refine (HM.out _).mono ?_; clear HM; rintro e w1 ⟨rfl, hw1⟩; rw [hw1]; clear hw1 w1)
                    | (refine (must_f _).mono ?_; rintro e w1 ⟨rfl, hw1⟩; rw [hw1]; clear hw1 w1))
                  exact ⟨rfl, by rw [numE, HR.out], ⟨0, rfl⟩⟩
              · have z3 : ¬ ((n : Int) > 0) := by omega
                have HR : Hid (numC r = none) := by
                  show numC r = none
                  rw [HN.out, HS.out, hdr, scan, hXX, if_pos ⟨h48, h57⟩, if_neg (fun h => h.1.elim hi0 hz)]
                clear HS hdr HN
                go_wp2_with (refine (must_f _).mono ?_; rintro e w1 ⟨rfl, hw1⟩; rw [hw1]; clear hw1 w1)
                exact ⟨rfl, by rw [numE, HR.out], ⟨0, rfl⟩⟩
          · have d2 : ¬ (X : Int) ≤ 57 := by omega
            have HX : Hid (numC r = if i = 0 then none else some (n, s.drop i)) := by
              show numC r = _
              rw [HN.out, HS.out]
              rw [hdr, scan, hXX, if_neg (by omega)]
            clear HS HN hdr
            by_cases hi0 : i = 0
            · subst hi0
              have HR : Hid (numC r = none) := HX.out.trans (if_pos rfl)
              have six0 : ∀ W : World, (Instr.index 9 (.string SS) (.int .i64 0)).run Tryd.prog W = .ok (.int .u8 (X : Int)) W := fun W => by simpa using six W
              have y10 : (0 : Int) < (s.length : Int) := by omega
              clear six y1
              go_wp2_with (refine (must_f _).mono ?_; rintro e w1 ⟨rfl, hw1⟩; rw [hw1]; clear hw1 w1)
              exact ⟨rfl, by rw [numE, HR.out], ⟨0, rfl⟩⟩
            · have z0 : decide (0 < i) = true := decide_eq_true (by omega)
              have HR : Hid (numC r = some (n, s.drop i)) := HX.out.trans (if_neg hi0)
              have sf : ∀ W : World, (Instr.slice 9 (.string SS) (some (.int .i64 (i : Int))) none none).run Tryd.prog W = .ok (.string (strOf (s.drop i))) W := fun W => by rw [← HSS.out]; exact str_from s .i64 i (by omega) W
              generalize hSD : strOf (s.drop i) = SD at *
              have HSD : Hid (strOf (s.drop i) = SD) := hSD
              clear hSD HX hi0
              go_wp2_with (refine (must_t _).mono ?_; rintro e w1 ⟨rfl, hw1⟩; rw [hw1]; clear hw1 w1)
              go_quiet (fail)
              go_wp2
              go_ret2
              exact ⟨by unfold numE; rw [HR.out, ← HSD.out]; rfl, ⟨nq, rfl⟩⟩
        · have d1 : ¬ (48 : Int) ≤ (X : Int) := by omega
          have HX : Hid (numC r = if i = 0 then none else some (n, s.drop i)) := by
            show numC r = _
            rw [HN.out, HS.out]
            rw [hdr, scan, hXX, if_neg (by omega)]
          clear HS HN hdr
          by_cases hi0 : i = 0
          · subst hi0
            have HR : Hid (numC r = none) := HX.out.trans (if_pos rfl)
            have six0 : ∀ W : World, (Instr.index 9 (.string SS) (.int .i64 0)).run Tryd.prog W = .ok (.int .u8 (X : Int)) W := fun W => by simpa using six W
            have y10 : (0 : Int) < (s.length : Int) := by omega
            clear six y1
            go_wp2_with (refine (must_f _).mono ?_; rintro e w1 ⟨rfl, hw1⟩; rw [hw1]; clear hw1 w1)
            exact ⟨rfl, by rw [numE, HR.out], ⟨0, rfl⟩⟩
          · have z0 : decide (0 < i) = true := decide_eq_true (by omega)
            have HR : Hid (numC r = some (n, s.drop i)) := HX.out.trans (if_neg hi0)
            have sf : ∀ W : World, (Instr.slice 9 (.string SS) (some (.int .i64 (i : Int))) none none).run Tryd.prog W = .ok (.string (strOf (s.drop i))) W := fun W => by rw [← HSS.out]; exact str_from s .i64 i (by omega) W
            generalize hSD : strOf (s.drop i) = SD at *
            have HSD : Hid (strOf (s.drop i) = SD) := hSD
            clear hSD HX hi0
            go_wp2_with (refine (must_t _).mono ?_; rintro e w1 ⟨rfl, hw1⟩; rw [hw1]; clear hw1 w1)
            go_quiet (fail)
            go_wp2
            go_ret2
            exact ⟨by unfold numE; rw [HR.out, ← HSD.out]; rfl, ⟨nq, rfl⟩⟩
      · have y1 : ¬ (i : Int) < (s.length : Int) := by omega
        have HX : Hid (numC r = if i = 0 then none else some (n, s.drop i)) := by
          show numC r = _
          rw [HN.out, HS.out]
          rw [List.drop_of_length_le (by omega)]; rfl
        clear HS HN
        by_cases hi0 : i = 0
        · subst hi0
          have HR : Hid (numC r = none) := HX.out.trans (if_pos rfl)
          have y10 : ¬ (0 : Int) < (s.length : Int) := by omega
          go_wp2_with (refine (must_f _).mono ?_; rintro e w1 ⟨rfl, hw1⟩; rw [hw1]; clear hw1 w1)
          exact ⟨rfl, by rw [numE, HR.out], ⟨0, rfl⟩⟩
        · have z0 : decide (0 < i) = true := decide_eq_true (by omega)
          have HR : Hid (numC r = some (n, s.drop i)) := HX.out.trans (if_neg hi0)
          have sf : ∀ W : World, (Instr.slice 9 (.string SS) (some (.int .i64 (i : Int))) none none).run Tryd.prog W = .ok (.string (strOf (s.drop i))) W := fun W => by rw [← HSS.out]; exact str_from s .i64 i (by omega) W
          generalize hSD : strOf (s.drop i) = SD at *
          have HSD : Hid (strOf (s.drop i) = SD) := hSD
          clear hSD HX hi0
          go_wp2_with (refine (must_t _).mono ?_; rintro e w1 ⟨rfl, hw1⟩; rw [hw1]; clear hw1 w1)
          go_quiet (fail)
          go_wp2
          go_ret2
          exact ⟨by unfold numE; rw [HR.out, ← HSD.out]; rfl, ⟨nq, rfl⟩⟩
  · have HE : aftE r [32#8] = pan 5 := by unfold aftE; exact if_neg h1
    have HN : Hid (numC r = none) := by show numC r = none; unfold numC; rw [if_neg h1]
    rw [HE] at HA
    generalize strOf r = SR at *
    go_enter Tryd.func67, Tryd.ntmps67
    go_wp2_with (refine (HA.out _).mono ?_; rintro e w1 ⟨rfl, hw1⟩; rw [hw1]; clear hw1 w1)
    exact ⟨rfl, by rw [numE, HN.out], ⟨0, rfl⟩⟩
end Go.Proofs.YtgpnbiaghokjkaaDoor
