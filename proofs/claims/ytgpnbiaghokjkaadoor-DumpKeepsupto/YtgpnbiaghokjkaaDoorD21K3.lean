import Derived.Test.YtgpnbiaghokjkaaDoorD21CR
import Derived.Lib.Bytealg
import Derived.WalkLawsBesides
import Derived.Test.YtgpnbiaghokjkaaDoorD21Str
import Derived.BigQuiet
/-! Layer 21, the landed code: what gives up, and what takes a word off a line. -/
namespace Go.Proofs.YtgpnbiaghokjkaaDoor
open Go.RowKit
set_option linter.unusedVariables false
set_option linter.unusedSimpArgs false
set_option maxRecDepth 100000

/-- A panic with an error's number. -/
abbrev pan (k : Int) : Ending := .panicked [{ v := .iface 30 (.int .i64 k), recovered := false }]
theorem must_t (w : World) : Calls Tryd.prog 63 #[.bool true] w fun e w' => e = .returned (.tuple #[]) ∧ w' = w := by
  go_enter Tryd.func63, Tryd.ntmps63
  go_wp2
  go_end0
  exact ⟨rfl, rfl⟩
theorem must_f (w : World) : Calls Tryd.prog 63 #[.bool false] w fun e w' => e = pan 5 ∧ w' = w := by
  go_enter Tryd.func63, Tryd.ntmps63
  go_wp2
  exact ⟨rfl, rfl, rfl⟩
def mustE (b : Bool) : Ending := match b with | true => .returned (.tuple #[]) | false => pan 5
/-- 's[i:]', 's[:j]'. -/
theorem str_from (a : List By) (k : IntKind) (i : Nat) (hi : i ≤ a.length) (w : World) : (Instr.slice 9 (.string (strOf a)) (some (.int k (i : Int))) none none).run Tryd.prog w = .ok (.string (strOf (a.drop i))) w := by
  have hs := strOf_size a
  rw [run_slice_string_from_if w 9 _ k _ Tryd.underlying9, if_pos ⟨by omega, by omega⟩, hs]
  rw [Int.toNat_natCast, strOf_mk, Go.ByteArray.extract_mk, strOf_mk, ← List.map_drop, ← List.map_take, List.take_of_length_le (by rw [List.length_drop]; exact Nat.le_refl _)]
theorem str_to (a : List By) (k : IntKind) (j : Nat) (hj : j ≤ a.length) (w : World) : (Instr.slice 9 (.string (strOf a)) none (some (.int k (j : Int))) none).run Tryd.prog w = .ok (.string (strOf (a.take j))) w := by
  have hs := strOf_size a
  rw [run_slice_string_to_if w 9 _ k _ Tryd.underlying9, if_pos ⟨by omega, by omega⟩]
  rw [Int.toNat_natCast, strOf_mk, Go.ByteArray.extract_mk, strOf_mk, ← List.map_drop, ← List.map_take, List.drop_zero, Nat.sub_zero]
theorem lf_list : (strOf [10#8]).toList = [10] := by kernel_rfl
theorem must_any (b : Bool) (w : World) : Calls Tryd.prog 63 #[.bool b] w fun e w' => e = mustE b ∧ w' = w := by
  cases b
  · exact must_f w
  · exact must_t w
theorem ended_any (r : List By) (w : World) : Calls Tryd.prog 68 #[.string (strOf r)] w fun e w' => e = mustE (decide (r = [10#8])) ∧ w' = w := by
  have hq := strOf_beq r [10#8]
  rw [lf_list] at hq
  generalize strOf r = S at *
  go_enter Tryd.func68, Tryd.ntmps68
  cases hb : decide (r = [10#8]) with
  | false =>
    rw [hb] at hq
    go_wp2_with (refine (must_f _).mono ?_; rintro e w1 ⟨rfl, rfl⟩)
    exact ⟨rfl, rfl, rfl⟩
  | true =>
    rw [hb] at hq
    go_wp2_with (refine (must_t _).mono ?_; rintro e w1 ⟨rfl, rfl⟩)
    go_end0
    exact ⟨rfl, rfl⟩
/-- Does a string begin so? -/
theorem slHas_any (s p : List By) (hs : s.length ≤ 140737488355328) (hp : p.length ≤ 140737488355328) (w : World) : Calls Tryd.prog 73 #[.string (strOf s), .string (strOf p)] w fun e w' => e = .returned (.bool (decide (s.take p.length = p))) ∧ w' = w := by
  have sl1 : ∀ W : World, (Builtin.len_ #[9] 3 #[.string (strOf s)]).run Tryd.prog W = .ok (goInt s.length) W := fun W => str_len s 3 W
  have sl2 : ∀ W : World, (Builtin.len_ #[9] 3 #[.string (strOf p)]).run Tryd.prog W = .ok (goInt p.length) W := fun W => str_len p 3 W
  by_cases h : p.length ≤ s.length
  · have h2 : (s.length : Int) ≥ (p.length : Int) := by omega
    have sx : ∀ W : World, (Instr.slice 9 (.string (strOf s)) none (some (.int .i64 (p.length : Int))) none).run Tryd.prog W = .ok (.string (strOf (s.take p.length))) W := fun W => str_to s .i64 p.length h W
    have hq := strOf_beq (s.take p.length) p
    generalize decide (s.take p.length = p) = R at *
    generalize strOf (s.take p.length) = S1 at *
    generalize strOf p = S2 at *
    generalize strOf s = S3 at *
    go_enter Tryd.func73, Tryd.ntmps73
    go_wp2
    go_ret
    exact ⟨rfl, rfl⟩
  · have h2 : ¬ (s.length : Int) ≥ (p.length : Int) := by omega
    have hf : decide (s.take p.length = p) = false := decide_eq_false fun e => h (by have := congrArg List.length e; rw [List.length_take] at this; omega)
    rw [hf]
    generalize strOf p = S2 at *
    generalize strOf s = S3 at *
    go_enter Tryd.func73, Tryd.ntmps73
    go_wp2
    go_ret
    exact ⟨rfl, rfl⟩
theorem sHas_any (s p : List By) (hs : s.length ≤ 140737488355328) (hp : p.length ≤ 140737488355328) (w : World) : Calls Tryd.prog 60 #[.string (strOf s), .string (strOf p)] w fun e w' => e = .returned (.bool (decide (s.take p.length = p))) ∧ w' = w := by
  go_enter Tryd.func60, Tryd.ntmps60
  go_wp2_with (refine (slHas_any s p hs hp _).mono ?_; rintro e w1 ⟨rfl, rfl⟩)
  go_ret
  exact ⟨rfl, rfl⟩
/-- What CutPrefix tells. -/
def cutP (s p : List By) : Value := .tuple #[.string (strOf (if s.take p.length = p then s.drop p.length else s)), .bool (decide (s.take p.length = p))]
theorem slCut_any (s p : List By) (hs : s.length ≤ 140737488355328) (hp : p.length ≤ 140737488355328) (w : World) : Calls Tryd.prog 81 #[.string (strOf s), .string (strOf p)] w fun e w' => e = .returned (cutP s p) ∧ w' = w := by
  have sl2 : ∀ W : World, (Builtin.len_ #[9] 3 #[.string (strOf p)]).run Tryd.prog W = .ok (goInt p.length) W := fun W => str_len p 3 W
  have HH : Hid (∀ W : World, Calls Tryd.prog 73 #[.string (strOf s), .string (strOf p)] W fun e w' => e = .returned (.bool (decide (s.take p.length = p))) ∧ w' = W) := fun W => slHas_any s p hs hp W
  unfold cutP
  by_cases h : s.take p.length = p
  · have hl : p.length ≤ s.length := by have := congrArg List.length h; rw [List.length_take] at this; omega
    rw [if_pos h]
    have sx : ∀ W : World, (Instr.slice 9 (.string (strOf s)) (some (.int .i64 (p.length : Int))) none none).run Tryd.prog W = .ok (.string (strOf (s.drop p.length))) W := fun W => str_from s .i64 p.length hl W
    rw [decide_eq_true h] at HH ⊢
    generalize strOf (s.drop p.length) = S1 at *
    generalize strOf p = S2 at *
    generalize strOf s = S3 at *
    go_enter Tryd.func81, Tryd.ntmps81
    go_wp2_with (refine (HH.out _).mono ?_; rintro e w1 ⟨rfl, rfl⟩)
    go_ret2
    exact ⟨rfl, rfl⟩
  · rw [if_neg h]
    rw [decide_eq_false h] at HH ⊢
    generalize strOf p = S2 at *
    generalize strOf s = S3 at *
    go_enter Tryd.func81, Tryd.ntmps81
    go_wp2_with (refine (HH.out _).mono ?_; rintro e w1 ⟨rfl, rfl⟩)
    go_ret2
    exact ⟨rfl, rfl⟩
end Go.Proofs.YtgpnbiaghokjkaaDoor

/-! Layer 21, the landed code: words, numbers and bytes taken off a line. -/
namespace Go.Proofs.YtgpnbiaghokjkaaDoor
open Go.RowKit
set_option linter.unusedVariables false
set_option linter.unusedSimpArgs false
set_option maxRecDepth 100000

theorem sCut_any (s p : List By) (hs : s.length ≤ 140737488355328) (hp : p.length ≤ 140737488355328) (w : World) : Calls Tryd.prog 77 #[.string (strOf s), .string (strOf p)] w fun e w' => e = .returned (cutP s p) ∧ w' = w := by
  have HH : Hid (∀ W : World, Calls Tryd.prog 81 #[.string (strOf s), .string (strOf p)] W fun e w' => e = .returned (cutP s p) ∧ w' = W) := fun W => slCut_any s p hs hp W
  unfold cutP at *
  generalize strOf (if s.take p.length = p then s.drop p.length else s) = S1 at *
  generalize decide (s.take p.length = p) = B1 at *
  generalize strOf p = S2 at *
  generalize strOf s = S3 at *
  go_enter Tryd.func77, Tryd.ntmps77
  go_wp2_with (refine (HH.out _).mono ?_; rintro e w1 ⟨rfl, rfl⟩)
  go_ret2
  exact ⟨rfl, rfl⟩
/-- What is behind a word, or a panic. -/
def aftE (s p : List By) : Ending := if s.take p.length = p then .returned (.string (strOf (s.drop p.length))) else pan 5
theorem after_any (s p : List By) (hs : s.length ≤ 140737488355328) (hp : p.length ≤ 140737488355328) (w : World) : Calls Tryd.prog 66 #[.string (strOf s), .string (strOf p)] w fun e w' => e = aftE s p ∧ w' = w := by
  have HH : Hid (∀ W : World, Calls Tryd.prog 77 #[.string (strOf s), .string (strOf p)] W fun e w' => e = .returned (cutP s p) ∧ w' = W) := fun W => sCut_any s p hs hp W
  unfold cutP at *
  unfold aftE
  by_cases h : s.take p.length = p
  · rw [if_pos h] at *
    rw [decide_eq_true h] at HH
    generalize strOf (s.drop p.length) = S1 at *
    generalize strOf p = S2 at *
    generalize strOf s = S3 at *
    go_enter Tryd.func66, Tryd.ntmps66
    go_wp2_with (first
      | (refine (HH.out _).mono ?_; rintro e w1 ⟨rfl, rfl⟩)
      | (refine (must_t _).mono ?_; rintro e w1 ⟨rfl, rfl⟩))
    go_ret
    exact ⟨rfl, rfl⟩
  · rw [if_neg h] at *
    rw [decide_eq_false h] at HH
    generalize strOf p = S2 at *
    generalize strOf s = S3 at *
    go_enter Tryd.func66, Tryd.ntmps66
    go_wp2_with (first
      | (refine (HH.out _).mono ?_; rintro e w1 ⟨rfl, rfl⟩)
      | (refine (must_f _).mono ?_; rintro e w1 ⟨rfl, rfl⟩))
    exact ⟨rfl, rfl, rfl⟩
/-- The first place of a byte. -/
theorem slIdx_any (s : ByteArray) (c : Int) (w : World) : Calls Tryd.prog 65 #[.string s, .int .u8 c] w fun e w' => e = .returned (.int .i64 (Lib.indexByte s.data.toList c.toNat.toUInt8)) ∧ w' = w := by
  go_enter Tryd.func65, Tryd.ntmps65
  go_wp2
  rw [run_callFunc_extern Tryd.func76 (by kernel_rfl) (by kernel_rfl) (by kernel_rfl) (e := Extern.BytealgIndexByte.indexByte) (by kernel_rfl), Lib.run_indexByteString]
  simp only [Result.andThen]
  rw [Oper.upon_value]
  go_wp2
  go_ret
  exact ⟨rfl, rfl⟩
theorem sIdx_any (s : ByteArray) (c : Int) (w : World) : Calls Tryd.prog 57 #[.string s, .int .u8 c] w fun e w' => e = .returned (.int .i64 (Lib.indexByte s.data.toList c.toNat.toUInt8)) ∧ w' = w := by
  go_enter Tryd.func57, Tryd.ntmps57
  go_wp2_with (refine (slIdx_any _ _ _).mono ?_; rintro e w1 ⟨rfl, rfl⟩)
  go_ret
  exact ⟨rfl, rfl⟩
theorem idx_line : ∀ (t : List By), Lib.indexByte (t.map fun b => UInt8.ofNat b.toNat) 10 = (match lineOf t with | some (l, _) => (l.length : Int) | none => -1)
  | [] => rfl
  | x :: t => by
    have ih := idx_line t
    rw [List.map_cons, Lib.indexByte, lineOf]
    by_cases hx : x = 10#8
    · subst hx; rfl
    · have hb : (UInt8.ofNat x.toNat == 10) = false := by
        rw [beq_eq_false_iff_ne]
        intro e
        refine hx (BitVec.eq_of_toNat_eq ?_)
        have := congrArg UInt8.toNat e
        rw [u8_by] at this
        exact this
      rw [hb, if_neg (by decide), if_neg hx, ih]
      cases lineOf t with
      | none => rfl
      | some p =>
        obtain ⟨l, r⟩ := p
        show (if ((l.length : Int) == -1) = true then (-1 : Int) else (l.length : Int) + 1) = ((x :: l).length : Int)
        rw [if_neg (by simp <;> omega), List.length_cons]; omega
theorem strOf_dataL (a : List By) : (strOf a).data.toList = a.map fun b => UInt8.ofNat b.toNat := by rw [strOf_mk]
theorem lineIdx_any (t : List By) (w : World) : Calls Tryd.prog 57 #[.string (strOf t), .int .u8 10] w fun e w' => e = .returned (.int .i64 (match lineOf t with | some (l, _) => (l.length : Int) | none => -1)) ∧ w' = w := by
  have := sIdx_any (strOf t) 10 w
  rw [strOf_dataL, show (10 : Int).toNat.toUInt8 = 10 from rfl, idx_line] at this
  exact this
def dgts : List UInt8 := [48, 49, 50, 51, 52, 53, 54, 55, 56, 57, 97, 98, 99, 100, 101, 102]
def hvI (b : By) : Int := match hv b with | some n => (n : Int) | none => -1
theorem idx_hv : ∀ b : By, Lib.indexByte dgts (UInt8.ofNat b.toNat) = hvI b := by decide +kernel
theorem hv_lt {b : By} {n : Nat} (h : hv b = some n) : n < 16 := (hv_facts b n h).1
/-- A digit of base sixteen. -/
def digE (b : By) : Ending := match hv b with | some n => .returned (.int .u8 (n : Int)) | none => pan 5
theorem digit_any (b : By) (w : World) : Calls Tryd.prog 79 #[.int .u8 (b.toNat : Int)] w fun e w' => e = digE b ∧ w' = w := by
  have HI : Hid (∀ W : World, Calls Tryd.prog 57 #[.string { data := #[48, 49, 50, 51, 52, 53, 54, 55, 56, 57, 97, 98, 99, 100, 101, 102] }, .int .u8 (b.toNat : Int)] W fun e w' => e = .returned (.int .i64 (hvI b)) ∧ w' = W) := fun W => by
    have := sIdx_any { data := #[48, 49, 50, 51, 52, 53, 54, 55, 56, 57, 97, 98, 99, 100, 101, 102] } (b.toNat : Int) W
    rw [Int.toNat_natCast] at this
    have e := idx_hv b
    rw [← e]
    exact this
  generalize hV : (b.toNat : Int) = V at *
  unfold digE hvI at *
  cases h : hv b with
  | none =>
    rw [h] at HI
    go_enter Tryd.func79, Tryd.ntmps79
    go_wp2_with (first
      | (refine (HI.out _).mono ?_; rintro e w1 ⟨rfl, rfl⟩)
      | (refine (must_f _).mono ?_; rintro e w1 ⟨rfl, rfl⟩))
    exact ⟨rfl, rfl, rfl⟩
  | some n =>
    rw [h] at HI
    have hn := hv_lt h
    have g0 : (n : Int) ≥ 0 := by omega
    have wr : IntKind.u8.wrap (n : Int) = (n : Int) := u8_in _ (by omega) (by omega)
    go_enter Tryd.func79, Tryd.ntmps79
    go_wp2_with (first
      | (refine (HI.out _).mono ?_; rintro e w1 ⟨rfl, rfl⟩)
      | (refine (must_t _).mono ?_; rintro e w1 ⟨rfl, rfl⟩))
    go_ret
    exact ⟨rfl, rfl⟩
end Go.Proofs.YtgpnbiaghokjkaaDoor

/-! Layer 21, the landed code: a number taken off a line. -/
namespace Go.Proofs.YtgpnbiaghokjkaaDoor
open Go.RowKit
set_option linter.unusedVariables false
set_option linter.unusedSimpArgs false
set_option maxRecDepth 100000

/-- What number tells. -/
def numE (r : List By) : Ending := match numC r with | some (n, t) => .returned (.tuple #[.int .i64 (n : Int), .string (strOf t)]) | none => pan 5
set_option maxHeartbeats 4000000 in
theorem number_any (r : List By) (hr : r.length ≤ 140737488355328) (w : World) : Calls Tryd.prog 67 #[.string (strOf r)] w fun e w' => e = numE r ∧ Dr w w' := by
  have HA : Hid (∀ W : World, Calls Tryd.prog 66 #[.string (strOf r), .string { data := #[32] }] W fun e w' => e = aftE r [32#8] ∧ w' = W) := fun W => by
    rw [k_blank]; exact after_any r [32#8] hr (by decide) W
  by_cases h1 : r.take 1 = [32#8]
  · have HE : aftE r [32#8] = .returned (.string (strOf (r.drop 1))) := by unfold aftE; exact if_pos h1
    have HN : Hid (numC r = scan (r.drop 1) 0 0) := by show numC r = _; unfold numC; rw [if_pos h1]
    rw [HE] at HA
    clear HE
    have hsl : (r.drop 1).length ≤ 140737488355328 := by rw [List.length_drop]; omega
    generalize r.drop 1 = s at *
    generalize strOf r = SR at *
    have slen : ∀ W : World, (Builtin.len_ #[9] 3 #[.string (strOf s)]).run Tryd.prog W = .ok (goInt s.length) W := fun W => str_len s 3 W
    have SIX : Hid (∀ (i : Nat), i < s.length → ∀ W : World, (Instr.index 9 (.string (strOf s)) (.int .i64 (i : Int))).run Tryd.prog W = .ok (.int .u8 ((s.getD i 0).toNat : Int)) W) := fun i hi W => str_index s .i64 i hi W
    obtain ⟨SS, hSS⟩ : ∃ SS, strOf s = SS := ⟨_, rfl⟩
    have HSS : Hid (strOf s = SS) := hSS
    rw [hSS] at slen SIX HA
    clear hSS h1
    go_enter Tryd.func67, Tryd.ntmps67
    go_wp2_with (refine (HA.out _).mono ?_; rintro e w1 ⟨rfl, hw1⟩; rw [hw1]; clear hw1 w1)
    go_loopw [4, 5] (fun nv iv wr => wr = w ∧ ∃ n i : Nat, i ≤ s.length ∧ n ≤ 2147483647 ∧ nv = .int .i64 n ∧ iv = .int .i64 i ∧ Hid (scan s 0 0 = scan (s.drop i) i n)) (fun _ iv _ => s.length - (intOf iv).toNat)
    case atStart => exact ⟨rfl, 0, 0, by omega, by omega, rfl, rfl, rfl⟩
    case round =>
      clear HA
      obtain ⟨rfl, n, i, hi, hn, rfl, rfl, HS⟩ := hrel
      by_cases hlt : i < s.length
      · have y1 : (i : Int) < (s.length : Int) := by omega
        have six := SIX.out i hlt
        have hdr : s.drop i = s.getD i 0 :: s.drop (i + 1) := by
          rw [List.drop_eq_getElem_cons hlt, List.getD_eq_getElem?_getD, List.getElem?_eq_getElem hlt]; rfl
        have hX := (s.getD i 0).isLt
        generalize hx : s.getD i 0 = x at *
        generalize hXX : x.toNat = X at *
        clear hx
        by_cases h48 : 48 ≤ X
        · have d1 : (48 : Int) ≤ (X : Int) := by omega
          by_cases h57 : X ≤ 57
          · have d2 : (X : Int) ≤ 57 := by omega
            have wu : IntKind.u8.wrap ((X : Int) - 48) = ((X - 48 : Nat) : Int) := by rw [u8_in _ (by omega) (by omega)]; omega
            have wi : IntKind.i64.wrap ((X - 48 : Nat) : Int) = ((X - 48 : Nat) : Int) := i64_in _ (by omega) (by omega)
            have wm : IntKind.i64.wrap (10 * (n : Int)) = 10 * (n : Int) := i64_in _ (by omega) (by omega)
            have ws : IntKind.i64.wrap (10 * (n : Int) + ((X - 48 : Nat) : Int)) = ((10 * n + (X - 48) : Nat) : Int) := by rw [i64_in _ (by omega) (by omega)]; omega
            have wk : IntKind.i64.wrap ((i : Int) + 1) = ((i + 1 : Nat) : Int) := by rw [i64_in _ (by omega) (by omega)]; omega
            by_cases hi0 : i = 0
            · subst hi0
              have six0 : ∀ W : World, (Instr.index 9 (.string SS) (.int .i64 0)).run Tryd.prog W = .ok (.int .u8 (X : Int)) W := fun W => by simpa using six W
              have y10 : (0 : Int) < (s.length : Int) := by omega
              clear six y1 wk
              by_cases hle : 10 * n + (X - 48) ≤ 2147483647
              · have z2 : ((10 * n + (X - 48) : Nat) : Int) ≤ 2147483647 := by omega
                have HS2 : Hid (scan s 0 0 = scan (s.drop 1) 1 (10 * n + (X - 48))) := by
                  show scan s 0 0 = _
                  rw [HS.out, hdr, scan, hXX, if_pos ⟨h48, h57⟩, if_pos ⟨.inl rfl, hle⟩]
                clear HS hdr
                generalize hM : 10 * n + (X - 48) = M at *
                generalize X - 48 = Y at *
                clear hM
                go_wp2_with (refine (must_t _).mono ?_; rintro e w1 ⟨rfl, hw1⟩; rw [hw1]; clear hw1 w1)
                exact ⟨⟨trivial, M, 1, by omega, by omega, rfl, rfl, HS2⟩, by simp [intOf]; omega⟩
              · have z2 : decide (((10 * n + (X - 48) : Nat) : Int) ≤ 2147483647) = false := decide_eq_false (by omega)
                have HR : Hid (numC r = none) := by
                  show numC r = none
                  rw [HN.out, HS.out, hdr, scan, hXX, if_pos ⟨h48, h57⟩, if_neg (fun h => hle h.2)]
                clear HS hdr HN
                generalize hM : 10 * n + (X - 48) = M at *
                generalize X - 48 = Y at *
                clear hM hle
                have HM : Hid (∀ W : World, Calls Tryd.prog 63 #[.bool true] W fun e w' => e = .returned (.tuple #[]) ∧ w' = W) := must_t
                go_wp2_with (first
                  | (refine (HM.out _).mono ?_; clear HM; rintro e w1 ⟨rfl, hw1⟩; rw [hw1]; clear hw1 w1)
                  | (refine (must_f _).mono ?_; rintro e w1 ⟨rfl, hw1⟩; rw [hw1]; clear hw1 w1))
                exact ⟨rfl, by rw [numE, HR.out], ⟨0, rfl⟩⟩
            · have z1 : ((i : Int) == 0) = false := by rw [beq_eq_false_iff_ne]; omega
              by_cases hz : 0 < n
              · have z3 : (n : Int) > 0 := by omega
                by_cases hle : 10 * n + (X - 48) ≤ 2147483647
                · have z2 : ((10 * n + (X - 48) : Nat) : Int) ≤ 2147483647 := by omega
                  have HS2 : Hid (scan s 0 0 = scan (s.drop (i + 1)) (i + 1) (10 * n + (X - 48))) := by
                    show scan s 0 0 = _
                    rw [HS.out, hdr, scan, hXX, if_pos ⟨h48, h57⟩, if_pos ⟨.inr hz, hle⟩]
                  clear HS hdr
                  generalize hM : 10 * n + (X - 48) = M at *
                  generalize X - 48 = Y at *
                  clear hM
                  go_wp2_with (refine (must_t _).mono ?_; rintro e w1 ⟨rfl, hw1⟩; rw [hw1]; clear hw1 w1)
                  exact ⟨⟨trivial, M, i + 1, by omega, by omega, rfl, rfl, HS2⟩, by simp [intOf]; omega⟩
                · have z2 : decide (((10 * n + (X - 48) : Nat) : Int) ≤ 2147483647) = false := decide_eq_false (by omega)
                  have HR : Hid (numC r = none) := by
                    show numC r = none
                    rw [HN.out, HS.out, hdr, scan, hXX, if_pos ⟨h48, h57⟩, if_neg (fun h => hle h.2)]
                  clear HS hdr HN
                  generalize hM : 10 * n + (X - 48) = M at *
                  generalize X - 48 = Y at *
                  clear hM hle
                  have HM : Hid (∀ W : World, Calls Tryd.prog 63 #[.bool true] W fun e w' => e = .returned (.tuple #[]) ∧ w' = W) := must_t
                  go_wp2_with (first
                    | (refine (HM.out _).mono ?_; clear HM; rintro e w1 ⟨rfl, hw1⟩; rw [hw1]; clear hw1 w1)
                    | (refine (must_f _).mono ?_; rintro e w1 ⟨rfl, hw1⟩; rw [hw1]; clear hw1 w1))
                  exact ⟨rfl, by rw [numE, HR.out], ⟨0, rfl⟩⟩
              · have z3 : ¬ ((n : Int) > 0) := by omega
                have HR : Hid (numC r = none) := by
                  show numC r = none
                  rw [HN.out, HS.out, hdr, scan, hXX, if_pos ⟨h48, h57⟩, if_neg (fun h => h.1.elim hi0 hz)]
                clear HS hdr HN
                go_wp2_with (refine (must_f _).mono ?_; rintro e w1 ⟨rfl, hw1⟩; rw [hw1]; clear hw1 w1)
                exact ⟨rfl, by rw [numE, HR.out], ⟨0, rfl⟩⟩
          · have d2 : ¬ (X : Int) ≤ 57 := by omega
            have HX : Hid (numC r = if i = 0 then none else some (n, s.drop i)) := by
              show numC r = _
              rw [HN.out, HS.out]
              rw [hdr, scan, hXX, if_neg (by omega)]
            clear HS HN hdr
            by_cases hi0 : i = 0
            · subst hi0
              have HR : Hid (numC r = none) := HX.out.trans (if_pos rfl)
              have six0 : ∀ W : World, (Instr.index 9 (.string SS) (.int .i64 0)).run Tryd.prog W = .ok (.int .u8 (X : Int)) W := fun W => by simpa using six W
              have y10 : (0 : Int) < (s.length : Int) := by omega
              clear six y1
              go_wp2_with (refine (must_f _).mono ?_; rintro e w1 ⟨rfl, hw1⟩; rw [hw1]; clear hw1 w1)
              exact ⟨rfl, by rw [numE, HR.out], ⟨0, rfl⟩⟩
            · have z0 : decide (0 < i) = true := decide_eq_true (by omega)
              have HR : Hid (numC r = some (n, s.drop i)) := HX.out.trans (if_neg hi0)
              have sf : ∀ W : World, (Instr.slice 9 (.string SS) (some (.int .i64 (i : Int))) none none).run Tryd.prog W = .ok (.string (strOf (s.drop i))) W := fun W => by rw [← HSS.out]; exact str_from s .i64 i (by omega) W
              generalize hSD : strOf (s.drop i) = SD at *
              have HSD : Hid (strOf (s.drop i) = SD) := hSD
              clear hSD HX hi0
              go_wp2_with (refine (must_t _).mono ?_; rintro e w1 ⟨rfl, hw1⟩; rw [hw1]; clear hw1 w1)
              go_quiet (fail)
              go_wp2
              go_ret2
              exact ⟨by unfold numE; rw [HR.out, ← HSD.out]; rfl, ⟨nq, rfl⟩⟩
        · have d1 : ¬ (48 : Int) ≤ (X : Int) := by omega
          have HX : Hid (numC r = if i = 0 then none else some (n, s.drop i)) := by
            show numC r = _
            rw [HN.out, HS.out]
            rw [hdr, scan, hXX, if_neg (by omega)]
          clear HS HN hdr
          by_cases hi0 : i = 0
          · subst hi0
            have HR : Hid (numC r = none) := HX.out.trans (if_pos rfl)
            have six0 : ∀ W : World, (Instr.index 9 (.string SS) (.int .i64 0)).run Tryd.prog W = .ok (.int .u8 (X : Int)) W := fun W => by simpa using six W
            have y10 : (0 : Int) < (s.length : Int) := by omega
            clear six y1
            go_wp2_with (refine (must_f _).mono ?_; rintro e w1 ⟨rfl, hw1⟩; rw [hw1]; clear hw1 w1)
            exact ⟨rfl, by rw [numE, HR.out], ⟨0, rfl⟩⟩
          · have z0 : decide (0 < i) = true := decide_eq_true (by omega)
            have HR : Hid (numC r = some (n, s.drop i)) := HX.out.trans (if_neg hi0)
            have sf : ∀ W : World, (Instr.slice 9 (.string SS) (some (.int .i64 (i : Int))) none none).run Tryd.prog W = .ok (.string (strOf (s.drop i))) W := fun W => by rw [← HSS.out]; exact str_from s .i64 i (by omega) W
            generalize hSD : strOf (s.drop i) = SD at *
            have HSD : Hid (strOf (s.drop i) = SD) := hSD
            clear hSD HX hi0
            go_wp2_with (refine (must_t _).mono ?_; rintro e w1 ⟨rfl, hw1⟩; rw [hw1]; clear hw1 w1)
            go_quiet (fail)
            go_wp2
            go_ret2
            exact ⟨by unfold numE; rw [HR.out, ← HSD.out]; rfl, ⟨nq, rfl⟩⟩
      · have y1 : ¬ (i : Int) < (s.length : Int) := by omega
        have HX : Hid (numC r = if i = 0 then none else some (n, s.drop i)) := by
          show numC r = _
          rw [HN.out, HS.out]
          rw [List.drop_of_length_le (by omega)]; rfl
        clear HS HN
        by_cases hi0 : i = 0
        · subst hi0
          have HR : Hid (numC r = none) := HX.out.trans (if_pos rfl)
          have y10 : ¬ (0 : Int) < (s.length : Int) := by omega
          go_wp2_with (refine (must_f _).mono ?_; rintro e w1 ⟨rfl, hw1⟩; rw [hw1]; clear hw1 w1)
          exact ⟨rfl, by rw [numE, HR.out], ⟨0, rfl⟩⟩
        · have z0 : decide (0 < i) = true := decide_eq_true (by omega)
          have HR : Hid (numC r = some (n, s.drop i)) := HX.out.trans (if_neg hi0)
          have sf : ∀ W : World, (Instr.slice 9 (.string SS) (some (.int .i64 (i : Int))) none none).run Tryd.prog W = .ok (.string (strOf (s.drop i))) W := fun W => by rw [← HSS.out]; exact str_from s .i64 i (by omega) W
          generalize hSD : strOf (s.drop i) = SD at *
          have HSD : Hid (strOf (s.drop i) = SD) := hSD
          clear hSD HX hi0
          go_wp2_with (refine (must_t _).mono ?_; rintro e w1 ⟨rfl, hw1⟩; rw [hw1]; clear hw1 w1)
          go_quiet (fail)
          go_wp2
          go_ret2
          exact ⟨by unfold numE; rw [HR.out, ← HSD.out]; rfl, ⟨nq, rfl⟩⟩
  · have HE : aftE r [32#8] = pan 5 := by unfold aftE; exact if_neg h1
    have HN : Hid (numC r = none) := by show numC r = none; unfold numC; rw [if_neg h1]
    rw [HE] at HA
    generalize strOf r = SR at *
    go_enter Tryd.func67, Tryd.ntmps67
    go_wp2_with (refine (HA.out _).mono ?_; rintro e w1 ⟨rfl, hw1⟩; rw [hw1]; clear hw1 w1)
    exact ⟨rfl, by rw [numE, HN.out], ⟨0, rfl⟩⟩
end Go.Proofs.YtgpnbiaghokjkaaDoor
