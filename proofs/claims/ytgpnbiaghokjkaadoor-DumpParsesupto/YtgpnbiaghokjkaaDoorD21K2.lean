import Derived.Test.YtgpnbiaghokjkaaDoorD21CR
import Derived.Lib.Bytealg
import Derived.WalkLawsBesides
import Derived.Test.YtgpnbiaghokjkaaDoorD21Str
/-! Layer 21, the landed code: what gives up, and what takes a word off a line. -/
namespace Go.Proofs.YtgpnbiaghokjkaaDoor
open Go.RowKit
set_option linter.unusedVariables false
set_option linter.unusedSimpArgs false
set_option maxRecDepth 100000

/-- A panic with an error's number. -/
abbrev pan (k : Int) : Ending := .panicked [{ v := .iface 30 (.int .i64 k), recovered := false }]
theorem must_t (w : World) : Calls Tryd.prog 63 #[.bool true] w fun e w' => e = .returned (.tuple #[]) ∧ w' = w := by
  go_enter Tryd.func63, Tryd.ntmps63
  go_wp2
  go_end0
  exact ⟨rfl, rfl⟩
theorem must_f (w : World) : Calls Tryd.prog 63 #[.bool false] w fun e w' => e = pan 5 ∧ w' = w := by
  go_enter Tryd.func63, Tryd.ntmps63
  go_wp2
  exact ⟨rfl, rfl, rfl⟩
def mustE (b : Bool) : Ending := match b with | true => .returned (.tuple #[]) | false => pan 5
/-- 's[i:]', 's[:j]'. -/
theorem str_from (a : List By) (k : IntKind) (i : Nat) (hi : i ≤ a.length) (w : World) : (Instr.slice 9 (.string (strOf a)) (some (.int k (i : Int))) none none).run Tryd.prog w = .ok (.string (strOf (a.drop i))) w := by
  have hs := strOf_size a
  rw [run_slice_string_from_if w 9 _ k _ Tryd.underlying9, if_pos ⟨by omega, by omega⟩, hs]
  rw [Int.toNat_natCast, strOf_mk, Go.ByteArray.extract_mk, strOf_mk, ← List.map_drop, ← List.map_take, List.take_of_length_le (by rw [List.length_drop]; exact Nat.le_refl _)]
theorem str_to (a : List By) (k : IntKind) (j : Nat) (hj : j ≤ a.length) (w : World) : (Instr.slice 9 (.string (strOf a)) none (some (.int k (j : Int))) none).run Tryd.prog w = .ok (.string (strOf (a.take j))) w := by
  have hs := strOf_size a
  rw [run_slice_string_to_if w 9 _ k _ Tryd.underlying9, if_pos ⟨by omega, by omega⟩]
  rw [Int.toNat_natCast, strOf_mk, Go.ByteArray.extract_mk, strOf_mk, ← List.map_drop, ← List.map_take, List.drop_zero, Nat.sub_zero]
theorem lf_list : (strOf [10#8]).toList = [10] := by kernel_rfl
theorem must_any (b : Bool) (w : World) : Calls Tryd.prog 63 #[.bool b] w fun e w' => e = mustE b ∧ w' = w := by
  cases b
  · exact must_f w
  · exact must_t w
theorem ended_any (r : List By) (w : World) : Calls Tryd.prog 68 #[.string (strOf r)] w fun e w' => e = mustE (decide (r = [10#8])) ∧ w' = w := by
  have hq := strOf_beq r [10#8]
  rw [lf_list] at hq
  generalize strOf r = S at *
  go_enter Tryd.func68, Tryd.ntmps68
  cases hb : decide (r = [10#8]) with
  | false =>
    rw [hb] at hq
    go_wp2_with (refine (must_f _).mono ?_; rintro e w1 ⟨rfl, rfl⟩)
    exact ⟨rfl, rfl, rfl⟩
  | true =>
    rw [hb] at hq
    go_wp2_with (refine (must_t _).mono ?_; rintro e w1 ⟨rfl, rfl⟩)
    go_end0
    exact ⟨rfl, rfl⟩
/-- Does a string begin so? -/
theorem slHas_any (s p : List By) (hs : s.length ≤ 140737488355328) (hp : p.length ≤ 140737488355328) (w : World) : Calls Tryd.prog 73 #[.string (strOf s), .string (strOf p)] w fun e w' => e = .returned (.bool (decide (s.take p.length = p))) ∧ w' = w := by
  have sl1 : ∀ W : World, (Builtin.len_ #[9] 3 #[.string (strOf s)]).run Tryd.prog W = .ok (goInt s.length) W := fun W => str_len s 3 W
  have sl2 : ∀ W : World, (Builtin.len_ #[9] 3 #[.string (strOf p)]).run Tryd.prog W = .ok (goInt p.length) W := fun W => str_len p 3 W
  by_cases h : p.length ≤ s.length
  · have h2 : (s.length : Int) ≥ (p.length : Int) := by omega
    have sx : ∀ W : World, (Instr.slice 9 (.string (strOf s)) none (some (.int .i64 (p.length : Int))) none).run Tryd.prog W = .ok (.string (strOf (s.take p.length))) W := fun W => str_to s .i64 p.length h W
    have hq := strOf_beq (s.take p.length) p
    generalize decide (s.take p.length = p) = R at *
    generalize strOf (s.take p.length) = S1 at *
    generalize strOf p = S2 at *
    generalize strOf s = S3 at *
    go_enter Tryd.func73, Tryd.ntmps73
    go_wp2
    go_ret
    exact ⟨rfl, rfl⟩
  · have h2 : ¬ (s.length : Int) ≥ (p.length : Int) := by omega
    have hf : decide (s.take p.length = p) = false := decide_eq_false fun e => h (by have := congrArg List.length e; rw [List.length_take] at this; omega)
    rw [hf]
    generalize strOf p = S2 at *
    generalize strOf s = S3 at *
    go_enter Tryd.func73, Tryd.ntmps73
    go_wp2
    go_ret
    exact ⟨rfl, rfl⟩
theorem sHas_any (s p : List By) (hs : s.length ≤ 140737488355328) (hp : p.length ≤ 140737488355328) (w : World) : Calls Tryd.prog 60 #[.string (strOf s), .string (strOf p)] w fun e w' => e = .returned (.bool (decide (s.take p.length = p))) ∧ w' = w := by
  go_enter Tryd.func60, Tryd.ntmps60
  go_wp2_with (refine (slHas_any s p hs hp _).mono ?_; rintro e w1 ⟨rfl, rfl⟩)
  go_ret
  exact ⟨rfl, rfl⟩
/-- What CutPrefix tells. -/
def cutP (s p : List By) : Value := .tuple #[.string (strOf (if s.take p.length = p then s.drop p.length else s)), .bool (decide (s.take p.length = p))]
theorem slCut_any (s p : List By) (hs : s.length ≤ 140737488355328) (hp : p.length ≤ 140737488355328) (w : World) : Calls Tryd.prog 81 #[.string (strOf s), .string (strOf p)] w fun e w' => e = .returned (cutP s p) ∧ w' = w := by
  have sl2 : ∀ W : World, (Builtin.len_ #[9] 3 #[.string (strOf p)]).run Tryd.prog W = .ok (goInt p.length) W := fun W => str_len p 3 W
  have HH : Hid (∀ W : World, Calls Tryd.prog 73 #[.string (strOf s), .string (strOf p)] W fun e w' => e = .returned (.bool (decide (s.take p.length = p))) ∧ w' = W) := fun W => slHas_any s p hs hp W
  unfold cutP
  by_cases h : s.take p.length = p
  · have hl : p.length ≤ s.length := by have := congrArg List.length h; rw [List.length_take] at this; omega
    rw [if_pos h]
    have sx : ∀ W : World, (Instr.slice 9 (.string (strOf s)) (some (.int .i64 (p.length : Int))) none none).run Tryd.prog W = .ok (.string (strOf (s.drop p.length))) W := fun W => str_from s .i64 p.length hl W
    rw [decide_eq_true h] at HH ⊢
    generalize strOf (s.drop p.length) = S1 at *
    generalize strOf p = S2 at *
    generalize strOf s = S3 at *
    go_enter Tryd.func81, Tryd.ntmps81
    go_wp2_with (refine (HH.out _).mono ?_; rintro e w1 ⟨rfl, rfl⟩)
    go_ret2
    exact ⟨rfl, rfl⟩
  · rw [if_neg h]
    rw [decide_eq_false h] at HH ⊢
    generalize strOf p = S2 at *
    generalize strOf s = S3 at *
    go_enter Tryd.func81, Tryd.ntmps81
    go_wp2_with (refine (HH.out _).mono ?_; rintro e w1 ⟨rfl, rfl⟩)
    go_ret2
    exact ⟨rfl, rfl⟩
end Go.Proofs.YtgpnbiaghokjkaaDoor

/-! Layer 21, the landed code: words, numbers and bytes taken off a line. -/
namespace Go.Proofs.YtgpnbiaghokjkaaDoor
open Go.RowKit
set_option linter.unusedVariables false
set_option linter.unusedSimpArgs false
set_option maxRecDepth 100000

theorem sCut_any (s p : List By) (hs : s.length ≤ 140737488355328) (hp : p.length ≤ 140737488355328) (w : World) : Calls Tryd.prog 77 #[.string (strOf s), .string (strOf p)] w fun e w' => e = .returned (cutP s p) ∧ w' = w := by
  have HH : Hid (∀ W : World, Calls Tryd.prog 81 #[.string (strOf s), .string (strOf p)] W fun e w' => e = .returned (cutP s p) ∧ w' = W) := fun W => slCut_any s p hs hp W
  unfold cutP at *
  generalize strOf (if s.take p.length = p then s.drop p.length else s) = S1 at *
  generalize decide (s.take p.length = p) = B1 at *
  generalize strOf p = S2 at *
  generalize strOf s = S3 at *
  go_enter Tryd.func77, Tryd.ntmps77
  go_wp2_with (refine (HH.out _).mono ?_; rintro e w1 ⟨rfl, rfl⟩)
  go_ret2
  exact ⟨rfl, rfl⟩
/-- What is behind a word, or a panic. -/
def aftE (s p : List By) : Ending := if s.take p.length = p then .returned (.string (strOf (s.drop p.length))) else pan 5
theorem after_any (s p : List By) (hs : s.length ≤ 140737488355328) (hp : p.length ≤ 140737488355328) (w : World) : Calls Tryd.prog 66 #[.string (strOf s), .string (strOf p)] w fun e w' => e = aftE s p ∧ w' = w := by
  have HH : Hid (∀ W : World, Calls Tryd.prog 77 #[.string (strOf s), .string (strOf p)] W fun e w' => e = .returned (cutP s p) ∧ w' = W) := fun W => sCut_any s p hs hp W
  unfold cutP at *
  unfold aftE
  by_cases h : s.take p.length = p
  · rw [if_pos h] at *
    rw [decide_eq_true h] at HH
    generalize strOf (s.drop p.length) = S1 at *
    generalize strOf p = S2 at *
    generalize strOf s = S3 at *
    go_enter Tryd.func66, Tryd.ntmps66
    go_wp2_with (first
      | (refine (HH.out _).mono ?_; rintro e w1 ⟨rfl, rfl⟩)
      | (refine (must_t _).mono ?_; rintro e w1 ⟨rfl, rfl⟩))
    go_ret
    exact ⟨rfl, rfl⟩
  · rw [if_neg h] at *
    rw [decide_eq_false h] at HH
    generalize strOf p = S2 at *
    generalize strOf s = S3 at *
    go_enter Tryd.func66, Tryd.ntmps66
    go_wp2_with (first
      | (refine (HH.out _).mono ?_; rintro e w1 ⟨rfl, rfl⟩)
      | (refine (must_f _).mono ?_; rintro e w1 ⟨rfl, rfl⟩))
    exact ⟨rfl, rfl, rfl⟩
/-- The first place of a byte. -/
theorem slIdx_any (s : ByteArray) (c : Int) (w : World) : Calls Tryd.prog 65 #[.string s, .int .u8 c] w fun e w' => e = .returned (.int .i64 (Lib.indexByte s.data.toList c.toNat.toUInt8)) ∧ w' = w := by
  go_enter Tryd.func65, Tryd.ntmps65
  go_wp2
  rw [run_callFunc_extern Tryd.func76 (by kernel_rfl) (by kernel_rfl) (by kernel_rfl) (e := Extern.BytealgIndexByte.indexByte) (by kernel_rfl), Lib.run_indexByteString]
  simp only [Result.andThen]
  rw [Oper.upon_value]
  go_wp2
  go_ret
  exact ⟨rfl, rfl⟩
theorem sIdx_any (s : ByteArray) (c : Int) (w : World) : Calls Tryd.prog 57 #[.string s, .int .u8 c] w fun e w' => e = .returned (.int .i64 (Lib.indexByte s.data.toList c.toNat.toUInt8)) ∧ w' = w := by
  go_enter Tryd.func57, Tryd.ntmps57
  go_wp2_with (refine (slIdx_any _ _ _).mono ?_; rintro e w1 ⟨rfl, rfl⟩)
  go_ret
  exact ⟨rfl, rfl⟩
theorem idx_line : ∀ (t : List By), Lib.indexByte (t.map fun b => UInt8.ofNat b.toNat) 10 = (match lineOf t with | some (l, _) => (l.length : Int) | none => -1)
  | [] => rfl
  | x :: t => by
    have ih := idx_line t
    rw [List.map_cons, Lib.indexByte, lineOf]
    by_cases hx : x = 10#8
    · subst hx; rfl
    · have hb : (UInt8.ofNat x.toNat == 10) = false := by
        rw [beq_eq_false_iff_ne]
        intro e
        refine hx (BitVec.eq_of_toNat_eq ?_)
        have := congrArg UInt8.toNat e
        rw [u8_by] at this
        exact this
      rw [hb, if_neg (by decide), if_neg hx, ih]
      cases lineOf t with
      | none => rfl
      | some p =>
        obtain ⟨l, r⟩ := p
        show (if ((l.length : Int) == -1) = true then (-1 : Int) else (l.length : Int) + 1) = ((x :: l).length : Int)
        rw [if_neg (by simp <;> omega), List.length_cons]; omega
theorem strOf_dataL (a : List By) : (strOf a).data.toList = a.map fun b => UInt8.ofNat b.toNat := by rw [strOf_mk]
theorem lineIdx_any (t : List By) (w : World) : Calls Tryd.prog 57 #[.string (strOf t), .int .u8 10] w fun e w' => e = .returned (.int .i64 (match lineOf t with | some (l, _) => (l.length : Int) | none => -1)) ∧ w' = w := by
  have := sIdx_any (strOf t) 10 w
  rw [strOf_dataL, show (10 : Int).toNat.toUInt8 = 10 from rfl, idx_line] at this
  exact this
def dgts : List UInt8 := [48, 49, 50, 51, 52, 53, 54, 55, 56, 57, 97, 98, 99, 100, 101, 102]
def hvI (b : By) : Int := match hv b with | some n => (n : Int) | none => -1
theorem idx_hv : ∀ b : By, Lib.indexByte dgts (UInt8.ofNat b.toNat) = hvI b := by decide +kernel
theorem hv_lt {b : By} {n : Nat} (h : hv b = some n) : n < 16 := (hv_facts b n h).1
/-- A digit of base sixteen. -/
def digE (b : By) : Ending := match hv b with | some n => .returned (.int .u8 (n : Int)) | none => pan 5
theorem digit_any (b : By) (w : World) : Calls Tryd.prog 79 #[.int .u8 (b.toNat : Int)] w fun e w' => e = digE b ∧ w' = w := by
  have HI : Hid (∀ W : World, Calls Tryd.prog 57 #[.string { data := #[48, 49, 50, 51, 52, 53, 54, 55, 56, 57, 97, 98, 99, 100, 101, 102] }, .int .u8 (b.toNat : Int)] W fun e w' => e = .returned (.int .i64 (hvI b)) ∧ w' = W) := fun W => by
    have := sIdx_any { data := #[48, 49, 50, 51, 52, 53, 54, 55, 56, 57, 97, 98, 99, 100, 101, 102] } (b.toNat : Int) W
    rw [Int.toNat_natCast] at this
    have e := idx_hv b
    rw [← e]
    exact this
  generalize hV : (b.toNat : Int) = V at *
  unfold digE hvI at *
  cases h : hv b with
  | none =>
    rw [h] at HI
    go_enter Tryd.func79, Tryd.ntmps79
    go_wp2_with (first
      | (refine (HI.out _).mono ?_; rintro e w1 ⟨rfl, rfl⟩)
      | (refine (must_f _).mono ?_; rintro e w1 ⟨rfl, rfl⟩))
    exact ⟨rfl, rfl, rfl⟩
  | some n =>
    rw [h] at HI
    have hn := hv_lt h
    have g0 : (n : Int) ≥ 0 := by omega
    have wr : IntKind.u8.wrap (n : Int) = (n : Int) := u8_in _ (by omega) (by omega)
    go_enter Tryd.func79, Tryd.ntmps79
    go_wp2_with (first
      | (refine (HI.out _).mono ?_; rintro e w1 ⟨rfl, rfl⟩)
      | (refine (must_t _).mono ?_; rintro e w1 ⟨rfl, rfl⟩))
    go_ret
    exact ⟨rfl, rfl⟩
end Go.Proofs.YtgpnbiaghokjkaaDoor
