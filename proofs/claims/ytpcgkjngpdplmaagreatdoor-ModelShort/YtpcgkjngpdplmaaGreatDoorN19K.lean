
import Derived.Test.YtpcgkjngpdplmaaGreatDoorN19Dat
import Derived.Test.YtpcgkjngpdplmaaGreatDoorM19Math
import Derived.Test.YtpcgkjngpdplmaaGreatDoorKSet
import Derived.DeepKeys
import Derived.DeepKeys4
/-! The code's states and answers as cells, as keys, held against each other. -/
namespace Go.Proofs.YtpcgkjngpdplmaaGreatDoor
open Go.RowKit Go.Maps
set_option linter.unusedVariables false
set_option linter.unusedSimpArgs false
set_option maxRecDepth 100000

/-- A state's cells. -/
def csC (s : CS) : List Value := s.num.map (Value.int .i64) ++ [.int .u64 (s.rev : Int), .int .i64 (s.l0 : Int), .int .i64 (s.l1 : Int), .bool s.is, .int .i64 (s.slot : Int), .int .i64 (s.ver : Int), .int .i16 (s.ev : Int), .int .i8 (s.cuts : Int), .int .i8 (s.first : Int), .bool s.rom, .bool s.pow]
def csV (s : CS) : Value := .agg (csC s).toArray
theorem csC_len {s : CS} (h : s.num.length = 8) : (csC s).length = 19 := by simp [csC, h]
theorem csC_one (s : CS) : ∀ v ∈ csC s, v.oneCell' = true := by
  intro v hv
  simp only [csC, List.mem_append, List.mem_map, List.mem_cons, List.not_mem_nil, or_false] at hv
  rcases hv with ⟨x, _, rfl⟩ | rfl | rfl | rfl | rfl | rfl | rfl | rfl | rfl | rfl | rfl | rfl <;> rfl
theorem csC_num {s : CS} (h1 : s.num.length = 8) (i : Nat) (hi : i < 8) : (csC s)[i]? = some (.int .i64 (s.num.getD i 0)) := by
  unfold csC
  rw [List.getElem?_append_left (by rw [List.length_map, h1]; exact hi), List.getElem?_map, List.getElem?_eq_getElem (by omega)]
  simp [List.getD, show i < s.num.length by omega]
theorem csC_at {s : CS} (h1 : s.num.length = 8) (k : Nat) : (csC s)[8 + k]? = [Value.int .u64 (s.rev : Int), .int .i64 (s.l0 : Int), .int .i64 (s.l1 : Int), .bool s.is, .int .i64 (s.slot : Int), .int .i64 (s.ver : Int), .int .i16 (s.ev : Int), .int .i8 (s.cuts : Int), .int .i8 (s.first : Int), .bool s.rom, .bool s.pow][k]? := by
  unfold csC
  rw [List.getElem?_append_right (by rw [List.length_map, h1]; omega), List.length_map, h1, Nat.add_sub_cancel_left]
theorem csC_set {s : CS} (h1 : s.num.length = 8) (k : Nat) (v : Value) : (csC s).set (8 + k) v = s.num.map (Value.int .i64) ++ [Value.int .u64 (s.rev : Int), .int .i64 (s.l0 : Int), .int .i64 (s.l1 : Int), .bool s.is, .int .i64 (s.slot : Int), .int .i64 (s.ver : Int), .int .i16 (s.ev : Int), .int .i8 (s.cuts : Int), .int .i8 (s.first : Int), .bool s.rom, .bool s.pow].set k v := by
  unfold csC
  rw [List.set_append_right _ _ (by rw [List.length_map, h1]; omega), List.length_map, h1, Nat.add_sub_cancel_left]
theorem csC_setNum {s : CS} (h1 : s.num.length = 8) (i : Nat) (hi : i < 8) (v : Int) : (csC s).set i (.int .i64 v) = csC (s.raised i v) := by
  unfold csC CS.raised
  rw [List.set_append_left _ _ (by rw [List.length_map, h1]; exact hi), List.map_set]
theorem csC_setLay {s : CS} (h1 : s.num.length = 8) (i k : Nat) (hi : i ≤ 1) : (csC s).set (9 + i) (.int .i64 (k : Int)) = csC (s.lay i k) := by
  rw [show 9 + i = 8 + (1 + i) by omega, csC_set h1]
  rcases (by omega : i = 0 ∨ i = 1) with rfl | rfl <;> rfl

theorem inI_nat {n : Nat} (h : n < 4611686018427387904) : -9223372036854775808 ≤ (n : Int) ∧ (n : Int) ≤ 9223372036854775807 := by omega
def ki (x : Int) : Lit := .int .i64 x
theorem ck_int {x : Int} (h : -9223372036854775808 ≤ x ∧ x ≤ 9223372036854775807) (d : Nat) : Tryz.prog.keyLits (d + 1) 3 [.int .i64 x] = some [ki x] := by
  unfold Program.keyLits
  simp only [Tryz.underlying3]
  rw [if_pos ⟨trivial, WalkArith.wf_i64 h⟩]; rfl
theorem ck_int64 {x : Int} (h : -9223372036854775808 ≤ x ∧ x ≤ 9223372036854775807) (d : Nat) : Tryz.prog.keyLits (d + 1) 2 [.int .i64 x] = some [ki x] := by
  unfold Program.keyLits
  simp only [Tryz.underlying2]
  rw [if_pos ⟨trivial, WalkArith.wf_i64 h⟩]; rfl
theorem ck_errno {x : Int} (h : -9223372036854775808 ≤ x ∧ x ≤ 9223372036854775807) (d : Nat) : Tryz.prog.keyLits (d + 1) 35 [.int .i64 x] = some [ki x] := by
  unfold Program.keyLits
  simp only [Tryz.underlying35]
  rw [if_pos ⟨trivial, WalkArith.wf_i64 h⟩]; rfl
theorem ck_bool (x : Bool) (d : Nat) : Tryz.prog.keyLits (d + 1) 4 [.bool x] = some [.bool x] := by
  unfold Program.keyLits
  simp only [Tryz.underlying4]
theorem ck_u64 {n : Nat} (h : n < 2 ^ 64) (d : Nat) : Tryz.prog.keyLits (d + 1) 61 [.int .u64 (n : Int)] = some [.int .u64 (n : Int)] := by
  unfold Program.keyLits
  simp only [Tryz.underlying61]
  rw [if_pos ⟨trivial, by simp only [Lit.wf, IntKind.min, IntKind.max, IntKind.signed, IntKind.bits, Bool.and_eq_true, decide_eq_true_eq, if_true, Bool.false_eq_true, if_false]; omega⟩]
theorem ck_i16 {n : Nat} (h : n ≤ 1024) (d : Nat) : Tryz.prog.keyLits (d + 1) 64 [.int .i16 (n : Int)] = some [.int .i16 (n : Int)] := by
  unfold Program.keyLits
  simp only [Tryz.underlying64]
  rw [if_pos ⟨trivial, by simp only [Lit.wf, IntKind.min, IntKind.max, IntKind.signed, IntKind.bits, Bool.and_eq_true, decide_eq_true_eq, if_true, Bool.false_eq_true, if_false]; omega⟩]
theorem ck_i8 {n : Nat} (h : n ≤ 100) (d : Nat) : Tryz.prog.keyLits (d + 1) 65 [.int .i8 (n : Int)] = some [.int .i8 (n : Int)] := by
  unfold Program.keyLits
  simp only [Tryz.underlying65]
  rw [if_pos ⟨trivial, by simp only [Lit.wf, IntKind.min, IntKind.max, IntKind.signed, IntKind.bits, Bool.and_eq_true, decide_eq_true_eq, if_true, Bool.false_eq_true, if_false]; omega⟩]
theorem ck_flat {α β : Type} (g : α → β) : ∀ l : List α, (l.map fun i => [g i]).flatten = l.map g
  | [] => rfl
  | x :: l => by simp [ck_flat g l]
theorem ck_range {α β : Type} (l : List α) (z : α) (g : α → β) : (List.range l.length).map (fun i => g (l.getD i z)) = l.map g := by
  apply List.ext_getElem
  · simp
  · intro i h1 h2
    simp [List.getD, show i < l.length by simpa using h1]
theorem ck_nums {l : List Int} (hl : l.length = 8) (h : ∀ i, i < 8 → -9223372036854775808 ≤ l.getD i 0 ∧ l.getD i 0 ≤ 9223372036854775807) (d : Nat) : Tryz.prog.keyLits (d + 2) 47 (l.map (Value.int .i64)) = some (l.map ki) := by
  unfold Program.keyLits
  simp only [Tryz.underlying47]
  rw [if_pos (by rw [List.length_map, hl]; kernel_rfl)]
  rw [mapM_some (fun i => [ki (l.getD i 0)])]
  · rw [Option.map_some, ck_flat (fun i => ki (l.getD i 0)), ← hl, ck_range l 0 ki]
  · intro i hi
    rw [List.mem_range] at hi
    rw [show Tryz.prog.cellsOf 2 = 1 by kernel_rfl, Nat.mul_one, List.drop_eq_getElem_cons (by rw [List.length_map, hl]; exact hi)]
    have : (l.map (Value.int .i64))[i]'(by rw [List.length_map, hl]; exact hi) = .int .i64 (l.getD i 0) := by simp [List.getD, show i < l.length by omega]
    rw [this]
    exact ck_int64 (h i hi) d
theorem ck_two {a b : Int} (ha : -9223372036854775808 ≤ a ∧ a ≤ 9223372036854775807) (hb : -9223372036854775808 ≤ b ∧ b ≤ 9223372036854775807) (d : Nat) : Tryz.prog.keyLits (d + 2) 49 [.int .i64 a, .int .i64 b] = some [ki a, ki b] := by
  unfold Program.keyLits
  simp only [Tryz.underlying49]
  rw [if_pos (by kernel_rfl)]
  have h1 := ck_int ha d
  have h2 := ck_int hb d
  simp only [List.range, List.range.loop, List.mapM_cons, List.mapM_nil, show Tryz.prog.cellsOf 3 = 1 by kernel_rfl, Nat.mul_one, Nat.zero_mul, Nat.one_mul, List.drop_zero, List.take_succ_cons, List.take_zero, List.drop_succ_cons]
  rw [h1, h2]; rfl
theorem ck_handed {a b : Int} (q : Bool) (ha : -9223372036854775808 ≤ a ∧ a ≤ 9223372036854775807) (hb : -9223372036854775808 ≤ b ∧ b ≤ 9223372036854775807) (d : Nat) : Tryz.prog.keyLits (d + 2) 63 [.bool q, .int .i64 a, .int .i64 b] = some [.bool q, ki a, ki b] := by
  unfold Program.keyLits
  simp only [Tryz.underlying63]
  rw [if_pos ⟨by kernel_rfl, by kernel_rfl⟩]
  have h0 := ck_bool q d
  have h1 := ck_int ha d
  have h2 := ck_int64 hb d
  simp only [List.mapM_cons, List.mapM_nil, show Tryz.prog.cellsOf 3 = 1 by kernel_rfl, show Tryz.prog.cellsOf 2 = 1 by kernel_rfl, show Tryz.prog.cellsOf 4 = 1 by kernel_rfl, List.drop_zero, List.take_succ_cons, List.take_zero, List.drop_succ_cons]
  rw [h0, h1, h2]; rfl
/-- A state whose numbers its cells hold. -/
structure CS.Wf (s : CS) : Prop where
  len : s.num.length = 8
  num : ∀ i, i < 8 → -9223372036854775808 ≤ s.num.getD i 0 ∧ s.num.getD i 0 ≤ 9223372036854775807
  rev : s.rev < 2 ^ 64
  l0 : s.l0 < 4611686018427387904
  l1 : s.l1 < 4611686018427387904
  slot : s.slot < 8
  ver : s.ver < 4294967296
  ev : s.ev ≤ 1024
  cuts : s.cuts ≤ 100
  first : s.first ≤ 1
theorem CS.Ok.wf {c : Cfg} {g : Nat} {s : CS} (h : s.Ok c g) (hl : c.last ≤ 4611686018427387904) (hg : g ≤ 4611686018427387904) : s.Wf :=
  ⟨h.num, fun i hi => by have := h.val i hi; omega, h.rev, by have := h.l0; omega, by have := h.l1; omega, h.slot, h.ver, h.ev, by have := h.cuts; omega, h.first⟩
theorem CS.Ok.wf' {c : Cfg} {g : Nat} {s t : CS} (h : t.Ok c g) (hs : s.Wf) (hl : c.last ≤ 4611686018427387904 := by omega) (h0 : t.l0 = s.l0 := by rfl) (h1 : t.l1 = s.l1 := by rfl) : t.Wf :=
  ⟨h.num, fun i hi => by have := h.val i hi; omega, h.rev, by rw [h0]; exact hs.l0, by rw [h1]; exact hs.l1, h.slot, h.ver, h.ev, by have := h.cuts; omega, h.first⟩
def csLits (s : CS) : List Lit := s.num.map ki ++ [.int .u64 (s.rev : Int), ki s.l0, ki s.l1, .bool s.is, ki s.slot, ki s.ver, .int .i16 (s.ev : Int), .int .i8 (s.cuts : Int), .int .i8 (s.first : Int), .bool s.rom, .bool s.pow]
theorem cs_key {s : CS} (h : s.Wf) (d : Nat) : Tryz.prog.keyLits (d + 3) 67 (csC s) = some (csLits s) := by
  have e0 : ((csC s).drop 0).take 8 = s.num.map (Value.int .i64) := by
    unfold csC
    rw [List.drop_zero, List.take_append_of_le_length (by rw [List.length_map, h.len]; omega), List.take_of_length_le (by rw [List.length_map, h.len]; omega)]
  have ed : ∀ k, (csC s).drop (8 + k) = List.drop k [Value.int .u64 (s.rev : Int), .int .i64 (s.l0 : Int), .int .i64 (s.l1 : Int), .bool s.is, .int .i64 (s.slot : Int), .int .i64 (s.ver : Int), .int .i16 (s.ev : Int), .int .i8 (s.cuts : Int), .int .i8 (s.first : Int), .bool s.rom, .bool s.pow] := by
    intro k
    unfold csC
    rw [List.drop_append, List.drop_of_length_le (by rw [List.length_map, h.len]; omega), List.nil_append, List.length_map, h.len]
    congr 1
    omega
  unfold Program.keyLits
  simp only [Tryz.underlying67]
  rw [if_pos ⟨by rw [csC_len h.len]; kernel_rfl, by kernel_rfl⟩]
  have f0 : Tryz.prog.keyLits (d + 2) 47 (((csC s).drop 0).take (Tryz.prog.cellsOf 47)) = some (s.num.map ki) := by rw [show Tryz.prog.cellsOf 47 = 8 by kernel_rfl, e0]; exact ck_nums h.len h.num d
  have f1 : Tryz.prog.keyLits (d + 2) 61 (((csC s).drop 8).take (Tryz.prog.cellsOf 61)) = some [.int .u64 (s.rev : Int)] := by rw [show Tryz.prog.cellsOf 61 = 1 by kernel_rfl, ed 0]; exact ck_u64 h.rev (d + 1)
  have f2 : Tryz.prog.keyLits (d + 2) 49 (((csC s).drop 9).take (Tryz.prog.cellsOf 49)) = some [ki s.l0, ki s.l1] := by rw [show Tryz.prog.cellsOf 49 = 2 by kernel_rfl, ed 1]; exact ck_two (inI_nat h.l0) (inI_nat h.l1) d
  have f3 : Tryz.prog.keyLits (d + 2) 63 (((csC s).drop 11).take (Tryz.prog.cellsOf 63)) = some [.bool s.is, ki s.slot, ki s.ver] := by rw [show Tryz.prog.cellsOf 63 = 3 by kernel_rfl, ed 3]; exact ck_handed s.is (inI_nat (by have := h.slot; omega)) (inI_nat (by have := h.ver; omega)) d
  have f4 : Tryz.prog.keyLits (d + 2) 64 (((csC s).drop 14).take (Tryz.prog.cellsOf 64)) = some [.int .i16 (s.ev : Int)] := by rw [show Tryz.prog.cellsOf 64 = 1 by kernel_rfl, ed 6]; exact ck_i16 h.ev (d + 1)
  have f5 : Tryz.prog.keyLits (d + 2) 65 (((csC s).drop 15).take (Tryz.prog.cellsOf 65)) = some [.int .i8 (s.cuts : Int)] := by rw [show Tryz.prog.cellsOf 65 = 1 by kernel_rfl, ed 7]; exact ck_i8 h.cuts (d + 1)
  have f6 : Tryz.prog.keyLits (d + 2) 65 (((csC s).drop 16).take (Tryz.prog.cellsOf 65)) = some [.int .i8 (s.first : Int)] := by rw [show Tryz.prog.cellsOf 65 = 1 by kernel_rfl, ed 8]; exact ck_i8 (by have := h.first; omega) (d + 1)
  have f7 : Tryz.prog.keyLits (d + 2) 4 (((csC s).drop 17).take (Tryz.prog.cellsOf 4)) = some [.bool s.rom] := by rw [show Tryz.prog.cellsOf 4 = 1 by kernel_rfl, ed 9]; exact ck_bool s.rom (d + 1)
  have f8 : Tryz.prog.keyLits (d + 2) 4 (((csC s).drop 18).take (Tryz.prog.cellsOf 4)) = some [.bool s.pow] := by rw [show Tryz.prog.cellsOf 4 = 1 by kernel_rfl, ed 10]; exact ck_bool s.pow (d + 1)
  simp only [List.mapM_cons, List.mapM_nil, f0, f1, f2, f3, f4, f5, f6, f7, f8, Option.pure_def, Option.bind_eq_bind, Option.bind_some, Option.map_some]
  simp [csLits]
theorem ki_map_inj : ∀ {a b : List Int}, a.map ki = b.map ki → a = b
  | [], [], _ => rfl
  | [], _ :: _, h => by simp at h
  | _ :: _, [], h => by simp at h
  | x :: a, y :: b, h => by
    simp only [List.map_cons, List.cons.injEq, ki, Lit.int.injEq, true_and] at h
    rw [h.1, ki_map_inj h.2]
theorem csLits_inj {s t : CS} (h1 : s.num.length = 8) (h2 : t.num.length = 8) (h : csLits s = csLits t) : s = t := by
  unfold csLits at h
  obtain ⟨e1, h⟩ := append_len_inj h (by simp [h1, h2])
  have e1 := ki_map_inj e1
  simp only [List.cons.injEq, ki, Lit.int.injEq, Lit.bool.injEq, true_and, and_true, Int.natCast_inj] at h
  cases s; cases t
  simp_all
theorem csC_inj {s t : CS} (h1 : s.num.length = 8) (h2 : t.num.length = 8) (h : csC s = csC t) : s = t := by
  unfold csC at h
  obtain ⟨e1, h⟩ := append_len_inj h (by simp [h1, h2])
  have e1 := int_map_inj e1
  simp only [List.cons.injEq, Value.int.injEq, Value.bool.injEq, true_and, and_true, Int.natCast_inj] at h
  cases s; cases t
  simp_all
theorem csV_inj {s t : CS} (h1 : s.num.length = 8) (h2 : t.num.length = 8) (h : csV s = csV t) : s = t := by
  unfold csV at h
  injection h with h
  exact csC_inj h1 h2 (by have := congrArg Array.toList h; simpa using this)
theorem cs_formed {s : CS} (h : s.num.length = 8) : (csV s).formed Tryz.prog 67 = true := by
  simp [csV, Value.formed, Tryz.underlying67, show Tryz.prog.cellsOf 67 = 19 by kernel_rfl, csC_len h]
theorem eqCS_any (s t : CS) (hs : s.Wf) (ht : t.Wf) (r : Bool) (hr0 : r = true ↔ s = t) (w : World) : (Op.equalIn 10000 67 (.agg (csC s).toArray) (.agg (csC t).toArray)).run Tryz.prog w = .ok r w := by
  have hk : ∀ s : CS, s.Wf → Tryz.prog.keyLits 3 67 (Value.agg (csC s).toArray).cells.toList = some (csLits s) := fun s h => by simpa [Value.cells] using cs_key h 0
  obtain ⟨q, hr, hiff⟩ := run_equalIn_deep (P := Tryz.prog) 9997 3 67 (by kernel_rfl) w 3 3 _ _ _ _ (cs_formed hs.len) (cs_formed ht.len) (hk s hs) (hk t ht)
  change (Op.equalIn (9997 + 3) 67 (csV s) (csV t)).run Tryz.prog w = _
  rw [hr]
  congr 1
  rw [Bool.eq_iff_iff, hiff, hr0]
  exact ⟨csLits_inj hs.len ht.len, fun h => by rw [h]⟩
/-- The key of a state. -/
theorem cs_keyOf {s : CS} (h : s.Wf) : ∃ kl, Go.keyOf Tryz.prog 67 (csV s) = some kl := by
  unfold Go.keyOf
  simp only [Tryz.underlying67]
  rw [show Tryz.prog.keyType 67 = true by kernel_rfl, cs_formed h.len]
  rw [if_pos (by rfl)]
  obtain ⟨d, hd⟩ : ∃ d, Tryz.prog.types.size + 1 = d + 3 := ⟨Tryz.prog.types.size - 2, by rw [show Tryz.prog.types.size = 241 by kernel_rfl]⟩
  rw [hd]
  have := cs_key h d
  rw [show (csV s).cells.toList = csC s by simp [csV, Value.cells], this]
  exact ⟨_, rfl⟩
theorem laidOut19 : laidOutB Tryz.prog = true := by kernel_rfl
theorem cs_keyed : Keyed Tryz.prog 67 := Keyed.of_law (deep_law_laid laidOut19 (m := 3) (by omega) (by rw [show Tryz.prog.types.size = 241 by kernel_rfl]; decide) (by kernel_rfl) (by rw [Tryz.underlying67]))

/-- Answers. -/
structure AN.Wf (a : AN) : Prop where
  e : -9223372036854775808 ≤ a.e ∧ a.e ≤ 9223372036854775807
  v : -9223372036854775808 ≤ a.v ∧ a.v ≤ 9223372036854775807
  h : a.h.length = 32
def anLits (a : AN) : List Lit := [ki a.e, ki a.v, .bool a.is] ++ (hashLits a.h ++ [ki 0])
theorem an_key {a : AN} (h : a.Wf) : Tryz.prog.keyLits 3 39 (anC a 0) = some (anLits a) := by
  have e3 : ((anC a 0).drop 3).take 32 = a.h.map B8 := by
    unfold anC
    rw [List.drop_append_of_le_length (by simp), List.drop_of_length_le (by simp), List.nil_append, List.take_append_of_le_length (by simp [h.h]), List.take_of_length_le (by simp [h.h])]
  have e4 : (anC a 0).drop 35 = [.int .i64 0] := by
    unfold anC
    rw [List.drop_append, List.drop_of_length_le (by simp), List.nil_append, List.drop_append, List.drop_of_length_le (by simp [h.h]), List.nil_append]
    simp [h.h]
  unfold Program.keyLits
  simp only [Tryz.underlying39]
  rw [if_pos ⟨by rw [anC_len h.h]; kernel_rfl, by kernel_rfl⟩]
  have f0 : Tryz.prog.keyLits 2 35 (((anC a 0).drop 0).take (Tryz.prog.cellsOf 35)) = some [ki a.e] := by rw [show Tryz.prog.cellsOf 35 = 1 by kernel_rfl]; exact ck_errno h.e 1
  have f1 : Tryz.prog.keyLits 2 2 (((anC a 0).drop 1).take (Tryz.prog.cellsOf 2)) = some [ki a.v] := by rw [show Tryz.prog.cellsOf 2 = 1 by kernel_rfl]; exact ck_int64 h.v 1
  have f2 : Tryz.prog.keyLits 2 4 (((anC a 0).drop 2).take (Tryz.prog.cellsOf 4)) = some [.bool a.is] := by rw [show Tryz.prog.cellsOf 4 = 1 by kernel_rfl]; exact ck_bool a.is 1
  have f3 : Tryz.prog.keyLits 2 37 (((anC a 0).drop 3).take (Tryz.prog.cellsOf 37)) = some (hashLits a.h) := by rw [show Tryz.prog.cellsOf 37 = 32 by kernel_rfl, e3]; exact hash_key_at a.h h.h
  have f4 : Tryz.prog.keyLits 2 3 (((anC a 0).drop 35).take (Tryz.prog.cellsOf 3)) = some [ki 0] := by rw [show Tryz.prog.cellsOf 3 = 1 by kernel_rfl, e4]; exact ck_int (by omega) 1
  simp only [List.mapM_cons, List.mapM_nil, f0, f1, f2, f3, f4, Option.pure_def, Option.bind_eq_bind, Option.bind_some, Option.map_some]
  simp [anLits]
theorem hashLits_len (b : List By) : (hashLits b).length = 32 := by unfold hashLits; rw [ck_flat (fun i => Lit.int .u8 ((b.getD i 0).toNat : Int))]; simp
theorem anLits_inj {a b : AN} (h1 : a.h.length = 32) (h2 : b.h.length = 32) (h : anLits a = anLits b) : a = b := by
  unfold anLits at h
  obtain ⟨e1, h⟩ := append_len_inj h (by simp)
  obtain ⟨e2, h⟩ := append_len_inj h (by rw [hashLits_len, hashLits_len])
  have e2 := hashLits_inj h1 h2 e2
  simp only [List.cons.injEq, ki, Lit.int.injEq, Lit.bool.injEq, true_and, and_true] at e1
  cases a; cases b
  simp_all
theorem eqAN_any (a b : AN) (ha : a.Wf) (hb : b.Wf) (r : Bool) (hr0 : r = anEq a b) (w : World) : (Op.equalIn 10000 39 (.agg (anC a 0).toArray) (.agg (anC b 0).toArray)).run Tryz.prog w = .ok r w := by
  have hf : ∀ a : AN, a.Wf → (Value.agg (anC a 0).toArray).formed Tryz.prog 39 = true := fun a h => by
    simp [Value.formed, Tryz.underlying39, show Tryz.prog.cellsOf 39 = 36 by kernel_rfl, anC_len h.h]
  have hk : ∀ a : AN, a.Wf → Tryz.prog.keyLits 3 39 (Value.agg (anC a 0).toArray).cells.toList = some (anLits a) := fun a h => by simpa [Value.cells] using an_key h
  obtain ⟨q, hr, hiff⟩ := run_equalIn_deep (P := Tryz.prog) 9997 3 39 (by kernel_rfl) w 3 3 _ _ _ _ (hf a ha) (hf b hb) (hk a ha) (hk b hb)
  rw [hr, hr0]
  congr 1
  rw [Bool.eq_iff_iff, hiff, anEq_iff]
  exact ⟨anLits_inj ha.h hb.h, fun h => by rw [h]⟩
end Go.Proofs.YtpcgkjngpdplmaaGreatDoor
