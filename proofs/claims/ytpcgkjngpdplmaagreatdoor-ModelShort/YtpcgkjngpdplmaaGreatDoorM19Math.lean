import Derived.Test.YtpcgkjngpdplmaaGreatDoorI11Math
import Derived.Test.YtpcgkjngpdplmaaGreatDoorMOf
import Derived.Test.YtpcgkjngpdplmaaGreatDoorOpenA
import Derived.Test.YtpcgkjngpdplmaaGreatDoorI11CPo
import Derived.Test.YtpcgkjngpdplmaaGreatDoorSched
import Derived.DeepKeys
import Derived.Test.YtpcgkjngpdplmaaGreatDoorR4Inv

/-! The reference's rings: find, Has. -/
namespace Go.Proofs.YtpcgkjngpdplmaaGreatDoor
open Go.RowKit
set_option linter.unusedVariables false

/-- A ring's secrets: numbers and bytes, as they came. -/
abbrev Secs := List (Int × List By)
/-- The place of a key. -/
def fnd (l : Secs) (key : Int) : Option Nat := l.findIdx? fun p => p.1 == key
end Go.Proofs.YtpcgkjngpdplmaaGreatDoor


/-! The reference's rings: Sign. -/
namespace Go.Proofs.YtpcgkjngpdplmaaGreatDoor
open Go.RowKit
set_option linter.unusedVariables false

theorem cell_lt {w : World} {p : Addr} {v : Value} (h : w.cell? p = some v) : p.block < w.heap.size := by
  rcases Nat.lt_or_ge p.block w.heap.size with h1 | h1
  · exact h1
  · simp [World.cell?, Array.getElem?_eq_none h1] at h
/-- What a ring signs, and tells. -/
def sgn (l : Secs) (key : Int) (b : List By) : List By := match fnd l key with | some i => tag (l.getD i (0, [])).2 b | none => List.replicate 32 0
def sgnE (l : Secs) (key : Int) : Int := match fnd l key with | some _ => 0 | none => 13
theorem sgn_len (l : Secs) (key : Int) (b : List By) : (sgn l key b).length = 32 := by
  unfold sgn; split
  · exact sha_len _
  · rfl
theorem fnd_lt {l : Secs} {key : Int} {i : Nat} (h : fnd l key = some i) : i < l.length := by
  unfold fnd at h
  rw [List.findIdx?_eq_some_iff_getElem] at h
  exact h.1

end Go.Proofs.YtpcgkjngpdplmaaGreatDoor


/-! The reference's ring in memory of its own, and one secret more. -/
namespace Go.Proofs.YtpcgkjngpdplmaaGreatDoor
open Go.RowKit
set_option linter.unusedVariables false

def secCells : Secs → List Value → List Value
  | p :: l, v :: vs => .int .i64 p.1 :: v :: secCells l vs
  | _, _ => []
/-- The reference's ring, all of it in blocks from N on. -/
structure RgO (N : Nat) (w : World) (g : Nat) (ao : Option Addr) (cap : Nat) (vs : List Value) (l : Secs) : Prop where
  row : Row w g 77 [.slice ao l.length cap]
  ng : N ≤ g
  own : w.ownsRow N 79 2 (.slice ao l.length cap) l.length (secCells l vs)
  len : vs.length = l.length
  bytes : ∀ i, i < l.length → ∃ bo c, vs.getD i undef = .slice bo (l.getD i (0, [])).2.length c ∧ Own N w (.slice bo (l.getD i (0, [])).2.length c) (l.getD i (0, [])).2

end Go.Proofs.YtpcgkjngpdplmaaGreatDoor


/-! The reference's New of a ring. (Printed by tools/gennew12.py.) -/
namespace Go.Proofs.YtpcgkjngpdplmaaGreatDoor
open Go.RowKit
set_option linter.unusedVariables false

/-- What is wrong with the secret number i, if anything. -/
def secE (l : Secs) (i : Nat) : Option Int :=
  if (l.getD i (0, [])).1 < 0 ∨ 63 < (l.getD i (0, [])).1 then some 2
  else if (l.getD i (0, [])).2.length < 1 ∨ 256 < (l.getD i (0, [])).2.length then some 4
  else if (fnd (l.take i) (l.getD i (0, [])).1).isSome then some 18 else none
/-- What is wrong with secrets, and with which one. -/
def newE (l : Secs) : Option (Int × Nat) :=
  if 64 < l.length then some (3, 64) else (List.range l.length).findSome? fun i => (secE l i).map fun e => (e, i)
theorem newE_many {l : Secs} (h : 64 < l.length) : newE l = some (3, 64) := by unfold newE; rw [if_pos h]
theorem range_findSome {α : Type} (f : Nat → Option α) : ∀ (n i : Nat), i < n → (∀ j, j < i → f j = none) → ∀ x, f i = some x → (List.range n).findSome? f = some x
  | 0, i, h, _, _, _ => absurd h (by omega)
  | n + 1, i, h, hj, x, hx => by
    rw [List.range_succ, List.findSome?_append]
    rcases Nat.lt_or_ge i n with h1 | h1
    · rw [range_findSome f n i h1 hj x hx]; rfl
    · obtain rfl : i = n := by omega
      have : (List.range i).findSome? f = none := by
        rw [List.findSome?_eq_none_iff]
        intro j h2
        exact hj j (by simpa using h2)
      rw [this]
      simp [hx]
theorem newE_at {l : Secs} (h : l.length ≤ 64) (i : Nat) (hi : i < l.length) (hj : ∀ j, j < i → secE l j = none) (e : Int) (he : secE l i = some e) : newE l = some (e, i) := by
  unfold newE
  rw [if_neg (by omega)]
  exact range_findSome _ _ i hi (fun j h2 => by rw [hj j h2]; rfl) _ (by rw [he]; rfl)
theorem newE_ok {l : Secs} (h : l.length ≤ 64) (hj : ∀ j, j < l.length → secE l j = none) : newE l = none := by
  unfold newE
  rw [if_neg (by omega), List.findSome?_eq_none_iff]
  intro j h2
  rw [hj j (by simpa using h2)]; rfl
theorem newE_none {l : Secs} (h : newE l = none) : l.length ≤ 64 ∧ ∀ j, j < l.length → secE l j = none := by
  unfold newE at h
  by_cases h1 : 64 < l.length
  · rw [if_pos h1] at h; cases h
  · rw [if_neg h1, List.findSome?_eq_none_iff] at h
    refine ⟨by omega, fun j hj => ?_⟩
    have := h j (by simpa using hj)
    simpa using this
theorem take_push (l : Secs) (k : Nat) (h : k < l.length) : l.take (k + 1) = l.take k ++ [((l.getD k (0, [])).1, (l.getD k (0, [])).2)] := by
  rw [List.take_add_one, List.getElem?_eq_getElem h, List.getD_eq_getElem?_getD, List.getElem?_eq_getElem h]; rfl

/-- Secrets that are handed in. -/
structure SecIn (w : World) (B off : Nat) (vs : List Value) (l : Secs) : Prop where
  key : ∀ i, i < l.length → w.cell? ⟨B, off + i * 2, none⟩ = some (.int .i64 (l.getD i (0, [])).1)
  sl : ∀ i, i < l.length → w.cell? ⟨B, off + i * 2 + 1, none⟩ = some (vs.getD i undef)
  bytes : ∀ i, i < l.length → ∃ bo c, vs.getD i undef = .slice bo (l.getD i (0, [])).2.length c ∧ IsB w bo (l.getD i (0, [])).2 ∧ (l.getD i (0, [])).2.length ≤ c ∧ (bo = none → c = 0)
theorem SecIn.keep {w w' : World} {B off : Nat} {vs : List Value} {l : Secs} (h : SecIn w B off vs l) (hb : Below w.heap.size w w') : SecIn w' B off vs l where
  key i hi := (hb.cell (cell_lt (h.key i hi))).trans (h.key i hi)
  sl i hi := (hb.cell (cell_lt (h.sl i hi))).trans (h.sl i hi)
  bytes i hi := by
    obtain ⟨bo, c, e, hb2, h1, h2⟩ := h.bytes i hi
    exact ⟨bo, c, e, hb2.below hb (Nat.le_refl _), h1, h2⟩

/-- While a secret is taken in. -/
structure NX (N : Nat) (W0 : World) (g : Nat) (ao : Option Addr) (cap : Nat) (vs : List Value) (l : Secs) (k : Int) (b : List By) (l16 l17 l18 l19 l22 : Bool) (x76 x77 x78 x79 : Value) (W : World) : Prop where
  c22 : l22 = true → l19 = true
  c19 : l19 = true → l18 = true
  c18 : l18 = true → l17 = true
  c17 : l17 = true → l16 = true
  bel : Below N W0 W
  pre : l19 = false → Below W0.heap.size W0 W
  e0 : l16 = false → Own W0.heap.size W (.slice (some ⟨W0.heap.size, 0, none⟩) 0 0) []
  p16 : l16 = true → l19 = false → ∃ bo c, x76 = .slice bo b.length c ∧ Own W0.heap.size W (.slice bo b.length c) b ∧ (l17 = true → x77 = .agg #[.int .i64 k, .slice bo b.length c]) ∧ (l18 = true → ∃ B, x78 = .slice (some ⟨B, 0, none⟩) 1 1 ∧ Row W B 79 [.int .i64 k, .slice bo b.length c])
  p19 : l19 = true → l22 = false → ∃ ao' cap' bo c w0, x79 = .slice ao' (l.length + 1) cap' ∧ RgO N w0 g ao cap vs l ∧ Own N w0 (.slice bo b.length c) b ∧ W.ownsRow N 79 2 (.slice ao' (l.length + 1) cap') (l.length + 1) (secCells l vs ++ [.int .i64 k, .slice bo b.length c]) ∧ w0.heap.size ≤ W.heap.size ∧ ∀ j, j < w0.heap.size → (∀ q, ao = some ⟨q, 0, none⟩ → j ≠ q) → W.heap[j]? = w0.heap[j]?
  p22 : l22 = true → ∃ ao' cap' vs', RgO N W g ao' cap' vs' (l ++ [(k, b)])
section
variable {N : Nat} {W0 : World} {g : Nat} {ao : Option Addr} {cap : Nat} {vs : List Value} {l : Secs} {k : Int} {b : List By} {l16 l17 l18 l19 l22 : Bool} {x76 x77 x78 x79 : Value} {W : World}
end

section
variable {W1 : World} {N : Nat} {W0 : World} {g : Nat} {ao : Option Addr} {cap : Nat} {vs : List Value} {l : Secs} {k : Int} {b : List By} {B off n cp ki bc : Nat} {bo : Option Addr} {L : Nat → Bool} {x60 x61 x62 x63 x64 x65 x66 x67 x68 x69 x70 x71 x72 x73 x74 x75 x76 x77 x78 x79 x80 x81 : Value} {W W2 : World}
end
end Go.Proofs.YtpcgkjngpdplmaaGreatDoor


/-! Two hashes held against each other; a whole row loaded where a guard lets it. -/
namespace Go.Proofs.YtpcgkjngpdplmaaGreatDoor
open Go.RowKit
set_option linter.unusedVariables false
set_option maxRecDepth 100000

def hashLits (bs : List By) : List Lit := ((List.range 32).map fun i => [Lit.int .u8 ((bs.getD i 0).toNat : Int)]).flatten
theorem hash_key_at (bs : List By) (hl : bs.length = 32) : Tryz.prog.keyLits 2 37 (bs.map B8) = some (hashLits bs) := by
  have hu : Tryz.prog.underlying 37 = some (.array 32 5) := Tryz.underlying37
  unfold Program.keyLits
  simp only [hu]
  rw [if_pos (by rw [Tryz.cells37, List.length_map, hl])]
  rw [mapM_some (fun i => [Lit.int .u8 ((bs.getD i 0).toNat : Int)])]
  · rfl
  · intro i hi
    rw [List.mem_range] at hi
    have e : ((bs.map B8).drop (i * Tryz.prog.cellsOf 5)).take (Tryz.prog.cellsOf 5) = [.int .u8 ((bs.getD i 0).toNat : Int)] := by
      rw [Tryz.cells5, Nat.mul_one, List.drop_eq_getElem_cons (by rw [List.length_map, hl]; exact hi)]
      simp [B8, hl, hi]
    rw [e]
    unfold Program.keyLits
    have h8 := b8_lt (bs.getD i 0)
    simp only [Tryz.underlying5]
    rw [if_pos ⟨trivial, WalkArith.wf_u8 (by omega)⟩]
theorem flat_onei {α β : Type} (g : α → β) : ∀ l : List α, (l.map fun i => [g i]).flatten = l.map g
  | [] => rfl
  | x :: l => by simp [flat_onei g l]
theorem hashLits_inj {a b : List By} (ha : a.length = 32) (hb : b.length = 32) (h : hashLits a = hashLits b) : a = b := by
  unfold hashLits at h
  rw [flat_onei (fun i => Lit.int .u8 ((a.getD i 0).toNat : Int)), flat_onei (fun i => Lit.int .u8 ((b.getD i 0).toNat : Int)), List.map_inj_left] at h
  refine List.ext_getElem (by rw [ha, hb]) fun i h1 h2 => ?_
  have := h i (by rw [List.mem_range]; omega)
  rw [getD_lt h1, getD_lt h2] at this
  injection this with _ e
  exact BitVec.eq_of_toNat_eq (by omega)
theorem wpList_load_whole_g {ops : Array Oper} {rest : List Oper} {op : Oper} {a : Act} {w : World} {Q : Exit → Act → World → Prop} (hw : Region.wanted op (yielded ops a.tmps) = true) (ty : TypeId) (x : Operand) (ho : op.op = .load ty x)
    (g t n : Nat) (cs : List Value) (hr : Row w g t cs) (hx : a.eval x = .pointer (some ⟨g, 0, none⟩)) (d : TypeDesc) (hn : cs.length = n)
    (hu : Tryz.prog.underlying ty = some d) (hd : d.isRow = true) (hi : (Tryz.prog.info? ty).map (·.size) = some n)
    (h : wpList Tryz.prog ops Q rest (a.put op.dst (.agg cs.toArray)) w) : wpList Tryz.prog ops Q (op :: rest) a w := by
  refine wpList_step fun K hK => ?_
  rw [if_pos hw]
  exact wp_load_mid ty x ho g 0 hx _ d (by have := hr.range 0 cs.length; simpa using this) hu hd (by rw [hn]; exact hi) (hK _ _ h)
end Go.Proofs.YtpcgkjngpdplmaaGreatDoor


/-! Two hashes held against each other; the reference's Check. -/
namespace Go.Proofs.YtpcgkjngpdplmaaGreatDoor
open Go.RowKit
set_option linter.unusedVariables false

end Go.Proofs.YtpcgkjngpdplmaaGreatDoor


/-! The document's model as data: states, answers, what a step may do, which answers are explained. -/
namespace Go.Proofs.YtpcgkjngpdplmaaGreatDoor
open Go.RowKit
set_option linter.unusedVariables false

/-- A state of the model. (An area: the number of the step whose bytes lie there, and 1; 0: nothing.) -/
structure MS where
  num : List Int
  rev : List Bool
  a0 : Nat
  a1 : Nat
  first : Nat
  has : Bool
  slot : Nat
  ver : Nat
  ev : Nat
  rom : Bool
  pow : Bool
/-- A step, an answer. -/
structure SP where
  kind : Int
  n : Int
  v : Int
  b : List By
structure AN where
  e : Int
  v : Int
  is : Bool
  h : List By

abbrev zH : List By := List.replicate 32 0
def Cfg.last (c : Cfg) : Int := c.step * c.fuses + c.step - 1
/-- A state's cells. -/
def stC (s : MS) : List Value := s.num.map (Value.int .i64) ++ (s.rev.map Value.bool ++ [.int .i64 (s.a0 : Int), .int .i64 (s.a1 : Int), .int .i64 (s.first : Int), .bool s.has, .int .i64 (s.slot : Int), .int .i64 (s.ver : Int), .int .i64 (s.ev : Int), .bool s.rom, .bool s.pow])
theorem stC_one (s : MS) : ∀ v ∈ stC s, v.oneCell' = true := by
  intro v hv
  simp only [stC, List.mem_append, List.mem_map, List.mem_cons, List.not_mem_nil, or_false] at hv
  rcases hv with ⟨x, _, rfl⟩ | ⟨x, _, rfl⟩ | rfl | rfl | rfl | rfl | rfl | rfl | rfl | rfl | rfl <;> rfl
theorem append_len_inj {α : Type} {a b c d : List α} (h : a ++ b = c ++ d) (hl : a.length = c.length) : a = c ∧ b = d := List.append_inj h hl
theorem int_map_inj : ∀ {a b : List Int}, a.map (Value.int .i64) = b.map (Value.int .i64) → a = b
  | [], [], _ => rfl
  | [], _ :: _, h => by simp at h
  | _ :: _, [], h => by simp at h
  | x :: a, y :: b, h => by
    simp only [List.map_cons, List.cons.injEq, Value.int.injEq, true_and] at h
    rw [h.1, int_map_inj h.2]
/-- An answer's cells. -/
def anC (a : AN) (acts : Int) : List Value := [Value.int .i64 a.e, .int .i64 a.v, .bool a.is] ++ (a.h.map B8 ++ [.int .i64 acts])
theorem anC_len {a : AN} {acts : Int} (h : a.h.length = 32) : (anC a acts).length = 36 := by simp [anC, h]
theorem anC_one (a : AN) (acts : Int) : ∀ v ∈ anC a acts, v.oneCell' = true := by
  intro v hv
  simp only [anC, List.mem_append, List.mem_cons, List.not_mem_nil, or_false] at hv
  rcases hv with (rfl | rfl | rfl) | hv | rfl
  · rfl
  · rfl
  · rfl
  · exact B8_one a.h v hv
  · rfl
end Go.Proofs.YtpcgkjngpdplmaaGreatDoor
