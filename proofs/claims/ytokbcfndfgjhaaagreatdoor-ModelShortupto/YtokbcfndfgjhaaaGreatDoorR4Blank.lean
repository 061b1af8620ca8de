import Derived.Test.YtokbcfndfgjhaaaGreatDoorMem
import Derived.Test.YtokbcfndfgjhaaaGreatDoorRows
import Derived.WalkKit
import Derived.WalkSpells
import Derived.WalkLawsBesides
import Derived.Deep.QuietTactic
import Derived.BigQuiet
import Derived.Laws.ResultCell
import Derived.Deep.RegionHeld3
import Derived.Deep.RegionLaw
import Derived.BigRegion
import Derived.Deep.AppendLies
import Derived.Laws.AppendOwnNone
import Derived.Deep.CutBlock
import Derived.Deep.DeepCutAuto
import Derived.DeepKeys
import Derived.StillTactics

/-! The document's chip, as plain data, and where the reference's chip lies in memory. -/
namespace Go.Proofs.YtokbcfndfgjhaaaGreatDoor
open Go.RowKit

structure Cfg where
  cells : Int
  slots : Int
  fuses : Int
  step : Int
  keys : Int
  erases : Int
  area : Int
def Cfg.vals (c : Cfg) : List Value := [.int .i64 c.cells, .int .i64 c.slots, .int .i64 c.fuses, .int .i64 c.step, .int .i64 c.keys, .int .i64 c.erases, .int .i64 c.area]

/-- A chip: its config, what it holds, how many acts were done, whether the power is gone, which act to come it goes at (below 0: none), with which mask. -/
structure RS where
  c : Cfg
  pages : List (List (List By))
  erases : List Int
  blown : List Bool
  n : Int
  gone : Bool
  wait : Int
  mask : List By

/-- Where it lies. -/
structure RF where
  g : Nat
  pB : Nat
  pcap : Nat
  eB : Nat
  ecap : Nat
  bB : Nat
  bcap : Nat
  ps : List (Nat × Nat)
  mo : Option Addr
  mcap : Nat
  mb : Option Nat
end Go.Proofs.YtokbcfndfgjhaaaGreatDoor


/-! The reference's chip: at, fuse, act, bits, Restore, Blown, Erases. -/
namespace Go.Proofs.YtokbcfndfgjhaaaGreatDoor
open Go.RowKit

end Go.Proofs.YtokbcfndfgjhaaaGreatDoor


/-! The reference's chip: act, bits, Restore, Blown, Erases. -/
namespace Go.Proofs.YtokbcfndfgjhaaaGreatDoor
open Go.RowKit

end Go.Proofs.YtokbcfndfgjhaaaGreatDoor


/-! Cells of 32 bytes within a page; whole arrays loaded and stored. -/
namespace Go.Proofs.YtokbcfndfgjhaaaGreatDoor
open Go.RowKit

theorem row_whole {w : World} {g t : Nat} {old new : List Value} (h : Row w g t (old.take 0 ++ new ++ old.drop (0 + new.length))) (hl : old.length ≤ new.length) : Row w g t new := by
  rw [List.take_zero, List.nil_append, Nat.zero_add, List.drop_eq_nil_of_le hl, List.append_nil] at h; exact h
theorem wpList_load_part {P : Program} {ops : Array Oper} {rest : List Oper} {op : Oper} {a : Act} {w : World} {Q : Exit → Act → World → Prop} (hgd : op.guard = none) (ty : TypeId) (x : Operand) (ho : op.op = .load ty x)
    (g o t n : Nat) (cs : List Value) (hr : Row w g t cs) (hx : a.eval x = .pointer (some ⟨g, o, none⟩)) (d : TypeDesc) (cs' : List Value) (hcs : (cs.drop o).take n = cs') (hn : cs'.length = n)
    (hu : P.underlying ty = some d) (hd : d.isRow = true) (hi : (P.info? ty).map (·.size) = some n)
    (h : wpList P ops Q rest (a.put op.dst (.agg cs'.toArray)) w) : wpList P ops Q (op :: rest) a w := by
  subst hcs
  exact wpList_load_mid hgd ty x ho g o hx _ d (hr.range o n) hu hd (by rw [hn]; exact hi) h

end Go.Proofs.YtokbcfndfgjhaaaGreatDoor


namespace Go.Proofs.YtokbcfndfgjhaaaGreatDoor
open Go.RowKit

end Go.Proofs.YtokbcfndfgjhaaaGreatDoor


/-! A byte of a cell written; a fuse, a count written. -/
namespace Go.Proofs.YtokbcfndfgjhaaaGreatDoor
open Go.RowKit

end Go.Proofs.YtokbcfndfgjhaaaGreatDoor


/-! The reference's Program. -/
namespace Go.Proofs.YtokbcfndfgjhaaaGreatDoor
open Go.RowKit

theorem bv8_ofInt (x : By) : BitVec.ofInt 8 (x.toNat : Int) = x := by
  rw [BitVec.ofInt_natCast, BitVec.ofNat_toNat, BitVec.setWidth_eq]
theorem bits8_or (x y : By) : bits .or .u8 (x.toNat : Int) (y.toNat : Int) = ((x ||| y).toNat : Int) := by
  show IntKind.u8.wrap ((BitVec.ofInt 8 (x.toNat : Int) ||| BitVec.ofInt 8 (y.toNat : Int)).toNat : Int) = _
  rw [bv8_ofInt, bv8_ofInt, IntKind.wrap_u8']
  have := b8_lt (x ||| y)
  omega
end Go.Proofs.YtokbcfndfgjhaaaGreatDoor


/-! The reference's Blow. -/
namespace Go.Proofs.YtokbcfndfgjhaaaGreatDoor
open Go.RowKit

end Go.Proofs.YtokbcfndfgjhaaaGreatDoor


/-! The reference's Erase. -/
namespace Go.Proofs.YtokbcfndfgjhaaaGreatDoor
open Go.RowKit

end Go.Proofs.YtokbcfndfgjhaaaGreatDoor


namespace Go.Proofs.YtokbcfndfgjhaaaGreatDoor
open Go.RowKit

end Go.Proofs.YtokbcfndfgjhaaaGreatDoor


/-! Bytes in a slice; append onto an own slice of bytes. -/
namespace Go.Proofs.YtokbcfndfgjhaaaGreatDoor
open Go.RowKit
set_option maxRecDepth 100000

/-- The slice value holds these bytes. -/
def IsB (w : World) (ao : Option Addr) (m : List By) : Prop :=
  m = [] ∨ ∃ B off, ao = some ⟨B, off, none⟩ ∧ ∀ j v, m[j]? = some v → w.cell? ⟨B, off + j, none⟩ = some (B8 v)

/-- What the walk knows of the row that it appends to. -/
def Own (N : Nat) (w : World) (v : Value) (m : List By) : Prop := w.ownsRow N 5 1 v m.length (m.map B8) ∧ N ≤ w.heap.size

theorem IsB.below {w w' : World} {ao : Option Addr} {m : List By} {N : Nat} (h : IsB w ao m) (hb : Below N w w') (hN : w.heap.size ≤ N) : IsB w' ao m := by
  rcases h with h | ⟨B, off, rfl, hc⟩
  · exact .inl h
  · refine .inr ⟨B, off, rfl, fun j v hj => ?_⟩
    have h1 := hc j v hj
    rw [hb.cell (p := ⟨B, off + j, none⟩) (by have := block_lt_of_cell h1; simp at this ⊢; omega)]
    exact h1

theorem own_cap {N : Nat} {w : World} {ao : Option Addr} {n c : Nat} {m : List By} (h : Own N w (.slice ao n c) m) : n ≤ c := by
  rcases h.1.2 with ⟨e, _⟩ | ⟨g, cap, cur, e, _, _, h4, _⟩
  · injection e with e1 e2 e3; omega
  · injection e with e1 e2 e3; omega
theorem own_nil (N : Nat) (w : World) (h : N ≤ w.heap.size) : Own N w (.slice none 0 0) [] := ⟨World.ownsRow_nil _ _ _ _, h⟩
theorem own_isb {N : Nat} {w : World} {ao : Option Addr} {n c : Nat} {m : List By} (h : Own N w (.slice ao n c) m) :
    m.length = n ∧ (ao = none → c = 0) ∧ m.length ≤ c ∧ (m = [] ∨ ∃ B off, ao = some ⟨B, off, none⟩ ∧ N ≤ B ∧ B < w.heap.size ∧ ∀ j v, m[j]? = some v → w.cell? ⟨B, off + j, none⟩ = some (B8 v)) := by
  have h1 := h.1
  rcases h.1.2 with ⟨e, e2⟩ | ⟨g, cap, cur, e, h2, h3, h4, _⟩
  · injection e with e1 e3 e4
    subst e4
    refine ⟨by omega, fun _ => rfl, by omega, .inl (List.length_eq_zero_iff.1 e2)⟩
  · injection e with e1 e3 e4
    subst e1
    subst e4
    refine ⟨e3.symm, (fun hh => by cases hh), h4, .inr ⟨g, 0, rfl, h2, (h1.lt g rfl).2, ?_⟩⟩
    intro j v hj
    have hjl : j < m.length := (List.getElem?_eq_some_iff.1 hj).1
    subst e3
    rw [Nat.zero_add, h1.cellAt j (by omega), List.getElem?_map, hj]; rfl

theorem own_IsB {N : Nat} {w : World} {ao : Option Addr} {n c : Nat} {m : List By} (h : Own N w (.slice ao n c) m) : IsB w ao m := by
  rcases (own_isb h).2.2.2 with h1 | ⟨B, off, h1, _, _, h2⟩
  · exact .inl h1
  · exact .inr ⟨B, off, h1, h2⟩
/-- What leaves all blocks from N on alone that are there leaves the row. -/
theorem Own.keep {N : Nat} {w w' : World} {v : Value} {m : List By} (h : Own N w v m) (hb : Below w.heap.size w w') : Own N w' v m := by
  refine ⟨⟨h.1.1, ?_⟩, Nat.le_trans h.2 hb.size⟩
  rcases h.1.2 with hn | ⟨g, cap, cur, e, h1, h2, h3⟩
  · exact .inl hn
  · refine .inr ⟨g, cap, cur, e, h1, ?_, h3⟩
    have hl : g < w.heap.size := (Array.getElem?_eq_some_iff.1 h2).1
    exact (hb.block g hl).trans h2
end Go.Proofs.YtokbcfndfgjhaaaGreatDoor


/-! The reference's Cut; within, May, Blank. -/
namespace Go.Proofs.YtokbcfndfgjhaaaGreatDoor
open Go.RowKit

end Go.Proofs.YtokbcfndfgjhaaaGreatDoor


/-! The reference's within, May, Blank. -/
namespace Go.Proofs.YtokbcfndfgjhaaaGreatDoor
open Go.RowKit

/-- May a config be? -/
def Cfg.a (c : Cfg) : Bool := decide (1 ≤ c.slots ∧ c.slots ≤ 8) && (decide (c.slots + 3 ≤ c.cells ∧ c.cells ≤ 256) && (decide (1 ≤ c.fuses ∧ c.fuses ≤ 64) && decide (1 ≤ c.step ∧ c.step ≤ 65536)))
def Cfg.b (c : Cfg) : Bool := decide (1 ≤ c.keys ∧ c.keys ≤ 64) && (decide (0 ≤ c.erases ∧ c.erases ≤ 65536) && decide (0 ≤ c.area ∧ c.area ≤ 64))
def Cfg.may (c : Cfg) : Int := if c.a && c.b then 0 else 1

end Go.Proofs.YtokbcfndfgjhaaaGreatDoor


/-! What a chip holds, read; the reference's SameState. -/
namespace Go.Proofs.YtokbcfndfgjhaaaGreatDoor
open Go.RowKit

/-- Values that lie in a row, one a cell. -/
def IsL (w : World) (ao : Option Addr) (vs : List Value) : Prop := vs = [] ∨ ∃ B off, ao = some ⟨B, off, none⟩ ∧ ∀ j v, vs[j]? = some v → w.cell? ⟨B, off + j, none⟩ = some v
/-- What a chip holds. -/
structure St where
  pages : List (List (List By))
  erases : List Int
  blown : List Bool
/-- The three slices of an api.Chip. -/
structure SV where
  po : Option Addr
  pc : Nat
  eo : Option Addr
  ec : Nat
  bo : Option Addr
  bc : Nat
theorem mapM_some {α β : Type} {f : α → Option β} (g : α → β) : ∀ (l : List α), (∀ x ∈ l, f x = some (g x)) → l.mapM f = some (l.map g)
  | [], _ => rfl
  | x :: l, h => by
    rw [List.mapM_cons, h x (by simp), mapM_some g l (fun y hy => h y (by simp [hy]))]
    rfl
def keyOf (bs : List By) : List Lit := ((List.range 32).map fun i => [Lit.int .u8 ((bs.getD i 0).toNat : Int)]).flatten
end Go.Proofs.YtokbcfndfgjhaaaGreatDoor


namespace Go.Proofs.YtokbcfndfgjhaaaGreatDoor
open Go.RowKit

end Go.Proofs.YtokbcfndfgjhaaaGreatDoor


/-! append(dst, src...) onto an own (or nil) slice of any element type. -/
namespace Go.Proofs.YtokbcfndfgjhaaaGreatDoor
open Go.RowKit

/-- What is known of a slice type and its elements. -/
structure ElT (T e size bytes : Nat) (z : Value) : Prop where
  und : Tryz.prog.underlying T = some (.slice e)
  info : (Tryz.prog.info? e).map (fun i => (i.zero, i.size, i.bytes)) = some (some z, size, bytes)
  zs : z.cells.size = size
  pos : 0 < size

theorem run_append_gen {T e size bytes : Nat} {z : Value} (E : ElT T e size bytes z) (N : Nat) (a0 w : World) (ty : TypeId) (aoD : Option Addr) (nD capD : Nat) (vs : List Value) (hown : w.ownsRow N e size (.slice aoD nD capD) nD vs) (hN : N ≤ w.heap.size) (hbel : Below N a0 w)
    (ao : Option Addr) (n cap : Nat) (news : List Value) (hn : news.length = n * size) (hb : IsL w ao news) (h1 : ∀ u ∈ news, u.oneCell' = true) (hnil : ao = none → cap = 0) (hm : nD + n ≤ maxLen) (hl : (nD + n) * bytes ≤ 140737488355328) :
    ∃ ao' cap' w', (Builtin.append_ #[T, T] ty #[.slice aoD nD capD, .slice ao n cap]).run Tryz.prog w = .ok (.slice ao' (nD + n) cap') w' ∧ w'.ownsRow N e size (.slice ao' (nD + n) cap') (nD + n) (vs ++ news) ∧ Below N a0 w' ∧ w.heap.size ≤ w'.heap.size ∧ (∀ k, k < w.heap.size → (∀ g, aoD = some ⟨g, 0, none⟩ → k ≠ g) → w'.heap[k]? = w.heap[k]?) := by
  obtain ⟨i0, hi, hz0, hz1, hz2⟩ := info_parts E.info
  have some_case : ∀ ad : Addr, (∀ j u, news[j]? = some u → w.cell? (ad.add j) = some u) → ∃ ao' cap' w', (Builtin.append_ #[T, T] ty #[.slice aoD nD capD, .slice (some ad) n cap]).run Tryz.prog w = .ok (.slice ao' (nD + n) cap') w' ∧ w'.ownsRow N e size (.slice ao' (nD + n) cap') (nD + n) (vs ++ news) ∧ Below N a0 w' ∧ w.heap.size ≤ w'.heap.size ∧ (∀ k, k < w.heap.size → (∀ g, aoD = some ⟨g, 0, none⟩ → k ≠ g) → w'.heap[k]? = w.heap[k]?) := by
    intro ad hnews
    obtain ⟨v', w', r1, r2, r3, _⟩ := run_append_own (P := Tryz.prog) w N T ty e i0 z size bytes E.und hi hz0 hz1 hz2 E.zs E.pos _ nD vs hown ad n cap news hn hnews h1 hm hl hN
    have hform : ∃ ao' cap', v' = .slice ao' (nD + n) cap' := by
      rcases r2.2 with ⟨e1, e0⟩ | ⟨g, c, cur, e1, _⟩
      · exact ⟨none, 0, by rw [e1, e0]⟩
      · exact ⟨_, _, e1⟩
    obtain ⟨ao', cap', rfl⟩ := hform
    refine ⟨ao', cap', w', r1, r2, hbel.grown r3 hN (fun k hk => (hown.lt k hk).1), r3.size, fun k hk hne => r3.block k hk (fun e1 => ?_)⟩
    rcases hown.2 with ⟨e2, _⟩ | ⟨g, c, cur, e2, _⟩
    · rw [e2] at e1; simp [Value.ownBlock] at e1
    · injection e2 with e2
      rw [e2] at e1
      simp [Value.ownBlock] at e1
      exact hne g e2 e1
  rcases hb with rfl | ⟨B, off, rfl, hc⟩
  · have hn0 : n = 0 := by
      have hp := E.pos
      have h0 : n * size = 0 := by simpa using hn.symm
      rcases Nat.mul_eq_zero.1 h0 with h | h
      · exact h
      · omega
    cases ao with
    | none =>
      rw [hnil rfl, hn0]
      refine ⟨aoD, capD, w, ?_, by simpa using hown, hbel, Nat.le_refl _, fun _ _ _ => rfl⟩
      have := run_append_owned_none (P := Tryz.prog) (w := w) N T ty e i0 size E.und hi _ nD vs hown
      simpa using this
    | some ad => exact some_case ad (by simp)
  · refine some_case _ ?_
    intro j u hu
    rw [Addr.add_mid]
    exact hc j u hu

end Go.Proofs.YtokbcfndfgjhaaaGreatDoor


/-! The reference's Blank, Fits. -/
namespace Go.Proofs.YtokbcfndfgjhaaaGreatDoor
open Go.RowKit
set_option linter.unusedVariables false

end Go.Proofs.YtokbcfndfgjhaaaGreatDoor
