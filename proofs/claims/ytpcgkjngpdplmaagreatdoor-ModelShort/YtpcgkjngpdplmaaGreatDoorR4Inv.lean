import Derived.Test.YtpcgkjngpdplmaaGreatDoorMem
import Derived.Test.YtpcgkjngpdplmaaGreatDoorRows
import Derived.WalkKit
import Derived.WalkSpells
import Derived.WalkLawsBesides
import Derived.Deep.QuietTactic
import Derived.BigQuiet
import Derived.Laws.ResultCell
import Derived.Deep.RegionHeld3
import Derived.Deep.RegionLaw
import Derived.BigRegion
import Derived.Deep.AppendLies
import Derived.Laws.AppendOwnNone
import Derived.Deep.CutBlock
import Derived.Deep.DeepCutAuto
import Derived.DeepKeys
import Derived.StillTactics

/-! The document's chip, as plain data, and where the reference's chip lies in memory. -/
namespace Go.Proofs.YtpcgkjngpdplmaaGreatDoor
open Go.RowKit

structure Cfg where
  cells : Int
  slots : Int
  fuses : Int
  step : Int
  keys : Int
  erases : Int
  area : Int
def Cfg.vals (c : Cfg) : List Value := [.int .i64 c.cells, .int .i64 c.slots, .int .i64 c.fuses, .int .i64 c.step, .int .i64 c.keys, .int .i64 c.erases, .int .i64 c.area]

/-- A chip: its config, what it holds, how many acts were done, whether the power is gone, which act to come it goes at (below 0: none), with which mask. -/
structure RS where
  c : Cfg
  pages : List (List (List By))
  erases : List Int
  blown : List Bool
  n : Int
  gone : Bool
  wait : Int
  mask : List By

/-- Where it lies. -/
structure RF where
  g : Nat
  pB : Nat
  pcap : Nat
  eB : Nat
  ecap : Nat
  bB : Nat
  bcap : Nat
  ps : List (Nat × Nat)
  mo : Option Addr
  mcap : Nat
  mb : Option Nat
end Go.Proofs.YtpcgkjngpdplmaaGreatDoor


/-! The reference's chip: at, fuse, act, bits, Restore, Blown, Erases. -/
namespace Go.Proofs.YtpcgkjngpdplmaaGreatDoor
open Go.RowKit

end Go.Proofs.YtpcgkjngpdplmaaGreatDoor


/-! The reference's chip: act, bits, Restore, Blown, Erases. -/
namespace Go.Proofs.YtpcgkjngpdplmaaGreatDoor
open Go.RowKit

end Go.Proofs.YtpcgkjngpdplmaaGreatDoor


/-! Cells of 32 bytes within a page; whole arrays loaded and stored. -/
namespace Go.Proofs.YtpcgkjngpdplmaaGreatDoor
open Go.RowKit

theorem row_whole {w : World} {g t : Nat} {old new : List Value} (h : Row w g t (old.take 0 ++ new ++ old.drop (0 + new.length))) (hl : old.length ≤ new.length) : Row w g t new := by
  rw [List.take_zero, List.nil_append, Nat.zero_add, List.drop_eq_nil_of_le hl, List.append_nil] at h; exact h
theorem wpList_load_part {P : Program} {ops : Array Oper} {rest : List Oper} {op : Oper} {a : Act} {w : World} {Q : Exit → Act → World → Prop} (hgd : op.guard = none) (ty : TypeId) (x : Operand) (ho : op.op = .load ty x)
    (g o t n : Nat) (cs : List Value) (hr : Row w g t cs) (hx : a.eval x = .pointer (some ⟨g, o, none⟩)) (d : TypeDesc) (cs' : List Value) (hcs : (cs.drop o).take n = cs') (hn : cs'.length = n)
    (hu : P.underlying ty = some d) (hd : d.isRow = true) (hi : (P.info? ty).map (·.size) = some n)
    (h : wpList P ops Q rest (a.put op.dst (.agg cs'.toArray)) w) : wpList P ops Q (op :: rest) a w := by
  subst hcs
  exact wpList_load_mid hgd ty x ho g o hx _ d (hr.range o n) hu hd (by rw [hn]; exact hi) h

end Go.Proofs.YtpcgkjngpdplmaaGreatDoor


namespace Go.Proofs.YtpcgkjngpdplmaaGreatDoor
open Go.RowKit

end Go.Proofs.YtpcgkjngpdplmaaGreatDoor


/-! A byte of a cell written; a fuse, a count written. -/
namespace Go.Proofs.YtpcgkjngpdplmaaGreatDoor
open Go.RowKit

end Go.Proofs.YtpcgkjngpdplmaaGreatDoor


/-! The reference's Program. -/
namespace Go.Proofs.YtpcgkjngpdplmaaGreatDoor
open Go.RowKit

theorem bv8_ofInt (x : By) : BitVec.ofInt 8 (x.toNat : Int) = x := by
  rw [BitVec.ofInt_natCast, BitVec.ofNat_toNat, BitVec.setWidth_eq]
theorem bits8_or (x y : By) : bits .or .u8 (x.toNat : Int) (y.toNat : Int) = ((x ||| y).toNat : Int) := by
  show IntKind.u8.wrap ((BitVec.ofInt 8 (x.toNat : Int) ||| BitVec.ofInt 8 (y.toNat : Int)).toNat : Int) = _
  rw [bv8_ofInt, bv8_ofInt, IntKind.wrap_u8']
  have := b8_lt (x ||| y)
  omega
end Go.Proofs.YtpcgkjngpdplmaaGreatDoor


/-! The reference's Blow. -/
namespace Go.Proofs.YtpcgkjngpdplmaaGreatDoor
open Go.RowKit

end Go.Proofs.YtpcgkjngpdplmaaGreatDoor


/-! The reference's Erase. -/
namespace Go.Proofs.YtpcgkjngpdplmaaGreatDoor
open Go.RowKit

end Go.Proofs.YtpcgkjngpdplmaaGreatDoor


namespace Go.Proofs.YtpcgkjngpdplmaaGreatDoor
open Go.RowKit

end Go.Proofs.YtpcgkjngpdplmaaGreatDoor


/-! Bytes in a slice; append onto an own slice of bytes. -/
namespace Go.Proofs.YtpcgkjngpdplmaaGreatDoor
open Go.RowKit
set_option maxRecDepth 100000

/-- The slice value holds these bytes. -/
def IsB (w : World) (ao : Option Addr) (m : List By) : Prop :=
  m = [] ∨ ∃ B off, ao = some ⟨B, off, none⟩ ∧ ∀ j v, m[j]? = some v → w.cell? ⟨B, off + j, none⟩ = some (B8 v)

/-- What the walk knows of the row that it appends to. -/
def Own (N : Nat) (w : World) (v : Value) (m : List By) : Prop := w.ownsRow N 5 1 v m.length (m.map B8) ∧ N ≤ w.heap.size

theorem IsB.below {w w' : World} {ao : Option Addr} {m : List By} {N : Nat} (h : IsB w ao m) (hb : Below N w w') (hN : w.heap.size ≤ N) : IsB w' ao m := by
  rcases h with h | ⟨B, off, rfl, hc⟩
  · exact .inl h
  · refine .inr ⟨B, off, rfl, fun j v hj => ?_⟩
    have h1 := hc j v hj
    rw [hb.cell (p := ⟨B, off + j, none⟩) (by have := block_lt_of_cell h1; simp at this ⊢; omega)]
    exact h1

theorem own_cap {N : Nat} {w : World} {ao : Option Addr} {n c : Nat} {m : List By} (h : Own N w (.slice ao n c) m) : n ≤ c := by
  rcases h.1.2 with ⟨e, _⟩ | ⟨g, cap, cur, e, _, _, h4, _⟩
  · injection e with e1 e2 e3; omega
  · injection e with e1 e2 e3; omega
theorem own_nil (N : Nat) (w : World) (h : N ≤ w.heap.size) : Own N w (.slice none 0 0) [] := ⟨World.ownsRow_nil _ _ _ _, h⟩
theorem own_isb {N : Nat} {w : World} {ao : Option Addr} {n c : Nat} {m : List By} (h : Own N w (.slice ao n c) m) :
    m.length = n ∧ (ao = none → c = 0) ∧ m.length ≤ c ∧ (m = [] ∨ ∃ B off, ao = some ⟨B, off, none⟩ ∧ N ≤ B ∧ B < w.heap.size ∧ ∀ j v, m[j]? = some v → w.cell? ⟨B, off + j, none⟩ = some (B8 v)) := by
  have h1 := h.1
  rcases h.1.2 with ⟨e, e2⟩ | ⟨g, cap, cur, e, h2, h3, h4, _⟩
  · injection e with e1 e3 e4
    subst e4
    refine ⟨by omega, fun _ => rfl, by omega, .inl (List.length_eq_zero_iff.1 e2)⟩
  · injection e with e1 e3 e4
    subst e1
    subst e4
    refine ⟨e3.symm, (fun hh => by cases hh), h4, .inr ⟨g, 0, rfl, h2, (h1.lt g rfl).2, ?_⟩⟩
    intro j v hj
    have hjl : j < m.length := (List.getElem?_eq_some_iff.1 hj).1
    subst e3
    rw [Nat.zero_add, h1.cellAt j (by omega), List.getElem?_map, hj]; rfl

theorem own_IsB {N : Nat} {w : World} {ao : Option Addr} {n c : Nat} {m : List By} (h : Own N w (.slice ao n c) m) : IsB w ao m := by
  rcases (own_isb h).2.2.2 with h1 | ⟨B, off, h1, _, _, h2⟩
  · exact .inl h1
  · exact .inr ⟨B, off, h1, h2⟩
/-- What leaves all blocks from N on alone that are there leaves the row. -/
theorem Own.keep {N : Nat} {w w' : World} {v : Value} {m : List By} (h : Own N w v m) (hb : Below w.heap.size w w') : Own N w' v m := by
  refine ⟨⟨h.1.1, ?_⟩, Nat.le_trans h.2 hb.size⟩
  rcases h.1.2 with hn | ⟨g, cap, cur, e, h1, h2, h3⟩
  · exact .inl hn
  · refine .inr ⟨g, cap, cur, e, h1, ?_, h3⟩
    have hl : g < w.heap.size := (Array.getElem?_eq_some_iff.1 h2).1
    exact (hb.block g hl).trans h2
end Go.Proofs.YtpcgkjngpdplmaaGreatDoor


/-! The reference's Cut; within, May, Blank. -/
namespace Go.Proofs.YtpcgkjngpdplmaaGreatDoor
open Go.RowKit

end Go.Proofs.YtpcgkjngpdplmaaGreatDoor


/-! The reference's within, May, Blank. -/
namespace Go.Proofs.YtpcgkjngpdplmaaGreatDoor
open Go.RowKit

/-- May a config be? -/
def Cfg.a (c : Cfg) : Bool := decide (1 ≤ c.slots ∧ c.slots ≤ 8) && (decide (c.slots + 3 ≤ c.cells ∧ c.cells ≤ 256) && (decide (1 ≤ c.fuses ∧ c.fuses ≤ 64) && decide (1 ≤ c.step ∧ c.step ≤ 65536)))
def Cfg.b (c : Cfg) : Bool := decide (1 ≤ c.keys ∧ c.keys ≤ 64) && (decide (0 ≤ c.erases ∧ c.erases ≤ 65536) && decide (0 ≤ c.area ∧ c.area ≤ 64))
def Cfg.may (c : Cfg) : Int := if c.a && c.b then 0 else 1

end Go.Proofs.YtpcgkjngpdplmaaGreatDoor


/-! What a chip holds, read; the reference's SameState. -/
namespace Go.Proofs.YtpcgkjngpdplmaaGreatDoor
open Go.RowKit

/-- What a chip holds. -/
structure St where
  pages : List (List (List By))
  erases : List Int
  blown : List Bool
/-- The three slices of an api.Chip. -/
structure SV where
  po : Option Addr
  pc : Nat
  eo : Option Addr
  ec : Nat
  bo : Option Addr
  bc : Nat
theorem mapM_some {α β : Type} {f : α → Option β} (g : α → β) : ∀ (l : List α), (∀ x ∈ l, f x = some (g x)) → l.mapM f = some (l.map g)
  | [], _ => rfl
  | x :: l, h => by
    rw [List.mapM_cons, h x (by simp), mapM_some g l (fun y hy => h y (by simp [hy]))]
    rfl
def keyOf (bs : List By) : List Lit := ((List.range 32).map fun i => [Lit.int .u8 ((bs.getD i 0).toNat : Int)]).flatten
end Go.Proofs.YtpcgkjngpdplmaaGreatDoor


namespace Go.Proofs.YtpcgkjngpdplmaaGreatDoor
open Go.RowKit

end Go.Proofs.YtpcgkjngpdplmaaGreatDoor


/-! append(dst, src...) onto an own (or nil) slice of any element type. -/
namespace Go.Proofs.YtpcgkjngpdplmaaGreatDoor
open Go.RowKit

/-- What is known of a slice type and its elements. -/
structure ElT (T e size bytes : Nat) (z : Value) : Prop where
  und : Tryz.prog.underlying T = some (.slice e)
  info : (Tryz.prog.info? e).map (fun i => (i.zero, i.size, i.bytes)) = some (some z, size, bytes)
  zs : z.cells.size = size
  pos : 0 < size

end Go.Proofs.YtpcgkjngpdplmaaGreatDoor


/-! The reference's Blank, Fits. -/
namespace Go.Proofs.YtpcgkjngpdplmaaGreatDoor
open Go.RowKit
set_option linter.unusedVariables false

end Go.Proofs.YtpcgkjngpdplmaaGreatDoor


/-! A drawn region by an invariant over what has come up: one step an operation, whatever the number of orders. -/
namespace Go.Proofs.YtpcgkjngpdplmaaGreatDoor
open Go.RowKit

def onesOf (o : Oper) : List Nat := (o.after.toList.filter (Region.binds .any)).map (·.on)

/-- Each operation waits for earlier ones alone. -/
def dagB (ops : Array Oper) : Bool := (List.range ops.size).all fun i => ((ops[i]?).map fun o => (onesOf o).all (· < i)).getD true

/-- 'L' with number 'i' besides. -/
def upd (L : Nat → Bool) (i : Nat) : Nat → Bool := fun j => if j = i then true else L j

/-- One operation keeps the invariant. -/
def StepI (P : Program) (ops : Array Oper) (I : (Nat → Bool) → Act → World → Prop) (Q : Exit → Act → World → Prop) (i : Nat) (o : Oper) : Prop :=
  ∀ (L : Nat → Bool) (a : Act) (w : World), I L a w → L i = false → (∀ j ∈ onesOf o, L j = true) → ∀ K : Act → World → Prop, Shut (∀ a' w', I (upd L i) a' w' → K a' w') →
    if Region.wanted o (yielded ops a.tmps) = true then Oper.wp P o a w K Q else K (a.put o.dst undef) w

/-- All operations of a list, the first of them number 'n'. -/
def StepsI (P : Program) (ops : Array Oper) (I : (Nat → Bool) → Act → World → Prop) (Q : Exit → Act → World → Prop) : Nat → List Oper → Prop
  | _, [] => True
  | n, o :: r => StepI P ops I Q n o ∧ StepsI P ops I Q (n + 1) r

theorem StepsI.at {P : Program} {ops : Array Oper} {I : (Nat → Bool) → Act → World → Prop} {Q : Exit → Act → World → Prop} : ∀ (l : List Oper) (n : Nat), StepsI P ops I Q n l → ∀ (i : Nat) (o : Oper), l[i]? = some o → StepI P ops I Q (n + i) o
  | [], _, _, _, _, h => by simp at h
  | x :: r, n, hs, 0, o, h => by
    simp at h; subst h; exact hs.1
  | x :: r, n, hs, i + 1, o, h => by
    have := StepsI.at r (n + 1) hs.2 i o (by simpa using h)
    rw [show n + (i + 1) = n + 1 + i by omega]; exact this

def asL (l : Array Bool) : Nat → Bool := fun j => l.getD j false

theorem asL_set (l : Array Bool) (i : Nat) (h : i < l.size) : asL (l.setIfInBounds i true) = upd (asL l) i := by
  funext j
  unfold asL upd
  by_cases hj : j = i
  · subst hj; simp [h]
  · rw [if_neg hj, getD_set_ne false (fun e => hj e.symm)]

theorem wp_region_inv {P : Program} {ops : Array Oper} {Q : Exit → Act → World → Prop} {id : Nat} {a : Act} {w : World} (I : (Nat → Bool) → Act → World → Prop) (hm : P.follows .mixedOrders = true) (hd : dagB ops = true)
    (h0 : I (fun _ => false) a w.drew) (hs : StepsI P ops I Q 0 ops.toList) (he : ∀ L a' w', (∀ j, j < ops.size → L j = true) → I L a' w' → Q .normal a' w') : (Code.region id ops true).wp P Q a w := by
  have hall : ∀ l : Array Bool, l.size = ops.size → Region.ready .any ops l = [] → ∀ j, j < ops.size → asL l j = true := by
    intro l hl hr j
    induction j using Nat.strongRecOn with
    | _ j ih =>
      intro hj
      cases hb : asL l j with
      | true => rfl
      | false =>
        exfalso
        have hm : j ∈ Region.ready .any ops l := by
          rw [mem_ready]
          refine ⟨?_, ops[j], Array.getElem?_eq_getElem hj, fun e hme hbe => ?_⟩
          · unfold asL at hb
            simp [hl, hj] at hb ⊢; exact hb
          · have h1 : e.on ∈ onesOf ops[j] := by
              unfold onesOf
              exact List.mem_map.2 ⟨e, List.mem_filter.2 ⟨by simpa using hme, hbe⟩, rfl⟩
            unfold dagB at hd
            rw [List.all_eq_true] at hd
            have h2 := hd j (List.mem_range.2 hj)
            rw [Array.getElem?_eq_getElem hj] at h2
            simp only [Option.map_some, Option.getD_some, List.all_eq_true, decide_eq_true_eq] at h2
            have h3 := h2 _ h1
            exact ih _ h3 (by omega)
        rw [hr] at hm; cases hm
  have hmain : ∀ (fuel : Nat) (l : Array Bool) (a : Act) (w : World), l.size = ops.size → (l.toList.filter (! ·)).length ≤ fuel → I (asL l) a w → wpAny P .any ops Q fuel l a w := by
    intro fuel
    induction fuel with
    | zero =>
      intro l a w hl hc hI
      have hr : Region.ready .any ops l = [] := by
        apply List.eq_nil_iff_forall_not_mem.2
        intro j hj
        obtain ⟨h1, o, ho, _⟩ := mem_ready.1 hj
        have hlt : j < l.size := by rw [hl]; exact (Array.getElem?_eq_some_iff.1 ho).1
        have : l[j] ∈ l.toList.filter (! ·) := List.mem_filter.2 ⟨by simp, by simp [hlt] at h1; simp [h1]⟩
        have h2 := List.length_pos_of_mem this
        omega
      exact ⟨hr, he _ _ _ (hall l hl hr) hI⟩
    | succ fuel ih =>
      intro l a w hl hc hI
      refine ⟨fun hr => he _ _ _ (hall l hl hr) hI, fun i hi => ?_⟩
      obtain ⟨h1, o, ho, h2⟩ := mem_ready.1 hi
      have hlt : i < l.size := by rw [hl]; exact (Array.getElem?_eq_some_iff.1 ho).1
      have hfi : asL l i = false := by unfold asL; simp [hlt] at h1 ⊢; exact h1
      have hst := StepsI.at ops.toList 0 hs i o (by simpa using ho)
      rw [Nat.zero_add] at hst
      refine wpOp_step ho fun K hK => hst (asL l) a w hI hfi ?_ K ?_
      · intro j hj
        unfold onesOf at hj
        obtain ⟨e, hme, rfl⟩ := List.mem_map.1 hj
        obtain ⟨h3, h4⟩ := List.mem_filter.1 hme
        exact h2 e (by simpa using h3) h4
      · intro a' w' hI'
        refine hK a' w' (ih _ a' w' (by simpa using hl) ?_ (by rw [asL_set l i hlt]; exact hI'))
        have h5 : l[i] = false := by simp [hlt] at h1; exact h1
        have h6 : ((l.setIfInBounds i true).toList.filter (! ·)).length + 1 ≤ (l.toList.filter (! ·)).length := by
          rw [Array.toList_setIfInBounds]
          clear hI' hK hI hst hfi hc hl h2
          have h7 : l.toList[i]? = some false := by simp [hlt, h5]
          generalize l.toList = ll at h7 ⊢
          clear hi h1 h5 hlt ho
          induction ll generalizing i with
          | nil => simp at h7
          | cons y r ihl =>
            cases i with
            | zero => simp at h7; subst h7; simp
            | succ i =>
              have := ihl i (by simpa using h7)
              cases y <;> simp at this ⊢ <;> omega
        omega
  refine wp_region_any hm ?_
  refine hmain _ _ _ _ (by simp) ?_ ?_
  · refine Nat.le_trans (List.length_filter_le _ _) (by simp)
  · have : asL (Array.replicate ops.size false) = fun _ => false := by
      funext j; unfold asL
      by_cases hj : j < ops.size <;> simp [hj]
    rw [this]; exact h0

/-- The invariant, once for each operation. -/
theorem StepsI.cons {P : Program} {ops : Array Oper} {I : (Nat → Bool) → Act → World → Prop} {Q : Exit → Act → World → Prop} {n : Nat} {o : Oper} {r : List Oper} (h : StepI P ops I Q n o) (hr : StepsI P ops I Q (n + 1) r) : StepsI P ops I Q n (o :: r) := ⟨h, hr⟩
theorem StepsI.nil {P : Program} {ops : Array Oper} {I : (Nat → Bool) → Act → World → Prop} {Q : Exit → Act → World → Prop} {n : Nat} : StepsI P ops I Q n [] := trivial
end Go.Proofs.YtpcgkjngpdplmaaGreatDoor
