import Derived.Test.YtcpdanjbnijoiaaDoorMem
import Derived.Test.YtcpdanjbnijoiaaDoorRows
import Derived.WalkKit
import Derived.WalkSpells
import Derived.WalkLawsBesides
import Derived.Deep.QuietTactic
import Derived.BigQuiet
import Derived.Laws.ResultCell

/-! The document's chip, as plain data, and where the reference's chip lies in memory. -/
namespace Go.Proofs.YtcpdanjbnijoiaaDoor
open Go.RowKit

structure Cfg where
  cells : Int
  slots : Int
  fuses : Int
  step : Int
  keys : Int
  erases : Int
  area : Int
def Cfg.vals (c : Cfg) : List Value := [.int .i64 c.cells, .int .i64 c.slots, .int .i64 c.fuses, .int .i64 c.step, .int .i64 c.keys, .int .i64 c.erases, .int .i64 c.area]

/-- A chip: its config, what it holds, how many acts were done, whether the power is gone, which act to come it goes at (below 0: none), with which mask. -/
structure RS where
  c : Cfg
  pages : List (List (List By))
  erases : List Int
  blown : List Bool
  n : Int
  gone : Bool
  wait : Int
  mask : List By

/-- The byte number i of a mask. -/
def bitsAt (m : List By) (i : Nat) : By := m.getD (i % m.length) 0
/-- Why a cell isn't there; why a fuse isn't there. -/
def RS.at (s : RS) (p c : Int) : Int := if s.gone then 8 else if p < 0 ∨ (s.pages.length : Int) ≤ p ∨ c < 0 ∨ s.c.cells ≤ c then 2 else 0
def RS.fuse (s : RS) (i : Int) : Int := if s.gone then 8 else if i < 0 ∨ (s.blown.length : Int) ≤ i then 2 else 0
/-- An act begins. -/
def RS.act (s : RS) : RS := { s with n := s.n + 1, gone := if s.wait = 0 then true else s.gone, wait := if s.wait = 0 then -1 else if 0 < s.wait then s.wait - 1 else s.wait }
def RS.cut (s : RS) : Bool := decide (s.wait = 0)

/-- Where it lies. -/
structure RF where
  g : Nat
  pB : Nat
  pcap : Nat
  eB : Nat
  ecap : Nat
  bB : Nat
  bcap : Nat
  ps : List (Nat × Nat)
  mo : Option Addr
  mcap : Nat
  mb : Option Nat
def RF.blocks (F : RF) : List Nat := F.g :: F.pB :: F.eB :: F.bB :: (F.ps.map (·.1) ++ F.mb.toList)

/-- These values stand at a block's beginning. -/
def Pre (w : World) (B t : Nat) (vs : List Value) : Prop := ∃ rest, Row w B t (vs ++ rest)
theorem Pre.lt {w : World} {B t : Nat} {vs : List Value} (h : Pre w B t vs) : B < w.heap.size := by obtain ⟨_, h⟩ := h; exact h.lt
theorem Pre.of_block {w w' : World} {B t : Nat} {vs : List Value} (h : Pre w B t vs) (hb : w'.heap[B]? = w.heap[B]?) : Pre w' B t vs := by obtain ⟨r, h⟩ := h; exact ⟨r, hb.trans h⟩
theorem Pre.cell {w : World} {B t : Nat} {vs : List Value} (h : Pre w B t vs) (j : Nat) (v : Value) (hv : vs[j]? = some v) : w.cell? ⟨B, j, none⟩ = some v := by
  obtain ⟨r, h⟩ := h
  exact h.cell j v (by rw [List.getElem?_append_left (List.getElem?_eq_some_iff.1 hv).1]; exact hv)
theorem Pre.frozen {w : World} {B t : Nat} {vs : List Value} (h : Pre w B t vs) (j : Nat) : w.frozen? ⟨B, j, none⟩ = false := by obtain ⟨r, h⟩ := h; exact h.frozen j
theorem Pre.set {w : World} {B t : Nat} {vs : List Value} (h : Pre w B t vs) (j : Nat) (v : Value) (hj : j < vs.length) : Pre (w.setCell ⟨B, j, none⟩ v) B t (vs.set j v) := by
  obtain ⟨r, h⟩ := h
  exact ⟨r, by rw [← List.set_append_left _ _ hj]; exact h.set j v⟩

def pgVal (q : Nat × Nat) (p : List (List By)) : Value := .slice (some ⟨q.1, 0, none⟩) p.length q.2
def RS.cellsOf (s : RS) (F : RF) : List Value := s.c.vals ++ [.slice (some ⟨F.pB, 0, none⟩) s.pages.length F.pcap, .slice (some ⟨F.eB, 0, none⟩) s.erases.length F.ecap, .slice (some ⟨F.bB, 0, none⟩) s.blown.length F.bcap,
  .int .i64 s.n, .bool s.gone, .int .i64 s.wait, .slice F.mo s.mask.length F.mcap]

/-- What is known of its sizes. -/
structure RS.Ok (s : RS) : Prop where
  er : s.erases.length = s.pages.length
  pg : s.pages.length ≤ 130
  bl : s.blown.length ≤ 576
  cl : ∀ p ∈ s.pages, (p.length : Int) = s.c.cells
  c1 : 1 ≤ s.c.cells
  c2 : s.c.cells ≤ 256
  by8 : ∀ p ∈ s.pages, ∀ x ∈ p, x.length = 32

theorem lt_of_block {w w' : World} {B : Nat} (h : B < w.heap.size) (hb : w'.heap[B]? = w.heap[B]?) : B < w'.heap.size := by
  by_cases hl : B < w'.heap.size
  · exact hl
  · rw [Array.getElem?_eq_none (by omega), Array.getElem?_eq_getElem h] at hb; cases hb
end Go.Proofs.YtcpdanjbnijoiaaDoor


/-! The reference's chip: at, fuse, act, bits, Restore, Blown, Erases. -/
namespace Go.Proofs.YtcpdanjbnijoiaaDoor
open Go.RowKit

end Go.Proofs.YtcpdanjbnijoiaaDoor


/-! The reference's chip: act, bits, Restore, Blown, Erases. -/
namespace Go.Proofs.YtcpdanjbnijoiaaDoor
open Go.RowKit

theorem cells_n (s : RS) (F : RF) (n : Int) : (s.cellsOf F).set 10 (.int .i64 n) = ({ s with n := n } : RS).cellsOf F := rfl
theorem cells_gone (s : RS) (F : RF) (g : Bool) : (s.cellsOf F).set 11 (.bool g) = ({ s with gone := g } : RS).cellsOf F := rfl
theorem cells_wait (s : RS) (F : RF) (n : Int) : (s.cellsOf F).set 12 (.int .i64 n) = ({ s with wait := n } : RS).cellsOf F := rfl

theorem at_zero {s : RS} {p c : Int} (h : s.at p c = 0) : s.gone = false ∧ 0 ≤ p ∧ p < (s.pages.length : Int) ∧ 0 ≤ c ∧ c < s.c.cells := by
  unfold RS.at at h
  split at h
  · omega
  · rename_i hg
    split at h
    · omega
    · rename_i hh
      refine ⟨by simpa using hg, by omega, by omega, by omega, by omega⟩

end Go.Proofs.YtcpdanjbnijoiaaDoor


/-! Cells of 32 bytes within a page; whole arrays loaded and stored. -/
namespace Go.Proofs.YtcpdanjbnijoiaaDoor
open Go.RowKit

theorem row_whole {w : World} {g t : Nat} {old new : List Value} (h : Row w g t (old.take 0 ++ new ++ old.drop (0 + new.length))) (hl : old.length ≤ new.length) : Row w g t new := by
  rw [List.take_zero, List.nil_append, Nat.zero_add, List.drop_eq_nil_of_le hl, List.append_nil] at h; exact h
theorem Dr.cell {w w' : World} (h : Dr w w') {a : Addr} {v : Value} (c : w.cell? a = some v) : w'.cell? a = some v := by
  obtain ⟨n, rfl⟩ := h; exact c
theorem wpList_load_part {P : Program} {ops : Array Oper} {rest : List Oper} {op : Oper} {a : Act} {w : World} {Q : Exit → Act → World → Prop} (hgd : op.guard = none) (ty : TypeId) (x : Operand) (ho : op.op = .load ty x)
    (g o t n : Nat) (cs : List Value) (hr : Row w g t cs) (hx : a.eval x = .pointer (some ⟨g, o, none⟩)) (d : TypeDesc) (cs' : List Value) (hcs : (cs.drop o).take n = cs') (hn : cs'.length = n)
    (hu : P.underlying ty = some d) (hd : d.isRow = true) (hi : (P.info? ty).map (·.size) = some n)
    (h : wpList P ops Q rest (a.put op.dst (.agg cs'.toArray)) w) : wpList P ops Q (op :: rest) a w := by
  subst hcs
  exact wpList_load_mid hgd ty x ho g o hx _ d (hr.range o n) hu hd (by rw [hn]; exact hi) h

theorem flat_len : ∀ (p : List (List By)), (∀ x ∈ p, x.length = 32) → p.flatten.length = 32 * p.length
  | [], _ => rfl
  | x :: p, h => by
    rw [List.flatten_cons, List.length_append, h x (by simp), flat_len p (fun y hy => h y (by simp [hy])), List.length_cons]; omega
theorem flat_seg : ∀ (p : List (List By)), (∀ x ∈ p, x.length = 32) → ∀ c, c < p.length → (p.flatten.drop (32 * c)).take 32 = p.getD c []
  | x :: p, h, 0, _ => by
    rw [List.flatten_cons, Nat.mul_zero, List.drop_zero, List.take_left' (h x (by simp))]; rfl
  | x :: p, h, c + 1, hc => by
    rw [List.flatten_cons, show 32 * (c + 1) = 32 + 32 * c by omega, List.drop_append, h x (by simp), List.drop_eq_nil_of_le (by rw [h x (by simp)]; omega), List.nil_append, show 32 + 32 * c - 32 = 32 * c by omega]
    exact flat_seg p (fun y hy => h y (by simp [hy])) c (by simpa using hc)
theorem flat_get (p : List (List By)) (h : ∀ x ∈ p, x.length = 32) (c i : Nat) (hc : c < p.length) (hi : i < 32) : p.flatten[32 * c + i]? = some ((p.getD c []).getD i 0) := by
  have h1 := flat_seg p h c hc
  have hl : (p.getD c []).length = 32 := by
    rw [List.getD_eq_getElem?_getD, List.getElem?_eq_getElem hc]; exact h _ (List.getElem_mem hc)
  have h2 : ((p.flatten.drop (32 * c)).take 32)[i]? = p.flatten[32 * c + i]? := by
    rw [List.getElem?_take, if_pos hi, List.getElem?_drop]
  generalize p.getD c [] = x at h1 hl ⊢
  rw [← h2, h1, List.getD_eq_getElem?_getD, List.getElem?_eq_getElem (by omega)]; rfl
theorem flat_set : ∀ (p : List (List By)), (∀ x ∈ p, x.length = 32) → ∀ (c i : Nat) (v : By), c < p.length → i < 32 → p.flatten.set (32 * c + i) v = (p.set c ((p.getD c []).set i v)).flatten
  | x :: p, h, 0, i, v, _, hi => by
    rw [List.flatten_cons, Nat.mul_zero, Nat.zero_add, List.set_append_left _ _ (by rw [h x (by simp)]; exact hi), List.set_cons_zero, List.flatten_cons]; rfl
  | x :: p, h, c + 1, i, v, hc, hi => by
    rw [List.flatten_cons, List.set_append_right _ _ (by rw [h x (by simp)]; omega), h x (by simp), List.set_cons_succ, List.flatten_cons, show 32 * (c + 1) + i - 32 = 32 * c + i by omega, flat_set p (fun y hy => h y (by simp [hy])) c i v (by simpa using hc) hi]; rfl

/-- The cell number c of page p. -/
def RS.cell (s : RS) (p c : Nat) : List By := (s.pages.getD p []).getD c []
def RS.setCell (s : RS) (p c : Nat) (x : List By) : RS := { s with pages := s.pages.set p ((s.pages.getD p []).set c x) }

theorem RS.Ok.pgLen {s : RS} (h : s.Ok) (p : Nat) (hp : p < s.pages.length) : ((s.pages.getD p []).length : Int) = s.c.cells ∧ ∀ x ∈ s.pages.getD p [], x.length = 32 := by
  have hd : s.pages.getD p [] = s.pages[p] := by rw [List.getD_eq_getElem?_getD, List.getElem?_eq_getElem hp]; rfl
  rw [hd]
  exact ⟨h.cl _ (List.getElem_mem hp), h.by8 _ (List.getElem_mem hp)⟩
end Go.Proofs.YtcpdanjbnijoiaaDoor


namespace Go.Proofs.YtcpdanjbnijoiaaDoor
open Go.RowKit

theorem results_Row_tmp {fn : Func} {p u : Tmp} {ty : TypeId} (h : fn.results = #[.cell p ty, .tmp u]) (tmps : Array Value) (w : World) (g t : Nat) (cs : List Value) (d : TypeDesc)
    (hp : tmps.getD p undef = .pointer (some ⟨g, 0, none⟩)) (hr : Row w g t cs) (hu : Tryd.prog.underlying ty = some d) (hd : d.isRow = true) (hi : (Tryd.prog.info? ty).map (·.size) = some cs.length) :
    (results fn tmps).run Tryd.prog w = .ok (.tuple #[.agg cs.toArray, tmps.getD u undef]) w := by
  rw [results_cell_tmp h]
  have hl := run_loadVar_mid (P := Tryd.prog) w g 0 ty cs d (by have := hr.range 0 cs.length; simpa using this) hu hd hi
  simp [hp, asAddr, hl]

end Go.Proofs.YtcpdanjbnijoiaaDoor


/-! A byte of a cell written; a fuse, a count written. -/
namespace Go.Proofs.YtcpdanjbnijoiaaDoor
open Go.RowKit

/-- All old blocks but some are as they were. -/
structure KeptL (L : List Nat) (w w' : World) : Prop where
  os : w'.os = w.os
  tape : w'.tape = w.tape
  output : w'.output = w.output
  size : w.heap.size ≤ w'.heap.size
  block : ∀ k, k < w.heap.size → k ∉ L → w'.heap[k]? = w.heap[k]?
theorem KeptL.refl (L : List Nat) (w : World) : KeptL L w w := ⟨rfl, rfl, rfl, Nat.le_refl _, fun _ _ _ => rfl⟩
theorem KeptL.trans {L : List Nat} {a b c : World} (h : KeptL L a b) (k : KeptL L b c) : KeptL L a c :=
  ⟨k.os.trans h.os, k.tape.trans h.tape, k.output.trans h.output, Nat.le_trans h.size k.size, fun i hi hne => (k.block i (Nat.lt_of_lt_of_le hi h.size) hne).trans (h.block i hi hne)⟩
theorem KeptL.but {L : List Nat} {D : Nat} {a w w' : World} (h : KeptL L a w) (hs : SameBut D w w') (hD : D ∈ L ∨ a.heap.size ≤ D) : KeptL L a w' :=
  ⟨hs.os.trans h.os, hs.tape.trans h.tape, hs.output.trans h.output, by rw [hs.size]; exact h.size, fun k hk hne => (hs.block k (by rintro rfl; rcases hD with h1 | h1; exact hne h1; omega)).trans (h.block k hk hne)⟩
theorem KeptL.below {L : List Nat} {a w w' : World} {N : Nat} (h : KeptL L a w) (hb : Below N w w') (hN : a.heap.size ≤ N) : KeptL L a w' :=
  ⟨hb.os.trans h.os, hb.tape.trans h.tape, hb.output.trans h.output, Nat.le_trans h.size hb.size, fun k hk hne => (hb.block k (by omega)).trans (h.block k hk hne)⟩
theorem KeptL.dr {L : List Nat} {a w w' : World} (h : KeptL L a w) (d : Dr w w') : KeptL L a w' := by
  obtain ⟨n, rfl⟩ := d; exact ⟨h.os, h.tape, h.output, h.size, h.block⟩

theorem setCell_pages (s : RS) (p c : Nat) (x : List By) (i : Nat) : (s.setCell p c x).pages[i]? = if i = p ∧ p < s.pages.length then some ((s.pages.getD p []).set c x) else s.pages[i]? := by
  unfold RS.setCell
  simp only [List.getElem?_set]
  by_cases h : p = i
  · subst h
    by_cases hl : p < s.pages.length
    · simp [hl]
    · simp [hl]
  · have : ¬ i = p := fun e => h e.symm
    simp [h, this]

end Go.Proofs.YtcpdanjbnijoiaaDoor
