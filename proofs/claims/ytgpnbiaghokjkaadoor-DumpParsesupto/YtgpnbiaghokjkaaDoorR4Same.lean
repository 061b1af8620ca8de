import Derived.Test.YtgpnbiaghokjkaaDoorMem
import Derived.Test.YtgpnbiaghokjkaaDoorRows
import Derived.WalkKit
import Derived.WalkSpells
import Derived.WalkLawsBesides
import Derived.Deep.QuietTactic
import Derived.BigQuiet
import Derived.Laws.ResultCell
import Derived.Deep.RegionHeld3
import Derived.Deep.RegionLaw
import Derived.BigRegion
import Derived.Deep.AppendLies
import Derived.Laws.AppendOwnNone
import Derived.Deep.CutBlock
import Derived.Deep.DeepCutAuto
import Derived.DeepKeys
import Derived.StillTactics

/-! The document's chip, as plain data, and where the reference's chip lies in memory. -/
namespace Go.Proofs.YtgpnbiaghokjkaaDoor
open Go.RowKit

structure Cfg where
  cells : Int
  slots : Int
  fuses : Int
  step : Int
  keys : Int
  erases : Int
  area : Int
def Cfg.vals (c : Cfg) : List Value := [.int .i64 c.cells, .int .i64 c.slots, .int .i64 c.fuses, .int .i64 c.step, .int .i64 c.keys, .int .i64 c.erases, .int .i64 c.area]

/-- A chip: its config, what it holds, how many acts were done, whether the power is gone, which act to come it goes at (below 0: none), with which mask. -/
structure RS where
  c : Cfg
  pages : List (List (List By))
  erases : List Int
  blown : List Bool
  n : Int
  gone : Bool
  wait : Int
  mask : List By

/-- The byte number i of a mask. -/
def bitsAt (m : List By) (i : Nat) : By := m.getD (i % m.length) 0
/-- Where it lies. -/
structure RF where
  g : Nat
  pB : Nat
  pcap : Nat
  eB : Nat
  ecap : Nat
  bB : Nat
  bcap : Nat
  ps : List (Nat × Nat)
  mo : Option Addr
  mcap : Nat
  mb : Option Nat
def RF.blocks (F : RF) : List Nat := F.g :: F.pB :: F.eB :: F.bB :: (F.ps.map (·.1) ++ F.mb.toList)

/-- These values stand at a block's beginning. -/
def Pre (w : World) (B t : Nat) (vs : List Value) : Prop := ∃ rest, Row w B t (vs ++ rest)
theorem Pre.lt {w : World} {B t : Nat} {vs : List Value} (h : Pre w B t vs) : B < w.heap.size := by obtain ⟨_, h⟩ := h; exact h.lt
theorem Pre.of_block {w w' : World} {B t : Nat} {vs : List Value} (h : Pre w B t vs) (hb : w'.heap[B]? = w.heap[B]?) : Pre w' B t vs := by obtain ⟨r, h⟩ := h; exact ⟨r, hb.trans h⟩
theorem Pre.cell {w : World} {B t : Nat} {vs : List Value} (h : Pre w B t vs) (j : Nat) (v : Value) (hv : vs[j]? = some v) : w.cell? ⟨B, j, none⟩ = some v := by
  obtain ⟨r, h⟩ := h
  exact h.cell j v (by rw [List.getElem?_append_left (List.getElem?_eq_some_iff.1 hv).1]; exact hv)
def pgVal (q : Nat × Nat) (p : List (List By)) : Value := .slice (some ⟨q.1, 0, none⟩) p.length q.2
/-- What is known of its sizes. -/
structure RS.Ok (s : RS) : Prop where
  er : s.erases.length = s.pages.length
  pg : s.pages.length ≤ 130
  bl : s.blown.length ≤ 576
  cl : ∀ p ∈ s.pages, (p.length : Int) = s.c.cells
  c1 : 1 ≤ s.c.cells
  c2 : s.c.cells ≤ 256
  by8 : ∀ p ∈ s.pages, ∀ x ∈ p, x.length = 32

end Go.Proofs.YtgpnbiaghokjkaaDoor


/-! The reference's chip: at, fuse, act, bits, Restore, Blown, Erases. -/
namespace Go.Proofs.YtgpnbiaghokjkaaDoor
open Go.RowKit

end Go.Proofs.YtgpnbiaghokjkaaDoor


/-! The reference's chip: act, bits, Restore, Blown, Erases. -/
namespace Go.Proofs.YtgpnbiaghokjkaaDoor
open Go.RowKit

end Go.Proofs.YtgpnbiaghokjkaaDoor


/-! Cells of 32 bytes within a page; whole arrays loaded and stored. -/
namespace Go.Proofs.YtgpnbiaghokjkaaDoor
open Go.RowKit

theorem row_whole {w : World} {g t : Nat} {old new : List Value} (h : Row w g t (old.take 0 ++ new ++ old.drop (0 + new.length))) (hl : old.length ≤ new.length) : Row w g t new := by
  rw [List.take_zero, List.nil_append, Nat.zero_add, List.drop_eq_nil_of_le hl, List.append_nil] at h; exact h
theorem Dr.cell {w w' : World} (h : Dr w w') {a : Addr} {v : Value} (c : w.cell? a = some v) : w'.cell? a = some v := by
  obtain ⟨n, rfl⟩ := h; exact c
theorem flat_len : ∀ (p : List (List By)), (∀ x ∈ p, x.length = 32) → p.flatten.length = 32 * p.length
  | [], _ => rfl
  | x :: p, h => by
    rw [List.flatten_cons, List.length_append, h x (by simp), flat_len p (fun y hy => h y (by simp [hy])), List.length_cons]; omega
theorem flat_seg : ∀ (p : List (List By)), (∀ x ∈ p, x.length = 32) → ∀ c, c < p.length → (p.flatten.drop (32 * c)).take 32 = p.getD c []
  | x :: p, h, 0, _ => by
    rw [List.flatten_cons, Nat.mul_zero, List.drop_zero, List.take_left' (h x (by simp))]; rfl
  | x :: p, h, c + 1, hc => by
    rw [List.flatten_cons, show 32 * (c + 1) = 32 + 32 * c by omega, List.drop_append, h x (by simp), List.drop_eq_nil_of_le (by rw [h x (by simp)]; omega), List.nil_append, show 32 + 32 * c - 32 = 32 * c by omega]
    exact flat_seg p (fun y hy => h y (by simp [hy])) c (by simpa using hc)
theorem flat_get (p : List (List By)) (h : ∀ x ∈ p, x.length = 32) (c i : Nat) (hc : c < p.length) (hi : i < 32) : p.flatten[32 * c + i]? = some ((p.getD c []).getD i 0) := by
  have h1 := flat_seg p h c hc
  have hl : (p.getD c []).length = 32 := by
    rw [List.getD_eq_getElem?_getD, List.getElem?_eq_getElem hc]; exact h _ (List.getElem_mem hc)
  have h2 : ((p.flatten.drop (32 * c)).take 32)[i]? = p.flatten[32 * c + i]? := by
    rw [List.getElem?_take, if_pos hi, List.getElem?_drop]
  generalize p.getD c [] = x at h1 hl ⊢
  rw [← h2, h1, List.getD_eq_getElem?_getD, List.getElem?_eq_getElem (by omega)]; rfl
theorem RS.Ok.pgLen {s : RS} (h : s.Ok) (p : Nat) (hp : p < s.pages.length) : ((s.pages.getD p []).length : Int) = s.c.cells ∧ ∀ x ∈ s.pages.getD p [], x.length = 32 := by
  have hd : s.pages.getD p [] = s.pages[p] := by rw [List.getD_eq_getElem?_getD, List.getElem?_eq_getElem hp]; rfl
  rw [hd]
  exact ⟨h.cl _ (List.getElem_mem hp), h.by8 _ (List.getElem_mem hp)⟩
end Go.Proofs.YtgpnbiaghokjkaaDoor


namespace Go.Proofs.YtgpnbiaghokjkaaDoor
open Go.RowKit

end Go.Proofs.YtgpnbiaghokjkaaDoor


/-! A byte of a cell written; a fuse, a count written. -/
namespace Go.Proofs.YtgpnbiaghokjkaaDoor
open Go.RowKit

/-- All old blocks but some are as they were. -/
structure KeptL (L : List Nat) (w w' : World) : Prop where
  os : w'.os = w.os
  tape : w'.tape = w.tape
  output : w'.output = w.output
  size : w.heap.size ≤ w'.heap.size
  block : ∀ k, k < w.heap.size → k ∉ L → w'.heap[k]? = w.heap[k]?
theorem KeptL.refl (L : List Nat) (w : World) : KeptL L w w := ⟨rfl, rfl, rfl, Nat.le_refl _, fun _ _ _ => rfl⟩
theorem KeptL.trans {L : List Nat} {a b c : World} (h : KeptL L a b) (k : KeptL L b c) : KeptL L a c :=
  ⟨k.os.trans h.os, k.tape.trans h.tape, k.output.trans h.output, Nat.le_trans h.size k.size, fun i hi hne => (k.block i (Nat.lt_of_lt_of_le hi h.size) hne).trans (h.block i hi hne)⟩
theorem KeptL.but {L : List Nat} {D : Nat} {a w w' : World} (h : KeptL L a w) (hs : SameBut D w w') (hD : D ∈ L ∨ a.heap.size ≤ D) : KeptL L a w' :=
  ⟨hs.os.trans h.os, hs.tape.trans h.tape, hs.output.trans h.output, by rw [hs.size]; exact h.size, fun k hk hne => (hs.block k (by rintro rfl; rcases hD with h1 | h1; exact hne h1; omega)).trans (h.block k hk hne)⟩
theorem KeptL.below {L : List Nat} {a w w' : World} {N : Nat} (h : KeptL L a w) (hb : Below N w w') (hN : a.heap.size ≤ N) : KeptL L a w' :=
  ⟨hb.os.trans h.os, hb.tape.trans h.tape, hb.output.trans h.output, Nat.le_trans h.size hb.size, fun k hk hne => (hb.block k (by omega)).trans (h.block k hk hne)⟩
theorem KeptL.dr {L : List Nat} {a w w' : World} (h : KeptL L a w) (d : Dr w w') : KeptL L a w' := by
  obtain ⟨n, rfl⟩ := d; exact ⟨h.os, h.tape, h.output, h.size, h.block⟩

end Go.Proofs.YtgpnbiaghokjkaaDoor


/-! The reference's Program. -/
namespace Go.Proofs.YtgpnbiaghokjkaaDoor
open Go.RowKit

end Go.Proofs.YtgpnbiaghokjkaaDoor


/-! The reference's Blow. -/
namespace Go.Proofs.YtgpnbiaghokjkaaDoor
open Go.RowKit

end Go.Proofs.YtgpnbiaghokjkaaDoor


/-! The reference's Erase. -/
namespace Go.Proofs.YtgpnbiaghokjkaaDoor
open Go.RowKit

end Go.Proofs.YtgpnbiaghokjkaaDoor


namespace Go.Proofs.YtgpnbiaghokjkaaDoor
open Go.RowKit

end Go.Proofs.YtgpnbiaghokjkaaDoor


/-! Bytes in a slice; append onto an own slice of bytes. -/
namespace Go.Proofs.YtgpnbiaghokjkaaDoor
open Go.RowKit
set_option maxRecDepth 100000

theorem Tryd.infoU8 : (Tryd.prog.info? 5).map (fun i => (i.zero, i.size, i.bytes)) = some (some (.int .u8 0), 1, 1) := by kernel_rfl

/-- The slice value holds these bytes. -/
def IsB (w : World) (ao : Option Addr) (m : List By) : Prop :=
  m = [] ∨ ∃ B off, ao = some ⟨B, off, none⟩ ∧ ∀ j v, m[j]? = some v → w.cell? ⟨B, off + j, none⟩ = some (B8 v)

/-- What the walk knows of the row that it appends to. -/
def Own (N : Nat) (w : World) (v : Value) (m : List By) : Prop := w.ownsRow N 5 1 v m.length (m.map B8) ∧ N ≤ w.heap.size

theorem own_nil (N : Nat) (w : World) (h : N ≤ w.heap.size) : Own N w (.slice none 0 0) [] := ⟨World.ownsRow_nil _ _ _ _, h⟩
theorem own_isb {N : Nat} {w : World} {ao : Option Addr} {n c : Nat} {m : List By} (h : Own N w (.slice ao n c) m) :
    m.length = n ∧ (ao = none → c = 0) ∧ m.length ≤ c ∧ (m = [] ∨ ∃ B off, ao = some ⟨B, off, none⟩ ∧ N ≤ B ∧ B < w.heap.size ∧ ∀ j v, m[j]? = some v → w.cell? ⟨B, off + j, none⟩ = some (B8 v)) := by
  have h1 := h.1
  rcases h.1.2 with ⟨e, e2⟩ | ⟨g, cap, cur, e, h2, h3, h4, _⟩
  · injection e with e1 e3 e4
    subst e4
    refine ⟨by omega, fun _ => rfl, by omega, .inl (List.length_eq_zero_iff.1 e2)⟩
  · injection e with e1 e3 e4
    subst e1
    subst e4
    refine ⟨e3.symm, (fun hh => by cases hh), h4, .inr ⟨g, 0, rfl, h2, (h1.lt g rfl).2, ?_⟩⟩
    intro j v hj
    have hjl : j < m.length := (List.getElem?_eq_some_iff.1 hj).1
    subst e3
    rw [Nat.zero_add, h1.cellAt j (by omega), List.getElem?_map, hj]; rfl

theorem own_IsB {N : Nat} {w : World} {ao : Option Addr} {n c : Nat} {m : List By} (h : Own N w (.slice ao n c) m) : IsB w ao m := by
  rcases (own_isb h).2.2.2 with h1 | ⟨B, off, h1, _, _, h2⟩
  · exact .inl h1
  · exact .inr ⟨B, off, h1, h2⟩
theorem own_form {N : Nat} {w : World} {v : Value} {m : List By} (h : Own N w v m) : ∃ ao c, v = .slice ao m.length c := by
  rcases h.1.2 with ⟨e, e0⟩ | ⟨g, c, cur, e, _⟩
  · exact ⟨none, 0, by rw [e, e0]⟩
  · exact ⟨_, _, e⟩
/-- What leaves all blocks from N on alone that are there leaves the row. -/
theorem Own.keep {N : Nat} {w w' : World} {v : Value} {m : List By} (h : Own N w v m) (hb : Below w.heap.size w w') : Own N w' v m := by
  refine ⟨⟨h.1.1, ?_⟩, Nat.le_trans h.2 hb.size⟩
  rcases h.1.2 with hn | ⟨g, cap, cur, e, h1, h2, h3⟩
  · exact .inl hn
  · refine .inr ⟨g, cap, cur, e, h1, ?_, h3⟩
    have hl : g < w.heap.size := (Array.getElem?_eq_some_iff.1 h2).1
    exact (hb.block g hl).trans h2
end Go.Proofs.YtgpnbiaghokjkaaDoor


/-! The reference's Cut; within, May, Blank. -/
namespace Go.Proofs.YtgpnbiaghokjkaaDoor
open Go.RowKit

end Go.Proofs.YtgpnbiaghokjkaaDoor


/-! The reference's within, May, Blank. -/
namespace Go.Proofs.YtgpnbiaghokjkaaDoor
open Go.RowKit

/-- May a config be? -/
def Cfg.a (c : Cfg) : Bool := decide (1 ≤ c.slots ∧ c.slots ≤ 8) && (decide (c.slots + 3 ≤ c.cells ∧ c.cells ≤ 256) && (decide (1 ≤ c.fuses ∧ c.fuses ≤ 64) && decide (1 ≤ c.step ∧ c.step ≤ 65536)))
def Cfg.b (c : Cfg) : Bool := decide (1 ≤ c.keys ∧ c.keys ≤ 64) && (decide (0 ≤ c.erases ∧ c.erases ≤ 65536) && decide (0 ≤ c.area ∧ c.area ≤ 64))
def Cfg.may (c : Cfg) : Int := if c.a && c.b then 0 else 1

end Go.Proofs.YtgpnbiaghokjkaaDoor


/-! What a chip holds, read; the reference's SameState. -/
namespace Go.Proofs.YtgpnbiaghokjkaaDoor
open Go.RowKit

/-- Values that lie in a row, one a cell. -/
def IsL (w : World) (ao : Option Addr) (vs : List Value) : Prop := vs = [] ∨ ∃ B off, ao = some ⟨B, off, none⟩ ∧ ∀ j v, vs[j]? = some v → w.cell? ⟨B, off + j, none⟩ = some v
theorem IsL.below {w w' : World} {ao : Option Addr} {vs : List Value} {N : Nat} (h : IsL w ao vs) (hb : Below N w w') (hN : w.heap.size ≤ N) : IsL w' ao vs := by
  rcases h with h | ⟨B, off, rfl, hc⟩
  · exact .inl h
  · refine .inr ⟨B, off, rfl, fun j v hj => ?_⟩
    have h1 := hc j v hj
    rw [hb.cell (p := ⟨B, off + j, none⟩) (by have := block_lt_of_cell h1; simp at this ⊢; omega)]
    exact h1
theorem IsL.dr {w w' : World} {ao : Option Addr} {vs : List Value} (h : IsL w ao vs) (d : Dr w w') : IsL w' ao vs := by
  rcases h with h | ⟨B, off, rfl, hc⟩
  · exact .inl h
  · exact .inr ⟨B, off, rfl, fun j v hj => d.cell (hc j v hj)⟩
theorem IsL.cell {w : World} {ao : Option Addr} {vs : List Value} (h : IsL w ao vs) (j : Nat) (v : Value) (hv : vs[j]? = some v) : ∃ B off, ao = some ⟨B, off, none⟩ ∧ w.cell? ⟨B, off + j, none⟩ = some v := by
  rcases h with rfl | ⟨B, off, rfl, hc⟩
  · simp at hv
  · exact ⟨B, off, rfl, hc j v hv⟩
theorem IsL.range {w : World} {ao : Option Addr} {vs : List Value} (h : IsL w ao vs) (o n : Nat) (hn : 0 < n) (ho : o + n ≤ vs.length) : ∃ B off, ao = some ⟨B, off, none⟩ ∧ w.rangeAt B (off + o) ((vs.drop o).take n) := by
  rcases h with rfl | ⟨B, off, rfl, hc⟩
  · simp at ho; omega
  · refine ⟨B, off, rfl, fun j v hv => ?_⟩
    rw [List.getElem?_take] at hv
    split at hv
    · rw [List.getElem?_drop] at hv
      have := hc (o + j) v hv
      rwa [← Nat.add_assoc] at this
    · cases hv

/-- What a chip holds. -/
structure St where
  pages : List (List (List By))
  erases : List Int
  blown : List Bool
def RS.st (s : RS) : St := ⟨s.pages, s.erases, s.blown⟩

/-- The three slices of an api.Chip. -/
structure SV where
  po : Option Addr
  pc : Nat
  eo : Option Addr
  ec : Nat
  bo : Option Addr
  bc : Nat
def SV.vals (v : SV) (t : St) : List Value := [.slice v.po t.pages.length v.pc, .slice v.eo t.erases.length v.ec, .slice v.bo t.blown.length v.bc]
structure StV (w : World) (v : SV) (t : St) : Prop where
  pg : ∃ pvs : List (Option Addr × Nat), pvs.length = t.pages.length ∧ IsL w v.po (List.zipWith (fun q p => Value.slice q.1 (List.length p) q.2) pvs t.pages) ∧ ∀ (i : Nat) (q : Option Addr × Nat) (p : List (List By)), pvs[i]? = some q → t.pages[i]? = some p → IsL w q.1 (p.flatten.map B8)
  er : IsL w v.eo (t.erases.map (Value.int .i64))
  bl : IsL w v.bo (t.blown.map Value.bool)
  by8 : ∀ p ∈ t.pages, ∀ x ∈ p, x.length = 32
theorem StV.below {w w' : World} {v : SV} {t : St} {N : Nat} (h : StV w v t) (hb : Below N w w') (hN : w.heap.size ≤ N) : StV w' v t := by
  obtain ⟨pvs, h1, h2, h3⟩ := h.pg
  exact ⟨⟨pvs, h1, h2.below hb hN, fun i q p hq hp => (h3 i q p hq hp).below hb hN⟩, h.er.below hb hN, h.bl.below hb hN, h.by8⟩
theorem StV.page {w : World} {v : SV} {t : St} (h : StV w v t) (p : Nat) (hp : p < t.pages.length) : ∃ B off qo qc, v.po = some ⟨B, off, none⟩ ∧ w.cell? ⟨B, off + p, none⟩ = some (.slice qo (t.pages.getD p []).length qc) ∧ IsL w qo ((t.pages.getD p []).flatten.map B8) ∧ ∀ x ∈ t.pages.getD p [], x.length = 32 := by
  obtain ⟨pvs, h1, h2, h3⟩ := h.pg
  have hq : pvs[p]? = some (pvs[p]'(by omega)) := List.getElem?_eq_getElem _
  have hpp : t.pages[p]? = some t.pages[p] := List.getElem?_eq_getElem hp
  have hd : t.pages.getD p [] = t.pages[p] := by rw [List.getD_eq_getElem?_getD, hpp]; rfl
  obtain ⟨B, off, e1, e2⟩ := h2.cell p _ (by rw [List.getElem?_zipWith, hq, hpp])
  rw [hd]
  exact ⟨B, off, _, _, e1, e2, h3 p _ _ hq hpp, h.by8 _ (List.getElem_mem hp)⟩

theorem mapM_some {α β : Type} {f : α → Option β} (g : α → β) : ∀ (l : List α), (∀ x ∈ l, f x = some (g x)) → l.mapM f = some (l.map g)
  | [], _ => rfl
  | x :: l, h => by
    rw [List.mapM_cons, h x (by simp), mapM_some g l (fun y hy => h y (by simp [hy]))]
    rfl
theorem Tryd.cellsCell : Tryd.prog.cellsOf 56 = 32 := by kernel_rfl
theorem Tryd.cellsU8 : Tryd.prog.cellsOf 5 = 1 := by kernel_rfl
def keyOf (bs : List By) : List Lit := ((List.range 32).map fun i => [Lit.int .u8 ((bs.getD i 0).toNat : Int)]).flatten
theorem cell_key (bs : List By) (hl : bs.length = 32) : Tryd.prog.keyLits 2 56 (bs.map B8) = some (keyOf bs) := by
  have hu : Tryd.prog.underlying 56 = some (.array 32 5) := Tryd.underlying56
  unfold Program.keyLits
  simp only [hu]
  rw [if_pos (by rw [Tryd.cellsCell, List.length_map, hl])]
  rw [mapM_some (fun i => [Lit.int .u8 ((bs.getD i 0).toNat : Int)])]
  · rfl
  · intro i hi
    rw [List.mem_range] at hi
    have e : ((bs.map B8).drop (i * Tryd.prog.cellsOf 5)).take (Tryd.prog.cellsOf 5) = [.int .u8 ((bs.getD i 0).toNat : Int)] := by
      rw [Tryd.cellsU8, Nat.mul_one, List.drop_eq_getElem_cons (by rw [List.length_map, hl]; exact hi)]
      simp [B8, hl, hi]
    rw [e]
    unfold Program.keyLits
    have h8 := b8_lt (bs.getD i 0)
    simp only [Tryd.underlying5]
    rw [if_pos ⟨trivial, WalkArith.wf_u8 (by omega)⟩]
theorem flat_one {α : Type} : ∀ l : List α, (l.map fun x => [x]).flatten = l
  | [] => rfl
  | x :: l => by rw [List.map_cons, List.flatten_cons, flat_one l]; rfl
theorem eq_cell (x y : List By) (hx : x.length = 32) (hy : y.length = 32) (w : World) : (Op.equalIn 10000 56 (.agg (x.map B8).toArray) (.agg (y.map B8).toArray)).run Tryd.prog w = .ok (decide (x = y)) w := by
  have hf : ∀ z : List By, z.length = 32 → (Value.agg (z.map B8).toArray).formed Tryd.prog 56 = true := fun z hz => by
    simp [Value.formed, Tryd.underlying56, Tryd.cellsCell, hz]
  have kz : ∀ z : List By, z.length = 32 → Tryd.prog.keyLits 2 56 (Value.agg (z.map B8).toArray).cells.toList = some (keyOf z) := fun z hz => by
    have e : (Value.agg (z.map B8).toArray).cells.toList = z.map B8 := by simp [Value.cells]
    rw [e]; exact cell_key z hz
  obtain ⟨r, hr, hiff⟩ := run_equalIn_deep (P := Tryd.prog) 9998 2 56 (by kernel_rfl) w 2 2 _ _ _ _ (hf x hx) (hf y hy) (kz x hx) (kz y hy)
  rw [hr]
  have : r = decide (x = y) := by
    by_cases hxy : x = y
    · rw [decide_eq_true hxy]
      refine hiff.2 ?_
      subst hxy; rfl
    · rw [decide_eq_false hxy]
      cases hb : r with
      | false => rfl
      | true =>
        exfalso
        have he := hiff.1 hb
        have f1 : ∀ z : List By, keyOf z = (List.range 32).map fun i => Lit.int .u8 ((z.getD i 0).toNat : Int) := fun z => by
          have := flat_one ((List.range 32).map fun i => Lit.int .u8 ((z.getD i 0).toNat : Int))
          rw [List.map_map] at this
          exact this
        rw [f1, f1] at he
        apply hxy
        apply List.ext_getElem (by omega)
        intro i hi hi'
        have h1 := congrArg (fun l => l[i]?) he
        simp only [List.getElem?_map, List.getElem?_range (show i < 32 by omega), Option.map_some, Option.some.injEq, Lit.int.injEq, true_and] at h1
        have h2 : (x.getD i 0).toNat = (y.getD i 0).toNat := by omega
        have h3 := BitVec.eq_of_toNat_eq h2
        simpa [List.getD_eq_getElem?_getD, hi, hi'] using h3
  rw [this]
end Go.Proofs.YtgpnbiaghokjkaaDoor
