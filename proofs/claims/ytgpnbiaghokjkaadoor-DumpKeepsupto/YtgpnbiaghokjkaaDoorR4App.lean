import Derived.Test.YtgpnbiaghokjkaaDoorMem
import Derived.Test.YtgpnbiaghokjkaaDoorRows
import Derived.WalkKit
import Derived.WalkSpells
import Derived.WalkLawsBesides
import Derived.Deep.QuietTactic
import Derived.BigQuiet
import Derived.Laws.ResultCell
import Derived.Deep.RegionHeld3
import Derived.Deep.RegionLaw
import Derived.BigRegion
import Derived.Deep.AppendLies
import Derived.Laws.AppendOwnNone

/-! The document's chip, as plain data, and where the reference's chip lies in memory. -/
namespace Go.Proofs.YtgpnbiaghokjkaaDoor
open Go.RowKit

structure Cfg where
  cells : Int
  slots : Int
  fuses : Int
  step : Int
  keys : Int
  erases : Int
  area : Int
def Cfg.vals (c : Cfg) : List Value := [.int .i64 c.cells, .int .i64 c.slots, .int .i64 c.fuses, .int .i64 c.step, .int .i64 c.keys, .int .i64 c.erases, .int .i64 c.area]

/-- A chip: its config, what it holds, how many acts were done, whether the power is gone, which act to come it goes at (below 0: none), with which mask. -/
structure RS where
  c : Cfg
  pages : List (List (List By))
  erases : List Int
  blown : List Bool
  n : Int
  gone : Bool
  wait : Int
  mask : List By

/-- The byte number i of a mask. -/
def bitsAt (m : List By) (i : Nat) : By := m.getD (i % m.length) 0
/-- Where it lies. -/
structure RF where
  g : Nat
  pB : Nat
  pcap : Nat
  eB : Nat
  ecap : Nat
  bB : Nat
  bcap : Nat
  ps : List (Nat × Nat)
  mo : Option Addr
  mcap : Nat
  mb : Option Nat
def RF.blocks (F : RF) : List Nat := F.g :: F.pB :: F.eB :: F.bB :: (F.ps.map (·.1) ++ F.mb.toList)

/-- These values stand at a block's beginning. -/
def Pre (w : World) (B t : Nat) (vs : List Value) : Prop := ∃ rest, Row w B t (vs ++ rest)
theorem Pre.lt {w : World} {B t : Nat} {vs : List Value} (h : Pre w B t vs) : B < w.heap.size := by obtain ⟨_, h⟩ := h; exact h.lt
theorem Pre.of_block {w w' : World} {B t : Nat} {vs : List Value} (h : Pre w B t vs) (hb : w'.heap[B]? = w.heap[B]?) : Pre w' B t vs := by obtain ⟨r, h⟩ := h; exact ⟨r, hb.trans h⟩
theorem Pre.cell {w : World} {B t : Nat} {vs : List Value} (h : Pre w B t vs) (j : Nat) (v : Value) (hv : vs[j]? = some v) : w.cell? ⟨B, j, none⟩ = some v := by
  obtain ⟨r, h⟩ := h
  exact h.cell j v (by rw [List.getElem?_append_left (List.getElem?_eq_some_iff.1 hv).1]; exact hv)
def pgVal (q : Nat × Nat) (p : List (List By)) : Value := .slice (some ⟨q.1, 0, none⟩) p.length q.2
/-- What is known of its sizes. -/
structure RS.Ok (s : RS) : Prop where
  er : s.erases.length = s.pages.length
  pg : s.pages.length ≤ 130
  bl : s.blown.length ≤ 576
  cl : ∀ p ∈ s.pages, (p.length : Int) = s.c.cells
  c1 : 1 ≤ s.c.cells
  c2 : s.c.cells ≤ 256
  by8 : ∀ p ∈ s.pages, ∀ x ∈ p, x.length = 32

end Go.Proofs.YtgpnbiaghokjkaaDoor


/-! The reference's chip: at, fuse, act, bits, Restore, Blown, Erases. -/
namespace Go.Proofs.YtgpnbiaghokjkaaDoor
open Go.RowKit

end Go.Proofs.YtgpnbiaghokjkaaDoor


/-! The reference's chip: act, bits, Restore, Blown, Erases. -/
namespace Go.Proofs.YtgpnbiaghokjkaaDoor
open Go.RowKit

end Go.Proofs.YtgpnbiaghokjkaaDoor


/-! Cells of 32 bytes within a page; whole arrays loaded and stored. -/
namespace Go.Proofs.YtgpnbiaghokjkaaDoor
open Go.RowKit

theorem row_whole {w : World} {g t : Nat} {old new : List Value} (h : Row w g t (old.take 0 ++ new ++ old.drop (0 + new.length))) (hl : old.length ≤ new.length) : Row w g t new := by
  rw [List.take_zero, List.nil_append, Nat.zero_add, List.drop_eq_nil_of_le hl, List.append_nil] at h; exact h
theorem Dr.cell {w w' : World} (h : Dr w w') {a : Addr} {v : Value} (c : w.cell? a = some v) : w'.cell? a = some v := by
  obtain ⟨n, rfl⟩ := h; exact c
theorem flat_len : ∀ (p : List (List By)), (∀ x ∈ p, x.length = 32) → p.flatten.length = 32 * p.length
  | [], _ => rfl
  | x :: p, h => by
    rw [List.flatten_cons, List.length_append, h x (by simp), flat_len p (fun y hy => h y (by simp [hy])), List.length_cons]; omega
theorem flat_seg : ∀ (p : List (List By)), (∀ x ∈ p, x.length = 32) → ∀ c, c < p.length → (p.flatten.drop (32 * c)).take 32 = p.getD c []
  | x :: p, h, 0, _ => by
    rw [List.flatten_cons, Nat.mul_zero, List.drop_zero, List.take_left' (h x (by simp))]; rfl
  | x :: p, h, c + 1, hc => by
    rw [List.flatten_cons, show 32 * (c + 1) = 32 + 32 * c by omega, List.drop_append, h x (by simp), List.drop_eq_nil_of_le (by rw [h x (by simp)]; omega), List.nil_append, show 32 + 32 * c - 32 = 32 * c by omega]
    exact flat_seg p (fun y hy => h y (by simp [hy])) c (by simpa using hc)
theorem flat_get (p : List (List By)) (h : ∀ x ∈ p, x.length = 32) (c i : Nat) (hc : c < p.length) (hi : i < 32) : p.flatten[32 * c + i]? = some ((p.getD c []).getD i 0) := by
  have h1 := flat_seg p h c hc
  have hl : (p.getD c []).length = 32 := by
    rw [List.getD_eq_getElem?_getD, List.getElem?_eq_getElem hc]; exact h _ (List.getElem_mem hc)
  have h2 : ((p.flatten.drop (32 * c)).take 32)[i]? = p.flatten[32 * c + i]? := by
    rw [List.getElem?_take, if_pos hi, List.getElem?_drop]
  generalize p.getD c [] = x at h1 hl ⊢
  rw [← h2, h1, List.getD_eq_getElem?_getD, List.getElem?_eq_getElem (by omega)]; rfl
theorem RS.Ok.pgLen {s : RS} (h : s.Ok) (p : Nat) (hp : p < s.pages.length) : ((s.pages.getD p []).length : Int) = s.c.cells ∧ ∀ x ∈ s.pages.getD p [], x.length = 32 := by
  have hd : s.pages.getD p [] = s.pages[p] := by rw [List.getD_eq_getElem?_getD, List.getElem?_eq_getElem hp]; rfl
  rw [hd]
  exact ⟨h.cl _ (List.getElem_mem hp), h.by8 _ (List.getElem_mem hp)⟩
end Go.Proofs.YtgpnbiaghokjkaaDoor


namespace Go.Proofs.YtgpnbiaghokjkaaDoor
open Go.RowKit

end Go.Proofs.YtgpnbiaghokjkaaDoor


/-! A byte of a cell written; a fuse, a count written. -/
namespace Go.Proofs.YtgpnbiaghokjkaaDoor
open Go.RowKit

/-- All old blocks but some are as they were. -/
structure KeptL (L : List Nat) (w w' : World) : Prop where
  os : w'.os = w.os
  tape : w'.tape = w.tape
  output : w'.output = w.output
  size : w.heap.size ≤ w'.heap.size
  block : ∀ k, k < w.heap.size → k ∉ L → w'.heap[k]? = w.heap[k]?
theorem KeptL.refl (L : List Nat) (w : World) : KeptL L w w := ⟨rfl, rfl, rfl, Nat.le_refl _, fun _ _ _ => rfl⟩
theorem KeptL.trans {L : List Nat} {a b c : World} (h : KeptL L a b) (k : KeptL L b c) : KeptL L a c :=
  ⟨k.os.trans h.os, k.tape.trans h.tape, k.output.trans h.output, Nat.le_trans h.size k.size, fun i hi hne => (k.block i (Nat.lt_of_lt_of_le hi h.size) hne).trans (h.block i hi hne)⟩
theorem KeptL.but {L : List Nat} {D : Nat} {a w w' : World} (h : KeptL L a w) (hs : SameBut D w w') (hD : D ∈ L ∨ a.heap.size ≤ D) : KeptL L a w' :=
  ⟨hs.os.trans h.os, hs.tape.trans h.tape, hs.output.trans h.output, by rw [hs.size]; exact h.size, fun k hk hne => (hs.block k (by rintro rfl; rcases hD with h1 | h1; exact hne h1; omega)).trans (h.block k hk hne)⟩
theorem KeptL.below {L : List Nat} {a w w' : World} {N : Nat} (h : KeptL L a w) (hb : Below N w w') (hN : a.heap.size ≤ N) : KeptL L a w' :=
  ⟨hb.os.trans h.os, hb.tape.trans h.tape, hb.output.trans h.output, Nat.le_trans h.size hb.size, fun k hk hne => (hb.block k (by omega)).trans (h.block k hk hne)⟩
theorem KeptL.dr {L : List Nat} {a w w' : World} (h : KeptL L a w) (d : Dr w w') : KeptL L a w' := by
  obtain ⟨n, rfl⟩ := d; exact ⟨h.os, h.tape, h.output, h.size, h.block⟩

end Go.Proofs.YtgpnbiaghokjkaaDoor


/-! The reference's Program. -/
namespace Go.Proofs.YtgpnbiaghokjkaaDoor
open Go.RowKit

end Go.Proofs.YtgpnbiaghokjkaaDoor


/-! The reference's Blow. -/
namespace Go.Proofs.YtgpnbiaghokjkaaDoor
open Go.RowKit

end Go.Proofs.YtgpnbiaghokjkaaDoor


/-! The reference's Erase. -/
namespace Go.Proofs.YtgpnbiaghokjkaaDoor
open Go.RowKit

end Go.Proofs.YtgpnbiaghokjkaaDoor


namespace Go.Proofs.YtgpnbiaghokjkaaDoor
open Go.RowKit

end Go.Proofs.YtgpnbiaghokjkaaDoor


/-! Bytes in a slice; append onto an own slice of bytes. -/
namespace Go.Proofs.YtgpnbiaghokjkaaDoor
open Go.RowKit
set_option maxRecDepth 100000

theorem Tryd.infoU8 : (Tryd.prog.info? 5).map (fun i => (i.zero, i.size, i.bytes)) = some (some (.int .u8 0), 1, 1) := by kernel_rfl

/-- The slice value holds these bytes. -/
def IsB (w : World) (ao : Option Addr) (m : List By) : Prop :=
  m = [] ∨ ∃ B off, ao = some ⟨B, off, none⟩ ∧ ∀ j v, m[j]? = some v → w.cell? ⟨B, off + j, none⟩ = some (B8 v)

/-- What the walk knows of the row that it appends to. -/
def Own (N : Nat) (w : World) (v : Value) (m : List By) : Prop := w.ownsRow N 5 1 v m.length (m.map B8) ∧ N ≤ w.heap.size

theorem Own.below {N : Nat} {a w w1 : World} {v : Value} {m : List By} {o : Obj} (h : Own N w v m) (hb : Below N a w) (hg : (w.alloc o).grownBy w1 v.ownBlock) : Below N a w1 :=
  (hb.alloc h.2 o).grown hg (by have := h.2; simp; omega) (fun k hk => (h.1.lt k hk).1)

/-- 'append(dst, src...)' where dst is the call's own (or nil) and src holds known bytes. -/
theorem run_append_more (N : Nat) (a0 w : World) (ty : TypeId) (aoD : Option Addr) (nD capD : Nat) (m : List By) (hD : m.length = nD) (hown : Own N w (.slice aoD nD capD) m) (hbel : Below N a0 w)
    (ao : Option Addr) (n cap : Nat) (bs : List By) (hn : bs.length = n) (hb : IsB w ao bs) (hnil : ao = none → cap = 0) (hl : nD + n ≤ 140737488353280) :
    ∃ ao' cap' w', (Builtin.append_ #[49, 49] ty #[.slice aoD nD capD, .slice ao n cap]).run Tryd.prog w = .ok (.slice ao' (nD + n) cap') w' ∧ Own N w' (.slice ao' (nD + n) cap') (m ++ bs) ∧ Below N a0 w' ∧ w.heap.size ≤ w'.heap.size ∧ (∀ k, k < w.heap.size → k < N → w'.heap[k]? = w.heap[k]?) := by
  obtain ⟨i0, hi, hz0, hz1, hz2⟩ := info_parts Tryd.infoU8
  subst hn
  subst hD
  have hN := hown.2
  have some_case : ∀ ad : Addr, (∀ j u, (bs.map B8)[j]? = some u → w.cell? (ad.add j) = some u) → ∃ ao' cap' w', (Builtin.append_ #[49, 49] ty #[.slice aoD m.length capD, .slice (some ad) bs.length cap]).run Tryd.prog w = .ok (.slice ao' (m.length + bs.length) cap') w' ∧ Own N w' (.slice ao' (m.length + bs.length) cap') (m ++ bs) ∧ Below N a0 w' ∧ w.heap.size ≤ w'.heap.size ∧ (∀ k, k < w.heap.size → k < N → w'.heap[k]? = w.heap[k]?) := by
    intro ad hnews
    obtain ⟨v', w', h1, h2, h3, _⟩ := run_append_own (P := Tryd.prog) w N 49 ty 5 i0 (.int .u8 0) 1 1 Tryd.underlying49 hi hz0 hz1 hz2 rfl (by decide) _ m.length (m.map B8) hown.1 ad bs.length cap (bs.map B8) (by simp) hnews (B8_one bs) (by unfold maxLen; omega) (by omega) hN
    have hbk : ∀ k, k < w.heap.size → k < N → w'.heap[k]? = w.heap[k]? := fun k hk hkN => h3.block k hk (fun e => by have := (hown.1.lt k e.symm).1; omega)
    have hform : ∃ ao' cap', v' = .slice ao' (m.length + bs.length) cap' := by
      rcases h2.2 with ⟨e, e0⟩ | ⟨g, c, cur, e, _⟩
      · exact ⟨none, 0, by rw [e, e0]⟩
      · exact ⟨_, _, e⟩
    obtain ⟨ao', cap', rfl⟩ := hform
    refine ⟨ao', cap', w', h1, ⟨?_, Nat.le_trans hN h3.size⟩, hbel.grown h3 hN (fun k hk => (hown.1.lt k hk).1), h3.size, hbk⟩
    rw [List.length_append, List.map_append]; exact h2
  rcases hb with rfl | ⟨B, off, rfl, hc⟩
  · cases ao with
    | none =>
      rw [hnil rfl]
      refine ⟨aoD, capD, w, ?_, ?_, hbel, Nat.le_refl _, fun _ _ _ => rfl⟩
      · have := run_append_owned_none (P := Tryd.prog) (w := w) N 49 ty 5 i0 1 Tryd.underlying49 hi _ m.length (m.map B8) hown.1
        simpa using this
      · simpa using hown
    | some ad => exact some_case ad (by simp)
  · refine some_case _ ?_
    intro j u hu
    rw [Addr.add_mid]
    rw [List.getElem?_map] at hu
    cases hj : bs[j]? with
    | none => rw [hj] at hu; cases hu
    | some v => rw [hj] at hu; injection hu with hu; subst hu; exact hc j v hj

theorem step_append_more {ops : Array Oper} {o : Oper} {a : Act} {w : World} {K : Act → World → Prop} {Q : Exit → Act → World → Prop} {E : Prop} (hgd : o.guard = none) (s x : Operand)
    (ho : o.op = .call { callee := .builtin .append, args := #[s, x], argTypes := #[49, 49] })
    (N : Nat) (a0 : World) (aoD : Option Addr) (nD capD : Nat) (m : List By) (hs : a.eval s = .slice aoD nD capD) (hD : m.length = nD) (hown : Own N w (.slice aoD nD capD) m) (hbel : Below N a0 w)
    (ao : Option Addr) (n cap : Nat) (bs : List By) (hx : a.eval x = .slice ao n cap) (hn : bs.length = n) (hb : IsB w ao bs) (hnil : ao = none → cap = 0) (hl : nD + n ≤ 140737488353280)
    (h : ∀ ao' cap' w', Own N w' (.slice ao' (nD + n) cap') (m ++ bs) → Below N a0 w' → K (a.put o.dst (.slice ao' (nD + n) cap')) w') :
    if Region.wanted o (yielded ops a.tmps) = true then Oper.wp Tryd.prog o a w K Q else E := by
  have hw : Region.wanted o (yielded ops a.tmps) = true := by simp [Region.wanted, hgd]
  rw [if_pos hw]
  obtain ⟨ao', cap', w', hrun, h2, h3, _⟩ := run_append_more N a0 w o.type aoD nD capD m hD hown hbel ao n cap bs hn hb hnil hl
  unfold Oper.wp execOp
  simp only [ho, resolve, invoke, builtin, Sem.run_bind, Sem.run_pure, Result.andThen_ok, List.map_toArray, List.map_cons, List.map_nil, hs, hx, hrun]
  exact h ao' cap' w' h2 h3

theorem wpList_append_more {ops : Array Oper} {rest : List Oper} {o : Oper} {a : Act} {w : World} {Q : Exit → Act → World → Prop} (hgd : o.guard = none) (s x : Operand)
    (ho : o.op = .call { callee := .builtin .append, args := #[s, x], argTypes := #[49, 49] })
    (N : Nat) (a0 : World) (aoD : Option Addr) (nD capD : Nat) (m : List By) (hs : a.eval s = .slice aoD nD capD) (hD : m.length = nD) (hown : Own N w (.slice aoD nD capD) m) (hbel : Below N a0 w)
    (ao : Option Addr) (n cap : Nat) (bs : List By) (hx : a.eval x = .slice ao n cap) (hn : bs.length = n) (hb : IsB w ao bs) (hnil : ao = none → cap = 0) (hl : nD + n ≤ 140737488353280)
    (h : ∀ ao' cap' w', Own N w' (.slice ao' (nD + n) cap') (m ++ bs) → Below N a0 w' → wpList Tryd.prog ops Q rest (a.put o.dst (.slice ao' (nD + n) cap')) w') : wpList Tryd.prog ops Q (o :: rest) a w := by
  refine wpList_plain hgd fun K hK => ?_
  obtain ⟨ao', cap', w', hrun, h2, h3, _⟩ := run_append_more N a0 w o.type aoD nD capD m hD hown hbel ao n cap bs hn hb hnil hl
  unfold Oper.wp execOp
  simp only [ho, resolve, invoke, builtin, Sem.run_bind, Sem.run_pure, Result.andThen_ok, List.map_toArray, List.map_cons, List.map_nil, hs, hx, hrun]
  exact hK _ _ (h ao' cap' w' h2 h3)

theorem own_nil (N : Nat) (w : World) (h : N ≤ w.heap.size) : Own N w (.slice none 0 0) [] := ⟨World.ownsRow_nil _ _ _ _, h⟩
/-- A slice without elements, made new. -/
theorem own_empty (N : Nat) (w : World) (h : N ≤ w.heap.size) (C : Array Value) (hC : C.size = 0) : Own N (w.alloc (.cells C 5)) (.slice (some ⟨w.heap.size, 0, none⟩) 0 0) [] := by
  have hC' : C = #[] := Array.eq_empty_of_size_eq_zero hC
  subst hC'
  refine ⟨⟨by simp, .inr ⟨w.heap.size, 0, #[], rfl, h, heap_alloc_new w _, by simp, by unfold maxLen; omega, by simp, by simp⟩⟩, by simp; omega⟩

theorem own_isb {N : Nat} {w : World} {ao : Option Addr} {n c : Nat} {m : List By} (h : Own N w (.slice ao n c) m) :
    m.length = n ∧ (ao = none → c = 0) ∧ m.length ≤ c ∧ (m = [] ∨ ∃ B off, ao = some ⟨B, off, none⟩ ∧ N ≤ B ∧ B < w.heap.size ∧ ∀ j v, m[j]? = some v → w.cell? ⟨B, off + j, none⟩ = some (B8 v)) := by
  have h1 := h.1
  rcases h.1.2 with ⟨e, e2⟩ | ⟨g, cap, cur, e, h2, h3, h4, _⟩
  · injection e with e1 e3 e4
    subst e4
    refine ⟨by omega, fun _ => rfl, by omega, .inl (List.length_eq_zero_iff.1 e2)⟩
  · injection e with e1 e3 e4
    subst e1
    subst e4
    refine ⟨e3.symm, (fun hh => by cases hh), h4, .inr ⟨g, 0, rfl, h2, (h1.lt g rfl).2, ?_⟩⟩
    intro j v hj
    have hjl : j < m.length := (List.getElem?_eq_some_iff.1 hj).1
    subst e3
    rw [Nat.zero_add, h1.cellAt j (by omega), List.getElem?_map, hj]; rfl

theorem own_IsB {N : Nat} {w : World} {ao : Option Addr} {n c : Nat} {m : List By} (h : Own N w (.slice ao n c) m) : IsB w ao m := by
  rcases (own_isb h).2.2.2 with h1 | ⟨B, off, h1, _, _, h2⟩
  · exact .inl h1
  · exact .inr ⟨B, off, h1, h2⟩
theorem own_form {N : Nat} {w : World} {v : Value} {m : List By} (h : Own N w v m) : ∃ ao c, v = .slice ao m.length c := by
  rcases h.1.2 with ⟨e, e0⟩ | ⟨g, c, cur, e, _⟩
  · exact ⟨none, 0, by rw [e, e0]⟩
  · exact ⟨_, _, e⟩
/-- What leaves all blocks from N on alone that are there leaves the row. -/
theorem Own.keep {N : Nat} {w w' : World} {v : Value} {m : List By} (h : Own N w v m) (hb : Below w.heap.size w w') : Own N w' v m := by
  refine ⟨⟨h.1.1, ?_⟩, Nat.le_trans h.2 hb.size⟩
  rcases h.1.2 with hn | ⟨g, cap, cur, e, h1, h2, h3⟩
  · exact .inl hn
  · refine .inr ⟨g, cap, cur, e, h1, ?_, h3⟩
    have hl : g < w.heap.size := (Array.getElem?_eq_some_iff.1 h2).1
    exact (hb.block g hl).trans h2
end Go.Proofs.YtgpnbiaghokjkaaDoor
