
import Derived.Test.YtngfdofjflmhhaaMem
import Derived.Test.YtngfdofjflmhhaaRows
/-! The document's chip, as plain data, and where the reference's chip lies in memory. -/
namespace Go.Proofs.Ytngfdofjflmhhaa
open Go.RowKit

structure Cfg where
  cells : Int
  slots : Int
  fuses : Int
  step : Int
  keys : Int
  erases : Int
  area : Int
def Cfg.vals (c : Cfg) : List Value := [.int .i64 c.cells, .int .i64 c.slots, .int .i64 c.fuses, .int .i64 c.step, .int .i64 c.keys, .int .i64 c.erases, .int .i64 c.area]

/-- A chip: its config, what it holds, how many acts were done, whether the power is gone, which act to come it goes at (below 0: none), with which mask. -/
structure RS where
  c : Cfg
  pages : List (List (List By))
  erases : List Int
  blown : List Bool
  n : Int
  gone : Bool
  wait : Int
  mask : List By

/-- The byte number i of a mask. -/
def bitsAt (m : List By) (i : Nat) : By := m.getD (i % m.length) 0
/-- Why a cell isn't there; why a fuse isn't there. -/
def RS.at (s : RS) (p c : Int) : Int := if s.gone then 8 else if p < 0 ∨ (s.pages.length : Int) ≤ p ∨ c < 0 ∨ s.c.cells ≤ c then 2 else 0
def RS.fuse (s : RS) (i : Int) : Int := if s.gone then 8 else if i < 0 ∨ (s.blown.length : Int) ≤ i then 2 else 0
/-- An act begins. -/
def RS.act (s : RS) : RS := { s with n := s.n + 1, gone := if s.wait = 0 then true else s.gone, wait := if s.wait = 0 then -1 else if 0 < s.wait then s.wait - 1 else s.wait }
def RS.cut (s : RS) : Bool := decide (s.wait = 0)

/-- Where it lies. -/
structure RF where
  g : Nat
  pB : Nat
  pcap : Nat
  eB : Nat
  ecap : Nat
  bB : Nat
  bcap : Nat
  ps : List (Nat × Nat)
  mo : Option Addr
  mcap : Nat
  mb : Option Nat
def RF.blocks (F : RF) : List Nat := F.g :: F.pB :: F.eB :: F.bB :: (F.ps.map (·.1) ++ F.mb.toList)

/-- These values stand at a block's beginning. -/
def Pre (w : World) (B t : Nat) (vs : List Value) : Prop := ∃ rest, Row w B t (vs ++ rest)
theorem Pre.lt {w : World} {B t : Nat} {vs : List Value} (h : Pre w B t vs) : B < w.heap.size := by obtain ⟨_, h⟩ := h; exact h.lt
theorem Pre.of_block {w w' : World} {B t : Nat} {vs : List Value} (h : Pre w B t vs) (hb : w'.heap[B]? = w.heap[B]?) : Pre w' B t vs := by obtain ⟨r, h⟩ := h; exact ⟨r, hb.trans h⟩
theorem Pre.cell {w : World} {B t : Nat} {vs : List Value} (h : Pre w B t vs) (j : Nat) (v : Value) (hv : vs[j]? = some v) : w.cell? ⟨B, j, none⟩ = some v := by
  obtain ⟨r, h⟩ := h
  exact h.cell j v (by rw [List.getElem?_append_left (List.getElem?_eq_some_iff.1 hv).1]; exact hv)
theorem Pre.frozen {w : World} {B t : Nat} {vs : List Value} (h : Pre w B t vs) (j : Nat) : w.frozen? ⟨B, j, none⟩ = false := by obtain ⟨r, h⟩ := h; exact h.frozen j
theorem Pre.set {w : World} {B t : Nat} {vs : List Value} (h : Pre w B t vs) (j : Nat) (v : Value) (hj : j < vs.length) : Pre (w.setCell ⟨B, j, none⟩ v) B t (vs.set j v) := by
  obtain ⟨r, h⟩ := h
  exact ⟨r, by rw [← List.set_append_left _ _ hj]; exact h.set j v⟩

def pgVal (q : Nat × Nat) (p : List (List By)) : Value := .slice (some ⟨q.1, 0, none⟩) p.length q.2
def RS.cellsOf (s : RS) (F : RF) : List Value := s.c.vals ++ [.slice (some ⟨F.pB, 0, none⟩) s.pages.length F.pcap, .slice (some ⟨F.eB, 0, none⟩) s.erases.length F.ecap, .slice (some ⟨F.bB, 0, none⟩) s.blown.length F.bcap,
  .int .i64 s.n, .bool s.gone, .int .i64 s.wait, .slice F.mo s.mask.length F.mcap]

/-- What is known of its sizes. -/
structure RS.Ok (s : RS) : Prop where
  er : s.erases.length = s.pages.length
  pg : s.pages.length ≤ 130
  bl : s.blown.length ≤ 576
  cl : ∀ p ∈ s.pages, (p.length : Int) = s.c.cells
  c1 : 1 ≤ s.c.cells
  c2 : s.c.cells ≤ 256
  by8 : ∀ p ∈ s.pages, ∀ x ∈ p, x.length = 32

structure RAt (w : World) (F : RF) (s : RS) : Prop where
  row : Row w F.g 45 (s.cellsOf F)
  len : F.ps.length = s.pages.length
  pg : Pre w F.pB 70 (List.zipWith pgVal F.ps s.pages)
  page : ∀ (i : Nat) (q : Nat × Nat) (p : List (List By)), F.ps[i]? = some q → s.pages[i]? = some p → Pre w q.1 72 (p.flatten.map B8)
  er : Pre w F.eB 3 (s.erases.map (Value.int .i64))
  bl : Pre w F.bB 4 (s.blown.map Value.bool)
  msk : s.mask = [] ∨ ∃ B, F.mb = some B ∧ F.mo = some ⟨B, 0, none⟩ ∧ Pre w B 5 (s.mask.map B8)
  mbl : ∀ B, F.mb = some B → B < w.heap.size
  nd : F.blocks.Nodup
  ok : s.Ok

theorem lt_of_block {w w' : World} {B : Nat} (h : B < w.heap.size) (hb : w'.heap[B]? = w.heap[B]?) : B < w'.heap.size := by
  by_cases hl : B < w'.heap.size
  · exact hl
  · rw [Array.getElem?_eq_none (by omega), Array.getElem?_eq_getElem h] at hb; cases hb
theorem RAt.keep {w w' : World} {F : RF} {s : RS} (h : RAt w F s) (hb : ∀ B ∈ F.blocks, w'.heap[B]? = w.heap[B]?) : RAt w' F s := by
  refine ⟨(hb F.g (by simp [RF.blocks])).trans h.row, h.len, h.pg.of_block (hb _ (by simp [RF.blocks])), fun i q p hq hp => (h.page i q p hq hp).of_block (hb _ ?_), h.er.of_block (hb _ (by simp [RF.blocks])), h.bl.of_block (hb _ (by simp [RF.blocks])), ?_, fun B hB => lt_of_block (h.mbl B hB) (hb B (by simp [RF.blocks, hB])), h.nd, h.ok⟩
  · have := List.mem_of_getElem? hq
    simp only [RF.blocks, List.mem_cons, List.mem_append, List.mem_map]
    exact .inr (.inr (.inr (.inr (.inl ⟨q, this, rfl⟩))))
  · rcases h.msk with h1 | ⟨B, h1, h2, h3⟩
    · exact .inl h1
    · exact .inr ⟨B, h1, h2, h3.of_block (hb B (by simp [RF.blocks, h1]))⟩
theorem RAt.dr {w w' : World} {F : RF} {s : RS} (h : RAt w F s) (d : Dr w w') : RAt w' F s := by
  obtain ⟨n, rfl⟩ := d
  exact h.keep (fun _ _ => rfl)
theorem RAt.blt {w : World} {F : RF} {s : RS} (h : RAt w F s) : ∀ B ∈ F.blocks, B < w.heap.size := by
  intro B hB
  simp only [RF.blocks, List.mem_cons, List.mem_append] at hB
  rcases hB with rfl | rfl | rfl | rfl | hB | hB
  · exact h.row.lt
  · exact h.pg.lt
  · exact h.er.lt
  · exact h.bl.lt
  · obtain ⟨q, hq, rfl⟩ := List.mem_map.1 hB
    obtain ⟨i, hi⟩ := List.mem_iff_getElem?.1 hq
    have hil : i < F.ps.length := (List.getElem?_eq_some_iff.1 hi).1
    exact (h.page i q (s.pages[i]'(by rw [← h.len]; exact hil)) hi (List.getElem?_eq_getElem _)).lt
  · exact h.mbl B (by simpa using hB)

/-- The cells of the struct, one by one. -/
theorem RAt.cCells {w : World} {F : RF} {s : RS} (h : RAt w F s) : w.cell? ⟨F.g, 0, none⟩ = some (.int .i64 s.c.cells) := h.row.cell 0 _ rfl
theorem RAt.cErases {w : World} {F : RF} {s : RS} (h : RAt w F s) : w.cell? ⟨F.g, 5, none⟩ = some (.int .i64 s.c.erases) := h.row.cell 5 _ rfl
theorem RAt.cPages {w : World} {F : RF} {s : RS} (h : RAt w F s) : w.cell? ⟨F.g, 7, none⟩ = some (.slice (some ⟨F.pB, 0, none⟩) s.pages.length F.pcap) := h.row.cell 7 _ rfl
theorem RAt.cEr {w : World} {F : RF} {s : RS} (h : RAt w F s) : w.cell? ⟨F.g, 8, none⟩ = some (.slice (some ⟨F.eB, 0, none⟩) s.erases.length F.ecap) := h.row.cell 8 _ rfl
theorem RAt.cBl {w : World} {F : RF} {s : RS} (h : RAt w F s) : w.cell? ⟨F.g, 9, none⟩ = some (.slice (some ⟨F.bB, 0, none⟩) s.blown.length F.bcap) := h.row.cell 9 _ rfl
theorem RAt.cN {w : World} {F : RF} {s : RS} (h : RAt w F s) : w.cell? ⟨F.g, 10, none⟩ = some (.int .i64 s.n) := h.row.cell 10 _ rfl
theorem RAt.cGone {w : World} {F : RF} {s : RS} (h : RAt w F s) : w.cell? ⟨F.g, 11, none⟩ = some (.bool s.gone) := h.row.cell 11 _ rfl
theorem RAt.cWait {w : World} {F : RF} {s : RS} (h : RAt w F s) : w.cell? ⟨F.g, 12, none⟩ = some (.int .i64 s.wait) := h.row.cell 12 _ rfl
theorem RAt.cMask {w : World} {F : RF} {s : RS} (h : RAt w F s) : w.cell? ⟨F.g, 13, none⟩ = some (.slice F.mo s.mask.length F.mcap) := h.row.cell 13 _ rfl

/-- Another row at the struct's block, the rest as it was. -/
theorem RAt.struct {w w' : World} {F : RF} {s s' : RS} (h : RAt w F s) (hs : SameBut F.g w w') (hr : Row w' F.g 45 (s'.cellsOf F)) (hp : s'.pages = s.pages) (he : s'.erases = s.erases) (hb : s'.blown = s.blown) (hm : s'.mask = s.mask) (hc : s'.c = s.c) : RAt w' F s' := by
  have hnd := h.nd
  simp only [RF.blocks, List.nodup_cons, List.mem_cons, List.mem_append, not_or] at hnd
  obtain ⟨⟨n1, n2, n3, n4, n5⟩, _⟩ := hnd
  refine ⟨hr, by rw [hp]; exact h.len, by rw [hp]; exact h.pg.of_block (hs.block _ (Ne.symm n1)), fun i q p hq hpp => ?_, by rw [he]; exact h.er.of_block (hs.block _ (Ne.symm n2)), by rw [hb]; exact h.bl.of_block (hs.block _ (Ne.symm n3)), ?_, fun B hB => by rw [hs.size]; exact h.mbl B hB, h.nd, ?_⟩
  · rw [hp] at hpp
    refine (h.page i q p hq hpp).of_block (hs.block _ ?_)
    rintro e
    exact n4 (e ▸ List.mem_map_of_mem (List.mem_of_getElem? hq))
  · rw [hm]
    rcases h.msk with h1 | ⟨B, h1, h2, h3⟩
    · exact .inl h1
    · refine .inr ⟨B, h1, h2, h3.of_block (hs.block B ?_)⟩
      rintro e
      exact n5 (by simp [h1, e])
  · have k := h.ok
    exact ⟨by rw [he, hp]; exact k.er, by rw [hp]; exact k.pg, by rw [hb]; exact k.bl, by rw [hp, hc]; exact k.cl, by rw [hc]; exact k.c1, by rw [hc]; exact k.c2, by rw [hp]; exact k.by8⟩
end Go.Proofs.Ytngfdofjflmhhaa
