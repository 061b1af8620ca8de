import Derived.Test.YtcpdanjbnijoiaaGreatDoorMem
import Derived.Test.YtcpdanjbnijoiaaGreatDoorRows
import Derived.WalkKit
import Derived.WalkSpells
import Derived.WalkLawsBesides
import Derived.Deep.QuietTactic
import Derived.BigQuiet
import Derived.Laws.ResultCell

/-! The document's chip, as plain data, and where the reference's chip lies in memory. -/
namespace Go.Proofs.YtcpdanjbnijoiaaGreatDoor
open Go.RowKit

structure Cfg where
  cells : Int
  slots : Int
  fuses : Int
  step : Int
  keys : Int
  erases : Int
  area : Int
def Cfg.vals (c : Cfg) : List Value := [.int .i64 c.cells, .int .i64 c.slots, .int .i64 c.fuses, .int .i64 c.step, .int .i64 c.keys, .int .i64 c.erases, .int .i64 c.area]

/-- A chip: its config, what it holds, how many acts were done, whether the power is gone, which act to come it goes at (below 0: none), with which mask. -/
structure RS where
  c : Cfg
  pages : List (List (List By))
  erases : List Int
  blown : List Bool
  n : Int
  gone : Bool
  wait : Int
  mask : List By

/-- The byte number i of a mask. -/
def bitsAt (m : List By) (i : Nat) : By := m.getD (i % m.length) 0
/-- Why a cell isn't there; why a fuse isn't there. -/
def RS.at (s : RS) (p c : Int) : Int := if s.gone then 8 else if p < 0 ∨ (s.pages.length : Int) ≤ p ∨ c < 0 ∨ s.c.cells ≤ c then 2 else 0
def RS.fuse (s : RS) (i : Int) : Int := if s.gone then 8 else if i < 0 ∨ (s.blown.length : Int) ≤ i then 2 else 0
/-- An act begins. -/
def RS.act (s : RS) : RS := { s with n := s.n + 1, gone := if s.wait = 0 then true else s.gone, wait := if s.wait = 0 then -1 else if 0 < s.wait then s.wait - 1 else s.wait }
def RS.cut (s : RS) : Bool := decide (s.wait = 0)

/-- Where it lies. -/
structure RF where
  g : Nat
  pB : Nat
  pcap : Nat
  eB : Nat
  ecap : Nat
  bB : Nat
  bcap : Nat
  ps : List (Nat × Nat)
  mo : Option Addr
  mcap : Nat
  mb : Option Nat
def RF.blocks (F : RF) : List Nat := F.g :: F.pB :: F.eB :: F.bB :: (F.ps.map (·.1) ++ F.mb.toList)

/-- These values stand at a block's beginning. -/
def Pre (w : World) (B t : Nat) (vs : List Value) : Prop := ∃ rest, Row w B t (vs ++ rest)
theorem Pre.lt {w : World} {B t : Nat} {vs : List Value} (h : Pre w B t vs) : B < w.heap.size := by obtain ⟨_, h⟩ := h; exact h.lt
theorem Pre.of_block {w w' : World} {B t : Nat} {vs : List Value} (h : Pre w B t vs) (hb : w'.heap[B]? = w.heap[B]?) : Pre w' B t vs := by obtain ⟨r, h⟩ := h; exact ⟨r, hb.trans h⟩
theorem Pre.cell {w : World} {B t : Nat} {vs : List Value} (h : Pre w B t vs) (j : Nat) (v : Value) (hv : vs[j]? = some v) : w.cell? ⟨B, j, none⟩ = some v := by
  obtain ⟨r, h⟩ := h
  exact h.cell j v (by rw [List.getElem?_append_left (List.getElem?_eq_some_iff.1 hv).1]; exact hv)
theorem Pre.frozen {w : World} {B t : Nat} {vs : List Value} (h : Pre w B t vs) (j : Nat) : w.frozen? ⟨B, j, none⟩ = false := by obtain ⟨r, h⟩ := h; exact h.frozen j
theorem Pre.set {w : World} {B t : Nat} {vs : List Value} (h : Pre w B t vs) (j : Nat) (v : Value) (hj : j < vs.length) : Pre (w.setCell ⟨B, j, none⟩ v) B t (vs.set j v) := by
  obtain ⟨r, h⟩ := h
  exact ⟨r, by rw [← List.set_append_left _ _ hj]; exact h.set j v⟩

def pgVal (q : Nat × Nat) (p : List (List By)) : Value := .slice (some ⟨q.1, 0, none⟩) p.length q.2
def RS.cellsOf (s : RS) (F : RF) : List Value := s.c.vals ++ [.slice (some ⟨F.pB, 0, none⟩) s.pages.length F.pcap, .slice (some ⟨F.eB, 0, none⟩) s.erases.length F.ecap, .slice (some ⟨F.bB, 0, none⟩) s.blown.length F.bcap,
  .int .i64 s.n, .bool s.gone, .int .i64 s.wait, .slice F.mo s.mask.length F.mcap]

/-- What is known of its sizes. -/
structure RS.Ok (s : RS) : Prop where
  er : s.erases.length = s.pages.length
  pg : s.pages.length ≤ 130
  bl : s.blown.length ≤ 576
  cl : ∀ p ∈ s.pages, (p.length : Int) = s.c.cells
  c1 : 1 ≤ s.c.cells
  c2 : s.c.cells ≤ 256
  by8 : ∀ p ∈ s.pages, ∀ x ∈ p, x.length = 32

structure RAt (w : World) (F : RF) (s : RS) : Prop where
  row : Row w F.g 46 (s.cellsOf F)
  len : F.ps.length = s.pages.length
  pg : Pre w F.pB 74 (List.zipWith pgVal F.ps s.pages)
  page : ∀ (i : Nat) (q : Nat × Nat) (p : List (List By)), F.ps[i]? = some q → s.pages[i]? = some p → Pre w q.1 55 (p.flatten.map B8)
  er : Pre w F.eB 3 (s.erases.map (Value.int .i64))
  bl : Pre w F.bB 4 (s.blown.map Value.bool)
  msk : s.mask = [] ∨ ∃ B, F.mb = some B ∧ F.mo = some ⟨B, 0, none⟩ ∧ Pre w B 5 (s.mask.map B8)
  mbl : ∀ B, F.mb = some B → B < w.heap.size
  nd : F.blocks.Nodup
  ok : s.Ok

theorem lt_of_block {w w' : World} {B : Nat} (h : B < w.heap.size) (hb : w'.heap[B]? = w.heap[B]?) : B < w'.heap.size := by
  by_cases hl : B < w'.heap.size
  · exact hl
  · rw [Array.getElem?_eq_none (by omega), Array.getElem?_eq_getElem h] at hb; cases hb
theorem RAt.keep {w w' : World} {F : RF} {s : RS} (h : RAt w F s) (hb : ∀ B ∈ F.blocks, w'.heap[B]? = w.heap[B]?) : RAt w' F s := by
  refine ⟨(hb F.g (by simp [RF.blocks])).trans h.row, h.len, h.pg.of_block (hb _ (by simp [RF.blocks])), fun i q p hq hp => (h.page i q p hq hp).of_block (hb _ ?_), h.er.of_block (hb _ (by simp [RF.blocks])), h.bl.of_block (hb _ (by simp [RF.blocks])), ?_, fun B hB => lt_of_block (h.mbl B hB) (hb B (by simp [RF.blocks, hB])), h.nd, h.ok⟩
  · have := List.mem_of_getElem? hq
    simp only [RF.blocks, List.mem_cons, List.mem_append, List.mem_map]
    exact .inr (.inr (.inr (.inr (.inl ⟨q, this, rfl⟩))))
  · rcases h.msk with h1 | ⟨B, h1, h2, h3⟩
    · exact .inl h1
    · exact .inr ⟨B, h1, h2, h3.of_block (hb B (by simp [RF.blocks, h1]))⟩
theorem RAt.dr {w w' : World} {F : RF} {s : RS} (h : RAt w F s) (d : Dr w w') : RAt w' F s := by
  obtain ⟨n, rfl⟩ := d
  exact h.keep (fun _ _ => rfl)
theorem RAt.blt {w : World} {F : RF} {s : RS} (h : RAt w F s) : ∀ B ∈ F.blocks, B < w.heap.size := by
  intro B hB
  simp only [RF.blocks, List.mem_cons, List.mem_append] at hB
  rcases hB with rfl | rfl | rfl | rfl | hB | hB
  · exact h.row.lt
  · exact h.pg.lt
  · exact h.er.lt
  · exact h.bl.lt
  · obtain ⟨q, hq, rfl⟩ := List.mem_map.1 hB
    obtain ⟨i, hi⟩ := List.mem_iff_getElem?.1 hq
    have hil : i < F.ps.length := (List.getElem?_eq_some_iff.1 hi).1
    exact (h.page i q (s.pages[i]'(by rw [← h.len]; exact hil)) hi (List.getElem?_eq_getElem _)).lt
  · exact h.mbl B (by simpa using hB)

/-- The cells of the struct, one by one. -/
theorem RAt.cCells {w : World} {F : RF} {s : RS} (h : RAt w F s) : w.cell? ⟨F.g, 0, none⟩ = some (.int .i64 s.c.cells) := h.row.cell 0 _ rfl
theorem RAt.cErases {w : World} {F : RF} {s : RS} (h : RAt w F s) : w.cell? ⟨F.g, 5, none⟩ = some (.int .i64 s.c.erases) := h.row.cell 5 _ rfl
theorem RAt.cPages {w : World} {F : RF} {s : RS} (h : RAt w F s) : w.cell? ⟨F.g, 7, none⟩ = some (.slice (some ⟨F.pB, 0, none⟩) s.pages.length F.pcap) := h.row.cell 7 _ rfl
theorem RAt.cEr {w : World} {F : RF} {s : RS} (h : RAt w F s) : w.cell? ⟨F.g, 8, none⟩ = some (.slice (some ⟨F.eB, 0, none⟩) s.erases.length F.ecap) := h.row.cell 8 _ rfl
theorem RAt.cBl {w : World} {F : RF} {s : RS} (h : RAt w F s) : w.cell? ⟨F.g, 9, none⟩ = some (.slice (some ⟨F.bB, 0, none⟩) s.blown.length F.bcap) := h.row.cell 9 _ rfl
theorem RAt.cN {w : World} {F : RF} {s : RS} (h : RAt w F s) : w.cell? ⟨F.g, 10, none⟩ = some (.int .i64 s.n) := h.row.cell 10 _ rfl
theorem RAt.cGone {w : World} {F : RF} {s : RS} (h : RAt w F s) : w.cell? ⟨F.g, 11, none⟩ = some (.bool s.gone) := h.row.cell 11 _ rfl
theorem RAt.cWait {w : World} {F : RF} {s : RS} (h : RAt w F s) : w.cell? ⟨F.g, 12, none⟩ = some (.int .i64 s.wait) := h.row.cell 12 _ rfl
theorem RAt.cMask {w : World} {F : RF} {s : RS} (h : RAt w F s) : w.cell? ⟨F.g, 13, none⟩ = some (.slice F.mo s.mask.length F.mcap) := h.row.cell 13 _ rfl

/-- Another row at the struct's block, the rest as it was. -/
theorem RAt.struct {w w' : World} {F : RF} {s s' : RS} (h : RAt w F s) (hs : SameBut F.g w w') (hr : Row w' F.g 46 (s'.cellsOf F)) (hp : s'.pages = s.pages) (he : s'.erases = s.erases) (hb : s'.blown = s.blown) (hm : s'.mask = s.mask) (hc : s'.c = s.c) : RAt w' F s' := by
  have hnd := h.nd
  simp only [RF.blocks, List.nodup_cons, List.mem_cons, List.mem_append, not_or] at hnd
  obtain ⟨⟨n1, n2, n3, n4, n5⟩, _⟩ := hnd
  refine ⟨hr, by rw [hp]; exact h.len, by rw [hp]; exact h.pg.of_block (hs.block _ (Ne.symm n1)), fun i q p hq hpp => ?_, by rw [he]; exact h.er.of_block (hs.block _ (Ne.symm n2)), by rw [hb]; exact h.bl.of_block (hs.block _ (Ne.symm n3)), ?_, fun B hB => by rw [hs.size]; exact h.mbl B hB, h.nd, ?_⟩
  · rw [hp] at hpp
    refine (h.page i q p hq hpp).of_block (hs.block _ ?_)
    rintro e
    exact n4 (e ▸ List.mem_map_of_mem (List.mem_of_getElem? hq))
  · rw [hm]
    rcases h.msk with h1 | ⟨B, h1, h2, h3⟩
    · exact .inl h1
    · refine .inr ⟨B, h1, h2, h3.of_block (hs.block B ?_)⟩
      rintro e
      exact n5 (by simp [h1, e])
  · have k := h.ok
    exact ⟨by rw [he, hp]; exact k.er, by rw [hp]; exact k.pg, by rw [hb]; exact k.bl, by rw [hp, hc]; exact k.cl, by rw [hc]; exact k.c1, by rw [hc]; exact k.c2, by rw [hp]; exact k.by8⟩
end Go.Proofs.YtcpdanjbnijoiaaGreatDoor


/-! The reference's chip: at, fuse, act, bits, Restore, Blown, Erases. -/
namespace Go.Proofs.YtcpdanjbnijoiaaGreatDoor
open Go.RowKit

set_option maxHeartbeats 1000000 in
set_option maxRecDepth 100000 in
theorem at_any (F : RF) (s : RS) (p c : Int) (w : World) (h : RAt w F s) :
    Calls Tryz.prog 69 #[.pointer (some ⟨F.g, 0, none⟩), .int .i64 p, .int .i64 c] w fun e w' => e = .returned (.int .i64 (s.at p c)) ∧ w' = w := by
  have c0 := h.cCells
  have c7 := h.cPages
  have c11 := h.cGone
  obtain ⟨r, hr⟩ : ∃ r, r = s.at p c := ⟨_, rfl⟩
  rw [← hr]
  have HR : Hid (r = s.at p c) := hr
  clear hr
  by_cases hg : s.gone = true
  · rw [hg] at c11
    go_enter Tryz.func69, Tryz.ntmps69
    go_wp2
    go_ret
    exact ⟨by rw [HR.out]; simp [RS.at, hg], rfl⟩
  have hg' : s.gone = false := by simpa using hg
  rw [hg'] at c11
  clear hg
  by_cases h1 : p < 0
  · have b1 : decide (p < 0) = true := by simpa using h1
    go_enter Tryz.func69, Tryz.ntmps69
    go_wp2
    go_ret
    exact ⟨by rw [HR.out]; simp [RS.at, hg', h1], rfl⟩
  have b1 : decide (p < 0) = false := by simpa using h1
  by_cases h2 : (s.pages.length : Int) ≤ p
  · have b2 : decide ((s.pages.length : Int) ≤ p) = true := by simpa using h2
    go_enter Tryz.func69, Tryz.ntmps69
    go_wp2
    go_ret
    exact ⟨by rw [HR.out]; simp [RS.at, hg', h2], rfl⟩
  have b2 : decide ((s.pages.length : Int) ≤ p) = false := by simpa using h2
  by_cases h3 : c < 0
  · have b3 : decide (c < 0) = true := by simpa using h3
    go_enter Tryz.func69, Tryz.ntmps69
    go_wp2
    go_ret
    exact ⟨by rw [HR.out]; simp [RS.at, hg', h3], rfl⟩
  have b3 : decide (c < 0) = false := by simpa using h3
  by_cases h4 : s.c.cells ≤ c
  · have b4 : decide (s.c.cells ≤ c) = true := by simpa using h4
    go_enter Tryz.func69, Tryz.ntmps69
    go_wp2
    go_ret
    exact ⟨by rw [HR.out]; simp [RS.at, hg', h4], rfl⟩
  have b4 : decide (s.c.cells ≤ c) = false := by simpa using h4
  go_enter Tryz.func69, Tryz.ntmps69
  go_wp2
  go_ret
  exact ⟨by rw [HR.out]; simp [RS.at, hg', h1, h2, h3, h4], rfl⟩

end Go.Proofs.YtcpdanjbnijoiaaGreatDoor


/-! The reference's chip: act, bits, Restore, Blown, Erases. -/
namespace Go.Proofs.YtcpdanjbnijoiaaGreatDoor
open Go.RowKit

theorem cells_n (s : RS) (F : RF) (n : Int) : (s.cellsOf F).set 10 (.int .i64 n) = ({ s with n := n } : RS).cellsOf F := rfl
theorem cells_gone (s : RS) (F : RF) (g : Bool) : (s.cellsOf F).set 11 (.bool g) = ({ s with gone := g } : RS).cellsOf F := rfl
theorem cells_wait (s : RS) (F : RF) (n : Int) : (s.cellsOf F).set 12 (.int .i64 n) = ({ s with wait := n } : RS).cellsOf F := rfl

set_option maxHeartbeats 1000000 in
set_option maxRecDepth 100000 in
theorem act_any (F : RF) (s : RS) (w : World) (h : RAt w F s) (hn0 : 0 ≤ s.n) (hn : s.n < 4611686018427387904) (hw : s.wait < 9223372036854775808) :
    Calls Tryz.prog 70 #[.pointer (some ⟨F.g, 0, none⟩)] w fun e w' => e = .returned (.bool s.cut) ∧ RAt w' F s.act ∧ SameBut F.g w w' := by
  have c10 := h.cN
  have c12 := h.cWait
  have c11 := h.cGone
  have f10 := h.row.frozen 10
  have f11 := h.row.frozen 11
  have f12 := h.row.frozen 12
  have j1 : IntKind.i64.wrap (s.n + 1) = s.n + 1 := i64_in _ (by omega) (by omega)
  have HN : Hid (s.n < 4611686018427387904) := hn
  have HW : Hid (s.wait < 9223372036854775808) := hw
  have r1 := h.row.set 10 (.int .i64 (s.n + 1))
  rw [cells_n] at r1
  have s1 := SameBut.setCell F.g 10 (.int .i64 (s.n + 1)) w
  obtain ⟨res, hres⟩ : ∃ r, r = s.cut := ⟨_, rfl⟩
  rw [← hres]
  have HR : Hid (res = s.cut) := hres
  clear hn hw hres hn0
  by_cases h0 : s.wait = 0
  · have e1 : (s.wait == 0) = true := by rw [beq_iff_eq]; exact h0
    have r2 := (r1.set 11 (.bool true)).set 12 (.int .i64 (-1))
    rw [cells_gone, cells_wait] at r2
    have s2 := (s1.trans (SameBut.setCell F.g 11 (.bool true) _)).trans (SameBut.setCell F.g 12 (.int .i64 (-1)) _)
    go_enter Tryz.func70, Tryz.ntmps70
    go_wp2
    go_ret
    refine ⟨by rw [HR.out]; simp [RS.cut, h0], ?_, s2⟩
    refine h.struct s2 ?_ rfl rfl rfl rfl rfl
    have e : s.act = { { { s with n := s.n + 1 } with gone := true } with wait := -1 } := by simp [RS.act, h0]
    rw [e]; exact r2
  · have e1 : (s.wait == 0) = false := by rw [beq_eq_false_iff_ne]; exact h0
    by_cases h1 : 0 < s.wait
    · have e2 : decide (0 < s.wait) = true := by simpa using h1
      have j2 : IntKind.i64.wrap (s.wait - 1) = s.wait - 1 := i64_in _ (by omega) (by have := HW.out; omega)
      have r2 := r1.set 12 (.int .i64 (s.wait - 1))
      rw [cells_wait] at r2
      have s2 := s1.trans (SameBut.setCell F.g 12 (.int .i64 (s.wait - 1)) _)
      go_enter Tryz.func70, Tryz.ntmps70
      go_wp2
      go_ret
      refine ⟨by rw [HR.out]; simp [RS.cut, h0], ?_, s2⟩
      refine h.struct s2 ?_ rfl rfl rfl rfl rfl
      have e : s.act = { { s with n := s.n + 1 } with wait := s.wait - 1 } := by simp [RS.act, h0, h1]
      rw [e]; exact r2
    · have e2 : decide (0 < s.wait) = false := by simpa using h1
      go_enter Tryz.func70, Tryz.ntmps70
      go_wp2
      go_ret
      refine ⟨by rw [HR.out]; simp [RS.cut, h0], ?_, s1⟩
      refine h.struct s1 ?_ rfl rfl rfl rfl rfl
      have e : s.act = { s with n := s.n + 1 } := by simp [RS.act, h0]; omega
      rw [e]; exact r1

set_option maxHeartbeats 1000000 in
set_option maxRecDepth 100000 in
theorem bits_any (F : RF) (s : RS) (i : Nat) (w : World) (h : RAt w F s) :
    Calls Tryz.prog 71 #[.pointer (some ⟨F.g, 0, none⟩), .int .i64 (i : Int)] w fun e w' => e = .returned (.int .u8 ((bitsAt s.mask i).toNat : Int)) ∧ Dr w w' := by
  have c13 := h.cMask
  rcases h.msk with h0 | ⟨B, h1, h2, h3⟩
  · have e0 : bitsAt s.mask i = 0 := by rw [h0]; rfl
    rw [e0]
    rw [h0] at c13
    go_enter Tryz.func71, Tryz.ntmps71
    go_wp2
    go_ret
    exact ⟨rfl, Dr.refl _⟩
  · by_cases hz : s.mask.length = 0
    · have h0 : s.mask = [] := List.length_eq_zero_iff.1 hz
      have e0 : bitsAt s.mask i = 0 := by rw [h0]; rfl
      rw [e0]
      rw [hz] at c13
      go_enter Tryz.func71, Tryz.ntmps71
      go_wp2
      go_ret
      exact ⟨rfl, Dr.refl _⟩
    · have hpos : 0 < s.mask.length := by omega
      have hlt : i % s.mask.length < s.mask.length := Nat.mod_lt _ hpos
      have cx : w.cell? ⟨B, i % s.mask.length, none⟩ = some (.int .u8 ((bitsAt s.mask i).toNat : Int)) := h3.cell _ _ (by
        unfold bitsAt
        rw [List.getElem?_map, List.getD_eq_getElem?_getD, List.getElem?_eq_getElem hlt]; rfl)
      rw [h2] at c13
      generalize bitsAt s.mask i = x at cx ⊢
      have e1 : ((s.mask.length : Int) == 0) = false := by rw [beq_eq_false_iff_ne]; omega
      have hrem : (i : Int) % (s.mask.length : Int) = ((i % s.mask.length : Nat) : Int) := by simp
      have hrem2 : (i : Int).tmod (s.mask.length : Int) = ((i % s.mask.length : Nat) : Int) := by rw [Int.tmod_eq_emod_of_nonneg (by omega)]; simp
      generalize hm : i % s.mask.length = m at *
      generalize s.mask.length = L at *
      have i1 : (0 : Int) ≤ (m : Int) := by omega
      have i2 : (m : Int) < (L : Int) := by omega
      clear hm
      go_enter Tryz.func71, Tryz.ntmps71
      go_wp2
      go_quiet (fail)
      go_wp2
      go_ret
      exact ⟨rfl, ⟨nq, rfl⟩⟩

set_option maxHeartbeats 1000000 in
set_option maxRecDepth 100000 in
theorem restore_any (F : RF) (s : RS) (w : World) (h : RAt w F s) :
    Calls Tryz.prog 34 #[.pointer (some ⟨F.g, 0, none⟩)] w fun e w' => e = .returned (.tuple #[]) ∧ RAt w' F { s with gone := false } ∧ SameBut F.g w w' := by
  have c11 := h.cGone
  have f11 := h.row.frozen 11
  have r1 := h.row.set 11 (.bool false)
  rw [cells_gone] at r1
  have s1 := SameBut.setCell F.g 11 (.bool false) w
  go_enter Tryz.func34, Tryz.ntmps34
  go_wp2
  go_end0
  exact ⟨rfl, h.struct s1 r1 rfl rfl rfl rfl rfl, s1⟩

theorem at_zero {s : RS} {p c : Int} (h : s.at p c = 0) : s.gone = false ∧ 0 ≤ p ∧ p < (s.pages.length : Int) ∧ 0 ≤ c ∧ c < s.c.cells := by
  unfold RS.at at h
  split at h
  · omega
  · rename_i hg
    split at h
    · omega
    · rename_i hh
      refine ⟨by simpa using hg, by omega, by omega, by omega, by omega⟩

end Go.Proofs.YtcpdanjbnijoiaaGreatDoor


/-! Cells of 32 bytes within a page; whole arrays loaded and stored. -/
namespace Go.Proofs.YtcpdanjbnijoiaaGreatDoor
open Go.RowKit

theorem row_whole {w : World} {g t : Nat} {old new : List Value} (h : Row w g t (old.take 0 ++ new ++ old.drop (0 + new.length))) (hl : old.length ≤ new.length) : Row w g t new := by
  rw [List.take_zero, List.nil_append, Nat.zero_add, List.drop_eq_nil_of_le hl, List.append_nil] at h; exact h
theorem Dr.cell {w w' : World} (h : Dr w w') {a : Addr} {v : Value} (c : w.cell? a = some v) : w'.cell? a = some v := by
  obtain ⟨n, rfl⟩ := h; exact c
theorem wpList_load_part {P : Program} {ops : Array Oper} {rest : List Oper} {op : Oper} {a : Act} {w : World} {Q : Exit → Act → World → Prop} (hgd : op.guard = none) (ty : TypeId) (x : Operand) (ho : op.op = .load ty x)
    (g o t n : Nat) (cs : List Value) (hr : Row w g t cs) (hx : a.eval x = .pointer (some ⟨g, o, none⟩)) (d : TypeDesc) (cs' : List Value) (hcs : (cs.drop o).take n = cs') (hn : cs'.length = n)
    (hu : P.underlying ty = some d) (hd : d.isRow = true) (hi : (P.info? ty).map (·.size) = some n)
    (h : wpList P ops Q rest (a.put op.dst (.agg cs'.toArray)) w) : wpList P ops Q (op :: rest) a w := by
  subst hcs
  exact wpList_load_mid hgd ty x ho g o hx _ d (hr.range o n) hu hd (by rw [hn]; exact hi) h

theorem flat_len : ∀ (p : List (List By)), (∀ x ∈ p, x.length = 32) → p.flatten.length = 32 * p.length
  | [], _ => rfl
  | x :: p, h => by
    rw [List.flatten_cons, List.length_append, h x (by simp), flat_len p (fun y hy => h y (by simp [hy])), List.length_cons]; omega
theorem flat_seg : ∀ (p : List (List By)), (∀ x ∈ p, x.length = 32) → ∀ c, c < p.length → (p.flatten.drop (32 * c)).take 32 = p.getD c []
  | x :: p, h, 0, _ => by
    rw [List.flatten_cons, Nat.mul_zero, List.drop_zero, List.take_left' (h x (by simp))]; rfl
  | x :: p, h, c + 1, hc => by
    rw [List.flatten_cons, show 32 * (c + 1) = 32 + 32 * c by omega, List.drop_append, h x (by simp), List.drop_eq_nil_of_le (by rw [h x (by simp)]; omega), List.nil_append, show 32 + 32 * c - 32 = 32 * c by omega]
    exact flat_seg p (fun y hy => h y (by simp [hy])) c (by simpa using hc)
theorem flat_get (p : List (List By)) (h : ∀ x ∈ p, x.length = 32) (c i : Nat) (hc : c < p.length) (hi : i < 32) : p.flatten[32 * c + i]? = some ((p.getD c []).getD i 0) := by
  have h1 := flat_seg p h c hc
  have hl : (p.getD c []).length = 32 := by
    rw [List.getD_eq_getElem?_getD, List.getElem?_eq_getElem hc]; exact h _ (List.getElem_mem hc)
  have h2 : ((p.flatten.drop (32 * c)).take 32)[i]? = p.flatten[32 * c + i]? := by
    rw [List.getElem?_take, if_pos hi, List.getElem?_drop]
  generalize p.getD c [] = x at h1 hl ⊢
  rw [← h2, h1, List.getD_eq_getElem?_getD, List.getElem?_eq_getElem (by omega)]; rfl
theorem flat_set : ∀ (p : List (List By)), (∀ x ∈ p, x.length = 32) → ∀ (c i : Nat) (v : By), c < p.length → i < 32 → p.flatten.set (32 * c + i) v = (p.set c ((p.getD c []).set i v)).flatten
  | x :: p, h, 0, i, v, _, hi => by
    rw [List.flatten_cons, Nat.mul_zero, Nat.zero_add, List.set_append_left _ _ (by rw [h x (by simp)]; exact hi), List.set_cons_zero, List.flatten_cons]; rfl
  | x :: p, h, c + 1, i, v, hc, hi => by
    rw [List.flatten_cons, List.set_append_right _ _ (by rw [h x (by simp)]; omega), h x (by simp), List.set_cons_succ, List.flatten_cons, show 32 * (c + 1) + i - 32 = 32 * c + i by omega, flat_set p (fun y hy => h y (by simp [hy])) c i v (by simpa using hc) hi]; rfl

/-- The cell number c of page p. -/
def RS.cell (s : RS) (p c : Nat) : List By := (s.pages.getD p []).getD c []
def RS.setCell (s : RS) (p c : Nat) (x : List By) : RS := { s with pages := s.pages.set p ((s.pages.getD p []).set c x) }

theorem RAt.pageAt {w : World} {F : RF} {s : RS} (h : RAt w F s) (p : Nat) (hp : p < s.pages.length) : ∃ q, F.ps[p]? = some q ∧ w.cell? ⟨F.pB, p, none⟩ = some (.slice (some ⟨q.1, 0, none⟩) (s.pages.getD p []).length q.2) ∧ Pre w q.1 55 ((s.pages.getD p []).flatten.map B8) ∧ q.1 ∈ F.blocks ∧ q.1 ≠ F.g ∧ q.1 ≠ F.pB := by
  have hq : F.ps[p]? = some (F.ps[p]'(by rw [h.len]; exact hp)) := List.getElem?_eq_getElem _
  have hpp : s.pages[p]? = some s.pages[p] := List.getElem?_eq_getElem hp
  have hd : s.pages.getD p [] = s.pages[p] := by rw [List.getD_eq_getElem?_getD, hpp]; rfl
  have hm : (F.ps[p]'(by rw [h.len]; exact hp)).1 ∈ F.ps.map (·.1) := List.mem_map_of_mem (List.getElem_mem _)
  have hnd := h.nd
  simp only [RF.blocks, List.nodup_cons, List.mem_cons, List.mem_append, not_or] at hnd
  obtain ⟨⟨n1, n2, n3, n4, n5⟩, ⟨m1, m2, m3, m4⟩, _⟩ := hnd
  refine ⟨_, hq, ?_, ?_, ?_, fun e => n4 (e ▸ hm), fun e => m3 (e ▸ hm)⟩
  · rw [hd]
    exact h.pg.cell p _ (by rw [List.getElem?_zipWith, hq, hpp]; rfl)
  · rw [hd]; exact h.page p _ _ hq hpp
  · simp only [RF.blocks, List.mem_cons, List.mem_append]
    exact .inr (.inr (.inr (.inr (.inl hm))))

theorem RS.Ok.pgLen {s : RS} (h : s.Ok) (p : Nat) (hp : p < s.pages.length) : ((s.pages.getD p []).length : Int) = s.c.cells ∧ ∀ x ∈ s.pages.getD p [], x.length = 32 := by
  have hd : s.pages.getD p [] = s.pages[p] := by rw [List.getD_eq_getElem?_getD, List.getElem?_eq_getElem hp]; rfl
  rw [hd]
  exact ⟨h.cl _ (List.getElem_mem hp), h.by8 _ (List.getElem_mem hp)⟩
end Go.Proofs.YtcpdanjbnijoiaaGreatDoor


namespace Go.Proofs.YtcpdanjbnijoiaaGreatDoor
open Go.RowKit

theorem results_Row_tmp {fn : Func} {p u : Tmp} {ty : TypeId} (h : fn.results = #[.cell p ty, .tmp u]) (tmps : Array Value) (w : World) (g t : Nat) (cs : List Value) (d : TypeDesc)
    (hp : tmps.getD p undef = .pointer (some ⟨g, 0, none⟩)) (hr : Row w g t cs) (hu : Tryz.prog.underlying ty = some d) (hd : d.isRow = true) (hi : (Tryz.prog.info? ty).map (·.size) = some cs.length) :
    (results fn tmps).run Tryz.prog w = .ok (.tuple #[.agg cs.toArray, tmps.getD u undef]) w := by
  rw [results_cell_tmp h]
  have hl := run_loadVar_mid (P := Tryz.prog) w g 0 ty cs d (by have := hr.range 0 cs.length; simpa using this) hu hd hi
  simp [hp, asAddr, hl]

end Go.Proofs.YtcpdanjbnijoiaaGreatDoor


/-! A byte of a cell written; a fuse, a count written. -/
namespace Go.Proofs.YtcpdanjbnijoiaaGreatDoor
open Go.RowKit

/-- All old blocks but some are as they were. -/
structure KeptL (L : List Nat) (w w' : World) : Prop where
  os : w'.os = w.os
  tape : w'.tape = w.tape
  output : w'.output = w.output
  size : w.heap.size ≤ w'.heap.size
  block : ∀ k, k < w.heap.size → k ∉ L → w'.heap[k]? = w.heap[k]?
theorem KeptL.refl (L : List Nat) (w : World) : KeptL L w w := ⟨rfl, rfl, rfl, Nat.le_refl _, fun _ _ _ => rfl⟩
theorem KeptL.trans {L : List Nat} {a b c : World} (h : KeptL L a b) (k : KeptL L b c) : KeptL L a c :=
  ⟨k.os.trans h.os, k.tape.trans h.tape, k.output.trans h.output, Nat.le_trans h.size k.size, fun i hi hne => (k.block i (Nat.lt_of_lt_of_le hi h.size) hne).trans (h.block i hi hne)⟩
theorem KeptL.but {L : List Nat} {D : Nat} {a w w' : World} (h : KeptL L a w) (hs : SameBut D w w') (hD : D ∈ L ∨ a.heap.size ≤ D) : KeptL L a w' :=
  ⟨hs.os.trans h.os, hs.tape.trans h.tape, hs.output.trans h.output, by rw [hs.size]; exact h.size, fun k hk hne => (hs.block k (by rintro rfl; rcases hD with h1 | h1; exact hne h1; omega)).trans (h.block k hk hne)⟩
theorem KeptL.below {L : List Nat} {a w w' : World} {N : Nat} (h : KeptL L a w) (hb : Below N w w') (hN : a.heap.size ≤ N) : KeptL L a w' :=
  ⟨hb.os.trans h.os, hb.tape.trans h.tape, hb.output.trans h.output, Nat.le_trans h.size hb.size, fun k hk hne => (hb.block k (by omega)).trans (h.block k hk hne)⟩
theorem KeptL.dr {L : List Nat} {a w w' : World} (h : KeptL L a w) (d : Dr w w') : KeptL L a w' := by
  obtain ⟨n, rfl⟩ := d; exact ⟨h.os, h.tape, h.output, h.size, h.block⟩

theorem setCell_pages (s : RS) (p c : Nat) (x : List By) (i : Nat) : (s.setCell p c x).pages[i]? = if i = p ∧ p < s.pages.length then some ((s.pages.getD p []).set c x) else s.pages[i]? := by
  unfold RS.setCell
  simp only [List.getElem?_set]
  by_cases h : p = i
  · subst h
    by_cases hl : p < s.pages.length
    · simp [hl]
    · simp [hl]
  · have : ¬ i = p := fun e => h e.symm
    simp [h, this]

theorem RAt.setByte {w : World} {F : RF} {s : RS} (h : RAt w F s) (p c i : Nat) (hp : p < s.pages.length) (hc : (c : Int) < s.c.cells) (hi : i < 32) (q : Nat × Nat) (hq : F.ps[p]? = some q) (v : By) :
    RAt (w.setCell ⟨q.1, c * 32 + i, none⟩ (.int .u8 (v.toNat : Int))) F (s.setCell p c ((s.cell p c).set i v)) := by
  obtain ⟨k1, k2⟩ := h.ok.pgLen p hp
  have sb := SameBut.setCell q.1 (c * 32 + i) (.int .u8 (v.toNat : Int)) w
  have hm : q.1 ∈ F.ps.map (·.1) := List.mem_map_of_mem (List.mem_of_getElem? hq)
  have hnd := h.nd
  simp only [RF.blocks, List.nodup_cons, List.mem_cons, List.mem_append, not_or] at hnd
  obtain ⟨⟨n1, n2, n3, n4, n5⟩, ⟨m1, m2, m3, m4⟩, ⟨o1, o2, o3⟩, ⟨u1, u2⟩, hnd2⟩ := hnd
  have hd : s.pages.getD p [] = s.pages[p] := by rw [List.getD_eq_getElem?_getD, List.getElem?_eq_getElem hp]; rfl
  have hcl : c < (s.pages.getD p []).length := by omega
  have hnp : (F.ps.map (·.1)).Nodup := (List.nodup_append.1 hnd2).1
  have hnm : ∀ a ∈ F.ps.map (·.1), ∀ b ∈ F.mb.toList, a ≠ b := (List.nodup_append.1 hnd2).2.2
  refine ⟨?_, by show F.ps.length = (s.setCell p c _).pages.length; unfold RS.setCell; simp only [List.length_set]; exact h.len, ?_, ?_, h.er.of_block (sb.block _ (fun e => o2 (e ▸ hm))), h.bl.of_block (sb.block _ (fun e => u1 (e ▸ hm))), ?_, fun B hB => by rw [sb.size]; exact h.mbl B hB, h.nd, ?_⟩
  · have : (s.setCell p c ((s.cell p c).set i v)).cellsOf F = s.cellsOf F := by simp [RS.cellsOf, RS.setCell]
    rw [this]
    exact h.row.but sb (fun e => n4 (e ▸ hm))
  · have : List.zipWith pgVal F.ps (s.setCell p c ((s.cell p c).set i v)).pages = List.zipWith pgVal F.ps s.pages := by
      apply List.ext_getElem?
      intro j
      rw [List.getElem?_zipWith, List.getElem?_zipWith, setCell_pages]
      by_cases hj : j = p
      · rw [if_pos ⟨hj, hp⟩, hj, List.getElem?_eq_getElem hp, hq, hd]
        simp [pgVal]
      · rw [if_neg (fun h => hj h.1)]
    rw [this]
    exact h.pg.of_block (sb.block _ (fun e => m3 (e ▸ hm)))
  · intro j q' p' hq' hp'
    rw [setCell_pages] at hp'
    by_cases hj : j = p
    · rw [if_pos ⟨hj, hp⟩] at hp'
      injection hp' with hp'
      subst hp'
      rw [hj, hq] at hq'
      injection hq' with hq'
      subst hq'
      have h1 := (h.page p q s.pages[p] hq (List.getElem?_eq_getElem hp)).set (c * 32 + i) (.int .u8 (v.toNat : Int)) (by rw [List.length_map, flat_len _ (by rw [← hd]; exact k2), ← hd]; omega)
      have h2 : ((s.pages[p].flatten.map B8).set (c * 32 + i) (.int .u8 (v.toNat : Int))) = (((s.pages.getD p []).set c ((s.cell p c).set i v)).flatten.map B8) := by
        have e : Value.int .u8 (v.toNat : Int) = B8 v := rfl
        rw [e, ← List.map_set, Nat.mul_comm, ← hd, flat_set _ k2 c i v hcl hi]; rfl
      rw [h2] at h1
      exact h1
    · rw [if_neg (fun h => hj h.1)] at hp'
      refine (h.page j q' p' hq' hp').of_block (sb.block _ ?_)
      intro e
      have hjl := (List.getElem?_eq_some_iff.1 hq').1
      have hpl := (List.getElem?_eq_some_iff.1 hq).1
      have a1 : (F.ps.map (·.1))[j]'(by simpa using hjl) = q'.1 := by simp [(List.getElem?_eq_some_iff.1 hq').2]
      have a2 : (F.ps.map (·.1))[p]'(by simpa using hpl) = q.1 := by simp [(List.getElem?_eq_some_iff.1 hq).2]
      have hpw := List.pairwise_iff_getElem.1 hnp
      have hjp : j ≠ p := hj
      rcases Nat.lt_or_gt_of_ne hjp with hl | hl
      · exact hpw j p (by simpa using hjl) (by simpa using hpl) hl (by rw [a1, a2]; exact e)
      · exact hpw p j (by simpa using hpl) (by simpa using hjl) hl (by rw [a1, a2]; exact e.symm)
  · rcases h.msk with h1 | ⟨B, h1, h2, h3⟩
    · exact .inl h1
    · exact .inr ⟨B, h1, h2, h3.of_block (sb.block B (fun e => hnm q.1 hm B (by simp [h1]) e.symm))⟩
  · have k := h.ok
    have hlen : (s.setCell p c ((s.cell p c).set i v)).pages.length = s.pages.length := by unfold RS.setCell; simp
    have hmem : ∀ pg ∈ (s.setCell p c ((s.cell p c).set i v)).pages, pg ∈ s.pages ∨ pg = (s.pages.getD p []).set c ((s.cell p c).set i v) := by
      intro pg hpg
      rcases List.mem_or_eq_of_mem_set hpg with h1 | h1
      · exact .inl h1
      · exact .inr h1
    refine ⟨by rw [hlen]; exact k.er, by rw [hlen]; exact k.pg, k.bl, ?_, k.c1, k.c2, ?_⟩
    · intro pg hpg
      rcases hmem pg hpg with h1 | rfl
      · exact k.cl pg h1
      · rw [List.length_set]; exact k1
    · intro pg hpg x hx
      rcases hmem pg hpg with h1 | rfl
      · exact k.by8 pg h1 x hx
      · rcases List.mem_or_eq_of_mem_set hx with h2 | rfl
        · exact k2 x h2
        · rw [List.length_set]
          unfold RS.cell
          rw [List.getD_eq_getElem?_getD, List.getElem?_eq_getElem hcl]
          exact k2 _ (List.getElem_mem _)
end Go.Proofs.YtcpdanjbnijoiaaGreatDoor
