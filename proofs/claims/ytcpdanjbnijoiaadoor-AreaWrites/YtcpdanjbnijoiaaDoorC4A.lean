import Derived.Test.YtcpdanjbnijoiaaDoorR4Set
import Derived.Laws.BytesString

/-! The code's chip: where it lies in memory. What it holds is told as the document's chip (RS); its mask is a text of its own that says the same of every byte of a page. -/
namespace Go.Proofs.YtcpdanjbnijoiaaDoor
open Go.RowKit

/-- A string's bytes. -/
def StrIs (S : ByteArray) (m : List By) : Prop := S.size = m.length ∧ ∀ i, (h : i < S.size) → (S[i]'h).toNat = (m.getD i 0).toNat

/-- What a mask kept says of the mask that was handed in. -/
def MskIs (cells : Int) (mask : List By) (S : ByteArray) : Prop := ∃ m, StrIs S m ∧ m ≠ [] ∧ ∀ i : Nat, (i : Int) < 32 * cells → bitsAt m i = bitsAt mask i

def RS.ccells (s : RS) (F : RF) (S : ByteArray) : List Value := s.c.vals ++ [.slice (some ⟨F.pB, 0, none⟩) s.pages.length F.pcap, .slice (some ⟨F.eB, 0, none⟩) s.erases.length F.ecap, .slice (some ⟨F.bB, 0, none⟩) s.blown.length F.bcap,
  .int .i64 s.n, .bool s.gone, .bool (decide (0 ≤ s.wait)), .int .i64 (s.wait.toNat : Int), .string S]

structure CAt (w : World) (F : RF) (s : RS) (S : ByteArray) : Prop where
  row : Row w F.g 58 (s.ccells F S)
  len : F.ps.length = s.pages.length
  pg : Pre w F.pB 38 (List.zipWith pgVal F.ps s.pages)
  page : ∀ (i : Nat) (q : Nat × Nat) (p : List (List By)), F.ps[i]? = some q → s.pages[i]? = some p → Pre w q.1 40 (p.flatten.map B8)
  er : Pre w F.eB 3 (s.erases.map (Value.int .i64))
  bl : Pre w F.bB 4 (s.blown.map Value.bool)
  mb : F.mb = none
  nd : F.blocks.Nodup
  ok : s.Ok
  wt : -1 ≤ s.wait
  msk : 0 ≤ s.wait → MskIs s.c.cells s.mask S

theorem CAt.blt {w : World} {F : RF} {s : RS} {S : ByteArray} (h : CAt w F s S) : ∀ B ∈ F.blocks, B < w.heap.size := by
  intro B hB
  simp only [RF.blocks, List.mem_cons, List.mem_append, h.mb, Option.toList, List.not_mem_nil, or_false] at hB
  rcases hB with rfl | rfl | rfl | rfl | hB
  · exact h.row.lt
  · exact h.pg.lt
  · exact h.er.lt
  · exact h.bl.lt
  · obtain ⟨q, hq, rfl⟩ := List.mem_map.1 hB
    obtain ⟨i, hi⟩ := List.mem_iff_getElem?.1 hq
    have hil : i < F.ps.length := (List.getElem?_eq_some_iff.1 hi).1
    exact (h.page i q (s.pages[i]'(by rw [← h.len]; exact hil)) hi (List.getElem?_eq_getElem _)).lt
theorem CAt.keep {w w' : World} {F : RF} {s : RS} {S : ByteArray} (h : CAt w F s S) (hb : ∀ B ∈ F.blocks, w'.heap[B]? = w.heap[B]?) : CAt w' F s S := by
  refine ⟨(hb F.g (by simp [RF.blocks])).trans h.row, h.len, h.pg.of_block (hb _ (by simp [RF.blocks])), fun i q p hq hp => (h.page i q p hq hp).of_block (hb _ ?_), h.er.of_block (hb _ (by simp [RF.blocks])), h.bl.of_block (hb _ (by simp [RF.blocks])), h.mb, h.nd, h.ok, h.wt, h.msk⟩
  have := List.mem_of_getElem? hq
  simp only [RF.blocks, List.mem_cons, List.mem_append, List.mem_map]
  exact .inr (.inr (.inr (.inr (.inl ⟨q, this, rfl⟩))))
theorem CAt.dr {w w' : World} {F : RF} {s : RS} {S : ByteArray} (h : CAt w F s S) (d : Dr w w') : CAt w' F s S := by
  obtain ⟨n, rfl⟩ := d
  exact h.keep (fun _ _ => rfl)
theorem CAt.below {w w' : World} {F : RF} {s : RS} {S : ByteArray} {N : Nat} (h : CAt w F s S) (hb : Below N w w') (hN : w.heap.size ≤ N) : CAt w' F s S :=
  h.keep fun B hB => hb.block B (Nat.lt_of_lt_of_le (h.blt B hB) hN)

theorem CAt.cPages {w : World} {F : RF} {s : RS} {S : ByteArray} (h : CAt w F s S) : w.cell? ⟨F.g, 7, none⟩ = some (.slice (some ⟨F.pB, 0, none⟩) s.pages.length F.pcap) := h.row.cell 7 _ rfl
theorem CAt.cCells {w : World} {F : RF} {s : RS} {S : ByteArray} (h : CAt w F s S) : w.cell? ⟨F.g, 0, none⟩ = some (.int .i64 s.c.cells) := h.row.cell 0 _ rfl
theorem CAt.cErases {w : World} {F : RF} {s : RS} {S : ByteArray} (h : CAt w F s S) : w.cell? ⟨F.g, 5, none⟩ = some (.int .i64 s.c.erases) := h.row.cell 5 _ rfl
theorem CAt.cEr {w : World} {F : RF} {s : RS} {S : ByteArray} (h : CAt w F s S) : w.cell? ⟨F.g, 8, none⟩ = some (.slice (some ⟨F.eB, 0, none⟩) s.erases.length F.ecap) := h.row.cell 8 _ rfl
theorem CAt.cBl {w : World} {F : RF} {s : RS} {S : ByteArray} (h : CAt w F s S) : w.cell? ⟨F.g, 9, none⟩ = some (.slice (some ⟨F.bB, 0, none⟩) s.blown.length F.bcap) := h.row.cell 9 _ rfl
theorem CAt.cN {w : World} {F : RF} {s : RS} {S : ByteArray} (h : CAt w F s S) : w.cell? ⟨F.g, 10, none⟩ = some (.int .i64 s.n) := h.row.cell 10 _ rfl
theorem CAt.cGone {w : World} {F : RF} {s : RS} {S : ByteArray} (h : CAt w F s S) : w.cell? ⟨F.g, 11, none⟩ = some (.bool s.gone) := h.row.cell 11 _ rfl
theorem CAt.cWaits {w : World} {F : RF} {s : RS} {S : ByteArray} (h : CAt w F s S) : w.cell? ⟨F.g, 12, none⟩ = some (.bool (decide (0 ≤ s.wait))) := h.row.cell 12 _ rfl
theorem CAt.cAhead {w : World} {F : RF} {s : RS} {S : ByteArray} (h : CAt w F s S) : w.cell? ⟨F.g, 13, none⟩ = some (.int .i64 (s.wait.toNat : Int)) := h.row.cell 13 _ rfl
theorem CAt.cMask {w : World} {F : RF} {s : RS} {S : ByteArray} (h : CAt w F s S) : w.cell? ⟨F.g, 14, none⟩ = some (.string S) := h.row.cell 14 _ rfl

/-- Another row at the struct's block, the rest as it was. -/
theorem CAt.struct {w w' : World} {F : RF} {s s' : RS} {S S' : ByteArray} (h : CAt w F s S) (hs : SameBut F.g w w') (hr : Row w' F.g 58 (s'.ccells F S')) (hp : s'.pages = s.pages) (he : s'.erases = s.erases) (hb : s'.blown = s.blown) (hc : s'.c = s.c) (hw : -1 ≤ s'.wait) (hm : 0 ≤ s'.wait → MskIs s'.c.cells s'.mask S') : CAt w' F s' S' := by
  have hnd := h.nd
  simp only [RF.blocks, List.nodup_cons, List.mem_cons, List.mem_append, not_or] at hnd
  obtain ⟨⟨n1, n2, n3, n4, n5⟩, _⟩ := hnd
  refine ⟨hr, by rw [hp]; exact h.len, by rw [hp]; exact h.pg.of_block (hs.block _ (Ne.symm n1)), fun i q p hq hpp => ?_, by rw [he]; exact h.er.of_block (hs.block _ (Ne.symm n2)), by rw [hb]; exact h.bl.of_block (hs.block _ (Ne.symm n3)), h.mb, h.nd, ?_, hw, hm⟩
  · rw [hp] at hpp
    refine (h.page i q p hq hpp).of_block (hs.block _ ?_)
    rintro e
    exact n4 (e ▸ List.mem_map_of_mem (List.mem_of_getElem? hq))
  · have k := h.ok
    exact ⟨by rw [he, hp]; exact k.er, by rw [hp]; exact k.pg, by rw [hb]; exact k.bl, by rw [hp, hc]; exact k.cl, by rw [hc]; exact k.c1, by rw [hc]; exact k.c2, by rw [hp]; exact k.by8⟩

theorem CAt.pageAt {w : World} {F : RF} {s : RS} {S : ByteArray} (h : CAt w F s S) (p : Nat) (hp : p < s.pages.length) : ∃ q, F.ps[p]? = some q ∧ w.cell? ⟨F.pB, p, none⟩ = some (.slice (some ⟨q.1, 0, none⟩) (s.pages.getD p []).length q.2) ∧ Pre w q.1 40 ((s.pages.getD p []).flatten.map B8) ∧ q.1 ∈ F.blocks ∧ q.1 ≠ F.g ∧ q.1 ≠ F.pB := by
  have hq : F.ps[p]? = some (F.ps[p]'(by rw [h.len]; exact hp)) := List.getElem?_eq_getElem _
  have hpp : s.pages[p]? = some s.pages[p] := List.getElem?_eq_getElem hp
  have hd : s.pages.getD p [] = s.pages[p] := by rw [List.getD_eq_getElem?_getD, hpp]; rfl
  have hm : (F.ps[p]'(by rw [h.len]; exact hp)).1 ∈ F.ps.map (·.1) := List.mem_map_of_mem (List.getElem_mem _)
  have hnd := h.nd
  simp only [RF.blocks, List.nodup_cons, List.mem_cons, List.mem_append, not_or] at hnd
  obtain ⟨⟨n1, n2, n3, n4, n5⟩, ⟨m1, m2, m3, m4⟩, _⟩ := hnd
  refine ⟨_, hq, ?_, ?_, ?_, fun e => n4 (e ▸ hm), fun e => m3 (e ▸ hm)⟩
  · rw [hd]
    exact h.pg.cell p _ (by rw [List.getElem?_zipWith, hq, hpp]; rfl)
  · rw [hd]; exact h.page p _ _ hq hpp
  · simp only [RF.blocks, List.mem_cons, List.mem_append]
    exact .inr (.inr (.inr (.inr (.inl hm))))

/-- A page written over. -/
theorem CAt.setPage {w w' : World} {F : RF} {s : RS} {S : ByteArray} (h : CAt w F s S) (p : Nat) (hp : p < s.pages.length) (q : Nat × Nat) (hq : F.ps[p]? = some q) (pg : List (List By)) (hl : pg.length = (s.pages.getD p []).length) (h8 : ∀ x ∈ pg, x.length = 32) (hr : Pre w' q.1 40 (pg.flatten.map B8)) (hk : ∀ B ∈ F.blocks, B ≠ q.1 → w'.heap[B]? = w.heap[B]?) :
    CAt w' F { s with pages := s.pages.set p pg } S := by
  have hm : q.1 ∈ F.ps.map (·.1) := List.mem_map_of_mem (List.mem_of_getElem? hq)
  have hnd := h.nd
  simp only [RF.blocks, List.nodup_cons, List.mem_cons, List.mem_append, not_or] at hnd
  obtain ⟨⟨n1, n2, n3, n4, n5⟩, ⟨m1, m2, m3, m4⟩, ⟨o1, o2, o3⟩, ⟨u1, u2⟩, hnd2⟩ := hnd
  have hnp : (F.ps.map (·.1)).Nodup := (List.nodup_append.1 hnd2).1
  have hd : s.pages.getD p [] = s.pages[p] := by rw [List.getD_eq_getElem?_getD, List.getElem?_eq_getElem hp]; rfl
  have hin : ∀ {x}, x = F.g ∨ x = F.pB ∨ x = F.eB ∨ x = F.bB → x ∈ F.blocks := by
    rintro x (rfl | rfl | rfl | rfl) <;> simp [RF.blocks]
  refine ⟨?_, by show F.ps.length = (s.pages.set p pg).length; rw [List.length_set]; exact h.len, ?_, ?_, h.er.of_block (hk _ (hin (by simp)) (fun e => o2 (e ▸ hm))), h.bl.of_block (hk _ (hin (by simp)) (fun e => u1 (e ▸ hm))), h.mb, h.nd, ?_, h.wt, h.msk⟩
  · have : ({ s with pages := s.pages.set p pg } : RS).ccells F S = s.ccells F S := by simp [RS.ccells]
    rw [this]
    exact (hk F.g (hin (by simp)) (fun e => n4 (e ▸ hm))).trans h.row
  · have : List.zipWith pgVal F.ps (s.pages.set p pg) = List.zipWith pgVal F.ps s.pages := by
      apply List.ext_getElem?
      intro j
      rw [List.getElem?_zipWith, List.getElem?_zipWith, List.getElem?_set]
      by_cases hj : p = j
      · subst hj
        rw [if_pos rfl, if_pos hp, hq, List.getElem?_eq_getElem hp]
        simp only [pgVal]
        rw [hl, hd]
      · rw [if_neg hj]
    show Pre _ _ _ (List.zipWith pgVal F.ps (s.pages.set p pg))
    rw [this]
    exact h.pg.of_block (hk _ (hin (by simp)) (fun e => m3 (e ▸ hm)))
  · intro j q' p' hq' hp'
    have hp'' : (s.pages.set p pg)[j]? = some p' := hp'
    rw [List.getElem?_set] at hp''
    by_cases hj : p = j
    · subst hj
      rw [if_pos rfl, if_pos hp] at hp''
      injection hp'' with hp''
      subst hp''
      rw [hq] at hq'
      injection hq' with hq'
      subst hq'
      exact hr
    · rw [if_neg hj] at hp''
      have hne : q'.1 ≠ q.1 := by
        intro e
        have e1 : (F.ps.map (·.1))[j]? = some q'.1 := by rw [List.getElem?_map, hq']; rfl
        have e2 : (F.ps.map (·.1))[p]? = some q.1 := by rw [List.getElem?_map, hq]; rfl
        have hjl := (List.getElem?_eq_some_iff.1 e1).1
        exact hj (((List.getElem?_inj hjl hnp).1 (by rw [e1, e2, e])).symm)
      refine (h.page j q' p' hq' hp'').of_block (hk _ ?_ hne)
      simp only [RF.blocks, List.mem_cons, List.mem_append]
      exact .inr (.inr (.inr (.inr (.inl (List.mem_map_of_mem (List.mem_of_getElem? hq'))))))
  · have k := h.ok
    refine ⟨by show _ = (s.pages.set p pg).length; rw [List.length_set]; exact k.er, by show (s.pages.set p pg).length ≤ _; rw [List.length_set]; exact k.pg, k.bl, ?_, k.c1, k.c2, ?_⟩
    · intro x hx
      rcases List.mem_or_eq_of_mem_set hx with hx | rfl
      · exact k.cl x hx
      · rw [hl]; exact (k.pgLen p hp).1
    · intro x hx
      rcases List.mem_or_eq_of_mem_set hx with hx | rfl
      · exact k.by8 x hx
      · exact h8

theorem CAt.setBlown {w : World} {F : RF} {s : RS} {S : ByteArray} (h : CAt w F s S) (i : Nat) (hi : i < s.blown.length) (v : Bool) : CAt (w.setCell ⟨F.bB, i, none⟩ (.bool v)) F { s with blown := s.blown.set i v } S := by
  have sb := SameBut.setCell F.bB i (.bool v) w
  have hnd := h.nd
  simp only [RF.blocks, List.nodup_cons, List.mem_cons, List.mem_append, not_or] at hnd
  obtain ⟨⟨n1, n2, n3, n4, n5⟩, ⟨m1, m2, m3, m4⟩, ⟨o1, o2, o3⟩, ⟨u1, u2⟩, hnd2⟩ := hnd
  have k := h.ok
  refine ⟨?_, h.len, h.pg.of_block (sb.block _ m2), fun j q p hq hp => (h.page j q p hq hp).of_block (sb.block _ ?_), h.er.of_block (sb.block _ o1), ?_, h.mb, h.nd, ⟨k.er, k.pg, by show (s.blown.set i v).length ≤ 576; rw [List.length_set]; exact k.bl, k.cl, k.c1, k.c2, k.by8⟩, h.wt, h.msk⟩
  · have : ({ s with blown := s.blown.set i v } : RS).ccells F S = s.ccells F S := by simp [RS.ccells]
    rw [this]
    exact h.row.but sb n3
  · rintro e
    exact u1 (e ▸ List.mem_map_of_mem (List.mem_of_getElem? hq))
  · have h1 := h.bl.set i (.bool v) (by rw [List.length_map]; exact hi)
    show Pre _ _ _ ((s.blown.set i v).map Value.bool)
    rw [List.map_set]; exact h1
theorem CAt.setErase {w : World} {F : RF} {s : RS} {S : ByteArray} (h : CAt w F s S) (i : Nat) (hi : i < s.erases.length) (v : Int) : CAt (w.setCell ⟨F.eB, i, none⟩ (.int .i64 v)) F { s with erases := s.erases.set i v } S := by
  have sb := SameBut.setCell F.eB i (.int .i64 v) w
  have hnd := h.nd
  simp only [RF.blocks, List.nodup_cons, List.mem_cons, List.mem_append, not_or] at hnd
  obtain ⟨⟨n1, n2, n3, n4, n5⟩, ⟨m1, m2, m3, m4⟩, ⟨o1, o2, o3⟩, ⟨u1, u2⟩, hnd2⟩ := hnd
  have k := h.ok
  refine ⟨?_, h.len, h.pg.of_block (sb.block _ m1), fun j q p hq hp => (h.page j q p hq hp).of_block (sb.block _ ?_), ?_, h.bl.of_block (sb.block _ (Ne.symm o1)), h.mb, h.nd, ⟨by show (s.erases.set i v).length = _; rw [List.length_set]; exact k.er, k.pg, k.bl, k.cl, k.c1, k.c2, k.by8⟩, h.wt, h.msk⟩
  · have : ({ s with erases := s.erases.set i v } : RS).ccells F S = s.ccells F S := by simp [RS.ccells]
    rw [this]
    exact h.row.but sb n2
  · rintro e
    exact o2 (e ▸ List.mem_map_of_mem (List.mem_of_getElem? hq))
  · have h1 := h.er.set i (.int .i64 v) (by rw [List.length_map]; exact hi)
    show Pre _ _ _ ((s.erases.set i v).map (Value.int .i64))
    rw [List.map_set]; exact h1
end Go.Proofs.YtcpdanjbnijoiaaDoor


/-! The code's chip: within, at of a mask, ask, askPage, askCell, askFuse, Acts, Out, Restore. -/
namespace Go.Proofs.YtcpdanjbnijoiaaDoor
open Go.RowKit

set_option maxHeartbeats 1000000 in
set_option maxRecDepth 100000 in
theorem cwithin_any (n lo hi : Int) (b : Bool) (hb : decide (lo ≤ n ∧ n ≤ hi) = b) (w : World) :
    Calls Tryd.prog 30 #[.int .i64 n, .int .i64 lo, .int .i64 hi] w fun e w' => e = .returned (.bool b) ∧ w' = w := by
  have HB : Hid (decide (lo ≤ n ∧ n ≤ hi) = b) := hb
  clear hb
  by_cases h1 : lo ≤ n
  · have b1 : decide (lo ≤ n) = true := by simpa using h1
    by_cases h2 : n ≤ hi
    · have b2 : decide (n ≤ hi) = true := by simpa using h2
      go_enter Tryd.func30, Tryd.ntmps30
      go_wp2
      go_ret
      exact ⟨by rw [← HB.out]; simp [h1, h2], rfl⟩
    · have b2 : decide (n ≤ hi) = false := by simpa using h2
      go_enter Tryd.func30, Tryd.ntmps30
      go_wp2
      go_ret
      exact ⟨by rw [← HB.out]; simp [h1, h2], rfl⟩
  · have b1 : decide (lo ≤ n) = false := by simpa using h1
    go_enter Tryd.func30, Tryd.ntmps30
    go_wp2
    go_ret
    exact ⟨by rw [← HB.out]; simp; omega, rfl⟩

set_option maxHeartbeats 1000000 in
set_option maxRecDepth 100000 in
theorem mat_any (S : ByteArray) (m : List By) (hS : StrIs S m) (hm : m ≠ []) (i : Nat) (w : World) :
    Calls Tryd.prog 56 #[.string S, .int .i64 (i : Int)] w fun e w' => e = .returned (.int .u8 ((bitsAt m i).toNat : Int)) ∧ w' = w := by
  have hpos : 0 < S.size := by rw [hS.1]; exact List.length_pos_iff.2 hm
  have hlt : i % S.size < S.size := Nat.mod_lt _ hpos
  have hget := hS.2 _ hlt
  have hx : (bitsAt m i).toNat = (S[i % S.size]'hlt).toNat := by rw [hget]; unfold bitsAt; rw [hS.1]
  obtain ⟨res, hres⟩ : ∃ r, r = (bitsAt m i).toNat := ⟨_, rfl⟩
  rw [← hres]
  have HR : Hid (res = (S[i % S.size]'hlt).toNat) := by rw [← hx]; exact hres
  have hrem2 : (i : Int).tmod (S.size : Int) = ((i % S.size : Nat) : Int) := by rw [Int.tmod_eq_emod_of_nonneg (by omega)]; simp
  have hz : ((S.size : Int) == 0) = false := by rw [beq_eq_false_iff_ne]; omega
  have k1 : (0 : Int) ≤ ((i % S.size : Nat) : Int) := Int.natCast_nonneg _
  have k2 : ((i % S.size : Nat) : Int) < (S.size : Int) := Int.ofNat_lt.2 hlt
  have hidx : (Instr.index 54 (.string S) (.int .i64 ((i % S.size : Nat) : Int))).run Tryd.prog w = .ok (.int .u8 (res : Int)) w := by
    rw [run_index_string w 54 S .i64 _ Tryd.underlying54, dif_pos ⟨k1, k2⟩, HR.out]
    simp only [Int.toNat_natCast]
  clear hget hx hres hS hm HR
  generalize i % S.size = r at *
  generalize hsz : S.size = L at *
  have hlen : (Builtin.len_ #[54] 3 #[.string S]).run Tryd.prog w = .ok (goInt L) w := by rw [run_len_string w 54 3 S Tryd.underlying54, hsz]
  go_enter Tryd.func56, Tryd.ntmps56
  go_wp2
  go_ret
  exact ⟨rfl, rfl⟩

def RS.ask (s : RS) (i n : Int) : Int := if s.gone then 8 else if i < 0 ∨ n ≤ i then 2 else 0

set_option maxHeartbeats 1000000 in
set_option maxRecDepth 100000 in
theorem cask_any (F : RF) (s : RS) (S : ByteArray) (i n : Int) (w : World) (h : CAt w F s S) (hn0 : 0 ≤ n) (hn : n ≤ 4294967296) :
    Calls Tryd.prog 44 #[.pointer (some ⟨F.g, 0, none⟩), .int .i64 i, .int .i64 n] w fun e w' => e = .returned (.int .i64 (s.ask i n)) ∧ w' = w := by
  have c11 := h.cGone
  obtain ⟨r, hr⟩ : ∃ r, r = s.ask i n := ⟨_, rfl⟩
  rw [← hr]
  have HR : Hid (r = s.ask i n) := hr
  clear hr
  have j1 : IntKind.i64.wrap (n - 1) = n - 1 := i64_in _ (by omega) (by omega)
  by_cases hg : s.gone = true
  · rw [hg] at c11
    go_enter Tryd.func44, Tryd.ntmps44
    go_wp2
    go_ret
    exact ⟨by rw [HR.out]; simp [RS.ask, hg], rfl⟩
  have hg' : s.gone = false := by simpa using hg
  rw [hg'] at c11
  clear hg
  by_cases h1 : i < 0 ∨ n ≤ i
  · have HW := fun W => cwithin_any i 0 (n - 1) false (by simp; omega) W
    have h1' : Hid (i < 0 ∨ n ≤ i) := h1
    clear h1
    go_enter Tryd.func44, Tryd.ntmps44
    go_wp2_with (refine (HW _).mono ?_; rintro e w1 ⟨rfl, rfl⟩)
    go_ret
    exact ⟨by rw [HR.out]; unfold RS.ask; rw [hg', if_neg (by simp), if_pos h1'.out]; rfl, rfl⟩
  · have HW := fun W => cwithin_any i 0 (n - 1) true (by simp; omega) W
    have h1' : Hid (¬ (i < 0 ∨ n ≤ i)) := h1
    clear h1
    go_enter Tryd.func44, Tryd.ntmps44
    go_wp2_with (refine (HW _).mono ?_; rintro e w1 ⟨rfl, rfl⟩)
    go_ret
    exact ⟨by rw [HR.out]; unfold RS.ask; rw [hg', if_neg (by simp), if_neg h1'.out]; rfl, rfl⟩

theorem ask_page {s : RS} (h : s.Ok) (p : Int) : s.ask p s.pages.length = s.at p 0 := by
  have := h.c1
  unfold RS.ask RS.at
  split
  · rfl
  · congr 1
    apply propext
    omega
theorem ask_cell {s : RS} (h : s.Ok) (p c : Int) (h0 : s.at p 0 = 0) : s.ask c ((s.pages.getD p.toNat []).length : Int) = s.at p c := by
  unfold RS.at at h0
  unfold RS.ask RS.at
  split at h0
  · omega
  · split at h0
    · omega
    · rename_i hg hh
      rw [if_neg hg, if_neg hg]
      have := (h.pgLen p.toNat (by omega)).1
      rw [this]
      congr 1
      apply propext
      omega
theorem at_first {s : RS} (h : s.Ok) (p c : Int) (h0 : ¬ s.at p 0 = 0) : s.at p c = s.at p 0 := by
  have := h.c1
  unfold RS.at at h0 ⊢
  split at h0
  · rename_i hg; rw [if_pos hg, if_pos hg]
  · split at h0
    · rename_i hg hh
      rw [if_neg hg, if_neg hg, if_pos hh, if_pos (by omega)]
    · omega
theorem ask_fuse {s : RS} (i : Int) : s.ask i s.blown.length = s.fuse i := rfl

set_option maxHeartbeats 1000000 in
set_option maxRecDepth 100000 in
theorem caskPage_any (F : RF) (s : RS) (S : ByteArray) (p : Int) (w : World) (h : CAt w F s S) :
    Calls Tryd.prog 43 #[.pointer (some ⟨F.g, 0, none⟩), .int .i64 p] w fun e w' => e = .returned (.int .i64 (s.at p 0)) ∧ w' = w := by
  have c7 := h.cPages
  have hl : s.pages.length ≤ 130 := h.ok.pg
  have HA : Hid (∀ W, W = w → Calls Tryd.prog 44 #[.pointer (some ⟨F.g, 0, none⟩), .int .i64 p, .int .i64 (s.pages.length : Int)] W fun e w' => e = .returned (.int .i64 (s.at p 0)) ∧ w' = W) := by
    rintro W rfl
    rw [← ask_page h.ok p]
    exact cask_any F s S p s.pages.length W h (by omega) (by omega)
  go_enter Tryd.func43, Tryd.ntmps43
  go_wp2_with (refine (HA.out _ rfl).mono ?_; rintro e w1 ⟨rfl, rfl⟩)
  go_ret
  exact ⟨rfl, rfl⟩

set_option maxHeartbeats 1000000 in
set_option maxRecDepth 100000 in
theorem caskCell_any (F : RF) (s : RS) (S : ByteArray) (p c : Int) (w : World) (h : CAt w F s S) :
    Calls Tryd.prog 29 #[.pointer (some ⟨F.g, 0, none⟩), .int .i64 p, .int .i64 c] w fun e w' => e = .returned (.int .i64 (s.at p c)) ∧ w' = w := by
  have HP : Hid (∀ W, W = w → Calls Tryd.prog 43 #[.pointer (some ⟨F.g, 0, none⟩), .int .i64 p] W fun e w' => e = .returned (.int .i64 (s.at p 0)) ∧ w' = W) := by
    rintro W rfl
    exact caskPage_any F s S p W h
  by_cases h0 : s.at p 0 = 0
  · obtain ⟨_, i1, i2, _, _⟩ := at_zero h0
    obtain ⟨pn, rfl⟩ := Int.eq_ofNat_of_zero_le i1
    have hpl : pn < s.pages.length := by omega
    have c7 := h.cPages
    obtain ⟨q, hq, cp, _⟩ := h.pageAt pn hpl
    have hcl : ((s.pages.getD pn []).length : Int) ≤ 256 := by have := (h.ok.pgLen pn hpl).1; have := h.ok.c2; omega
    have HA : Hid (∀ W, W = w → Calls Tryd.prog 44 #[.pointer (some ⟨F.g, 0, none⟩), .int .i64 c, .int .i64 ((s.pages.getD pn []).length : Int)] W fun e w' => e = .returned (.int .i64 (s.at pn c)) ∧ w' = W) := by
      rintro W rfl
      rw [← ask_cell h.ok pn c h0]
      exact cask_any F s S c _ W h (Int.natCast_nonneg _) (by omega)
    rw [h0] at HP
    clear hq h0 hcl
    generalize (s.pages.getD pn []).length = PL at *
    generalize s.at pn c = res at *
    go_enter Tryd.func29, Tryd.ntmps29
    go_wp2_with (first | (refine (HA.out _ rfl).mono ?_; rintro e w1 ⟨rfl, rfl⟩) | (refine (HP.out _ rfl).mono ?_; rintro e w1 ⟨rfl, rfl⟩))
    go_ret
    exact ⟨rfl, rfl⟩
  · rw [at_first h.ok p c h0]
    generalize s.at p 0 = f at *
    have e1 : (f != 0) = true := by rw [bne_iff_ne]; exact h0
    go_enter Tryd.func29, Tryd.ntmps29
    go_wp2_with (refine (HP.out _ rfl).mono ?_; rintro e w1 ⟨rfl, rfl⟩)
    go_ret
    exact ⟨rfl, rfl⟩

set_option maxHeartbeats 1000000 in
set_option maxRecDepth 100000 in
theorem cacts_any (F : RF) (s : RS) (S : ByteArray) (w : World) (h : CAt w F s S) :
    Calls Tryd.prog 9 #[.pointer (some ⟨F.g, 0, none⟩)] w fun e w' => e = .returned (.int .i64 s.n) ∧ w' = w := by
  have c10 := h.cN
  go_enter Tryd.func9, Tryd.ntmps9
  go_wp2
  go_ret
  exact ⟨rfl, rfl⟩

set_option maxHeartbeats 1000000 in
set_option maxRecDepth 100000 in
theorem cout_any (F : RF) (s : RS) (S : ByteArray) (w : World) (h : CAt w F s S) :
    Calls Tryd.prog 33 #[.pointer (some ⟨F.g, 0, none⟩)] w fun e w' => e = .returned (.bool s.gone) ∧ w' = w := by
  have c11 := h.cGone
  go_enter Tryd.func33, Tryd.ntmps33
  go_wp2
  go_ret
  exact ⟨rfl, rfl⟩

theorem ccells_n (s : RS) (F : RF) (S : ByteArray) (n : Int) : (s.ccells F S).set 10 (.int .i64 n) = ({ s with n := n } : RS).ccells F S := rfl
theorem ccells_gone (s : RS) (F : RF) (S : ByteArray) (g : Bool) : (s.ccells F S).set 11 (.bool g) = ({ s with gone := g } : RS).ccells F S := rfl

set_option maxHeartbeats 1000000 in
set_option maxRecDepth 100000 in
theorem cerases_any (F : RF) (s : RS) (S : ByteArray) (p : Int) (w : World) (h : CAt w F s S) :
    Calls Tryd.prog 36 #[.pointer (some ⟨F.g, 0, none⟩), .int .i64 p] w fun e w' => e = .returned (.tuple #[.int .i64 (if s.at p 0 = 0 then s.erases.getD p.toNat 0 else 0), .int .i64 (s.at p 0)]) ∧ w' = w := by
  have c8 := h.cEr
  have HP : Hid (∀ W, W = w → Calls Tryd.prog 43 #[.pointer (some ⟨F.g, 0, none⟩), .int .i64 p] W fun e w' => e = .returned (.int .i64 (s.at p 0)) ∧ w' = W) := by
    rintro W rfl
    exact caskPage_any F s S p W h
  by_cases h0 : s.at p 0 = 0
  · obtain ⟨_, i1, i2, _, _⟩ := at_zero h0
    have hel := h.ok.er
    have i3 : p < (s.erases.length : Int) := by omega
    have cx : w.cell? ⟨F.eB, p.toNat, none⟩ = some (.int .i64 (s.erases.getD p.toNat 0)) := h.er.cell _ _ (by
      rw [List.getElem?_map, List.getD_eq_getElem?_getD, List.getElem?_eq_getElem (by omega)]; rfl)
    rw [h0, if_pos rfl]
    rw [h0] at HP
    generalize s.erases.getD p.toNat 0 = x at cx ⊢
    clear hel
    go_enter Tryd.func36, Tryd.ntmps36
    go_wp2_with (refine (HP.out _ rfl).mono ?_; rintro e w1 ⟨rfl, rfl⟩)
    go_ret2
    exact ⟨rfl, rfl⟩
  · rw [if_neg h0]
    generalize s.at p 0 = f at *
    have e1 : (f != 0) = true := by rw [bne_iff_ne]; exact h0
    go_enter Tryd.func36, Tryd.ntmps36
    go_wp2_with (refine (HP.out _ rfl).mono ?_; rintro e w1 ⟨rfl, rfl⟩)
    go_ret2
    exact ⟨rfl, rfl⟩
end Go.Proofs.YtcpdanjbnijoiaaDoor
