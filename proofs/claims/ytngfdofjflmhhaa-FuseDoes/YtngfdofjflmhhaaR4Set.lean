import Derived.Test.YtngfdofjflmhhaaR4B
import Derived.Laws.ResultCell

/-! Cells of 32 bytes within a page; whole arrays loaded and stored. -/
namespace Go.Proofs.Ytngfdofjflmhhaa
open Go.RowKit

theorem row_whole {w : World} {g t : Nat} {old new : List Value} (h : Row w g t (old.take 0 ++ new ++ old.drop (0 + new.length))) (hl : old.length ≤ new.length) : Row w g t new := by
  rw [List.take_zero, List.nil_append, Nat.zero_add, List.drop_eq_nil_of_le hl, List.append_nil] at h; exact h
theorem Dr.cell {w w' : World} (h : Dr w w') {a : Addr} {v : Value} (c : w.cell? a = some v) : w'.cell? a = some v := by
  obtain ⟨n, rfl⟩ := h; exact c
theorem wpList_load_part {P : Program} {ops : Array Oper} {rest : List Oper} {op : Oper} {a : Act} {w : World} {Q : Exit → Act → World → Prop} (hgd : op.guard = none) (ty : TypeId) (x : Operand) (ho : op.op = .load ty x)
    (g o t n : Nat) (cs : List Value) (hr : Row w g t cs) (hx : a.eval x = .pointer (some ⟨g, o, none⟩)) (d : TypeDesc) (cs' : List Value) (hcs : (cs.drop o).take n = cs') (hn : cs'.length = n)
    (hu : P.underlying ty = some d) (hd : d.isRow = true) (hi : (P.info? ty).map (·.size) = some n)
    (h : wpList P ops Q rest (a.put op.dst (.agg cs'.toArray)) w) : wpList P ops Q (op :: rest) a w := by
  subst hcs
  exact wpList_load_mid hgd ty x ho g o hx _ d (hr.range o n) hu hd (by rw [hn]; exact hi) h

theorem flat_len : ∀ (p : List (List By)), (∀ x ∈ p, x.length = 32) → p.flatten.length = 32 * p.length
  | [], _ => rfl
  | x :: p, h => by
    rw [List.flatten_cons, List.length_append, h x (by simp), flat_len p (fun y hy => h y (by simp [hy])), List.length_cons]; omega
theorem flat_seg : ∀ (p : List (List By)), (∀ x ∈ p, x.length = 32) → ∀ c, c < p.length → (p.flatten.drop (32 * c)).take 32 = p.getD c []
  | x :: p, h, 0, _ => by
    rw [List.flatten_cons, Nat.mul_zero, List.drop_zero, List.take_left' (h x (by simp))]; rfl
  | x :: p, h, c + 1, hc => by
    rw [List.flatten_cons, show 32 * (c + 1) = 32 + 32 * c by omega, List.drop_append, h x (by simp), List.drop_eq_nil_of_le (by rw [h x (by simp)]; omega), List.nil_append, show 32 + 32 * c - 32 = 32 * c by omega]
    exact flat_seg p (fun y hy => h y (by simp [hy])) c (by simpa using hc)
theorem flat_get (p : List (List By)) (h : ∀ x ∈ p, x.length = 32) (c i : Nat) (hc : c < p.length) (hi : i < 32) : p.flatten[32 * c + i]? = some ((p.getD c []).getD i 0) := by
  have h1 := flat_seg p h c hc
  have hl : (p.getD c []).length = 32 := by
    rw [List.getD_eq_getElem?_getD, List.getElem?_eq_getElem hc]; exact h _ (List.getElem_mem hc)
  have h2 : ((p.flatten.drop (32 * c)).take 32)[i]? = p.flatten[32 * c + i]? := by
    rw [List.getElem?_take, if_pos hi, List.getElem?_drop]
  generalize p.getD c [] = x at h1 hl ⊢
  rw [← h2, h1, List.getD_eq_getElem?_getD, List.getElem?_eq_getElem (by omega)]; rfl
theorem flat_set : ∀ (p : List (List By)), (∀ x ∈ p, x.length = 32) → ∀ (c i : Nat) (v : By), c < p.length → i < 32 → p.flatten.set (32 * c + i) v = (p.set c ((p.getD c []).set i v)).flatten
  | x :: p, h, 0, i, v, _, hi => by
    rw [List.flatten_cons, Nat.mul_zero, Nat.zero_add, List.set_append_left _ _ (by rw [h x (by simp)]; exact hi), List.set_cons_zero, List.flatten_cons]; rfl
  | x :: p, h, c + 1, i, v, hc, hi => by
    rw [List.flatten_cons, List.set_append_right _ _ (by rw [h x (by simp)]; omega), h x (by simp), List.set_cons_succ, List.flatten_cons, show 32 * (c + 1) + i - 32 = 32 * c + i by omega, flat_set p (fun y hy => h y (by simp [hy])) c i v (by simpa using hc) hi]; rfl

/-- The cell number c of page p. -/
def RS.cell (s : RS) (p c : Nat) : List By := (s.pages.getD p []).getD c []
def RS.setCell (s : RS) (p c : Nat) (x : List By) : RS := { s with pages := s.pages.set p ((s.pages.getD p []).set c x) }

theorem RAt.pageAt {w : World} {F : RF} {s : RS} (h : RAt w F s) (p : Nat) (hp : p < s.pages.length) : ∃ q, F.ps[p]? = some q ∧ w.cell? ⟨F.pB, p, none⟩ = some (.slice (some ⟨q.1, 0, none⟩) (s.pages.getD p []).length q.2) ∧ Pre w q.1 72 ((s.pages.getD p []).flatten.map B8) ∧ q.1 ∈ F.blocks ∧ q.1 ≠ F.g ∧ q.1 ≠ F.pB := by
  have hq : F.ps[p]? = some (F.ps[p]'(by rw [h.len]; exact hp)) := List.getElem?_eq_getElem _
  have hpp : s.pages[p]? = some s.pages[p] := List.getElem?_eq_getElem hp
  have hd : s.pages.getD p [] = s.pages[p] := by rw [List.getD_eq_getElem?_getD, hpp]; rfl
  have hm : (F.ps[p]'(by rw [h.len]; exact hp)).1 ∈ F.ps.map (·.1) := List.mem_map_of_mem (List.getElem_mem _)
  have hnd := h.nd
  simp only [RF.blocks, List.nodup_cons, List.mem_cons, List.mem_append, not_or] at hnd
  obtain ⟨⟨n1, n2, n3, n4, n5⟩, ⟨m1, m2, m3, m4⟩, _⟩ := hnd
  refine ⟨_, hq, ?_, ?_, ?_, fun e => n4 (e ▸ hm), fun e => m3 (e ▸ hm)⟩
  · rw [hd]
    exact h.pg.cell p _ (by rw [List.getElem?_zipWith, hq, hpp]; rfl)
  · rw [hd]; exact h.page p _ _ hq hpp
  · simp only [RF.blocks, List.mem_cons, List.mem_append]
    exact .inr (.inr (.inr (.inr (.inl hm))))

theorem RS.Ok.pgLen {s : RS} (h : s.Ok) (p : Nat) (hp : p < s.pages.length) : ((s.pages.getD p []).length : Int) = s.c.cells ∧ ∀ x ∈ s.pages.getD p [], x.length = 32 := by
  have hd : s.pages.getD p [] = s.pages[p] := by rw [List.getD_eq_getElem?_getD, List.getElem?_eq_getElem hp]; rfl
  rw [hd]
  exact ⟨h.cl _ (List.getElem_mem hp), h.by8 _ (List.getElem_mem hp)⟩
end Go.Proofs.Ytngfdofjflmhhaa


namespace Go.Proofs.Ytngfdofjflmhhaa
open Go.RowKit

theorem results_Row_tmp {fn : Func} {p u : Tmp} {ty : TypeId} (h : fn.results = #[.cell p ty, .tmp u]) (tmps : Array Value) (w : World) (g t : Nat) (cs : List Value) (d : TypeDesc)
    (hp : tmps.getD p undef = .pointer (some ⟨g, 0, none⟩)) (hr : Row w g t cs) (hu : Try.prog.underlying ty = some d) (hd : d.isRow = true) (hi : (Try.prog.info? ty).map (·.size) = some cs.length) :
    (results fn tmps).run Try.prog w = .ok (.tuple #[.agg cs.toArray, tmps.getD u undef]) w := by
  rw [results_cell_tmp h]
  have hl := run_loadVar_mid (P := Try.prog) w g 0 ty cs d (by have := hr.range 0 cs.length; simpa using this) hu hd hi
  simp [hp, asAddr, hl]

end Go.Proofs.Ytngfdofjflmhhaa


/-! A byte of a cell written; a fuse, a count written. -/
namespace Go.Proofs.Ytngfdofjflmhhaa
open Go.RowKit

/-- All old blocks but some are as they were. -/
structure KeptL (L : List Nat) (w w' : World) : Prop where
  os : w'.os = w.os
  tape : w'.tape = w.tape
  output : w'.output = w.output
  size : w.heap.size ≤ w'.heap.size
  block : ∀ k, k < w.heap.size → k ∉ L → w'.heap[k]? = w.heap[k]?
theorem KeptL.refl (L : List Nat) (w : World) : KeptL L w w := ⟨rfl, rfl, rfl, Nat.le_refl _, fun _ _ _ => rfl⟩
theorem KeptL.trans {L : List Nat} {a b c : World} (h : KeptL L a b) (k : KeptL L b c) : KeptL L a c :=
  ⟨k.os.trans h.os, k.tape.trans h.tape, k.output.trans h.output, Nat.le_trans h.size k.size, fun i hi hne => (k.block i (Nat.lt_of_lt_of_le hi h.size) hne).trans (h.block i hi hne)⟩
theorem KeptL.but {L : List Nat} {D : Nat} {a w w' : World} (h : KeptL L a w) (hs : SameBut D w w') (hD : D ∈ L ∨ a.heap.size ≤ D) : KeptL L a w' :=
  ⟨hs.os.trans h.os, hs.tape.trans h.tape, hs.output.trans h.output, by rw [hs.size]; exact h.size, fun k hk hne => (hs.block k (by rintro rfl; rcases hD with h1 | h1; exact hne h1; omega)).trans (h.block k hk hne)⟩
theorem KeptL.below {L : List Nat} {a w w' : World} {N : Nat} (h : KeptL L a w) (hb : Below N w w') (hN : a.heap.size ≤ N) : KeptL L a w' :=
  ⟨hb.os.trans h.os, hb.tape.trans h.tape, hb.output.trans h.output, Nat.le_trans h.size hb.size, fun k hk hne => (hb.block k (by omega)).trans (h.block k hk hne)⟩
theorem KeptL.dr {L : List Nat} {a w w' : World} (h : KeptL L a w) (d : Dr w w') : KeptL L a w' := by
  obtain ⟨n, rfl⟩ := d; exact ⟨h.os, h.tape, h.output, h.size, h.block⟩

theorem setCell_pages (s : RS) (p c : Nat) (x : List By) (i : Nat) : (s.setCell p c x).pages[i]? = if i = p ∧ p < s.pages.length then some ((s.pages.getD p []).set c x) else s.pages[i]? := by
  unfold RS.setCell
  simp only [List.getElem?_set]
  by_cases h : p = i
  · subst h
    by_cases hl : p < s.pages.length
    · simp [hl]
    · simp [hl]
  · have : ¬ i = p := fun e => h e.symm
    simp [h, this]

theorem RAt.setByte {w : World} {F : RF} {s : RS} (h : RAt w F s) (p c i : Nat) (hp : p < s.pages.length) (hc : (c : Int) < s.c.cells) (hi : i < 32) (q : Nat × Nat) (hq : F.ps[p]? = some q) (v : By) :
    RAt (w.setCell ⟨q.1, c * 32 + i, none⟩ (.int .u8 (v.toNat : Int))) F (s.setCell p c ((s.cell p c).set i v)) := by
  obtain ⟨k1, k2⟩ := h.ok.pgLen p hp
  have sb := SameBut.setCell q.1 (c * 32 + i) (.int .u8 (v.toNat : Int)) w
  have hm : q.1 ∈ F.ps.map (·.1) := List.mem_map_of_mem (List.mem_of_getElem? hq)
  have hnd := h.nd
  simp only [RF.blocks, List.nodup_cons, List.mem_cons, List.mem_append, not_or] at hnd
  obtain ⟨⟨n1, n2, n3, n4, n5⟩, ⟨m1, m2, m3, m4⟩, ⟨o1, o2, o3⟩, ⟨u1, u2⟩, hnd2⟩ := hnd
  have hd : s.pages.getD p [] = s.pages[p] := by rw [List.getD_eq_getElem?_getD, List.getElem?_eq_getElem hp]; rfl
  have hcl : c < (s.pages.getD p []).length := by omega
  have hnp : (F.ps.map (·.1)).Nodup := (List.nodup_append.1 hnd2).1
  have hnm : ∀ a ∈ F.ps.map (·.1), ∀ b ∈ F.mb.toList, a ≠ b := (List.nodup_append.1 hnd2).2.2
  refine ⟨?_, by show F.ps.length = (s.setCell p c _).pages.length; unfold RS.setCell; simp only [List.length_set]; exact h.len, ?_, ?_, h.er.of_block (sb.block _ (fun e => o2 (e ▸ hm))), h.bl.of_block (sb.block _ (fun e => u1 (e ▸ hm))), ?_, fun B hB => by rw [sb.size]; exact h.mbl B hB, h.nd, ?_⟩
  · have : (s.setCell p c ((s.cell p c).set i v)).cellsOf F = s.cellsOf F := by simp [RS.cellsOf, RS.setCell]
    rw [this]
    exact h.row.but sb (fun e => n4 (e ▸ hm))
  · have : List.zipWith pgVal F.ps (s.setCell p c ((s.cell p c).set i v)).pages = List.zipWith pgVal F.ps s.pages := by
      apply List.ext_getElem?
      intro j
      rw [List.getElem?_zipWith, List.getElem?_zipWith, setCell_pages]
      by_cases hj : j = p
      · rw [if_pos ⟨hj, hp⟩, hj, List.getElem?_eq_getElem hp, hq, hd]
        simp [pgVal]
      · rw [if_neg (fun h => hj h.1)]
    rw [this]
    exact h.pg.of_block (sb.block _ (fun e => m3 (e ▸ hm)))
  · intro j q' p' hq' hp'
    rw [setCell_pages] at hp'
    by_cases hj : j = p
    · rw [if_pos ⟨hj, hp⟩] at hp'
      injection hp' with hp'
      subst hp'
      rw [hj, hq] at hq'
      injection hq' with hq'
      subst hq'
      have h1 := (h.page p q s.pages[p] hq (List.getElem?_eq_getElem hp)).set (c * 32 + i) (.int .u8 (v.toNat : Int)) (by rw [List.length_map, flat_len _ (by rw [← hd]; exact k2), ← hd]; omega)
      have h2 : ((s.pages[p].flatten.map B8).set (c * 32 + i) (.int .u8 (v.toNat : Int))) = (((s.pages.getD p []).set c ((s.cell p c).set i v)).flatten.map B8) := by
        have e : Value.int .u8 (v.toNat : Int) = B8 v := rfl
        rw [e, ← List.map_set, Nat.mul_comm, ← hd, flat_set _ k2 c i v hcl hi]; rfl
      rw [h2] at h1
      exact h1
    · rw [if_neg (fun h => hj h.1)] at hp'
      refine (h.page j q' p' hq' hp').of_block (sb.block _ ?_)
      intro e
      have hjl := (List.getElem?_eq_some_iff.1 hq').1
      have hpl := (List.getElem?_eq_some_iff.1 hq).1
      have a1 : (F.ps.map (·.1))[j]'(by simpa using hjl) = q'.1 := by simp [(List.getElem?_eq_some_iff.1 hq').2]
      have a2 : (F.ps.map (·.1))[p]'(by simpa using hpl) = q.1 := by simp [(List.getElem?_eq_some_iff.1 hq).2]
      have hpw := List.pairwise_iff_getElem.1 hnp
      have hjp : j ≠ p := hj
      rcases Nat.lt_or_gt_of_ne hjp with hl | hl
      · exact hpw j p (by simpa using hjl) (by simpa using hpl) hl (by rw [a1, a2]; exact e)
      · exact hpw p j (by simpa using hpl) (by simpa using hjl) hl (by rw [a1, a2]; exact e.symm)
  · rcases h.msk with h1 | ⟨B, h1, h2, h3⟩
    · exact .inl h1
    · exact .inr ⟨B, h1, h2, h3.of_block (sb.block B (fun e => hnm q.1 hm B (by simp [h1]) e.symm))⟩
  · have k := h.ok
    have hlen : (s.setCell p c ((s.cell p c).set i v)).pages.length = s.pages.length := by unfold RS.setCell; simp
    have hmem : ∀ pg ∈ (s.setCell p c ((s.cell p c).set i v)).pages, pg ∈ s.pages ∨ pg = (s.pages.getD p []).set c ((s.cell p c).set i v) := by
      intro pg hpg
      rcases List.mem_or_eq_of_mem_set hpg with h1 | h1
      · exact .inl h1
      · exact .inr h1
    refine ⟨by rw [hlen]; exact k.er, by rw [hlen]; exact k.pg, k.bl, ?_, k.c1, k.c2, ?_⟩
    · intro pg hpg
      rcases hmem pg hpg with h1 | rfl
      · exact k.cl pg h1
      · rw [List.length_set]; exact k1
    · intro pg hpg x hx
      rcases hmem pg hpg with h1 | rfl
      · exact k.by8 pg h1 x hx
      · rcases List.mem_or_eq_of_mem_set hx with h2 | rfl
        · exact k2 x h2
        · rw [List.length_set]
          unfold RS.cell
          rw [List.getD_eq_getElem?_getD, List.getElem?_eq_getElem hcl]
          exact k2 _ (List.getElem_mem _)
end Go.Proofs.Ytngfdofjflmhhaa
