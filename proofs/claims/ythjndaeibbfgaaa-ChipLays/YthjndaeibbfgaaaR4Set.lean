import Derived.Test.YthjndaeibbfgaaaR4Read
/-! A byte of a cell written; a fuse, a count written. -/
namespace Go.Proofs.Ythjndaeibbfgaaa
open Go.RowKit

/-- All old blocks but some are as they were. -/
structure KeptL (L : List Nat) (w w' : World) : Prop where
  os : w'.os = w.os
  tape : w'.tape = w.tape
  output : w'.output = w.output
  size : w.heap.size ≤ w'.heap.size
  block : ∀ k, k < w.heap.size → k ∉ L → w'.heap[k]? = w.heap[k]?
theorem KeptL.refl (L : List Nat) (w : World) : KeptL L w w := ⟨rfl, rfl, rfl, Nat.le_refl _, fun _ _ _ => rfl⟩
theorem KeptL.trans {L : List Nat} {a b c : World} (h : KeptL L a b) (k : KeptL L b c) : KeptL L a c :=
  ⟨k.os.trans h.os, k.tape.trans h.tape, k.output.trans h.output, Nat.le_trans h.size k.size, fun i hi hne => (k.block i (Nat.lt_of_lt_of_le hi h.size) hne).trans (h.block i hi hne)⟩
theorem KeptL.but {L : List Nat} {D : Nat} {a w w' : World} (h : KeptL L a w) (hs : SameBut D w w') (hD : D ∈ L ∨ a.heap.size ≤ D) : KeptL L a w' :=
  ⟨hs.os.trans h.os, hs.tape.trans h.tape, hs.output.trans h.output, by rw [hs.size]; exact h.size, fun k hk hne => (hs.block k (by rintro rfl; rcases hD with h1 | h1; exact hne h1; omega)).trans (h.block k hk hne)⟩
theorem KeptL.below {L : List Nat} {a w w' : World} {N : Nat} (h : KeptL L a w) (hb : Below N w w') (hN : a.heap.size ≤ N) : KeptL L a w' :=
  ⟨hb.os.trans h.os, hb.tape.trans h.tape, hb.output.trans h.output, Nat.le_trans h.size hb.size, fun k hk hne => (hb.block k (by omega)).trans (h.block k hk hne)⟩
theorem KeptL.dr {L : List Nat} {a w w' : World} (h : KeptL L a w) (d : Dr w w') : KeptL L a w' := by
  obtain ⟨n, rfl⟩ := d; exact ⟨h.os, h.tape, h.output, h.size, h.block⟩

theorem setCell_pages (s : RS) (p c : Nat) (x : List By) (i : Nat) : (s.setCell p c x).pages[i]? = if i = p ∧ p < s.pages.length then some ((s.pages.getD p []).set c x) else s.pages[i]? := by
  unfold RS.setCell
  simp only [List.getElem?_set]
  by_cases h : p = i
  · subst h
    by_cases hl : p < s.pages.length
    · simp [hl]
    · simp [hl]
  · have : ¬ i = p := fun e => h e.symm
    simp [h, this]

theorem RAt.setByte {w : World} {F : RF} {s : RS} (h : RAt w F s) (p c i : Nat) (hp : p < s.pages.length) (hc : (c : Int) < s.c.cells) (hi : i < 32) (q : Nat × Nat) (hq : F.ps[p]? = some q) (v : By) :
    RAt (w.setCell ⟨q.1, c * 32 + i, none⟩ (.int .u8 (v.toNat : Int))) F (s.setCell p c ((s.cell p c).set i v)) := by
  obtain ⟨k1, k2⟩ := h.ok.pgLen p hp
  have sb := SameBut.setCell q.1 (c * 32 + i) (.int .u8 (v.toNat : Int)) w
  have hm : q.1 ∈ F.ps.map (·.1) := List.mem_map_of_mem (List.mem_of_getElem? hq)
  have hnd := h.nd
  simp only [RF.blocks, List.nodup_cons, List.mem_cons, List.mem_append, not_or] at hnd
  obtain ⟨⟨n1, n2, n3, n4, n5⟩, ⟨m1, m2, m3, m4⟩, ⟨o1, o2, o3⟩, ⟨u1, u2⟩, hnd2⟩ := hnd
  have hd : s.pages.getD p [] = s.pages[p] := by rw [List.getD_eq_getElem?_getD, List.getElem?_eq_getElem hp]; rfl
  have hcl : c < (s.pages.getD p []).length := by omega
  have hnp : (F.ps.map (·.1)).Nodup := (List.nodup_append.1 hnd2).1
  have hnm : ∀ a ∈ F.ps.map (·.1), ∀ b ∈ F.mb.toList, a ≠ b := (List.nodup_append.1 hnd2).2.2
  refine ⟨?_, by show F.ps.length = (s.setCell p c _).pages.length; unfold RS.setCell; simp only [List.length_set]; exact h.len, ?_, ?_, h.er.of_block (sb.block _ (fun e => o2 (e ▸ hm))), h.bl.of_block (sb.block _ (fun e => u1 (e ▸ hm))), ?_, fun B hB => by rw [sb.size]; exact h.mbl B hB, h.nd, ?_⟩
  · have : (s.setCell p c ((s.cell p c).set i v)).cellsOf F = s.cellsOf F := by simp [RS.cellsOf, RS.setCell]
    rw [this]
    exact h.row.but sb (fun e => n4 (e ▸ hm))
  · have : List.zipWith pgVal F.ps (s.setCell p c ((s.cell p c).set i v)).pages = List.zipWith pgVal F.ps s.pages := by
      apply List.ext_getElem?
      intro j
      rw [List.getElem?_zipWith, List.getElem?_zipWith, setCell_pages]
      by_cases hj : j = p
      · rw [if_pos ⟨hj, hp⟩, hj, List.getElem?_eq_getElem hp, hq, hd]
        simp [pgVal]
      · rw [if_neg (fun h => hj h.1)]
    rw [this]
    exact h.pg.of_block (sb.block _ (fun e => m3 (e ▸ hm)))
  · intro j q' p' hq' hp'
    rw [setCell_pages] at hp'
    by_cases hj : j = p
    · rw [if_pos ⟨hj, hp⟩] at hp'
      injection hp' with hp'
      subst hp'
      rw [hj, hq] at hq'
      injection hq' with hq'
      subst hq'
      have h1 := (h.page p q s.pages[p] hq (List.getElem?_eq_getElem hp)).set (c * 32 + i) (.int .u8 (v.toNat : Int)) (by rw [List.length_map, flat_len _ (by rw [← hd]; exact k2), ← hd]; omega)
      have h2 : ((s.pages[p].flatten.map B8).set (c * 32 + i) (.int .u8 (v.toNat : Int))) = (((s.pages.getD p []).set c ((s.cell p c).set i v)).flatten.map B8) := by
        have e : Value.int .u8 (v.toNat : Int) = B8 v := rfl
        rw [e, ← List.map_set, Nat.mul_comm, ← hd, flat_set _ k2 c i v hcl hi]; rfl
      rw [h2] at h1
      exact h1
    · rw [if_neg (fun h => hj h.1)] at hp'
      refine (h.page j q' p' hq' hp').of_block (sb.block _ ?_)
      intro e
      have hjl := (List.getElem?_eq_some_iff.1 hq').1
      have hpl := (List.getElem?_eq_some_iff.1 hq).1
      have a1 : (F.ps.map (·.1))[j]'(by simpa using hjl) = q'.1 := by simp [(List.getElem?_eq_some_iff.1 hq').2]
      have a2 : (F.ps.map (·.1))[p]'(by simpa using hpl) = q.1 := by simp [(List.getElem?_eq_some_iff.1 hq).2]
      have hpw := List.pairwise_iff_getElem.1 hnp
      have hjp : j ≠ p := hj
      rcases Nat.lt_or_gt_of_ne hjp with hl | hl
      · exact hpw j p (by simpa using hjl) (by simpa using hpl) hl (by rw [a1, a2]; exact e)
      · exact hpw p j (by simpa using hpl) (by simpa using hjl) hl (by rw [a1, a2]; exact e.symm)
  · rcases h.msk with h1 | ⟨B, h1, h2, h3⟩
    · exact .inl h1
    · exact .inr ⟨B, h1, h2, h3.of_block (sb.block B (fun e => hnm q.1 hm B (by simp [h1]) e.symm))⟩
  · have k := h.ok
    have hlen : (s.setCell p c ((s.cell p c).set i v)).pages.length = s.pages.length := by unfold RS.setCell; simp
    have hmem : ∀ pg ∈ (s.setCell p c ((s.cell p c).set i v)).pages, pg ∈ s.pages ∨ pg = (s.pages.getD p []).set c ((s.cell p c).set i v) := by
      intro pg hpg
      rcases List.mem_or_eq_of_mem_set hpg with h1 | h1
      · exact .inl h1
      · exact .inr h1
    refine ⟨by rw [hlen]; exact k.er, by rw [hlen]; exact k.pg, k.bl, ?_, k.c1, k.c2, ?_⟩
    · intro pg hpg
      rcases hmem pg hpg with h1 | rfl
      · exact k.cl pg h1
      · rw [List.length_set]; exact k1
    · intro pg hpg x hx
      rcases hmem pg hpg with h1 | rfl
      · exact k.by8 pg h1 x hx
      · rcases List.mem_or_eq_of_mem_set hx with h2 | rfl
        · exact k2 x h2
        · rw [List.length_set]
          unfold RS.cell
          rw [List.getD_eq_getElem?_getD, List.getElem?_eq_getElem hcl]
          exact k2 _ (List.getElem_mem _)
end Go.Proofs.Ythjndaeibbfgaaa
