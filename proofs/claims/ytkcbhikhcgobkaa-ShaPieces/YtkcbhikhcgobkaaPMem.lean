import Derived.Test.YtkcbhikhcgobkaaLaw
namespace Go.Proofs.Ytkcbhikhcgobkaa
open Go.RowKit

/-- One Digest of the script: its block, its bytes; what 'all' holds of it. -/
structure It where
  g : Nat
  D : List By
  ao : Option Addr
  cap : Nat
  M : List By

def ptr (g : Nat) : Value := .pointer (some ⟨g, 0, none⟩)
def It.sl (t : It) : Value := .slice t.ao t.M.length t.cap

/-- What is known of one of them, its blocks below H and apart from the two rows' and the others'. -/
structure ItOk (N H : Nat) (w : World) (gl ga : Nat) (gs : List Nat) (t : It) : Prop where
  ge : N ≤ t.g
  lt : t.g < H
  nl : t.g ≠ gl
  na : t.g ≠ ga
  dig : Dig w t.g t.D
  nil : t.ao = none → t.cap = 0
  cap : t.M.length ≤ t.cap
  isb : t.M = [] ∨ ∃ B off, t.ao = some ⟨B, off, none⟩ ∧ B < H ∧ B ≠ gl ∧ B ≠ ga ∧ B ∉ gs ∧ ∀ j v, t.M[j]? = some v → w.cell? ⟨B, off + j, none⟩ = some (B8 v)

/-- The two rows, and all the Digests. -/
structure PSt (N H : Nat) (w : World) (gl cl ga ca : Nat) (ls : List Nat) (items : List It) : Prop where
  rowL : w.ownsRow N 31 1 (.slice (some ⟨gl, 0, none⟩) ls.length cl) ls.length (ls.map ptr)
  rowA : w.ownsRow N 22 1 (.slice (some ⟨ga, 0, none⟩) items.length ca) items.length (items.map It.sl)
  ne : gl ≠ ga
  ltl : gl < H
  lta : ga < H
  hN : N ≤ H
  hH : H ≤ w.heap.size
  it : ∀ t ∈ items, ItOk N H w gl ga (items.map It.g) t
  nodup : (items.map It.g).Nodup

theorem owns_of_block {w w' : World} {N e g cap n : Nat} {xs : List Value} (h : w.ownsRow N e 1 (.slice (some ⟨g, 0, none⟩) n cap) n xs) (hb : w'.heap[g]? = w.heap[g]?) :
    w'.ownsRow N e 1 (.slice (some ⟨g, 0, none⟩) n cap) n xs := by
  refine ⟨h.1, ?_⟩
  rcases h.2 with ⟨h1, _⟩ | ⟨g', cap', cur, h1, h2, h3, h4⟩
  · cases h1
  · injection h1 with ha hb' hc
    injection ha with ha
    injection ha with ha
    subst ha
    subst hc
    exact .inr ⟨g, cap, cur, rfl, h2, hb.trans h3, h4⟩

theorem Dig.of_block {w w' : World} {g : Nat} {M : List By} (h : Dig w g M) (hb : w'.heap[g]? = w.heap[g]?) : Dig w' g M := by
  obtain ⟨p, h1, h2, h3⟩ := h
  exact ⟨p, h1, h2, hb.trans h3⟩

theorem ItOk.keep {N H H' : Nat} {w w' : World} {gl ga : Nat} {gs : List Nat} {t : It} (h : ItOk N H w gl ga gs t) (hH : H ≤ H') (hb : ∀ k, k < H → k ≠ gl → k ≠ ga → (k = t.g ∨ k ∉ gs) → w'.heap[k]? = w.heap[k]?) : ItOk N H' w' gl ga gs t := by
  refine ⟨h.ge, Nat.lt_of_lt_of_le h.lt hH, h.nl, h.na, h.dig.of_block (hb t.g h.lt h.nl h.na (.inl rfl)), h.nil, h.cap, ?_⟩
  rcases h.isb with h1 | ⟨B, off, h1, h2, h3, h4, h5, h6⟩
  · exact .inl h1
  · exact .inr ⟨B, off, h1, Nat.lt_of_lt_of_le h2 hH, h3, h4, h5, fun j v hj => (World.cell?_of_block (w := w) (hb B h2 h3 h4 (.inr h5))).trans (h6 j v hj)⟩

/-- Whatever leaves the blocks below H alone leaves all of it. -/
theorem PSt.keep {N H : Nat} {w w' : World} {gl cl ga ca : Nat} {ls : List Nat} {items : List It} (h : PSt N H w gl cl ga ca ls items) (hb : ∀ k, k < H → w'.heap[k]? = w.heap[k]?) (hs : H ≤ w'.heap.size) : PSt N H w' gl cl ga ca ls items :=
  ⟨owns_of_block h.rowL (hb gl h.ltl), owns_of_block h.rowA (hb ga h.lta), h.ne, h.ltl, h.lta, h.hN, hs, fun t ht => (h.it t ht).keep (Nat.le_refl _) (fun k hk _ _ _ => hb k hk), h.nodup⟩
theorem PSt.below {N H : Nat} {w w' : World} {gl cl ga ca : Nat} {ls : List Nat} {items : List It} (h : PSt N H w gl cl ga ca ls items) (hb : Below H w w') : PSt N H w' gl cl ga ca ls items :=
  h.keep (fun k hk => hb.block k hk) (Nat.le_trans h.hH hb.size)
theorem PSt.dr {N H : Nat} {w w' : World} {gl cl ga ca : Nat} {ls : List Nat} {items : List It} (h : PSt N H w gl cl ga ca ls items) (d : Dr w w') : PSt N H w' gl cl ga ca ls items := by
  obtain ⟨n, rfl⟩ := d
  exact h.keep (fun _ _ => rfl) h.hH
/-- The bound may be raised. -/
theorem PSt.up {N H H' : Nat} {w : World} {gl cl ga ca : Nat} {ls : List Nat} {items : List It} (h : PSt N H w gl cl ga ca ls items) (hH : H ≤ H') (hs : H' ≤ w.heap.size) : PSt N H' w gl cl ga ca ls items :=
  ⟨h.rowL, h.rowA, h.ne, Nat.lt_of_lt_of_le h.ltl hH, Nat.lt_of_lt_of_le h.lta hH, Nat.le_trans h.hN hH, hs, fun t ht => (h.it t ht).keep hH (fun _ _ _ _ _ => rfl), h.nodup⟩

theorem map_set_g (items : List It) (k : Nat) (t t' : It) (hk : items[k]? = some t) (hg : t'.g = t.g) : (items.set k t').map It.g = items.map It.g := by
  rw [List.map_set, hg]
  apply List.ext_getElem?
  intro i
  rw [List.getElem?_set]
  split
  · rename_i h
    subst h
    split
    · rw [List.getElem?_map, hk]; rfl
    · rename_i h2
      rw [List.getElem?_eq_none (by omega)]
  · rfl

/-- Digest k has been written to. -/
theorem PSt.write {N H : Nat} {w w' : World} {gl cl ga ca : Nat} {ls : List Nat} {items : List It} (h : PSt N H w gl cl ga ca ls items) (k : Nat) (t : It) (hk : items[k]? = some t) (D' : List By)
    (hb : ∀ j, j < H → j ≠ t.g → w'.heap[j]? = w.heap[j]?) (hs : H ≤ w'.heap.size) (hd : Dig w' t.g D') : PSt N H w' gl cl ga ca ls (items.set k { t with D := D' }) := by
  have hm := map_set_g items k t { t with D := D' } hk rfl
  have ht : t ∈ items := List.mem_of_getElem? hk
  have hkl : k < items.length := (List.getElem?_eq_some_iff.1 hk).1
  have hke : items[k] = t := (List.getElem?_eq_some_iff.1 hk).2
  have hsl : (items.set k { t with D := D' }).map It.sl = items.map It.sl := by
    rw [List.map_set]
    have : It.sl { t with D := D' } = (items.map It.sl)[k]'(by simpa using hkl) := by simp [hke, It.sl]
    rw [this, List.set_getElem_self]
  refine ⟨owns_of_block h.rowL (hb gl h.ltl (h.it t ht).nl.symm), ?_, h.ne, h.ltl, h.lta, h.hN, hs, ?_, by rw [hm]; exact h.nodup⟩
  · rw [List.length_set, hsl]; exact owns_of_block h.rowA (hb ga h.lta (h.it t ht).na.symm)
  · intro s hsm
    rw [hm]
    obtain ⟨i, hi, rfl⟩ := List.mem_iff_getElem.1 hsm
    rw [List.length_set] at hi
    rw [List.getElem_set]
    split
    · have h0 := h.it t ht
      refine ⟨h0.ge, h0.lt, h0.nl, h0.na, hd, h0.nil, h0.cap, ?_⟩
      rcases h0.isb with h1 | ⟨B, off, h1, h2, h3, h4, h5, h6⟩
      · exact .inl h1
      · refine .inr ⟨B, off, h1, h2, h3, h4, h5, fun j v hj => (World.cell?_of_block (w := w) (hb B h2 ?_)).trans (h6 j v hj)⟩
        rintro rfl
        exact h5 (List.mem_map_of_mem ht)
    · rename_i hne
      have hmem : items[i] ∈ items := List.getElem_mem _
      refine (h.it _ hmem).keep (Nat.le_refl _) (fun j hj _ _ hor => hb j hj ?_)
      rintro rfl
      rcases hor with e | e
      · have h1 : (items.map It.g)[i]'(by simpa using hi) = (items.map It.g)[k]'(by simpa using hkl) := by simp [hke, e]
        have hp := List.pairwise_iff_getElem.1 h.nodup
        rcases Nat.lt_or_gt_of_ne hne with hl | hl
        · exact hp k i (by simpa using hkl) (by simpa using hi) hl h1.symm
        · exact hp i k (by simpa using hi) (by simpa using hkl) hl h1
      · exact e (List.mem_map_of_mem ht)

theorem grown_block {w w' : World} {o : Obj} {r : Nat} (h : (w.alloc o).grownBy w' (some r)) (k : Nat) (hk : k < w.heap.size) (hne : k ≠ r) : w'.heap[k]? = w.heap[k]? :=
  (h.block k (by simp; omega) (by simpa using hne)).trans (Below.heap_alloc w o k hk)

/-- A Digest more: both rows have been appended to. -/
theorem PSt.push {N H : Nat} {w1 w2 w3 : World} {gl cl ga ca gl' cl' ga' ca' n2 n3 : Nat} {ls : List Nat} {items : List It} {o2 o3 : Obj} (t : It) (h : PSt N H w1 gl cl ga ca ls items)
    (hg : H ≤ t.g) (hg' : t.g < w1.heap.size) (hd : Dig w1 t.g t.D) (hnil : t.ao = none → t.cap = 0) (hcap : t.M.length ≤ t.cap)
    (hisb : t.M = [] ∨ ∃ B off, t.ao = some ⟨B, off, none⟩ ∧ B < H ∧ B ≠ gl ∧ B ≠ ga ∧ B ∉ items.map It.g ∧ ∀ j v, t.M[j]? = some v → w1.cell? ⟨B, off + j, none⟩ = some (B8 v))
    (hr2 : (w1.alloc o2).grownBy w2 (some gl)) (ho2 : w2.ownsRow N 31 1 (.slice (some ⟨gl', 0, none⟩) n2 cl') n2 (ls.map ptr ++ [ptr t.g])) (hn2 : n2 = ls.length + 1) (ha2 : some gl = some gl' ∨ gl' = w1.heap.size + 1) (hl2 : gl' < w2.heap.size)
    (hr3 : (w2.alloc o3).grownBy w3 (some ga)) (ho3 : w3.ownsRow N 22 1 (.slice (some ⟨ga', 0, none⟩) n3 ca') n3 (items.map It.sl ++ [t.sl])) (hn3 : n3 = items.length + 1) (ha3 : some ga = some ga' ∨ ga' = w2.heap.size + 1) (hl3 : ga' < w3.heap.size) :
    PSt N w3.heap.size w3 gl' cl' ga' ca' (ls ++ [t.g]) (items ++ [t]) := by
  have hH := h.hH
  have hs2 : w1.heap.size + 1 ≤ w2.heap.size := by have := hr2.size; simpa using this
  have hs3 : w2.heap.size + 1 ≤ w3.heap.size := by have := hr3.size; simpa using this
  have hb : ∀ k, k < w1.heap.size → k ≠ gl → k ≠ ga → w3.heap[k]? = w1.heap[k]? := fun k hk h1 h2 =>
    (grown_block hr3 k (by omega) h2).trans (grown_block hr2 k hk h1)
  have hgl := h.ltl
  have hga := h.lta
  have hne := h.ne
  have e2 : gl' = gl ∨ gl' = w1.heap.size + 1 := by
    rcases ha2 with e | e
    · injection e with e; exact .inl e.symm
    · exact .inr e
  have e3 : ga' = ga ∨ ga' = w2.heap.size + 1 := by
    rcases ha3 with e | e
    · injection e with e; exact .inl e.symm
    · exact .inr e
  have hL : (ls ++ [t.g]).length = n2 := by simp [hn2]
  have hA : (items ++ [t]).length = n3 := by simp [hn3]
  have hgm : ∀ s ∈ items, s.g < H := fun s hs => (h.it s hs).lt
  refine ⟨?_, ?_, by omega, by omega, hl3, by have := h.hN; omega, Nat.le_refl _, ?_, ?_⟩
  · rw [hL, List.map_append]
    refine owns_of_block ho2 (grown_block hr3 gl' hl2 ?_)
    omega
  · rw [hA, List.map_append]
    exact ho3
  · intro s hs
    rw [List.map_append]
    have key : ∀ B, B < H → B ∉ items.map It.g → B ∉ items.map It.g ++ [t].map It.g := by
      intro B hB hm hm2
      rcases List.mem_append.1 hm2 with h1 | h1
      · exact hm h1
      · simp at h1; omega
    rcases List.mem_append.1 hs with hs | hs
    · have h0 := h.it s hs
      have := h0.lt
      have n1 := h0.nl
      have n2 := h0.na
      refine ⟨h0.ge, by omega, by omega, by omega, h0.dig.of_block (hb s.g (by omega) n1 n2), h0.nil, h0.cap, ?_⟩
      rcases h0.isb with h1 | ⟨B, off, h1, h2, h3, h4, h5, h6⟩
      · exact .inl h1
      · exact .inr ⟨B, off, h1, by omega, by omega, by omega, key B h2 h5, fun j v hj => (World.cell?_of_block (w := w1) (hb B (by omega) h3 h4)).trans (h6 j v hj)⟩
    · simp at hs
      subst hs
      refine ⟨by have := h.hN; omega, by omega, by omega, by omega, hd.of_block (hb _ (by omega) (by omega) (by omega)), hnil, hcap, ?_⟩
      rcases hisb with h1 | ⟨B, off, h1, h2, h3, h4, h5, h6⟩
      · exact .inl h1
      · exact .inr ⟨B, off, h1, by omega, by omega, by omega, key B h2 h5, fun j v hj => (World.cell?_of_block (w := w1) (hb B (by omega) h3 h4)).trans (h6 j v hj)⟩
  · rw [List.map_append]
    refine List.nodup_append.2 ⟨h.nodup, by simp, ?_⟩
    intro a ha b hb'
    simp at hb'
    subst hb'
    obtain ⟨s, hs, rfl⟩ := List.mem_map.1 ha
    have := hgm s hs
    omega

/-- all[k] has been written over by bytes that lie in a block of their own. -/
theorem PSt.storeA {N H : Nat} {w : World} {gl cl ga ca : Nat} {ls : List Nat} {items : List It} (h : PSt N H w gl cl ga ca ls items) (k : Nat) (t : It) (hk : items[k]? = some t) (ao : Option Addr) (cap : Nat) (M : List By)
    (hnil : ao = none → cap = 0) (hcap : M.length ≤ cap) (hisb : M = [] ∨ ∃ B off, ao = some ⟨B, off, none⟩ ∧ H ≤ B ∧ B < w.heap.size ∧ ∀ j v, M[j]? = some v → w.cell? ⟨B, off + j, none⟩ = some (B8 v)) :
    PSt N w.heap.size (w.setCell ⟨ga, k, none⟩ (.slice ao M.length cap)) gl cl ga ca ls (items.set k { t with ao := ao, cap := cap, M := M }) := by
  have hm := map_set_g items k t { t with ao := ao, cap := cap, M := M } hk rfl
  have ht : t ∈ items := List.mem_of_getElem? hk
  have hkl : k < items.length := (List.getElem?_eq_some_iff.1 hk).1
  have hb : ∀ j, j ≠ ga → (w.setCell ⟨ga, k, none⟩ (.slice ao M.length cap)).heap[j]? = w.heap[j]? := fun j hj => heap_setCell_other w _ j _ hj
  have hsz : (w.setCell ⟨ga, k, none⟩ (.slice ao M.length cap)).heap.size = w.heap.size := (SameBut.setCell ga k _ w).size
  have hH := h.hH
  have hgl := h.ltl
  have hga := h.lta
  refine ⟨owns_of_block h.rowL (hb gl h.ne), ?_, h.ne, by omega, by omega, by have := h.hN; omega, Nat.le_of_eq hsz.symm, ?_, by rw [hm]; exact h.nodup⟩
  · rw [List.length_set, List.map_set]
    exact (h.rowA.stored k _).1
  · intro s hsm
    rw [hm]
    obtain ⟨i, hi, rfl⟩ := List.mem_iff_getElem.1 hsm
    rw [List.length_set] at hi
    rw [List.getElem_set]
    split
    · have h0 := h.it t ht
      have := h0.lt
      refine ⟨h0.ge, by show t.g < _; omega, h0.nl, h0.na, h0.dig.of_block (hb t.g h0.na), hnil, hcap, ?_⟩
      rcases hisb with h1 | ⟨B, off, h1, h2, h3, h4⟩
      · exact .inl h1
      · refine .inr ⟨B, off, h1, h3, by omega, by omega, ?_, fun j v hj => (World.cell?_of_block (w := w) (hb B (by omega))).trans (h4 j v hj)⟩
        intro hmem
        obtain ⟨s, hs, e⟩ := List.mem_map.1 hmem
        have := (h.it s hs).lt
        omega
    · have hmem : items[i] ∈ items := List.getElem_mem _
      refine (h.it _ hmem).keep (by omega) (fun j hj _ h2 _ => hb j h2)

theorem PSt.cellL {N H : Nat} {w : World} {gl cl ga ca : Nat} {ls : List Nat} {items : List It} (h : PSt N H w gl cl ga ca ls items) (k g : Nat) (hk : ls[k]? = some g) : w.cell? ⟨gl, k, none⟩ = some (.pointer (some ⟨g, 0, none⟩)) := by
  rw [h.rowL.cellAt k (by have := (List.getElem?_eq_some_iff.1 hk).1; omega), List.getElem?_map, hk]; rfl
theorem PSt.cellA {N H : Nat} {w : World} {gl cl ga ca : Nat} {ls : List Nat} {items : List It} (h : PSt N H w gl cl ga ca ls items) (k : Nat) (t : It) (hk : items[k]? = some t) : w.cell? ⟨ga, k, none⟩ = some (.slice t.ao t.M.length t.cap) := by
  rw [h.rowA.cellAt k (by have := (List.getElem?_eq_some_iff.1 hk).1; omega), List.getElem?_map, hk]; rfl

end Go.Proofs.Ytkcbhikhcgobkaa
