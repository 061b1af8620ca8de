import Derived.Test.YtikakngpbahhgaaMOpen
/-! Macs beside one another: what lies where. -/
namespace Go.Proofs.Ytikakngpbahhgaa
open Go.RowKit

/-- One Mac of the script: its block, its key, its bytes; what 'keys' and 'all' hold of it. -/
structure Mt where
  g : Nat
  k : List By
  D : List By
  kao : Option Addr
  kcap : Nat
  ao : Option Addr
  cap : Nat
  M : List By

def ptr (g : Nat) : Value := .pointer (some ⟨g, 0, none⟩)
def Mt.pt (t : Mt) : Value := ptr t.g
def Mt.sl (t : Mt) : Value := .slice t.ao t.M.length t.cap
def Mt.ks (t : Mt) : Value := .slice t.kao t.k.length t.kcap

/-- What is known of one of them; S: the blocks that may hold anything of it. -/
structure MtOk (N : Nat) (S : Nat → Prop) (w : World) (gk gl ga : Nat) (gs : List Nat) (t : Mt) : Prop where
  ge : N ≤ t.g
  s : S t.g
  nk : t.g ≠ gk
  nl : t.g ≠ gl
  na : t.g ≠ ga
  mac : MacAt w t.g t.k t.D
  nil : t.ao = none → t.cap = 0
  cap : t.M.length ≤ t.cap
  isb : t.M = [] ∨ ∃ B off, t.ao = some ⟨B, off, none⟩ ∧ S B ∧ B ≠ gk ∧ B ≠ gl ∧ B ≠ ga ∧ B ∉ gs ∧ ∀ j v, t.M[j]? = some v → w.cell? ⟨B, off + j, none⟩ = some (B8 v)

/-- The three rows, and all the Macs. -/
structure PSt (N : Nat) (S : Nat → Prop) (w : World) (gk ck gl cl ga ca : Nat) (items : List Mt) : Prop where
  rowK : w.ownsRow N 22 1 (.slice (some ⟨gk, 0, none⟩) items.length ck) items.length (items.map Mt.ks)
  rowL : w.ownsRow N 38 1 (.slice (some ⟨gl, 0, none⟩) items.length cl) items.length (items.map Mt.pt)
  rowA : w.ownsRow N 22 1 (.slice (some ⟨ga, 0, none⟩) items.length ca) items.length (items.map Mt.sl)
  kl : gk ≠ gl
  ka : gk ≠ ga
  la : gl ≠ ga
  sk : S gk
  sl : S gl
  sa : S ga
  it : ∀ t ∈ items, MtOk N S w gk gl ga (items.map Mt.g) t
  nodup : (items.map Mt.g).Nodup

theorem owns_of_block {w w' : World} {N e g cap n : Nat} {xs : List Value} (h : w.ownsRow N e 1 (.slice (some ⟨g, 0, none⟩) n cap) n xs) (hb : w'.heap[g]? = w.heap[g]?) :
    w'.ownsRow N e 1 (.slice (some ⟨g, 0, none⟩) n cap) n xs := by
  refine ⟨h.1, ?_⟩
  rcases h.2 with ⟨h1, _⟩ | ⟨g', cap', cur, h1, h2, h3, h4⟩
  · cases h1
  · injection h1 with ha hb' hc
    injection ha with ha
    injection ha with ha
    subst ha
    subst hc
    exact .inr ⟨g, cap, cur, rfl, h2, hb.trans h3, h4⟩

theorem MtOk.keep {N : Nat} {S S' : Nat → Prop} {w w' : World} {gk gl ga : Nat} {gs : List Nat} {t : Mt} (h : MtOk N S w gk gl ga gs t) (hS : ∀ k, S k → S' k)
    (hb : ∀ k, S k → k ≠ gk → k ≠ gl → k ≠ ga → (k = t.g ∨ k ∉ gs) → w'.heap[k]? = w.heap[k]?) : MtOk N S' w' gk gl ga gs t := by
  refine ⟨h.ge, hS _ h.s, h.nk, h.nl, h.na, h.mac.of_block (hb t.g h.s h.nk h.nl h.na (.inl rfl)), h.nil, h.cap, ?_⟩
  rcases h.isb with h1 | ⟨B, off, h1, h2, h3, h4, h5, h6, h7⟩
  · exact .inl h1
  · exact .inr ⟨B, off, h1, hS _ h2, h3, h4, h5, h6, fun j v hj => (World.cell?_of_block (w := w) (hb B h2 h3 h4 h5 (.inr h6))).trans (h7 j v hj)⟩

/-- Whatever leaves the blocks of S alone leaves all of it; S may grow. -/
theorem PSt.keep {N : Nat} {S S' : Nat → Prop} {w w' : World} {gk ck gl cl ga ca : Nat} {items : List Mt} (h : PSt N S w gk ck gl cl ga ca items) (hb : ∀ k, S k → w'.heap[k]? = w.heap[k]?) (hS : ∀ k, S k → S' k) : PSt N S' w' gk ck gl cl ga ca items :=
  ⟨owns_of_block h.rowK (hb gk h.sk), owns_of_block h.rowL (hb gl h.sl), owns_of_block h.rowA (hb ga h.sa), h.kl, h.ka, h.la, hS _ h.sk, hS _ h.sl, hS _ h.sa, fun t ht => (h.it t ht).keep hS (fun k hk _ _ _ _ => hb k hk), h.nodup⟩

theorem map_set_g (items : List Mt) (k : Nat) (t t' : Mt) (hk : items[k]? = some t) {α : Type} (f : Mt → α) (hg : f t' = f t) : (items.set k t').map f = items.map f := by
  rw [List.map_set, hg]
  apply List.ext_getElem?
  intro i
  rw [List.getElem?_set]
  split
  · rename_i h
    subst h
    split
    · rw [List.getElem?_map, hk]; rfl
    · rename_i h2
      rw [List.getElem?_eq_none (by omega)]
  · rfl

/-- Mac k has been written to. -/
theorem PSt.write {N : Nat} {S : Nat → Prop} {w w' : World} {gk ck gl cl ga ca : Nat} {items : List Mt} (h : PSt N S w gk ck gl cl ga ca items) (k : Nat) (t : Mt) (hk : items[k]? = some t) (D' : List By)
    (hb : ∀ j, S j → j ≠ t.g → w'.heap[j]? = w.heap[j]?) (hd : MacAt w' t.g t.k D') : PSt N S w' gk ck gl cl ga ca (items.set k { t with D := D' }) := by
  have hm := map_set_g items k t { t with D := D' } hk Mt.g rfl
  have hks := map_set_g items k t { t with D := D' } hk Mt.ks rfl
  have hpt := map_set_g items k t { t with D := D' } hk Mt.pt rfl
  have hsl := map_set_g items k t { t with D := D' } hk Mt.sl rfl
  have ht : t ∈ items := List.mem_of_getElem? hk
  have hkl : k < items.length := (List.getElem?_eq_some_iff.1 hk).1
  have hke : items[k] = t := (List.getElem?_eq_some_iff.1 hk).2
  have h0 := h.it t ht
  refine ⟨?_, ?_, ?_, h.kl, h.ka, h.la, h.sk, h.sl, h.sa, ?_, by rw [hm]; exact h.nodup⟩
  · rw [List.length_set, hks]; exact owns_of_block h.rowK (hb gk h.sk h0.nk.symm)
  · rw [List.length_set, hpt]; exact owns_of_block h.rowL (hb gl h.sl h0.nl.symm)
  · rw [List.length_set, hsl]; exact owns_of_block h.rowA (hb ga h.sa h0.na.symm)
  · intro s hsm
    rw [hm]
    obtain ⟨i, hi, rfl⟩ := List.mem_iff_getElem.1 hsm
    rw [List.length_set] at hi
    rw [List.getElem_set]
    split
    · refine ⟨h0.ge, h0.s, h0.nk, h0.nl, h0.na, hd, h0.nil, h0.cap, ?_⟩
      rcases h0.isb with h1 | ⟨B, off, h1, h2, h3, h4, h5, h6, h7⟩
      · exact .inl h1
      · refine .inr ⟨B, off, h1, h2, h3, h4, h5, h6, fun j v hj => (World.cell?_of_block (w := w) (hb B h2 ?_)).trans (h7 j v hj)⟩
        rintro rfl
        exact h6 (List.mem_map_of_mem ht)
    · rename_i hne
      have hmem : items[i] ∈ items := List.getElem_mem _
      refine (h.it _ hmem).keep (fun _ h => h) (fun j hj _ _ _ hor => hb j hj ?_)
      rintro rfl
      rcases hor with e | e
      · have h1 : (items.map Mt.g)[i]'(by simpa using hi) = (items.map Mt.g)[k]'(by simpa using hkl) := by simp [hke, e]
        have hp := List.pairwise_iff_getElem.1 h.nodup
        rcases Nat.lt_or_gt_of_ne hne with hl | hl
        · exact hp k i (by simpa using hkl) (by simpa using hi) hl h1.symm
        · exact hp i k (by simpa using hi) (by simpa using hkl) hl h1
      · exact e (List.mem_map_of_mem ht)

theorem grown_block {w w' : World} {o : Obj} {r : Nat} (h : (w.alloc o).grownBy w' (some r)) (k : Nat) (hk : k < w.heap.size) (hne : k ≠ r) : w'.heap[k]? = w.heap[k]? :=
  (h.block k (by simp; omega) (by simpa using hne)).trans (Below.heap_alloc w o k hk)

set_option maxHeartbeats 2000000 in
/-- A Mac more: all three rows have been appended to, 'l' first, then 'keys', then 'all'. -/
theorem PSt.push {N : Nat} {S S' : Nat → Prop} {w1 w2 w3 w4 : World} {gk ck gl cl ga ca gk' ck' gl' cl' ga' ca' n : Nat} {items : List Mt} {o2 o3 o4 : Obj} (t : Mt) (h : PSt N S w1 gk ck gl cl ga ca items) (hSb : ∀ k, S k → k < w1.heap.size)
    (hn : n = items.length) (hgN : N ≤ t.g) (hg : ¬ S t.g) (hg' : t.g < w1.heap.size) (hd : MacAt w1 t.g t.k t.D) (hM : t.M = []) (hnil : t.ao = none → t.cap = 0)
    (hr2 : (w1.alloc o2).grownBy w2 (some gl)) (ho2 : w2.ownsRow N 38 1 (.slice (some ⟨gl', 0, none⟩) (n + 1) cl') (n + 1) (items.map Mt.pt ++ [t.pt])) (ha2 : some gl = some gl' ∨ gl' = w1.heap.size + 1) (hl2 : gl' < w2.heap.size)
    (hr3 : (w2.alloc o3).grownBy w3 (some gk)) (ho3 : w3.ownsRow N 22 1 (.slice (some ⟨gk', 0, none⟩) (n + 1) ck') (n + 1) (items.map Mt.ks ++ [t.ks])) (ha3 : some gk = some gk' ∨ gk' = w2.heap.size + 1) (hl3 : gk' < w3.heap.size)
    (hr4 : (w3.alloc o4).grownBy w4 (some ga)) (ho4 : w4.ownsRow N 22 1 (.slice (some ⟨ga', 0, none⟩) (n + 1) ca') (n + 1) (items.map Mt.sl ++ [t.sl])) (ha4 : some ga = some ga' ∨ ga' = w3.heap.size + 1)
    (hS : ∀ k, S k → S' k) (hSg : S' t.g) (hSk : S' gk') (hSl : S' gl') (hSa : S' ga') :
    PSt N S' w4 gk' ck' gl' cl' ga' ca' (items ++ [t]) := by
  have hs2 : w1.heap.size + 1 ≤ w2.heap.size := by have := hr2.size; simpa using this
  have hs3 : w2.heap.size + 1 ≤ w3.heap.size := by have := hr3.size; simpa using this
  have hs4 : w3.heap.size + 1 ≤ w4.heap.size := by have := hr4.size; simpa using this
  have hb : ∀ k, k < w1.heap.size → k ≠ gk → k ≠ gl → k ≠ ga → w4.heap[k]? = w1.heap[k]? := fun k hk h1 h2 h3 =>
    ((grown_block hr4 k (by omega) h3).trans (grown_block hr3 k (by omega) h1)).trans (grown_block hr2 k hk h2)
  have lk := hSb _ h.sk
  have ll := hSb _ h.sl
  have la := hSb _ h.sa
  have e2 : gl' = gl ∨ gl' = w1.heap.size + 1 := by
    rcases ha2 with e | e
    · injection e with e; exact .inl e.symm
    · exact .inr e
  have e3 : gk' = gk ∨ gk' = w2.heap.size + 1 := by
    rcases ha3 with e | e
    · injection e with e; exact .inl e.symm
    · exact .inr e
  have e4 : ga' = ga ∨ ga' = w3.heap.size + 1 := by
    rcases ha4 with e | e
    · injection e with e; exact .inl e.symm
    · exact .inr e
  have n1 := h.kl
  have n2 := h.ka
  have n3 := h.la
  have tk : t.g ≠ gk := fun e => hg (e ▸ h.sk)
  have tl : t.g ≠ gl := fun e => hg (e ▸ h.sl)
  have ta : t.g ≠ ga := fun e => hg (e ▸ h.sa)
  have hL : (items ++ [t]).length = n + 1 := by simp [hn]
  refine ⟨?_, ?_, ?_, by omega, by omega, by omega, hSk, hSl, hSa, ?_, ?_⟩
  · rw [hL, List.map_append]
    refine owns_of_block ho3 (grown_block hr4 gk' hl3 ?_)
    omega
  · rw [hL, List.map_append]
    refine owns_of_block ho2 ((grown_block hr4 gl' (by omega) ?_).trans (grown_block hr3 gl' hl2 ?_))
    · omega
    · omega
  · rw [hL, List.map_append]
    exact ho4
  · intro s hs
    rw [List.map_append]
    have key : ∀ B, S B → B ∉ items.map Mt.g → B ∉ items.map Mt.g ++ [t].map Mt.g := by
      intro B hB hm hm2
      rcases List.mem_append.1 hm2 with h1 | h1
      · exact hm h1
      · simp at h1
        exact hg (h1 ▸ hB)
    rcases List.mem_append.1 hs with hs | hs
    · have h0 := h.it s hs
      have hl := hSb _ h0.s
      have m1 := h0.nk
      have m2 := h0.nl
      have m3 := h0.na
      refine ⟨h0.ge, hS _ h0.s, by omega, by omega, by omega, h0.mac.of_block (hb s.g hl m1 m2 m3), h0.nil, h0.cap, ?_⟩
      rcases h0.isb with h1 | ⟨B, off, h1, h2, h3, h4, h5, h6, h7⟩
      · exact .inl h1
      · have hBl := hSb _ h2
        exact .inr ⟨B, off, h1, hS _ h2, by omega, by omega, by omega, key B h2 h6, fun j v hj => (World.cell?_of_block (w := w1) (hb B hBl h3 h4 h5)).trans (h7 j v hj)⟩
    · simp at hs
      subst hs
      exact ⟨hgN, hSg, by omega, by omega, by omega, hd.of_block (hb _ hg' tk tl ta), hnil, by rw [hM]; simp, .inl hM⟩
  · rw [List.map_append]
    refine List.nodup_append.2 ⟨h.nodup, by simp, ?_⟩
    intro a ha b hb'
    simp at hb'
    subst hb'
    obtain ⟨s, hs, rfl⟩ := List.mem_map.1 ha
    intro e
    exact hg (e ▸ (h.it s hs).s)

/-- all[k] has been written over by bytes that lie in a block of their own. -/
theorem PSt.storeA {N : Nat} {S S' : Nat → Prop} {w : World} {gk ck gl cl ga ca : Nat} {items : List Mt} (h : PSt N S w gk ck gl cl ga ca items) (k : Nat) (t : Mt) (hk : items[k]? = some t) (ao : Option Addr) (cap : Nat) (M : List By)
    (hnil : ao = none → cap = 0) (hcap : M.length ≤ cap) (hS : ∀ k, S k → S' k) (hisb : M = [] ∨ ∃ B off, ao = some ⟨B, off, none⟩ ∧ ¬ S B ∧ S' B ∧ ∀ j v, M[j]? = some v → w.cell? ⟨B, off + j, none⟩ = some (B8 v)) :
    PSt N S' (w.setCell ⟨ga, k, none⟩ (.slice ao M.length cap)) gk ck gl cl ga ca (items.set k { t with ao := ao, cap := cap, M := M }) := by
  have hm := map_set_g items k t { t with ao := ao, cap := cap, M := M } hk Mt.g rfl
  have hks := map_set_g items k t { t with ao := ao, cap := cap, M := M } hk Mt.ks rfl
  have hpt := map_set_g items k t { t with ao := ao, cap := cap, M := M } hk Mt.pt rfl
  have ht : t ∈ items := List.mem_of_getElem? hk
  have hkl : k < items.length := (List.getElem?_eq_some_iff.1 hk).1
  have hb : ∀ j, j ≠ ga → (w.setCell ⟨ga, k, none⟩ (.slice ao M.length cap)).heap[j]? = w.heap[j]? := fun j hj => heap_setCell_other w _ j _ hj
  refine ⟨?_, ?_, ?_, h.kl, h.ka, h.la, hS _ h.sk, hS _ h.sl, hS _ h.sa, ?_, by rw [hm]; exact h.nodup⟩
  · rw [List.length_set, hks]; exact owns_of_block h.rowK (hb gk h.ka)
  · rw [List.length_set, hpt]; exact owns_of_block h.rowL (hb gl h.la)
  · rw [List.length_set, List.map_set]
    exact (h.rowA.stored k _).1
  · intro s hsm
    rw [hm]
    obtain ⟨i, hi, rfl⟩ := List.mem_iff_getElem.1 hsm
    rw [List.length_set] at hi
    rw [List.getElem_set]
    split
    · have h0 := h.it t ht
      refine ⟨h0.ge, hS _ h0.s, h0.nk, h0.nl, h0.na, h0.mac.of_block (hb t.g h0.na), hnil, hcap, ?_⟩
      rcases hisb with h1 | ⟨B, off, h1, h2, h3, h4⟩
      · exact .inl h1
      · have q1 : B ≠ gk := fun e => h2 (e ▸ h.sk)
        have q2 : B ≠ gl := fun e => h2 (e ▸ h.sl)
        have q3 : B ≠ ga := fun e => h2 (e ▸ h.sa)
        refine .inr ⟨B, off, h1, h3, q1, q2, q3, ?_, fun j v hj => (World.cell?_of_block (w := w) (hb B q3)).trans (h4 j v hj)⟩
        intro hmem
        obtain ⟨s, hs, e⟩ := List.mem_map.1 hmem
        exact h2 (e ▸ (h.it s hs).s)
    · have hmem : items[i] ∈ items := List.getElem_mem _
      exact (h.it _ hmem).keep hS (fun j hj _ _ h2 _ => hb j h2)

theorem PSt.cellK {N : Nat} {S : Nat → Prop} {w : World} {gk ck gl cl ga ca : Nat} {items : List Mt} (h : PSt N S w gk ck gl cl ga ca items) (k : Nat) (t : Mt) (hk : items[k]? = some t) : w.cell? ⟨gk, k, none⟩ = some (.slice t.kao t.k.length t.kcap) := by
  rw [h.rowK.cellAt k (by have := (List.getElem?_eq_some_iff.1 hk).1; omega), List.getElem?_map, hk]; rfl
theorem PSt.cellL {N : Nat} {S : Nat → Prop} {w : World} {gk ck gl cl ga ca : Nat} {items : List Mt} (h : PSt N S w gk ck gl cl ga ca items) (k : Nat) (t : Mt) (hk : items[k]? = some t) : w.cell? ⟨gl, k, none⟩ = some (.pointer (some ⟨t.g, 0, none⟩)) := by
  rw [h.rowL.cellAt k (by have := (List.getElem?_eq_some_iff.1 hk).1; omega), List.getElem?_map, hk]; rfl
theorem PSt.cellA {N : Nat} {S : Nat → Prop} {w : World} {gk ck gl cl ga ca : Nat} {items : List Mt} (h : PSt N S w gk ck gl cl ga ca items) (k : Nat) (t : Mt) (hk : items[k]? = some t) : w.cell? ⟨ga, k, none⟩ = some (.slice t.ao t.M.length t.cap) := by
  rw [h.rowA.cellAt k (by have := (List.getElem?_eq_some_iff.1 hk).1; omega), List.getElem?_map, hk]; rfl
theorem PSt.geK {N : Nat} {S : Nat → Prop} {w : World} {gk ck gl cl ga ca : Nat} {items : List Mt} (h : PSt N S w gk ck gl cl ga ca items) : N ≤ gk := (h.rowK.lt gk rfl).1
theorem PSt.geL {N : Nat} {S : Nat → Prop} {w : World} {gk ck gl cl ga ca : Nat} {items : List Mt} (h : PSt N S w gk ck gl cl ga ca items) : N ≤ gl := (h.rowL.lt gl rfl).1
theorem PSt.geA {N : Nat} {S : Nat → Prop} {w : World} {gk ck gl cl ga ca : Nat} {items : List Mt} (h : PSt N S w gk ck gl cl ga ca items) : N ≤ ga := (h.rowA.lt ga rfl).1
theorem PSt.isB {N : Nat} {S : Nat → Prop} {w : World} {gk ck gl cl ga ca : Nat} {items : List Mt} (h : PSt N S w gk ck gl cl ga ca items) (t : Mt) (ht : t ∈ items) : IsB w t.ao t.M := by
  rcases (h.it t ht).isb with h1 | ⟨B, off, h1, _, _, _, _, _, h7⟩
  · exact .inl h1
  · exact .inr ⟨B, off, h1, h7⟩
end Go.Proofs.Ytikakngpbahhgaa
