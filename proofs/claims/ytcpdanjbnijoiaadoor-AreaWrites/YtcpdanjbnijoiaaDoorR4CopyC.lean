import Derived.Test.YtcpdanjbnijoiaaDoorR4CopyB

/-! The reference's CopyState. -/
namespace Go.Proofs.YtcpdanjbnijoiaaDoor
open Go.RowKit

/-- A state in memory of its own. -/
structure OwnSt (w : World) (N : Nat) (pgs : List (List (List By))) (er : List Int) (bl : List Bool) (po : Option Addr) (pc : Nat) (ps : List (Nat × Nat)) (eB ec bB bc : Nat) : Prop where
  len : ps.length = pgs.length
  pg : w.ownsRow N 38 1 (.slice po pgs.length pc) pgs.length (List.zipWith pgVal ps pgs)
  page : ∀ (i : Nat) (q : Nat × Nat) (p : List (List By)), ps[i]? = some q → pgs[i]? = some p → w.ownsRow N 40 32 (pgVal q p) p.length (p.flatten.map B8)
  er : w.ownsRow N 3 1 (.slice (some ⟨eB, 0, none⟩) er.length ec) er.length (er.map (Value.int .i64))
  bl : w.ownsRow N 4 1 (.slice (some ⟨bB, 0, none⟩) bl.length bc) bl.length (bl.map Value.bool)
  nd : (eB :: bB :: ps.map (·.1)).Nodup
  ndp : ∀ g, po = some ⟨g, 0, none⟩ → g ∉ eB :: bB :: ps.map (·.1)

theorem owns_lt {w : World} {N e size n c : Nat} {g : Nat} {xs : List Value} (h : w.ownsRow N e size (.slice (some ⟨g, 0, none⟩) n c) n xs) : N ≤ g ∧ g < w.heap.size := h.lt g rfl

theorem OwnSt.lt {w : World} {N : Nat} {pgs : List (List (List By))} {er : List Int} {bl : List Bool} {po : Option Addr} {pc : Nat} {ps : List (Nat × Nat)} {eB ec bB bc : Nat} (h : OwnSt w N pgs er bl po pc ps eB ec bB bc) : ∀ g ∈ eB :: bB :: ps.map (·.1), N ≤ g ∧ g < w.heap.size := by
  intro g hg
  simp only [List.mem_cons, List.mem_map] at hg
  rcases hg with rfl | rfl | ⟨q, hq, rfl⟩
  · exact owns_lt h.er
  · exact owns_lt h.bl
  · obtain ⟨i, hi⟩ := List.mem_iff_getElem?.1 hq
    have hlt : i < pgs.length := by rw [← h.len]; exact (List.getElem?_eq_some_iff.1 hi).1
    exact owns_lt (h.page i q pgs[i] hi (List.getElem?_eq_getElem hlt))

theorem OwnSt.push {w W : World} {N : Nat} {pgs : List (List (List By))} {er : List Int} {bl : List Bool} {po : Option Addr} {pc : Nat} {ps : List (Nat × Nat)} {eB ec bB bc : Nat} (h : OwnSt w N pgs er bl po pc ps eB ec bB bc) (g3 : Nat) (h3 : g3 ∉ eB :: bB :: ps.map (·.1)) (h3p : ∀ g, po = some ⟨g, 0, none⟩ → g3 ≠ g) (h3l : g3 < w.heap.size)
    (k1 : ∀ j, j < w.heap.size → (∀ g, po = some ⟨g, 0, none⟩ → j ≠ g) → j ≠ g3 → W.heap[j]? = w.heap[j]?) (gq cq : Nat) (p : List (List By)) (hq : w.heap.size ≤ gq) (hp : W.ownsRow N 40 32 (.slice (some ⟨gq, 0, none⟩) p.length cq) p.length (p.flatten.map B8)) (ao : Option Addr) (c' : Nat)
    (ho : W.ownsRow N 38 1 (.slice ao (pgs.length + 1) c') (pgs.length + 1) (List.zipWith pgVal ps pgs ++ [.slice (some ⟨gq, 0, none⟩) p.length cq])) (hao : ao = po ∨ ∃ g', ao = some ⟨g', 0, none⟩ ∧ w.heap.size ≤ g' ∧ g' ≠ gq) :
    OwnSt W N (pgs ++ [p]) er bl ao c' (ps ++ [(gq, cq)]) eB ec bB bc ∧ g3 ∉ eB :: bB :: (ps ++ [(gq, cq)]).map (·.1) ∧ ∀ g, ao = some ⟨g, 0, none⟩ → g3 ≠ g := by
  have hlt := h.lt
  have hkeep : ∀ g ∈ eB :: bB :: ps.map (·.1), W.heap[g]? = w.heap[g]? := fun g hg => k1 g (hlt g hg).2 (fun g' hg' e => h.ndp g' hg' (e ▸ hg)) (fun e => h3 (e ▸ hg))
  have hpl : ∀ g, po = some ⟨g, 0, none⟩ → g < w.heap.size := fun g hg => by have := h.pg; rw [hg] at this; exact (owns_lt this).2
  have hnq : gq ∉ eB :: bB :: ps.map (·.1) := fun hm => by have := (hlt gq hm).2; omega
  have hmap : eB :: bB :: (ps ++ [(gq, cq)]).map (·.1) = (eB :: bB :: ps.map (·.1)) ++ [gq] := by simp
  refine ⟨⟨by simp [h.len], ?_, ?_, owns_kept h.er fun g hg => hkeep g (by injection hg with hg; injection hg with hg; simp [hg]), owns_kept h.bl fun g hg => hkeep g (by injection hg with hg; injection hg with hg; simp [hg]), ?_, ?_⟩, ?_, ?_⟩
  · rw [List.zipWith_append h.len]
    simpa [pgVal] using ho
  · intro i q p' hiq hip
    by_cases hi : i < ps.length
    · rw [List.getElem?_append_left hi] at hiq
      rw [List.getElem?_append_left (by rw [← h.len]; exact hi)] at hip
      refine owns_kept (h.page i q p' hiq hip) fun g hg => hkeep g ?_
      injection hg with hg; injection hg with hg; subst hg
      simp only [List.mem_cons]
      exact .inr (.inr (List.mem_map_of_mem (List.mem_of_getElem? hiq)))
    · have h1 := (List.getElem?_eq_some_iff.1 hiq).1
      obtain rfl : i = ps.length := by simp at h1; omega
      rw [List.getElem?_append_right (Nat.le_refl _), Nat.sub_self] at hiq
      rw [h.len, List.getElem?_append_right (Nat.le_refl _), Nat.sub_self] at hip
      simp at hiq hip
      subst hiq hip
      exact hp
  · rw [hmap]
    refine List.nodup_append.2 ⟨h.nd, by simp, ?_⟩
    intro a ha b hb e
    simp at hb
    subst hb
    exact hnq (e ▸ ha)
  · intro g hg
    rw [hmap, List.mem_append, not_or]
    rcases hao with e | ⟨g', e, e1, e2⟩
    · rw [e] at hg
      exact ⟨h.ndp g hg, by have := hpl g hg; simp; omega⟩
    · rw [e] at hg
      injection hg with hg; injection hg with hg; subst hg
      exact ⟨fun hm => by have := (hlt _ hm).2; omega, by simpa using e2⟩
  · rw [hmap, List.mem_append, not_or]
    exact ⟨h3, by simp; omega⟩
  · intro g hg
    rcases hao with e | ⟨g', e, e1, e2⟩
    · exact h3p g (e ▸ hg)
    · rw [e] at hg
      injection hg with hg; injection hg with hg; subst hg
      omega

@[reducible] def IP (c : PC) (y0 y1 y2 y3 y4 y5 y6 y7 y8 y9 y10 y11 y12 y13 y14 y15 y16 y17 y18 y19 y20 y33 : Value) : (Nat → Bool) → Act → World → Prop := fun L a W => ∃ x21 x22 x23 x24 x25 x26 x27 x28 x29 x30 x31 x32 gq, a = ⟨#[y0, y1, y2, y3, y4, y5, y6, y7, y8, y9, y10, y11, y12, y13, y14, y15, y16, y17, y18, y19, y20, x21, x22, x23, x24, x25, x26, x27, x28, x29, x30, x31, x32, y33], []⟩ ∧ PI c L x21 x22 x23 x24 x25 x26 x27 x28 x29 x30 x31 x32 gq W

theorem owns_base {w : World} {N N' e size n : Nat} {v : Value} {xs : List Value} (h : w.ownsRow N e size v n xs) (hN : N' ≤ N) : w.ownsRow N' e size v n xs :=
  ⟨h.1, h.2.imp id fun ⟨g, c, cur, h1, h2, h3⟩ => ⟨g, c, cur, h1, Nat.le_trans hN h2, h3⟩⟩
theorem OwnSt.base {w : World} {N N' : Nat} {pgs : List (List (List By))} {er : List Int} {bl : List Bool} {po : Option Addr} {pc : Nat} {ps : List (Nat × Nat)} {eB ec bB bc : Nat} (h : OwnSt w N pgs er bl po pc ps eB ec bB bc) (hN : N' ≤ N) : OwnSt w N' pgs er bl po pc ps eB ec bB bc :=
  ⟨h.len, owns_base h.pg hN, fun i q p hq hp => owns_base (h.page i q p hq hp) hN, owns_base h.er hN, owns_base h.bl hN, h.nd, h.ndp⟩
theorem OwnSt.but {w w' : World} {N g : Nat} {pgs : List (List (List By))} {er : List Int} {bl : List Bool} {po : Option Addr} {pc : Nat} {ps : List (Nat × Nat)} {eB ec bB bc : Nat} (h : OwnSt w N pgs er bl po pc ps eB ec bB bc) (hs : SameBut g w w') (hg : g < N) : OwnSt w' N pgs er bl po pc ps eB ec bB bc := by
  have key : ∀ {e size n c : Nat} {ao : Option Addr} {xs : List Value}, w.ownsRow N e size (.slice ao n c) n xs → w'.ownsRow N e size (.slice ao n c) n xs := by
    intro e size n c ao xs hh
    refine owns_kept hh fun g' hg' => hs.block _ ?_
    subst hg'
    have := (owns_lt hh).1
    omega
  exact ⟨h.len, key h.pg, fun i q p hq hp => key (h.page i q p hq hp), key h.er, key h.bl, h.nd, h.ndp⟩

end Go.Proofs.YtcpdanjbnijoiaaDoor


/-! The reference's Lay. -/
namespace Go.Proofs.YtcpdanjbnijoiaaDoor
open Go.RowKit

theorem owns_pre {w : World} {N e size n c g : Nat} {xs : List Value} (h : w.ownsRow N e size (.slice (some ⟨g, 0, none⟩) n c) n xs) : Pre w g e xs := by
  rcases h.2 with ⟨h1, _⟩ | ⟨g', c', cur, h1, h2, h3, h4, h5, h6, h7⟩
  · cases h1
  · injection h1 with e1
    injection e1 with e1
    injection e1 with e1
    subst e1
    refine ⟨cur.toList.drop (n * size), ?_⟩
    unfold Row
    rw [← h7, List.take_append_drop]
    exact h3
theorem OwnSt.hasB {w : World} {N : Nat} {pgs : List (List (List By))} {er : List Int} {bl : List Bool} {po : Option Addr} {pc : Nat} {ps : List (Nat × Nat)} {eB ec bB bc : Nat} (h : OwnSt w N pgs er bl po pc ps eB ec bB bc) (hp : 0 < pgs.length) : ∃ pB, po = some ⟨pB, 0, none⟩ ∧ N ≤ pB ∧ pB < w.heap.size := by
  rcases h.pg.2 with ⟨h1, h2⟩ | ⟨g, c', cur, h1, h2, h3, _⟩
  · omega
  · injection h1 with e1
    exact ⟨g, e1, h2, (Array.getElem?_eq_some_iff.1 h3).1⟩

theorem may_parts {c : Cfg} (hc : c.may = 0) : (1 ≤ c.slots ∧ c.slots ≤ 8) ∧ (c.slots + 3 ≤ c.cells ∧ c.cells ≤ 256) ∧ (1 ≤ c.fuses ∧ c.fuses ≤ 64) ∧ (1 ≤ c.keys ∧ c.keys ≤ 64) ∧ (0 ≤ c.area ∧ c.area ≤ 64) := by
  unfold Cfg.may at hc
  split at hc
  · rename_i hh
    simp [Cfg.a, Cfg.b] at hh
    omega
  · omega

/-- A chip that holds a state, as Lay leaves it. -/
def layS (c : Cfg) (t : St) : RS := ⟨c, t.pages, t.erases, t.blown, 0, false, -1, []⟩
theorem lay_ok {c : Cfg} {t : St} (hc : c.may = 0) (hf : Fit c t) (h8 : ∀ p ∈ t.pages, ∀ x ∈ p, x.length = 32) : (layS c t).Ok := by
  obtain ⟨⟨s1, s2⟩, ⟨q1, q2⟩, ⟨f1, f2⟩, ⟨k1, k2⟩, ar1, ar2⟩ := may_parts hc
  obtain ⟨h1, h2, h3, h4⟩ := hf
  have hmul : c.slots * c.fuses ≤ 512 := by
    have := Int.mul_le_mul s2 f2 (by omega) (by omega); omega
  refine ⟨by show t.erases.length = t.pages.length; omega, by show t.pages.length ≤ 130; omega, by show t.blown.length ≤ 576; omega, ?_, by show 1 ≤ c.cells; omega, by show c.cells ≤ 256; omega, h8⟩
  intro p hp
  change p ∈ t.pages at hp
  obtain ⟨i, hi⟩ := List.mem_iff_getElem?.1 hp
  have hlt := (List.getElem?_eq_some_iff.1 hi).1
  have := (h4 i hlt).1
  rw [List.getD_eq_getElem?_getD, hi] at this
  exact this

theorem OwnSt.below {w w' : World} {N : Nat} {pgs : List (List (List By))} {er : List Int} {bl : List Bool} {po : Option Addr} {pc : Nat} {ps : List (Nat × Nat)} {eB ec bB bc : Nat} (h : OwnSt w N pgs er bl po pc ps eB ec bB bc) (hb : Below w.heap.size w w') : OwnSt w' N pgs er bl po pc ps eB ec bB bc := by
  have key : ∀ {e size n c : Nat} {ao : Option Addr} {xs : List Value}, w.ownsRow N e size (.slice ao n c) n xs → w'.ownsRow N e size (.slice ao n c) n xs := by
    intro e size n c ao xs hh
    refine owns_kept hh fun g' hg' => hb.block _ ?_
    subst hg'
    exact (owns_lt hh).2
  exact ⟨h.len, key h.pg, fun i q p hq hp => key (h.page i q p hq hp), key h.er, key h.bl, h.nd, h.ndp⟩

/-- The cells of a chip that Lay lays. -/
def layCells (cf : List Value) (t : St) (po : Option Addr) (pc eB ec bB bc : Nat) : List Value := cf ++ [.slice po t.pages.length pc, .slice (some ⟨eB, 0, none⟩) t.erases.length ec, .slice (some ⟨bB, 0, none⟩) t.blown.length bc, .int .i64 0, .bool false, .int .i64 (-1), .slice none 0 0]

section
variable {w2 : World} {t : St} {cf sv : List Value} {L : Nat → Bool} {x18 x19 x20 x21 x22 x4 x5 : Value} {po : Option Addr} {pc : Nat} {ps : List (Nat × Nat)} {eB ec bB bc g : Nat} {W W' : World}

end

end Go.Proofs.YtcpdanjbnijoiaaDoor


/-! The reference's Copy. -/
namespace Go.Proofs.YtcpdanjbnijoiaaDoor
open Go.RowKit

/-- The cells of a copy. -/
def cpCells (s : RS) (po : Option Addr) (pc eB ec bB bc gm mc : Nat) : List Value := s.c.vals ++ [.slice po s.pages.length pc, .slice (some ⟨eB, 0, none⟩) s.erases.length ec, .slice (some ⟨bB, 0, none⟩) s.blown.length bc, .int .i64 s.n, .bool s.gone, .int .i64 s.wait, .slice (some ⟨gm, 0, none⟩) s.mask.length mc]

section
variable {w : World} {F : RF} {s : RS} {L : Nat → Bool} {x3 x4 x5 x6 x7 x8 x9 x10 x11 x12 x13 x14 x15 x16 x17 x18 x19 x20 x21 x22 x23 x24 x25 x26 x27 x28 x29 x30 x31 x2 : Value} {po : Option Addr} {pc : Nat} {ps : List (Nat × Nat)} {eB ec bB bc gm mc g : Nat} {W W' : World}

end

theorem el_bytes : ElT 29 5 1 1 (.int .u8 0) := ⟨Tryd.underlying29, by kernel_rfl, rfl, by omega⟩

end Go.Proofs.YtcpdanjbnijoiaaDoor
