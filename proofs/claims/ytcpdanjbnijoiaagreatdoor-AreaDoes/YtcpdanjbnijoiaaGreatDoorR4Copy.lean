
import Derived.Test.YtcpdanjbnijoiaaGreatDoorR4CopyB
/-! The reference's CopyState. -/
namespace Go.Proofs.YtcpdanjbnijoiaaGreatDoor
open Go.RowKit

/-- A state in memory of its own. -/
structure OwnSt (w : World) (N : Nat) (pgs : List (List (List By))) (er : List Int) (bl : List Bool) (po : Option Addr) (pc : Nat) (ps : List (Nat × Nat)) (eB ec bB bc : Nat) : Prop where
  len : ps.length = pgs.length
  pg : w.ownsRow N 74 1 (.slice po pgs.length pc) pgs.length (List.zipWith pgVal ps pgs)
  page : ∀ (i : Nat) (q : Nat × Nat) (p : List (List By)), ps[i]? = some q → pgs[i]? = some p → w.ownsRow N 55 32 (pgVal q p) p.length (p.flatten.map B8)
  er : w.ownsRow N 3 1 (.slice (some ⟨eB, 0, none⟩) er.length ec) er.length (er.map (Value.int .i64))
  bl : w.ownsRow N 4 1 (.slice (some ⟨bB, 0, none⟩) bl.length bc) bl.length (bl.map Value.bool)
  nd : (eB :: bB :: ps.map (·.1)).Nodup
  ndp : ∀ g, po = some ⟨g, 0, none⟩ → g ∉ eB :: bB :: ps.map (·.1)

theorem owns_lt {w : World} {N e size n c : Nat} {g : Nat} {xs : List Value} (h : w.ownsRow N e size (.slice (some ⟨g, 0, none⟩) n c) n xs) : N ≤ g ∧ g < w.heap.size := h.lt g rfl

theorem OwnSt.lt {w : World} {N : Nat} {pgs : List (List (List By))} {er : List Int} {bl : List Bool} {po : Option Addr} {pc : Nat} {ps : List (Nat × Nat)} {eB ec bB bc : Nat} (h : OwnSt w N pgs er bl po pc ps eB ec bB bc) : ∀ g ∈ eB :: bB :: ps.map (·.1), N ≤ g ∧ g < w.heap.size := by
  intro g hg
  simp only [List.mem_cons, List.mem_map] at hg
  rcases hg with rfl | rfl | ⟨q, hq, rfl⟩
  · exact owns_lt h.er
  · exact owns_lt h.bl
  · obtain ⟨i, hi⟩ := List.mem_iff_getElem?.1 hq
    have hlt : i < pgs.length := by rw [← h.len]; exact (List.getElem?_eq_some_iff.1 hi).1
    exact owns_lt (h.page i q pgs[i] hi (List.getElem?_eq_getElem hlt))

theorem OwnSt.push {w W : World} {N : Nat} {pgs : List (List (List By))} {er : List Int} {bl : List Bool} {po : Option Addr} {pc : Nat} {ps : List (Nat × Nat)} {eB ec bB bc : Nat} (h : OwnSt w N pgs er bl po pc ps eB ec bB bc) (g3 : Nat) (h3 : g3 ∉ eB :: bB :: ps.map (·.1)) (h3p : ∀ g, po = some ⟨g, 0, none⟩ → g3 ≠ g) (h3l : g3 < w.heap.size)
    (k1 : ∀ j, j < w.heap.size → (∀ g, po = some ⟨g, 0, none⟩ → j ≠ g) → j ≠ g3 → W.heap[j]? = w.heap[j]?) (gq cq : Nat) (p : List (List By)) (hq : w.heap.size ≤ gq) (hp : W.ownsRow N 55 32 (.slice (some ⟨gq, 0, none⟩) p.length cq) p.length (p.flatten.map B8)) (ao : Option Addr) (c' : Nat)
    (ho : W.ownsRow N 74 1 (.slice ao (pgs.length + 1) c') (pgs.length + 1) (List.zipWith pgVal ps pgs ++ [.slice (some ⟨gq, 0, none⟩) p.length cq])) (hao : ao = po ∨ ∃ g', ao = some ⟨g', 0, none⟩ ∧ w.heap.size ≤ g' ∧ g' ≠ gq) :
    OwnSt W N (pgs ++ [p]) er bl ao c' (ps ++ [(gq, cq)]) eB ec bB bc ∧ g3 ∉ eB :: bB :: (ps ++ [(gq, cq)]).map (·.1) ∧ ∀ g, ao = some ⟨g, 0, none⟩ → g3 ≠ g := by
  have hlt := h.lt
  have hkeep : ∀ g ∈ eB :: bB :: ps.map (·.1), W.heap[g]? = w.heap[g]? := fun g hg => k1 g (hlt g hg).2 (fun g' hg' e => h.ndp g' hg' (e ▸ hg)) (fun e => h3 (e ▸ hg))
  have hpl : ∀ g, po = some ⟨g, 0, none⟩ → g < w.heap.size := fun g hg => by have := h.pg; rw [hg] at this; exact (owns_lt this).2
  have hnq : gq ∉ eB :: bB :: ps.map (·.1) := fun hm => by have := (hlt gq hm).2; omega
  have hmap : eB :: bB :: (ps ++ [(gq, cq)]).map (·.1) = (eB :: bB :: ps.map (·.1)) ++ [gq] := by simp
  refine ⟨⟨by simp [h.len], ?_, ?_, owns_kept h.er fun g hg => hkeep g (by injection hg with hg; injection hg with hg; simp [hg]), owns_kept h.bl fun g hg => hkeep g (by injection hg with hg; injection hg with hg; simp [hg]), ?_, ?_⟩, ?_, ?_⟩
  · rw [List.zipWith_append h.len]
    simpa [pgVal] using ho
  · intro i q p' hiq hip
    by_cases hi : i < ps.length
    · rw [List.getElem?_append_left hi] at hiq
      rw [List.getElem?_append_left (by rw [← h.len]; exact hi)] at hip
      refine owns_kept (h.page i q p' hiq hip) fun g hg => hkeep g ?_
      injection hg with hg; injection hg with hg; subst hg
      simp only [List.mem_cons]
      exact .inr (.inr (List.mem_map_of_mem (List.mem_of_getElem? hiq)))
    · have h1 := (List.getElem?_eq_some_iff.1 hiq).1
      obtain rfl : i = ps.length := by simp at h1; omega
      rw [List.getElem?_append_right (Nat.le_refl _), Nat.sub_self] at hiq
      rw [h.len, List.getElem?_append_right (Nat.le_refl _), Nat.sub_self] at hip
      simp at hiq hip
      subst hiq hip
      exact hp
  · rw [hmap]
    refine List.nodup_append.2 ⟨h.nd, by simp, ?_⟩
    intro a ha b hb e
    simp at hb
    subst hb
    exact hnq (e ▸ ha)
  · intro g hg
    rw [hmap, List.mem_append, not_or]
    rcases hao with e | ⟨g', e, e1, e2⟩
    · rw [e] at hg
      exact ⟨h.ndp g hg, by have := hpl g hg; simp; omega⟩
    · rw [e] at hg
      injection hg with hg; injection hg with hg; subst hg
      exact ⟨fun hm => by have := (hlt _ hm).2; omega, by simpa using e2⟩
  · rw [hmap, List.mem_append, not_or]
    exact ⟨h3, by simp; omega⟩
  · intro g hg
    rcases hao with e | ⟨g', e, e1, e2⟩
    · exact h3p g (e ▸ hg)
    · rw [e] at hg
      injection hg with hg; injection hg with hg; subst hg
      omega

@[reducible] def IP (c : PC) (y0 y1 y2 y3 y4 y5 y6 y7 y8 y9 y10 y11 y12 y13 y14 y15 y16 y17 y18 y19 y20 y33 : Value) : (Nat → Bool) → Act → World → Prop := fun L a W => ∃ x21 x22 x23 x24 x25 x26 x27 x28 x29 x30 x31 x32 gq, a = ⟨#[y0, y1, y2, y3, y4, y5, y6, y7, y8, y9, y10, y11, y12, y13, y14, y15, y16, y17, y18, y19, y20, x21, x22, x23, x24, x25, x26, x27, x28, x29, x30, x31, x32, y33], []⟩ ∧ PI c L x21 x22 x23 x24 x25 x26 x27 x28 x29 x30 x31 x32 gq W

theorem owns_base {w : World} {N N' e size n : Nat} {v : Value} {xs : List Value} (h : w.ownsRow N e size v n xs) (hN : N' ≤ N) : w.ownsRow N' e size v n xs :=
  ⟨h.1, h.2.imp id fun ⟨g, c, cur, h1, h2, h3⟩ => ⟨g, c, cur, h1, Nat.le_trans hN h2, h3⟩⟩
theorem OwnSt.base {w : World} {N N' : Nat} {pgs : List (List (List By))} {er : List Int} {bl : List Bool} {po : Option Addr} {pc : Nat} {ps : List (Nat × Nat)} {eB ec bB bc : Nat} (h : OwnSt w N pgs er bl po pc ps eB ec bB bc) (hN : N' ≤ N) : OwnSt w N' pgs er bl po pc ps eB ec bB bc :=
  ⟨h.len, owns_base h.pg hN, fun i q p hq hp => owns_base (h.page i q p hq hp) hN, owns_base h.er hN, owns_base h.bl hN, h.nd, h.ndp⟩
theorem OwnSt.but {w w' : World} {N g : Nat} {pgs : List (List (List By))} {er : List Int} {bl : List Bool} {po : Option Addr} {pc : Nat} {ps : List (Nat × Nat)} {eB ec bB bc : Nat} (h : OwnSt w N pgs er bl po pc ps eB ec bB bc) (hs : SameBut g w w') (hg : g < N) : OwnSt w' N pgs er bl po pc ps eB ec bB bc := by
  have key : ∀ {e size n c : Nat} {ao : Option Addr} {xs : List Value}, w.ownsRow N e size (.slice ao n c) n xs → w'.ownsRow N e size (.slice ao n c) n xs := by
    intro e size n c ao xs hh
    refine owns_kept hh fun g' hg' => hs.block _ ?_
    subst hg'
    have := (owns_lt hh).1
    omega
  exact ⟨h.len, key h.pg, fun i q p hq hp => key (h.page i q p hq hp), key h.er, key h.bl, h.nd, h.ndp⟩

set_option maxHeartbeats 1000000 in
set_option maxRecDepth 100000 in
theorem copyState_any (v : SV) (t : St) (w : World) (h : StV w v t) (hne : v.eo = none → v.ec = 0) (hnb : v.bo = none → v.bc = 0) (l2 : t.erases.length ≤ 17592186044416) (l3 : t.blown.length ≤ 140737488351232) (l1 : t.pages.length ≤ 5864062014634) (hpl : ∀ p, p < t.pages.length → (t.pages.getD p []).length ≤ 4398046511104) (hnp' : ∀ B off p n qc, v.po = some ⟨B, off, none⟩ → p < t.pages.length → w.cell? ⟨B, off + p, none⟩ = some (.slice none n qc) → qc = 0) :
    Calls Tryz.prog 24 #[.agg (v.vals t).toArray] w fun e w' => ∃ po pc ps eB ec bB bc, e = .returned (.agg #[.slice po t.pages.length pc, .slice (some ⟨eB, 0, none⟩) t.erases.length ec, .slice (some ⟨bB, 0, none⟩) t.blown.length bc]) ∧ OwnSt w' w.heap.size t.pages t.erases t.blown po pc ps eB ec bB bc ∧ Below w.heap.size w w' := by
  simp only [SV.vals]
  have hz : ∀ w : World, (zeroValue 28).run Tryz.prog w = .ok (.agg #[.slice none 0 0, .slice none 0 0, .slice none 0 0]) w := fun _ => by kernel_rfl
  have hx1 : t.erases.length ≤ maxLen := by unfold maxLen; omega
  have hx2 : t.blown.length ≤ maxLen := by unfold maxLen; omega
  have r0 : Row (w.alloc (.cells #[.slice v.po t.pages.length v.pc, .slice v.eo t.erases.length v.ec, .slice v.bo t.blown.length v.bc] 28)) w.heap.size 28 [.slice v.po t.pages.length v.pc, .slice v.eo t.erases.length v.ec, .slice v.bo t.blown.length v.bc] := Row.at _ _ _ _ _ rfl rfl
  have cA := (r0.alloc (.cells #[.slice none 0 0, .slice none 0 0, .slice none 0 0] 28)).cell 0 _ rfl
  have rR : Row ((w.alloc (.cells #[.slice v.po t.pages.length v.pc, .slice v.eo t.erases.length v.ec, .slice v.bo t.blown.length v.bc] 28)).alloc (.cells #[.slice none 0 0, .slice none 0 0, .slice none 0 0] 28)) (w.heap.size + 1) 28 [nilS, nilS, nilS] := Row.at _ _ _ _ _ (by simp) rfl
  have c1 := (r0.alloc (.cells #[.slice none 0 0, .slice none 0 0, .slice none 0 0] 28)).cell 1 _ rfl
  have c2 := (r0.alloc (.cells #[.slice none 0 0, .slice none 0 0, .slice none 0 0] 28)).cell 2 _ rfl
  have hz1 : ((w.alloc (.cells #[.slice v.po t.pages.length v.pc, .slice v.eo t.erases.length v.ec, .slice v.bo t.blown.length v.bc] 28)).alloc (.cells #[.slice none 0 0, .slice none 0 0, .slice none 0 0] 28)).heap.size = w.heap.size + 2 := by simp
  have hnp : ∀ B off p n qc, v.po = some ⟨B, off, none⟩ → p < t.pages.length → ((w.alloc (.cells #[.slice v.po t.pages.length v.pc, .slice v.eo t.erases.length v.ec, .slice v.bo t.blown.length v.bc] 28)).alloc (.cells #[.slice none 0 0, .slice none 0 0, .slice none 0 0] 28)).cell? ⟨B, off + p, none⟩ = some (.slice none n qc) → qc = 0 := by
    intro B off p n qc e1 e2 e3
    obtain ⟨B', off', qo, qc', f1, f2, _⟩ := h.page p e2
    rw [e1] at f1
    injection f1 with f1
    injection f1 with f3 f4
    subst f3 f4
    refine hnp' B off p n qc e1 e2 ?_
    rw [← e3]
    have hbb : Below w.heap.size w ((w.alloc (.cells #[.slice v.po t.pages.length v.pc, .slice v.eo t.erases.length v.ec, .slice v.bo t.blown.length v.bc] 28)).alloc (.cells #[.slice none 0 0, .slice none 0 0, .slice none 0 0] 28)) := ((Below.refl _ _).alloc (Nat.le_refl _) _).alloc (by simp) _
    exact (hbb.cell (World.block_lt_of_cell? _ _ f2)).symm
  clear hnp'
  have bW : Below w.heap.size w ((w.alloc (.cells #[.slice v.po t.pages.length v.pc, .slice v.eo t.erases.length v.ec, .slice v.bo t.blown.length v.bc] 28)).alloc (.cells #[.slice none 0 0, .slice none 0 0, .slice none 0 0] 28)) := ((Below.refl _ _).alloc (Nat.le_refl _) _).alloc (by simp) _
  have hV : StV ((w.alloc (.cells #[.slice v.po t.pages.length v.pc, .slice v.eo t.erases.length v.ec, .slice v.bo t.blown.length v.bc] 28)).alloc (.cells #[.slice none 0 0, .slice none 0 0, .slice none 0 0] 28)) v t := h.below (((Below.refl _ _).alloc (Nat.le_refl _) _).alloc (by simp) _) (Nat.le_refl _)
  go_enter Tryz.func24, Tryz.ntmps24
  go_wp2
  generalize hW1 : (w.alloc (.cells #[.slice v.po t.pages.length v.pc, .slice v.eo t.erases.length v.ec, .slice v.bo t.blown.length v.bc] 28)).alloc (.cells #[.slice none 0 0, .slice none 0 0, .slice none 0 0] 28) = W1 at *
  clear hW1 r0
  refine wp_region_inv (fun L a W => ∃ x3 x5 x6 x7 x8 x9 x10 x11 x12 x13 g1 g2 g3, a = ⟨#[.agg #[.slice v.po t.pages.length v.pc, .slice v.eo t.erases.length v.ec, .slice v.bo t.blown.length v.bc], .pointer (some ⟨w.heap.size, 0, none⟩), .pointer (some ⟨w.heap.size + 1, 0, none⟩), x3, undef, x5, x6, x7, x8, x9, x10, x11, x12, x13, undef, undef, undef, undef, undef, undef, undef, undef, undef, undef, undef, undef, undef, undef, undef, undef, undef, undef, undef, undef], []⟩ ∧ CI w.heap.size W1 v t L x3 x5 x6 x7 x8 x9 x10 x11 x12 x13 g1 g2 g3 W) (by kernel_rfl) (by kernel_rfl) ⟨_, _, _, _, _, _, _, _, _, _, _, _, _, rfl, CI.zero W1⟩ ?_ ?_
  · refine .cons ?_ (.cons ?_ (.cons ?_ (.cons ?_ (.cons ?_ (.cons ?_ (.cons ?_ (.cons ?_ (.cons ?_ (.cons ?_ (.cons ?_ .nil))))))))))
    all_goals (rintro L a W ⟨x3, x5, x6, x7, x8, x9, x10, x11, x12, x13, g1, g2, g3, rfl, hI⟩ hL hd K hK)
    · rw [if_pos (by rfl)]
      go_simp
      exact hK.out _ _ ⟨_, _, _, _, _, _, _, _, _, _, _, _, _, rfl, hI.s0 hL⟩
    · rw [if_pos (by rfl)]
      go_simp
      exact hK.out _ _ ⟨_, _, _, _, _, _, _, _, _, _, _, _, _, rfl, hI.s1⟩
    · have hx := hI.e6 (hd 1 (by decide))
      subst hx
      have hc : W.cell? ⟨w.heap.size, 1, none⟩ = some (.slice v.eo t.erases.length v.ec) := (hI.bel.cell (by show w.heap.size < _; omega)).trans c1
      rw [if_pos (by rfl)]
      go_simp
      exact hK.out _ _ ⟨_, _, _, _, _, _, _, _, _, _, _, _, _, rfl, hI.s2⟩
    · have hx := hI.e7 (hd 2 (by decide))
      obtain ⟨hy, hg⟩ := hI.e5 (hd 0 (by decide)) hL
      subst hx hy
      refine step_append_fresh el_ints rfl (.tmp 5) (.tmp 7) rfl W1.heap.size g1 rfl hg (hI.b1 (hd 0 (by decide))).1 v.eo t.erases.length v.ec _ rfl (by simp) (hV.er.below hI.bel (Nat.le_refl _)) (ints_one _) hne hx1 (by omega) ?_
      intro g' c' W' q1 q2 q3 q4 q5
      exact hK.out _ _ ⟨_, _, _, _, _, _, _, _, _, _, _, _, _, rfl, hI.s3 hL (hd 0 (by decide)) q1 q2 q3 q4 q5⟩
    · rw [if_pos (by rfl)]
      go_simp
      exact hK.out _ _ ⟨_, _, _, _, _, _, _, _, _, _, _, _, _, rfl, hI.s4 hL⟩
    · rw [if_pos (by rfl)]
      go_simp
      exact hK.out _ _ ⟨_, _, _, _, _, _, _, _, _, _, _, _, _, rfl, hI.s5⟩
    · have hx := hI.e10 (hd 5 (by decide))
      subst hx
      have hc : W.cell? ⟨w.heap.size, 2, none⟩ = some (.slice v.bo t.blown.length v.bc) := (hI.bel.cell (by show w.heap.size < _; omega)).trans c2
      rw [if_pos (by rfl)]
      go_simp
      exact hK.out _ _ ⟨_, _, _, _, _, _, _, _, _, _, _, _, _, rfl, hI.s6⟩
    · have hx := hI.e11 (hd 6 (by decide))
      obtain ⟨hy, hg⟩ := hI.e9 (hd 4 (by decide)) hL
      subst hx hy
      refine step_append_fresh el_bools rfl (.tmp 9) (.tmp 11) rfl W1.heap.size g2 rfl hg (hI.b2 (hd 4 (by decide))).1 v.bo t.blown.length v.bc _ rfl (by simp) (hV.bl.below hI.bel (Nat.le_refl _)) (bools_one _) hnb hx2 (by omega) ?_
      intro g' c' W' q1 q2 q3 q4 q5
      exact hK.out _ _ ⟨_, _, _, _, _, _, _, _, _, _, _, _, _, rfl, hI.s7 hL (hd 4 (by decide)) q1 q2 q3 q4 q5⟩
    · obtain ⟨cx, hx, _⟩ := hI.e8 (hd 3 (by decide))
      obtain ⟨cy, hy, _⟩ := hI.e12 (hd 7 (by decide))
      subst hx hy
      rw [if_pos (by rfl)]
      go_simp
      exact hK.out _ _ ⟨_, _, _, _, _, _, _, _, _, _, _, _, _, rfl, hI.s8 (hd 3 (by decide)) (hd 7 (by decide))⟩
    · rw [if_pos (by rfl)]
      go_simp
      exact hK.out _ _ ⟨_, _, _, _, _, _, _, _, _, _, _, _, _, rfl, hI.s9 hL⟩
    · have hx := hI.e13 (hd 8 (by decide))
      have hy := hI.e3 (hd 9 (by decide))
      have hg := hI.e3a (hd 9 (by decide)) hL
      obtain ⟨cx, hx8, _⟩ := hI.e8 (hd 3 (by decide))
      obtain ⟨cy, hy12, _⟩ := hI.e12 (hd 7 (by decide))
      subst hx hy hx8 hy12
      refine step_store_Row rfl 28 (.tmp 3) (.tmp 13) rfl g3 28 [nilS, nilS, nilS] [nilS, .slice (some ⟨g1, 0, none⟩) t.erases.length cx, .slice (some ⟨g2, 0, none⟩) t.blown.length cy] hg rfl rfl rfl (by kernel_rfl) (by simp [Value.oneCell']) ?_
      intro W' q1 q2
      exact hK.out _ _ ⟨_, _, _, _, _, _, _, _, _, _, _, _, _, rfl, hI.s10 (hd 3 (by decide)) (hd 7 (by decide)) (hd 8 (by decide)) (hd 9 (by decide)) q2 q1⟩
  rintro L a W hall ⟨x3, x5, x6, x7, x8, x9, x10, x11, x12, x13, g1, g2, g3, rfl, hI⟩
  have a0 := hall 0 (by decide)
  have a4 := hall 4 (by decide)
  have a9 := hall 9 (by decide)
  obtain ⟨cx, hx8, ho8⟩ := hI.e8 (hall 3 (by decide))
  obtain ⟨cy, hy12, ho12⟩ := hI.e12 (hall 7 (by decide))
  have hx3 := hI.e3 a9
  have r3 := hI.e3b (hall 10 (by decide))
  have hbel := hI.bel
  have hb1 := hI.b1 a0
  have hb2 := hI.b2 a4
  have hb3 := hI.b3 a9
  have hd12 := hI.d12 a0 a4
  have hd13 := hI.d13 a0 a9
  have hd23 := hI.d23 a4 a9
  subst hx8 hy12 hx3
  clear hI a0 a4 a9 hall L
  have b3 : Row W (w.heap.size + 1) 28 [nilS, nilS, nilS] := (hbel.block _ (by omega)).trans rR
  have hos : OwnSt W W1.heap.size (t.pages.take 0) t.erases t.blown none 0 [] g1 cx g2 cy := ⟨rfl, World.ownsRow_nil _ _ _ _, by simp, ho8, ho12, by simp [hd12], by simp⟩
  clear ho8 ho12 b3
  dsimp only
  go_wp2
  go_loopw [4] (fun iv wr => ∃ (k : Nat) (po : Option Addr) (pc : Nat) (ps : List (Nat × Nat)), k ≤ t.pages.length ∧ iv = .int .i64 k ∧ OwnSt wr W1.heap.size (t.pages.take k) t.erases t.blown po pc ps g1 cx g2 cy ∧ Row wr g3 28 [.slice po k pc, .slice (some ⟨g1, 0, none⟩) t.erases.length cx, .slice (some ⟨g2, 0, none⟩) t.blown.length cy] ∧ g3 ∉ g1 :: g2 :: ps.map (·.1) ∧ (∀ g, po = some ⟨g, 0, none⟩ → g3 ≠ g) ∧ Below W1.heap.size W1 wr) (fun iv _ => t.pages.length - (intOf iv).toNat)
  case atStart => exact ⟨0, none, 0, [], by omega, rfl, hos, r3, by simp [hd13.symm, hd23.symm], by simp, hbel⟩
  case round =>
    clear r3 hos hbel
    obtain ⟨k, po, pc, ps, hk, rfl, hos, r3, h3n, h3p, hbel⟩ := hrel
    have hN : W1.heap.size ≤ wr.heap.size := hbel.size
    have h3l : g3 < wr.heap.size := Row.lt r3
    have cA' : wr.cell? ⟨w.heap.size, 0, none⟩ = some (.slice v.po t.pages.length v.pc) := (hbel.cell (by show w.heap.size < _; omega)).trans cA
    have hlk : (t.pages.take k).length = k := by rw [List.length_take]; omega
    by_cases hlt : k < t.pages.length
    · have y0 : (0 : Int) ≤ (k : Int) := by omega
      have y1 : (k : Int) < (t.pages.length : Int) := by omega
      obtain ⟨B, off, qo, qc, epo, cP, isl, x32⟩ := hV.page k hlt
      have hplk := hpl k hlt
      have htk : t.pages.take k ++ [t.pages.getD k []] = t.pages.take (k + 1) := by rw [List.take_add_one, List.getD_eq_getElem?_getD, List.getElem?_eq_getElem hlt]; rfl
      generalize t.pages.getD k [] = pk at cP isl x32 hplk htk
      have HTK : Hid (t.pages.take k ++ [pk] = t.pages.take (k + 1)) := htk
      clear htk
      have hok : PC.Ok ⟨w.heap.size, W1.heap.size, W1, wr, po, k, pc, g3, B, off, t.pages.length, v.pc, qo, pk.length, qc, pk.flatten.map B8, List.zipWith pgVal ps (t.pages.take k), .slice (some ⟨g1, 0, none⟩) t.erases.length cx, .slice (some ⟨g2, 0, none⟩) t.blown.length cy⟩ :=
        ⟨hbel, rfl, by have := hos.pg; rw [hlk] at this; exact this, r3, hb3.1, h3p, by rw [← epo]; exact cA, cP, isl, by rw [List.length_map, flat_len _ x32, Nat.mul_comm], B8_one _, fun e => hnp B off k _ qc epo hlt (by rw [← e]; exact cP), hplk, by show k < _; omega⟩
      have HOK : Hid (PC.Ok ⟨w.heap.size, W1.heap.size, W1, wr, po, k, pc, g3, B, off, t.pages.length, v.pc, qo, pk.length, qc, pk.flatten.map B8, List.zipWith pgVal ps (t.pages.take k), .slice (some ⟨g1, 0, none⟩) t.erases.length cx, .slice (some ⟨g2, 0, none⟩) t.blown.length cy⟩) := hok
      clear hok epo
      go_wp2
      have hok := HOK.out
      refine wp_region_inv (IP ⟨w.heap.size, W1.heap.size, W1, wr, po, k, pc, g3, B, off, t.pages.length, v.pc, qo, pk.length, qc, pk.flatten.map B8, List.zipWith pgVal ps (t.pages.take k), .slice (some ⟨g1, 0, none⟩) t.erases.length cx, .slice (some ⟨g2, 0, none⟩) t.blown.length cy⟩ _ _ _ _ _ _ _ _ _ _ _ _ _ _ _ _ _ _ _ _ _ _) (by kernel_rfl) (by kernel_rfl) ⟨_, _, _, _, _, _, _, _, _, _, _, _, _, rfl,  PI.zero hok _ _ _ _ _ _ _ _ _ _ _ _⟩ ?_ ?_
      · refine .cons ?_ (.cons ?_ (.cons ?_ (.cons ?_ (.cons ?_ (.cons ?_ (.cons ?_ (.cons ?_ (.cons ?_ (.cons ?_ (.cons ?_ (.cons ?_ (.cons ?_ .nil))))))))))))
        all_goals (rintro L a W ⟨x21, x22, x23, x24, x25, x26, x27, x28, x29, x30, x31, x32, gq, rfl, hI⟩ hL hd K hK)
        · rw [if_pos (by rfl)]
          go_simp
          exact hK.out _ _ ⟨_, _, _, _, _, _, _, _, _, _, _, _, _, rfl,  hI.s0⟩
        · have hx := hI.e21 (hd 0 (by decide))
          subst hx
          have h10 : L 10 = false := by cases h10 : L 10 with | false => rfl | true => exact no_of hI.l101 hL h10
          have hr : Row W g3 28 [.slice po k pc, .slice (some ⟨g1, 0, none⟩) t.erases.length cx, .slice (some ⟨g2, 0, none⟩) t.blown.length cy] := (hI.k1 g3 h3l (fun q => by rw [h10] at q; cases q) (fun q => no_of hI.l12 h10 q)).trans r3
          have hc := hr.cell 0 _ rfl
          rw [if_pos (by rfl)]
          go_simp
          exact hK.out _ _ ⟨_, _, _, _, _, _, _, _, _, _, _, _, _, rfl,  hI.s1⟩
        · rw [if_pos (by rfl)]
          go_simp
          exact hK.out _ _ ⟨_, _, _, _, _, _, _, _, _, _, _, _, _, rfl,  hI.s2 hL hN⟩
        · rw [if_pos (by rfl)]
          go_simp
          exact hK.out _ _ ⟨_, _, _, _, _, _, _, _, _, _, _, _, _, rfl,  hI.s3⟩
        · have hx := hI.e24 (hd 3 (by decide))
          subst hx
          have hc : W.cell? ⟨w.heap.size, 0, none⟩ = some (.slice (some ⟨B, off, none⟩) t.pages.length v.pc) := (hI.bel.cell (by show w.heap.size < W1.heap.size; omega)).trans hok.cA
          rw [if_pos (by rfl)]
          go_simp
          exact hK.out _ _ ⟨_, _, _, _, _, _, _, _, _, _, _, _, _, rfl,  hI.s4⟩
        · rw [if_pos (by rfl)]
          go_simp
          exact hK.out _ _ ⟨_, _, _, _, _, _, _, _, _, _, _, _, _, rfl,  hI.s5⟩
        · have hx := hI.e25 (hd 4 (by decide))
          have hy := hI.e26 (hd 5 (by decide))
          subst hx hy
          rw [if_pos (by rfl)]
          go_simp
          exact hK.out _ _ ⟨_, _, _, _, _, _, _, _, _, _, _, _, _, rfl,  hI.s6⟩
        · have hx := hI.e27 (hd 6 (by decide))
          subst hx
          have hc : W.cell? ⟨B, off + k, none⟩ = some (.slice qo pk.length qc) := (hI.bel.cell (World.block_lt_of_cell? _ _ cP)).trans cP
          rw [if_pos (by rfl)]
          go_simp
          exact hK.out _ _ ⟨_, _, _, _, _, _, _, _, _, _, _, _, _, rfl,  hI.s7⟩
        · have hx := hI.e28 (hd 7 (by decide))
          obtain ⟨hy, hg⟩ := hI.e23 (hd 2 (by decide)) hL
          subst hx hy
          have hm : pk.length ≤ maxLen := by have := hplk; unfold maxLen; omega
          refine step_append_fresh el_cells rfl (.tmp 23) (.tmp 28) rfl W1.heap.size gq rfl hg (Nat.le_trans hN (hI.bq (hd 2 (by decide))).1) qo pk.length qc _ rfl hok.fl (isl.below hI.bel (Nat.le_refl _)) hok.f1 hok.qn hm (by have := hplk; omega) ?_
          intro g' c' W' q1 q2 q3 q4 q5
          exact hK.out _ _ ⟨_, _, _, _, _, _, _, _, _, _, _, _, _, rfl,  hI.s8 hL (hd 2 (by decide)) hN q1 q2 q3 q5⟩
        · obtain ⟨cq, hx, _⟩ := hI.e29 (hd 8 (by decide))
          subst hx
          rw [if_pos (by rfl)]
          go_simp
          exact hK.out _ _ ⟨_, _, _, _, _, _, _, _, _, _, _, _, _, rfl,  hI.s9 hL (hd 8 (by decide)) hN⟩
        · have hx := hI.e22 (hd 1 (by decide))
          obtain ⟨gl, hy, hgl⟩ := hI.e30 (hd 9 (by decide))
          replace hgl := hgl hL
          obtain ⟨cq, hz29, _⟩ := hI.e29 (hd 8 (by decide))
          subst hx hy hz29
          have hpo : ∀ g, po = some ⟨g, 0, none⟩ → g < wr.heap.size := fun g hg => by have := hok.own; rw [show PC.po _ = po from rfl, hg] at this; exact (owns_lt this).2
          have hl12 : L 12 = true → False := fun q => no_of hI.l12 hL q
          have hown : W.ownsRow W1.heap.size 74 1 (.slice po k pc) k (List.zipWith pgVal ps (t.pages.take k)) := owns_kept hok.own fun g hg => hI.k1 g (hpo g hg) (fun q => by rw [hL] at q; cases q) (fun q => (hl12 q).elim)
          have rgl : Row W gl 74 [.slice (some ⟨gq, 0, none⟩) pk.length cq] := hgl
          refine step_append_where el_pages rfl (.tmp 22) (.tmp 30) rfl W1.heap.size W1 po k pc _ rfl hown (Nat.le_trans hN hI.sz) hI.bel gl 0 1 1 [.slice (some ⟨gq, 0, none⟩) pk.length cq] rfl rfl (fun j u hu => by rw [Nat.zero_add]; exact rgl.cell j u hu) (by omega) (by simp [Value.oneCell']) (by unfold maxLen; omega) (by omega) ?_
          intro ao' c' W' q1 q2 q3 q4 q5
          exact hK.out _ _ ⟨_, _, _, _, _, _, _, _, _, _, _, _, _, rfl,  hI.s10 hL (hd 1 (by decide)) (hd 9 (by decide)) hpo q1 q2 q3 q4 q5⟩
        · rw [if_pos (by rfl)]
          go_simp
          exact hK.out _ _ ⟨_, _, _, _, _, _, _, _, _, _, _, _, _, rfl,  hI.s11⟩
        · have hx := hI.e32 (hd 11 (by decide))
          obtain ⟨ao, c', hy, _, hao⟩ := hI.e31 (hd 10 (by decide))
          subst hx hy
          have hr : Row W g3 28 [.slice po k pc, .slice (some ⟨g1, 0, none⟩) t.erases.length cx, .slice (some ⟨g2, 0, none⟩) t.blown.length cy] := (hI.k1 g3 h3l (fun _ => h3p) (fun q => by rw [show L 12 = false from hL] at q; cases q)).trans r3
          have hc := hr.cell 0 _ rfl
          have hf := hr.frozen 0
          have hs := SameBut.setCell g3 0 (.slice ao (k + 1) c') W
          have hr' := hr.set 0 (.slice ao (k + 1) c')
          rw [if_pos (by rfl)]
          go_simp
          exact hK.out _ _ ⟨_, _, _, _, _, _, _, _, _, _, _, _, _, rfl,  hI.s12 hok h3l (hd 10 (by decide)) hs hr'⟩
      · rintro L a W hall ⟨x21, x22, x23, x24, x25, x26, x27, x28, x29, x30, x31, x32, gq, rfl, hI⟩
        obtain ⟨cq, hx29, hp29⟩ := hI.e29 (hall 8 (by decide))
        obtain ⟨ao, c', hx31, hp31, hao⟩ := hI.e31 (hall 10 (by decide))
        subst hx29 hx31
        have hst := hI.est (hall 12 (by decide))
        have hb' := hI.bel
        have hps := hos.push g3 h3n h3p h3l (fun j hj q1 q2 => hI.k1 j hj (fun _ => q1) (fun _ => q2)) gq cq pk (hI.bq (hall 2 (by decide))).1 hp29 ao c' (by rw [hlk]; exact hp31) hao
        rw [HTK.out] at hps
        have HPS : Hid (OwnSt W W1.heap.size (List.take (k + 1) t.pages) t.erases t.blown ao c' (ps ++ [(gq, cq)]) g1 cx g2 cy ∧ g3 ∉ g1 :: g2 :: List.map (fun x => x.fst) (ps ++ [(gq, cq)]) ∧ ∀ g, ao = some ⟨g, 0, none⟩ → g3 ≠ g) := hps
        clear hI hall hps HTK hp29 hp31 hao hok HOK
        dsimp only
        go_wp2
        exact ⟨⟨k + 1, ao, c', ps ++ [(gq, cq)], by omega, by go_num, HPS.out.1, hst, HPS.out.2.1, HPS.out.2.2, hb'⟩, by simp [intOf]; omega⟩
    · obtain rfl : k = t.pages.length := by omega
      have y1 : ¬ (t.pages.length : Int) < (t.pages.length : Int) := by omega
      have rR' : Row wr (w.heap.size + 1) 28 [nilS, nilS, nilS] := (hbel.block _ (by omega)).trans rR
      rw [List.take_length] at hos
      go_wp2_with (first | (refine wpList_load_Row rfl 28 _ rfl _ _ _ r3 rfl _ Tryz.underlying28 rfl (by kernel_rfl) ?_) | (refine wpList_store_Row rfl 28 _ _ rfl _ _ 0 _ [.slice po t.pages.length pc, .slice (some ⟨g1, 0, none⟩) t.erases.length cx, .slice (some ⟨g2, 0, none⟩) t.blown.length cy] rR' (by simp) rfl rfl (by kernel_rfl) (by simp [Value.oneCell']) ?_; intro w9 hr9 hs9))
      have hr := row_whole hr9 (by simp)
      exact bodyPost_ret_by (results_Row Tryz.results24 _ w9 (w.heap.size + 1) 28 _ _ rfl hr Tryz.underlying28 rfl (by kernel_rfl)) rfl ⟨po, pc, ps, g1, cx, g2, cy, rfl, (hos.but hs9 (by omega)).base (by omega), hs9.below (bW.trans (hbel.mono (by omega))) (by omega)⟩
end Go.Proofs.YtcpdanjbnijoiaaGreatDoor
