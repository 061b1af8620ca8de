import Derived.Test.YthjndaeibbfgaaaL4Game
import Derived.Test.YthjndaeibbfgaaaL4Fix
import Derived.Test.YthjndaeibbfgaaaR4Lay
/-! What ChipLays needs: a copy of a state, seen and wrecked. -/
namespace Go.Proofs.Ythjndaeibbfgaaa
open Go.RowKit

theorem owns_isl {w : World} {N e size n c : Nat} {ao : Option Addr} {xs : List Value} (h : w.ownsRow N e size (.slice ao n c) n xs) : IsL w ao xs := by
  have h0 := h
  rcases h.2 with ⟨h1, h2⟩ | ⟨g, c', cur, h1, _⟩
  · refine .inl ?_
    have := h.1
    rw [h2] at this
    exact List.eq_nil_of_length_eq_zero (by simpa using this)
  · injection h1 with e1 e2 e3
    subst e1
    refine .inr ⟨g, 0, rfl, fun j u hu => ?_⟩
    have := h0.cells (g := g) rfl j u hu
    rw [Addr.add_mid] at this
    exact this

theorem OwnSt.view {w : World} {N : Nat} {t : St} {po : Option Addr} {pc : Nat} {ps : List (Nat × Nat)} {eB ec bB bc : Nat} (h : OwnSt w N t.pages t.erases t.blown po pc ps eB ec bB bc) (h8 : ∀ p ∈ t.pages, ∀ x ∈ p, x.length = 32) : StV w ⟨po, pc, some ⟨eB, 0, none⟩, ec, some ⟨bB, 0, none⟩, bc⟩ t := by
  refine ⟨⟨ps.map (fun q => (some ⟨q.1, 0, none⟩, q.2)), by rw [List.length_map]; exact h.len, ?_, fun i q p hq hp => ?_⟩, owns_isl h.er, owns_isl h.bl, h8⟩
  · have e : List.zipWith (fun (q : Option Addr × Nat) (p : List (List By)) => Value.slice q.1 (List.length p) q.2) (ps.map (fun q => (some (⟨q.1, 0, none⟩ : Addr), q.2))) t.pages = List.zipWith pgVal ps t.pages := by
      rw [List.zipWith_map_left]; rfl
    rw [e]
    exact owns_isl h.pg
  · rw [List.getElem?_map] at hq
    cases hf : ps[i]? with
    | none => rw [hf] at hq; cases hq
    | some q0 =>
      rw [hf] at hq
      injection hq with hq
      subst hq
      exact owns_isl (h.page i q0 p hf hp)

theorem owns_os {w : World} {N e size n c : Nat} {ao : Option Addr} {xs : List Value} (h : w.ownsRow N e size (.slice ao n c) n xs) : OS w ao n c e size := by
  refine ⟨xs, h.1, ?_⟩
  rcases h.2 with h1 | ⟨g, c', cur, h1, h2, h3⟩
  · exact .inl h1
  · exact .inr ⟨g, c', cur, h1, Nat.zero_le _, h3⟩

/-- The blocks of a copy of a state. -/
def ownL (po : Option Addr) (eB bB : Nat) (ps : List (Nat × Nat)) : List Nat := (po.map (·.block)).toList ++ eB :: bB :: ps.map (·.1)

theorem wreck_ownst (w : World) (N : Nat) (t : St) (po : Option Addr) (pc : Nat) (ps : List (Nat × Nat)) (eB ec bB bc : Nat) (h : OwnSt w N t.pages t.erases t.blown po pc ps eB ec bB bc)
    (l0 : t.pages.length * 24 ≤ 140737488351232) (l1 : t.erases.length * 8 ≤ 140737488351232) (l2 : t.blown.length ≤ 140737488351232) (l3 : ∀ p ∈ t.pages, p.length * 32 ≤ 140737488351232) :
    Calls Try.prog 15 #[.agg #[.slice po t.pages.length pc, .slice (some ⟨eB, 0, none⟩) t.erases.length ec, .slice (some ⟨bB, 0, none⟩) t.blown.length bc]] w fun e w' => e = .returned (.tuple #[]) ∧ KeptL (ownL po eB bB ps) w w' := by
  have hq : ∀ (j : Nat) (q : Pg), (List.zipWith (fun (q : Nat × Nat) (p : List (List By)) => ((q.1, p.length, q.2) : Pg)) ps t.pages)[j]? = some q → ∃ q0 p0, ps[j]? = some q0 ∧ t.pages[j]? = some p0 ∧ q = (q0.1, p0.length, q0.2) := by
    intro j q hj
    rw [List.getElem?_zipWith] at hj
    cases h1 : ps[j]? with
    | none => rw [h1] at hj; simp at hj
    | some q0 =>
      cases h2 : t.pages[j]? with
      | none => rw [h1, h2] at hj; simp at hj
      | some p0 =>
        rw [h1, h2] at hj
        injection hj with hj
        exact ⟨q0, p0, rfl, rfl, hj.symm⟩
  have hmap : (List.zipWith (fun (q : Nat × Nat) (p : List (List By)) => ((q.1, p.length, q.2) : Pg)) ps t.pages).map (·.1) = ps.map (·.1) := by
    have key : ∀ (a : List (Nat × Nat)) (b : List (List (List By))), a.length = b.length → (List.zipWith (fun (q : Nat × Nat) (p : List (List By)) => ((q.1, p.length, q.2) : Pg)) a b).map (·.1) = a.map (·.1) := by
      intro a
      induction a with
      | nil => intro b _; simp
      | cons x a ih =>
        intro b hb
        cases b with
        | nil => simp at hb
        | cons y b => simp [ih b (by simpa using hb)]
    exact key ps t.pages h.len
  have hnd := h.nd
  simp only [List.nodup_cons, List.mem_cons, not_or] at hnd
  obtain ⟨⟨m1, m2⟩, k1, hps⟩ := hnd
  refine wreck_any w (ownL po eB bB ps) t.pages.length t.erases.length t.blown.length po pc (List.zipWith (fun (q : Nat × Nat) (p : List (List By)) => ((q.1, p.length, q.2) : Pg)) ps t.pages) eB ec bB bc ?_ (owns_os h.pg) ?_ ?_ (owns_os h.er) ⟨t.blown, rfl, owns_pre h.bl⟩ (owns_os h.bl) (by omega) (by omega) (by omega) ?_
  · refine ⟨by rw [List.length_zipWith, h.len]; omega, ?_, ?_, by simp [ownL], by simp [ownL], ?_, m1, by rw [hmap]; exact m2, by rw [hmap]; exact k1, by rw [hmap]; exact hps⟩
    · intro b hb
      unfold ownL at hb
      rcases List.mem_append.1 hb with hb | hb
      · cases po with
        | none => simp at hb
        | some a =>
          have hb' : b = a.block := by simpa using hb
          rcases h.pg.2 with ⟨h1, _⟩ | ⟨g, c', cur, h1, _, h3, _⟩
          · cases h1
          · injection h1 with e1
            injection e1 with e1
            subst e1
            rw [hb']
            exact (Array.getElem?_eq_some_iff.1 h3).1
      · exact (h.lt b hb).2
    · intro B hB
      have := h.ndp B hB
      simp only [List.mem_cons, not_or] at this
      refine ⟨by rw [hB]; simp [ownL], this.1, this.2.1, by rw [hmap]; exact this.2.2⟩
    · intro q hm
      have : q.1 ∈ (List.zipWith (fun (q : Nat × Nat) (p : List (List By)) => ((q.1, p.length, q.2) : Pg)) ps t.pages).map (·.1) := List.mem_map_of_mem hm
      rw [hmap] at this
      unfold ownL
      simp only [List.mem_append, List.mem_cons]
      exact .inr (.inr (.inr this))
  · intro j q B hj hB
    obtain ⟨q0, p0, h1, h2, rfl⟩ := hq j q hj
    have hc := owns_isl h.pg
    rcases hc with hc | ⟨B', off, hc1, hc2⟩
    · have := congrArg (fun l => l[j]?) hc
      simp [List.getElem?_zipWith, h1, h2] at this
    · rw [hB] at hc1
      injection hc1 with hc1
      injection hc1 with g1 g2
      subst g1 g2
      have := hc2 j (pgVal q0 p0) (by rw [List.getElem?_zipWith, h1, h2])
      rw [Nat.zero_add] at this
      exact this
  · intro j q hj
    obtain ⟨q0, p0, h1, h2, rfl⟩ := hq j q hj
    exact owns_os (h.page j q0 p0 h1 h2)
  · intro q hm
    obtain ⟨j, hj⟩ := List.mem_iff_getElem?.1 hm
    obtain ⟨q0, p0, h1, h2, rfl⟩ := hq j q hj
    have := l3 p0 (List.mem_of_getElem? h2)
    show (p0.length + 3) * 32 ≤ _
    omega

theorem lay_good {c : Cfg} {t : St} (hc : c.may = 0) (hf : Fit c t) : (layS c t).Good := by
  have hm := may_facts hc
  have hp := (may_parts hc).2.2.2.2
  obtain ⟨f1, f2, f3, f4⟩ := hf
  refine ⟨by show (0 : Int) ≤ 0; omega, by show (-1 : Int) < _; omega, hm.2.2.2.2.2.2.2, ?_, by show (0 : Nat) ≤ _; omega, ?_⟩
  · intro e he
    obtain ⟨j, hj⟩ := List.mem_iff_getElem?.1 he
    have hj' : t.erases[j]? = some e := hj
    have hl := (List.getElem?_eq_some_iff.1 hj').1
    have := (f4 j (by omega)).2
    rw [List.getD_eq_getElem?_getD, hj'] at this
    exact this
  · show 0 < t.pages.length
    omega
end Go.Proofs.Ythjndaeibbfgaaa

/-! ChipLays: its two drawn regions. (Printed by tools/genlays.py.) -/
namespace Go.Proofs.Ythjndaeibbfgaaa
open Go.RowKit

structure E11 (W1 : World) (t : St) (s : RS) (cf : List Value) (gp : Nat) (L : Nat → Bool) (x58 x59 x60 x61 x57 x62 x63 x14 x15 : Value) (p e b : Nat) (ps : List (Nat × Nat)) (G2 : RF) (W : World) : Prop where
  bel : Below W1.heap.size W1 W
  e0 : L 0 = true → x58 = .agg cf.toArray
  e1 : L 1 = true → x59 = .pointer (some ⟨gp, 0, none⟩)
  e2 : L 2 = true → x60 = .agg (ownVals t p e b).toArray ∧ OwnX W W1.heap.size t p e b ps
  e3 : L 3 = true → x61 = .tuple #[.pointer (some ⟨G2.g, 0, none⟩), .int .i64 0] ∧ CAt W G2 s ⟨#[]⟩ ∧ ∀ B ∈ G2.blocks, W1.heap.size ≤ B
  e4 : L 4 = true → x57 = .tuple #[.pointer (some ⟨G2.g, 0, none⟩), .int .i64 0]
  e5 : L 5 = true → x62 = .pointer (some ⟨G2.g, 0, none⟩)
  e6 : L 6 = true → x63 = .int .i64 0
  e7 : L 7 = true → x14 = .pointer (some ⟨G2.g, 0, none⟩)
  e8 : L 8 = true → x15 = .int .i64 0
  l43 : L 4 = true → L 3 = true
  l54 : L 5 = true → L 4 = true
  l75 : L 7 = true → L 5 = true
section
variable {W1 : World} {t : St} {s : RS} {cf : List Value} {gp : Nat} {L : Nat → Bool} {x58 x59 x60 x61 x57 x62 x63 x14 x15 : Value} {p e b : Nat} {ps : List (Nat × Nat)} {G2 : RF} {W W2 : World}
theorem E11.zero (W1 : World) (t : St) (s : RS) (cf : List Value) (gp : Nat) (x58 x59 x60 x61 x57 x62 x63 x14 x15 : Value) (p e b : Nat) (ps : List (Nat × Nat)) (G2 : RF) : E11 W1 t s cf gp (fun _ => false) x58 x59 x60 x61 x57 x62 x63 x14 x15 p e b ps G2 W1.drew := ⟨(Below.refl _ _).drew, fun k => (by cases k), fun k => (by cases k), fun k => (by cases k), fun k => (by cases k), fun k => (by cases k), fun k => (by cases k), fun k => (by cases k), fun k => (by cases k), fun k => (by cases k), fun k => (by cases k), fun k => (by cases k), fun k => (by cases k)⟩
theorem E11.s0 (h : E11 W1 t s cf gp L x58 x59 x60 x61 x57 x62 x63 x14 x15 p e b ps G2 W)  : E11 W1 t s cf gp (upd L 0) (.agg cf.toArray) x59 x60 x61 x57 x62 x63 x14 x15 p e b ps G2 W :=
  ⟨h.bel, fun _ => rfl, h.e1, h.e2, h.e3, h.e4, h.e5, h.e6, h.e7, h.e8, h.l43, h.l54, h.l75⟩
theorem E11.s1 (h : E11 W1 t s cf gp L x58 x59 x60 x61 x57 x62 x63 x14 x15 p e b ps G2 W)  : E11 W1 t s cf gp (upd L 1) x58 (.pointer (some ⟨gp, 0, none⟩)) x60 x61 x57 x62 x63 x14 x15 p e b ps G2 W :=
  ⟨h.bel, h.e0, fun _ => rfl, h.e2, h.e3, h.e4, h.e5, h.e6, h.e7, h.e8, h.l43, h.l54, h.l75⟩
theorem E11.s2 (h : E11 W1 t s cf gp L x58 x59 x60 x61 x57 x62 x63 x14 x15 p e b ps G2 W) {p' e' b' : Nat} {ps' : List (Nat × Nat)} (ho : OwnX W2 W.heap.size t p' e' b' ps') (hb : Below W.heap.size W W2) : E11 W1 t s cf gp (upd L 2) x58 x59 (.agg (ownVals t p' e' b').toArray) x61 x57 x62 x63 x14 x15 p' e' b' ps' G2 W2 :=
  have m : E11 W1 t s cf gp L x58 x59 x60 x61 x57 x62 x63 x14 x15 p e b ps G2 W2 := ⟨h.bel.trans (hb.mono h.bel.size), h.e0, h.e1, fun k => ⟨(h.e2 k).1, (h.e2 k).2.below hb⟩, fun k => ⟨(h.e3 k).1, (h.e3 k).2.1.keep fun B hB => hb.block B ((h.e3 k).2.1.blt B hB), (h.e3 k).2.2⟩, h.e4, h.e5, h.e6, h.e7, h.e8, h.l43, h.l54, h.l75⟩
  ⟨m.bel, m.e0, m.e1, fun _ => ⟨rfl, ho.base h.bel.size⟩, m.e3, m.e4, m.e5, m.e6, m.e7, m.e8, m.l43, m.l54, m.l75⟩
theorem E11.s3 (h : E11 W1 t s cf gp L x58 x59 x60 x61 x57 x62 x63 x14 x15 p e b ps G2 W) (hL : L 3 = false) {G3 : RF} (hc : CAt W2 G3 s ⟨#[]⟩) (hG : ∀ B ∈ G3.blocks, W.heap.size ≤ B) (hb : Below W.heap.size W W2) : E11 W1 t s cf gp (upd L 3) x58 x59 x60 (.tuple #[.pointer (some ⟨G3.g, 0, none⟩), .int .i64 0]) x57 x62 x63 x14 x15 p e b ps G3 W2 :=
  have m : E11 W1 t s cf gp L x58 x59 x60 x61 x57 x62 x63 x14 x15 p e b ps G2 W2 := ⟨h.bel.trans (hb.mono h.bel.size), h.e0, h.e1, fun k => ⟨(h.e2 k).1, (h.e2 k).2.below hb⟩, fun k => ⟨(h.e3 k).1, (h.e3 k).2.1.keep fun B hB => hb.block B ((h.e3 k).2.1.blt B hB), (h.e3 k).2.2⟩, h.e4, h.e5, h.e6, h.e7, h.e8, h.l43, h.l54, h.l75⟩
  ⟨m.bel, m.e0, m.e1, m.e2, fun _ => ⟨rfl, hc, fun B hB => Nat.le_trans h.bel.size (hG B hB)⟩, fun k => no_of h.l43 hL k, fun k => no_of (fun k => h.l43 (h.l54 k)) hL k, m.e6, fun k => no_of (fun k => h.l43 (h.l54 (h.l75 k))) hL k, m.e8, fun _ => rfl, m.l54, m.l75⟩
theorem E11.s4 (h : E11 W1 t s cf gp L x58 x59 x60 x61 x57 x62 x63 x14 x15 p e b ps G2 W) (h3 : L 3 = true) : E11 W1 t s cf gp (upd L 4) x58 x59 x60 x61 (.tuple #[.pointer (some ⟨G2.g, 0, none⟩), .int .i64 0]) x62 x63 x14 x15 p e b ps G2 W :=
  ⟨h.bel, h.e0, h.e1, h.e2, h.e3, fun _ => rfl, h.e5, h.e6, h.e7, h.e8, fun _ => h3, fun _ => rfl, h.l75⟩
theorem E11.s5 (h : E11 W1 t s cf gp L x58 x59 x60 x61 x57 x62 x63 x14 x15 p e b ps G2 W) (h4 : L 4 = true) : E11 W1 t s cf gp (upd L 5) x58 x59 x60 x61 x57 (.pointer (some ⟨G2.g, 0, none⟩)) x63 x14 x15 p e b ps G2 W :=
  ⟨h.bel, h.e0, h.e1, h.e2, h.e3, h.e4, fun _ => rfl, h.e6, h.e7, h.e8, h.l43, fun _ => h4, fun _ => rfl⟩
theorem E11.s6 (h : E11 W1 t s cf gp L x58 x59 x60 x61 x57 x62 x63 x14 x15 p e b ps G2 W)  : E11 W1 t s cf gp (upd L 6) x58 x59 x60 x61 x57 x62 (.int .i64 0) x14 x15 p e b ps G2 W :=
  ⟨h.bel, h.e0, h.e1, h.e2, h.e3, h.e4, h.e5, fun _ => rfl, h.e7, h.e8, h.l43, h.l54, h.l75⟩
theorem E11.s7 (h : E11 W1 t s cf gp L x58 x59 x60 x61 x57 x62 x63 x14 x15 p e b ps G2 W) (h5 : L 5 = true) : E11 W1 t s cf gp (upd L 7) x58 x59 x60 x61 x57 x62 x63 (.pointer (some ⟨G2.g, 0, none⟩)) x15 p e b ps G2 W :=
  ⟨h.bel, h.e0, h.e1, h.e2, h.e3, h.e4, h.e5, h.e6, fun _ => rfl, h.e8, h.l43, h.l54, fun _ => h5⟩
theorem E11.s8 (h : E11 W1 t s cf gp L x58 x59 x60 x61 x57 x62 x63 x14 x15 p e b ps G2 W)  : E11 W1 t s cf gp (upd L 8) x58 x59 x60 x61 x57 x62 x63 x14 (.int .i64 0) p e b ps G2 W :=
  ⟨h.bel, h.e0, h.e1, h.e2, h.e3, h.e4, h.e5, h.e6, h.e7, fun _ => rfl, h.l43, h.l54, h.l75⟩
end
@[reducible] def IE11 (W1 : World) (t : St) (s : RS) (cf : List Value) (gp : Nat) (y0 y1 y2 y3 y4 y5 y6 y7 y8 y9 y10 y11 y12 y13 y16 y17 y18 y19 y20 y21 y22 y23 y24 y25 y26 y27 y28 y29 y30 y31 y32 y33 y34 y35 y36 y37 y38 y39 y40 y41 y42 y43 y44 y45 y46 y47 y48 y49 y50 y51 y52 y53 y54 y55 y56 y64 y65 y66 y67 y68 y69 y70 y71 y72 y73 y74 y75 y76 y77 y78 y79 y80 : Value) : (Nat → Bool) → Act → World → Prop := fun L a W => ∃ x58 x59 x60 x61 x57 x62 x63 x14 x15 p e b ps G2, a = ⟨#[y0, y1, y2, y3, y4, y5, y6, y7, y8, y9, y10, y11, y12, y13, x14, x15, y16, y17, y18, y19, y20, y21, y22, y23, y24, y25, y26, y27, y28, y29, y30, y31, y32, y33, y34, y35, y36, y37, y38, y39, y40, y41, y42, y43, y44, y45, y46, y47, y48, y49, y50, y51, y52, y53, y54, y55, y56, x57, x58, x59, x60, x61, x62, x63, y64, y65, y66, y67, y68, y69, y70, y71, y72, y73, y74, y75, y76, y77, y78, y79, y80], []⟩ ∧ E11 W1 t s cf gp L x58 x59 x60 x61 x57 x62 x63 x14 x15 p e b ps G2 W

structure E14 (W1 : World) (t : St) (vs : List Value) (gp : Nat) (L : Nat → Bool) (x70 x71 x72 x73 x16 : Value) (p e b : Nat) (ps : List (Nat × Nat)) (W : World) : Prop where
  bel : Below W1.heap.size W1 W
  e0 : L 0 = true → x70 = .pointer (some ⟨gp, 0, none⟩)
  e1 : L 1 = true → x71 = .agg (ownVals t p e b).toArray ∧ OwnX W W1.heap.size t p e b ps
  e2 : L 2 = true → x72 = .agg vs.toArray
  e3 : L 3 = true → x73 = .bool true
  e4 : L 4 = true → x16 = .bool true
section
variable {W1 : World} {t : St} {vs : List Value} {gp : Nat} {L : Nat → Bool} {x70 x71 x72 x73 x16 : Value} {p e b : Nat} {ps : List (Nat × Nat)} {W W2 : World}
theorem E14.zero (W1 : World) (t : St) (vs : List Value) (gp : Nat) (x70 x71 x72 x73 x16 : Value) (p e b : Nat) (ps : List (Nat × Nat)) : E14 W1 t vs gp (fun _ => false) x70 x71 x72 x73 x16 p e b ps W1.drew := ⟨(Below.refl _ _).drew, fun k => (by cases k), fun k => (by cases k), fun k => (by cases k), fun k => (by cases k), fun k => (by cases k)⟩
theorem E14.s0 (h : E14 W1 t vs gp L x70 x71 x72 x73 x16 p e b ps W)  : E14 W1 t vs gp (upd L 0) (.pointer (some ⟨gp, 0, none⟩)) x71 x72 x73 x16 p e b ps W :=
  ⟨h.bel, fun _ => rfl, h.e1, h.e2, h.e3, h.e4⟩
theorem E14.s1 (h : E14 W1 t vs gp L x70 x71 x72 x73 x16 p e b ps W) {p' e' b' : Nat} {ps' : List (Nat × Nat)} (ho : OwnX W2 W.heap.size t p' e' b' ps') (hb : Below W.heap.size W W2) : E14 W1 t vs gp (upd L 1) x70 (.agg (ownVals t p' e' b').toArray) x72 x73 x16 p' e' b' ps' W2 :=
  have m : E14 W1 t vs gp L x70 x71 x72 x73 x16 p e b ps W2 := ⟨h.bel.trans (hb.mono h.bel.size), h.e0, fun k => ⟨(h.e1 k).1, (h.e1 k).2.below hb⟩, h.e2, h.e3, h.e4⟩
  ⟨m.bel, m.e0, fun _ => ⟨rfl, ho.base h.bel.size⟩, m.e2, m.e3, m.e4⟩
theorem E14.s2 (h : E14 W1 t vs gp L x70 x71 x72 x73 x16 p e b ps W)  : E14 W1 t vs gp (upd L 2) x70 x71 (.agg vs.toArray) x73 x16 p e b ps W :=
  ⟨h.bel, h.e0, h.e1, fun _ => rfl, h.e3, h.e4⟩
theorem E14.s3 (h : E14 W1 t vs gp L x70 x71 x72 x73 x16 p e b ps W) (hb : Below W.heap.size W W2) : E14 W1 t vs gp (upd L 3) x70 x71 x72 (.bool true) x16 p e b ps W2 :=
  have m : E14 W1 t vs gp L x70 x71 x72 x73 x16 p e b ps W2 := ⟨h.bel.trans (hb.mono h.bel.size), h.e0, fun k => ⟨(h.e1 k).1, (h.e1 k).2.below hb⟩, h.e2, h.e3, h.e4⟩
  ⟨m.bel, m.e0, m.e1, m.e2, fun _ => rfl, m.e4⟩
theorem E14.s4 (h : E14 W1 t vs gp L x70 x71 x72 x73 x16 p e b ps W)  : E14 W1 t vs gp (upd L 4) x70 x71 x72 x73 (.bool true) p e b ps W :=
  ⟨h.bel, h.e0, h.e1, h.e2, h.e3, fun _ => rfl⟩
end
@[reducible] def IE14 (W1 : World) (t : St) (vs : List Value) (gp : Nat) (y0 y1 y2 y3 y4 y5 y6 y7 y8 y9 y10 y11 y12 y13 y14 y15 y17 y18 y19 y20 y21 y22 y23 y24 y25 y26 y27 y28 y29 y30 y31 y32 y33 y34 y35 y36 y37 y38 y39 y40 y41 y42 y43 y44 y45 y46 y47 y48 y49 y50 y51 y52 y53 y54 y55 y56 y57 y58 y59 y60 y61 y62 y63 y64 y65 y66 y67 y68 y69 y74 y75 y76 y77 y78 y79 y80 : Value) : (Nat → Bool) → Act → World → Prop := fun L a W => ∃ x70 x71 x72 x73 x16 p e b ps, a = ⟨#[y0, y1, y2, y3, y4, y5, y6, y7, y8, y9, y10, y11, y12, y13, y14, y15, x16, y17, y18, y19, y20, y21, y22, y23, y24, y25, y26, y27, y28, y29, y30, y31, y32, y33, y34, y35, y36, y37, y38, y39, y40, y41, y42, y43, y44, y45, y46, y47, y48, y49, y50, y51, y52, y53, y54, y55, y56, y57, y58, y59, y60, y61, y62, y63, y64, y65, y66, y67, y68, y69, x70, x71, x72, x73, y74, y75, y76, y77, y78, y79, y80], []⟩ ∧ E14 W1 t vs gp L x70 x71 x72 x73 x16 p e b ps W
end Go.Proofs.Ythjndaeibbfgaaa

/-! ChipLays: holds. -/
namespace Go.Proofs.Ythjndaeibbfgaaa
open Go.RowKit

def badK (c : Cfg) : Int := if c.may = 0 then 5 else c.may
def CopyP (t : St) (w : World) (e : Ending) (w' : World) : Prop := ∃ po pc ps eB ec bB bc, e = .returned (.agg #[.slice po t.pages.length pc, .slice (some ⟨eB, 0, none⟩) t.erases.length ec, .slice (some ⟨bB, 0, none⟩) t.blown.length bc]) ∧ OwnSt w' w.heap.size t.pages t.erases t.blown po pc ps eB ec bB bc ∧ Below w.heap.size w w'
def CLayP (K : Int) (OK : Prop) (s : RS) (w : World) (e : Ending) (w' : World) : Prop := Below w.heap.size w w' ∧ ((¬ OK ∧ e = .returned (.tuple #[.pointer none, .int .i64 K])) ∨ (OK ∧ ∃ F, e = .returned (.tuple #[.pointer (some ⟨F.g, 0, none⟩), .int .i64 0]) ∧ CAt w' F s ⟨#[]⟩ ∧ ∀ B ∈ F.blocks, w.heap.size ≤ B))
def RLayP (K : Int) (OK : Prop) (s : RS) (w : World) (e : Ending) (w' : World) : Prop := Below w.heap.size w w' ∧ ((¬ OK ∧ e = .returned (.tuple #[.pointer none, .int .i64 K])) ∨ (OK ∧ ∃ F, e = .returned (.tuple #[.pointer (some ⟨F.g, 0, none⟩), .int .i64 0]) ∧ RAt w' F s ∧ (F.mo = none → F.mcap = 0) ∧ ∀ B ∈ F.blocks, w.heap.size ≤ B))

theorem clayp {c : Cfg} {t : St} {w : World} {e : Ending} {w' : World} (h : LayPost c t w e w') : CLayP (badK c) (c.may = 0 ∧ Fit c t) (layS c t) w e w' := by
  obtain ⟨h1, h2⟩ := h
  refine ⟨h1, ?_⟩
  rcases h2 with ⟨a, b⟩ | ⟨a, b, d⟩ | ⟨a, b, d⟩
  · exact .inl ⟨fun k => a k.1, by rw [b, badK, if_neg a]⟩
  · exact .inl ⟨fun k => b k.2, by rw [d, badK, if_pos a]⟩
  · exact .inr ⟨⟨a, b⟩, d⟩

theorem pn_below {w W : World} {v : SV} {t : St} (h : StV w v t) (hW : Below w.heap.size w W) (hnp : ∀ B off p n qc, v.po = some ⟨B, off, none⟩ → p < t.pages.length → w.cell? ⟨B, off + p, none⟩ = some (.slice none n qc) → qc = 0) : ∀ B off p n qc, v.po = some ⟨B, off, none⟩ → p < t.pages.length → W.cell? ⟨B, off + p, none⟩ = some (.slice none n qc) → qc = 0 := by
  intro B off p n qc e1 e2 e3
  obtain ⟨B', off', qo, qc', f1, f2, _⟩ := h.page p e2
  rw [e1] at f1
  injection f1 with f1
  injection f1 with f3 f4
  subst f3 f4
  refine hnp B off p n qc e1 e2 ?_
  rw [← e3]
  exact (hW.cell (World.block_lt_of_cell? _ _ f2)).symm

set_option maxHeartbeats 4000000 in
set_option maxRecDepth 100000 in
theorem lays_any (c : Cfg) (v : SV) (t : St) (w : World) (hin : StIn w v t) (so : Option Addr) (n cap : Nat) (hn : n ≤ 1152921504606846976)
    (hso : ∀ j, j < n → ∃ SB off o, so = some ⟨SB, off, none⟩ ∧ SB < w.heap.size ∧ SIOk w w.heap.size SB off j o) :
    Calls Try.prog 4 #[.agg c.vals.toArray, .agg (v.vals t).toArray, .slice so n cap] w fun e w' => e = .returned (.bool true) ∧ Below w.heap.size w w' := by
  have z1 := hin.l1
  have z2 := hin.l2
  have z3 := hin.l3
  have z4 := hin.lp
  simp only [reachBytes] at z1 z2 z3 z4
  have hv := hin.view
  have h8 := hv.by8
  have hpl : ∀ p, p < t.pages.length → (t.pages.getD p []).length ≤ 4398046511104 := fun p hp => by
    have := z4 (t.pages.getD p []) (by rw [List.getD_eq_getElem?_getD, List.getElem?_eq_getElem hp]; exact List.getElem_mem hp)
    omega
  have sz : t.pages.length ≤ 140737488355328 ∧ t.erases.length ≤ 140737488355328 ∧ t.blown.length ≤ 140737488355328 ∧ ∀ p ∈ t.pages, p.length ≤ 140737488355328 := ⟨by omega, by omega, by omega, fun p hp => by have := z4 p hp; omega⟩
  have HFX : Hid (∀ W, Calls Try.prog 6 #[] W fun e w' => e = .returned (.bool true) ∧ Below W.heap.size W w') := fun W => fixed_any W
  have HCP : Hid (∀ W, Below w.heap.size w W → Calls Try.prog 11 #[.agg #[.slice v.po t.pages.length v.pc, .slice v.eo t.erases.length v.ec, .slice v.bo t.blown.length v.bc]] W (CopyP t W)) := fun W hW => copyState_any v t W (hv.below hW (Nat.le_refl _)) hin.en hin.bn (by omega) (by omega) (by omega) hpl (pn_below hv hW hin.pn)
  have HCL : Hid (∀ W N po pc ps eB ec bB bc, OwnSt W N t.pages t.erases t.blown po pc ps eB ec bB bc → Calls Try.prog 12 #[.agg c.vals.toArray, .agg #[.slice po t.pages.length pc, .slice (some ⟨eB, 0, none⟩) t.erases.length ec, .slice (some ⟨bB, 0, none⟩) t.blown.length bc]] W (CLayP (badK c) (c.may = 0 ∧ Fit c t) (layS c t) W)) := fun W N po pc ps eB ec bB bc h =>
    (clay_any c ⟨po, pc, some ⟨eB, 0, none⟩, ec, some ⟨bB, 0, none⟩, bc⟩ t W (h.view h8) sz.1 sz.2.1 sz.2.2.1 sz.2.2.2).mono fun e w' h => clayp h
  have HCX : Hid (∀ W N p e b ps, OwnX W N t p e b ps → Calls Try.prog 12 #[.agg c.vals.toArray, .agg #[.slice (some ⟨p, 0, none⟩) t.pages.length t.pages.length, .slice (some ⟨e, 0, none⟩) t.erases.length t.erases.length, .slice (some ⟨b, 0, none⟩) t.blown.length t.blown.length]] W (CLayP (badK c) (c.may = 0 ∧ Fit c t) (layS c t) W)) := fun W N p e b ps h =>
    (clay_any c ⟨some ⟨p, 0, none⟩, t.pages.length, some ⟨e, 0, none⟩, t.erases.length, some ⟨b, 0, none⟩, t.blown.length⟩ t W (h.view h8) sz.1 sz.2.1 sz.2.2.1 sz.2.2.2).mono fun e w' h => clayp h
  have HRL : Hid (∀ W, Below w.heap.size w W → Calls Try.prog 13 #[.agg c.vals.toArray, .agg #[.slice v.po t.pages.length v.pc, .slice v.eo t.erases.length v.ec, .slice v.bo t.blown.length v.bc]] W (RLayP (badK c) (c.may = 0 ∧ Fit c t) (layS c t) W)) := fun W hW =>
    (lay_any c v t W (hv.below hW (Nat.le_refl _)) hin.en hin.bn (by omega) (by omega) (by omega) hpl (pn_below hv hW hin.pn)).mono fun e w' ⟨h1, h2⟩ => by
      refine ⟨h1, ?_⟩
      rcases h2 with ⟨a, b⟩ | ⟨a, b, d⟩ | ⟨a, b, d⟩
      · exact .inl ⟨fun k => a k.1, by rw [b, badK, if_neg a]⟩
      · exact .inl ⟨fun k => b k.2, by rw [d, badK, if_pos a]⟩
      · exact .inr ⟨⟨a, b⟩, d⟩
  have HSM : Hid (∀ W N po pc ps eB ec bB bc, OwnSt W N t.pages t.erases t.blown po pc ps eB ec bB bc → Below w.heap.size w W → Calls Try.prog 14 #[.agg #[.slice po t.pages.length pc, .slice (some ⟨eB, 0, none⟩) t.erases.length ec, .slice (some ⟨bB, 0, none⟩) t.blown.length bc], .agg #[.slice v.po t.pages.length v.pc, .slice v.eo t.erases.length v.ec, .slice v.bo t.blown.length v.bc]] W fun e w' => e = .returned (.bool true) ∧ Below W.heap.size W w') := fun W N po pc ps eB ec bB bc h hW =>
    same_any ⟨po, pc, some ⟨eB, 0, none⟩, ec, some ⟨bB, 0, none⟩, bc⟩ v t t W (h.view h8) (hv.below hW (Nat.le_refl _)) sz sz true ⟨fun _ => rfl, fun _ => rfl⟩
  have HSX : Hid (∀ W N p e b ps, OwnX W N t p e b ps → Below w.heap.size w W → Calls Try.prog 14 #[.agg #[.slice (some ⟨p, 0, none⟩) t.pages.length t.pages.length, .slice (some ⟨e, 0, none⟩) t.erases.length t.erases.length, .slice (some ⟨b, 0, none⟩) t.blown.length t.blown.length], .agg #[.slice v.po t.pages.length v.pc, .slice v.eo t.erases.length v.ec, .slice v.bo t.blown.length v.bc]] W fun e w' => e = .returned (.bool true) ∧ Below W.heap.size W w') := fun W N p e b ps h hW =>
    same_any ⟨some ⟨p, 0, none⟩, t.pages.length, some ⟨e, 0, none⟩, t.erases.length, some ⟨b, 0, none⟩, t.blown.length⟩ v t t W (h.view h8) (hv.below hW (Nat.le_refl _)) sz sz true ⟨fun _ => rfl, fun _ => rfl⟩
  have HWR : Hid (∀ W N po pc ps eB ec bB bc, OwnSt W N t.pages t.erases t.blown po pc ps eB ec bB bc → Calls Try.prog 15 #[.agg #[.slice po t.pages.length pc, .slice (some ⟨eB, 0, none⟩) t.erases.length ec, .slice (some ⟨bB, 0, none⟩) t.blown.length bc]] W fun e w' => e = .returned (.tuple #[]) ∧ KeptL (ownL po eB bB ps) W w') := fun W N po pc ps eB ec bB bc h => wreck_ownst W N t po pc ps eB ec bB bc h z1 z2 z3 z4
  have HCS : Hid (∀ W G S, CAt W G (layS c t) S → Calls Try.prog 16 #[.pointer (some ⟨G.g, 0, none⟩)] W (AgainPost t W)) := fun W G S h => cstate_any G (layS c t) S W h
  have HGM : Hid (∀ W G F, Below w.heap.size w W → (c.may = 0 ∧ Fit c t) → (∃ S, CAt W G (layS c t) S) → RAt W F (layS c t) → (F.mo = none → F.mcap = 0) → (∀ B ∈ G.blocks, B ∉ F.blocks) → (∀ B, B ∈ G.blocks ∨ B ∈ F.blocks → w.heap.size ≤ B) → Calls Try.prog 10 #[.pointer (some ⟨G.g, 0, none⟩), .pointer (some ⟨F.g, 0, none⟩), .slice so n cap] W fun e w' => e = .returned (.bool true) ∧ Below w.heap.size W w') := by
    intro W G F hb hc h1 h2 h3 h4 h5
    refine game_any W w.heap.size G F (layS c t) ⟨h1, h2, h4, lay_good hc.1 hc.2, h3⟩ (by show (0 : Int) ≤ 0; omega) h5 hb.size so n cap hn ?_
    intro j hj
    obtain ⟨SB, off, o, e, hS, ho⟩ := hso j hj
    exact ⟨SB, off, o, e, hS, ho.below hb hS⟩
  clear hin hn hso z1 z2 z3 z4 hv h8 hpl sz
  generalize badK c = K at *
  generalize layS c t = s at *
  generalize (c.may = 0 ∧ Fit c t) = OK at *
  obtain ⟨cells, slots, fuses, step, keys, erases, area⟩ := c
  simp only [Cfg.vals, SV.vals] at HCL HCX HRL ⊢
  obtain ⟨W0, hW0⟩ : ∃ W0, W0 = (w.alloc (.cells #[.int .i64 cells, .int .i64 slots, .int .i64 fuses, .int .i64 step, .int .i64 keys, .int .i64 erases, .int .i64 area] 23)).alloc (.cells #[.slice v.po t.pages.length v.pc, .slice v.eo t.erases.length v.ec, .slice v.bo t.blown.length v.bc] 40) := ⟨_, rfl⟩
  have R0 : Hid (Row W0 w.heap.size 23 [.int .i64 cells, .int .i64 slots, .int .i64 fuses, .int .i64 step, .int .i64 keys, .int .i64 erases, .int .i64 area] ∧ Row W0 (w.heap.size + 1) 40 [.slice v.po t.pages.length v.pc, .slice v.eo t.erases.length v.ec, .slice v.bo t.blown.length v.bc] ∧ Below w.heap.size w W0 ∧ W0.heap.size = w.heap.size + 2) := by
    rw [hW0]
    exact ⟨(Row.at _ _ _ _ _ rfl rfl : Row (w.alloc _) _ _ _).alloc _, Row.at _ _ _ _ _ (by simp) rfl, ((Below.refl _ _).alloc (Nat.le_refl _) _).alloc (by simp) _, by simp⟩
  have nk : (K != K) = false := by simp
  go_enter Try.func4, Try.ntmps4
  go_wp2_with fail
  rw [← hW0]
  clear hW0
  refine (HFX.out _).mono ?_
  rintro e w1 ⟨rfl, hb1⟩
  have c1 : Row w1 w.heap.size 23 _ := (hb1.block _ R0.out.1.lt).trans R0.out.1
  have s1 : Row w1 (w.heap.size + 1) 40 _ := (hb1.block _ R0.out.2.1.lt).trans R0.out.2.1
  have b1 : Below w.heap.size w w1 := R0.out.2.2.1.trans (hb1.mono (by have := R0.out.2.2.2; omega))
  have hz1 : w.heap.size + 2 ≤ w1.heap.size := by have := hb1.size; have := R0.out.2.2.2; omega
  clear R0 hb1
  have d0 := s1.cell 0 _ rfl
  have d1 := s1.cell 1 _ rfl
  have d2 := s1.cell 2 _ rfl
  go_wp2_with fail
  refine (HCP.out _ b1).mono ?_
  rintro e w2 ⟨po, pc, ps, eB, ec, bB, bc, rfl, hos, hb2⟩
  have HOL : Hid (∀ b ∈ ownL po eB bB ps, w1.heap.size ≤ b ∧ b < w2.heap.size) := by
    intro b hb
    unfold ownL at hb
    rcases List.mem_append.1 hb with hb | hb
    · have hpg := hos.pg
      cases po with
      | none => simp at hb
      | some a =>
        have hb' : b = a.block := by simpa using hb
        rcases hpg.2 with ⟨h1, _⟩ | ⟨g, c', cur, h1, h2, h3, _⟩
        · cases h1
        · injection h1 with e1
          injection e1 with e1
          subst e1
          rw [hb']
          exact ⟨h2, (Array.getElem?_eq_some_iff.1 h3).1⟩
    · exact hos.lt b hb
  obtain ⟨W2, hW2⟩ : ∃ W2, W2 = w2.alloc (.cells #[.slice po t.pages.length pc, .slice (some ⟨eB, 0, none⟩) t.erases.length ec, .slice (some ⟨bB, 0, none⟩) t.blown.length bc] 40) := ⟨_, rfl⟩
  have HO2 : Hid (OwnSt W2 w1.heap.size t.pages t.erases t.blown po pc ps eB ec bB bc) := by rw [hW2]; exact hos.below (below_alloc w2 _)
  have hbb : Below w1.heap.size w1 W2 := by rw [hW2]; exact hb2.trans ((below_alloc w2 _).mono hb2.size)
  have m2 : Row W2 w2.heap.size 40 [.slice po t.pages.length pc, .slice (some ⟨eB, 0, none⟩) t.erases.length ec, .slice (some ⟨bB, 0, none⟩) t.blown.length bc] := by rw [hW2]; exact Row.at _ _ _ _ _ rfl rfl
  have hzW : w2.heap.size < W2.heap.size := m2.lt
  have hz2 := hb2.size
  have c2 : Row W2 w.heap.size 23 [.int .i64 cells, .int .i64 slots, .int .i64 fuses, .int .i64 step, .int .i64 keys, .int .i64 erases, .int .i64 area] := (hbb.block _ c1.lt).trans c1
  have s2 : Row W2 (w.heap.size + 1) 40 [.slice v.po t.pages.length v.pc, .slice v.eo t.erases.length v.ec, .slice v.bo t.blown.length v.bc] := (hbb.block _ s1.lt).trans s1
  have b2 : Below w.heap.size w W2 := b1.trans (hbb.mono b1.size)
  obtain ⟨MB, hMB⟩ : ∃ MB, MB = w2.heap.size := ⟨_, rfl⟩
  rw [← hMB] at m2 hzW HOL hz2
  clear d0 d1 d2
  go_upto_region 3 with fail
  rw [← hW2, ← hMB]
  clear hos hb2 hbb hMB hW2 c1 s1 b1
  have a0 := c2.cell 0 _ rfl
  have a1 := c2.cell 1 _ rfl
  have a2 := c2.cell 2 _ rfl
  have a3 := c2.cell 3 _ rfl
  have a4 := c2.cell 4 _ rfl
  have a5 := c2.cell 5 _ rfl
  have a6 := c2.cell 6 _ rfl
  have g0 := m2.cell 0 _ rfl
  have g1 := m2.cell 1 _ rfl
  have g2 := m2.cell 2 _ rfl
  go_wp2_with fail
  refine (HCL.out _ _ _ _ _ _ _ _ _ HO2.out).mono ?_
  intro e w3 hp1
  obtain ⟨hb3, hp1⟩ := hp1
  have c3 : Row w3 w.heap.size 23 [.int .i64 cells, .int .i64 slots, .int .i64 fuses, .int .i64 step, .int .i64 keys, .int .i64 erases, .int .i64 area] := (hb3.block _ c2.lt).trans c2
  have s3 : Row w3 (w.heap.size + 1) 40 [.slice v.po t.pages.length v.pc, .slice v.eo t.erases.length v.ec, .slice v.bo t.blown.length v.bc] := (hb3.block _ s2.lt).trans s2
  have m3 : Row w3 MB 40 [.slice po t.pages.length pc, .slice (some ⟨eB, 0, none⟩) t.erases.length ec, .slice (some ⟨bB, 0, none⟩) t.blown.length bc] := (hb3.block _ m2.lt).trans m2
  have b3 : Below w.heap.size w w3 := b2.trans (hb3.mono b2.size)
  have HO3 : Hid (OwnSt w3 w1.heap.size t.pages t.erases t.blown po pc ps eB ec bB bc) := HO2.out.below hb3
  clear a0 a1 a2 a3 a4 a5 a6 g0 g1 g2
  have hz3 := hb3.size
  have hz4 := hz1
  clear c2 s2 m2 b2 hb3 HO2
  have a0 := c3.cell 0 _ rfl
  have a1 := c3.cell 1 _ rfl
  have a2 := c3.cell 2 _ rfl
  have a3 := c3.cell 3 _ rfl
  have a4 := c3.cell 4 _ rfl
  have a5 := c3.cell 5 _ rfl
  have a6 := c3.cell 6 _ rfl
  have d0 := s3.cell 0 _ rfl
  have d1 := s3.cell 1 _ rfl
  have d2 := s3.cell 2 _ rfl
  rcases hp1 with ⟨hno, rfl⟩ | ⟨hok, G, rfl, hG, hGb⟩
  · go_wp2_with fail
    refine (HRL.out _ b3).mono ?_
    intro e w4 hp2
    obtain ⟨hb4, hp2⟩ := hp2
    obtain rfl : e = .returned (.tuple #[.pointer none, .int .i64 K]) := by
      rcases hp2 with h | h
      · exact h.2
      · exact absurd h.1 hno
    have c4 : Row w4 w.heap.size 23 [.int .i64 cells, .int .i64 slots, .int .i64 fuses, .int .i64 step, .int .i64 keys, .int .i64 erases, .int .i64 area] := (hb4.block _ c3.lt).trans c3
    have s4 : Row w4 (w.heap.size + 1) 40 [.slice v.po t.pages.length v.pc, .slice v.eo t.erases.length v.ec, .slice v.bo t.blown.length v.bc] := (hb4.block _ s3.lt).trans s3
    have m4 : Row w4 MB 40 [.slice po t.pages.length pc, .slice (some ⟨eB, 0, none⟩) t.erases.length ec, .slice (some ⟨bB, 0, none⟩) t.blown.length bc] := (hb4.block _ m3.lt).trans m3
    have b4 : Below w.heap.size w w4 := b3.trans (hb4.mono b3.size)
    have HO4 : Hid (OwnSt w4 w1.heap.size t.pages t.erases t.blown po pc ps eB ec bB bc) := HO3.out.below hb4
    clear a0 a1 a2 a3 a4 a5 a6 d0 d1 d2
    have hz5 := hb4.size
    have HB4 : Hid (Below w3.heap.size w3 w4) := hb4
    clear c3 s3 m3 b3 hb4 HO3 hp2
    have d0 := s4.cell 0 _ rfl
    have d1 := s4.cell 1 _ rfl
    have d2 := s4.cell 2 _ rfl
    have g0 := m4.cell 0 _ rfl
    have g1 := m4.cell 1 _ rfl
    have g2 := m4.cell 2 _ rfl
    go_wp2_with fail
    refine (HSM.out _ _ _ _ _ _ _ _ _ HO4.out b4).mono ?_
    rintro e w5 ⟨rfl, hb5⟩
    have c5 : Row w5 w.heap.size 23 [.int .i64 cells, .int .i64 slots, .int .i64 fuses, .int .i64 step, .int .i64 keys, .int .i64 erases, .int .i64 area] := (hb5.block _ c4.lt).trans c4
    have s5 : Row w5 (w.heap.size + 1) 40 [.slice v.po t.pages.length v.pc, .slice v.eo t.erases.length v.ec, .slice v.bo t.blown.length v.bc] := (hb5.block _ s4.lt).trans s4
    have m5 : Row w5 MB 40 [.slice po t.pages.length pc, .slice (some ⟨eB, 0, none⟩) t.erases.length ec, .slice (some ⟨bB, 0, none⟩) t.blown.length bc] := (hb5.block _ m4.lt).trans m4
    have b5 : Below w.heap.size w w5 := b4.trans (hb5.mono b4.size)
    have HO5 : Hid (OwnSt w5 w1.heap.size t.pages t.erases t.blown po pc ps eB ec bB bc) := HO4.out.below hb5
    clear d0 d1 d2 g0 g1 g2
    have hz6 := hb5.size
    clear c4 s4 m4 b4 hb5 HO4
    have g0 := m5.cell 0 _ rfl
    have g1 := m5.cell 1 _ rfl
    have g2 := m5.cell 2 _ rfl
    go_wp2_with fail
    refine (HWR.out _ _ _ _ _ _ _ _ _ HO5.out).mono ?_
    rintro e w6 ⟨rfl, hk6⟩
    have b6 : Below w.heap.size w w6 := b5.trans (hk6.belowN (fun B hB => by have := (HOL.out B hB).1; omega) b5.size)
    clear g0 g1 g2
    clear hk6 HO5 c5 s5 m5 b5
    go_wp2
    go_ret
    exact ⟨rfl, b6⟩
  · go_wp2_with fail
    refine (HRL.out _ b3).mono ?_
    intro e w4 hp2
    obtain ⟨hb4, hp2⟩ := hp2
    obtain ⟨F, rfl, hF, hFm, hFb⟩ : ∃ F, e = .returned (.tuple #[.pointer (some ⟨F.g, 0, none⟩), .int .i64 0]) ∧ RAt w4 F s ∧ (F.mo = none → F.mcap = 0) ∧ ∀ B ∈ F.blocks, w3.heap.size ≤ B := by
      rcases hp2 with h | ⟨_, h⟩
      · exact absurd hok h.1
      · exact h
    have HG4 : Hid (CAt w4 G s ⟨#[]⟩ ∧ ∀ B ∈ G.blocks, W2.heap.size ≤ B ∧ B < w3.heap.size) := ⟨hG.keep fun B hB => hb4.block B (hG.blt B hB), fun B hB => ⟨hGb B hB, hG.blt B hB⟩⟩
    have HF4 : Hid (RAt w4 F s ∧ (F.mo = none → F.mcap = 0) ∧ ∀ B ∈ F.blocks, w3.heap.size ≤ B) := ⟨hF, hFm, hFb⟩
    have HOKH : Hid OK := hok
    clear hG hGb hF hFm hFb hok
    have c4 : Row w4 w.heap.size 23 [.int .i64 cells, .int .i64 slots, .int .i64 fuses, .int .i64 step, .int .i64 keys, .int .i64 erases, .int .i64 area] := (hb4.block _ c3.lt).trans c3
    have s4 : Row w4 (w.heap.size + 1) 40 [.slice v.po t.pages.length v.pc, .slice v.eo t.erases.length v.ec, .slice v.bo t.blown.length v.bc] := (hb4.block _ s3.lt).trans s3
    have m4 : Row w4 MB 40 [.slice po t.pages.length pc, .slice (some ⟨eB, 0, none⟩) t.erases.length ec, .slice (some ⟨bB, 0, none⟩) t.blown.length bc] := (hb4.block _ m3.lt).trans m3
    have b4 : Below w.heap.size w w4 := b3.trans (hb4.mono b3.size)
    have HO4 : Hid (OwnSt w4 w1.heap.size t.pages t.erases t.blown po pc ps eB ec bB bc) := HO3.out.below hb4
    clear a0 a1 a2 a3 a4 a5 a6 d0 d1 d2
    have hz5 := hb4.size
    have HB4 : Hid (Below w3.heap.size w3 w4) := hb4
    clear c3 s3 m3 b3 hb4 HO3 hp2
    have d0 := s4.cell 0 _ rfl
    have d1 := s4.cell 1 _ rfl
    have d2 := s4.cell 2 _ rfl
    have g0 := m4.cell 0 _ rfl
    have g1 := m4.cell 1 _ rfl
    have g2 := m4.cell 2 _ rfl
    go_wp2_with fail
    refine (HSM.out _ _ _ _ _ _ _ _ _ HO4.out b4).mono ?_
    rintro e w5 ⟨rfl, hb5⟩
    have c5 : Row w5 w.heap.size 23 [.int .i64 cells, .int .i64 slots, .int .i64 fuses, .int .i64 step, .int .i64 keys, .int .i64 erases, .int .i64 area] := (hb5.block _ c4.lt).trans c4
    have s5 : Row w5 (w.heap.size + 1) 40 [.slice v.po t.pages.length v.pc, .slice v.eo t.erases.length v.ec, .slice v.bo t.blown.length v.bc] := (hb5.block _ s4.lt).trans s4
    have m5 : Row w5 MB 40 [.slice po t.pages.length pc, .slice (some ⟨eB, 0, none⟩) t.erases.length ec, .slice (some ⟨bB, 0, none⟩) t.blown.length bc] := (hb5.block _ m4.lt).trans m4
    have b5 : Below w.heap.size w w5 := b4.trans (hb5.mono b4.size)
    have HO5 : Hid (OwnSt w5 w1.heap.size t.pages t.erases t.blown po pc ps eB ec bB bc) := HO4.out.below hb5
    have HG5 : Hid (CAt w5 G s ⟨#[]⟩) := HG4.out.1.keep fun B hB => hb5.block B (HG4.out.1.blt B hB)
    have HF5 : Hid (RAt w5 F s) := HF4.out.1.keep fun B hB => hb5.block B (HF4.out.1.blt B hB)
    clear d0 d1 d2 g0 g1 g2
    have hz6 := hb5.size
    clear c4 s4 m4 b4 hb5 HO4
    have g0 := m5.cell 0 _ rfl
    have g1 := m5.cell 1 _ rfl
    have g2 := m5.cell 2 _ rfl
    go_wp2_with fail
    refine (HWR.out _ _ _ _ _ _ _ _ _ HO5.out).mono ?_
    rintro e w6 ⟨rfl, hk6⟩
    have b6 : Below w.heap.size w w6 := b5.trans (hk6.belowN (fun B hB => by have := (HOL.out B hB).1; omega) b5.size)
    have HG6 : Hid (CAt w6 G s ⟨#[]⟩) := HG5.out.keep fun B hB => hk6.block B (HG5.out.blt B hB) (fun hm => by have := (HOL.out B hm).2; have := (HG4.out.2 B hB).1; omega)
    have HF6 : Hid (RAt w6 F s) := HF5.out.keep fun B hB => hk6.block B (HF5.out.blt B hB) (fun hm => by have := (HOL.out B hm).2; have := HF4.out.2.2 B hB; omega)
    have C6 : Hid (Row w6 w.heap.size 23 [.int .i64 cells, .int .i64 slots, .int .i64 fuses, .int .i64 step, .int .i64 keys, .int .i64 erases, .int .i64 area]) := (hk6.block _ c5.lt (fun hm => by have := (HOL.out _ hm).1; omega)).trans c5
    have S6 : Hid (Row w6 (w.heap.size + 1) 40 [.slice v.po t.pages.length v.pc, .slice v.eo t.erases.length v.ec, .slice v.bo t.blown.length v.bc]) := (hk6.block _ s5.lt (fun hm => by have := (HOL.out _ hm).1; omega)).trans s5
    clear g0 g1 g2
    clear hk6 HO5 c5 s5 m5 b5 HG5 HF5 HB4
    have B6 : Hid (Below w.heap.size w w6) := b6
    go_wp2
    refine wp_region_inv (IE11 w6 t s [.int .i64 cells, .int .i64 slots, .int .i64 fuses, .int .i64 step, .int .i64 keys, .int .i64 erases, .int .i64 area] G.g _ _ _ _ _ _ _ _ _ _ _ _ _ _ _ _ _ _ _ _ _ _ _ _ _ _ _ _ _ _ _ _ _ _ _ _ _ _ _ _ _ _ _ _ _ _ _ _ _ _ _ _ _ _ _ _ _ _ _ _ _ _ _ _ _ _ _ _ _ _ _ _) (by kernel_rfl) (by kernel_rfl) ⟨_, _, _, _, _, _, _, _, _, 0, 0, 0, [], G, rfl, E11.zero w6 t s [.int .i64 cells, .int .i64 slots, .int .i64 fuses, .int .i64 step, .int .i64 keys, .int .i64 erases, .int .i64 area] G.g _ _ _ _ _ _ _ _ _ 0 0 0 [] G⟩ ?_ ?_
    · refine .cons ?_ (.cons ?_ (.cons ?_ (.cons ?_ (.cons ?_ (.cons ?_ (.cons ?_ (.cons ?_ (.cons ?_ .nil))))))))
      all_goals (rintro L a W ⟨x58, x59, x60, x61, x57, x62, x63, x14, x15, p, e, b, ps, G2, rfl, hI⟩ hL hd K hK)
      · have rc : Row W w.heap.size 23 [.int .i64 cells, .int .i64 slots, .int .i64 fuses, .int .i64 step, .int .i64 keys, .int .i64 erases, .int .i64 area] := (hI.bel.block _ C6.out.lt).trans C6.out
        have a0 := rc.cell 0 _ rfl
        have a1 := rc.cell 1 _ rfl
        have a2 := rc.cell 2 _ rfl
        have a3 := rc.cell 3 _ rfl
        have a4 := rc.cell 4 _ rfl
        have a5 := rc.cell 5 _ rfl
        have a6 := rc.cell 6 _ rfl
        rw [if_pos (by rfl)]
        go_simp
        exact hK.out _ _ ⟨_, _, _, _, _, _, _, _, _, _, _, _, _, _, rfl, hI.s0⟩
      · rw [if_pos (by rfl)]
        go_simp
        exact hK.out _ _ ⟨_, _, _, _, _, _, _, _, _, _, _, _, _, _, rfl, hI.s1⟩
      · have hx := hI.e1 (hd 1 (by decide))
        subst hx
        rw [if_pos (by rfl)]
        go_simp
        refine (HCS.out _ G _ (HG6.out.keep fun B hB => hI.bel.block B (HG6.out.blt B hB))).mono ?_
        rintro e w7 ⟨p', e', b', ps', rfl, ho, hb⟩
        exact hK.out _ _ ⟨_, _, _, _, _, _, _, _, _, _, _, _, _, _, rfl, hI.s2 ho hb⟩
      · have hx := hI.e0 (hd 0 (by decide))
        have hy := hI.e2 (hd 2 (by decide))
        obtain ⟨hy, ho⟩ := hy
        subst hx hy
        rw [if_pos (by rfl)]
        simp only [ownVals]
        go_simp
        refine (HCX.out _ _ _ _ _ _ ho).mono ?_
        rintro e w7 ⟨hb, hp⟩
        obtain ⟨G3, rfl, hc, hG⟩ : ∃ F, e = .returned (.tuple #[.pointer (some ⟨F.g, 0, none⟩), .int .i64 0]) ∧ CAt w7 F s ⟨#[]⟩ ∧ ∀ B ∈ F.blocks, W.heap.size ≤ B := by
          rcases hp with h | ⟨_, h⟩
          · exact absurd HOKH.out h.1
          · exact h
        exact hK.out _ _ ⟨_, _, _, _, _, _, _, _, _, _, _, _, _, _, rfl, hI.s3 hL hc hG hb⟩
      · have hx := (hI.e3 (hd 3 (by decide))).1
        subst hx
        rw [if_pos (by rfl)]
        go_simp
        exact hK.out _ _ ⟨_, _, _, _, _, _, _, _, _, _, _, _, _, _, rfl, hI.s4 (hd 3 (by decide))⟩
      · have hx := hI.e4 (hd 4 (by decide))
        subst hx
        rw [if_pos (by rfl)]
        go_simp
        exact hK.out _ _ ⟨_, _, _, _, _, _, _, _, _, _, _, _, _, _, rfl, hI.s5 (hd 4 (by decide))⟩
      · have hx := hI.e4 (hd 4 (by decide))
        subst hx
        rw [if_pos (by rfl)]
        go_simp
        exact hK.out _ _ ⟨_, _, _, _, _, _, _, _, _, _, _, _, _, _, rfl, hI.s6⟩
      · have hx := hI.e5 (hd 5 (by decide))
        subst hx
        rw [if_pos (by rfl)]
        go_simp
        exact hK.out _ _ ⟨_, _, _, _, _, _, _, _, _, _, _, _, _, _, rfl, hI.s7 (hd 5 (by decide))⟩
      · have hx := hI.e6 (hd 6 (by decide))
        subst hx
        rw [if_pos (by rfl)]
        go_simp
        exact hK.out _ _ ⟨_, _, _, _, _, _, _, _, _, _, _, _, _, _, rfl, hI.s8⟩
    · rintro L a W hall ⟨x58, x59, x60, x61, x57, x62, x63, x14, x15, p, e, b, ps, G2, rfl, hI⟩
      have h7 := hI.e7 (hall 7 (by decide))
      have h8 := hI.e8 (hall 8 (by decide))
      have hc2 := (hI.e3 (hall 3 (by decide))).2.1
      have hbel := hI.bel
      subst h7 h8
      have HG7 : Hid (CAt W G s ⟨#[]⟩) := HG6.out.keep fun B hB => hbel.block B (HG6.out.blt B hB)
      have HF7 : Hid (RAt W F s) := HF6.out.keep fun B hB => hbel.block B (HF6.out.blt B hB)
      have HC2 : Hid (CAt W G2 s ⟨#[]⟩) := hc2
      have S7 : Hid (Row W (w.heap.size + 1) 40 [.slice v.po t.pages.length v.pc, .slice v.eo t.erases.length v.ec, .slice v.bo t.blown.length v.bc]) := (hbel.block _ S6.out.lt).trans S6.out
      have B7 : Hid (Below w.heap.size w W) := B6.out.trans (hbel.mono B6.out.size)
      clear hI hall hc2 hbel HG6 HF6 C6 S6 B6 b6
      try dsimp only
      go_wp2
      refine wp_region_inv (IE14 W t [.slice v.po t.pages.length v.pc, .slice v.eo t.erases.length v.ec, .slice v.bo t.blown.length v.bc] G2.g _ _ _ _ _ _ _ _ _ _ _ _ _ _ _ _ _ _ _ _ _ _ _ _ _ _ _ _ _ _ _ _ _ _ _ _ _ _ _ _ _ _ _ _ _ _ _ _ _ _ _ _ _ _ _ _ _ _ _ _ _ _ _ _ _ _ _ _ _ _ _ _ _ _ _ _) (by kernel_rfl) (by kernel_rfl) ⟨_, _, _, _, _, 0, 0, 0, [], rfl, E14.zero W t [.slice v.po t.pages.length v.pc, .slice v.eo t.erases.length v.ec, .slice v.bo t.blown.length v.bc] G2.g _ _ _ _ _ 0 0 0 []⟩ ?_ ?_
      · refine .cons ?_ (.cons ?_ (.cons ?_ (.cons ?_ (.cons ?_ .nil))))
        all_goals (rintro L a W8 ⟨x70, x71, x72, x73, x16, p, e, b, ps, rfl, hI⟩ hL hd K hK)
        · rw [if_pos (by rfl)]
          go_simp
          exact hK.out _ _ ⟨_, _, _, _, _, _, _, _, _, rfl, hI.s0⟩
        · have hx := hI.e0 (hd 0 (by decide))
          subst hx
          rw [if_pos (by rfl)]
          go_simp
          refine (HCS.out _ G2 _ (HC2.out.keep fun B hB => hI.bel.block B (HC2.out.blt B hB))).mono ?_
          rintro e w7 ⟨p', e', b', ps', rfl, ho, hb⟩
          exact hK.out _ _ ⟨_, _, _, _, _, _, _, _, _, rfl, hI.s1 ho hb⟩
        · have rs : Row W8 (w.heap.size + 1) 40 [.slice v.po t.pages.length v.pc, .slice v.eo t.erases.length v.ec, .slice v.bo t.blown.length v.bc] := (hI.bel.block _ S7.out.lt).trans S7.out
          have d0 := rs.cell 0 _ rfl
          have d1 := rs.cell 1 _ rfl
          have d2 := rs.cell 2 _ rfl
          rw [if_pos (by rfl)]
          go_simp
          exact hK.out _ _ ⟨_, _, _, _, _, _, _, _, _, rfl, hI.s2⟩
        · have hx := hI.e2 (hd 2 (by decide))
          obtain ⟨hy, ho⟩ := hI.e1 (hd 1 (by decide))
          subst hx hy
          rw [if_pos (by rfl)]
          simp only [ownVals]
          go_simp
          refine (HSX.out _ _ _ _ _ _ ho (B7.out.trans (hI.bel.mono B7.out.size))).mono ?_
          rintro e w7 ⟨rfl, hb⟩
          exact hK.out _ _ ⟨_, _, _, _, _, _, _, _, _, rfl, hI.s3 hb⟩
        · have hx := hI.e3 (hd 3 (by decide))
          subst hx
          rw [if_pos (by rfl)]
          go_simp
          exact hK.out _ _ ⟨_, _, _, _, _, _, _, _, _, rfl, hI.s4⟩
      · rintro L a W8 hall ⟨x70, x71, x72, x73, x16, p, e, b, ps, rfl, hI⟩
        have h4 := hI.e4 (hall 4 (by decide))
        have hbel := hI.bel
        subst h4
        have B8 : Below w.heap.size w W8 := B7.out.trans (hbel.mono B7.out.size)
        have HGC : Hid (Calls Try.prog 10 #[.pointer (some ⟨G.g, 0, none⟩), .pointer (some ⟨F.g, 0, none⟩), .slice so n cap] W8 fun e w' => e = .returned (.bool true) ∧ Below w.heap.size W8 w') := by
          refine HGM.out W8 G F B8 HOKH.out ⟨_, HG7.out.keep fun B hB => hbel.block B (HG7.out.blt B hB)⟩ (HF7.out.keep fun B hB => hbel.block B (HF7.out.blt B hB)) HF4.out.2.1 (fun B k1 k2 => ?_) ?_
          · have := (HG4.out.2 B k1).2; have := HF4.out.2.2 B k2; omega
          · rintro B (k | k)
            · have := (HG4.out.2 B k).1; omega
            · have := HF4.out.2.2 B k; omega
        clear hI hall hbel
        try dsimp only
        go_wp2_with (refine HGC.out.mono ?_; rintro e w9 ⟨rfl, hb9⟩)
        go_ret
        exact ⟨rfl, B8.trans hb9⟩
end Go.Proofs.Ythjndaeibbfgaaa
