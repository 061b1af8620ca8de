
import Derived.Test.YtgpnbiaghokjkaaDoorD21Pg
import Derived.Test.YtgpnbiaghokjkaaDoorD21Same
/-! Layer 21, the document's answer: what Parse has in memory between two pages. -/
namespace Go.Proofs.YtgpnbiaghokjkaaDoor
open Go.RowKit
set_option linter.unusedVariables false
set_option linter.unusedSimpArgs false
set_option maxRecDepth 100000

/-- What Parse answers, as data. -/
def parseR (T : List By) : Cfg × St × Int × Nat := match parseL T with | .error (k, l) => (⟨0, 0, 0, 0, 0, 0, 0⟩, ⟨[], [], []⟩, k, l) | .ok (c, t) => (c, t, 0, 0)
theorem parseR_err {T : List By} {k : Int} {l : Nat} (h : parseL T = .error (k, l)) : parseR T = (⟨0, 0, 0, 0, 0, 0, 0⟩, ⟨[], [], []⟩, k, l) := by unfold parseR; rw [h]
theorem parseR_ok {T : List By} {c : Cfg} {t : St} (h : parseL T = .ok (c, t)) : parseR T = (c, t, 0, 0) := by unfold parseR; rw [h]
/-- Four answers: a config, a chip, a number, a line. -/
def Tells4 (c : Cfg) (v : SV) (t : St) (k : Int) (l : Nat) : Ending := .returned (.tuple #[.agg c.vals.toArray, .agg (v.vals t).toArray, .int .i64 k, .int .i64 (l : Int)])
/-- What Parse tells. -/
def ParP (T : List By) (w : World) (e : Ending) (w' : World) : Prop :=
  ∃ v, e = Tells4 (parseR T).1 v (parseR T).2.1 (parseR T).2.2.1 (parseR T).2.2.2 ∧ StV w' v (parseR T).2.1 ∧ Below w.heap.size w w'
abbrev sv0 : SV := ⟨none, 0, none, 0, none, 0⟩
abbrev st0 : St := ⟨[], [], []⟩
abbrev cfg0 : Cfg := ⟨0, 0, 0, 0, 0, 0, 0⟩
theorem stv0 (w : World) : StV w sv0 st0 := ⟨⟨[], rfl, .inl rfl, fun i q p hq => by cases hq⟩, .inl rfl, .inl rfl, fun p hp => by cases hp⟩
theorem ParP.err {T : List By} {w w' : World} {k : Int} {l : Nat} (h : parseL T = .error (k, l)) (hb : Below w.heap.size w w') : ParP T w (Tells4 cfg0 sv0 st0 k l) w' := by
  unfold ParP
  rw [parseR_err h]
  exact ⟨sv0, rfl, stv0 w', hb⟩
theorem ParP.ok {T : List By} {w w' : World} {c : Cfg} {t : St} {v : SV} (h : parseL T = .ok (c, t)) (hv : StV w' v t) (hb : Below w.heap.size w w') : ParP T w (Tells4 c v t 0 0) w' := by
  unfold ParP
  rw [parseR_ok h]
  exact ⟨v, rfl, hv, hb⟩

theorem results_rrtt {fn : Func} {p q r s : Tmp} {t1 t2 : TypeId} (h : fn.results = #[.cell p t1, .cell q t2, .tmp r, .tmp s]) (tmps : Array Value) (w : World) (g1 g2 u1 u2 : Nat) (xs ys : List Value) (d1 d2 : TypeDesc)
    (hp : tmps.getD p undef = .pointer (some ⟨g1, 0, none⟩)) (hq : tmps.getD q undef = .pointer (some ⟨g2, 0, none⟩)) (hr1 : Row w g1 u1 xs) (hr2 : Row w g2 u2 ys) (hu1 : Tryd.prog.underlying t1 = some d1) (hu2 : Tryd.prog.underlying t2 = some d2) (hd1 : d1.isRow = true) (hd2 : d2.isRow = true)
    (hi1 : (Tryd.prog.info? t1).map (·.size) = some xs.length) (hi2 : (Tryd.prog.info? t2).map (·.size) = some ys.length) :
    (results fn tmps).run Tryd.prog w = .ok (.tuple #[.agg xs.toArray, .agg ys.toArray, tmps.getD r undef, tmps.getD s undef]) w := by
  have hl1 := run_loadVar_mid (P := Tryd.prog) w g1 0 t1 xs d1 (by have := hr1.range 0 xs.length; simpa using this) hu1 hd1 hi1
  have hl2 := run_loadVar_mid (P := Tryd.prog) w g2 0 t2 ys d2 (by have := hr2.range 0 ys.length; simpa using this) hu2 hd2 hi2
  rw [Array.getD_eq_getD_getElem?] at hp hq
  simp only [results, h]
  simp [Sem.run_bind, Result.andThen, asAddr, hp, hq, hl1, hl2]

theorem below_keptL {w w1 w2 : World} {N : Nat} {L : List Nat} (hb : Below N w w1) (kl : KeptL L w1 w2) (hL : ∀ B ∈ L, N ≤ B) (hN : N ≤ w1.heap.size) : Below N w w2 :=
  ⟨kl.os.trans hb.os, kl.tape.trans hb.tape, kl.output.trans hb.output, Nat.le_trans hb.size kl.size, fun k hk => (kl.block k (by omega) (fun hm => by have := hL k hm; omega)).trans (hb.block k hk)⟩
/-- Around the stores of both results. -/
structure ES (W1 : World) (S : Nat) (cs xs : List Value) (l2 l3 : Bool) (W : World) : Prop where
  kept : KeptL [S, S + 1] W1 W
  r2 : ∃ old, Row W S 24 old ∧ old.length = 7 ∧ (l2 = true → old = cs)
  r3 : ∃ old, Row W (S + 1) 29 old ∧ old.length = 3 ∧ (l3 = true → old = xs)
section
variable {W1 : World} {S : Nat} {cs xs : List Value} {l2 l3 : Bool} {W W2 : World}
theorem ES.zero (o2 o3 : List Value) (h2 : Row W1 S 24 o2) (e2 : o2.length = 7) (h3 : Row W1 (S + 1) 29 o3) (e3 : o3.length = 3) : ES W1 S cs xs false false W1.drew :=
  ⟨(KeptL.refl _ _).dr ⟨1, rfl⟩, ⟨o2, h2, e2, fun e => (by cases e)⟩, ⟨o3, h3, e3, fun e => (by cases e)⟩⟩
theorem ES.st2 (h : ES W1 S cs xs l2 l3 W) (hr : Row W2 S 24 cs) (hs : SameBut S W W2) (lc : cs.length = 7) : ES W1 S cs xs true l3 W2 := by
  obtain ⟨old, h1, h2, h3⟩ := h.r3
  exact ⟨h.kept.but hs (.inl (by simp)), ⟨cs, hr, lc, fun _ => rfl⟩, ⟨old, h1.but hs (by omega), h2, h3⟩⟩
theorem ES.st3 (h : ES W1 S cs xs l2 l3 W) (hr : Row W2 (S + 1) 29 xs) (hs : SameBut (S + 1) W W2) (lx : xs.length = 3) : ES W1 S cs xs l2 true W2 := by
  obtain ⟨old, h1, h2, h3⟩ := h.r2
  exact ⟨h.kept.but hs (.inl (by simp)), ⟨old, h1.but hs (by omega), h2, h3⟩, ⟨xs, hr, lx, fun _ => rfl⟩⟩
end
/-- Around the making of a config. -/
structure CS (W1 : World) (D : Nat) (cs : List Value) (la ls : Bool) (W : World) : Prop where
  bel : Below D W1 W
  ord : ls = true → la = true
  sz : la = false → W.heap.size = D
  r : la = true → ∃ old, Row W D 24 old ∧ old.length = 7 ∧ (ls = true → old = cs)
section
variable {W1 : World} {D : Nat} {cs : List Value} {la ls : Bool} {W W2 : World}
theorem CS.zero (hD : W1.heap.size = D) : CS W1 D cs false false W1.drew := ⟨(Below.refl _ _).drew, fun e => (by cases e), fun _ => hD, fun e => (by cases e)⟩
theorem CS.al (h : CS W1 D cs la ls W) (hla : la = false) (zs : Array Value) (hz : zs.size = 7) : CS W1 D cs true ls (W.alloc (.cells zs 24)) := by
  have e := h.sz hla
  refine ⟨h.bel.alloc (by omega) _, fun _ => rfl, fun h => (by cases h), fun _ => ⟨zs.toList, ?_, by simpa using hz, fun k => (by have := h.ord k; rw [hla] at this; cases this)⟩⟩
  have := Row.at W 24 zs.toList _ _ rfl rfl
  rw [e] at this
  exact this
theorem CS.st (h : CS W1 D cs la ls W) (hr : Row W2 D 24 cs) (hs : SameBut D W W2) (lc : cs.length = 7) (ha : la = true) : CS W1 D cs la true W2 :=
  ⟨hs.below h.bel (Nat.le_refl _), fun _ => ha, fun k => (by rw [ha] at k; cases k), fun _ => ⟨cs, hr, lc, fun _ => rfl⟩⟩
end

/-- append of one element, and what it leaves. -/
theorem wpList_app1k {T e bytes : Nat} {z : Value} (E : ElT T e 1 bytes z) {ops : Array Oper} {rest : List Oper} {o : Oper} {a : Act} {w : World} {Q : Exit → Act → World → Prop} (hgd : o.guard = none) (s x : Operand)
    (ho : o.op = .call { callee := .builtin .append, args := #[s, x], argTypes := #[T, T] })
    (N t : Nat) (ao : Option Addr) (n c : Nat) (vs : List Value) (u : Value) (hu : u.oneCell' = true) (g0 : Nat) (hg0 : g0 = w.heap.size) (hs : a.eval s = .slice ao n c) (hx : a.eval x = .slice (some ⟨g0, 0, none⟩) 1 1)
    (hown : w.ownsRow N e 1 (.slice ao n c) n vs) (hN : N ≤ w.heap.size) (hm : (n + 1) * bytes ≤ 140737488355328) (hm2 : n + 1 ≤ maxLen)
    (h : ∀ ao' c' w', w'.ownsRow N e 1 (.slice ao' (n + 1) c') (n + 1) (vs ++ [u]) → Below N w w' → (∀ k, k < w.heap.size → (∀ g, ao = some ⟨g, 0, none⟩ → k ≠ g) → w'.heap[k]? = w.heap[k]?) → wpList Tryd.prog ops Q rest (a.put o.dst (.slice ao' (n + 1) c')) w') :
    wpList Tryd.prog ops Q (o :: rest) a (w.alloc (.cells #[u] t)) := by
  subst hg0
  refine wpList_append_gen E hgd s x ho N w ao n c vs hs (hown.alloc _) (by simp; omega) ((Below.refl _ _).alloc hN _) (some ⟨w.heap.size, 0, none⟩) 1 1 [u] hx rfl (.inr ⟨_, _, rfl, fun j u' hu' => ?_⟩) ?_ (fun e => by cases e) hm2 hm ?_
  · rw [← Addr.add_mid]
    exact cell_one_new w _ t j u' hu'
  · intro u' hu'; simp at hu'; subst hu'; exact hu
  · intro ao' cap' w' h1 h2 h3 h4
    exact h ao' cap' w' h1 h2 (fun k hk hne => (h4 k (by simp; omega) hne).trans (Below.heap_alloc w _ k hk))

theorem owns_at {N e size n : Nat} {w : World} {ao : Option Addr} {c : Nat} {xs : List Value} (h : w.ownsRow N e size (.slice ao n c) n xs) (B : Nat) (hB : ao = some ⟨B, 0, none⟩) : N ≤ B ∧ B < w.heap.size := h.lt B (by rw [hB]; rfl)
theorem blown_len {n : Nat} {l : List By} {bl : List Bool} (h : blown? n l = some bl) : bl.length = n := by
  unfold blown? at h
  split at h
  · split at h
    · injection h with h; rw [← h]; exact marks_len _ _
    · cases h
  · cases h
/-- Between two pages. -/
structure PM (N D : Nat) (bv : Value) (pgs : List (List (List By))) (ers : List Int) (po : Option Addr) (pc : Nat) (eo : Option Addr) (ec : Nat) (qs : List Value) (W : World) : Prop where
  out : Row W D 29 [.slice po pgs.length pc, .slice eo ers.length ec, bv]
  pr : W.ownsRow N 57 1 (.slice po pgs.length pc) pgs.length qs
  pg : ∀ (i : Nat) (v : Value) (g : List (List By)), qs[i]? = some v → pgs[i]? = some g → OwnC N W v g
  er : W.ownsRow N 3 1 (.slice eo ers.length ec) ers.length (ers.map (Value.int .i64))
  sz : N ≤ W.heap.size
section
variable {N D : Nat} {bv : Value} {pgs : List (List (List By))} {ers : List Int} {po eo : Option Addr} {pc ec : Nat} {qs : List Value} {W W' : World}
theorem PM.kept (h : PM N D bv pgs ers po pc eo ec qs W) {B : List Nat} (kl : KeptL B W W') (hB : ∀ b ∈ B, b < N ∧ b ≠ D) : PM N D bv pgs ers po pc eo ec qs W' where
  out := kl.row h.out (fun hm => (hB D hm).2 rfl)
  pr := owns_kept h.pr fun g hg => kl.block g (owns_at h.pr g hg).2 (fun hm => by have := (hB g hm).1; have := (owns_at h.pr g hg).1; omega)
  pg := fun i v g hv hg => (h.pg i v g hv hg).kept kl (fun b hb => (hB b hb).1)
  er := owns_kept h.er fun g hg => kl.block g (owns_at h.er g hg).2 (fun hm => by have := (hB g hm).1; have := (owns_at h.er g hg).1; omega)
  sz := Nat.le_trans h.sz kl.size
theorem PM.below (h : PM N D bv pgs ers po pc eo ec qs W) (hb : Below W.heap.size W W') : PM N D bv pgs ers po pc eo ec qs W' := h.kept (B := []) ((KeptL.refl _ _).below hb (Nat.le_refl _)) (fun b hb => by cases hb)
end
theorem owns_type {N e size : Nat} {w : World} {ao : Option Addr} {n c : Nat} {xs : List Value} (h : w.ownsRow N e size (.slice ao n c) n xs) (B : Nat) (hB : ao = some ⟨B, 0, none⟩) : ∃ cur, w.heap[B]? = some (.cells cur e (0, 0)) := by
  rcases h.2 with ⟨e1, e0⟩ | ⟨g, c', cur, e1, hg, hh, _⟩
  · injection e1 with e1 _ _; rw [e1] at hB; cases hB
  · injection e1 with e1 _ _
    rw [hB] at e1
    injection e1 with e1
    injection e1 with e1
    subst e1
    exact ⟨cur, hh⟩
section
variable {N D : Nat} {bv : Value} {pgs : List (List (List By))} {ers : List Int} {po eo : Option Addr} {pc ec : Nat} {qs : List Value} {W W' : World}
/-- A page is laid behind the others. -/
theorem PM.pushP (h : PM N D bv pgs ers po pc eo ec qs W) (hD : D < N) {v : Value} {g : List (List By)} (hv : OwnC N W v g) {po' : Option Addr} {pc' : Nat} (ho : W'.ownsRow N 57 1 (.slice po' (pgs.length + 1) pc') (pgs.length + 1) (qs ++ [v])) (hb : Below N W W')
    (hk : ∀ k, k < W.heap.size → (∀ g, po = some ⟨g, 0, none⟩ → k ≠ g) → W'.heap[k]? = W.heap[k]?) : PM N D bv (pgs ++ [g]) ers po' pc' eo ec (qs ++ [v]) (W'.setCell ⟨D, 0, none⟩ (.slice po' (pgs.length + 1) pc')) := by
  have hql : qs.length = pgs.length := by have := h.pr.1; omega
  have sb := SameBut.setCell D 0 (.slice po' (pgs.length + 1) pc') W'
  have hC : ∀ x y, OwnC N W x y → OwnC N (W'.setCell ⟨D, 0, none⟩ (.slice po' (pgs.length + 1) pc')) x y := fun x y hxy => by
    obtain ⟨ax, cx, ex⟩ := hxy.form
    have h1 := hxy.1
    rw [ex] at h1 ⊢
    refine ⟨owns_kept h1 fun b hbx => ?_, by rw [sb.size]; exact Nat.le_trans h.sz hb.size, hxy.2.2⟩
    obtain ⟨cur, hcur⟩ := owns_type h1 b hbx
    refine (sb.block b (by have := (owns_at h1 b hbx).1; omega)).trans (hk b (owns_at h1 b hbx).2 fun g' hg' e => ?_)
    obtain ⟨cur2, hcur2⟩ := owns_type h.pr g' hg'
    rw [e, hcur2] at hcur
    injection hcur with hcur
    injection hcur with _ hty _
    exact absurd hty (by decide)
  refine ⟨?_, ?_, ?_, ?_, by rw [sb.size]; exact Nat.le_trans h.sz hb.size⟩
  · have r := (h.out.below hb hD).set 0 (.slice po' (pgs.length + 1) pc')
    rw [List.length_append]
    exact r
  · rw [List.length_append]
    exact owns_kept ho fun b hbx => sb.block b (by have := (owns_at ho b hbx).1; omega)
  · intro i x y hx hy
    by_cases hi : i < pgs.length
    · rw [List.getElem?_append_left (by omega)] at hx
      rw [List.getElem?_append_left hi] at hy
      exact hC x y (h.pg i x y hx hy)
    · rw [List.getElem?_append_right (by omega)] at hx hy
      rw [hql] at hx
      have hi0 : i - pgs.length = 0 := by
        have := (List.getElem?_eq_some_iff.1 hx).1
        simpa using this
      rw [hi0] at hx hy
      injection hx with hx
      injection hy with hy
      subst hx
      subst hy
      exact hC _ _ hv
  · refine owns_kept h.er fun b hbx => ?_
    obtain ⟨cur, hcur⟩ := owns_type h.er b hbx
    refine (sb.block b (by have := (owns_at h.er b hbx).1; omega)).trans (hk b (owns_at h.er b hbx).2 fun g' hg' e => ?_)
    obtain ⟨cur2, hcur2⟩ := owns_type h.pr g' hg'
    rw [e, hcur2] at hcur
    injection hcur with hcur
    injection hcur with _ hty _
    exact absurd hty (by decide)
/-- A number of erases is. -/
theorem PM.pushE (h : PM N D bv pgs ers po pc eo ec qs W) (hD : D < N) {n : Int} {eo' : Option Addr} {ec' : Nat} (ho : W'.ownsRow N 3 1 (.slice eo' (ers.length + 1) ec') (ers.length + 1) (ers.map (Value.int .i64) ++ [.int .i64 n])) (hb : Below N W W')
    (hk : ∀ k, k < W.heap.size → (∀ g, eo = some ⟨g, 0, none⟩ → k ≠ g) → W'.heap[k]? = W.heap[k]?) : PM N D bv pgs (ers ++ [n]) po pc eo' ec' qs (W'.setCell ⟨D, 1, none⟩ (.slice eo' (ers.length + 1) ec')) := by
  have sb := SameBut.setCell D 1 (.slice eo' (ers.length + 1) ec') W'
  have hE : ∀ (e size n c : Nat) (ax : Option Addr) (xs : List Value), e ≠ 3 → W.ownsRow N e size (.slice ax n c) n xs → (W'.setCell ⟨D, 1, none⟩ (.slice eo' (ers.length + 1) ec')).ownsRow N e size (.slice ax n c) n xs := fun e size n c ax xs hne h1 => by
    refine owns_kept h1 fun b hbx => ?_
    obtain ⟨cur, hcur⟩ := owns_type h1 b hbx
    refine (sb.block b (by have := (owns_at h1 b hbx).1; omega)).trans (hk b (owns_at h1 b hbx).2 fun g' hg' e => ?_)
    obtain ⟨cur2, hcur2⟩ := owns_type h.er g' hg'
    rw [e, hcur2] at hcur
    injection hcur with hcur
    injection hcur with _ hty _
    exact absurd hty.symm hne
  refine ⟨?_, hE _ _ _ _ _ _ (by decide) h.pr, ?_, ?_, by rw [sb.size]; exact Nat.le_trans h.sz hb.size⟩
  · have r := (h.out.below hb hD).set 1 (.slice eo' (ers.length + 1) ec')
    rw [List.length_append]
    exact r
  · intro i x y hx hy
    have hxy := h.pg i x y hx hy
    obtain ⟨ax, cx, ex⟩ := hxy.form
    have h1 := hxy.1
    rw [ex] at h1 ⊢
    exact ⟨hE _ _ _ _ _ _ (by decide) h1, by rw [sb.size]; exact Nat.le_trans h.sz hb.size, hxy.2.2⟩
  · rw [List.length_append, List.map_append]
    exact owns_kept ho fun b hbx => sb.block b (by have := (owns_at ho b hbx).1; omega)
theorem OwnC.isL {N : Nat} {w : World} {ao : Option Addr} {n c : Nat} {gs : List (List By)} (h : OwnC N w (.slice ao n c) gs) : IsL w ao (gs.flatten.map B8) := by
  by_cases h0 : 0 < gs.length
  · obtain ⟨G, c', cs, e, _, hr, hc, _, hl, ht⟩ := h.row h0
    injection e with e _ _
    refine .inr ⟨G, 0, e, fun j v hj => ?_⟩
    rw [Nat.zero_add]
    refine hr.cell j v ?_
    rw [← ht] at hj
    have hj2 := (List.getElem?_eq_some_iff.1 hj).1
    rw [List.getElem?_take_of_lt (by rw [List.length_take] at hj2; omega)] at hj
    exact hj
  · have : gs = [] := List.eq_nil_of_length_eq_zero (by omega)
    subst this
    exact .inl rfl
theorem owns_isL {N e : Nat} {w : World} {ao : Option Addr} {n c : Nat} {vs : List Value} (h : w.ownsRow N e 1 (.slice ao n c) n vs) : IsL w ao vs := by
  rcases h.2 with ⟨e1, e0⟩ | ⟨g, c', cur, e1, hg, hh, hnc, hcm, hcs, ht⟩
  · left
    exact List.eq_nil_of_length_eq_zero (by rw [h.1, e0])
  · injection e1 with e1 _ _
    refine .inr ⟨g, 0, e1, fun j v hj => ?_⟩
    rw [Nat.zero_add]
    have hr : Row w g e cur.toList := by show w.heap[g]? = _; rw [hh]
    refine hr.cell j v ?_
    rw [← ht] at hj
    have hj2 := (List.getElem?_eq_some_iff.1 hj).1
    rw [List.getElem?_take_of_lt (by rw [List.length_take] at hj2; omega)] at hj
    exact hj
/-- All pages are there: a chip that can be read. -/
theorem PM.view (h : PM N D bv pgs ers po pc eo ec qs W) {bl : List Bool} {bo : Option Addr} (hbl : IsL W bo (bl.map Value.bool)) (bc : Nat) : StV W ⟨po, pc, eo, ec, bo, bc⟩ ⟨pgs, ers, bl⟩ := by
  have hql : qs.length = pgs.length := by have := h.pr.1; omega
  refine ⟨⟨qs.map (fun v => match v with | .slice ao _ c => (ao, c) | _ => (none, 0)), by rw [List.length_map]; exact hql, ?_, ?_⟩, owns_isL h.er, hbl, ?_⟩
  · have e : List.zipWith (fun q p => Value.slice q.1 (List.length p) q.2) (qs.map (fun v => match v with | .slice ao _ c => (ao, c) | _ => (none, 0))) pgs = qs := by
      apply List.ext_getElem?
      intro i
      rw [List.getElem?_zipWith, List.getElem?_map]
      cases hq : qs[i]? with
      | none => rfl
      | some v =>
        have hi : i < pgs.length := by have := (List.getElem?_eq_some_iff.1 hq).1; omega
        rw [List.getElem?_eq_getElem hi]
        obtain ⟨ao, c, e⟩ := (h.pg i v _ hq (List.getElem?_eq_getElem hi)).form
        rw [e]; rfl
    show IsL W po (List.zipWith _ _ pgs)
    rw [e]
    exact owns_isL h.pr
  · intro i q p hq hp
    rw [List.getElem?_map] at hq
    cases hv : qs[i]? with
    | none => rw [hv] at hq; cases hq
    | some v =>
      rw [hv] at hq
      injection hq with hq
      have ho := h.pg i v p hv hp
      obtain ⟨ao, c, e⟩ := ho.form
      rw [e] at ho hq
      rw [← hq]
      exact ho.isL
  · intro p hp x hx
    obtain ⟨i, hi, rfl⟩ := List.getElem_of_mem hp
    have hi' : i < pgs.length := hi
    have hv : qs[i]? = some (qs[i]'(by omega)) := List.getElem?_eq_getElem _
    exact (h.pg i _ _ hv (List.getElem?_eq_getElem hi)).2.2 x hx
end
end Go.Proofs.YtgpnbiaghokjkaaDoor
