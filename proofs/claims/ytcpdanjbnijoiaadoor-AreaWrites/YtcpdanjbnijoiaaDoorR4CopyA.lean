import Derived.Test.YtcpdanjbnijoiaaDoorR4Inv

/-! append onto an empty slice that was just made. -/
namespace Go.Proofs.YtcpdanjbnijoiaaDoor
open Go.RowKit

theorem ints_one (l : List Int) : ∀ u ∈ l.map (Value.int .i64), u.oneCell' = true := by
  intro u hu; simp at hu; obtain ⟨x, _, rfl⟩ := hu; rfl
theorem bools_one (l : List Bool) : ∀ u ∈ l.map Value.bool, u.oneCell' = true := by
  intro u hu; simp at hu; rcases hu with ⟨_, rfl⟩ | ⟨_, rfl⟩ <;> rfl
theorem owns_kept {w w' : World} {N e size n : Nat} {ao : Option Addr} {c : Nat} {xs : List Value} (h : w.ownsRow N e size (.slice ao n c) n xs) (hb : ∀ g, ao = some ⟨g, 0, none⟩ → w'.heap[g]? = w.heap[g]?) : w'.ownsRow N e size (.slice ao n c) n xs := by
  refine ⟨h.1, ?_⟩
  rcases h.2 with h1 | ⟨g, c', cur, h1, h2, h3, h4⟩
  · exact .inl h1
  · injection h1 with e1 e2 e3
    subst e3
    exact .inr ⟨g, c, cur, by rw [e1], h2, (hb g e1).trans h3, h4⟩

/-- append onto a slice without elements and without room: no block that was there is written. -/
theorem run_append_fresh {T e size bytes : Nat} {z : Value} (E : ElT T e size bytes z) (N : Nat) (w : World) (ty : TypeId) (g1 : Nat) (hg : w.heap[g1]? = some (.cells #[] e)) (hN1 : N ≤ g1)
    (ao : Option Addr) (n cap : Nat) (news : List Value) (hn : news.length = n * size) (hb : IsL w ao news) (h1 : ∀ u ∈ news, u.oneCell' = true) (hnil : ao = none → cap = 0) (hm : n ≤ maxLen) (hl : n * bytes ≤ 140737488355328) :
    ∃ g' cap' w', (Builtin.append_ #[T, T] ty #[.slice (some ⟨g1, 0, none⟩) 0 0, .slice ao n cap]).run Tryd.prog w = .ok (.slice (some ⟨g', 0, none⟩) n cap') w' ∧ w'.ownsRow N e size (.slice (some ⟨g', 0, none⟩) n cap') n news ∧ Below w.heap.size w w' ∧ (g' = g1 ∨ g' = w.heap.size) ∧ N ≤ g' ∧ g' < w'.heap.size := by
  have hlt : g1 < w.heap.size := (Array.getElem?_eq_some_iff.1 hg).1
  have hown : w.ownsRow N e size (.slice (some ⟨g1, 0, none⟩) 0 0) 0 [] := ⟨by simp, .inr ⟨g1, 0, #[], rfl, hN1, hg, by simp, by unfold maxLen; omega, by simp, by simp⟩⟩
  obtain ⟨i0, hi, hz0, hz1, hz2⟩ := info_parts E.info
  have none_case : n = 0 → (Builtin.append_ #[T, T] ty #[.slice (some ⟨g1, 0, none⟩) 0 0, .slice ao n cap]).run Tryd.prog w = .ok (.slice (some ⟨g1, 0, none⟩) 0 0) w → ∃ g' cap' w', (Builtin.append_ #[T, T] ty #[.slice (some ⟨g1, 0, none⟩) 0 0, .slice ao n cap]).run Tryd.prog w = .ok (.slice (some ⟨g', 0, none⟩) n cap') w' ∧ w'.ownsRow N e size (.slice (some ⟨g', 0, none⟩) n cap') n news ∧ Below w.heap.size w w' ∧ (g' = g1 ∨ g' = w.heap.size) ∧ N ≤ g' ∧ g' < w'.heap.size := by
    intro h0 hr
    subst h0
    have : news = [] := List.eq_nil_of_length_eq_zero (by simpa using hn)
    subst this
    exact ⟨g1, 0, w, hr, hown, Below.refl _ _, .inl rfl, hN1, hlt⟩
  have some_case : ∀ ad : Addr, ao = some ad → (∀ j u, news[j]? = some u → w.cell? (ad.add j) = some u) → ∃ g' cap' w', (Builtin.append_ #[T, T] ty #[.slice (some ⟨g1, 0, none⟩) 0 0, .slice ao n cap]).run Tryd.prog w = .ok (.slice (some ⟨g', 0, none⟩) n cap') w' ∧ w'.ownsRow N e size (.slice (some ⟨g', 0, none⟩) n cap') n news ∧ Below w.heap.size w w' ∧ (g' = g1 ∨ g' = w.heap.size) ∧ N ≤ g' ∧ g' < w'.heap.size := by
    rintro ad rfl hnews
    by_cases h0 : n = 0
    · refine none_case h0 ?_
      subst h0
      have : news = [] := List.eq_nil_of_length_eq_zero (by simpa using hn)
      subst this
      simp [Builtin.append_, run_underlying E.und, sizeOf, typeInfo, hi, Builtin.lenOf, Builtin.firstCells, loadCells, loadCellsFrom, storeCells]
    · obtain ⟨ao', cap', w', hrun, ho, _⟩ := run_append_gen E N w w ty _ 0 0 [] hown (by omega) (Below.refl _ _) (some ad) n cap news hn hb h1 (by simp) (by omega) (by rw [Nat.zero_add]; exact hl)
      have hr := run_append_grow (P := Tryd.prog) w T ty e i0 z E.und hi hz0 ⟨g1, 0, none⟩ 0 0 [] (by simp) (by simp) ad n cap news (by rw [hz1]; exact hn) hnews (by omega) (by unfold maxLen at hm; omega) (growslice_fits (by omega) (by rw [hz2, Nat.zero_add]; exact hl))
      rw [hrun] at hr
      injection hr with e1 e2
      injection e1 with e3 e4 e5
      subst e3
      simp only [Nat.zero_add, List.nil_append] at hrun ho
      refine ⟨w.heap.size, cap', w', hrun, ho, ?_, .inr rfl, by omega, ?_⟩
      · rw [e2]; exact ((Below.refl _ _).drew).alloc (Nat.le_refl _) _
      · rw [e2]; simp
  rcases hb with rfl | ⟨B, off, rfl, hc⟩
  · have hn0 : n = 0 := by
      have hp := E.pos
      have h0 : n * size = 0 := by simpa using hn.symm
      rcases Nat.mul_eq_zero.1 h0 with h | h
      · exact h
      · omega
    cases ao with
    | none =>
      refine none_case hn0 ?_
      rw [hnil rfl, hn0]
      have := run_append_owned_none (P := Tryd.prog) (w := w) N T ty e i0 size E.und hi _ 0 [] hown
      simpa using this
    | some ad => exact some_case ad rfl (by simp)
  · refine some_case _ rfl ?_
    intro j u hu
    rw [Addr.add_mid]
    exact hc j u hu

/-- Where what append answers lies: in the row that it was, or in a new block. -/
theorem append_where {T e size bytes : Nat} {z : Value} (E : ElT T e size bytes z) (N : Nat) (w : World) (ty : TypeId) (aoD : Option Addr) (nD capD : Nat) (vs : List Value) (hown : w.ownsRow N e size (.slice aoD nD capD) nD vs)
    (ad : Addr) (n cap : Nat) (news : List Value) (hn : news.length = n * size) (hnews : ∀ j u, news[j]? = some u → w.cell? (ad.add j) = some u) (h1 : ∀ u ∈ news, u.oneCell' = true) (hn0 : 0 < n) (hm : nD + n ≤ maxLen) (hl : (nD + n) * bytes ≤ 140737488355328)
    (ao' : Option Addr) (m cap' : Nat) (w' : World) (hrun : (Builtin.append_ #[T, T] ty #[.slice aoD nD capD, .slice (some ad) n cap]).run Tryd.prog w = .ok (.slice ao' m cap') w') : (ao' = aoD ∧ w'.heap.size = w.heap.size) ∨ (ao' = some ⟨w.heap.size, 0, none⟩ ∧ Below w.heap.size w w' ∧ w.heap.size < w'.heap.size) := by
  obtain ⟨i0, hi, hz0, hz1, hz2⟩ := info_parts E.info
  subst hz1 hz2
  have hnew : ∀ o : Obj, Below w.heap.size w (w.drew.alloc o) ∧ w.heap.size < (w.drew.alloc o).heap.size := fun o => ⟨((Below.refl _ _).drew).alloc (Nat.le_refl _) _, by simp⟩
  rcases hown.2 with ⟨e1, e2⟩ | ⟨g, c, cur, e1, hbg, hg, hnc, hcm, hcs, htake⟩
  · injection e1 with e3 e4 e5
    subst e3 e2 e5
    have hr := run_append_nil (P := Tryd.prog) w T ty e i0 z E.und hi hz0 ad n cap news hn hnews (by omega) (by unfold maxLen at hm; omega) (by have hb := hl; simp only [Nat.zero_add] at hb; omega)
    rw [hrun] at hr
    injection hr with e6 e7
    injection e6 with e8
    refine .inr ⟨e8, ?_⟩
    rw [e7]; exact hnew _
  · injection e1 with e3 e4 e5
    subst e3 e5
    by_cases hroom : nD + n ≤ capD
    · have hfit : nD * i0.size + news.length ≤ cur.size := by rw [hn, hcs, ← Nat.add_mul]; exact Nat.mul_le_mul_right _ hroom
      have hr := run_append_room (P := Tryd.prog) w T ty e i0 E.und hi g nD capD cur hg ad n cap news hn hnews h1 hroom hfit
      rw [hrun] at hr
      injection hr with e6 e7
      injection e6 with e8
      refine .inl ⟨e8, ?_⟩
      rw [e7]; simp
    · have holds : ∀ j u, vs[j]? = some u → w.cell? ((⟨g, 0, none⟩ : Addr).add j) = some u := hown.cells (g := g) rfl
      have hr := run_append_grow (P := Tryd.prog) w T ty e i0 z E.und hi hz0 ⟨g, 0, none⟩ nD capD vs hown.1 holds ad n cap news hn hnews (by omega) (by unfold maxLen at hm; omega) (growslice_fits (by omega) hl)
      rw [hrun] at hr
      injection hr with e6 e7
      injection e6 with e8
      refine .inr ⟨e8, ?_⟩
      rw [e7]; exact hnew _

theorem step_append_fresh {T e size bytes : Nat} {z : Value} (E : ElT T e size bytes z) {ops : Array Oper} {o : Oper} {a : Act} {w : World} {K : Act → World → Prop} {Q : Exit → Act → World → Prop} {X : Prop} (hgd : o.guard = none) (s x : Operand)
    (ho : o.op = .call { callee := .builtin .append, args := #[s, x], argTypes := #[T, T] })
    (N : Nat) (g1 : Nat) (hs : a.eval s = .slice (some ⟨g1, 0, none⟩) 0 0) (hg : w.heap[g1]? = some (.cells #[] e)) (hN1 : N ≤ g1)
    (ao : Option Addr) (n cap : Nat) (news : List Value) (hx : a.eval x = .slice ao n cap) (hn : news.length = n * size) (hb : IsL w ao news) (h1 : ∀ u ∈ news, u.oneCell' = true) (hnil : ao = none → cap = 0) (hm : n ≤ maxLen) (hl : n * bytes ≤ 140737488355328)
    (h : ∀ g' cap' w', w'.ownsRow N e size (.slice (some ⟨g', 0, none⟩) n cap') n news → Below w.heap.size w w' → (g' = g1 ∨ g' = w.heap.size) → N ≤ g' → g' < w'.heap.size → K (a.put o.dst (.slice (some ⟨g', 0, none⟩) n cap')) w') :
    if Region.wanted o (yielded ops a.tmps) = true then Oper.wp Tryd.prog o a w K Q else X := by
  have hw : Region.wanted o (yielded ops a.tmps) = true := by simp [Region.wanted, hgd]
  rw [if_pos hw]
  obtain ⟨g', cap', w', hrun, h2, h3, h4, h5, h6⟩ := run_append_fresh E N w o.type g1 hg hN1 ao n cap news hn hb h1 hnil hm hl
  unfold Oper.wp execOp
  simp only [ho, resolve, invoke, builtin, Sem.run_bind, Sem.run_pure, Result.andThen_ok, List.map_toArray, List.map_cons, List.map_nil, hs, hx, hrun]
  exact h g' cap' w' h2 h3 h4 h5 h6

/-- append onto an own (or nil) slice of a slice with something in it, at a step of a drawn region: where the answer lies. -/
theorem step_append_where {T e size bytes : Nat} {z : Value} (E : ElT T e size bytes z) {ops : Array Oper} {o : Oper} {a : Act} {w : World} {K : Act → World → Prop} {Q : Exit → Act → World → Prop} {X : Prop} (hgd : o.guard = none) (s x : Operand)
    (ho : o.op = .call { callee := .builtin .append, args := #[s, x], argTypes := #[T, T] })
    (N : Nat) (a0 : World) (aoD : Option Addr) (nD capD : Nat) (vs : List Value) (hs : a.eval s = .slice aoD nD capD) (hown : w.ownsRow N e size (.slice aoD nD capD) nD vs) (hN : N ≤ w.heap.size) (hbel : Below N a0 w)
    (B off n cap : Nat) (news : List Value) (hx : a.eval x = .slice (some ⟨B, off, none⟩) n cap) (hn : news.length = n * size) (hc : ∀ j u, news[j]? = some u → w.cell? ⟨B, off + j, none⟩ = some u) (hn0 : 0 < n) (h1 : ∀ u ∈ news, u.oneCell' = true) (hm : nD + n ≤ maxLen) (hl : (nD + n) * bytes ≤ 140737488355328)
    (h : ∀ ao' cap' w', w'.ownsRow N e size (.slice ao' (nD + n) cap') (nD + n) (vs ++ news) → Below N a0 w' → w.heap.size ≤ w'.heap.size → (∀ k, k < w.heap.size → (∀ g, aoD = some ⟨g, 0, none⟩ → k ≠ g) → w'.heap[k]? = w.heap[k]?) → (ao' = aoD ∨ ao' = some ⟨w.heap.size, 0, none⟩) → K (a.put o.dst (.slice ao' (nD + n) cap')) w') :
    if Region.wanted o (yielded ops a.tmps) = true then Oper.wp Tryd.prog o a w K Q else X := by
  have hw : Region.wanted o (yielded ops a.tmps) = true := by simp [Region.wanted, hgd]
  rw [if_pos hw]
  obtain ⟨ao', cap', w', hrun, h2, h3, h4, h5⟩ := run_append_gen E N a0 w o.type aoD nD capD vs hown hN hbel (some ⟨B, off, none⟩) n cap news hn (.inr ⟨B, off, rfl, hc⟩) h1 (by simp) hm hl
  have hwh := append_where E N w o.type aoD nD capD vs hown ⟨B, off, none⟩ n cap news hn (fun j u hu => by rw [Addr.add_mid]; exact hc j u hu) h1 hn0 hm hl ao' _ cap' w' hrun
  unfold Oper.wp execOp
  simp only [ho, resolve, invoke, builtin, Sem.run_bind, Sem.run_pure, Result.andThen_ok, List.map_toArray, List.map_cons, List.map_nil, hs, hx, hrun]
  exact h ao' cap' w' h2 h3 h4 h5 (hwh.imp (·.1) (·.1))
end Go.Proofs.YtcpdanjbnijoiaaDoor


/-! The reference's CopyState: what has come up of its first region. -/
namespace Go.Proofs.YtcpdanjbnijoiaaDoor
open Go.RowKit

abbrev nilS : Value := .slice none 0 0

/-- What has come up of 'c := State{Erases: append([]int{}, s.Erases...), Blown: append([]bool{}, s.Blown...)}'. -/
structure CI (sz : Nat) (W1 : World) (v : SV) (t : St) (L : Nat → Bool) (x3 x5 x6 x7 x8 x9 x10 x11 x12 x13 : Value) (g1 g2 g3 : Nat) (W : World) : Prop where
  bel : Below W1.heap.size W1 W
  b1 : L 0 = true → W1.heap.size ≤ g1 ∧ g1 < W.heap.size
  b2 : L 4 = true → W1.heap.size ≤ g2 ∧ g2 < W.heap.size
  b3 : L 9 = true → W1.heap.size ≤ g3 ∧ g3 < W.heap.size
  d12 : L 0 = true → L 4 = true → g1 ≠ g2
  d13 : L 0 = true → L 9 = true → g1 ≠ g3
  d23 : L 4 = true → L 9 = true → g2 ≠ g3
  e5 : L 0 = true → L 3 = false → x5 = .slice (some ⟨g1, 0, none⟩) 0 0 ∧ W.heap[g1]? = some (.cells #[] 3)
  e6 : L 1 = true → x6 = .pointer (some ⟨sz, 1, none⟩)
  e7 : L 2 = true → x7 = .slice v.eo t.erases.length v.ec
  e8 : L 3 = true → ∃ c, x8 = .slice (some ⟨g1, 0, none⟩) t.erases.length c ∧ W.ownsRow W1.heap.size 3 1 (.slice (some ⟨g1, 0, none⟩) t.erases.length c) t.erases.length (t.erases.map (Value.int .i64))
  e9 : L 4 = true → L 7 = false → x9 = .slice (some ⟨g2, 0, none⟩) 0 0 ∧ W.heap[g2]? = some (.cells #[] 4)
  e10 : L 5 = true → x10 = .pointer (some ⟨sz, 2, none⟩)
  e11 : L 6 = true → x11 = .slice v.bo t.blown.length v.bc
  e12 : L 7 = true → ∃ c, x12 = .slice (some ⟨g2, 0, none⟩) t.blown.length c ∧ W.ownsRow W1.heap.size 4 1 (.slice (some ⟨g2, 0, none⟩) t.blown.length c) t.blown.length (t.blown.map Value.bool)
  e13 : L 8 = true → x13 = .agg #[nilS, x8, x12]
  e3 : L 9 = true → x3 = .pointer (some ⟨g3, 0, none⟩)
  e3a : L 9 = true → L 10 = false → W.heap[g3]? = some (.cells #[nilS, nilS, nilS] 28)
  e3b : L 10 = true → W.heap[g3]? = some (.cells #[nilS, x8, x12] 28)
  l10 : L 10 = true → L 9 = true
  l03 : L 3 = true → L 0 = true
  l47 : L 7 = true → L 4 = true
  l83 : L 8 = true → L 3 = true
  l87 : L 8 = true → L 7 = true
  l108 : L 10 = true → L 8 = true

section
variable {sz : Nat} {W1 : World} {v : SV} {t : St} {L : Nat → Bool} {x3 x5 x6 x7 x8 x9 x10 x11 x12 x13 : Value} {g1 g2 g3 : Nat} {W W' : World}

theorem CI.zero (W1 : World) : CI sz W1 v t (fun _ => false) undef undef undef undef undef undef undef undef undef undef 0 0 0 W1.drew := by
  constructor <;> first | exact (Below.refl _ _).drew | (intros; contradiction)

/-- A world that leaves every block as it was. -/
theorem CI.mono (h : CI sz W1 v t L x3 x5 x6 x7 x8 x9 x10 x11 x12 x13 g1 g2 g3 W) (hb : Below W.heap.size W W') : CI sz W1 v t L x3 x5 x6 x7 x8 x9 x10 x11 x12 x13 g1 g2 g3 W' where
  bel := h.bel.trans (hb.mono h.bel.size)
  b1 := fun k => ⟨(h.b1 k).1, Nat.lt_of_lt_of_le (h.b1 k).2 hb.size⟩
  b2 := fun k => ⟨(h.b2 k).1, Nat.lt_of_lt_of_le (h.b2 k).2 hb.size⟩
  b3 := fun k => ⟨(h.b3 k).1, Nat.lt_of_lt_of_le (h.b3 k).2 hb.size⟩
  d12 := h.d12
  d13 := h.d13
  d23 := h.d23
  e5 := fun k k' => ⟨(h.e5 k k').1, (hb.block _ (h.b1 k).2).trans (h.e5 k k').2⟩
  e6 := h.e6
  e7 := h.e7
  e8 := fun k => by
    obtain ⟨c, h1, h2⟩ := h.e8 k
    exact ⟨c, h1, owns_kept h2 fun g hg => by injection hg with hg; injection hg with hg; subst hg; exact hb.block _ (h.b1 (h.l03 k)).2⟩
  e9 := fun k k' => ⟨(h.e9 k k').1, (hb.block _ (h.b2 k).2).trans (h.e9 k k').2⟩
  e10 := h.e10
  e11 := h.e11
  e12 := fun k => by
    obtain ⟨c, h1, h2⟩ := h.e12 k
    exact ⟨c, h1, owns_kept h2 fun g hg => by injection hg with hg; injection hg with hg; subst hg; exact hb.block _ (h.b2 (h.l47 k)).2⟩
  e13 := h.e13
  e3 := h.e3
  e3a := fun k k' => (hb.block _ (h.b3 k).2).trans (h.e3a k k')
  e3b := fun k => (hb.block _ (h.b3 (h.l10 k)).2).trans (h.e3b k)
  l10 := h.l10
  l03 := h.l03
  l47 := h.l47
  l83 := h.l83
  l87 := h.l87
  l108 := h.l108

theorem no_of {L : Nat → Bool} {i j : Nat} {p : Prop} (h : L i = true → L j = true) (hj : L j = false) (k : L i = true) : p := by
  have := h k; rw [hj] at this; cases this

theorem below_alloc (W : World) (o : Obj) : Below W.heap.size W (W.alloc o) := (Below.refl _ _).alloc (Nat.le_refl _) o

theorem CI.s0 (h : CI sz W1 v t L x3 x5 x6 x7 x8 x9 x10 x11 x12 x13 g1 g2 g3 W) (hL : L 0 = false) : CI sz W1 v t (upd L 0) x3 (.slice (some ⟨W.heap.size, 0, none⟩) 0 0) x6 x7 x8 x9 x10 x11 x12 x13 W.heap.size g2 g3 (W.alloc (.cells #[] 3)) :=
  have m := h.mono (below_alloc W (.cells #[] 3))
  ⟨m.bel, fun _ => ⟨h.bel.size, by simp⟩, m.b2, m.b3, fun _ k => (Nat.ne_of_lt (h.b2 k).2).symm, fun _ k => (Nat.ne_of_lt (h.b3 k).2).symm, m.d23, fun _ _ => ⟨rfl, heap_alloc_new W _⟩, m.e6, m.e7, fun k => no_of h.l03 hL k, m.e9, m.e10, m.e11, m.e12, m.e13, m.e3, m.e3a, m.e3b, m.l10, fun _ => rfl, m.l47, m.l83, m.l87, m.l108⟩
theorem CI.s1 (h : CI sz W1 v t L x3 x5 x6 x7 x8 x9 x10 x11 x12 x13 g1 g2 g3 W) : CI sz W1 v t (upd L 1) x3 x5 (.pointer (some ⟨sz, 1, none⟩)) x7 x8 x9 x10 x11 x12 x13 g1 g2 g3 W :=
  ⟨h.bel, h.b1, h.b2, h.b3, h.d12, h.d13, h.d23, h.e5, fun _ => rfl, h.e7, h.e8, h.e9, h.e10, h.e11, h.e12, h.e13, h.e3, h.e3a, h.e3b, h.l10, h.l03, h.l47, h.l83, h.l87, h.l108⟩
theorem CI.s2 (h : CI sz W1 v t L x3 x5 x6 x7 x8 x9 x10 x11 x12 x13 g1 g2 g3 W) : CI sz W1 v t (upd L 2) x3 x5 x6 (.slice v.eo t.erases.length v.ec) x8 x9 x10 x11 x12 x13 g1 g2 g3 W :=
  ⟨h.bel, h.b1, h.b2, h.b3, h.d12, h.d13, h.d23, h.e5, h.e6, fun _ => rfl, h.e8, h.e9, h.e10, h.e11, h.e12, h.e13, h.e3, h.e3a, h.e3b, h.l10, h.l03, h.l47, h.l83, h.l87, h.l108⟩
theorem CI.s3 (h : CI sz W1 v t L x3 x5 x6 x7 x8 x9 x10 x11 x12 x13 g1 g2 g3 W) (hL : L 3 = false) (h0 : L 0 = true) {g c : Nat} (ho : W'.ownsRow W1.heap.size 3 1 (.slice (some ⟨g, 0, none⟩) t.erases.length c) t.erases.length (t.erases.map (Value.int .i64))) (hb : Below W.heap.size W W') (hg : g = g1 ∨ g = W.heap.size) (hN : W1.heap.size ≤ g) (hlt : g < W'.heap.size) :
    CI sz W1 v t (upd L 3) x3 x5 x6 x7 (.slice (some ⟨g, 0, none⟩) t.erases.length c) x9 x10 x11 x12 x13 g g2 g3 W' :=
  have m := h.mono hb
  ⟨m.bel, fun _ => ⟨hN, hlt⟩, m.b2, m.b3, fun _ k => by rcases hg with rfl | rfl; exact h.d12 h0 k; exact (Nat.ne_of_lt (h.b2 k).2).symm, fun _ k => by rcases hg with rfl | rfl; exact h.d13 h0 k; exact (Nat.ne_of_lt (h.b3 k).2).symm, m.d23, fun _ k => (by cases k), m.e6, m.e7, fun _ => ⟨c, rfl, ho⟩, m.e9, m.e10, m.e11, m.e12, fun k => no_of h.l83 hL k, m.e3, m.e3a, fun k => no_of h.l83 hL (h.l108 k), m.l10, fun _ => h0, m.l47, fun _ => rfl, m.l87, m.l108⟩
theorem CI.s4 (h : CI sz W1 v t L x3 x5 x6 x7 x8 x9 x10 x11 x12 x13 g1 g2 g3 W) (hL : L 4 = false) : CI sz W1 v t (upd L 4) x3 x5 x6 x7 x8 (.slice (some ⟨W.heap.size, 0, none⟩) 0 0) x10 x11 x12 x13 g1 W.heap.size g3 (W.alloc (.cells #[] 4)) :=
  have m := h.mono (below_alloc W (.cells #[] 4))
  ⟨m.bel, m.b1, fun _ => ⟨h.bel.size, by simp⟩, m.b3, fun k _ => Nat.ne_of_lt (h.b1 k).2, m.d13, fun _ k => (Nat.ne_of_lt (h.b3 k).2).symm, m.e5, m.e6, m.e7, m.e8, fun _ _ => ⟨rfl, heap_alloc_new W _⟩, m.e10, m.e11, fun k => no_of h.l47 hL k, m.e13, m.e3, m.e3a, m.e3b, m.l10, m.l03, fun _ => rfl, m.l83, m.l87, m.l108⟩
theorem CI.s5 (h : CI sz W1 v t L x3 x5 x6 x7 x8 x9 x10 x11 x12 x13 g1 g2 g3 W) : CI sz W1 v t (upd L 5) x3 x5 x6 x7 x8 x9 (.pointer (some ⟨sz, 2, none⟩)) x11 x12 x13 g1 g2 g3 W :=
  ⟨h.bel, h.b1, h.b2, h.b3, h.d12, h.d13, h.d23, h.e5, h.e6, h.e7, h.e8, h.e9, fun _ => rfl, h.e11, h.e12, h.e13, h.e3, h.e3a, h.e3b, h.l10, h.l03, h.l47, h.l83, h.l87, h.l108⟩
theorem CI.s6 (h : CI sz W1 v t L x3 x5 x6 x7 x8 x9 x10 x11 x12 x13 g1 g2 g3 W) : CI sz W1 v t (upd L 6) x3 x5 x6 x7 x8 x9 x10 (.slice v.bo t.blown.length v.bc) x12 x13 g1 g2 g3 W :=
  ⟨h.bel, h.b1, h.b2, h.b3, h.d12, h.d13, h.d23, h.e5, h.e6, h.e7, h.e8, h.e9, h.e10, fun _ => rfl, h.e12, h.e13, h.e3, h.e3a, h.e3b, h.l10, h.l03, h.l47, h.l83, h.l87, h.l108⟩
theorem CI.s7 (h : CI sz W1 v t L x3 x5 x6 x7 x8 x9 x10 x11 x12 x13 g1 g2 g3 W) (hL : L 7 = false) (h0 : L 4 = true) {g c : Nat} (ho : W'.ownsRow W1.heap.size 4 1 (.slice (some ⟨g, 0, none⟩) t.blown.length c) t.blown.length (t.blown.map Value.bool)) (hb : Below W.heap.size W W') (hg : g = g2 ∨ g = W.heap.size) (hN : W1.heap.size ≤ g) (hlt : g < W'.heap.size) :
    CI sz W1 v t (upd L 7) x3 x5 x6 x7 x8 x9 x10 x11 (.slice (some ⟨g, 0, none⟩) t.blown.length c) x13 g1 g g3 W' :=
  have m := h.mono hb
  ⟨m.bel, m.b1, fun _ => ⟨hN, hlt⟩, m.b3, fun k _ => by rcases hg with rfl | rfl; exact h.d12 k h0; exact Nat.ne_of_lt (h.b1 k).2, m.d13, fun _ k => by rcases hg with rfl | rfl; exact h.d23 h0 k; exact (Nat.ne_of_lt (h.b3 k).2).symm, m.e5, m.e6, m.e7, m.e8, fun _ k => (by cases k), m.e10, m.e11, fun _ => ⟨c, rfl, ho⟩, fun k => no_of h.l87 hL k, m.e3, m.e3a, fun k => no_of h.l87 hL (h.l108 k), m.l10, m.l03, fun _ => h0, m.l83, fun _ => rfl, m.l108⟩
theorem CI.s8 (h : CI sz W1 v t L x3 x5 x6 x7 x8 x9 x10 x11 x12 x13 g1 g2 g3 W) (h3 : L 3 = true) (h7 : L 7 = true) : CI sz W1 v t (upd L 8) x3 x5 x6 x7 x8 x9 x10 x11 x12 (.agg #[nilS, x8, x12]) g1 g2 g3 W :=
  ⟨h.bel, h.b1, h.b2, h.b3, h.d12, h.d13, h.d23, h.e5, h.e6, h.e7, h.e8, h.e9, h.e10, h.e11, h.e12, fun _ => rfl, h.e3, h.e3a, h.e3b, h.l10, h.l03, h.l47, fun _ => h3, fun _ => h7, fun _ => rfl⟩
theorem CI.s9 (h : CI sz W1 v t L x3 x5 x6 x7 x8 x9 x10 x11 x12 x13 g1 g2 g3 W) (hL : L 9 = false) : CI sz W1 v t (upd L 9) (.pointer (some ⟨W.heap.size, 0, none⟩)) x5 x6 x7 x8 x9 x10 x11 x12 x13 g1 g2 W.heap.size (W.alloc (.cells #[nilS, nilS, nilS] 28)) :=
  have m := h.mono (below_alloc W (.cells #[nilS, nilS, nilS] 28))
  ⟨m.bel, m.b1, m.b2, fun _ => ⟨h.bel.size, by simp⟩, m.d12, fun k _ => Nat.ne_of_lt (h.b1 k).2, fun k _ => Nat.ne_of_lt (h.b2 k).2, m.e5, m.e6, m.e7, m.e8, m.e9, m.e10, m.e11, m.e12, m.e13, fun _ => rfl, fun _ _ => heap_alloc_new W _, fun k => no_of h.l10 hL k, fun _ => rfl, m.l03, m.l47, m.l83, m.l87, m.l108⟩
end

/-- A whole struct stored into a block known whole, at a step of a drawn region. -/
theorem step_store_Row {ops : Array Oper} {o : Oper} {a : Act} {w : World} {K : Act → World → Prop} {Q : Exit → Act → World → Prop} {X : Prop} (hgd : o.guard = none) (ty : TypeId) (x y : Operand) (ho : o.op = .store ty x y)
    (g t : Nat) (old new : List Value) (hr : Row w g t old) (hl : new.length = old.length) (hx : a.eval x = .pointer (some ⟨g, 0, none⟩)) (hy : a.eval y = .agg new.toArray)
    (hi : (Tryd.prog.info? ty).map (·.size) = some new.length) (h1 : ∀ v ∈ new, v.oneCell' = true)
    (h : ∀ w', Row w' g t new → SameBut g w w' → K (a.put o.dst undef) w') : if Region.wanted o (yielded ops a.tmps) = true then Oper.wp Tryd.prog o a w K Q else X := by
  have hw : Region.wanted o (yielded ops a.tmps) = true := by simp [Region.wanted, hgd]
  rw [if_pos hw]
  refine wp_store_mid ty x y ho g 0 new.toArray hx hy ?_ (by simpa using hi) (all_oneCell_toArray h1) (h _ ?_ ?_)
  · intro j hj
    refine ⟨?_, hr.frozen _⟩
    have hj' : 0 + j < old.length := by simp at hj; omega
    rw [hr.cell (0 + j) old[0 + j] (List.getElem?_eq_getElem hj')]; rfl
  · have := Row.setCells new 0 w old hr (by omega)
    simpa [hl] using this
  · exact SameBut.setCells g new 0 w

theorem CI.s10 {sz : Nat} {W1 : World} {v : SV} {t : St} {L : Nat → Bool} {x3 x5 x6 x7 x8 x9 x10 x11 x12 x13 : Value} {g1 g2 g3 : Nat} {W W' : World} (h : CI sz W1 v t L x3 x5 x6 x7 x8 x9 x10 x11 x12 x13 g1 g2 g3 W) (h3 : L 3 = true) (h7 : L 7 = true) (h8 : L 8 = true) (h9 : L 9 = true) (hs : SameBut g3 W W') (hr : Row W' g3 28 [nilS, x8, x12]) : CI sz W1 v t (upd L 10) x3 x5 x6 x7 x8 x9 x10 x11 x12 x13 g1 g2 g3 W' where
  bel := hs.below h.bel (h.b3 h9).1
  b1 := fun k => ⟨(h.b1 k).1, by rw [hs.size]; exact (h.b1 k).2⟩
  b2 := fun k => ⟨(h.b2 k).1, by rw [hs.size]; exact (h.b2 k).2⟩
  b3 := fun k => ⟨(h.b3 k).1, by rw [hs.size]; exact (h.b3 k).2⟩
  d12 := h.d12
  d13 := h.d13
  d23 := h.d23
  e5 := fun k k' => by rw [show upd L 10 3 = L 3 from rfl, h3] at k'; cases k'
  e6 := h.e6
  e7 := h.e7
  e8 := fun k => by
    obtain ⟨c, q1, q2⟩ := h.e8 k
    exact ⟨c, q1, owns_kept q2 fun g hg => by injection hg with hg; injection hg with hg; subst hg; exact hs.block _ (h.d13 (h.l03 h3) h9)⟩
  e9 := fun k k' => by rw [show upd L 10 7 = L 7 from rfl, h7] at k'; cases k'
  e10 := h.e10
  e11 := h.e11
  e12 := fun k => by
    obtain ⟨c, q1, q2⟩ := h.e12 k
    exact ⟨c, q1, owns_kept q2 fun g hg => by injection hg with hg; injection hg with hg; subst hg; exact hs.block _ (h.d23 (h.l47 h7) h9)⟩
  e13 := h.e13
  e3 := h.e3
  e3a := fun _ k => by cases k
  e3b := fun _ => hr
  l10 := fun _ => h9
  l03 := h.l03
  l47 := h.l47
  l83 := h.l83
  l87 := h.l87
  l108 := fun _ => h8

end Go.Proofs.YtcpdanjbnijoiaaDoor
