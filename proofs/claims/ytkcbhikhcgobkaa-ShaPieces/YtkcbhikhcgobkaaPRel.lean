import Derived.Test.YtkcbhikhcgobkaaPApp
namespace Go.Proofs.Ytkcbhikhcgobkaa
open Go.RowKit

structure Sc where
  kind : Int
  on : Int
  ao : Option Addr
  cap : Nat
  bs : List By

def ScOk (w : World) (b off i : Nat) (o : Sc) : Prop :=
  w.cell? ⟨b, off + i * 3, none⟩ = some (.int .i64 o.kind) ∧ w.cell? ⟨b, off + i * 3 + 1, none⟩ = some (.int .i64 o.on) ∧ w.cell? ⟨b, off + i * 3 + 2, none⟩ = some (.slice o.ao o.bs.length o.cap) ∧
    IsB w o.ao o.bs ∧ (o.ao = none → o.cap = 0) ∧ o.bs.length ≤ o.cap ∧ o.bs.length ≤ 140737488351232
theorem ScOk.below {w w' : World} {b off i : Nat} {o : Sc} (h : ScOk w b off i o) (hb : Below w.heap.size w w') : ScOk w' b off i o := by
  obtain ⟨h1, h2, h3, h4, h5⟩ := h
  have hl := block_lt_of_cell h1
  simp at hl
  exact ⟨(hb.cell (p := ⟨b, off + i * 3, none⟩) hl).trans h1, (hb.cell (p := ⟨b, off + i * 3 + 1, none⟩) hl).trans h2, (hb.cell (p := ⟨b, off + i * 3 + 2, none⟩) hl).trans h3, h4.below hb (Nat.le_refl _), h5⟩

/-- How many steps and bytes the first k steps have. -/
def cost (ops : List Sc) (k : Nat) : Nat := ((ops.take k).map fun o => 1 + o.bs.length).sum
theorem cost_succ (ops : List Sc) (k : Nat) (o : Sc) (h : ops[k]? = some o) : cost ops (k + 1) = cost ops k + (1 + o.bs.length) := by
  unfold cost
  rw [List.take_add_one, h]
  simp
theorem cost_le (ops : List Sc) (k : Nat) : k ≤ ops.length → k ≤ cost ops k := by
  induction k with
  | zero => intro _; simp [cost]
  | succ k ih =>
    intro h
    have := ih (by omega)
    rw [cost_succ ops k ops[k] (List.getElem?_eq_getElem (by omega))]
    omega

theorem cost_mono (ops : List Sc) (i k : Nat) (h : i ≤ k) : cost ops i ≤ cost ops k := by
  induction k with
  | zero => rw [show i = 0 by omega]; exact Nat.le_refl _
  | succ k ih =>
    by_cases hik : i = k + 1
    · rw [hik]; exact Nat.le_refl _
    · refine Nat.le_trans (ih (by omega)) ?_
      by_cases hk : k < ops.length
      · rw [cost_succ ops k ops[k] (List.getElem?_eq_getElem hk)]; omega
      · unfold cost
        rw [List.take_of_length_le (i := k) (by omega), List.take_of_length_le (i := k + 1) (by omega)]
        exact Nat.le_refl _

theorem PSt.isB {N H : Nat} {w : World} {gl cl ga ca : Nat} {ls : List Nat} {items : List It} (h : PSt N H w gl cl ga ca ls items) (t : It) (ht : t ∈ items) : IsB w t.ao t.M := by
  rcases (h.it t ht).isb with h1 | ⟨B, off, h1, _, _, _, _, h6⟩
  · exact .inl h1
  · exact .inr ⟨B, off, h1, h6⟩

/-- What the three calls on one of the Digests, and on its bytes, answer. -/
theorem it_calls {N : Nat} {w : World} {gl cl ga ca : Nat} {ls : List Nat} {items : List It} (h : PSt N w.heap.size w gl cl ga ca ls items) (t : It) (ht : t ∈ items) (hD : t.D = t.M) (hl : t.M.length ≤ 2147483647) :
    ∃ sm : List By, sm.length = 32 ∧
      (∀ W, Below w.heap.size w W → Calls Try.prog 11 #[.pointer (some ⟨t.g, 0, none⟩)] W fun e w' => e = .returned (.agg (sm.map B8).toArray) ∧ Below W.heap.size W w') ∧
      (∀ W, Below w.heap.size w W → Calls Try.prog 6 #[.slice t.ao t.M.length t.cap] W fun e w' => e = .returned (.agg (sm.map B8).toArray) ∧ Below W.heap.size W w') ∧
      (∀ W, Below w.heap.size w W → Calls Try.prog 5 #[.slice t.ao t.M.length t.cap] W fun e w' => e = .returned (.agg (sm.map B8).toArray) ∧ Below W.heap.size W w') := by
  have h0 := h.it t ht
  have hb := h.isB t ht
  refine ⟨sha t.M, rfl, fun W hW => ?_, fun W hW => ?_, fun W hW => ?_⟩
  · refine sum_any t.g t.M W ?_ (by omega)
    rw [← hD]
    exact h0.dig.of_block (hW.block t.g h0.lt)
  · exact refOf_any t.ao t.cap t.M W (hb.below hW (Nat.le_refl _)) h0.nil (by omega)
  · exact of_any t.ao t.cap t.M W (hb.below hW (Nat.le_refl _)) h0.cap (by omega)

/-- The main loop's relation. -/
def PRel (N : Nat) (w : World) (ops : List Sc) (L : Nat) (lv av iv : Value) (wr : World) : Prop :=
  ∃ (i n gl cl ga ca : Nat) (items : List It), i ≤ L ∧ iv = .int .i64 i ∧ lv = .slice (some ⟨gl, 0, none⟩) n cl ∧ av = .slice (some ⟨ga, 0, none⟩) n ca ∧ Hid (n = items.length) ∧ 0 < n ∧ n ≤ i + 1 ∧
    Hid (PSt N wr.heap.size wr gl cl ga ca (items.map It.g) items) ∧ Hid (∀ t ∈ items, t.D = t.M ∧ t.M.length ≤ cost ops i) ∧ Below N w wr

theorem PRel.next {N : Nat} {w : World} {ops : List Sc} {L : Nat} {i n gl cl ga ca : Nat} {items : List It} {wr w4 : World} {iv : Int} (hiv : iv = (i : Int) + 1) (hi : i + 1 ≤ L) (hn : n = items.length) (hn0 : 0 < n) (hni : n ≤ i + 1)
    (hst : PSt N wr.heap.size wr gl cl ga ca (items.map It.g) items) (hit : ∀ t ∈ items, t.D = t.M ∧ t.M.length ≤ cost ops i) (hbl : Below N w wr) (b4 : Below wr.heap.size wr w4) :
    PRel N w ops L (.slice (some ⟨gl, 0, none⟩) n cl) (.slice (some ⟨ga, 0, none⟩) n ca) (.int .i64 iv) w4 := by
  refine ⟨i + 1, n, gl, cl, ga, ca, items, hi, by rw [hiv]; go_num, rfl, rfl, hn, hn0, by omega, (hst.below b4).up b4.size (Nat.le_refl _), ?_, hbl.trans (b4.mono (Nat.le_trans hst.hN (Nat.le_refl _)))⟩
  intro t ht
  obtain ⟨h1, h2⟩ := hit t ht
  exact ⟨h1, Nat.le_trans h2 (cost_mono ops i (i + 1) (by omega))⟩

theorem PRel.push {N : Nat} {w : World} {ops : List Sc} {L : Nat} {i n gl cl ga ca : Nat} {items : List It} {t : It} {w4 : World} {iv : Int} (hiv : iv = (i : Int) + 1) (hi : i + 1 ≤ L) (hn : n = items.length) (hni : n ≤ i + 1)
    (hst : PSt N w4.heap.size w4 gl cl ga ca (items.map It.g ++ [t.g]) (items ++ [t])) (hit : ∀ t ∈ items, t.D = t.M ∧ t.M.length ≤ cost ops i) (htD : t.D = t.M) (htM : t.M.length ≤ cost ops i) (hbl : Below N w w4) :
    PRel N w ops L (.slice (some ⟨gl, 0, none⟩) (n + 1) cl) (.slice (some ⟨ga, 0, none⟩) (n + 1) ca) (.int .i64 iv) w4 := by
  refine ⟨i + 1, n + 1, gl, cl, ga, ca, items ++ [t], hi, by rw [hiv]; go_num, rfl, rfl, by show _ = _; simp [hn], by omega, by omega, ?_, ?_, hbl⟩
  · show PSt _ _ _ _ _ _ _ _ _
    rw [List.map_append]; exact hst
  · intro s hs
    have hm := cost_mono ops i (i + 1) (by omega)
    rcases List.mem_append.1 hs with h | h
    · obtain ⟨h1, h2⟩ := hit s h
      exact ⟨h1, Nat.le_trans h2 hm⟩
    · simp at h
      subst h
      exact ⟨htD, Nat.le_trans htM hm⟩

theorem grown_below {N : Nat} {a w w' : World} {o : Obj} {r : Nat} (hb : Below N a w) (hN : N ≤ w.heap.size) (hr : (w.alloc o).grownBy w' (some r)) (hNr : N ≤ r) : Below N a w' :=
  (hb.alloc hN o).grown hr (by simp; omega) (fun k hk => by injection hk with hk; omega)
theorem PSt.geL {N H : Nat} {w : World} {gl cl ga ca : Nat} {ls : List Nat} {items : List It} (h : PSt N H w gl cl ga ca ls items) : N ≤ gl := (h.rowL.lt gl rfl).1
theorem PSt.geA {N H : Nat} {w : World} {gl cl ga ca : Nat} {ls : List Nat} {items : List It} (h : PSt N H w gl cl ga ca ls items) : N ≤ ga := (h.rowA.lt ga rfl).1

theorem Try.info31 : (Try.prog.info? 31).map (fun i => (i.zero, i.size, i.bytes)) = some (some (.pointer none), 1, 8) := by kernel_rfl
theorem Try.info22 : (Try.prog.info? 22).map (fun i => (i.zero, i.size, i.bytes)) = some (some (.slice none 0 0), 1, 24) := by kernel_rfl

theorem wpList_append_cell {ops : Array Oper} {rest : List Oper} {o : Oper} {a : Act} {w : World} {Q : Exit → Act → World → Prop} (hgd : o.guard = none) (s x : Operand) (T e : TypeId)
    (ho : o.op = .call { callee := .builtin .append, args := #[s, x], argTypes := #[T, T] }) (z : Value) (bytes : Nat) (hT : Try.prog.underlying T = some (.slice e)) (hinfo : (Try.prog.info? e).map (fun i => (i.zero, i.size, i.bytes)) = some (some z, 1, bytes)) (hz : z.cells.size = 1) (hby : bytes ≤ 24)
    (N ty g n cap : Nat) (xs : List Value) (y : Value) (hy : y.oneCell' = true) (g0 : Nat) (hg0 : g0 = w.heap.size) (hs : a.eval s = .slice (some ⟨g, 0, none⟩) n cap) (hx : a.eval x = .slice (some ⟨g0, 0, none⟩) 1 1)
    (hown : w.ownsRow N e 1 (.slice (some ⟨g, 0, none⟩) n cap) n xs) (hN : N ≤ w.heap.size) (hn : n ≤ 140737488351233 / 32)
    (h : ∀ g' cap' w', w'.ownsRow N e 1 (.slice (some ⟨g', 0, none⟩) (n + 1) cap') (n + 1) (xs ++ [y]) → (w.alloc (.cells #[y] ty)).grownBy w' (some g) → (some g = some g' ∨ g' = w.heap.size + 1) → g' < w'.heap.size →
      wpList Try.prog ops Q rest (a.put o.dst (.slice (some ⟨g', 0, none⟩) (n + 1) cap')) w') :
    wpList Try.prog ops Q (o :: rest) a (w.alloc (.cells #[y] ty)) := by
  obtain ⟨i0, hi, hz0, hz1, hz2⟩ := info_parts hinfo
  subst hg0
  refine wpList_append_lies (P := Try.prog) _ hgd s x T ho N e i0 z 1 bytes hT hi hz0 hz1 hz2 hz (by decide) _ n xs hs (hown.alloc _) ⟨w.heap.size, 0, none⟩ 1 1 [y] hx rfl (cell_one_new _ _ _) ?_ (by decide) ?_ ?_ ?_ (w.heap.size + 1) (by simp) ?_
  · intro u hu; simp at hu; subst hu; exact hy
  · unfold maxLen; omega
  · have : (n + 1) * bytes ≤ (n + 1) * 24 := Nat.mul_le_mul_left _ hby
    omega
  · simp; omega
  · intro g' cap' w' h1 h2 h3 h4
    exact h g' cap' w' h1 h2 h3 h4

theorem own_cap {N : Nat} {w : World} {ao : Option Addr} {n c : Nat} {m : List By} (h : Own N w (.slice ao n c) m) : n ≤ c := by
  rcases h.1.2 with ⟨e, _⟩ | ⟨g, cap, cur, e, _, _, h4, _⟩
  · injection e with e1 e2 e3; omega
  · injection e with e1 e2 e3; omega

theorem start_st {N : Nat} {w1 : World} {g : Nat} (hN : N ≤ g) (hg : g < w1.heap.size) (hd : Dig w1 g []) :
    PSt N (w1.heap.size + 2) ((w1.alloc (.cells #[.pointer (some ⟨g, 0, none⟩)] 31)).alloc (.cells #[.slice none 0 0] 22)) w1.heap.size 1 (w1.heap.size + 1) 1 [g] [⟨g, [], none, 0, []⟩] := by
  have hd2 : ∀ o1 o2, Dig ((w1.alloc o1).alloc o2) g [] := fun o1 o2 => hd.of_block ((Below.heap_alloc (w1.alloc o1) o2 g (by simp; omega)).trans (Below.heap_alloc w1 o1 g hg))
  refine ⟨?_, ?_, by omega, by omega, by omega, by omega, by simp, ?_, by simp⟩
  · exact (World.ownsRow_lit w1 #[.pointer (some ⟨g, 0, none⟩)] 1 (by omega) (by unfold maxLen; omega) rfl).alloc _
  · have := World.ownsRow_lit (base := N) (e := 22) (size := 1) (w1.alloc (.cells #[.pointer (some ⟨g, 0, none⟩)] 31)) #[.slice none 0 0] 1 (by simp; omega) (by unfold maxLen; omega) rfl
    simpa [It.sl] using this
  · intro t ht
    simp at ht
    subst ht
    exact ⟨hN, by show g < _; omega, by show g ≠ _; omega, by show g ≠ _; omega, hd2 _ _, fun _ => rfl, by simp, .inl rfl⟩

theorem own_nil (N : Nat) (w : World) (h : N ≤ w.heap.size) : Own N w (.slice none 0 0) [] := ⟨World.ownsRow_nil _ _ _ _, h⟩

theorem own_isb {N : Nat} {w : World} {ao : Option Addr} {n c : Nat} {m : List By} (h : Own N w (.slice ao n c) m) :
    m.length = n ∧ (ao = none → c = 0) ∧ m.length ≤ c ∧ (m = [] ∨ ∃ B off, ao = some ⟨B, off, none⟩ ∧ N ≤ B ∧ B < w.heap.size ∧ ∀ j v, m[j]? = some v → w.cell? ⟨B, off + j, none⟩ = some (B8 v)) := by
  have h1 := h.1
  rcases h.1.2 with ⟨e, e2⟩ | ⟨g, cap, cur, e, h2, h3, h4, _⟩
  · injection e with e1 e3 e4
    subst e4
    refine ⟨by omega, fun _ => rfl, by omega, .inl (List.length_eq_zero_iff.1 e2)⟩
  · injection e with e1 e3 e4
    subst e1
    subst e4
    refine ⟨e3.symm, (fun hh => by cases hh), h4, .inr ⟨g, 0, rfl, h2, (h1.lt g rfl).2, ?_⟩⟩
    intro j v hj
    have hjl : j < m.length := (List.getElem?_eq_some_iff.1 hj).1
    subst e3
    rw [Nat.zero_add, h1.cellAt j (by omega), List.getElem?_map, hj]; rfl

theorem own_IsB {N : Nat} {w : World} {ao : Option Addr} {n c : Nat} {m : List By} (h : Own N w (.slice ao n c) m) : IsB w ao m := by
  rcases (own_isb h).2.2.2 with h1 | ⟨B, off, h1, _, _, h2⟩
  · exact .inl h1
  · exact .inr ⟨B, off, h1, h2⟩

theorem PRel.store {N : Nat} {w : World} {ops : List Sc} {L : Nat} {i n gl cl ga ca kk H : Nat} {items : List It} {t : It} {o : Sc} {wc w6 : World} {iv : Int} {ao : Option Addr} {m c : Nat} (hiv : iv = (i : Int) + 1) (hi : i + 1 ≤ L) (hn : n = items.length) (hn0 : 0 < n) (hni : n ≤ i + 1)
    (hk : items[kk]? = some t) (hst : PSt N H wc gl cl ga ca (items.map It.g) (items.set kk { t with D := t.D ++ o.bs })) (hit : ∀ t ∈ items, t.D = t.M ∧ t.M.length ≤ cost ops i) (hc : cost ops (i + 1) = cost ops i + (1 + o.bs.length)) (hbl : Below N w wc) (h6 : Below H wc w6) (ho : Own H w6 (.slice ao m c) (t.M ++ o.bs)) :
    PRel N w ops L (.slice (some ⟨gl, 0, none⟩) n cl) (.slice (some ⟨ga, 0, none⟩) n ca) (.int .i64 iv) (w6.setCell ⟨ga, kk, none⟩ (.slice ao m c)) := by
  have hkl : kk < items.length := (List.getElem?_eq_some_iff.1 hk).1
  have ht : t ∈ items := List.mem_of_getElem? hk
  obtain ⟨e1, e2, e3, e4⟩ := own_isb ho
  have hs := (hst.below h6).storeA kk { t with D := t.D ++ o.bs } (by rw [List.getElem?_set_self hkl]) ao c (t.M ++ o.bs) e2 e3 e4
  rw [e1, List.set_set] at hs
  have hsz : (w6.setCell ⟨ga, kk, none⟩ (.slice ao m c)).heap.size = w6.heap.size := (SameBut.setCell ga kk _ w6).size
  refine ⟨i + 1, n, gl, cl, ga, ca, items.set kk { t with D := t.D ++ o.bs, ao := ao, cap := c, M := t.M ++ o.bs }, hi, by rw [hiv]; go_num, rfl, rfl, ?_, hn0, by omega, ?_, ?_, (hbl.trans (h6.mono hst.hN)).setCell (p := ⟨ga, kk, none⟩) hst.geA _⟩
  rotate_left
  · show PSt _ _ _ _ _ _ _ _ _
    rw [hsz, map_set_g items kk t { t with D := t.D ++ o.bs, ao := ao, cap := c, M := t.M ++ o.bs } hk rfl]; exact hs
  · intro s hs
    have hm := cost_mono ops i (i + 1) (by omega)
    rcases List.mem_or_eq_of_mem_set hs with h | h
    · obtain ⟨h1, h2⟩ := hit s h
      exact ⟨h1, Nat.le_trans h2 hm⟩
    · obtain ⟨h1, h2⟩ := hit t ht
      subst h
      exact ⟨by show t.D ++ o.bs = t.M ++ o.bs; rw [h1], by show (t.M ++ o.bs).length ≤ _; rw [List.length_append]; omega⟩
  · show _ = _
    rw [List.length_set]; exact hn

end Go.Proofs.Ytkcbhikhcgobkaa
