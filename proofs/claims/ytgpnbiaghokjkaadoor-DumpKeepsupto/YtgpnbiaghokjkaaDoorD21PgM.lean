
import Derived.Test.YtgpnbiaghokjkaaDoorD21On
import Derived.Great.BuildSlice
/-! Layer 21, the document's answer: pages of cells in memory of their own. -/
namespace Go.Proofs.YtgpnbiaghokjkaaDoor
open Go.RowKit
set_option linter.unusedVariables false
set_option linter.unusedSimpArgs false
set_option maxRecDepth 100000

theorem KeptL.row {B : List Nat} {w w' : World} {b t : Nat} {cs : List Value} (h : KeptL B w w') (hr : Row w b t cs) (hb : b ∉ B) : Row w' b t cs := (h.block b hr.lt hb).trans hr
/-- A slice of cells in memory of its own. -/
def OwnC (N : Nat) (w : World) (v : Value) (gs : List (List By)) : Prop := w.ownsRow N 56 32 v gs.length (gs.flatten.map B8) ∧ N ≤ w.heap.size ∧ ∀ x ∈ gs, x.length = 32
section
variable {N : Nat} {w w' : World} {v : Value} {gs : List (List By)}
theorem OwnC.keep (h : OwnC N w v gs) (hb : Below w.heap.size w w') : OwnC N w' v gs := by
  refine ⟨⟨h.1.1, ?_⟩, Nat.le_trans h.2.1 hb.size, h.2.2⟩
  rcases h.1.2 with h1 | ⟨g, c, cur, e, hg, hh, hr⟩
  · exact .inl h1
  · exact .inr ⟨g, c, cur, e, hg, (hb.block g (Array.getElem?_eq_some_iff.1 hh).1).trans hh, hr⟩
theorem OwnC.kept {B : List Nat} (h : OwnC N w v gs) (kl : KeptL B w w') (hB : ∀ b ∈ B, b < N) : OwnC N w' v gs := by
  refine ⟨⟨h.1.1, ?_⟩, Nat.le_trans h.2.1 kl.size, h.2.2⟩
  rcases h.1.2 with h1 | ⟨g, c, cur, e, hg, hh, hr⟩
  · exact .inl h1
  · exact .inr ⟨g, c, cur, e, hg, (kl.block g (Array.getElem?_eq_some_iff.1 hh).1 (fun hm => by have := hB g hm; omega)).trans hh, hr⟩
theorem OwnC.mono {M : Nat} (h : OwnC N w v gs) (hM : M ≤ N) : OwnC M w v gs := by
  refine ⟨⟨h.1.1, ?_⟩, Nat.le_trans hM h.2.1, h.2.2⟩
  rcases h.1.2 with h1 | ⟨g, c, cur, e, hg, hr⟩
  · exact .inl h1
  · exact .inr ⟨g, c, cur, e, Nat.le_trans hM hg, hr⟩
theorem OwnC.form (h : OwnC N w v gs) : ∃ ao c, v = .slice ao gs.length c := by
  rcases h.1.2 with ⟨e, e0⟩ | ⟨g, c, cur, e, _⟩
  · exact ⟨none, 0, by rw [e, e0]⟩
  · exact ⟨_, _, e⟩
/-- Where it lies, known whole. -/
theorem OwnC.row (h : OwnC N w v gs) (h0 : 0 < gs.length) : ∃ G c cs, v = .slice (some ⟨G, 0, none⟩) gs.length c ∧ N ≤ G ∧ Row w G 56 cs ∧ gs.length ≤ c ∧ c ≤ maxLen ∧ cs.length = c * 32 ∧ cs.take (gs.length * 32) = gs.flatten.map B8 := by
  rcases h.1.2 with ⟨e, e0⟩ | ⟨g, c, cur, e, hg, hh, hnc, hcm, hcs, ht⟩
  · exfalso
    have h1 := h.1.1
    rw [e0] at h1
    simp at h1
    omega
  · exact ⟨g, c, cur.toList, e, hg, by show w.heap[g]? = _; rw [hh], hnc, hcm, by rw [Array.length_toList]; exact hcs, ht⟩
end
theorem flat_len32 (gs : List (List By)) (h : ∀ x ∈ gs, x.length = 32) : gs.flatten.length = gs.length * 32 := by
  rw [flat_len gs h, Nat.mul_comm]
theorem OwnC.of_row {N : Nat} {w : World} {gs : List (List By)} {G c : Nat} {cs : List Value} (h8 : ∀ x ∈ gs, x.length = 32) (hN : N ≤ G) (hr : Row w G 56 cs) (hc : gs.length ≤ c) (hm : c ≤ maxLen) (hl : cs.length = c * 32) (ht : cs.take (gs.length * 32) = gs.flatten.map B8) : OwnC N w (.slice (some ⟨G, 0, none⟩) gs.length c) gs :=
  ⟨⟨by rw [List.length_map, flat_len32 gs h8], .inr ⟨G, c, cs.toArray, rfl, hN, hr, hc, hm, by simpa using hl, by simpa using ht⟩⟩, by have := hr.lt; omega, h8⟩
theorem flat_setAll (gs : List (List By)) (h : ∀ x ∈ gs, x.length = 32) (n : Nat) (x : List By) (hn : n < gs.length) (hx : x.length = 32) :
    (gs.set n x).flatten = gs.flatten.take (n * 32) ++ x ++ gs.flatten.drop (n * 32 + 32) := by
  induction gs generalizing n with
  | nil => simp at hn
  | cons y gs ih =>
    have hy : y.length = 32 := h y (List.mem_cons_self ..)
    cases n with
    | zero => rw [List.set_cons_zero, List.flatten_cons, List.flatten_cons, List.drop_append, hy, Nat.zero_mul, List.take_zero, Nat.zero_add, Nat.sub_self, List.drop_zero, List.drop_of_length_le (by omega)]; simp
    | succ n =>
      rw [List.set_cons_succ, List.flatten_cons, List.flatten_cons, ih (fun z hz => h z (List.mem_cons_of_mem _ hz)) n (by simpa using hn), List.take_append, List.drop_append, hy, List.take_of_length_le (l := y) (by omega), List.drop_of_length_le (l := y) (by omega), show (n + 1) * 32 - 32 = n * 32 by omega, show (n + 1) * 32 + 32 - 32 = n * 32 + 32 by omega]
      simp
/-- A cell stored. -/
theorem OwnC.store {N : Nat} {w' : World} {gs : List (List By)} {G c n : Nat} {cs : List Value} {x : List By} (h8 : ∀ x ∈ gs, x.length = 32) (hN : N ≤ G) (hc : gs.length ≤ c) (hm : c ≤ maxLen) (hl : cs.length = c * 32) (ht : cs.take (gs.length * 32) = gs.flatten.map B8) (hn : n < gs.length) (hx : x.length = 32)
    (hr : Row w' G 56 (cs.take (n * 32) ++ x.map B8 ++ cs.drop (n * 32 + (x.map B8).length))) : OwnC N w' (.slice (some ⟨G, 0, none⟩) gs.length c) (gs.set n x) := by
  rw [List.length_map, hx] at hr
  have h8' : ∀ y ∈ gs.set n x, y.length = 32 := fun y hy => by
    rcases List.mem_or_eq_of_mem_set hy with h | h
    · exact h8 y h
    · rw [h]; exact hx
  have := OwnC.of_row (gs := gs.set n x) (c := c) h8' hN hr (by rw [List.length_set]; exact hc) hm (by simp only [List.length_append, List.length_take, List.length_drop, List.length_map, hx]; omega) (by
    rw [List.length_set, flat_setAll gs h8 n x hn hx]
    have e1 : cs.take (n * 32) = (gs.flatten.take (n * 32)).map B8 := by
      rw [List.map_take, ← ht, List.take_take, Nat.min_eq_left (by omega)]
    have e2 : (cs.drop (n * 32 + 32)).take (gs.length * 32 - (n * 32 + 32)) = (gs.flatten.drop (n * 32 + 32)).map B8 := by
      rw [List.map_drop, ← ht, List.drop_take]
    have l1 : (cs.take (n * 32)).length = n * 32 := by rw [List.length_take]; omega
    have l2 : (cs.take (n * 32) ++ x.map B8).length = n * 32 + 32 := by rw [List.length_append, l1, List.length_map, hx]
    rw [List.take_append, l2, List.take_of_length_le (by rw [l2]; omega), e2, e1, List.map_append, List.map_append])
  rw [List.length_set] at this
  exact this
theorem ownC_empty (N : Nat) (w : World) (h : N ≤ w.heap.size) : OwnC N (w.alloc (.cells #[] 56)) (.slice (some ⟨w.heap.size, 0, none⟩) 0 0) [] := ⟨owns_empty N w h 56 32, by simp; omega, fun x hx => by cases hx⟩
/-- A slice of one cell, made of a cell that is a letter. -/
theorem wpList_buildC {ops : Array Oper} {rest : List Oper} {o : Oper} {a : Act} {w : World} {Q : Exit → Act → World → Prop} (hg : o.guard = none) (y : Operand) (ho : o.op = .buildSlice 57 1 #[(0, y)])
    (xs : List Value) (hx : xs.length = 32) (hy : a.eval y = .agg xs.toArray)
    (h : wpList Tryd.prog ops Q rest (a.put o.dst (.slice (some ⟨w.heap.size, 0, none⟩) 1 1)) (w.alloc (.cells xs.toArray 56))) : wpList Tryd.prog ops Q (o :: rest) a w := by
  obtain ⟨i0, hi, hz0, hz1, hz2⟩ := info_parts el_cells.info
  refine wpList_buildSlice hg 57 56 1 #[(0, y)] ho xs.toArray i0 _ Tryd.underlying57 hi hz0 (by rw [hz1]; decide) (by rw [hz1]; decide) ?_ h
  have h1 := Great.fill_whole (s := 32) (by decide) [Value.agg xs.toArray] ((Array.range (1 * 32)).map ((Value.agg ((List.replicate 32 (0 : By)).map B8).toArray).cells[· % (Value.agg ((List.replicate 32 (0 : By)).map B8).toArray).cells.size]!)) (fun v hv => by rw [List.mem_singleton.1 hv]; simpa [Value.cells] using hx) (by simp)
  rw [hz1]
  simp only [List.map_toArray, List.map_cons, List.map_nil, hy]
  simpa [Value.cells] using h1
/-- append of one cell. -/
theorem wpList_appC {ops : Array Oper} {rest : List Oper} {o : Oper} {a : Act} {w : World} {Q : Exit → Act → World → Prop} (hgd : o.guard = none) (s y : Operand)
    (ho : o.op = .call { callee := .builtin .append, args := #[s, y], argTypes := #[57, 57] })
    (N : Nat) (a0 : World) (v : Value) (gs : List (List By)) (x : List By) (hx : x.length = 32) (g0 : Nat) (hg0 : g0 = w.heap.size) (hs : a.eval s = v) (hy : a.eval y = .slice (some ⟨g0, 0, none⟩) 1 1)
    (hown : OwnC N w v gs) (hbel : Below N a0 w) (hm : gs.length ≤ 100000)
    (h : ∀ ao' c' w', OwnC N w' (.slice ao' (gs.length + 1) c') (gs ++ [x]) → Below N a0 w' → wpList Tryd.prog ops Q rest (a.put o.dst (.slice ao' (gs.length + 1) c')) w') :
    wpList Tryd.prog ops Q (o :: rest) a (w.alloc (.cells (x.map B8).toArray 56)) := by
  subst hg0
  obtain ⟨ao, c, rfl⟩ := hown.form
  have hr := Row.at w 56 (x.map B8) _ _ rfl rfl
  refine wpList_append_gen el_cells hgd s y ho N a0 ao gs.length c (gs.flatten.map B8) hs (hown.1.alloc _) (by have := hown.2.1; simp; omega) (hbel.alloc hown.2.1 _) (some ⟨w.heap.size, 0, none⟩) 1 1 (x.map B8) hy (by rw [List.length_map, hx]) (.inr ⟨_, _, rfl, fun j u' hu' => by rw [Nat.zero_add]; exact hr.cell j u' hu'⟩) (B8_one _) (fun e => by cases e) (by unfold maxLen; omega) (by omega) ?_
  intro ao' cap' w' h1 h2 h3 h4
  refine h ao' cap' w' ⟨?_, ?_, ?_⟩ h2
  · rw [List.length_append, List.flatten_append, List.map_append]
    simpa using h1
  · have := hown.2.1; simp at h3; omega
  · intro z hz
    rcases List.mem_append.1 hz with hz | hz
    · exact hown.2.2 z hz
    · rw [List.mem_singleton.1 hz]; exact hx
end Go.Proofs.YtgpnbiaghokjkaaDoor
