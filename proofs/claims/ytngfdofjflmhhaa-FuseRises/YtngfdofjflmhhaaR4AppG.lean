
import Derived.Test.YtngfdofjflmhhaaR4SameW
/-! append(dst, src...) onto an own (or nil) slice of any element type. -/
namespace Go.Proofs.Ytngfdofjflmhhaa
open Go.RowKit

/-- What is known of a slice type and its elements. -/
structure ElT (T e size bytes : Nat) (z : Value) : Prop where
  und : Try.prog.underlying T = some (.slice e)
  info : (Try.prog.info? e).map (fun i => (i.zero, i.size, i.bytes)) = some (some z, size, bytes)
  zs : z.cells.size = size
  pos : 0 < size

theorem run_append_gen {T e size bytes : Nat} {z : Value} (E : ElT T e size bytes z) (N : Nat) (a0 w : World) (ty : TypeId) (aoD : Option Addr) (nD capD : Nat) (vs : List Value) (hown : w.ownsRow N e size (.slice aoD nD capD) nD vs) (hN : N ≤ w.heap.size) (hbel : Below N a0 w)
    (ao : Option Addr) (n cap : Nat) (news : List Value) (hn : news.length = n * size) (hb : IsL w ao news) (h1 : ∀ u ∈ news, u.oneCell' = true) (hnil : ao = none → cap = 0) (hm : nD + n ≤ maxLen) (hl : (nD + n) * bytes ≤ 140737488355328) :
    ∃ ao' cap' w', (Builtin.append_ #[T, T] ty #[.slice aoD nD capD, .slice ao n cap]).run Try.prog w = .ok (.slice ao' (nD + n) cap') w' ∧ w'.ownsRow N e size (.slice ao' (nD + n) cap') (nD + n) (vs ++ news) ∧ Below N a0 w' ∧ w.heap.size ≤ w'.heap.size ∧ (∀ k, k < w.heap.size → (∀ g, aoD = some ⟨g, 0, none⟩ → k ≠ g) → w'.heap[k]? = w.heap[k]?) := by
  obtain ⟨i0, hi, hz0, hz1, hz2⟩ := info_parts E.info
  have some_case : ∀ ad : Addr, (∀ j u, news[j]? = some u → w.cell? (ad.add j) = some u) → ∃ ao' cap' w', (Builtin.append_ #[T, T] ty #[.slice aoD nD capD, .slice (some ad) n cap]).run Try.prog w = .ok (.slice ao' (nD + n) cap') w' ∧ w'.ownsRow N e size (.slice ao' (nD + n) cap') (nD + n) (vs ++ news) ∧ Below N a0 w' ∧ w.heap.size ≤ w'.heap.size ∧ (∀ k, k < w.heap.size → (∀ g, aoD = some ⟨g, 0, none⟩ → k ≠ g) → w'.heap[k]? = w.heap[k]?) := by
    intro ad hnews
    obtain ⟨v', w', r1, r2, r3, _⟩ := run_append_own (P := Try.prog) w N T ty e i0 z size bytes E.und hi hz0 hz1 hz2 E.zs E.pos _ nD vs hown ad n cap news hn hnews h1 hm hl hN
    have hform : ∃ ao' cap', v' = .slice ao' (nD + n) cap' := by
      rcases r2.2 with ⟨e1, e0⟩ | ⟨g, c, cur, e1, _⟩
      · exact ⟨none, 0, by rw [e1, e0]⟩
      · exact ⟨_, _, e1⟩
    obtain ⟨ao', cap', rfl⟩ := hform
    refine ⟨ao', cap', w', r1, r2, hbel.grown r3 hN (fun k hk => (hown.lt k hk).1), r3.size, fun k hk hne => r3.block k hk (fun e1 => ?_)⟩
    rcases hown.2 with ⟨e2, _⟩ | ⟨g, c, cur, e2, _⟩
    · rw [e2] at e1; simp [Value.ownBlock] at e1
    · injection e2 with e2
      rw [e2] at e1
      simp [Value.ownBlock] at e1
      exact hne g e2 e1
  rcases hb with rfl | ⟨B, off, rfl, hc⟩
  · have hn0 : n = 0 := by
      have hp := E.pos
      have h0 : n * size = 0 := by simpa using hn.symm
      rcases Nat.mul_eq_zero.1 h0 with h | h
      · exact h
      · omega
    cases ao with
    | none =>
      rw [hnil rfl, hn0]
      refine ⟨aoD, capD, w, ?_, by simpa using hown, hbel, Nat.le_refl _, fun _ _ _ => rfl⟩
      have := run_append_owned_none (P := Try.prog) (w := w) N T ty e i0 size E.und hi _ nD vs hown
      simpa using this
    | some ad => exact some_case ad (by simp)
  · refine some_case _ ?_
    intro j u hu
    rw [Addr.add_mid]
    exact hc j u hu

theorem step_append_gen {T e size bytes : Nat} {z : Value} (E : ElT T e size bytes z) {ops : Array Oper} {o : Oper} {a : Act} {w : World} {K : Act → World → Prop} {Q : Exit → Act → World → Prop} {X : Prop} (hgd : o.guard = none) (s x : Operand)
    (ho : o.op = .call { callee := .builtin .append, args := #[s, x], argTypes := #[T, T] })
    (N : Nat) (a0 : World) (aoD : Option Addr) (nD capD : Nat) (vs : List Value) (hs : a.eval s = .slice aoD nD capD) (hown : w.ownsRow N e size (.slice aoD nD capD) nD vs) (hN : N ≤ w.heap.size) (hbel : Below N a0 w)
    (ao : Option Addr) (n cap : Nat) (news : List Value) (hx : a.eval x = .slice ao n cap) (hn : news.length = n * size) (hb : IsL w ao news) (h1 : ∀ u ∈ news, u.oneCell' = true) (hnil : ao = none → cap = 0) (hm : nD + n ≤ maxLen) (hl : (nD + n) * bytes ≤ 140737488355328)
    (h : ∀ ao' cap' w', w'.ownsRow N e size (.slice ao' (nD + n) cap') (nD + n) (vs ++ news) → Below N a0 w' → w.heap.size ≤ w'.heap.size → (∀ k, k < w.heap.size → (∀ g, aoD = some ⟨g, 0, none⟩ → k ≠ g) → w'.heap[k]? = w.heap[k]?) → K (a.put o.dst (.slice ao' (nD + n) cap')) w') :
    if Region.wanted o (yielded ops a.tmps) = true then Oper.wp Try.prog o a w K Q else X := by
  have hw : Region.wanted o (yielded ops a.tmps) = true := by simp [Region.wanted, hgd]
  rw [if_pos hw]
  obtain ⟨ao', cap', w', hrun, h2, h3, h4, h5⟩ := run_append_gen E N a0 w o.type aoD nD capD vs hown hN hbel ao n cap news hn hb h1 hnil hm hl
  unfold Oper.wp execOp
  simp only [ho, resolve, invoke, builtin, Sem.run_bind, Sem.run_pure, Result.andThen_ok, List.map_toArray, List.map_cons, List.map_nil, hs, hx, hrun]
  exact h ao' cap' w' h2 h3 h4 h5

theorem wpList_append_gen {T e size bytes : Nat} {z : Value} (E : ElT T e size bytes z) {ops : Array Oper} {rest : List Oper} {o : Oper} {a : Act} {w : World} {Q : Exit → Act → World → Prop} (hgd : o.guard = none) (s x : Operand)
    (ho : o.op = .call { callee := .builtin .append, args := #[s, x], argTypes := #[T, T] })
    (N : Nat) (a0 : World) (aoD : Option Addr) (nD capD : Nat) (vs : List Value) (hs : a.eval s = .slice aoD nD capD) (hown : w.ownsRow N e size (.slice aoD nD capD) nD vs) (hN : N ≤ w.heap.size) (hbel : Below N a0 w)
    (ao : Option Addr) (n cap : Nat) (news : List Value) (hx : a.eval x = .slice ao n cap) (hn : news.length = n * size) (hb : IsL w ao news) (h1 : ∀ u ∈ news, u.oneCell' = true) (hnil : ao = none → cap = 0) (hm : nD + n ≤ maxLen) (hl : (nD + n) * bytes ≤ 140737488355328)
    (h : ∀ ao' cap' w', w'.ownsRow N e size (.slice ao' (nD + n) cap') (nD + n) (vs ++ news) → Below N a0 w' → w.heap.size ≤ w'.heap.size → (∀ k, k < w.heap.size → (∀ g, aoD = some ⟨g, 0, none⟩ → k ≠ g) → w'.heap[k]? = w.heap[k]?) → wpList Try.prog ops Q rest (a.put o.dst (.slice ao' (nD + n) cap')) w') : wpList Try.prog ops Q (o :: rest) a w := by
  refine wpList_plain hgd fun K hK => ?_
  obtain ⟨ao', cap', w', hrun, h2, h3, h4, h5⟩ := run_append_gen E N a0 w o.type aoD nD capD vs hown hN hbel ao n cap news hn hb h1 hnil hm hl
  unfold Oper.wp execOp
  simp only [ho, resolve, invoke, builtin, Sem.run_bind, Sem.run_pure, Result.andThen_ok, List.map_toArray, List.map_cons, List.map_nil, hs, hx, hrun]
  exact hK _ _ (h ao' cap' w' h2 h3 h4 h5)

theorem el_ints : ElT 25 3 1 8 (.int .i64 0) := ⟨Try.underlying25, by kernel_rfl, rfl, by omega⟩
theorem el_bools : ElT 26 4 1 1 (.bool false) := ⟨Try.underlying26, by kernel_rfl, rfl, by omega⟩
theorem el_cells : ElT 70 72 32 32 (.agg ((List.replicate 32 (0 : By)).map B8).toArray) := ⟨Try.underlying70, by kernel_rfl, rfl, by omega⟩
theorem el_pages : ElT 24 70 1 24 (.slice none 0 0) := ⟨Try.underlying24, by kernel_rfl, rfl, by omega⟩

/-- A slice without elements, made new. -/
theorem owns_empty (N : Nat) (w : World) (h : N ≤ w.heap.size) (e size : Nat) : (w.alloc (.cells #[] e)).ownsRow N e size (.slice (some ⟨w.heap.size, 0, none⟩) 0 0) 0 [] :=
  ⟨by simp, .inr ⟨w.heap.size, 0, #[], rfl, h, heap_alloc_new w _, by simp, by unfold maxLen; omega, by simp, by simp⟩⟩

/-- The reference's own state, as a view. -/
theorem RAt.view {w : World} {F : RF} {s : RS} (h : RAt w F s) : StV w ⟨some ⟨F.pB, 0, none⟩, F.pcap, some ⟨F.eB, 0, none⟩, F.ecap, some ⟨F.bB, 0, none⟩, F.bcap⟩ s.st := by
  refine ⟨⟨F.ps.map (fun q => (some ⟨q.1, 0, none⟩, q.2)), by rw [List.length_map]; exact h.len, .inr ⟨F.pB, 0, rfl, fun j v hv => ?_⟩, fun i q p hq hp => ?_⟩, .inr ⟨F.eB, 0, rfl, fun j v hv => by rw [Nat.zero_add]; exact h.er.cell j v hv⟩, .inr ⟨F.bB, 0, rfl, fun j v hv => by rw [Nat.zero_add]; exact h.bl.cell j v hv⟩, h.ok.by8⟩
  · rw [Nat.zero_add]
    refine h.pg.cell j v ?_
    rw [← hv, List.getElem?_zipWith, List.getElem?_zipWith, List.getElem?_map]
    rw [show s.st.pages = s.pages from rfl]
    cases F.ps[j]? <;> cases s.pages[j]? <;> rfl
  · rw [List.getElem?_map] at hq
    cases hf : F.ps[i]? with
    | none => rw [hf] at hq; cases hq
    | some q0 =>
      rw [hf] at hq
      injection hq with hq
      subst hq
      exact .inr ⟨q0.1, 0, rfl, fun j v hv => by rw [Nat.zero_add]; exact (h.page i q0 p hf hp).cell j v hv⟩
end Go.Proofs.Ytngfdofjflmhhaa
