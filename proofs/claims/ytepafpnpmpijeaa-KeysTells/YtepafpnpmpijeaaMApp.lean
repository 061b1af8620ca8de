
import Derived.Test.YtepafpnpmpijeaaRefOf
import Derived.Deep.RegionLaw
import Derived.Laws.BytesString
namespace Go.Proofs.Ytepafpnpmpijeaa
open Go.RowKit
set_option maxRecDepth 100000

/-- 'append(dst, src...)' where dst is the call's own (or nil) and src holds known bytes. -/
theorem run_append_more (N : Nat) (a0 w : World) (ty : TypeId) (aoD : Option Addr) (nD capD : Nat) (m : List By) (hD : m.length = nD) (hown : Own N w (.slice aoD nD capD) m) (hbel : Below N a0 w)
    (ao : Option Addr) (n cap : Nat) (bs : List By) (hn : bs.length = n) (hb : IsB w ao bs) (hnil : ao = none → cap = 0) (hl : nD + n ≤ 140737488353280) :
    ∃ ao' cap' w', (Builtin.append_ #[36, 36] ty #[.slice aoD nD capD, .slice ao n cap]).run Try.prog w = .ok (.slice ao' (nD + n) cap') w' ∧ Own N w' (.slice ao' (nD + n) cap') (m ++ bs) ∧ Below N a0 w' ∧ w.heap.size ≤ w'.heap.size ∧ (∀ k, k < w.heap.size → k < N → w'.heap[k]? = w.heap[k]?) := by
  obtain ⟨i0, hi, hz0, hz1, hz2⟩ := info_parts Try.info5
  subst hn
  subst hD
  have hN := hown.2
  have some_case : ∀ ad : Addr, (∀ j u, (bs.map B8)[j]? = some u → w.cell? (ad.add j) = some u) → ∃ ao' cap' w', (Builtin.append_ #[36, 36] ty #[.slice aoD m.length capD, .slice (some ad) bs.length cap]).run Try.prog w = .ok (.slice ao' (m.length + bs.length) cap') w' ∧ Own N w' (.slice ao' (m.length + bs.length) cap') (m ++ bs) ∧ Below N a0 w' ∧ w.heap.size ≤ w'.heap.size ∧ (∀ k, k < w.heap.size → k < N → w'.heap[k]? = w.heap[k]?) := by
    intro ad hnews
    obtain ⟨v', w', h1, h2, h3, _⟩ := run_append_own (P := Try.prog) w N 36 ty 5 i0 (.int .u8 0) 1 1 Try.underlying36 hi hz0 hz1 hz2 rfl (by decide) _ m.length (m.map B8) hown.1 ad bs.length cap (bs.map B8) (by simp) hnews (B8_one bs) (by unfold maxLen; omega) (by omega) hN
    have hbk : ∀ k, k < w.heap.size → k < N → w'.heap[k]? = w.heap[k]? := fun k hk hkN => h3.block k hk (fun e => by have := (hown.1.lt k e.symm).1; omega)
    have hform : ∃ ao' cap', v' = .slice ao' (m.length + bs.length) cap' := by
      rcases h2.2 with ⟨e, e0⟩ | ⟨g, c, cur, e, _⟩
      · exact ⟨none, 0, by rw [e, e0]⟩
      · exact ⟨_, _, e⟩
    obtain ⟨ao', cap', rfl⟩ := hform
    refine ⟨ao', cap', w', h1, ⟨?_, Nat.le_trans hN h3.size⟩, hbel.grown h3 hN (fun k hk => (hown.1.lt k hk).1), h3.size, hbk⟩
    rw [List.length_append, List.map_append]; exact h2
  rcases hb with rfl | ⟨B, off, rfl, hc⟩
  · cases ao with
    | none =>
      rw [hnil rfl]
      refine ⟨aoD, capD, w, ?_, ?_, hbel, Nat.le_refl _, fun _ _ _ => rfl⟩
      · have := run_append_owned_none (P := Try.prog) (w := w) N 36 ty 5 i0 1 Try.underlying36 hi _ m.length (m.map B8) hown.1
        simpa using this
      · simpa using hown
    | some ad => exact some_case ad (by simp)
  · refine some_case _ ?_
    intro j u hu
    rw [Addr.add_mid]
    rw [List.getElem?_map] at hu
    cases hj : bs[j]? with
    | none => rw [hj] at hu; cases hu
    | some v => rw [hj] at hu; injection hu with hu; subst hu; exact hc j v hj

theorem step_append_more {ops : Array Oper} {o : Oper} {a : Act} {w : World} {K : Act → World → Prop} {Q : Exit → Act → World → Prop} {E : Prop} (hgd : o.guard = none) (s x : Operand)
    (ho : o.op = .call { callee := .builtin .append, args := #[s, x], argTypes := #[36, 36] })
    (N : Nat) (a0 : World) (aoD : Option Addr) (nD capD : Nat) (m : List By) (hs : a.eval s = .slice aoD nD capD) (hD : m.length = nD) (hown : Own N w (.slice aoD nD capD) m) (hbel : Below N a0 w)
    (ao : Option Addr) (n cap : Nat) (bs : List By) (hx : a.eval x = .slice ao n cap) (hn : bs.length = n) (hb : IsB w ao bs) (hnil : ao = none → cap = 0) (hl : nD + n ≤ 140737488353280)
    (h : ∀ ao' cap' w', Own N w' (.slice ao' (nD + n) cap') (m ++ bs) → Below N a0 w' → K (a.put o.dst (.slice ao' (nD + n) cap')) w') :
    if Region.wanted o (yielded ops a.tmps) = true then Oper.wp Try.prog o a w K Q else E := by
  have hw : Region.wanted o (yielded ops a.tmps) = true := by simp [Region.wanted, hgd]
  rw [if_pos hw]
  obtain ⟨ao', cap', w', hrun, h2, h3, _⟩ := run_append_more N a0 w o.type aoD nD capD m hD hown hbel ao n cap bs hn hb hnil hl
  unfold Oper.wp execOp
  simp only [ho, resolve, invoke, builtin, Sem.run_bind, Sem.run_pure, Result.andThen_ok, List.map_toArray, List.map_cons, List.map_nil, hs, hx, hrun]
  exact h ao' cap' w' h2 h3

/-- The string of bytes. -/
def strOf (bs : List By) : ByteArray := (bs.map fun b => (b.toNat : Int)).foldl (fun r n => r.push (UInt8.ofNat n.toNat)) ByteArray.empty

theorem conv_bytes (w : World) (ao : Option Addr) (n cap : Nat) (bs : List By) (hn : bs.length = n) (hb : IsB w ao bs) :
    (convert 36 9 (.slice ao n cap)).run Try.prog w = .ok (.string (strOf bs)) w := by
  subst hn
  rw [run_convert_bytes_string w 36 9 5 ao bs.length cap Try.underlying36 Try.underlying5 Try.underlying9]
  have key : ∀ a : Addr, (∀ j v, (bs.map B8)[j]? = some v → w.cell? (a.add j) = some v) → (Conv.bytesToString (.slice (some a) bs.length cap)).run Try.prog w = .ok (.string (strOf bs)) w := by
    intro a h
    have hl := run_loadCells_list (P := Try.prog) w a (bs.map B8) h
    rw [List.length_map] at hl
    have e : bs.map B8 = (bs.map fun b => (b.toNat : Int)).map (Value.int .u8) := by
      rw [List.map_map]; rfl
    rw [e] at hl
    exact run_bytesToString w a bs.length cap _ hl
  rcases hb with rfl | ⟨B, off, rfl, hc⟩
  · cases ao with
    | none => rfl
    | some a => exact key a (by simp)
  · refine key _ ?_
    intro j u hu
    rw [Addr.add_mid]
    rw [List.getElem?_map] at hu
    cases hj : bs[j]? with
    | none => rw [hj] at hu; cases hu
    | some v => rw [hj] at hu; injection hu with hu; subst hu; exact hc j v hj

theorem wpList_append_more {ops : Array Oper} {rest : List Oper} {o : Oper} {a : Act} {w : World} {Q : Exit → Act → World → Prop} (hgd : o.guard = none) (s x : Operand)
    (ho : o.op = .call { callee := .builtin .append, args := #[s, x], argTypes := #[36, 36] })
    (N : Nat) (a0 : World) (aoD : Option Addr) (nD capD : Nat) (m : List By) (hs : a.eval s = .slice aoD nD capD) (hD : m.length = nD) (hown : Own N w (.slice aoD nD capD) m) (hbel : Below N a0 w)
    (ao : Option Addr) (n cap : Nat) (bs : List By) (hx : a.eval x = .slice ao n cap) (hn : bs.length = n) (hb : IsB w ao bs) (hnil : ao = none → cap = 0) (hl : nD + n ≤ 140737488353280)
    (h : ∀ ao' cap' w', Own N w' (.slice ao' (nD + n) cap') (m ++ bs) → Below N a0 w' → wpList Try.prog ops Q rest (a.put o.dst (.slice ao' (nD + n) cap')) w') : wpList Try.prog ops Q (o :: rest) a w := by
  refine wpList_plain hgd fun K hK => ?_
  obtain ⟨ao', cap', w', hrun, h2, h3, _⟩ := run_append_more N a0 w o.type aoD nD capD m hD hown hbel ao n cap bs hn hb hnil hl
  unfold Oper.wp execOp
  simp only [ho, resolve, invoke, builtin, Sem.run_bind, Sem.run_pure, Result.andThen_ok, List.map_toArray, List.map_cons, List.map_nil, hs, hx, hrun]
  exact hK _ _ (h ao' cap' w' h2 h3)

theorem own_cap {N : Nat} {w : World} {ao : Option Addr} {n c : Nat} {m : List By} (h : Own N w (.slice ao n c) m) : n ≤ c := by
  rcases h.1.2 with ⟨e, _⟩ | ⟨g, cap, cur, e, _, _, h4, _⟩
  · injection e with e1 e2 e3; omega
  · injection e with e1 e2 e3; omega
theorem own_nil (N : Nat) (w : World) (h : N ≤ w.heap.size) : Own N w (.slice none 0 0) [] := ⟨World.ownsRow_nil _ _ _ _, h⟩
/-- A slice without elements, made new. -/
theorem own_empty (N : Nat) (w : World) (h : N ≤ w.heap.size) (C : Array Value) (hC : C.size = 0) : Own N (w.alloc (.cells C 5)) (.slice (some ⟨w.heap.size, 0, none⟩) 0 0) [] := by
  have hC' : C = #[] := Array.eq_empty_of_size_eq_zero hC
  subst hC'
  refine ⟨⟨by simp, .inr ⟨w.heap.size, 0, #[], rfl, h, heap_alloc_new w _, by simp, by unfold maxLen; omega, by simp, by simp⟩⟩, by simp; omega⟩

theorem own_isb {N : Nat} {w : World} {ao : Option Addr} {n c : Nat} {m : List By} (h : Own N w (.slice ao n c) m) :
    m.length = n ∧ (ao = none → c = 0) ∧ m.length ≤ c ∧ (m = [] ∨ ∃ B off, ao = some ⟨B, off, none⟩ ∧ N ≤ B ∧ B < w.heap.size ∧ ∀ j v, m[j]? = some v → w.cell? ⟨B, off + j, none⟩ = some (B8 v)) := by
  have h1 := h.1
  rcases h.1.2 with ⟨e, e2⟩ | ⟨g, cap, cur, e, h2, h3, h4, _⟩
  · injection e with e1 e3 e4
    subst e4
    refine ⟨by omega, fun _ => rfl, by omega, .inl (List.length_eq_zero_iff.1 e2)⟩
  · injection e with e1 e3 e4
    subst e1
    subst e4
    refine ⟨e3.symm, (fun hh => by cases hh), h4, .inr ⟨g, 0, rfl, h2, (h1.lt g rfl).2, ?_⟩⟩
    intro j v hj
    have hjl : j < m.length := (List.getElem?_eq_some_iff.1 hj).1
    subst e3
    rw [Nat.zero_add, h1.cellAt j (by omega), List.getElem?_map, hj]; rfl

theorem own_IsB {N : Nat} {w : World} {ao : Option Addr} {n c : Nat} {m : List By} (h : Own N w (.slice ao n c) m) : IsB w ao m := by
  rcases (own_isb h).2.2.2 with h1 | ⟨B, off, h1, _, _, h2⟩
  · exact .inl h1
  · exact .inr ⟨B, off, h1, h2⟩
theorem own_form {N : Nat} {w : World} {v : Value} {m : List By} (h : Own N w v m) : ∃ ao c, v = .slice ao m.length c := by
  rcases h.1.2 with ⟨e, e0⟩ | ⟨g, c, cur, e, _⟩
  · exact ⟨none, 0, by rw [e, e0]⟩
  · exact ⟨_, _, e⟩
/-- What leaves all blocks from N on alone that are there leaves the row. -/
theorem Own.keep {N : Nat} {w w' : World} {v : Value} {m : List By} (h : Own N w v m) (hb : Below w.heap.size w w') : Own N w' v m := by
  refine ⟨⟨h.1.1, ?_⟩, Nat.le_trans h.2 hb.size⟩
  rcases h.1.2 with hn | ⟨g, cap, cur, e, h1, h2, h3⟩
  · exact .inl hn
  · refine .inr ⟨g, cap, cur, e, h1, ?_, h3⟩
    have hl : g < w.heap.size := (Array.getElem?_eq_some_iff.1 h2).1
    exact (hb.block g hl).trans h2
end Go.Proofs.Ytepafpnpmpijeaa
