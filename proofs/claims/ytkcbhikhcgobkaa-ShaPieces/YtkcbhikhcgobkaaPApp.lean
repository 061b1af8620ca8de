import Derived.Test.YtkcbhikhcgobkaaPMem
import Derived.Deep.RegionLaw
import Derived.Laws.BytesString
namespace Go.Proofs.Ytkcbhikhcgobkaa
open Go.RowKit

/-- 'append(dst, src...)' where dst is the call's own (or nil) and src holds known bytes. -/
theorem run_append_more (N : Nat) (a0 w : World) (ty : TypeId) (aoD : Option Addr) (nD capD : Nat) (m : List By) (hD : m.length = nD) (hown : Own N w (.slice aoD nD capD) m) (hbel : Below N a0 w)
    (ao : Option Addr) (n cap : Nat) (bs : List By) (hn : bs.length = n) (hb : IsB w ao bs) (hnil : ao = none → cap = 0) (hl : nD + n ≤ 140737488351232) :
    ∃ ao' cap' w', (Builtin.append_ #[22, 22] ty #[.slice aoD nD capD, .slice ao n cap]).run Try.prog w = .ok (.slice ao' (nD + n) cap') w' ∧ Own N w' (.slice ao' (nD + n) cap') (m ++ bs) ∧ Below N a0 w' ∧ w.heap.size ≤ w'.heap.size ∧ (∀ k, k < w.heap.size → k < N → w'.heap[k]? = w.heap[k]?) := by
  obtain ⟨i0, hi, hz0, hz1, hz2⟩ := info_parts Try.info5
  subst hn
  subst hD
  have hN := hown.2
  have some_case : ∀ ad : Addr, (∀ j u, (bs.map B8)[j]? = some u → w.cell? (ad.add j) = some u) → ∃ ao' cap' w', (Builtin.append_ #[22, 22] ty #[.slice aoD m.length capD, .slice (some ad) bs.length cap]).run Try.prog w = .ok (.slice ao' (m.length + bs.length) cap') w' ∧ Own N w' (.slice ao' (m.length + bs.length) cap') (m ++ bs) ∧ Below N a0 w' ∧ w.heap.size ≤ w'.heap.size ∧ (∀ k, k < w.heap.size → k < N → w'.heap[k]? = w.heap[k]?) := by
    intro ad hnews
    obtain ⟨v', w', h1, h2, h3, _⟩ := run_append_own (P := Try.prog) w N 22 ty 5 i0 (.int .u8 0) 1 1 Try.underlying22 hi hz0 hz1 hz2 rfl (by decide) _ m.length (m.map B8) hown.1 ad bs.length cap (bs.map B8) (by simp) hnews (B8_one bs) (by unfold maxLen; omega) (by omega) hN
    have hbk : ∀ k, k < w.heap.size → k < N → w'.heap[k]? = w.heap[k]? := fun k hk hkN => h3.block k hk (fun e => by have := (hown.1.lt k e.symm).1; omega)
    have hform : ∃ ao' cap', v' = .slice ao' (m.length + bs.length) cap' := by
      rcases h2.2 with ⟨e, e0⟩ | ⟨g, c, cur, e, _⟩
      · exact ⟨none, 0, by rw [e, e0]⟩
      · exact ⟨_, _, e⟩
    obtain ⟨ao', cap', rfl⟩ := hform
    refine ⟨ao', cap', w', h1, ⟨?_, Nat.le_trans hN h3.size⟩, hbel.grown h3 hN (fun k hk => (hown.1.lt k hk).1), h3.size, hbk⟩
    rw [List.length_append, List.map_append]; exact h2
  rcases hb with rfl | ⟨B, off, rfl, hc⟩
  · cases ao with
    | none =>
      rw [hnil rfl]
      refine ⟨aoD, capD, w, ?_, ?_, hbel, Nat.le_refl _, fun _ _ _ => rfl⟩
      · have := run_append_owned_none (P := Try.prog) (w := w) N 22 ty 5 i0 1 Try.underlying22 hi _ m.length (m.map B8) hown.1
        simpa using this
      · simpa using hown
    | some ad => exact some_case ad (by simp)
  · refine some_case _ ?_
    intro j u hu
    rw [Addr.add_mid]
    rw [List.getElem?_map] at hu
    cases hj : bs[j]? with
    | none => rw [hj] at hu; cases hu
    | some v => rw [hj] at hu; injection hu with hu; subst hu; exact hc j v hj

theorem step_append_more {ops : Array Oper} {o : Oper} {a : Act} {w : World} {K : Act → World → Prop} {Q : Exit → Act → World → Prop} {E : Prop} (hgd : o.guard = none) (s x : Operand)
    (ho : o.op = .call { callee := .builtin .append, args := #[s, x], argTypes := #[22, 22] })
    (N : Nat) (a0 : World) (aoD : Option Addr) (nD capD : Nat) (m : List By) (hs : a.eval s = .slice aoD nD capD) (hD : m.length = nD) (hown : Own N w (.slice aoD nD capD) m) (hbel : Below N a0 w)
    (ao : Option Addr) (n cap : Nat) (bs : List By) (hx : a.eval x = .slice ao n cap) (hn : bs.length = n) (hb : IsB w ao bs) (hnil : ao = none → cap = 0) (hl : nD + n ≤ 140737488351232)
    (h : ∀ ao' cap' w', Own N w' (.slice ao' (nD + n) cap') (m ++ bs) → Below N a0 w' → K (a.put o.dst (.slice ao' (nD + n) cap')) w') :
    if Region.wanted o (yielded ops a.tmps) = true then Oper.wp Try.prog o a w K Q else E := by
  have hw : Region.wanted o (yielded ops a.tmps) = true := by simp [Region.wanted, hgd]
  rw [if_pos hw]
  obtain ⟨ao', cap', w', hrun, h2, h3, _⟩ := run_append_more N a0 w o.type aoD nD capD m hD hown hbel ao n cap bs hn hb hnil hl
  unfold Oper.wp execOp
  simp only [ho, resolve, invoke, builtin, Sem.run_bind, Sem.run_pure, Result.andThen_ok, List.map_toArray, List.map_cons, List.map_nil, hs, hx, hrun]
  exact h ao' cap' w' h2 h3

/-- The string of bytes. -/
def strOf (bs : List By) : ByteArray := (bs.map fun b => (b.toNat : Int)).foldl (fun r n => r.push (UInt8.ofNat n.toNat)) ByteArray.empty

theorem conv_bytes (w : World) (ao : Option Addr) (n cap : Nat) (bs : List By) (hn : bs.length = n) (hb : IsB w ao bs) :
    (convert 22 9 (.slice ao n cap)).run Try.prog w = .ok (.string (strOf bs)) w := by
  subst hn
  rw [run_convert_bytes_string w 22 9 5 ao bs.length cap Try.underlying22 Try.underlying5 Try.underlying9]
  have key : ∀ a : Addr, (∀ j v, (bs.map B8)[j]? = some v → w.cell? (a.add j) = some v) → (Conv.bytesToString (.slice (some a) bs.length cap)).run Try.prog w = .ok (.string (strOf bs)) w := by
    intro a h
    have hl := run_loadCells_list (P := Try.prog) w a (bs.map B8) h
    rw [List.length_map] at hl
    have e : bs.map B8 = (bs.map fun b => (b.toNat : Int)).map (Value.int .u8) := by
      rw [List.map_map]; rfl
    rw [e] at hl
    exact run_bytesToString w a bs.length cap _ hl
  rcases hb with rfl | ⟨B, off, rfl, hc⟩
  · cases ao with
    | none => rfl
    | some a => exact key a (by simp)
  · refine key _ ?_
    intro j u hu
    rw [Addr.add_mid]
    rw [List.getElem?_map] at hu
    cases hj : bs[j]? with
    | none => rw [hj] at hu; cases hu
    | some v => rw [hj] at hu; injection hu with hu; subst hu; exact hc j v hj
end Go.Proofs.Ytkcbhikhcgobkaa
