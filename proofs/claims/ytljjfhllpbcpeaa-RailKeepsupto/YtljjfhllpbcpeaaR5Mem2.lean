import Derived.Test.YtljjfhllpbcpeaaR5TMath
import Derived.Laws.OwnMore
/-! Own rows written into; append onto nil of any length. -/
namespace Go.Proofs.Ytljjfhllpbcpeaa
open Go.RowKit

theorem Own.at {N : Nat} {w : World} {ao : Option Addr} {n c : Nat} {m : List By} (h : Own N w (.slice ao n c) m) (hn : 0 < n) : ∃ g, ao = some ⟨g, 0, none⟩ ∧ N ≤ g ∧ g < w.heap.size := by
  rcases h.1.2 with ⟨e, _⟩ | ⟨g, cap, cur, e, h2, h3, h4, _⟩
  · injection e with e1 e3 e4; omega
  · injection e with e1 e3 e4
    exact ⟨g, e1, h2, (Array.getElem?_eq_some_iff.1 h3).1⟩
theorem Own.len {N : Nat} {w : World} {ao : Option Addr} {n c : Nat} {m : List By} (h : Own N w (.slice ao n c) m) : m.length = n := (own_isb h).1
theorem Own.cell {N : Nat} {w : World} {g n c : Nat} {m : List By} (h : Own N w (.slice (some ⟨g, 0, none⟩) n c) m) (j : Nat) (hj : j < n) : w.cell? ⟨g, j, none⟩ = some (.int .u8 ((m.getD j 0).toNat : Int)) := by
  have hl := h.len
  have h1 := h.1
  rw [hl] at h1
  rw [h1.cellAt j (by omega), List.getElem?_map, List.getElem?_eq_getElem (by omega), getD_lt (by omega)]; rfl
theorem Own.frozen {N : Nat} {w : World} {g n c : Nat} {m : List By} (h : Own N w (.slice (some ⟨g, 0, none⟩) n c) m) (j : Nat) : w.frozen? ⟨g, j, none⟩ = false := by
  have hl := h.len
  have h1 := h.1
  rw [hl] at h1
  exact h1.frozenAt j
theorem Own.set {N : Nat} {w : World} {g n c : Nat} {m : List By} (h : Own N w (.slice (some ⟨g, 0, none⟩) n c) m) (j : Nat) (x : By) : Own N (w.setCell ⟨g, j, none⟩ (.int .u8 (x.toNat : Int))) (.slice (some ⟨g, 0, none⟩) n c) (m.set j x) := by
  have hl := h.len
  have h1 := h.1
  rw [hl] at h1
  refine ⟨?_, by simp [World.setCell]; exact h.2⟩
  rw [List.length_set, hl, List.map_set]
  exact (h1.stored j _).1
theorem Own.but {N : Nat} {w w' : World} {ao : Option Addr} {n c k : Nat} {m : List By} (h : Own N w (.slice ao n c) m) (hs : SameBut k w w') (hk : ao ≠ some ⟨k, 0, none⟩) : Own N w' (.slice ao n c) m := by
  refine ⟨⟨h.1.1, ?_⟩, by rw [hs.size]; exact h.2⟩
  rcases h.1.2 with h1 | ⟨g, cap, cur, e, h2, h3, h4⟩
  · exact .inl h1
  · refine .inr ⟨g, cap, cur, e, h2, (hs.block g ?_).trans h3, h4⟩
    intro e2
    subst e2
    injection e with e1
    exact hk e1
theorem Own.drewN {N : Nat} {w : World} {v : Value} {m : List By} (h : Own N w v m) (k : Nat) : Own N (w.drewN k) v m := h
theorem Own.dr {N : Nat} {w w' : World} {v : Value} {m : List By} (h : Own N w v m) (d : Dr w w') : Own N w' v m := by
  obtain ⟨k, rfl⟩ := d; exact h

/-- append onto nil, of as many bytes as a slice may have. -/
theorem run_append_tonil (w : World) (ty : TypeId) (g n c : Nat) (bs : List By) (hn : bs.length = n) (hb : IsB w (some ⟨g, 0, none⟩) bs) (hl : n ≤ 281474976710656) :
    ∃ ao' c' w', (Builtin.append_ #[23, 23] ty #[.slice none 0 0, .slice (some ⟨g, 0, none⟩) n c]).run Try.prog w = .ok (.slice ao' n c') w' ∧ Own w.heap.size w' (.slice ao' n c') bs ∧ Below w.heap.size w w' := by
  by_cases h0 : n = 0
  · subst h0
    obtain ⟨ao', c', w', h1, h2, h3, _⟩ := run_append_more w.heap.size w w ty none 0 0 [] rfl (own_nil _ _ (Nat.le_refl _)) (Below.refl _ _) (some ⟨g, 0, none⟩) 0 c bs hn hb (fun h => by cases h) (by omega)
    exact ⟨ao', c', w', h1, h2, h3⟩
  · obtain ⟨i0, hi, hz0, hz1, hz2⟩ := info_parts Try.infoU8
    have hnews : ∀ j v, (bs.map B8)[j]? = some v → w.cell? ((⟨g, 0, none⟩ : Addr).add j) = some v := by
      rcases hb with rfl | ⟨B, off, e, hc⟩
      · simp
      · injection e with e; injection e with e1 e2
        subst e1 e2
        intro j u hu
        rw [Addr.add_mid]
        rw [List.getElem?_map] at hu
        cases hj : bs[j]? with
        | none => rw [hj] at hu; cases hu
        | some v => rw [hj] at hu; injection hu with hu; subst hu; exact hc j v hj
    have hr := run_append_nil (P := Try.prog) w 23 ty 5 i0 (.int .u8 0) Try.underlying23 hi hz0 ⟨g, 0, none⟩ n c (bs.map B8) (by rw [List.length_map, hz1, hn, Nat.mul_one]) hnews (by omega) (by omega) (by rw [hz2]; omega)
    have hge := grownCap_ge w n 0 5
    have hcm : grownCap w n 0 5 ≤ maxLen := grownCap_le_maxLen w n 0 5 (by unfold maxLen; omega)
    refine ⟨_, _, _, hr, ⟨⟨by simp, .inr ⟨w.heap.size, _, _, by rw [hn], Nat.le_refl _, heap_alloc_new w.drew _, by rw [hn]; exact hge, hcm, ?_, ?_⟩⟩, by simp⟩, ((Below.refl _ _).drew).alloc (Nat.le_refl _) _⟩
    · simp only [Array.size_append, List.size_toArray, size_zeroCells, List.length_map, hn]
      have : (Value.int IntKind.u8 0).cells.size = 1 := rfl
      rw [this]; omega
    · rw [Array.toList_append]
      have : bs.length * 1 = (bs.map B8).length := by simp
      rw [this]
      exact List.take_left

theorem wpList_append_tonil {ops : Array Oper} {rest : List Oper} {o : Oper} {a : Act} {w : World} {Q : Exit → Act → World → Prop} (hgd : o.guard = none) (s x : Operand)
    (ho : o.op = .call { callee := .builtin .append, args := #[s, x], argTypes := #[23, 23] })
    (hs : a.eval s = .slice none 0 0) (g n cap : Nat) (bs : List By) (hx : a.eval x = .slice (some ⟨g, 0, none⟩) n cap) (hn : bs.length = n) (hb : IsB w (some ⟨g, 0, none⟩) bs) (hl : n ≤ 281474976710656)
    (h : ∀ ao' cap' w', Own w.heap.size w' (.slice ao' n cap') bs → Below w.heap.size w w' → wpList Try.prog ops Q rest (a.put o.dst (.slice ao' n cap')) w') : wpList Try.prog ops Q (o :: rest) a w := by
  refine wpList_plain hgd fun K hK => ?_
  obtain ⟨ao', cap', w', hrun, h2, h3⟩ := run_append_tonil w o.type g n cap bs hn hb hl
  unfold Oper.wp execOp
  simp only [ho, resolve, invoke, builtin, Sem.run_bind, Sem.run_pure, Result.andThen_ok, List.map_toArray, List.map_cons, List.map_nil, hs, hx, hrun]
  exact hK _ _ (h ao' cap' w' h2 h3)
end Go.Proofs.Ytljjfhllpbcpeaa
