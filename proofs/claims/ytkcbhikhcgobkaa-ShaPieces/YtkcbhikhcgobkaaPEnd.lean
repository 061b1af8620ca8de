import Derived.Test.YtkcbhikhcgobkaaPRel
namespace Go.Proofs.Ytkcbhikhcgobkaa
open Go.RowKit

/-- Of each Digest and its bytes: where they lie, and what the three calls answer. -/
def ItAt (gl ga n : Nat) (w : World) : Prop := ∀ p, p < n → ∃ (g : Nat) (ao : Option Addr) (m cap : Nat) (sm : List By), sm.length = 32 ∧ gl < w.heap.size ∧ ga < w.heap.size ∧
  w.cell? ⟨gl, p, none⟩ = some (.pointer (some ⟨g, 0, none⟩)) ∧ w.cell? ⟨ga, p, none⟩ = some (.slice ao m cap) ∧
  Hid (∀ W, Below w.heap.size w W → Calls Try.prog 11 #[.pointer (some ⟨g, 0, none⟩)] W fun e w' => e = .returned (.agg (sm.map B8).toArray) ∧ Below W.heap.size W w') ∧
  Hid (∀ W, Below w.heap.size w W → Calls Try.prog 6 #[.slice ao m cap] W fun e w' => e = .returned (.agg (sm.map B8).toArray) ∧ Below W.heap.size W w') ∧
  Hid (∀ W, Below w.heap.size w W → Calls Try.prog 5 #[.slice ao m cap] W fun e w' => e = .returned (.agg (sm.map B8).toArray) ∧ Below W.heap.size W w')
theorem ItAt.of {N : Nat} {w : World} {gl cl ga ca n c : Nat} {items : List It} (hn : n = items.length) (h : PSt N w.heap.size w gl cl ga ca (items.map It.g) items) (hit : ∀ t ∈ items, t.D = t.M ∧ t.M.length ≤ c) (hc : c ≤ 2147483647) : ItAt gl ga n w := by
  intro p hp
  subst hn
  have ht : items[p]? = some items[p] := List.getElem?_eq_getElem hp
  obtain ⟨h1, h2⟩ := hit _ (List.getElem_mem hp)
  obtain ⟨sm, k1, k2, k3, k4⟩ := it_calls h items[p] (List.getElem_mem hp) h1 (by omega)
  exact ⟨_, _, _, _, sm, k1, h.ltl, h.lta, h.cellL p items[p].g (by rw [List.getElem?_map, ht]; rfl), h.cellA p _ ht, k2, k3, k4⟩
theorem ItAt.below {gl ga n : Nat} {w w' : World} (h : ItAt gl ga n w) (hb : Below w.heap.size w w') : ItAt gl ga n w' := by
  intro p hp
  obtain ⟨g, ao, m, cap, sm, k1, l1, l2, c1, c2, k2, k3, k4⟩ := h p hp
  have hs := hb.size
  exact ⟨g, ao, m, cap, sm, k1, by omega, by omega, (hb.cell (p := ⟨gl, p, none⟩) l1).trans c1, (hb.cell (p := ⟨ga, p, none⟩) l2).trans c2,
    fun W hW => k2 W (hb.trans (hW.mono hs)), fun W hW => k3 W (hb.trans (hW.mono hs)), fun W hW => k4 W (hb.trans (hW.mono hs))⟩

end Go.Proofs.Ytkcbhikhcgobkaa
