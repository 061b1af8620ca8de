
import Derived.Test.YtepafpnpmpijeaaK12Ref2
/-! The reference's ring in memory of its own, and one secret more. -/
namespace Go.Proofs.Ytepafpnpmpijeaa
open Go.RowKit
set_option linter.unusedVariables false

theorem owns_blk {N e size : Nat} {w w' : World} {v : Value} {n : Nat} {xs : List Value} (h : w.ownsRow N e size v n xs) (hb : ∀ B, v.ownBlock = some B → w'.heap[B]? = w.heap[B]?) : w'.ownsRow N e size v n xs := by
  refine ⟨h.1, ?_⟩
  rcases h.2 with h0 | ⟨g, c, cur, e1, h1, h2, h3⟩
  · exact .inl h0
  · exact .inr ⟨g, c, cur, e1, h1, (hb g (by rw [e1]; rfl)).trans h2, h3⟩
theorem owns_ty {N e size : Nat} {w : World} {v : Value} {n : Nat} {xs : List Value} (h : w.ownsRow N e size v n xs) (B : Nat) (hB : v.ownBlock = some B) : ∃ cur, w.heap[B]? = some (.cells cur e (0, 0)) := by
  rcases h.2 with ⟨e0, _⟩ | ⟨g, c, cur, e1, h1, h2, h3⟩
  · rw [e0] at hB; cases hB
  · rw [e1] at hB
    injection hB with hB
    subst hB
    exact ⟨cur, h2⟩

def secCells : Secs → List Value → List Value
  | p :: l, v :: vs => .int .i64 p.1 :: v :: secCells l vs
  | _, _ => []
theorem secCells_push (k : Int) (b : List By) (v : Value) : ∀ (l : Secs) (vs : List Value), vs.length = l.length → secCells (l ++ [(k, b)]) (vs ++ [v]) = secCells l vs ++ [.int .i64 k, v]
  | [], [], _ => rfl
  | p :: l, x :: vs, h => by
    have := secCells_push k b v l vs (by simpa using h)
    show _ :: _ :: secCells (l ++ [(k, b)]) (vs ++ [v]) = _
    rw [this]; rfl
theorem secCells_at : ∀ (l : Secs) (vs : List Value) (i : Nat), vs.length = l.length → i < l.length → (secCells l vs)[i * 2]? = some (.int .i64 (l.getD i (0, [])).1) ∧ (secCells l vs)[i * 2 + 1]? = some (vs.getD i undef)
  | p :: l, x :: vs, 0, _, _ => ⟨rfl, rfl⟩
  | p :: l, x :: vs, i + 1, h, hi => by
    have := secCells_at l vs i (by simpa using h) (by simpa using hi)
    rw [show (i + 1) * 2 = i * 2 + 1 + 1 by omega, show i * 2 + 1 + 1 + 1 = (i * 2 + 1) + 1 + 1 by omega]
    exact this

/-- The reference's ring, all of it in blocks from N on. -/
structure RgO (N : Nat) (w : World) (g : Nat) (ao : Option Addr) (cap : Nat) (vs : List Value) (l : Secs) : Prop where
  row : Row w g 57 [.slice ao l.length cap]
  ng : N ≤ g
  own : w.ownsRow N 42 2 (.slice ao l.length cap) l.length (secCells l vs)
  len : vs.length = l.length
  bytes : ∀ i, i < l.length → ∃ bo c, vs.getD i undef = .slice bo (l.getD i (0, [])).2.length c ∧ Own N w (.slice bo (l.getD i (0, [])).2.length c) (l.getD i (0, [])).2

theorem RgO.to {N : Nat} {w : World} {g : Nat} {ao : Option Addr} {cap : Nat} {vs : List Value} {l : Secs} (h : RgO N w g ao cap vs l) : RgAt w g ao cap vs l where
  row := h.row
  key i hi := by
    have hown := h.own
    rcases h.own.2 with ⟨e, e2⟩ | ⟨q, c, cur, e, _⟩
    · omega
    · injection e with e1 _ _
      subst e1
      have hc := secCells_at l vs i h.len hi
      exact ⟨q, rfl, (hown.cellAt (i * 2) (by omega)).trans hc.1, (hown.cellAt (i * 2 + 1) (by omega)).trans hc.2⟩
  bytes i hi := by
    obtain ⟨bo, c, e, ho⟩ := h.bytes i hi
    obtain ⟨_, h2, h3, _⟩ := own_isb ho
    exact ⟨bo, _, c, e, own_IsB ho, rfl, h3, h2⟩
theorem RgO.keep {N : Nat} {w w' : World} {g : Nat} {ao : Option Addr} {cap : Nat} {vs : List Value} {l : Secs} (h : RgO N w g ao cap vs l) (hb : Below w.heap.size w w') : RgO N w' g ao cap vs l where
  row := h.row.below hb h.row.lt
  ng := h.ng
  own := owns_blk h.own fun B e => hb.block B (h.own.lt B e).2
  len := h.len
  bytes i hi := by
    obtain ⟨bo, c, e, ho⟩ := h.bytes i hi
    exact ⟨bo, c, e, ho.keep hb⟩

/-- A ring without secrets, just made. -/
theorem RgO.new (N : Nat) (w : World) (hN : N ≤ w.heap.size) : RgO N (w.alloc (.cells #[.slice none 0 0] 57)) w.heap.size none 0 [] [] where
  row := Row.at w _ _ _ _ rfl rfl
  ng := hN
  own := World.ownsRow_nil _ _ _ _
  len := rfl
  bytes i hi := absurd hi (by simp)

/-- One secret more: behind the append (w1) and the store of what it answered (w2). -/
theorem RgO.push {N : Nat} {w w1 w2 : World} {g : Nat} {ao ao' : Option Addr} {cap cap' : Nat} {vs : List Value} {l : Secs} (h : RgO N w g ao cap vs l) (k : Int) (b : List By) (bo : Option Addr) (c : Nat) (hv : Own N w (.slice bo b.length c) b)
    (h1 : w1.ownsRow N 42 2 (.slice ao' (l.length + 1) cap') (l.length + 1) (secCells l vs ++ [.int .i64 k, .slice bo b.length c])) (hsz : w.heap.size ≤ w1.heap.size)
    (hk : ∀ j, j < w.heap.size → (∀ q, ao = some ⟨q, 0, none⟩ → j ≠ q) → w1.heap[j]? = w.heap[j]?) (hw2 : w2 = w1.setCell ⟨g, 0, none⟩ (.slice ao' (l.length + 1) cap')) :
    RgO N w2 g ao' cap' (vs ++ [.slice bo b.length c]) (l ++ [(k, b)]) := by
  subst hw2
  have hrow : w.heap[g]? = some (.cells #[.slice ao l.length cap] 57 (0, 0)) := h.row
  have nq : ∀ j (T : Nat) (cur : Array Value), T ≠ 42 → w.heap[j]? = some (.cells cur T (0, 0)) → ∀ q, ao = some ⟨q, 0, none⟩ → j ≠ q := by
    intro j T cur hT hj q hq e
    subst e
    obtain ⟨cur2, h2⟩ := owns_ty h.own j (by rw [hq]; rfl)
    rw [h2] at hj
    injection hj with hj
    injection hj with _ h3
    exact hT h3.symm
  have r1 : Row w1 g 57 [.slice ao l.length cap] := (hk g h.row.lt (nq g _ _ (by decide) hrow)).trans hrow
  have r2 := r1.set 0 (.slice ao' (l.length + 1) cap')
  have sb := SameBut.setCell g 0 (.slice ao' (l.length + 1) cap') w1
  have hlen : (l ++ [(k, b)]).length = l.length + 1 := by simp
  have ob : ∀ (bo : Option Addr) (n c : Nat) (m : List By), Own N w (.slice bo n c) m → Own N (w1.setCell ⟨g, 0, none⟩ (.slice ao' (l.length + 1) cap')) (.slice bo n c) m := by
    intro bo n c m ho
    refine ⟨owns_blk ho.1 ?_, ?_⟩
    · intro B hB
      obtain ⟨cur, hc⟩ := owns_ty ho.1 B hB
      have hBg : B ≠ g := by
        intro e; subst e
        rw [hc] at hrow
        injection hrow with hrow
        injection hrow with _ h3
        exact absurd h3 (by decide)
      rw [sb.block B hBg]
      exact hk B (ho.1.lt B hB).2 (nq B _ cur (by decide) hc)
    · rw [sb.size]; exact Nat.le_trans ho.2 hsz
  refine ⟨?_, h.ng, ?_, by simp [h.len], ?_⟩
  · rw [hlen]; exact r2
  · rw [hlen, secCells_push k b _ l vs h.len]
    refine owns_blk h1 fun B hB => sb.block B ?_
    obtain ⟨cur, hc⟩ := owns_ty h1 B hB
    intro e; subst e
    have r1' : w1.heap[B]? = some (.cells #[.slice ao l.length cap] 57 (0, 0)) := r1
    rw [hc] at r1'
    injection r1' with r1'
    injection r1' with _ h3
    exact absurd h3 (by decide)
  · intro i hi
    rw [hlen] at hi
    rcases Nat.lt_or_ge i l.length with h3 | h3
    · obtain ⟨bo2, c2, e2, ho2⟩ := h.bytes i h3
      have e3 : (l ++ [(k, b)]).getD i (0, []) = l.getD i (0, []) := by simp [List.getD_eq_getElem?_getD, List.getElem?_append_left h3]
      have e4 : (vs ++ [Value.slice bo b.length c]).getD i undef = vs.getD i undef := by simp [List.getD_eq_getElem?_getD, List.getElem?_append_left (show i < vs.length by rw [h.len]; exact h3)]
      rw [e3, e4]
      exact ⟨bo2, c2, e2, ob _ _ _ _ ho2⟩
    · obtain rfl : i = l.length := by omega
      have e3 : (l ++ [(k, b)]).getD l.length (0, []) = (k, b) := by simp [List.getD_eq_getElem?_getD]
      have e4 : (vs ++ [Value.slice bo b.length c]).getD l.length undef = .slice bo b.length c := by rw [← h.len]; simp [List.getD_eq_getElem?_getD]
      rw [e3, e4]
      exact ⟨bo, c, rfl, ob _ _ _ _ hv⟩

end Go.Proofs.Ytepafpnpmpijeaa
