
import Derived.Test.YtjooabgjkjnhhaaGreatDoorT24Kf
/-! TokenKeeps: rows that are written over with marks, and grown. -/
namespace Go.Proofs.YtjooabgjkjnhhaaGreatDoor
open Go.RowKit
set_option linter.unusedVariables false
set_option linter.unusedSimpArgs false
set_option maxRecDepth 100000

/-- n marks, one behind the other. -/
def rep (n : Nat) (mk : List Value) : List Value := (List.replicate n mk).flatten
theorem rep_succ (n : Nat) (mk : List Value) : rep (n + 1) mk = rep n mk ++ mk := by
  unfold rep
  rw [List.replicate_succ', List.flatten_append]
  simp
theorem rep_len (n : Nat) (mk : List Value) : (rep n mk).length = n * mk.length := by
  unfold rep
  rw [List.length_flatten]
  simp
theorem rep_at (mk : List Value) (size : Nat) (hs : mk.length = size) (k : Nat) (v : Value) (hk : mk[k]? = some v) : ∀ (n j : Nat), j < n → (rep n mk)[j * size + k]? = some v
  | 0, j, h => absurd h (by omega)
  | n + 1, j, h => by
    have hks : k < size := by rw [← hs]; exact (List.getElem?_eq_some_iff.1 hk).1
    rw [rep_succ]
    by_cases hj : j < n
    · have hlt : j * size + k < (rep n mk).length := by
        rw [rep_len, hs]
        have h9 : (j + 1) * size ≤ n * size := Nat.mul_le_mul_right _ (by omega)
        rw [Nat.add_mul] at h9
        omega
      rw [List.getElem?_append_left hlt]
      exact rep_at mk size hs k v hk n j hj
    · obtain rfl : j = n := by omega
      rw [List.getElem?_append_right (by rw [rep_len, hs]; omega), rep_len, hs, show j * size + k - j * size = k by omega]
      exact hk
def setL (xs : List Value) (o : Nat) : List Value → List Value
  | [] => xs
  | v :: r => setL (xs.set o v) (o + 1) r
theorem setL_eq : ∀ (vs : List Value) (xs : List Value) (o : Nat), o + vs.length ≤ xs.length → setL xs o vs = xs.take o ++ vs ++ xs.drop (o + vs.length)
  | [], xs, o, h => by simp [setL]
  | v :: r, xs, o, h => by
    have ho : o < xs.length := by simp at h; omega
    rw [setL, setL_eq r (xs.set o v) (o + 1) (by simp at h ⊢; omega)]
    rw [List.take_set, List.drop_set_of_lt (by omega)]
    have h1 : (xs.take (o + 1)).set o v = xs.take o ++ [v] := by
      have e1 : xs.take (o + 1) = xs.take o ++ [xs[o]] := by rw [List.take_add_one, List.getElem?_eq_getElem ho]; rfl
      have e2 : (xs.take o).length = o := by rw [List.length_take]; omega
      rw [e1, List.set_append, if_neg (by omega), e2, Nat.sub_self]
      rfl
    rw [h1]
    simp [Nat.add_assoc, Nat.add_comm 1]
theorem own_sets {N e size g n c : Nat} : ∀ (vs : List Value) (o : Nat) (w : World) (xs : List Value), w.ownsRow N e size (.slice (some ⟨g, 0, none⟩) n c) n xs → (w.setCells g o vs).ownsRow N e size (.slice (some ⟨g, 0, none⟩) n c) n (setL xs o vs)
  | [], _, _, _, h => h
  | v :: r, o, w, xs, h => own_sets r (o + 1) _ _ (h.stored o v).1
/-- An element of an own row stored. -/
theorem wpList_store_own {ops : Array Oper} {rest : List Oper} {op : Oper} {a : Act} {w : World} {Q : Exit → Act → World → Prop} (hgd : op.guard = none) (ty : TypeId) (x y : Operand) (ho : op.op = .store ty x y)
    (N e size g n c o : Nat) (xs new : List Value) (hr : w.ownsRow N e size (.slice (some ⟨g, 0, none⟩) n c) n xs) (hl : o + new.length ≤ n * size) (hx : a.eval x = .pointer (some ⟨g, o, none⟩)) (hy : a.eval y = .agg new.toArray)
    (hi : (Tryz.prog.info? ty).map (·.size) = some new.length) (h1 : ∀ v ∈ new, v.oneCell' = true)
    (h : ∀ w', w'.ownsRow N e size (.slice (some ⟨g, 0, none⟩) n c) n (xs.take o ++ new ++ xs.drop (o + new.length)) → SameBut g w w' → wpList Tryz.prog ops Q rest (a.put op.dst undef) w') : wpList Tryz.prog ops Q (op :: rest) a w := by
  have hlen : xs.length = n * size := hr.1
  refine wpList_store_mid hgd ty x y ho g o new.toArray hx hy ?_ (by simpa using hi) (all_oneCell_toArray h1) (h _ ?_ ?_)
  · intro j hj
    refine ⟨?_, hr.frozenAt _⟩
    have hj' : o + j < n * size := by simp at hj; omega
    rw [hr.cellAt (o + j) hj', List.getElem?_eq_getElem (by rw [hlen]; exact hj')]; rfl
  · have := own_sets new o w xs hr
    rw [setL_eq new xs o (by rw [hlen]; exact hl)] at this
    exact this
  · exact SameBut.setCells g new o w
/-- k elements are written over. -/
def half (k size : Nat) (mk old : List Value) : List Value := rep k mk ++ old.drop (k * size)
theorem half_step {k size n : Nat} {mk old : List Value} (hs : mk.length = size) (ho : old.length = n * size) (hk : k < n) : (half k size mk old).take (k * size) ++ mk ++ (half k size mk old).drop (k * size + mk.length) = half (k + 1) size mk old := by
  unfold half
  have h1 : (rep k mk).length = k * size := by rw [rep_len, hs]
  rw [List.take_append_of_le_length (by rw [h1]; exact Nat.le_refl _), List.take_of_length_le (by rw [h1]; exact Nat.le_refl _), rep_succ, hs]
  rw [List.drop_append, h1, List.drop_of_length_le (by rw [h1]; omega), List.nil_append, List.drop_drop]
  rw [show k * size + (k * size + size - k * size) = (k + 1) * size by rw [Nat.add_mul]; omega]
theorem half_all {size n : Nat} {mk old : List Value} (ho : old.length = n * size) : half n size mk old = rep n mk := by
  unfold half
  rw [List.drop_of_length_le (by rw [ho]; exact Nat.le_refl _), List.append_nil]
theorem half_zero {size : Nat} {mk old : List Value} : half 0 size mk old = old := by unfold half rep; simp
/-- The block that a slice lies in holds cells of the type e. -/
def TyB (e : Nat) (w : World) (ao : Option Addr) : Prop := ∀ B off, ao = some ⟨B, off, none⟩ → ∃ cur fz, w.heap[B]? = some (.cells cur e fz)
theorem own_tyb {N e size n c : Nat} {w : World} {ao : Option Addr} {vs : List Value} (h : w.ownsRow N e size (.slice ao n c) n vs) : TyB e w ao := by
  intro B off he
  rcases h.2 with ⟨e1, _⟩ | ⟨g, cap, cur, e1, _, h3, _⟩
  · injection e1 with e1; rw [he] at e1; cases e1
  · injection e1 with e1; rw [he] at e1; injection e1 with e1; injection e1 with e1; subst e1
    exact ⟨cur, _, h3⟩
theorem isL_blk {w w' : World} {ao : Option Addr} {l : List Value} (h : IsL w ao l) (hb : ∀ B off, ao = some ⟨B, off, none⟩ → w'.heap[B]? = w.heap[B]?) : IsL w' ao l := by
  rcases h with h | ⟨B, off, h1, h2⟩
  · exact .inl h
  · exact .inr ⟨B, off, h1, fun j v hj => (World.cell?_of_block (w := w) (hb B off h1)).trans (h2 j v hj)⟩
theorem owns_blk24 {N e size n c : Nat} {w w' : World} {ao : Option Addr} {vs : List Value} (h : w.ownsRow N e size (.slice ao n c) n vs) (hb : ∀ B off, ao = some ⟨B, off, none⟩ → w'.heap[B]? = w.heap[B]?) : w'.ownsRow N e size (.slice ao n c) n vs := by
  refine ⟨h.1, ?_⟩
  rcases h.2 with h1 | ⟨g, cap, cur, e1, h2, h3, h4⟩
  · exact .inl h1
  · refine .inr ⟨g, cap, cur, e1, h2, (hb g 0 ?_).trans h3, h4⟩
    injection e1
theorem TyB.blk {e : Nat} {w w' : World} {ao : Option Addr} (h : TyB e w ao) (hb : ∀ B off, ao = some ⟨B, off, none⟩ → w'.heap[B]? = w.heap[B]?) : TyB e w' ao := fun B off he => by
  obtain ⟨cur, fz, h1⟩ := h B off he
  exact ⟨cur, fz, (hb B off he).trans h1⟩
/-- A row of n0 marks that is grown by t: where it lies, and the old row. -/
structure Gw (e size : Nat) (mk : List Value) (N : Nat) (ao0 : Option Addr) (n0 : Nat) (W0 : World) (t : Nat) (ao : Option Addr) (c : Nat) (w : World) : Prop where
  own : w.ownsRow N e size (.slice ao (n0 + t) c) (n0 + t) (rep (n0 + t) mk)
  isl : IsL w ao0 (rep n0 mk)
  tb : TyB e w ao0
  pl : ao = ao0 ∨ ∃ g, ao = some ⟨g, 0, none⟩ ∧ W0.heap.size ≤ g
theorem own_isL24 {e size : Nat} {vs : List Value} {N : Nat} {ao : Option Addr} {n c : Nat} {w : World} (h : w.ownsRow N e size (.slice ao n c) n vs) (hn : 0 < n) : IsL w ao vs := by
  obtain ⟨pb, rfl⟩ : ∃ pb, ao = some ⟨pb, 0, none⟩ := by
    rcases h.2 with ⟨_, e0⟩ | ⟨g, cc, cur, e, _⟩
    · exact absurd e0 (by omega)
    · injection e with e1 _ _; exact ⟨g, e1⟩
  refine .inr ⟨pb, 0, rfl, fun j v hj => ?_⟩
  have := h.cells (g := pb) rfl j v hj
  rw [Addr.add_mid] at this
  exact this
theorem Gw.zero {e size : Nat} {mk : List Value} {N : Nat} {ao : Option Addr} {n c : Nat} {W0 w : World} (h : w.ownsRow N e size (.slice ao n c) n (rep n mk)) (hn : 0 < n ∨ rep n mk = []) : Gw e size mk N ao n W0 0 ao c w := by
  refine ⟨h, ?_, own_tyb h, .inl rfl⟩
  rcases hn with hn | hn
  · exact (own_isL24 h hn)
  · exact .inl hn
/-- Blocks of another type change, or new ones come. -/
theorem Gw.keepT {e size : Nat} {mk : List Value} {N : Nat} {ao0 : Option Addr} {n0 : Nat} {W0 : World} {t : Nat} {ao : Option Addr} {c : Nat} {w w' : World} (h : Gw e size mk N ao0 n0 W0 t ao c w) (hb : ∀ (B : Nat) (cur : Array Value) (fz : Nat × Nat), w.heap[B]? = some (.cells cur e fz) → w'.heap[B]? = w.heap[B]?) : Gw e size mk N ao0 n0 W0 t ao c w' :=
  ⟨owns_blk24 h.own fun B off he => (let ⟨cur, fz, h1⟩ := own_tyb h.own B off he; hb B cur fz h1), isL_blk h.isl fun B off he => (let ⟨cur, fz, h1⟩ := h.tb B off he; hb B cur fz h1), h.tb.blk fun B off he => (let ⟨cur, fz, h1⟩ := h.tb B off he; hb B cur fz h1), h.pl⟩
theorem isL_pre {w : World} {ao : Option Addr} {a b : List Value} (h : IsL w ao (a ++ b)) : IsL w ao a := by
  rcases h with h | ⟨g, off, e, hc⟩
  · exact .inl (List.append_eq_nil_iff.1 h).1
  · exact .inr ⟨g, off, e, fun j v hj => hc j v (by rw [List.getElem?_append_left (List.getElem?_eq_some_iff.1 hj).1]; exact hj)⟩
theorem rep_add (mk : List Value) (n : Nat) : ∀ t, ∃ r, rep (n + t) mk = rep n mk ++ r
  | 0 => ⟨[], by simp⟩
  | t + 1 => by
    obtain ⟨r, hr⟩ := rep_add mk n t
    exact ⟨r ++ mk, by rw [← Nat.add_assoc, rep_succ, hr, List.append_assoc]⟩
theorem Gw.step {e size : Nat} {mk : List Value} {N : Nat} {ao0 : Option Addr} {n0 : Nat} {W0 : World} {t : Nat} {ao : Option Addr} {c : Nat} {w w1 w' : World} {ao' : Option Addr} {c' : Nat} (h : Gw e size mk N ao0 n0 W0 t ao c w) (hW : W0.heap.size ≤ w1.heap.size) (hww : ∀ (B : Nat) (cur : Array Value) (fz : Nat × Nat), w.heap[B]? = some (.cells cur e fz) → w1.heap[B]? = w.heap[B]?) (hlt : ∀ B off, ao0 = some ⟨B, off, none⟩ → off = 0 ∧ B < w1.heap.size)
    (h1 : w'.ownsRow N e size (.slice ao' (n0 + t + 1) c') (n0 + t + 1) (rep (n0 + t) mk ++ mk)) (h3 : ∀ k, k < w1.heap.size → (∀ g, ao = some ⟨g, 0, none⟩ → k ≠ g) → w'.heap[k]? = w1.heap[k]?) (h4 : ao' = ao ∨ (ao' = some ⟨w1.heap.size, 0, none⟩ ∧ Below w1.heap.size w1 w' ∧ w1.heap.size < w'.heap.size)) :
    Gw e size mk N ao0 n0 W0 (t + 1) ao' c' w' := by
  have k := h.keepT hww
  rw [← rep_succ] at h1
  have hold : IsL w' ao0 (rep n0 mk) ∧ TyB e w' ao0 := by
    by_cases he : ao' = ao0
    · refine ⟨?_, by rw [← he]; exact own_tyb h1⟩
      obtain ⟨r, hr⟩ := rep_add mk n0 (t + 1)
      have h5 := own_isL24 h1 (by omega)
      rw [he, show n0 + t + 1 = n0 + (t + 1) by omega, hr] at h5
      exact isL_pre h5
    · have hb : ∀ B off, ao0 = some ⟨B, off, none⟩ → w'.heap[B]? = w1.heap[B]? := by
        intro B off e0
        obtain ⟨rfl, hB⟩ := hlt B off e0
        rcases h4 with e4 | ⟨_, hbl, _⟩
        · refine h3 B hB fun g eg => ?_
          rintro rfl
          exact he (by rw [e4, eg, e0])
        · exact hbl.block B hB
      exact ⟨isL_blk k.isl hb, k.tb.blk hb⟩
  refine ⟨h1, hold.1, hold.2, ?_⟩
  rcases h4 with e4 | ⟨e4, _, _⟩
  · rw [e4]; exact h.pl
  · exact .inr ⟨_, e4, hW⟩
end Go.Proofs.YtjooabgjkjnhhaaGreatDoor
