
import Derived.Test.YthegfkcegmeklaaH16StZ
/-! Books beside one another. -/
namespace Go.Proofs.Ythegfkcegmeklaa
open Go.RowKit
set_option linter.unusedVariables false

def PBk (g : Nat) : Value := .pointer (some ⟨g, 0, none⟩)
theorem PBk_one (gs : List Nat) : ∀ u ∈ gs.map PBk, u.oneCell' = true := fun u hu => by
  obtain ⟨g, _, rfl⟩ := List.mem_map.1 hu
  rfl
theorem el_bks : ElT 30 24 1 8 (.pointer none) := ⟨Try.underlying30, by kernel_rfl, rfl, by omega⟩

def upF (i : Nat) (F : Nat → Prop) (Fs : Nat → Nat → Prop) : Nat → Nat → Prop := fun k => if k = i then F else Fs k
theorem upF_eq {i k : Nat} {F : Nat → Prop} {Fs : Nat → Nat → Prop} (h : k = i) : upF i F Fs k = F := if_pos h
theorem upF_ne {i k : Nat} {F : Nat → Prop} {Fs : Nat → Nat → Prop} (h : ¬ k = i) : upF i F Fs k = Fs k := if_neg h
/-- Books in memory of their own, none of which lies in 'Out', and the row of pointers to them. -/
structure BS (Lg : (Nat → Prop) → World → Addr → List EvV → Prop) (w : World) (Out : Nat → Prop) (W : World) (L c : Nat) (gs : List Nat) : Prop where
  bel : Below w.heap.size w W
  row : W.ownsRow w.heap.size 24 1 (.slice (some ⟨L, 0, none⟩) gs.length c) gs.length (gs.map PBk)
  pos : 0 < gs.length
  outL : Out L
  fam : ∃ Fs : Nat → Nat → Prop, (∀ i g, gs[i]? = some g → ∃ xs, Bk Lg (Fs i) W g xs) ∧ (∀ i j, i < gs.length → Fs i j → w.heap.size ≤ j) ∧ (∀ i k j, i < gs.length → k < gs.length → i ≠ k → Fs i j → ¬ Fs k j) ∧ ∀ i j, i < gs.length → Fs i j → ¬ Out j
section
variable {Lg : (Nat → Prop) → World → Addr → List EvV → Prop} {w : World} {Out Out' : Nat → Prop} {W W' : World} {L c : Nat} {gs : List Nat}
theorem BS.lt (h : BS Lg w Out W L c gs) : L < W.heap.size := (h.row.lt L rfl).2
theorem BS.below (C : Chn Lg) (h : BS Lg w Out W L c gs) (hb : Below W.heap.size W W') : BS Lg w Out W' L c gs := by
  obtain ⟨Fs, f1, f2, f3, f4⟩ := h.fam
  refine ⟨h.bel.trans (hb.mono h.bel.size), owns_blk h.row fun B e => hb.block B (h.row.lt B e).2, h.pos, h.outL, Fs, fun i g hi => ?_, f2, f3, f4⟩
  obtain ⟨xs, hk⟩ := f1 i g hi
  exact ⟨xs, hk.keep C (fun j hj => hb.block j (hk.lt j hj)) hb.size⟩
/-- New memory is no book's. -/
theorem BS.more (h : BS Lg w Out W L c gs) (hL : Out' L) (ho : ∀ j, Out' j → Out j ∨ W.heap.size ≤ j) : BS Lg w Out' W L c gs := by
  obtain ⟨Fs, f1, f2, f3, f4⟩ := h.fam
  refine ⟨h.bel, h.row, h.pos, hL, Fs, f1, f2, f3, fun i j hi hj h9 => ?_⟩
  rcases ho j h9 with h8 | h8
  · exact f4 i j hi hj h8
  · obtain ⟨xs, hk⟩ := f1 i _ (List.getElem?_eq_getElem hi)
    have := hk.lt j hj
    omega
/-- One of them, and what a change of it alone leaves. -/
theorem BS.at (C : Chn Lg) (h : BS Lg w Out W L c gs) {i : Nat} (hi : i < gs.length) : ∃ g F xs, gs[i]? = some g ∧ W.cell? ⟨L, i, none⟩ = some (PBk g) ∧ Bk Lg F W g xs ∧ (∀ j, F j → w.heap.size ≤ j) ∧ (∀ j, Out j → ¬ F j) ∧ ∀ F' xs' W', Bk Lg F' W' g xs' → (∀ j, F' j → F j ∨ W.heap.size ≤ j) → But F W W' → (∀ j, Out j → j < W.heap.size) → BS Lg w Out W' L c gs := by
  obtain ⟨Fs, f1, f2, f3, f4⟩ := h.fam
  have hg : gs[i]? = some gs[i] := List.getElem?_eq_getElem hi
  obtain ⟨xs, hk⟩ := f1 i _ hg
  refine ⟨gs[i], Fs i, xs, hg, ?_, hk, fun j => f2 i j hi, fun j ho hj => f4 i j hi hj ho, fun F' xs' W' hk' hs hb hO => ?_⟩
  · have := h.row.cells (g := L) rfl i (PBk gs[i]) (by rw [List.getElem?_map, hg]; rfl)
    rw [Addr.add_mid, Nat.zero_add] at this
    exact this
  · have hz := h.bel.size
    have hN : ∀ j, F' j → w.heap.size ≤ j := fun j hj => (hs j hj).elim (f2 i j hi) fun h => Nat.le_trans hz h
    refine ⟨h.bel.trans (hb.below hz fun j => f2 i j hi), owns_blk h.row fun B e => ?_, h.pos, h.outL, upF i F' Fs, fun k g hk2 => ?_, fun k j hk2 hj => ?_, fun k m j hk2 hm hne hj hj2 => ?_, fun k j hk2 hj ho => ?_⟩
    · have e1 : B = L := by injection e with e; exact e.symm
      subst e1
      exact hb.block B h.lt fun hf => f4 i B hi hf h.outL
    · by_cases hki : k = i
      · subst hki
        rw [hg] at hk2
        injection hk2 with hk2
        subst hk2
        exact ⟨xs', by rw [upF_eq rfl]; exact hk'⟩
      · obtain ⟨ys, hy⟩ := f1 k g hk2
        have hkl := (List.getElem?_eq_some_iff.1 hk2).1
        exact ⟨ys, by rw [upF_ne hki]; exact hy.keep C (fun j hj => hb.block j (hy.lt j hj) (f3 k i j hkl hi hki hj)) hb.size⟩
    · by_cases hki : k = i
      · rw [upF_eq hki] at hj; exact hN j hj
      · rw [upF_ne hki] at hj; exact f2 k j hk2 hj
    · by_cases hki : k = i
      · rw [upF_eq hki] at hj
        rw [upF_ne (by omega)] at hj2
        rcases hs j hj with h1 | h1
        · exact f3 i m j hi hm (by omega) h1 hj2
        · obtain ⟨ys, hy⟩ := f1 m _ (List.getElem?_eq_getElem hm)
          have := hy.lt j hj2
          omega
      · rw [upF_ne hki] at hj
        by_cases hmi : m = i
        · rw [upF_eq hmi] at hj2
          rcases hs j hj2 with h1 | h1
          · exact f3 k i j hk2 hi hki hj h1
          · obtain ⟨ys, hy⟩ := f1 k _ (List.getElem?_eq_getElem hk2)
            have := hy.lt j hj
            omega
        · rw [upF_ne hmi] at hj2
          exact f3 k m j hk2 hm hne hj hj2
    · by_cases hki : k = i
      · rw [upF_eq hki] at hj
        rcases hs j hj with h1 | h1
        · exact f4 i j hi h1 ho
        · have := hO j ho
          omega
      · rw [upF_ne hki] at hj; exact f4 k j hk2 hj ho
/-- A book that was just made. -/
theorem Bk.new {S : Nat → Prop} {a : Addr} (C : Chn Lg) (hl : Lg S W a []) : Bk Lg (fun j => S j ∨ j = W.heap.size) (W.alloc (.cells #[.pointer (some a), .slice none 0 0] 29)) W.heap.size [] := by
  have hb : Below W.heap.size W (W.alloc (.cells #[.pointer (some a), .slice none 0 0] 29)) := (Below.refl _ _).alloc (Nat.le_refl _) _
  have hr : Row (W.alloc (.cells #[.pointer (some a), .slice none 0 0] 29)) W.heap.size 29 [.pointer (some a), .slice none 0 0] := Row.at W _ _ _ _ rfl rfl
  have hn : ¬ S W.heap.size := fun h => absurd (C.lt hl _ h) (by omega)
  refine ⟨a, S, none, 0, W.heap.size, _, C.keep hl (fun j hj => hb.block j (C.lt hl j hj)) hb.size, fun j hj => .inl hj, fun j hj => ?_, hr, .inr rfl, hn, hr, .inr rfl, hn, fun h => absurd h (by simp), fun _ => rfl, ⟨fun i x hi => by simp at hi, fun i x hi => by simp at hi⟩⟩
  rcases hj with hj | rfl
  · have := C.lt hl j hj
    simp; omega
  · simp
/-- One book more. -/
theorem BS.push (C : Chn Lg) (h : BS Lg w (fun j => j = L) W L c gs) {W3 W4 : World} (hb : Below W.heap.size W W3) {F : Nat → Prop} {g : Nat} (hk : Bk Lg F W3 g []) (hF : ∀ j, F j → W.heap.size ≤ j) {ao' : Option Addr} {c' : Nat}
    (ho : W4.ownsRow w.heap.size 24 1 (.slice ao' (gs.length + 1) c') (gs.length + 1) (gs.map PBk ++ [PBk g])) (hb4 : Below w.heap.size W3 W4) (hz : W3.heap.size ≤ W4.heap.size) (hq : ∀ k, k < W3.heap.size → (∀ G, some (⟨L, 0, none⟩ : Addr) = some ⟨G, 0, none⟩ → k ≠ G) → W4.heap[k]? = W3.heap[k]?) (hw : ao' = some ⟨L, 0, none⟩ ∨ ao' = some ⟨W3.heap.size, 0, none⟩) :
    ∃ L', ao' = some ⟨L', 0, none⟩ ∧ BS Lg w (fun j => j = L') W4 L' c' (gs ++ [g]) := by
  have hLl := h.lt
  have h3 := h.below C hb
  obtain ⟨Fs, f1, f2, f3, f4⟩ := h.fam
  obtain ⟨L', e1, hL'⟩ : ∃ L', ao' = some ⟨L', 0, none⟩ ∧ (L' = L ∨ L' = W3.heap.size) := by
    rcases hw with e | e
    · exact ⟨L, e, .inl rfl⟩
    · exact ⟨_, e, .inr rfl⟩
  subst e1
  have lg : (gs ++ [g]).length = gs.length + 1 := by simp
  have hold : ∀ (i : Nat) (g' : Nat), gs[i]? = some g' → ∃ xs, Bk Lg (Fs i) W3 g' xs ∧ (∀ j, Fs i j → j < W.heap.size) := fun i g' hi => by
    obtain ⟨xs, hx⟩ := f1 i g' hi
    exact ⟨xs, hx.keep C (fun j hj => hb.block j (hx.lt j hj)) hb.size, hx.lt⟩
  have hk4 : ∀ (j : Nat), j < W3.heap.size → j ≠ L → W4.heap[j]? = W3.heap[j]? := fun j hj hne => hq j hj fun G e => by injection e with e; injection e with e; omega
  have hlt : ∀ i j, i < gs.length → Fs i j → j < W.heap.size := fun i j hi hj => by
    obtain ⟨xs, _, hx⟩ := hold i _ (List.getElem?_eq_getElem hi)
    exact hx j hj
  refine ⟨L', rfl, h3.bel.trans hb4, ?_, by omega, rfl, upF gs.length F Fs, fun k g' hk2 => ?_, fun k j hk2 hj => ?_, fun k m j hk2 hm hne hj hj2 => ?_, fun k j hk2 hj ho => ?_⟩
  · rw [lg, List.map_append]; exact ho
  · by_cases hkg : k = gs.length
    · subst hkg
      rw [List.getElem?_append_right (Nat.le_refl _)] at hk2
      simp at hk2
      subst hk2
      exact ⟨[], by rw [upF_eq rfl]; exact hk.keep C (fun j hj => hk4 j (hk.lt j hj) (by have := hF j hj; omega)) hz⟩
    · have hkl := (List.getElem?_eq_some_iff.1 hk2).1
      rw [lg] at hkl
      rw [List.getElem?_append_left (by omega)] at hk2
      obtain ⟨xs, hx, hx2⟩ := hold k g' hk2
      exact ⟨xs, by rw [upF_ne hkg]; exact hx.keep C (fun j hj => hk4 j (hx.lt j hj) fun e => f4 k j (by omega) hj e) hz⟩
  · by_cases hkg : k = gs.length
    · rw [upF_eq hkg] at hj; exact Nat.le_trans h.bel.size (hF j hj)
    · rw [upF_ne hkg] at hj; exact f2 k j (by omega) hj
  · by_cases hkg : k = gs.length
    · rw [upF_eq hkg] at hj
      rw [upF_ne (by omega)] at hj2
      have := hF j hj
      have := hlt m j (by omega) hj2
      omega
    · rw [upF_ne hkg] at hj
      by_cases hmg : m = gs.length
      · rw [upF_eq hmg] at hj2
        have := hF j hj2
        have := hlt k j (by omega) hj
        omega
      · rw [upF_ne hmg] at hj2
        exact f3 k m j (by omega) (by omega) hne hj hj2
  · by_cases hkg : k = gs.length
    · rw [upF_eq hkg] at hj
      have := hF j hj
      have := hk.lt j hj
      rcases hL' with e | e <;> omega
    · rw [upF_ne hkg] at hj
      have := hlt k j (by omega) hj
      have := hb.size
      rcases hL' with e | e
      · exact f4 k j (by omega) hj (by omega)
      · omega
end
/-- A step of the script that came in. -/
def OpIn (w : World) (SB o : Nat) : Prop := ∃ k on x ko kn kc key no nb nc nonce, w.rangeAt SB o (opC k on x ko kn kc no nb nc) ∧ EvOk x ∧ key.length = kn ∧ IsB w ko key ∧ ((ko = none → kc = 0) ∧ kn ≤ kc) ∧ kn ≤ 140737488351232 ∧ nonce.length = nb ∧ IsB w no nonce ∧ ((no = none → nc = 0) ∧ nb ≤ nc) ∧ nb ≤ 140737488351232
end Go.Proofs.Ythegfkcegmeklaa
