import Derived.Test.YtgpnbiaghokjkaaDoorD21LPs

/-! Layer 21 as plain data: how long a text is, which line an error tells. -/
namespace Go.Proofs.YtgpnbiaghokjkaaDoor
open Go.RowKit
set_option linter.unusedVariables false
set_option linter.unusedSimpArgs false
set_option maxRecDepth 100000

theorem line_split : ∀ (t l r : List By), lineOf t = some (l, r) → l.length + 1 + r.length = t.length := by
  intro t
  induction t with
  | nil => intro l r h; cases h
  | cons x t ih =>
    intro l r h
    rw [lineOf] at h
    split at h
    · injection h with h; injection h with h1 h2; subst h1; subst h2; simp; omega
    · split at h
      · rename_i a' b' hab
        injection h with h; injection h with h1 h2; subst h1; subst h2
        have := ih _ _ hab
        rw [List.length_cons, List.length_cons]; omega
      · cases h
theorem cellsP_line (C : Nat) : ∀ (k : Nat) (t : List By) (ln : Nat) (last : Int) (g : List (List By)),
    (∀ m, cellsP C k t ln last g = .error m → 1 ≤ m ∧ m ≤ ln + 1 + t.length) ∧ (∀ g' r ln', cellsP C k t ln last g = .ok (g', r, ln') → ln' + r.length ≤ ln + t.length)
  | 0, t, ln, last, g => by
    refine ⟨fun m h => (by cases h), fun g' r ln' h => ?_⟩
    injection h with h; injection h with h1 h; injection h with h2 h3; subst h2; subst h3; exact Nat.le_refl _
  | k + 1, t, ln, last, g => by
    rw [cellsP]
    split
    · cases hl : lineOf t with
      | none =>
        dsimp only
        refine ⟨fun m h => by injection h with h; omega, fun g' r ln' h => by cases h⟩
      | some q =>
        obtain ⟨l, r⟩ := q
        have hs := line_split t l r hl
        dsimp only
        cases ho : one? l with
        | none =>
          dsimp only
          refine ⟨fun m h => by injection h with h; omega, fun g' r ln' h => by cases h⟩
        | some q =>
          obtain ⟨n, x⟩ := q
          dsimp only
          split
          · refine ⟨fun m h => by injection h with h; omega, fun g' r ln' h => by cases h⟩
          · have ih := cellsP_line C k r (ln + 1) n (g.set n x)
            refine ⟨fun m h => ?_, fun g' r' ln' h => ?_⟩
            · have := ih.1 m h; omega
            · have := ih.2 g' r' ln' h; omega
    · refine ⟨fun m h => (by cases h), fun g' r ln' h => ?_⟩
      injection h with h; injection h with h1 h; injection h with h2 h3; subst h2; subst h3; exact Nat.le_refl _
theorem pageP_line (C p : Nat) (t : List By) (ln : Nat) : (∀ m, pageP C p t ln = .error m → 1 ≤ m ∧ m ≤ ln + 1 + t.length) ∧ (∀ g e r ln', pageP C p t ln = .ok (g, e, r, ln') → ln' + r.length ≤ ln + t.length) := by
  unfold pageP
  cases hl : lineOf t with
  | none =>
    dsimp only
    refine ⟨fun m h => by injection h with h; omega, fun g e r ln' h => by cases h⟩
  | some q =>
    obtain ⟨l, r⟩ := q
    have hs := line_split t l r hl
    dsimp only
    split
    · split
      · have ih := cellsP_line C r.length r (ln + 1) (-1) (List.replicate C (List.replicate 32 255#8))
        split
        · rename_i g2 r2 ln2 hc
          refine ⟨fun m h => (by cases h), fun g e r' ln' h => ?_⟩
          injection h with h; injection h with h1 h; injection h with h2 h; injection h with h3 h4
          subst h3; subst h4
          have := ih.2 _ _ _ hc
          omega
        · rename_i k hc
          refine ⟨fun m h => ?_, fun g e r' ln' h => by cases h⟩
          injection h with h
          subst h
          have := ih.1 _ hc
          omega
      · refine ⟨fun m h => by injection h with h; omega, fun g e r ln' h => by cases h⟩
    · refine ⟨fun m h => by injection h with h; omega, fun g e r ln' h => by cases h⟩
theorem pagesP_line (C : Nat) : ∀ (k p : Nat) (t : List By) (ln : Nat),
    (∀ m, pagesP C k p t ln = .error m → 1 ≤ m ∧ m ≤ ln + 1 + t.length) ∧ (∀ gs es r ln', pagesP C k p t ln = .ok (gs, es, r, ln') → ln' + r.length ≤ ln + t.length)
  | 0, p, t, ln => by
    refine ⟨fun m h => (by cases h), fun gs es r ln' h => ?_⟩
    injection h with h; injection h with h1 h; injection h with h2 h; injection h with h3 h4; subst h3; subst h4; exact Nat.le_refl _
  | k + 1, p, t, ln => by
    rw [pagesP]
    have h0 := pageP_line C p t ln
    cases hp : pageP C p t ln with
    | error k' =>
      dsimp only
      refine ⟨fun m h => ?_, fun gs es r ln' h => by cases h⟩
      injection h with h
      subst h
      exact h0.1 _ hp
    | ok q =>
      obtain ⟨g, e, r, ln2⟩ := q
      have h1 := h0.2 _ _ _ _ hp
      have ih := pagesP_line C k (p + 1) r ln2
      dsimp only
      cases hq : pagesP C k (p + 1) r ln2 with
      | error k' =>
        dsimp only
        refine ⟨fun m h => ?_, fun gs es r ln' h => by cases h⟩
        injection h with h
        subst h
        have := ih.1 _ hq
        omega
      | ok q =>
        obtain ⟨gs, es, r2, ln3⟩ := q
        dsimp only
        refine ⟨fun m h => (by cases h), fun gs' es' r' ln' h => ?_⟩
        injection h with h; injection h with h1 h; injection h with h2 h; injection h with h3 h4
        subst h3; subst h4
        have := ih.2 _ _ _ _ hq
        omega
theorem parse_line {T : List By} {k : Int} {l : Nat} (h : parseL T = .error (k, l)) : (k = 5 ∨ k = 1) ∧ 1 ≤ l ∧ l ≤ T.length + 1 := by
  unfold parseL at h
  split at h
  · injection h with h; injection h with h1 h2; omega
  · rename_i l0 r hl
    have hs := line_split T l0 r hl
    split at h
    · injection h with h; injection h with h1 h2; omega
    · rename_i c hc
      split at h
      · split at h
        · injection h with h; injection h with h1 h2; omega
        · rename_i l2 r2 hl2
          have hs2 := line_split r l2 r2 hl2
          split at h
          · injection h with h; injection h with h1 h2; omega
          · rename_i bl hbl
            have hp := pagesP_line c.cells.toNat (2 + 2 * c.area).toNat 0 r2 2
            split at h
            · rename_i k' hk
              have := hp.1 _ hk
              injection h with h; injection h with h1 h2; omega
            · rename_i gs es r3 ln hk
              have := hp.2 _ _ _ _ hk
              split at h
              · cases h
              · rename_i hr3
                have : 0 < r3.length := List.length_pos_iff.2 hr3
                injection h with h; injection h with h1 h2; omega
      · injection h with h; injection h with h1 h2; omega
end Go.Proofs.YtgpnbiaghokjkaaDoor


/-! Layer 21: append in place or elsewhere, and what it leaves of what was there. -/
namespace Go.Proofs.YtgpnbiaghokjkaaDoor
open Go.RowKit
set_option linter.unusedVariables false
set_option linter.unusedSimpArgs false
set_option maxRecDepth 100000

end Go.Proofs.YtgpnbiaghokjkaaDoor


/-! Layer 21: a chip that was told, in memory of its own; what a mark in all its lists makes of it. -/
namespace Go.Proofs.YtgpnbiaghokjkaaDoor
open Go.RowKit
set_option linter.unusedVariables false
set_option linter.unusedSimpArgs false
set_option maxRecDepth 100000

def mcell (k : Nat) : List By := BitVec.ofNat 8 k :: List.replicate 31 0
/-- All blocks but those from N on below M are as they were. -/
structure KeptR (N M : Nat) (w w' : World) : Prop where
  os : w'.os = w.os
  tape : w'.tape = w.tape
  output : w'.output = w.output
  size : w.heap.size ≤ w'.heap.size
  block : ∀ k, k < w.heap.size → ¬ (N ≤ k ∧ k < M) → w'.heap[k]? = w.heap[k]?
/-- A chip that was told, in memory of its own, from the block N on below M. -/
structure Tld (N M : Nat) (w : World) (v : SV) (t : St) (qs : List Value) : Prop where
  pr : w.ownsRow N 57 1 (.slice v.po t.pages.length v.pc) t.pages.length qs
  pg : ∀ (i : Nat) (x : Value) (g : List (List By)), qs[i]? = some x → t.pages[i]? = some g → OwnC N w x g
  er : w.ownsRow N 3 1 (.slice v.eo t.erases.length v.ec) t.erases.length (t.erases.map (Value.int .i64))
  bl : w.ownsRow N 4 1 (.slice v.bo t.blown.length v.bc) t.blown.length (t.blown.map Value.bool)
  ne : ∀ g ∈ t.pages, 0 < g.length
  qq : ∀ (i j B n c n' c' : Nat), i ≠ j → qs[i]? = some (.slice (some ⟨B, 0, none⟩) n c) → qs[j]? ≠ some (.slice (some ⟨B, 0, none⟩) n' c')
  up : M ≤ w.heap.size
  upp : ∀ B, v.po = some ⟨B, 0, none⟩ → B < M
  upe : ∀ B, v.eo = some ⟨B, 0, none⟩ → B < M
  upb : ∀ B, v.bo = some ⟨B, 0, none⟩ → B < M
  upq : ∀ (j B n c : Nat), qs[j]? = some (.slice (some ⟨B, 0, none⟩) n c) → B < M
section
variable {N M : Nat} {w : World} {v : SV} {t : St} {qs : List Value}
end
/-- Between two pages of spoil. -/
structure SI (N M : Nat) (w1 : World) (v : SV) (t : St) (qs : List Value) (k i : Nat) (W : World) : Prop where
  kr : KeptR N M w1 W
  pr : W.ownsRow N 57 1 (.slice v.po t.pages.length v.pc) t.pages.length qs
  dn : ∀ (j G n c : Nat) (g : List (List By)), j < i → qs[j]? = some (.slice (some ⟨G, 0, none⟩) n c) → t.pages[j]? = some g → IsL W (some ⟨G, 0, none⟩) ((g.map fun _ => mcell k).flatten.map B8)
  td : ∀ (j : Nat) (x : Value) (g : List (List By)), i ≤ j → qs[j]? = some x → t.pages[j]? = some g → OwnC N W x g
  er : W.ownsRow N 3 1 (.slice v.eo t.erases.length v.ec) t.erases.length (t.erases.map (Value.int .i64))
  bl : W.ownsRow N 4 1 (.slice v.bo t.blown.length v.bc) t.blown.length (t.blown.map Value.bool)
section
variable {N M : Nat} {w1 : World} {v : SV} {t : St} {qs : List Value} {k i : Nat} {W W' : World}
end
/-- Behind the pages. -/
structure SJ (N M : Nat) (w1 : World) (v : SV) (t : St) (qs : List Value) (k : Nat) (W : World) : Prop where
  kr : KeptR N M w1 W
  pr : W.ownsRow N 57 1 (.slice v.po t.pages.length v.pc) t.pages.length qs
  dn : ∀ (j G n c : Nat) (g : List (List By)), qs[j]? = some (.slice (some ⟨G, 0, none⟩) n c) → t.pages[j]? = some g → IsL W (some ⟨G, 0, none⟩) ((g.map fun _ => mcell k).flatten.map B8)
section
variable {N M : Nat} {w1 : World} {v : SV} {t : St} {qs : List Value} {k : Nat} {W W' : World}
end
section
variable {N M : Nat} {w1 : World} {v : SV} {t : St} {qs : List Value} {k : Nat} {W W' : World}
end
section
variable {N M : Nat} {W W' : World} {v : SV} {t : St} {qs : List Value} {k : Nat}
end
end Go.Proofs.YtgpnbiaghokjkaaDoor


/-! Layer 21: spoil. -/
namespace Go.Proofs.YtgpnbiaghokjkaaDoor
open Go.RowKit
set_option linter.unusedVariables false
set_option linter.unusedSimpArgs false
set_option maxRecDepth 100000

end Go.Proofs.YtgpnbiaghokjkaaDoor


/-! Layer 21: spoilt. -/
namespace Go.Proofs.YtgpnbiaghokjkaaDoor
open Go.RowKit
set_option linter.unusedVariables false
set_option linter.unusedSimpArgs false
set_option maxRecDepth 100000

end Go.Proofs.YtgpnbiaghokjkaaDoor


/-! Layer 21: few. -/
namespace Go.Proofs.YtgpnbiaghokjkaaDoor
open Go.RowKit
set_option linter.unusedVariables false
set_option linter.unusedSimpArgs false
set_option maxRecDepth 100000

end Go.Proofs.YtgpnbiaghokjkaaDoor


/-! Layer 21, the document's answer: what has come up of a page's copy. -/
namespace Go.Proofs.YtgpnbiaghokjkaaDoor
open Go.RowKit
set_option linter.unusedVariables false
set_option linter.unusedSimpArgs false
set_option maxRecDepth 100000

section
variable {N D g1 i n : Nat} {flat qs : List Value} {po : Option Addr} {W1 : World} {l25 l26 l27 l12 : Bool} {x25 x26 x27 : Value} {W W2 : World}
end
end Go.Proofs.YtgpnbiaghokjkaaDoor


/-! Layer 21, the document's answer: Copy. (Printed by tools/gend21.py.) -/
namespace Go.Proofs.YtgpnbiaghokjkaaDoor
open Go.RowKit
set_option linter.unusedVariables false
set_option linter.unusedSimpArgs false
set_option maxRecDepth 100000

section
variable {W1 : World} {N D g1 S0 ci n PB poff np vpc qc pc : Nat} {flat qs : List Value} {po qo : Option Addr} {L : Nat → Bool} {x17 x18 x19 x20 x21 x22 x23 x24 x25 x26 x27 x28 : Value} {W W2 : World}
end
end Go.Proofs.YtgpnbiaghokjkaaDoor


/-! Layer 21: chips that were told, beside one another. -/
namespace Go.Proofs.YtgpnbiaghokjkaaDoor
open Go.RowKit
set_option linter.unusedVariables false
set_option linter.unusedSimpArgs false
set_option maxRecDepth 100000

/-- What Parse tells, in memory of its own. -/
def ParO (T : List By) (w : World) (e : Ending) (w' : World) : Prop :=
  ∃ v qs, e = Tells4 (parseR T).1 v (parseR T).2.1 (parseR T).2.2.1 (parseR T).2.2.2 ∧ StV w' v (parseR T).2.1 ∧ Tld w.heap.size w'.heap.size w' v (parseR T).2.1 qs ∧ Below w.heap.size w w'
abbrev Ch := SV × List Value × Nat × Nat
section
variable {Y : Nat} {t : St} {f : Nat → Option Nat} {ts : List Ch} {W W' : World}
end
section
variable {Y : Nat} {t : St} {ts : List Ch} {ao : Option Addr} {c : Nat} {W W' : World}
end
end Go.Proofs.YtgpnbiaghokjkaaDoor
