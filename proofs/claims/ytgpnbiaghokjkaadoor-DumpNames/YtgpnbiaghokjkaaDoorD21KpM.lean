import Derived.Test.YtgpnbiaghokjkaaDoorD21Law
/-! Layer 21: DumpPrints, DumpNames, of any code that keeps its contracts. (Printed by tools/genlaw21.py.) -/
namespace Go.Proofs.YtgpnbiaghokjkaaDoor
open Go.RowKit
set_option linter.unusedVariables false
set_option linter.unusedSimpArgs false
set_option maxRecDepth 100000

theorem cfg_len (c : Cfg) : c.vals.length = 7 := rfl
theorem cfg_one (c : Cfg) : ∀ u ∈ c.vals, Value.oneCell' u = true := by intro u hu; simp [Cfg.vals] at hu; rcases hu with rfl | rfl | rfl | rfl | rfl | rfl | rfl <;> rfl
theorem sv_len (v : SV) (t : St) : (v.vals t).length = 3 := rfl
theorem sv_one (v : SV) (t : St) : ∀ u ∈ v.vals t, Value.oneCell' u = true := by intro u hu; simp [SV.vals] at hu; rcases hu with rfl | rfl | rfl <;> rfl

set_option maxHeartbeats 4000000 in
theorem l21names_any (DM : Dmp) (w : World) (hq : Tab w) : Calls Tryd.prog 3 #[] w fun e w' => e = .returned (.bool true) ∧ Below w.heap.size w w' := by
  have HAW : Hid (∀ W : World, Tab W → Calls Tryd.prog 9 #[] W fun e w' => e = .returned (.bool true) ∧ Below W.heap.size W w') := fun W hW => l21awake_any DM W hW
  have HQ : Hid (∀ W, Below w.heap.size w W → Tab W) := fun W hW => hq.on hW (Nat.le_refl _)
  clear hq
  go_enter Tryd.func3, Tryd.ntmps3
  go_wp2_with fail
  refine (HAW.out _ (HQ.out _ (Below.refl _ _))).mono ?_
  rintro e w1 ⟨rfl, hb1⟩
  dsimp only
  go_wp2
  go_ret
  exact ⟨rfl, hb1⟩

set_option maxHeartbeats 4000000 in
theorem l21prints_any (DM : Dmp) (c : Cfg) (v : SV) (t : St) (w : World) (hq : Tab w) (h : StV w v t) (hl : Lens t) (he : ∀ e ∈ t.erases, e < 9223372036854775808) :
    Calls Tryd.prog 4 #[.agg c.vals.toArray, .agg (v.vals t).toArray] w fun e w' => e = .returned (.bool true) ∧ Below w.heap.size w w' := by
  have HAW : Hid (∀ W : World, Tab W → Calls Tryd.prog 9 #[] W fun e w' => e = .returned (.bool true) ∧ Below W.heap.size W w') := fun W hW => l21awake_any DM W hW
  have HQ : Hid (∀ W, Below w.heap.size w W → Tab W) := fun W hW => hq.on hW (Nat.le_refl _)
  have HPR : Hid (∀ W, Below w.heap.size w W → Calls Tryd.prog 10 #[.agg c.vals.toArray, .agg (v.vals t).toArray] W (PrintP c t W)) := fun W hW => DM.print c v t W (hq.on hW (Nat.le_refl _)) (h.below hW (Nat.le_refl _)) hl he
  have HRP : Hid (∀ W, Below w.heap.size w W → Calls Tryd.prog 11 #[.agg c.vals.toArray, .agg (v.vals t).toArray] W (PrintP c t W)) := fun W hW => r21print_any c v t W (h.below hW (Nat.le_refl _)) hl he
  have lc := cfg_len c
  have ls := sv_len v t
  have r0 : Row ((w.alloc (.cells c.vals.toArray 24)).alloc (.cells (v.vals t).toArray 29)) w.heap.size 24 c.vals := (Row.at _ _ _ _ _ rfl rfl).alloc _
  have s0 : Row ((w.alloc (.cells c.vals.toArray 24)).alloc (.cells (v.vals t).toArray 29)) (w.heap.size + 1) 29 (v.vals t) := Row.at _ _ _ _ _ (by simp) rfl
  have b0 : Below w.heap.size w ((w.alloc (.cells c.vals.toArray 24)).alloc (.cells (v.vals t).toArray 29)) := ((Below.refl _ _).alloc (Nat.le_refl _) _).alloc (by simp) _
  generalize c.vals = CV at *
  generalize v.vals t = XS at *
  have HR0 : Hid (Row ((w.alloc (.cells CV.toArray 24)).alloc (.cells XS.toArray 29)) w.heap.size 24 CV) := r0
  have HS0 : Hid (Row ((w.alloc (.cells CV.toArray 24)).alloc (.cells XS.toArray 29)) (w.heap.size + 1) 29 XS) := s0
  have HB0 : Hid (Below w.heap.size w ((w.alloc (.cells CV.toArray 24)).alloc (.cells XS.toArray 29))) := b0
  clear r0 s0 b0 h he hl hq
  go_enter Tryd.func4, Tryd.ntmps4
  go_wp2_with fail
  generalize (w.alloc (.cells CV.toArray 24)).alloc (.cells XS.toArray 29) = W0 at *
  refine (HAW.out _ (HQ.out _ HB0.out)).mono ?_
  rintro e w1 ⟨rfl, hb1⟩
  have r1 : Row w1 w.heap.size 24 CV := HR0.out.below hb1 HR0.out.lt
  have s1 : Row w1 (w.heap.size + 1) 29 XS := HS0.out.below hb1 HS0.out.lt
  have HB1 : Hid (Below w.heap.size w w1) := HB0.out.trans (hb1.mono HB0.out.size)
  clear HR0 HS0 HB0 hb1
  dsimp only
  go_wp2_with (first | (refine wpList_load_Row rfl 24 _ rfl _ _ CV r1 rfl _ Tryd.underlying24 rfl (by rw [lc]; kernel_rfl) ?_) | (refine wpList_load_Row rfl 29 _ rfl _ _ XS s1 rfl _ Tryd.underlying29 rfl (by rw [ls]; kernel_rfl) ?_))
  refine (HPR.out _ HB1.out).mono ?_
  rintro e w2 ⟨T1, k1, hp1, rfl, hb2⟩
  have r2 : Row w2 w.heap.size 24 CV := r1.below hb2 r1.lt
  have s2 : Row w2 (w.heap.size + 1) 29 XS := s1.below hb2 s1.lt
  have HB2 : Hid (Below w.heap.size w w2) := HB1.out.trans (hb2.mono HB1.out.size)
  have HP1 : Hid (PrP c t T1 k1) := hp1
  clear r1 s1 HB1 hb2 hp1
  dsimp only
  generalize hS1 : strOf T1 = S1 at *
  have HS1 : Hid (strOf T1 = S1) := hS1
  clear hS1
  go_wp2_with (first | (refine wpList_load_Row rfl 24 _ rfl _ _ CV r2 rfl _ Tryd.underlying24 rfl (by rw [lc]; kernel_rfl) ?_) | (refine wpList_load_Row rfl 29 _ rfl _ _ XS s2 rfl _ Tryd.underlying29 rfl (by rw [ls]; kernel_rfl) ?_))
  refine (HRP.out _ HB2.out).mono ?_
  rintro e w3 ⟨T2, k2, hp2, rfl, hb3⟩
  obtain ⟨hT, hk⟩ := HP1.out.one hp2
  subst hT
  subst hk
  rw [HS1.out]
  have HB3 : Hid (Below w.heap.size w w3) := HB2.out.trans (hb3.mono HB2.out.size)
  clear r2 s2 HB2 hb3 hp2 HP1 HS1
  dsimp only
  go_wp2
  go_ret
  exact ⟨by first | rfl | simp, HB3.out⟩
end Go.Proofs.YtgpnbiaghokjkaaDoor

/-! Layer 21: DumpParses, of any code that keeps its contracts. (Printed by tools/genlaw21.py.) -/
namespace Go.Proofs.YtgpnbiaghokjkaaDoor
open Go.RowKit
set_option linter.unusedVariables false
set_option linter.unusedSimpArgs false
set_option maxRecDepth 100000

theorem fit_lens {c : Cfg} {t : St} (hm : c.may = 0) (hf : Fit c t) : Lens t := by
  obtain ⟨m1, m2, m3, m4, m5, m6, m7⟩ := may_all hm
  obtain ⟨h1, h2, h3, h4⟩ := hf
  have hprod : c.slots * c.fuses ≤ 512 := by
    have := Int.mul_le_mul m1.2 m3.2 (by omega) (by omega); omega
  refine ⟨by omega, by omega, by omega, fun p hp => ?_⟩
  obtain ⟨i, hi, rfl⟩ := List.getElem_of_mem hp
  have := (h4 i hi).1
  rw [List.getD_eq_getElem?_getD, List.getElem?_eq_getElem hi] at this
  simp at this
  omega
end Go.Proofs.YtgpnbiaghokjkaaDoor


/-! Layer 21 as plain data: how long a text is, which line an error tells. -/
namespace Go.Proofs.YtgpnbiaghokjkaaDoor
open Go.RowKit
set_option linter.unusedVariables false
set_option linter.unusedSimpArgs false
set_option maxRecDepth 100000

theorem numF_ln : ∀ (k n : Nat), (numF k n).length ≤ k + 1
  | 0, n => by simp [numF]
  | k + 1, n => by
    rw [numF]
    split
    · simp
    · rw [List.length_append]
      have := numF_ln k (n / 10)
      simp; omega
theorem num_ln (n : Nat) : (num n).length ≤ 21 := numF_ln 20 n
theorem numsL_ln : ∀ (l : List Nat), (numsL l).length ≤ 22 * l.length
  | [] => by simp [numsL]
  | n :: l => by
    have h := numsL_ln l
    have h1 := num_ln n
    unfold numsL at h ⊢
    rw [List.flatMap_cons, List.length_append, List.length_cons, List.length_cons]
    omega
theorem trues_ln : ∀ (l : List Bool) (i : Nat), (trues l i).length ≤ l.length
  | [], i => by simp [trues]
  | b :: l, i => by
    have := trues_ln l (i + 1)
    rw [trues]
    split
    · rw [List.length_cons, List.length_cons]; omega
    · rw [List.length_cons]; omega
theorem hexC_ln (x : List By) : (hexC x).length = 2 * x.length := by
  unfold hexC
  induction x with
  | nil => rfl
  | cons a x ih => rw [List.flatMap_cons, List.length_append, ih, List.length_cons]; simp [hexB]; omega
theorem cellsL_ln : ∀ (g : List (List By)) (i : Nat), (∀ x ∈ g, x.length = 32) → (cellsL g i).length ≤ 92 * g.length
  | [], i, _ => by simp [cellsL]
  | x :: g, i, h => by
    have ih := cellsL_ln g (i + 1) (fun y hy => h y (List.mem_cons_of_mem _ hy))
    have hx := h x (List.mem_cons_self ..)
    have h1 := num_ln i
    have h2 := hexC_ln x
    rw [cellsL, List.length_append, List.length_cons]
    have : (if x = List.replicate 32 255#8 then [] else cellL i x).length ≤ 92 := by
      split
      · simp
      · unfold cellL; simp [wCell]; omega
    omega
theorem pagesL_ln : ∀ (gs : List (List (List By))) (es : List Int) (p : Nat), (∀ g ∈ gs, g.length ≤ 256 ∧ ∀ x ∈ g, x.length = 32) → (pagesL gs es p).length ≤ 23601 * gs.length
  | [], es, p, _ => by simp [pagesL]
  | g :: gs, es, p, h => by
    have ih := pagesL_ln gs es.tail (p + 1) (fun y hy => h y (List.mem_cons_of_mem _ hy))
    obtain ⟨hg1, hg2⟩ := h g (List.mem_cons_self ..)
    have h1 := cellsL_ln g 0 hg2
    have h2 := num_ln p
    have h3 := num_ln (es.headD 0).toNat
    rw [pagesL, List.length_append, List.length_append, List.length_cons]
    generalize es.headD 0 = E at *
    have : (headL p E).length ≤ 49 := by unfold headL; simp [wPage]; omega
    omega
theorem printL_len {c : Cfg} {t : St} (h : Fit32 c t) : (printL c t).length ≤ 4000000 := by
  obtain ⟨hm, ⟨f1, f2, f3, f4⟩, h32⟩ := h
  obtain ⟨m1, m2, m3, m4, m5, m6, m7⟩ := may_all hm
  have hprod : c.slots * c.fuses ≤ 512 := by
    have := Int.mul_le_mul m1.2 m3.2 (by omega) (by omega); omega
  have h1 := numsL_ln c.nums
  have h2 := numsL_ln (trues t.blown 0)
  have h3 := trues_ln t.blown 0
  have h4 := pagesL_ln t.pages t.erases 0 (fun g hg => by
    obtain ⟨i, hi, rfl⟩ := List.getElem_of_mem hg
    have := (f4 i hi).1
    rw [List.getD_eq_getElem?_getD, List.getElem?_eq_getElem hi] at this
    simp at this
    exact ⟨by omega, h32 _ (List.getElem_mem hi)⟩)
  have h5 : c.nums.length = 7 := rfl
  have h6 : t.blown.length ≤ 576 := by omega
  have h7 : t.pages.length ≤ 130 := by omega
  unfold printL
  simp only [List.length_append, List.length_cons, List.length_nil, wChip, wBlown]
  omega

theorem line_split : ∀ (t l r : List By), lineOf t = some (l, r) → l.length + 1 + r.length = t.length := by
  intro t
  induction t with
  | nil => intro l r h; cases h
  | cons x t ih =>
    intro l r h
    rw [lineOf] at h
    split at h
    · injection h with h; injection h with h1 h2; subst h1; subst h2; simp; omega
    · split at h
      · rename_i a' b' hab
        injection h with h; injection h with h1 h2; subst h1; subst h2
        have := ih _ _ hab
        rw [List.length_cons, List.length_cons]; omega
      · cases h
theorem cellsP_line (C : Nat) : ∀ (k : Nat) (t : List By) (ln : Nat) (last : Int) (g : List (List By)),
    (∀ m, cellsP C k t ln last g = .error m → 1 ≤ m ∧ m ≤ ln + 1 + t.length) ∧ (∀ g' r ln', cellsP C k t ln last g = .ok (g', r, ln') → ln' + r.length ≤ ln + t.length)
  | 0, t, ln, last, g => by
    refine ⟨fun m h => (by cases h), fun g' r ln' h => ?_⟩
    injection h with h; injection h with h1 h; injection h with h2 h3; subst h2; subst h3; exact Nat.le_refl _
  | k + 1, t, ln, last, g => by
    rw [cellsP]
    split
    · cases hl : lineOf t with
      | none =>
        dsimp only
        refine ⟨fun m h => by injection h with h; omega, fun g' r ln' h => by cases h⟩
      | some q =>
        obtain ⟨l, r⟩ := q
        have hs := line_split t l r hl
        dsimp only
        cases ho : one? l with
        | none =>
          dsimp only
          refine ⟨fun m h => by injection h with h; omega, fun g' r ln' h => by cases h⟩
        | some q =>
          obtain ⟨n, x⟩ := q
          dsimp only
          split
          · refine ⟨fun m h => by injection h with h; omega, fun g' r ln' h => by cases h⟩
          · have ih := cellsP_line C k r (ln + 1) n (g.set n x)
            refine ⟨fun m h => ?_, fun g' r' ln' h => ?_⟩
            · have := ih.1 m h; omega
            · have := ih.2 g' r' ln' h; omega
    · refine ⟨fun m h => (by cases h), fun g' r ln' h => ?_⟩
      injection h with h; injection h with h1 h; injection h with h2 h3; subst h2; subst h3; exact Nat.le_refl _
theorem pageP_line (C p : Nat) (t : List By) (ln : Nat) : (∀ m, pageP C p t ln = .error m → 1 ≤ m ∧ m ≤ ln + 1 + t.length) ∧ (∀ g e r ln', pageP C p t ln = .ok (g, e, r, ln') → ln' + r.length ≤ ln + t.length) := by
  unfold pageP
  cases hl : lineOf t with
  | none =>
    dsimp only
    refine ⟨fun m h => by injection h with h; omega, fun g e r ln' h => by cases h⟩
  | some q =>
    obtain ⟨l, r⟩ := q
    have hs := line_split t l r hl
    dsimp only
    split
    · split
      · have ih := cellsP_line C r.length r (ln + 1) (-1) (List.replicate C (List.replicate 32 255#8))
        split
        · rename_i g2 r2 ln2 hc
          refine ⟨fun m h => (by cases h), fun g e r' ln' h => ?_⟩
          injection h with h; injection h with h1 h; injection h with h2 h; injection h with h3 h4
          subst h3; subst h4
          have := ih.2 _ _ _ hc
          omega
        · rename_i k hc
          refine ⟨fun m h => ?_, fun g e r' ln' h => by cases h⟩
          injection h with h
          subst h
          have := ih.1 _ hc
          omega
      · refine ⟨fun m h => by injection h with h; omega, fun g e r ln' h => by cases h⟩
    · refine ⟨fun m h => by injection h with h; omega, fun g e r ln' h => by cases h⟩
theorem pagesP_line (C : Nat) : ∀ (k p : Nat) (t : List By) (ln : Nat),
    (∀ m, pagesP C k p t ln = .error m → 1 ≤ m ∧ m ≤ ln + 1 + t.length) ∧ (∀ gs es r ln', pagesP C k p t ln = .ok (gs, es, r, ln') → ln' + r.length ≤ ln + t.length)
  | 0, p, t, ln => by
    refine ⟨fun m h => (by cases h), fun gs es r ln' h => ?_⟩
    injection h with h; injection h with h1 h; injection h with h2 h; injection h with h3 h4; subst h3; subst h4; exact Nat.le_refl _
  | k + 1, p, t, ln => by
    rw [pagesP]
    have h0 := pageP_line C p t ln
    cases hp : pageP C p t ln with
    | error k' =>
      dsimp only
      refine ⟨fun m h => ?_, fun gs es r ln' h => by cases h⟩
      injection h with h
      subst h
      exact h0.1 _ hp
    | ok q =>
      obtain ⟨g, e, r, ln2⟩ := q
      have h1 := h0.2 _ _ _ _ hp
      have ih := pagesP_line C k (p + 1) r ln2
      dsimp only
      cases hq : pagesP C k (p + 1) r ln2 with
      | error k' =>
        dsimp only
        refine ⟨fun m h => ?_, fun gs es r ln' h => by cases h⟩
        injection h with h
        subst h
        have := ih.1 _ hq
        omega
      | ok q =>
        obtain ⟨gs, es, r2, ln3⟩ := q
        dsimp only
        refine ⟨fun m h => (by cases h), fun gs' es' r' ln' h => ?_⟩
        injection h with h; injection h with h1 h; injection h with h2 h; injection h with h3 h4
        subst h3; subst h4
        have := ih.2 _ _ _ _ hq
        omega
theorem parse_line {T : List By} {k : Int} {l : Nat} (h : parseL T = .error (k, l)) : (k = 5 ∨ k = 1) ∧ 1 ≤ l ∧ l ≤ T.length + 1 := by
  unfold parseL at h
  split at h
  · injection h with h; injection h with h1 h2; omega
  · rename_i l0 r hl
    have hs := line_split T l0 r hl
    split at h
    · injection h with h; injection h with h1 h2; omega
    · rename_i c hc
      split at h
      · split at h
        · injection h with h; injection h with h1 h2; omega
        · rename_i l2 r2 hl2
          have hs2 := line_split r l2 r2 hl2
          split at h
          · injection h with h; injection h with h1 h2; omega
          · rename_i bl hbl
            have hp := pagesP_line c.cells.toNat (2 + 2 * c.area).toNat 0 r2 2
            split at h
            · rename_i k' hk
              have := hp.1 _ hk
              injection h with h; injection h with h1 h2; omega
            · rename_i gs es r3 ln hk
              have := hp.2 _ _ _ _ hk
              split at h
              · cases h
              · rename_i hr3
                have : 0 < r3.length := List.length_pos_iff.2 hr3
                injection h with h; injection h with h1 h2; omega
      · injection h with h; injection h with h1 h2; omega
end Go.Proofs.YtgpnbiaghokjkaaDoor


/-! Layer 21: append in place or elsewhere, and what it leaves of what was there. -/
namespace Go.Proofs.YtgpnbiaghokjkaaDoor
open Go.RowKit
set_option linter.unusedVariables false
set_option linter.unusedSimpArgs false
set_option maxRecDepth 100000

end Go.Proofs.YtgpnbiaghokjkaaDoor


/-! Layer 21: a chip that was told, in memory of its own; what a mark in all its lists makes of it. -/
namespace Go.Proofs.YtgpnbiaghokjkaaDoor
open Go.RowKit
set_option linter.unusedVariables false
set_option linter.unusedSimpArgs false
set_option maxRecDepth 100000

def mcell (k : Nat) : List By := BitVec.ofNat 8 k :: List.replicate 31 0
/-- All blocks but those from N on below M are as they were. -/
structure KeptR (N M : Nat) (w w' : World) : Prop where
  os : w'.os = w.os
  tape : w'.tape = w.tape
  output : w'.output = w.output
  size : w.heap.size ≤ w'.heap.size
  block : ∀ k, k < w.heap.size → ¬ (N ≤ k ∧ k < M) → w'.heap[k]? = w.heap[k]?
/-- A chip that was told, in memory of its own, from the block N on below M. -/
structure Tld (N M : Nat) (w : World) (v : SV) (t : St) (qs : List Value) : Prop where
  pr : w.ownsRow N 57 1 (.slice v.po t.pages.length v.pc) t.pages.length qs
  pg : ∀ (i : Nat) (x : Value) (g : List (List By)), qs[i]? = some x → t.pages[i]? = some g → OwnC N w x g
  er : w.ownsRow N 3 1 (.slice v.eo t.erases.length v.ec) t.erases.length (t.erases.map (Value.int .i64))
  bl : w.ownsRow N 4 1 (.slice v.bo t.blown.length v.bc) t.blown.length (t.blown.map Value.bool)
  ne : ∀ g ∈ t.pages, 0 < g.length
  qq : ∀ (i j B n c n' c' : Nat), i ≠ j → qs[i]? = some (.slice (some ⟨B, 0, none⟩) n c) → qs[j]? ≠ some (.slice (some ⟨B, 0, none⟩) n' c')
  up : M ≤ w.heap.size
  upp : ∀ B, v.po = some ⟨B, 0, none⟩ → B < M
  upe : ∀ B, v.eo = some ⟨B, 0, none⟩ → B < M
  upb : ∀ B, v.bo = some ⟨B, 0, none⟩ → B < M
  upq : ∀ (j B n c : Nat), qs[j]? = some (.slice (some ⟨B, 0, none⟩) n c) → B < M
section
variable {N M : Nat} {w : World} {v : SV} {t : St} {qs : List Value}
end
/-- Between two pages of spoil. -/
structure SI (N M : Nat) (w1 : World) (v : SV) (t : St) (qs : List Value) (k i : Nat) (W : World) : Prop where
  kr : KeptR N M w1 W
  pr : W.ownsRow N 57 1 (.slice v.po t.pages.length v.pc) t.pages.length qs
  dn : ∀ (j G n c : Nat) (g : List (List By)), j < i → qs[j]? = some (.slice (some ⟨G, 0, none⟩) n c) → t.pages[j]? = some g → IsL W (some ⟨G, 0, none⟩) ((g.map fun _ => mcell k).flatten.map B8)
  td : ∀ (j : Nat) (x : Value) (g : List (List By)), i ≤ j → qs[j]? = some x → t.pages[j]? = some g → OwnC N W x g
  er : W.ownsRow N 3 1 (.slice v.eo t.erases.length v.ec) t.erases.length (t.erases.map (Value.int .i64))
  bl : W.ownsRow N 4 1 (.slice v.bo t.blown.length v.bc) t.blown.length (t.blown.map Value.bool)
section
variable {N M : Nat} {w1 : World} {v : SV} {t : St} {qs : List Value} {k i : Nat} {W W' : World}
end
/-- Behind the pages. -/
structure SJ (N M : Nat) (w1 : World) (v : SV) (t : St) (qs : List Value) (k : Nat) (W : World) : Prop where
  kr : KeptR N M w1 W
  pr : W.ownsRow N 57 1 (.slice v.po t.pages.length v.pc) t.pages.length qs
  dn : ∀ (j G n c : Nat) (g : List (List By)), qs[j]? = some (.slice (some ⟨G, 0, none⟩) n c) → t.pages[j]? = some g → IsL W (some ⟨G, 0, none⟩) ((g.map fun _ => mcell k).flatten.map B8)
section
variable {N M : Nat} {w1 : World} {v : SV} {t : St} {qs : List Value} {k : Nat} {W W' : World}
end
section
variable {N M : Nat} {w1 : World} {v : SV} {t : St} {qs : List Value} {k : Nat} {W W' : World}
end
section
variable {N M : Nat} {W W' : World} {v : SV} {t : St} {qs : List Value} {k : Nat}
end
end Go.Proofs.YtgpnbiaghokjkaaDoor


/-! Layer 21: spoil. -/
namespace Go.Proofs.YtgpnbiaghokjkaaDoor
open Go.RowKit
set_option linter.unusedVariables false
set_option linter.unusedSimpArgs false
set_option maxRecDepth 100000

end Go.Proofs.YtgpnbiaghokjkaaDoor


/-! Layer 21: spoilt. -/
namespace Go.Proofs.YtgpnbiaghokjkaaDoor
open Go.RowKit
set_option linter.unusedVariables false
set_option linter.unusedSimpArgs false
set_option maxRecDepth 100000

end Go.Proofs.YtgpnbiaghokjkaaDoor


/-! Layer 21: few. -/
namespace Go.Proofs.YtgpnbiaghokjkaaDoor
open Go.RowKit
set_option linter.unusedVariables false
set_option linter.unusedSimpArgs false
set_option maxRecDepth 100000

end Go.Proofs.YtgpnbiaghokjkaaDoor


/-! Layer 21, the document's answer: what has come up of a page's copy. -/
namespace Go.Proofs.YtgpnbiaghokjkaaDoor
open Go.RowKit
set_option linter.unusedVariables false
set_option linter.unusedSimpArgs false
set_option maxRecDepth 100000

section
variable {N D g1 i n : Nat} {flat qs : List Value} {po : Option Addr} {W1 : World} {l25 l26 l27 l12 : Bool} {x25 x26 x27 : Value} {W W2 : World}
end
end Go.Proofs.YtgpnbiaghokjkaaDoor


/-! Layer 21, the document's answer: Copy. (Printed by tools/gend21.py.) -/
namespace Go.Proofs.YtgpnbiaghokjkaaDoor
open Go.RowKit
set_option linter.unusedVariables false
set_option linter.unusedSimpArgs false
set_option maxRecDepth 100000

section
variable {W1 : World} {N D g1 S0 ci n PB poff np vpc qc pc : Nat} {flat qs : List Value} {po qo : Option Addr} {L : Nat → Bool} {x17 x18 x19 x20 x21 x22 x23 x24 x25 x26 x27 x28 : Value} {W W2 : World}
end
end Go.Proofs.YtgpnbiaghokjkaaDoor


/-! Layer 21: chips that were told, beside one another. -/
namespace Go.Proofs.YtgpnbiaghokjkaaDoor
open Go.RowKit
set_option linter.unusedVariables false
set_option linter.unusedSimpArgs false
set_option maxRecDepth 100000

/-- What Parse tells, in memory of its own. -/
def ParO (T : List By) (w : World) (e : Ending) (w' : World) : Prop :=
  ∃ v qs, e = Tells4 (parseR T).1 v (parseR T).2.1 (parseR T).2.2.1 (parseR T).2.2.2 ∧ StV w' v (parseR T).2.1 ∧ Tld w.heap.size w'.heap.size w' v (parseR T).2.1 qs ∧ Below w.heap.size w w'
abbrev Ch := SV × List Value × Nat × Nat
section
variable {Y : Nat} {t : St} {f : Nat → Option Nat} {ts : List Ch} {W W' : World}
end
section
variable {Y : Nat} {t : St} {ts : List Ch} {ao : Option Addr} {c : Nat} {W W' : World}
end
end Go.Proofs.YtgpnbiaghokjkaaDoor
