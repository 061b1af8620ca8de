
import Derived.Test.YtgpnbiaghokjkaaDoorC4First
/-! The code's chip: New. (Printed by tools/genfirst.py.) -/
namespace Go.Proofs.YtgpnbiaghokjkaaDoor
open Go.RowKit

@[reducible] def IYN (W1 : World) (t : St) (cf : List Value) (a1 : Value) (y0 y1 y4 y5 y6 y7 y8 y9 : Value) : (Nat → Bool) → Act → World → Prop := fun L a W => ∃ xA xB xC xD xE xF xG pB eB bB ps g, a = ⟨#[y0, y1, xF, xG, y4, y5, y6, y7, y8, y9, xA, xB, xC, xD, xE], []⟩ ∧ YI W1 t cf a1 L xA xB xC xD xE xF xG pB eB bB ps g W

/-- What a chip of a config holds at first. -/
def freshC (c : Cfg) : St := freshN (2 + 2 * c.area).toNat c.cells.toNat (c.slots * c.fuses + c.keys).toNat
theorem freshN_8 (np n nb : Nat) : ∀ p ∈ (freshN np n nb).pages, ∀ x ∈ p, x.length = 32 := by
  intro p hp x hx
  unfold freshN at hp
  rw [(List.mem_replicate.1 hp).2] at hx
  rw [(List.mem_replicate.1 hx).2]; simp
theorem fresh_fit {c : Cfg} (hc : c.may = 0) : Fit c (freshC c) := by
  obtain ⟨_, ⟨q1, q2⟩, ⟨f1, f2⟩, ⟨k1, k2⟩, ⟨a1, a2⟩, ⟨m1, m2⟩, _⟩ := may_facts hc
  refine ⟨?_, ?_, ?_, ?_⟩
  · show ((List.replicate (2 + 2 * c.area).toNat _).length : Int) = _
    rw [List.length_replicate]; omega
  · show ((List.replicate (2 + 2 * c.area).toNat _).length : Int) = _
    rw [List.length_replicate]; omega
  · show ((List.replicate (c.slots * c.fuses + c.keys).toNat _).length : Int) = _
    rw [List.length_replicate]; omega
  · intro p hp
    have hp' : p < (2 + 2 * c.area).toNat := by simpa [freshC, freshN] using hp
    refine ⟨?_, ?_⟩
    · show (((List.replicate (2 + 2 * c.area).toNat _).getD p []).length : Int) = _
      rw [getD_rep _ _ _ _ hp', List.length_replicate]; omega
    · show 0 ≤ (List.replicate (2 + 2 * c.area).toNat (0 : Int)).getD p 0
      rw [getD_rep _ _ _ _ hp']; omega
theorem fresh_ok {c : Cfg} (hc : c.may = 0) : (layS c (freshC c)).Ok := lay_ok hc (fresh_fit hc) (freshN_8 _ _ _)

def NewPost (c : Cfg) (w : World) (e : Ending) (w' : World) : Prop := Below w.heap.size w w' ∧ ((c.may ≠ 0 ∧ e = .returned (.tuple #[.pointer none, .int .i64 c.may])) ∨ (c.may = 0 ∧ ∃ F, e = .returned (.tuple #[.pointer (some ⟨F.g, 0, none⟩), .int .i64 0]) ∧ CAt w' F (layS c (freshC c)) ⟨#[]⟩ ∧ ∀ B ∈ F.blocks, w.heap.size ≤ B))

set_option maxHeartbeats 4000000 in
set_option maxRecDepth 100000 in
theorem cnew_any (c : Cfg) (w : World) :
    Calls Tryd.prog 69 #[.agg c.vals.toArray] w (NewPost c w) := by
  have HMAY : Hid (∀ W, Calls Tryd.prog 34 #[.agg c.vals.toArray] W fun e w' => e = .returned (.int .i64 c.may) ∧ Below W.heap.size W w') := fun W => cmay_any c W
  have HC0 : Hid (c.may = 0 → ∀ W, Calls Tryd.prog 78 #[.agg c.vals.toArray] W (AgainPost (freshC c) W)) := by
    intro hc W
    obtain ⟨_, ⟨q1, q2⟩, ⟨f1, f2⟩, ⟨k1, k2⟩, ⟨a1, a2⟩, ⟨m1, m2⟩, _⟩ := may_facts hc
    exact cfirst_any c.cells c.slots c.fuses c.step c.keys c.erases c.area (2 + 2 * c.area).toNat c.cells.toNat (c.slots * c.fuses + c.keys).toNat (by omega) (by omega) (by omega) a1 a2 (by omega) ⟨m1, m2⟩ k1 k2 W
  have HOK : Hid (c.may = 0 → (layS c (freshC c)).Ok) := fun h1 => fresh_ok h1
  have r0 : Row (w.alloc (.cells c.vals.toArray 24)) w.heap.size 24 c.vals := Row.at _ _ _ _ _ rfl rfl
  have bb : Below w.heap.size w (w.alloc (.cells c.vals.toArray 24)) := (Below.refl _ _).alloc (Nat.le_refl _) _
  obtain ⟨T0, hT0⟩ : ∃ T0, T0 = freshC c := ⟨_, rfl⟩
  rw [← hT0] at HC0 HOK
  have HT0 : Hid (T0 = freshC c) := hT0
  clear hT0
  obtain ⟨cells, slots, fuses, step, keys, erases, area⟩ := c
  simp only [Cfg.vals] at HMAY HC0 r0 bb ⊢
  obtain ⟨mv, hmv⟩ : ∃ mv, mv = Cfg.may ⟨cells, slots, fuses, step, keys, erases, area⟩ := ⟨_, rfl⟩
  rw [← hmv] at HMAY HC0 HOK
  have HMV : Hid (mv = Cfg.may ⟨cells, slots, fuses, step, keys, erases, area⟩) := hmv
  clear hmv
  generalize hW0 : w.alloc (.cells [Value.int .i64 cells, .int .i64 slots, .int .i64 fuses, .int .i64 step, .int .i64 keys, .int .i64 erases, .int .i64 area].toArray 24) = W0 at *
  have c0 := r0.cell 0 _ rfl
  have c1 := r0.cell 1 _ rfl
  have c2 := r0.cell 2 _ rfl
  have c3 := r0.cell 3 _ rfl
  have c4 := r0.cell 4 _ rfl
  have c5 := r0.cell 5 _ rfl
  have c6 := r0.cell 6 _ rfl
  by_cases hm : mv = 0
  · subst hm
    have hm' : ((0 : Int) != 0) = false := rfl
    have HC : Hid (∀ W, Calls Tryd.prog 78 #[.agg [Value.int .i64 cells, .int .i64 slots, .int .i64 fuses, .int .i64 step, .int .i64 keys, .int .i64 erases, .int .i64 area].toArray] W (AgainPost T0 W)) := fun W => HC0.out rfl W
    have HOK2 : Hid ((layS ⟨cells, slots, fuses, step, keys, erases, area⟩ T0).Ok) := HOK.out rfl
    clear HC0 HOK
    go_enter Tryd.func69, Tryd.ntmps69
    go_wp2_with (refine (HMAY.out _).mono ?_; rintro e w2 ⟨rfl, hb1⟩; have r0 : Row w2 w.heap.size 24 _ := (hb1.block _ r0.lt).trans r0; have bb := bb.trans (hb1.mono bb.size); clear hb1; have c0 := r0.cell 0 _ rfl; have c1 := r0.cell 1 _ rfl; have c2 := r0.cell 2 _ rfl; have c3 := r0.cell 3 _ rfl; have c4 := r0.cell 4 _ rfl; have c5 := r0.cell 5 _ rfl; have c6 := r0.cell 6 _ rfl)
    refine wp_region_inv (IYN w2 T0 [.int .i64 cells, .int .i64 slots, .int .i64 fuses, .int .i64 step, .int .i64 keys, .int .i64 erases, .int .i64 area] (.agg #[.int .i64 cells, .int .i64 slots, .int .i64 fuses, .int .i64 step, .int .i64 keys, .int .i64 erases, .int .i64 area]) _ _ _ _ _ _ _ _) (by kernel_rfl) (by kernel_rfl) ⟨_, _, _, _, _, _, _, _, _, _, _, _, rfl, YI.zero w2 T0 [.int .i64 cells, .int .i64 slots, .int .i64 fuses, .int .i64 step, .int .i64 keys, .int .i64 erases, .int .i64 area] (.agg #[.int .i64 cells, .int .i64 slots, .int .i64 fuses, .int .i64 step, .int .i64 keys, .int .i64 erases, .int .i64 area]) _ _ _ _ _ _ _⟩ ?_ ?_
    · refine .cons ?_ (.cons ?_ (.cons ?_ (.cons ?_ (.cons ?_ (.cons ?_ (.cons ?_ .nil))))))
      all_goals (rintro L a W ⟨xA, xB, xC, xD, xE, xF, xG, pB, eB, bB, ps, g, rfl, hI⟩ hL hd K hK)
      · have rc : Row W w.heap.size 24 _ := (hI.bel.block _ r0.lt).trans r0
        have c0 := rc.cell 0 _ rfl
        have c1 := rc.cell 1 _ rfl
        have c2 := rc.cell 2 _ rfl
        have c3 := rc.cell 3 _ rfl
        have c4 := rc.cell 4 _ rfl
        have c5 := rc.cell 5 _ rfl
        have c6 := rc.cell 6 _ rfl
        rw [if_pos (by rfl)]
        go_simp
        exact hK.out _ _ ⟨_, _, _, _, _, _, _, _, _, _, _, _, rfl, hI.s0⟩
      · have rc : Row W w.heap.size 24 _ := (hI.bel.block _ r0.lt).trans r0
        have c0 := rc.cell 0 _ rfl
        have c1 := rc.cell 1 _ rfl
        have c2 := rc.cell 2 _ rfl
        have c3 := rc.cell 3 _ rfl
        have c4 := rc.cell 4 _ rfl
        have c5 := rc.cell 5 _ rfl
        have c6 := rc.cell 6 _ rfl
        rw [if_pos (by rfl)]
        go_simp
        exact hK.out _ _ ⟨_, _, _, _, _, _, _, _, _, _, _, _, rfl, hI.s1⟩
      · have hx := hI.e1 (hd 1 (by decide))
        subst hx
        rw [if_pos (by rfl)]
        go_simp
        refine (HC.out _).mono ?_
        rintro e w3 ⟨pB', eB', bB', ps', rfl, hos, hb3⟩
        exact hK.out _ _ ⟨_, _, _, _, _, _, _, _, _, _, _, _, rfl, hI.s2 hL hos hb3⟩
      · have hx := hI.e0 (hd 0 (by decide))
        have hy := (hI.e2 (hd 2 (by decide))).1
        subst hx hy
        rw [if_pos (by rfl)]
        simp only [ownVals]
        go_simp
        exact hK.out _ _ ⟨_, _, _, _, _, _, _, _, _, _, _, _, rfl, hI.s3 (hd 2 (by decide))⟩
      · have hx := hI.e3 (hd 3 (by decide))
        subst hx
        rw [if_pos (by rfl)]
        simp only [newCells]
        go_simp
        exact hK.out _ _ ⟨_, _, _, _, _, _, _, _, _, _, _, _, rfl, hI.s4 hL (hd 3 (by decide))⟩
      · have hx := (hI.e4 (hd 4 (by decide))).1
        subst hx
        rw [if_pos (by rfl)]
        go_simp
        exact hK.out _ _ ⟨_, _, _, _, _, _, _, _, _, _, _, _, rfl, hI.s5 (hd 4 (by decide))⟩
      · rw [if_pos (by rfl)]
        go_simp
        exact hK.out _ _ ⟨_, _, _, _, _, _, _, _, _, _, _, _, rfl, hI.s6⟩
    · rintro L a W hall ⟨xA, xB, xC, xD, xE, xF, xG, pB, eB, bB, ps, g, rfl, hI⟩
      have hx5 := hI.e5 (hall 5 (by decide))
      have hx6 := hI.e6 (hall 6 (by decide))
      obtain ⟨_, q1, q2, q3, q4⟩ := hI.e4 (hall 4 (by decide))
      obtain ⟨_, hos⟩ := hI.e2 (hall 2 (by decide))
      have hbel := hI.bel
      subst hx5 hx6
      clear hI hall
      try dsimp only
      have bbW := bb.trans (hbel.mono bb.size)
      have hfin : NewPost ⟨cells, slots, fuses, step, keys, erases, area⟩ w (.returned (.tuple #[.pointer (some ⟨g, 0, none⟩), .int .i64 0])) W := by
        refine ⟨bbW, .inr ⟨HMV.out.symm, ownF g T0 pB eB bB ps, rfl, ?_, ?_⟩⟩
        · rw [← HT0.out]; exact new_cat hos q1 HOK2.out q4
        · have hsz := bb.size
          intro B hB
          have := ownF_blocks hos q2 B hB
          omega
      clear q1 hos
      go_wp2
      go_ret2
      exact hfin
  · have hm' : (mv != 0) = true := by simpa using hm
    have HMN : Hid (¬ mv = 0) := hm
    clear hm HC0 HOK
    go_enter Tryd.func69, Tryd.ntmps69
    go_wp2_with (refine (HMAY.out _).mono ?_; rintro e w1 ⟨rfl, hb1⟩; have bb := bb.trans (hb1.mono bb.size); clear hb1)
    go_ret2
    refine ⟨bb, .inl ⟨by rw [← HMV.out]; exact HMN.out, ?_⟩⟩
    rw [← HMV.out]; rfl
end Go.Proofs.YtgpnbiaghokjkaaDoor
