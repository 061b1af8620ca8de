
import Derived.Test.YtdfbfheceobboaaDoorP25Mm
/-! The code's patch: the reader's small functions. -/
namespace Go.Proofs.YtdfbfheceobboaaDoor
open Go.RowKit
set_option linter.unusedVariables false
set_option linter.unusedSimpArgs false
set_option maxRecDepth 100000

/-- A reader's cells. -/
def rdC (pv : Value) (a bef left : Nat) (av : Value) : List Value := [pv, .int .i64 (a : Int), .int .i64 (bef : Int), .int .i64 (left : Int), av]
/-- A new *Wrong. -/
def WrgP (w : World) (k a : Nat) (e : Ending) (w' : World) : Prop := ∃ g, e = .returned (.pointer (some ⟨g, 0, none⟩)) ∧ Row w' g 52 [.int .i64 (k : Int), .int .i64 (a : Int)] ∧ Below w.heap.size w w'
set_option maxHeartbeats 1000000 in
theorem cshort_any (w : World) (g : Nat) (po : Option Addr) (n pc a bef left : Nat) (av : Value) (hr : Row w g 75 (rdC (.slice po n pc) a bef left av)) : Calls Tryd.prog 49 #[.pointer (some ⟨g, 0, none⟩)] w (WrgP w 6 n) := by
  have c0 := hr.cell 0 _ rfl
  have HE : Hid (∀ x, x = .cells #[.int .i64 6, .int .i64 (n : Int)] 52 → WrgP w 6 n (.returned (.pointer (some ⟨w.heap.size, 0, none⟩))) (w.alloc x)) := fun x hx => by
    subst hx
    exact ⟨_, rfl, Row.at w _ _ _ _ rfl rfl, (Below.refl _ _).alloc (Nat.le_refl _) _⟩
  clear hr
  go_enter Tryd.func49, Tryd.ntmps49
  go_wp2
  go_ret
  exact HE.out _ rfl
set_option maxHeartbeats 1000000 in
theorem cform_any (w : World) (g : Nat) (pv : Value) (a bef left : Nat) (av : Value) (hr : Row w g 75 (rdC pv a bef left av)) : Calls Tryd.prog 52 #[.pointer (some ⟨g, 0, none⟩)] w (WrgP w 5 a) := by
  have c1 := hr.cell 1 _ rfl
  have HE : Hid (∀ x, x = .cells #[.int .i64 5, .int .i64 (a : Int)] 52 → WrgP w 5 a (.returned (.pointer (some ⟨w.heap.size, 0, none⟩))) (w.alloc x)) := fun x hx => by
    subst hx
    exact ⟨_, rfl, Row.at w _ _ _ _ rfl rfl, (Below.refl _ _).alloc (Nat.le_refl _) _⟩
  clear hr
  go_enter Tryd.func52, Tryd.ntmps52
  go_wp2
  go_ret
  exact HE.out _ rfl
set_option maxHeartbeats 1000000 in
theorem cfits_any (w : World) (g : Nat) (pv : Value) (a bef left k : Nat) (av : Value) (hl : left ≤ 524288) (hk : k < 4294967296) (hr : Row w g 75 (rdC pv a bef left av)) : Calls Tryd.prog 61 #[.pointer (some ⟨g, 0, none⟩), .int .u64 (k : Int)] w fun e w' => e = .returned (.bool (decide (1 ≤ k ∧ k ≤ left))) ∧ w' = w := by
  have c3 := hr.cell 3 _ rfl
  have z1 : IntKind.u64.wrap (left : Int) = (left : Int) := by rw [wrapU64]; omega
  clear hr
  by_cases h1 : 1 ≤ k
  · have x1 : decide ((1 : Int) ≤ (k : Int)) = true := by rw [decide_eq_true_iff]; omega
    have x2 : (1 : Int) ≤ (k : Int) := by omega
    have HE : Hid (decide ((k : Int) ≤ (left : Int)) = decide (1 ≤ k ∧ k ≤ left)) := by
      show _ = _
      rw [decide_eq_decide]; omega
    have HE2 : Hid (decide (k ≤ left) = decide (1 ≤ k ∧ k ≤ left)) := by
      show _ = _
      rw [decide_eq_decide]; omega
    go_enter Tryd.func61, Tryd.ntmps61
    go_wp2
    go_ret
    refine ⟨?_, rfl⟩
    first | rw [← HE.out]; rfl | rw [← HE2.out]; rfl
  · have x1 : decide ((1 : Int) ≤ (k : Int)) = false := by rw [decide_eq_false_iff_not]; omega
    have HE : Hid (decide (1 ≤ k ∧ k ≤ left) = false) := by show _ = _; rw [decide_eq_false_iff_not]; omega
    go_enter Tryd.func61, Tryd.ntmps61
    go_wp2
    go_ret
    exact ⟨by rw [HE.out]; rfl, rfl⟩
/-- The last part that was read, as the reader holds it. -/
def AhV (l : List Pt) (av : Value) : Prop :=
  match l.getLast? with
  | none => av = .nilIface
  | some y => (y.lay = false ∧ av = spV y.frm y.n ∧ y.frm + y.n < 4000000000000) ∨ (y.lay = true ∧ ∃ bo c, av = layV bo y.n c)
theorem goes_sp (l : List Pt) (av : Value) (h : AhV l av) (f n : Nat) (hf : f < 4000000000000) (w : World) : Calls Tryd.prog 41 #[av, spV f n] w fun e w' => e = .returned (.bool (!behB l false f)) ∧ Below w.heap.size w w' := by
  unfold AhV at h
  split at h
  · subst h
    rename_i hl
    have e : ∀ x f, behB l x f = true := fun x f => by unfold behB; rw [hl]
    rw [e]
    exact goes_nil _ w
  · rename_i y hl
    rw [behB_last l y _ _ hl]
    rcases h with ⟨h1, rfl, h3⟩ | ⟨h1, bo, c, rfl⟩
    · have := goes_ss y.frm y.n f n w h3 hf
      rw [h1]
      have e : (!(if (false && false) = true then false else false || false || (y.frm + y.n != f))) = decide (f = y.frm + y.n) := by
        rw [Bool.eq_iff_iff]
        simp [bne]
        omega
      rw [e]
      exact this
    · have := goes_ls bo y.n c f n w
      rw [h1]
      exact this
theorem goes_ly (l : List Pt) (av : Value) (h : AhV l av) (bo2 : Option Addr) (n2 c2 : Nat) (w : World) : Calls Tryd.prog 41 #[av, .iface 63 (.agg #[.slice bo2 n2 c2])] w fun e w' => e = .returned (.bool (!behB l true 0)) ∧ Below w.heap.size w w' := by
  unfold AhV at h
  split at h
  · subst h
    rename_i hl
    have e : ∀ x f, behB l x f = true := fun x f => by unfold behB; rw [hl]
    rw [e]
    exact goes_nil _ w
  · rename_i y hl
    rw [behB_last l y _ _ hl]
    rcases h with ⟨h1, rfl, h3⟩ | ⟨h1, bo, c, rfl⟩
    · have := goes_sl y.frm y.n bo2 n2 c2 w
      rw [h1]
      exact this
    · have := goes_ll bo y.n c bo2 n2 c2 w
      rw [h1]
      exact this
theorem ptR_copy {bef aft : Nat} {l : List Pt} {p : List By} {a hv : Nat} (ha : a < p.length) (h1 : (p.getD a 0).toNat = 1) : partR bef aft l p a hv = if p.length < a + 9 then .error (6, p.length) else if num4 (p.drop (a + 5)) < 1 ∨ aft < hv + num4 (p.drop (a + 5)) ∨ bef < num4 (p.drop (a + 1)) + num4 (p.drop (a + 5)) ∨ behB l false (num4 (p.drop (a + 1))) = false then .error (5, a) else .ok (⟨false, num4 (p.drop (a + 1)), num4 (p.drop (a + 5)), []⟩, a + 9) := by
  unfold partR
  simp only [h1, nxt, frmOf, show ¬ (1 : Nat) = 2 by omega, if_false, decide_false]
  rw [if_neg (by omega), if_neg (by omega), show a + 9 - 4 = a + 5 by omega]
  simp
theorem ptR_lay {bef aft : Nat} {l : List Pt} {p : List By} {a hv : Nat} (ha : a < p.length) (h1 : (p.getD a 0).toNat = 2) : partR bef aft l p a hv = if p.length < a + 5 then .error (6, p.length) else if num4 (p.drop (a + 1)) < 1 ∨ aft < hv + num4 (p.drop (a + 1)) ∨ behB l true 0 = false then .error (5, a) else if p.length < a + 5 + num4 (p.drop (a + 1)) then .error (6, p.length) else .ok (⟨true, 0, num4 (p.drop (a + 1)), (p.drop (a + 5)).take (num4 (p.drop (a + 1)))⟩, a + 5 + num4 (p.drop (a + 1))) := by
  unfold partR
  simp only [h1, nxt, frmOf, if_true, decide_true]
  rw [if_neg (by omega), if_neg (by omega), show a + 5 - 4 = a + 1 by omega]
  simp
/-- What looking at the next part tells. -/
def LkP (N : Nat) (w : World) (a : Nat) (R : Except (Nat × Nat) (Pt × Nat)) (e : Ending) (w' : World) : Prop :=
  Below w.heap.size w w' ∧ match R with
    | .error (k, b) => ∃ g, e = .returned (.tuple #[.nilIface, .int .i64 0, .pointer (some ⟨g, 0, none⟩)]) ∧ Row w' g 52 [.int .i64 (k : Int), .int .i64 (b : Int)]
    | .ok (y, nx) => ∃ v, e = .returned (.tuple #[v, .int .i64 ((nx - a : Nat) : Int), .pointer none]) ∧ PaV N w' y v
end Go.Proofs.YtdfbfheceobboaaDoor
