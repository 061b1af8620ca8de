import Derived.Test.YtdfbfheceobboaaDoorP25Rl

/-! The code's patch: where parts end; the first one that ends behind a place. -/
namespace Go.Proofs.YtdfbfheceobboaaDoor
open Go.RowKit
set_option linter.unusedVariables false
set_option linter.unusedSimpArgs false
set_option maxRecDepth 100000

/-- How many bytes the part i and all ahead of it tell. -/
def endN (l : List Pt) (i : Nat) : Nat := sumN (l.take (i + 1))
def endsTo (l : List Pt) (n k : Nat) : List Value := (List.range n).map fun i => if i < k then .int .i64 (endN l i : Int) else .int .i64 0
theorem endsTo_len (l : List Pt) (n k : Nat) : (endsTo l n k).length = n := by simp [endsTo]
theorem endsTo_at (l : List Pt) (n k i : Nat) (hi : i < n) : (endsTo l n k)[i]? = some (if i < k then .int .i64 (endN l i : Int) else .int .i64 0) := by
  simp [endsTo, hi]
theorem endsTo_set (l : List Pt) (n k : Nat) (hk : k < n) : (endsTo l n k).set k (.int .i64 (endN l k : Int)) = endsTo l n (k + 1) := by
  refine List.ext_getElem? fun i => ?_
  by_cases hi : i < n
  · rw [endsTo_at l n (k + 1) i hi, List.getElem?_set]
    by_cases e : k = i
    · subst e
      rw [if_pos rfl, if_pos (by rw [endsTo_len]; exact hk), if_pos (by omega)]
    · rw [if_neg e, endsTo_at l n k i hi]
      by_cases h2 : i < k
      · rw [if_pos h2, if_pos (by omega)]
      · rw [if_neg h2, if_neg (by omega)]
  · rw [List.getElem?_eq_none (by rw [List.length_set, endsTo_len]; omega), List.getElem?_eq_none (by rw [endsTo_len]; omega)]
theorem endN_mono (l : List Pt) {i j : Nat} (h : i ≤ j) : endN l i ≤ endN l j := by
  unfold endN
  have e : l.take (i + 1) = (l.take (j + 1)).take (i + 1) := by rw [List.take_take, Nat.min_eq_left (by omega)]
  rw [e]
  exact sumN_take_le _ _
theorem madeI (n : Nat) : madeCells (Value.int .i64 0).cells n = (List.replicate n (Value.int .i64 0)).toArray := by
  unfold madeCells
  apply Array.ext
  · simp
  · intro i h1 h2
    simp [Value.cells, Nat.mod_one]
theorem wpList_make_ints {ops : Array Oper} {rest : List Oper} {o : Oper} {a : Act} {w : World} {Q : Exit → Act → World → Prop} (hgd : o.guard = none) (x y : Operand) (ho : o.op = .makeSlice 79 x y)
    (n : Nat) (hx : a.eval x = .int .i64 (n : Int)) (hy : a.eval y = .int .i64 (n : Int)) (hb : n ≤ 1000000)
    (h : wpList Tryd.prog ops Q rest (a.put o.dst (.slice (some ⟨w.heap.size, 0, none⟩) n n)) (w.alloc (.cells (List.replicate n (Value.int .i64 0)).toArray 3))) : wpList Tryd.prog ops Q (o :: rest) a w := by
  refine wpList_plain hgd fun K hK => ?_
  obtain ⟨i0, hi, hz1, hz2, hz3⟩ := info_parts (show (Tryd.prog.info? 3).map (fun i => (i.zero, i.size, i.bytes)) = some (some (.int .i64 0), 1, 8) by kernel_rfl)
  have hr := run_make (P := Tryd.prog) w 79 3 i0 (.int .i64 0) Tryd.underlying79 hi hz1 .i64 .i64 (n : Int) (n : Int) (by omega) (Int.le_refl _) (by rw [hz3]; omega) (by omega)
  rw [hz2, Int.toNat_natCast, Nat.mul_one, madeI] at hr
  unfold Oper.wp execOp
  simp only [ho, hx, hy, hr, Sem.run_bind, Result.andThen_ok, Sem.run_pure]
  exact hK _ _ h
/-- While ends are told. -/
structure EnW (w : World) (E : Nat) (l : List Pt) (n i : Nat) (W : World) : Prop where
  bel : Below w.heap.size w W
  row : Row W E 3 (endsTo l n i)
  le : w.heap.size ≤ E
theorem EnW.keep {w : World} {E : Nat} {l : List Pt} {n i : Nat} {W W2 : World} (h : EnW w E l n i W) (hb : Below W.heap.size W W2) : EnW w E l n i W2 := ⟨h.bel.trans (hb.mono h.bel.size), h.row.below hb h.row.lt, h.le⟩
theorem EnW.set {w : World} {E : Nat} {l : List Pt} {n i : Nat} {W : World} (h : EnW w E l n i W) (hi : i < n) : EnW w E l n (i + 1) (W.setCell ⟨E, i, none⟩ (.int .i64 (endN l i : Int))) :=
  ⟨(SameBut.setCell _ _ _ _).below h.bel h.le, by have := h.row.set i (.int .i64 (endN l i : Int)); rwa [endsTo_set l n i hi] at this, h.le⟩
def EndP (w : World) (l : List Pt) (e : Ending) (w' : World) : Prop := ∃ E, e = .returned (.slice (some ⟨E, 0, none⟩) l.length l.length) ∧ EnW w E l l.length l.length w'
set_option maxHeartbeats 1000000 in
theorem cends_any (N : Nat) (w : World) (l : List Pt) (lo : Option Addr) (lc : Nat) (h : PaR N w l lo lc) (hs : sumN l ≤ 524288) (hl : l.length ≤ 524288) : Calls Tryd.prog 29 #[.slice lo l.length lc] w (EndP w l) := by
  have HH : Hid (PaR N w l lo lc) := h
  have HS : Hid (sumN l ≤ 524288) := hs
  have HE : Hid (∀ E W, EnW w E l l.length l.length W → EndP w l (.returned (.slice (some ⟨E, 0, none⟩) l.length l.length)) W) := fun E W h => ⟨E, rfl, h⟩
  clear h hs
  obtain ⟨nl, hnl⟩ : ∃ nl, nl = l.length := ⟨_, rfl⟩
  have HNL : Hid (nl = l.length ∧ nl ≤ 524288) := ⟨hnl, by omega⟩
  rw [← hnl] at HE ⊢
  clear hnl hl
  have H0 : Hid (EnW w w.heap.size l nl 0 (w.alloc (.cells (List.replicate nl (Value.int .i64 0)).toArray 3))) := by
    refine ⟨(Below.refl _ _).alloc (Nat.le_refl _) _, ?_, Nat.le_refl _⟩
    have e : endsTo l nl 0 = List.replicate nl (Value.int .i64 0) := by
      refine List.ext_getElem (by simp [endsTo]) fun i h1 h2 => ?_
      simp [endsTo]
    rw [e]
    exact Row.at w _ _ _ _ rfl rfl
  have HT : Hid (True) := trivial
  go_enter Tryd.func29, Tryd.ntmps29
  go_wp2_with (have hz := HT; clear hz; refine wpList_make_ints rfl (.tmp 8) (.tmp 8) rfl nl rfl rfl (by have := HNL.out.2; omega) ?_; clear HT)
  generalize hE : w.heap.size = E at *
  go_loopw [4, 12] (fun nv iv wr => ∃ i : Nat, i ≤ nl ∧ nv = .int .i64 (sumN (l.take i) : Int) ∧ iv = .int .i64 (i : Int) ∧ Hid (EnW w E l nl i wr)) (fun _ iv _ => nl - (intOf iv).toNat)
  case atStart => exact ⟨0, by omega, rfl, rfl, by show EnW _ _ _ _ _ _; have h := H0.out; simpa using h⟩
  case round =>
    obtain ⟨i, hi, rfl, rfl, HI⟩ := hrel
    by_cases hlt : i < nl
    · have x0 : (0 : Int) ≤ (i : Int) := by omega
      have x1 : (i : Int) < (nl : Int) := by omega
      have z1 : IntKind.i64.wrap ((i : Int) + 1) = (i : Int) + 1 := i64_in _ (by omega) (by have := HNL.out.2; omega)
      obtain ⟨y, hy⟩ : ∃ y, l[i]? = some y := ⟨_, List.getElem?_eq_getElem (by have := HNL.out.1; omega)⟩
      have hbb : Below w.heap.size w wr := HI.out.bel
      obtain ⟨B, v, e, hc, hv⟩ := (HH.out.keep hbb).at hy
      have hT : endN l i = sumN (l.take i) + y.n := sumN_take_succ hy
      have hle : endN l i ≤ sumN l := sumN_take_le l (i + 1)
      have hs := HS.out
      have z2 : IntKind.i64.wrap ((sumN (l.take i) : Int) + (y.n : Int)) = (endN l i : Int) := by rw [i64_in _ (by omega) (by omega)]; omega
      have HN : Hid (endN l i = sumN (l.take (i + 1))) := rfl
      have HN2 : Hid (∀ W, EnW w E l nl i W → EnW w E l nl (i + 1) (W.setCell ⟨E, i, none⟩ (.int .i64 (endN l i : Int)))) := fun W h => h.set hlt
      rcases hv.eq with ⟨hlay, rfl⟩ | ⟨hlay, B2, off2, c2, rfl, _⟩
      · have M1 := mSize_s
        have Fsq : Hid (Calls Tryd.prog 92 #[.agg #[.int .i64 (y.frm : Int), .int .i64 (y.n : Int)]] wr fun e w' => e = .returned (.int .i64 (y.n : Int)) ∧ Below wr.heap.size wr w') := ssize_any _ _ _
        clear hT hle hs hy hv hlay hbb
        generalize endN l i = en at *
        subst e
        go_wp2_with (have hz := Fsq; clear hz; go_at_call 92; refine Fsq.out.mono ?_; rintro e w2 ⟨rfl, hb2⟩; have H2 : Hid (EnW w E l nl i w2) := HI.out.keep hb2; have c2 := H2.out.row.cell i _ (endsTo_at l nl i i hlt); have f2 := H2.out.row.frozen i; clear hb2 Fsq)
        exact ⟨⟨i + 1, by omega, by rw [← HN.out], by go_num, HN2.out _ H2.out⟩, by simp [intOf]; omega⟩
      · have M1 := mSize_l
        have Fsq : Hid (Calls Tryd.prog 88 #[.agg #[.slice (some ⟨B2, off2, none⟩) y.n c2]] wr fun e w' => e = .returned (.int .i64 (y.n : Int)) ∧ Below wr.heap.size wr w') := lsize_any _ _ _ _
        clear hT hle hs hy hv hlay hbb
        generalize endN l i = en at *
        subst e
        go_wp2_with (have hz := Fsq; clear hz; go_at_call 88; refine Fsq.out.mono ?_; rintro e w2 ⟨rfl, hb2⟩; have H2 : Hid (EnW w E l nl i w2) := HI.out.keep hb2; have c3 := H2.out.row.cell i _ (endsTo_at l nl i i hlt); have f2 := H2.out.row.frozen i; clear hb2 Fsq)
        exact ⟨⟨i + 1, by omega, by rw [← HN.out], by go_num, HN2.out _ H2.out⟩, by simp [intOf]; omega⟩
    · obtain rfl : i = nl := by omega
      have x1 : ¬ ((i : Nat) : Int) < (i : Int) := by omega
      go_wp2
      go_ret
      exact HE.out _ _ HI.out
set_option maxHeartbeats 1000000 in
theorem cnan_any (a : Int) (w : World) : Calls Tryd.prog 62 #[.int .i64 a] w fun e w' => e = .returned (.bool false) ∧ w' = w := by
  have k1 : (a != a) = false := by simp
  go_enter Tryd.func62, Tryd.ntmps62
  go_wp2
  go_ret
  exact ⟨by simp, rfl⟩
set_option maxHeartbeats 1000000 in
theorem snan_any (a : Int) (w : World) : Calls Tryd.prog 54 #[.int .i64 a] w fun e w' => e = .returned (.bool false) ∧ w' = w := by
  have k1 : (a != a) = false := by simp
  go_enter Tryd.func54, Tryd.ntmps54
  go_wp2
  go_ret
  exact ⟨by simp, rfl⟩
set_option maxHeartbeats 1000000 in
theorem cless_any (a b : Int) (w : World) : Calls Tryd.prog 53 #[.int .i64 a, .int .i64 b] w fun e w' => e = .returned (.bool (decide (a < b))) ∧ w' = w := by
  have F : Hid (∀ x W, Calls Tryd.prog 62 #[.int .i64 x] W fun e w' => e = .returned (.bool false) ∧ w' = W) := fun x W => cnan_any x W
  go_enter Tryd.func53, Tryd.ntmps53
  go_wp2_with (go_at_call 62; refine (F.out _ _).mono ?_; rintro e w2 ⟨rfl, hw2⟩; subst hw2)
  go_ret
  exact ⟨by simp, rfl⟩
end Go.Proofs.YtdfbfheceobboaaDoor


/-! The code's patch: the binary search. -/
namespace Go.Proofs.YtdfbfheceobboaaDoor
open Go.RowKit
set_option linter.unusedVariables false
set_option linter.unusedSimpArgs false
set_option maxRecDepth 100000

def BinP (w : World) (l : List Pt) (f : Nat) (e : Ending) (w' : World) : Prop := w' = w ∧ ∃ b, e = .returned (.tuple #[.int .i64 (fstI l f : Int), .bool b])
set_option maxHeartbeats 1000000 in
theorem cbin_any (w : World) (E : Nat) (l : List Pt) (f : Nat) (hr : Row w E 3 (endsTo l l.length l.length)) (hl : l.length ≤ 524288) (hf : f ≤ 524288) : Calls Tryd.prog 44 #[.slice (some ⟨E, 0, none⟩) l.length l.length, .int .i64 ((f + 1 : Nat) : Int)] w (BinP w l f) := by
  have HC : Hid (∀ i, i < l.length → w.cell? ⟨E, i, none⟩ = some (.int .i64 (endN l i : Int))) := fun i hi => by
    have := hr.cell i _ (endsTo_at l l.length l.length i hi)
    rw [if_pos hi] at this
    exact this
  have HM : Hid (∀ i j, i ≤ j → endN l i ≤ endN l j) := fun i j h => endN_mono l h
  have HE : Hid (∀ i, i ≤ l.length → (∀ k, k < i → endN l k ≤ f) → (∀ k, i ≤ k → k < l.length → f < endN l k) → ∀ b, BinP w l f (.returned (.tuple #[.int .i64 (i : Int), .bool b])) w) := fun i h1 h2 h3 b => by
    have e := fstI_eq l f i h1 h2 (fun h => h3 i (Nat.le_refl _) h)
    exact ⟨rfl, b, by rw [e]⟩
  have FL : Hid (∀ a b W, Calls Tryd.prog 53 #[.int .i64 a, .int .i64 b] W fun e w' => e = .returned (.bool (decide (a < b))) ∧ w' = W) := fun a b W => cless_any a b W
  have FN : Hid (∀ a W, Calls Tryd.prog 54 #[.int .i64 a] W fun e w' => e = .returned (.bool false) ∧ w' = W) := fun a W => snan_any a W
  clear hr
  generalize l.length = nl at *
  generalize hf1 : f + 1 = f1 at *
  have HF1 : Hid (f + 1 = f1) := hf1
  clear hf1
  generalize endN l = en at *
  go_enter Tryd.func44, Tryd.ntmps44
  go_wp2
  go_loopw [7, 8] (fun iv jv wr => ∃ i j : Nat, i ≤ j ∧ j ≤ nl ∧ iv = .int .i64 (i : Int) ∧ jv = .int .i64 (j : Int) ∧ wr = w ∧ Hid ((∀ k, k < i → en k ≤ f) ∧ ∀ k, j ≤ k → k < nl → f < en k)) (fun iv jv _ => (intOf jv).toNat - (intOf iv).toNat)
  case atStart => exact ⟨0, nl, by omega, by omega, rfl, rfl, rfl, fun k hk => by omega, fun k h1 h2 => by omega⟩
  case round =>
    obtain ⟨i, j, hij, hj, rfl, rfl, rfl, HI⟩ := hrel
    by_cases hlt : i < j
    · have x1 : (i : Int) < (j : Int) := by omega
      obtain ⟨h, hh⟩ : ∃ h, h = (i + j) / 2 := ⟨_, rfl⟩
      have z1 : IntKind.i64.wrap ((i : Int) + (j : Int)) = ((i + j : Nat) : Int) := by rw [i64_in _ (by omega) (by omega)]; push_cast; rfl
      have z2 : IntKind.u64.wrap ((i + j : Nat) : Int) = ((i + j : Nat) : Int) := by rw [wrapU64]; omega
      have z2b : IntKind.u64.wrap ((i : Int) + (j : Int)) = (i : Int) + (j : Int) := by rw [wrapU64]; omega
      have z3 : IntKind.i64.wrap (((i + j : Nat) : Int) / 2) = (h : Int) := by rw [i64_in _ (by omega) (by omega)]; omega
      have z3b : IntKind.i64.wrap (((i : Int) + (j : Int)) / 2) = (h : Int) := by rw [i64_in _ (by omega) (by omega)]; omega
      have z4 : IntKind.i64.wrap ((h : Int) + 1) = (h : Int) + 1 := i64_in _ (by omega) (by omega)
      have y0 : (0 : Int) ≤ (h : Int) := by omega
      have y1 : (h : Int) < (nl : Int) := by omega
      have hb : i ≤ h ∧ h < j := by omega
      have HB : Hid (i ≤ h ∧ h < j) := hb
      have c := HC.out h (by omega)
      clear hh hb
      by_cases hlx : en h ≤ f
      · have x2 : decide ((en h : Int) < (f1 : Int)) = true := by rw [decide_eq_true_iff]; have := HF1.out; omega
        have FL2 : Hid (∀ W, Calls Tryd.prog 53 #[.int .i64 (en h : Int), .int .i64 (f1 : Int)] W fun e w' => e = .returned (.bool true) ∧ w' = W) := fun W => by rw [← x2]; exact FL.out _ _ W
        clear x2
        go_wp2_with (go_at_call 53; refine (FL2.out _).mono ?_; rintro e w2 ⟨rfl, hw2⟩; subst hw2)
        refine ⟨⟨h + 1, j, by have := HB.out; omega, hj, by go_num, rfl, by first | rfl | trivial, fun k hk => ?_, HI.out.2⟩, by have := HB.out; simp [intOf]; omega⟩
        have := HM.out k h (by omega)
        omega
      · have x2 : decide ((en h : Int) < (f1 : Int)) = false := by rw [decide_eq_false_iff_not]; have := HF1.out; omega
        have FL2 : Hid (∀ W, Calls Tryd.prog 53 #[.int .i64 (en h : Int), .int .i64 (f1 : Int)] W fun e w' => e = .returned (.bool false) ∧ w' = W) := fun W => by rw [← x2]; exact FL.out _ _ W
        clear x2
        go_wp2_with (go_at_call 53; refine (FL2.out _).mono ?_; rintro e w2 ⟨rfl, hw2⟩; subst hw2)
        refine ⟨⟨i, h, by have := HB.out; omega, by have := HB.out; omega, rfl, rfl, by first | rfl | trivial, HI.out.1, fun k h1 h2 => ?_⟩, by have := HB.out; simp [intOf]; omega⟩
        have := HM.out h k (by omega)
        omega
    · obtain rfl : i = j := by omega
      have x1 : ¬ ((i : Nat) : Int) < (i : Int) := by omega
      by_cases hin : i < nl
      · have c := HC.out i hin
        have y0 : (0 : Int) ≤ (i : Int) := by omega
        have y1 : (i : Int) < (nl : Int) := by omega
        by_cases he : en i = f1
        · have k1 : ((en i : Int) == (f1 : Int)) = true := by rw [beq_iff_eq]; omega
          go_wp2
          go_ret2
          exact HE.out i hj HI.out.1 HI.out.2 _
        · have k1 : ((en i : Int) == (f1 : Int)) = false := by rw [beq_eq_false_iff_ne]; omega
          go_wp2_with (go_at_call 54; refine (FN.out _ _).mono ?_; rintro e w2 ⟨rfl, hw2⟩; subst hw2)
          go_ret2
          exact HE.out i hj HI.out.1 HI.out.2 _
      · have y1 : decide ((i : Int) < (nl : Int)) = false := by rw [decide_eq_false_iff_not]; omega
        go_wp2
        go_ret2
        exact HE.out i hj HI.out.1 HI.out.2 _
end Go.Proofs.YtdfbfheceobboaaDoor
