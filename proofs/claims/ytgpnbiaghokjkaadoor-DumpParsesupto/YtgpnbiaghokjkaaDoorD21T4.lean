import Derived.Test.YtgpnbiaghokjkaaDoorD21T2
/-! Layer 21, the landed code: takeBlown. -/
namespace Go.Proofs.YtgpnbiaghokjkaaDoor
open Go.RowKit
set_option linter.unusedVariables false
set_option linter.unusedSimpArgs false
set_option maxRecDepth 100000

def szOf : Value → Nat | .string s => s.size | _ => 0
/-- What takeBlown leaves. -/
def TkB (N R ln NB : Nat) (c : Cfg) (t : St) (pB eB bB : Nat) (ps : List (Nat × Nat)) (pg cl : Nat) (L : List By) (w : World) (e : Ending) (w' : World) : Prop :=
  match blownC NB L with
  | none => TkE N R ln 5 w e w'
  | some v => e = .returned (.tuple #[]) ∧ BX N R w w' ∧ RdM N R ln c ⟨t.pages, t.erases, marks NB v⟩ pB eB bB ps pg cl w'
theorem blC_succ (NB f least : Nat) (r : List By) (h : ¬ r = [10#8]) : blC NB (f + 1) least r = (match numC r with | none => none | some (i, t) => if least ≤ i ∧ i < NB then (blC NB f (i + 1) t).map (i :: ·) else none) := by
  rw [blC, if_neg h]
  cases numC r with
  | none => rfl
  | some p =>
    obtain ⟨i, t⟩ := p
    dsimp only
    by_cases hc : least ≤ i ∧ i < NB
    · rw [if_pos hc, if_pos hc]
      cases blC NB f (i + 1) t <;> rfl
    · rw [if_neg hc, if_neg hc]
set_option maxHeartbeats 4000000 in
theorem takeBlown_any (N R ln NB : Nat) (c : Cfg) (t : St) (pB eB bB : Nat) (ps : List (Nat × Nat)) (pg cl : Nat) (L : List By) (hL : L.length ≤ 140737488355328) (hNB : NB ≤ 1000) (ht : t.blown = marks NB []) (w : World) (h : RdM N R ln c t pB eB bB ps pg cl w) :
    Calls Tryd.prog 59 #[.pointer (some ⟨R, 0, none⟩), .string (strOf L)] w (TkB N R ln NB c t pB eB bB ps pg cl L w) := by
  have HA : Hid (∀ W : World, Calls Tryd.prog 66 #[.string (strOf L), .string { data := #[98, 108, 111, 119, 110] }] W fun e w' => e = aftE L wBlown ∧ w' = W) := fun W => by
    rw [k_blown]; exact after_any L wBlown hL (by decide) W
  have H0 : Hid (RdM N R ln c ⟨t.pages, t.erases, marks NB []⟩ pB eB bB ps pg cl w) := by show RdM _ _ _ _ _ _ _ _ _ _ _ _; rw [← ht]; exact h
  clear h ht
  by_cases h1 : L.take wBlown.length = wBlown
  · have HE : aftE L wBlown = .returned (.string (strOf (L.drop wBlown.length))) := by unfold aftE; exact if_pos h1
    rw [HE] at HA
    have HC : Hid (blownC NB L = blC NB (L.length + 1) 0 (L.drop wBlown.length)) := by show blownC NB L = _; unfold blownC; exact if_pos h1
    have hsl : (L.drop wBlown.length).length ≤ L.length := by rw [List.length_drop]; omega
    clear HE h1
    generalize L.drop wBlown.length = r0 at *
    generalize hSL : strOf L = SL at *
    go_enter Tryd.func59, Tryd.ntmps59
    go_wp2_with (refine (HA.out _).mono ?_; rintro e w1 ⟨rfl, hw1⟩; rw [hw1]; clear hw1 w1)
    clear HA
    go_loopw [4, 5, 6] (fun sv kv lv wr => ∃ (vs : List Nat) (ri : List By) (k least f : Nat), ri.length ≤ L.length ∧ Hid (ri.length < f) ∧ sv = .string (strOf ri) ∧ kv = .int .i64 k ∧ lv = .int .i64 least ∧ least ≤ 2147483648 ∧ Hid (blownC NB L = (blC NB f least ri).map (vs ++ ·)) ∧ Hid (RdM N R ln c ⟨t.pages, t.erases, marks NB vs⟩ pB eB bB ps pg cl wr) ∧ Hid (BX N R w wr)) (fun sv _ _ _ => szOf sv)
    case atStart => exact ⟨[], r0, 0, 0, L.length + 1, hsl, by show _ < _; omega, rfl, rfl, rfl, by omega, by show blownC NB L = _; rw [HC.out]; cases blC NB (L.length + 1) 0 r0 <;> rfl, H0, BX.refl _⟩
    case round =>
      clear H0 HC
      obtain ⟨vs, ri, k, least, f, hri, hf, rfl, rfl, rfl, hle, HT, HM, HB⟩ := hrel
      have hq := strOf_beq ri [10#8]
      rw [lf_list] at hq
      by_cases hlf : ri = [10#8]
      · rw [decide_eq_true hlf] at hq
        have HX : Hid (blownC NB L = some vs) := by
          show blownC NB L = _
          obtain ⟨f', rfl⟩ : ∃ f', f = f' + 1 := ⟨f - 1, by have := hf.out; omega⟩
          rw [HT.out, blC, if_pos hlf]
          simp
        clear HT hlf
        generalize strOf ri = SI at *
        go_wp2
        first | go_end0 | skip
        unfold TkB
        rw [HX.out]
        exact ⟨rfl, HB.out, HM.out⟩
      · rw [decide_eq_false hlf] at hq
        have HN1 : Hid (∀ W : World, Calls Tryd.prog 67 #[.string (strOf ri)] W fun e w' => e = numE ri ∧ Dr W w') := fun W => number_any ri (by omega) W
        obtain ⟨f', hf'⟩ : ∃ f', f = f' + 1 := ⟨f - 1, by have := hf.out; omega⟩
        have hff := hf.out
        subst hf'
        rw [blC_succ NB f' least ri hlf] at HT
        unfold numE at HN1
        have HSZ : Hid (szOf (.string (strOf ri)) = ri.length) := strOf_size ri
        cases hc : numC ri with
        | none =>
          rw [hc] at HN1 HT
          have HX : Hid (blownC NB L = none) := HT.out
          clear HT hlf HSZ
          generalize strOf ri = SI at *
          go_wp2_with (refine (HN1.out _).mono ?_; rintro e w1 ⟨rfl, hd⟩)
          refine ⟨rfl, ?_⟩
          unfold TkB
          rw [HX.out]
          exact ⟨rfl, (HM.out.dr hd).c0, HB.out.dr hd⟩
        | some p =>
          obtain ⟨n, u⟩ := p
          rw [hc] at HN1 HT
          dsimp only at HN1 HT
          have hul := numC_len hc
          have hn := (numC_some hc).2.1
          have HSU : Hid (szOf (.string (strOf u)) = u.length) := strOf_size u
          have hmk : ∀ l, (marks NB l).length = NB := fun l => marks_len NB l
          generalize hSI : strOf ri = SI at *
          generalize hSJ : strOf u = SJ at *
          have HSJ : Hid (strOf u = SJ) := hSJ
          clear hSJ hSI hlf hc
          by_cases h2 : least ≤ n
          · have g2 : (least : Int) ≤ (n : Int) := by omega
            by_cases h3 : n < NB
            · have g3 : (n : Int) < (NB : Int) := by omega
              have HX : Hid (blownC NB L = (blC NB f' (n + 1) u).map ((vs ++ [n]) ++ ·)) := by
                show blownC NB L = _
                rw [HT.out, if_pos ⟨h2, h3⟩]
                cases blC NB f' (n + 1) u <;> simp
              have wk : IntKind.i64.wrap ((n : Int) + 1) = ((n + 1 : Nat) : Int) := by rw [i64_in _ (by omega) (by omega)]; omega
              have g0 : (0 : Int) ≤ (n : Int) := by omega
              clear HT
              go_wp2_with (first
                | (refine (HN1.out _).mono ?_; clear HN1; rintro e w1 ⟨rfl, hd⟩; have HM1 : Hid (RdM N R ln c ⟨t.pages, t.erases, marks NB vs⟩ pB eB bB ps pg cl w1) := HM.out.dr hd; have HB1 : Hid (BX N R w w1) := HB.out.dr hd; have c10 := HM1.out.c10; dsimp only at c10; rw [hmk] at c10; have cb := HM1.out.blAt n (by show n < (marks NB vs).length; rw [hmk]; exact h3); have fb := HM1.out.own.bl.frozen n; clear hd HM HB)
                | (refine (must_t _).mono ?_; rintro e w2 ⟨rfl, hw2⟩; rw [hw2]; clear hw2 w2))
              refine ⟨⟨vs ++ [n], u, n, n + 1, f', by omega, by show _ < _; omega, by rw [HSJ.out], rfl, rfl, by omega, HX, ?_, HB1.out.but (SameBut.setCell _ _ _ _) (.inr (HM1.out.own.lo _ (by simp)))⟩, by simp only [HSZ.out, HSU.out]; omega⟩
              have := HM1.out.setBl n true
              rw [marks_step NB vs n h3]
              exact this
            · have g3 : decide ((n : Int) < (NB : Int)) = false := decide_eq_false (by omega)
              have HX : Hid (blownC NB L = none) := by
                show blownC NB L = _
                rw [HT.out, if_neg (fun h => h3 h.2)]; rfl
              clear HT
              go_wp2_with (first
                | (refine (HN1.out _).mono ?_; clear HN1; rintro e w1 ⟨rfl, hd⟩; have HM1 : Hid (RdM N R ln c ⟨t.pages, t.erases, marks NB vs⟩ pB eB bB ps pg cl w1) := HM.out.dr hd; have HB1 : Hid (BX N R w w1) := HB.out.dr hd; have c10 := HM1.out.c10; dsimp only at c10; rw [hmk] at c10; clear hd HM HB)
                | (refine (must_f _).mono ?_; rintro e w2 ⟨rfl, hw2⟩; rw [hw2]; clear hw2 w2))
              refine ⟨rfl, ?_⟩
              unfold TkB
              rw [HX.out]
              exact ⟨rfl, HM1.out.c0, HB1.out⟩
          · have g2 : decide ((least : Int) ≤ (n : Int)) = false := decide_eq_false (by omega)
            have HX : Hid (blownC NB L = none) := by
              show blownC NB L = _
              rw [HT.out, if_neg (fun h => h2 h.1)]; rfl
            clear HT
            go_wp2_with (first
              | (refine (HN1.out _).mono ?_; clear HN1; rintro e w1 ⟨rfl, hd⟩; have HM1 : Hid (RdM N R ln c ⟨t.pages, t.erases, marks NB vs⟩ pB eB bB ps pg cl w1) := HM.out.dr hd; have HB1 : Hid (BX N R w w1) := HB.out.dr hd; clear hd HM HB)
              | (refine (must_f _).mono ?_; rintro e w2 ⟨rfl, hw2⟩; rw [hw2]; clear hw2 w2))
            refine ⟨rfl, ?_⟩
            unfold TkB
            rw [HX.out]
            exact ⟨rfl, HM1.out.c0, HB1.out⟩
  · have HE : aftE L wBlown = pan 5 := by unfold aftE; exact if_neg h1
    have HX : Hid (blownC NB L = none) := by show blownC NB L = none; unfold blownC; exact if_neg h1
    rw [HE] at HA
    generalize strOf L = SL at *
    go_enter Tryd.func59, Tryd.ntmps59
    go_wp2_with (refine (HA.out _).mono ?_; rintro e w1 ⟨rfl, hw1⟩; rw [hw1]; clear hw1 w1)
    refine ⟨rfl, ?_⟩
    unfold TkB
    rw [HX.out]
    exact ⟨rfl, H0.out.c0, .refl _⟩
end Go.Proofs.YtgpnbiaghokjkaaDoor

/-! Layer 21, the landed code: takePage. -/
namespace Go.Proofs.YtgpnbiaghokjkaaDoor
open Go.RowKit
set_option linter.unusedVariables false
set_option linter.unusedSimpArgs false
set_option maxRecDepth 100000

/-- What a line from the third on leaves. -/
def TkS (N R ln : Nat) (c : Cfg) (o : Option (St × Nat × Nat)) (pB eB bB : Nat) (ps : List (Nat × Nat)) (w : World) (e : Ending) (w' : World) : Prop :=
  match o with
  | none => TkE N R ln 5 w e w'
  | some (t2, pg2, cl2) => e = .returned (.tuple #[]) ∧ BX N R w w' ∧ RdM N R ln c t2 pB eB bB ps pg2 cl2 w'
/-- A page's line. -/
def stP (M : Nat) (L : List By) (t : St) (pg : Nat) : Option (St × Nat × Nat) :=
  match lineC wPage 2 L with
  | some [p, e] => if p = pg ∧ p < M then some (⟨t.pages, t.erases.set p (e : Int), t.blown⟩, pg + 1, 0) else none
  | _ => none
theorem stP_eq (M : Nat) (L : List By) (t : St) (pg : Nat) (h : L.take wPage.length = wPage) : stP M L t pg = (match numC (L.drop wPage.length) with | none => none | some (p, r) => (match numC r with | none => none | some (e, u) => if u = [10#8] then (if p = pg ∧ p < M then some (⟨t.pages, t.erases.set p (e : Int), t.blown⟩, pg + 1, 0) else none) else none)) := by
  unfold stP lineC
  rw [if_pos h, takeNs]
  cases numC (L.drop wPage.length) with
  | none => rfl
  | some q =>
    obtain ⟨p, r⟩ := q
    dsimp only
    rw [takeNs]
    cases numC r with
    | none => rfl
    | some q =>
      obtain ⟨e, u⟩ := q
      show (match (if u = [10#8] then some [p, e] else none) with
        | some [p, e] => if p = pg ∧ p < M then some ((⟨t.pages, t.erases.set p (e : Int), t.blown⟩ : St), pg + 1, 0) else none
        | _ => none) = _
      by_cases hu : u = [10#8]
      · rw [if_pos hu]; dsimp only; rw [if_pos hu]
      · rw [if_neg hu]; dsimp only; rw [if_neg hu]
set_option maxHeartbeats 4000000 in
theorem takePage_any (N R ln M : Nat) (c : Cfg) (t : St) (pB eB bB : Nat) (ps : List (Nat × Nat)) (pg cl : Nat) (L : List By) (hL : L.length ≤ 140737488355328) (hM : M ≤ 1000) (hp : t.pages.length = M) (he : t.erases.length = M) (hpg : pg ≤ 1000) (w : World) (h : RdM N R ln c t pB eB bB ps pg cl w) :
    Calls Tryd.prog 62 #[.pointer (some ⟨R, 0, none⟩), .string (strOf L)] w (TkS N R ln c (stP M L t pg) pB eB bB ps w) := by
  have HA : Hid (∀ W : World, Calls Tryd.prog 66 #[.string (strOf L), .string { data := #[112, 97, 103, 101] }] W fun e w' => e = aftE L wPage ∧ w' = W) := fun W => by
    rw [k_page]; exact after_any L wPage hL (by decide) W
  have H0 : Hid (RdM N R ln c t pB eB bB ps pg cl w) := h
  have HP : Hid (t.pages.length = M) := hp
  have HEL : Hid (t.erases.length = M) := he
  clear h hp he
  by_cases h1 : L.take wPage.length = wPage
  · have HE : aftE L wPage = .returned (.string (strOf (L.drop wPage.length))) := by unfold aftE; exact if_pos h1
    rw [HE] at HA
    have HC := stP_eq M L t pg h1
    have hsl : (L.drop wPage.length).length ≤ 140737488355328 := by rw [List.length_drop]; omega
    clear HE h1
    generalize L.drop wPage.length = r0 at *
    generalize hSL : strOf L = SL at *
    have HN1 : Hid (∀ W : World, Calls Tryd.prog 67 #[.string (strOf r0)] W fun e w' => e = numE r0 ∧ Dr W w') := fun W => number_any r0 hsl W
    unfold numE at HN1
    cases h0 : numC r0 with
    | none =>
      rw [h0] at HN1 HC
      have HX : Hid (stP M L t pg = none) := HC
      clear HC
      generalize strOf r0 = S0 at *
      go_enter Tryd.func62, Tryd.ntmps62
      go_wp2_with (first
        | (refine (HA.out _).mono ?_; clear HA; rintro e w1 ⟨rfl, hw1⟩; rw [hw1]; clear hw1 w1)
        | (refine (HN1.out _).mono ?_; clear HN1; rintro e w1 ⟨rfl, hd⟩))
      refine ⟨rfl, ?_⟩
      rw [HX.out]
      exact ⟨rfl, (H0.out.dr hd).c0, (BX.refl _).dr hd⟩
    | some q =>
      obtain ⟨p, r1⟩ := q
      rw [h0] at HN1 HC
      dsimp only at HN1 HC
      have hl1 := numC_le h0
      have hpm := (numC_some h0).2.1
      have HN2 : Hid (∀ W : World, Calls Tryd.prog 67 #[.string (strOf r1)] W fun e w' => e = numE r1 ∧ Dr W w') := fun W => number_any r1 (by omega) W
      unfold numE at HN2
      clear h0
      generalize strOf r0 = S0 at *
      cases h2 : numC r1 with
      | none =>
        rw [h2] at HN2 HC
        have HX : Hid (stP M L t pg = none) := HC
        clear HC
        generalize strOf r1 = S1 at *
        go_enter Tryd.func62, Tryd.ntmps62
        go_wp2_with (first
          | (refine (HA.out _).mono ?_; clear HA; rintro e w1 ⟨rfl, hw1⟩; rw [hw1]; clear hw1 w1)
          | (refine (HN1.out _).mono ?_; clear HN1; rintro e w1 ⟨rfl, hd1⟩)
          | (refine (HN2.out _).mono ?_; clear HN2; rintro e w2 ⟨rfl, hd2⟩))
        refine ⟨rfl, ?_⟩
        rw [HX.out]
        exact ⟨rfl, ((H0.out.dr hd1).dr hd2).c0, ((BX.refl _).dr hd1).dr hd2⟩
      | some q =>
        obtain ⟨e, u⟩ := q
        rw [h2] at HN2 HC
        dsimp only at HN2 HC
        have hem := (numC_some h2).2.1
        have HEN : Hid (∀ W : World, Calls Tryd.prog 68 #[.string (strOf u)] W fun e w' => e = mustE (decide (u = [10#8])) ∧ w' = W) := fun W => ended_any u W
        clear h2
        generalize strOf r1 = S1 at *
        by_cases hlf : u = [10#8]
        · rw [decide_eq_true hlf] at HEN
          rw [if_pos hlf] at HC
          clear hlf
          generalize strOf u = S2 at *
          by_cases hq : p = pg
          · subst hq
            have g1 : ((p : Int) == (p : Int)) = true := by simp
            by_cases hlt : p < M
            · rw [if_pos ⟨rfl, hlt⟩] at HC
              have g2 : (p : Int) < (M : Int) := by omega
              have g0 : (0 : Int) ≤ (p : Int) := by omega
              have wk : IntKind.i64.wrap ((p : Int) + 1) = ((p + 1 : Nat) : Int) := by rw [i64_in _ (by omega) (by omega)]; omega
              have HX : Hid (stP M L t p = some (⟨t.pages, t.erases.set p (e : Int), t.blown⟩, p + 1, 0)) := HC
              clear HC
              go_enter Tryd.func62, Tryd.ntmps62
              go_wp2_with (first
                | (refine (HA.out _).mono ?_; clear HA; rintro e w1 ⟨rfl, hw1⟩; rw [hw1]; clear hw1 w1)
                | (refine (HN1.out _).mono ?_; clear HN1; rintro e w1 ⟨rfl, hd1⟩; have H1 : Hid (RdM N R ln c t pB eB bB ps p cl w1 ∧ BX N R w w1) := ⟨H0.out.dr hd1, (BX.refl _).dr hd1⟩; clear H0 hd1)
                | (refine (HN2.out _).mono ?_; clear HN2; rintro e w2 ⟨rfl, hd2⟩; have H2 : Hid (RdM N R ln c t pB eB bB ps p cl w2 ∧ BX N R w w2) := ⟨H1.out.1.dr hd2, H1.out.2.dr hd2⟩; clear H1 hd2; have c11 := H2.out.1.c11; have c12 := H2.out.1.c12; have c8 := H2.out.1.c8; rw [HP.out] at c8; have c9 := H2.out.1.c9; rw [HEL.out] at c9; have ce := H2.out.1.erAt p (by rw [HEL.out]; exact hlt); have fe := H2.out.1.own.er.frozen p; have fr := fun k => H2.out.1.row.frozen k; have nR := H2.out.1.ne; simp only [List.mem_cons, not_or] at nR; have n9 : ¬ eB = R := fun e => nR.2.1 e.symm)
                | (refine (HEN.out _).mono ?_; clear HEN; rintro e w3 ⟨rfl, hw3⟩; rw [hw3]; clear hw3 w3; dsimp only [mustE])
                | (refine (must_t _).mono ?_; rintro e w3 ⟨rfl, hw3⟩; rw [hw3]; clear hw3 w3))
              first | go_end0 | skip
              rw [HX.out]
              have r3 := ((H2.out.1.setEr p (e : Int)).setPs (p + 1)).setCl 0
              exact ⟨rfl, ((H2.out.2.but (SameBut.setCell _ _ _ _) (.inr (H2.out.1.own.lo _ (by simp)))).but (SameBut.setCell _ _ _ _) (.inl rfl)).but (SameBut.setCell _ _ _ _) (.inl rfl), r3⟩
            · rw [if_neg (fun h => hlt h.2)] at HC
              have g2 : decide ((p : Int) < (M : Int)) = false := decide_eq_false (by omega)
              have HX : Hid (stP M L t p = none) := HC
              clear HC
              go_enter Tryd.func62, Tryd.ntmps62
              go_wp2_with (first
                | (refine (HA.out _).mono ?_; clear HA; rintro e w1 ⟨rfl, hw1⟩; rw [hw1]; clear hw1 w1)
                | (refine (HN1.out _).mono ?_; clear HN1; rintro e w1 ⟨rfl, hd1⟩; have H1 : Hid (RdM N R ln c t pB eB bB ps p cl w1 ∧ BX N R w w1) := ⟨H0.out.dr hd1, (BX.refl _).dr hd1⟩; clear H0 hd1)
                | (refine (HN2.out _).mono ?_; clear HN2; rintro e w2 ⟨rfl, hd2⟩; have H2 : Hid (RdM N R ln c t pB eB bB ps p cl w2 ∧ BX N R w w2) := ⟨H1.out.1.dr hd2, H1.out.2.dr hd2⟩; clear H1 hd2; have c11 := H2.out.1.c11; have c8 := H2.out.1.c8; rw [HP.out] at c8)
                | (refine (HEN.out _).mono ?_; clear HEN; rintro e w3 ⟨rfl, hw3⟩; rw [hw3]; clear hw3 w3; dsimp only [mustE])
                | (refine (must_f _).mono ?_; rintro e w3 ⟨rfl, hw3⟩; rw [hw3]; clear hw3 w3))
              refine ⟨rfl, ?_⟩
              rw [HX.out]
              exact ⟨rfl, H2.out.1.c0, H2.out.2⟩
          · rw [if_neg (fun h => hq h.1)] at HC
            have g1 : ((p : Int) == (pg : Int)) = false := by rw [beq_eq_false_iff_ne]; omega
            have HX : Hid (stP M L t pg = none) := HC
            clear HC
            go_enter Tryd.func62, Tryd.ntmps62
            go_wp2_with (first
              | (refine (HA.out _).mono ?_; clear HA; rintro e w1 ⟨rfl, hw1⟩; rw [hw1]; clear hw1 w1)
              | (refine (HN1.out _).mono ?_; clear HN1; rintro e w1 ⟨rfl, hd1⟩; have H1 : Hid (RdM N R ln c t pB eB bB ps pg cl w1 ∧ BX N R w w1) := ⟨H0.out.dr hd1, (BX.refl _).dr hd1⟩; clear H0 hd1)
              | (refine (HN2.out _).mono ?_; clear HN2; rintro e w2 ⟨rfl, hd2⟩; have H2 : Hid (RdM N R ln c t pB eB bB ps pg cl w2 ∧ BX N R w w2) := ⟨H1.out.1.dr hd2, H1.out.2.dr hd2⟩; clear H1 hd2; have c11 := H2.out.1.c11; have c8 := H2.out.1.c8; rw [HP.out] at c8)
              | (refine (HEN.out _).mono ?_; clear HEN; rintro e w3 ⟨rfl, hw3⟩; rw [hw3]; clear hw3 w3; dsimp only [mustE])
              | (refine (must_f _).mono ?_; rintro e w3 ⟨rfl, hw3⟩; rw [hw3]; clear hw3 w3))
            refine ⟨rfl, ?_⟩
            rw [HX.out]
            exact ⟨rfl, H2.out.1.c0, H2.out.2⟩
        · rw [decide_eq_false hlf] at HEN
          rw [if_neg hlf] at HC
          have HX : Hid (stP M L t pg = none) := HC
          clear HC hlf
          generalize strOf u = S2 at *
          go_enter Tryd.func62, Tryd.ntmps62
          go_wp2_with (first
            | (refine (HA.out _).mono ?_; clear HA; rintro e w1 ⟨rfl, hw1⟩; rw [hw1]; clear hw1 w1)
            | (refine (HN1.out _).mono ?_; clear HN1; rintro e w1 ⟨rfl, hd1⟩)
            | (refine (HN2.out _).mono ?_; clear HN2; rintro e w2 ⟨rfl, hd2⟩)
            | (refine (HEN.out _).mono ?_; clear HEN; rintro e w3 ⟨rfl, hw3⟩; rw [hw3]; clear hw3 w3; dsimp only [mustE]))
          refine ⟨rfl, ?_⟩
          rw [HX.out]
          exact ⟨rfl, ((H0.out.dr hd1).dr hd2).c0, ((BX.refl _).dr hd1).dr hd2⟩
  · have HE : aftE L wPage = pan 5 := by unfold aftE; exact if_neg h1
    have HX : Hid (stP M L t pg = none) := by show stP M L t pg = none; unfold stP lineC; rw [if_neg h1]
    rw [HE] at HA
    generalize strOf L = SL at *
    go_enter Tryd.func62, Tryd.ntmps62
    go_wp2_with (refine (HA.out _).mono ?_; rintro e w1 ⟨rfl, hw1⟩; rw [hw1]; clear hw1 w1)
    refine ⟨rfl, ?_⟩
    rw [HX.out]
    exact ⟨rfl, H0.out.c0, .refl _⟩
end Go.Proofs.YtgpnbiaghokjkaaDoor
