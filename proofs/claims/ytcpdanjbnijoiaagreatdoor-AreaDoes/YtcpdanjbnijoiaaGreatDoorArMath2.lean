
import Derived.Test.YtcpdanjbnijoiaaGreatDoorArMath
/-! Layer 14 as plain data: what Write's acts come to. -/
namespace Go.Proofs.YtcpdanjbnijoiaaGreatDoor
open Go.RowKit
set_option linter.unusedVariables false

def sumTo (f : Nat → Int) : Nat → Int
  | 0 => 0
  | m + 1 => sumTo f m + f m
theorem sumTo_congr {f g : Nat → Int} : ∀ {M : Nat}, (∀ j, j < M → g j = f j) → sumTo g M = sumTo f M
  | 0, _ => rfl
  | M + 1, h => by
    unfold sumTo
    rw [sumTo_congr (M := M) fun j hj => h j (by omega), h M (by omega)]
theorem sumTo_bump {f g : Nat → Int} {p : Nat} : ∀ {M : Nat}, p < M → (∀ j, j < M → j ≠ p → g j = f j) → g p = f p + 1 → sumTo g M = sumTo f M + 1
  | 0, h, _, _ => by omega
  | M + 1, h, h1, h2 => by
    unfold sumTo
    by_cases e : p = M
    · subst e
      rw [sumTo_congr (f := f) (g := g) fun j hj => h1 j (by omega) (by omega), h2]; omega
    · rw [sumTo_bump (M := M) (by omega) (fun j hj hne => h1 j (by omega) hne) h2, h1 M (by omega) (fun e2 => e e2.symm)]; omega

theorem pgN_c {s t : RS} (h : t.c = s.c) (a : Int) (p : Nat) : t.pgN a p = s.pgN a p := by unfold RS.pgN; rw [h]
/-- How often the area's pages were erased. -/
def RS.era (s : RS) (a : Int) (p : Nat) : Int := s.erases.getD (s.pgN a p) 0
def RS.esum (s : RS) (a : Int) : Int := sumTo (s.era a) s.c.area.toNat

structure EGo (a : Int) (p m : Nat) (s t : RS) (e : Int) : Prop where
  ar : t.Ar
  c : t.c = s.c
  bl : t.blown = s.blown
  msk : t.mask = s.mask
  oth : ∀ q, (∀ j, p ≤ j → j < p + m → q ≠ s.pgN a j) → t.pages.getD q [] = s.pages.getD q []
  pl : t.pages.length = s.pages.length
  el : t.erases.length = s.erases.length
  eo : ∀ q, (∀ j, p ≤ j → j < p + m → q ≠ s.pgN a j) → t.erases.getD q 0 = s.erases.getD q 0
  pe : ∀ q, s.erases.getD q 0 ≤ t.erases.getD q 0 ∧ t.erases.getD q 0 ≤ s.erases.getD q 0 + 1
  sm : t.n - t.esum a = s.n - s.esum a
  n0 : s.n ≤ t.n
  n1 : t.n ≤ s.n + m
  e : (e = 0 ∧ t.gone = false ∧ ∀ j, p ≤ j → j < p + m → isBlank (t.pages.getD (s.pgN a j) []) = true) ∨ (e = 8 ∧ t.gone = true)

theorem ego {a : Int} (ha : a = 0 ∨ a = 1) : ∀ (m p : Nat) (s : RS), s.Ar → s.gone = false → p + m ≤ s.c.area.toNat → (∀ j, p ≤ j → j < p + m → s.wornAt a j = false) → EGo a p m s (eraseGo a m p s).1 (eraseGo a m p s).2
  | 0, p, s, h, hg, hm, hw => ⟨h, rfl, rfl, rfl, fun _ _ => rfl, rfl, rfl, fun _ _ => rfl, fun _ => ⟨Int.le_refl _, by show s.erases.getD _ 0 ≤ s.erases.getD _ 0 + 1; omega⟩, rfl, Int.le_refl _, by show s.n ≤ s.n + 0; omega, .inl ⟨rfl, hg, fun j h1 h2 => by omega⟩⟩
  | m + 1, p, s, h, hg, hm, hw => by
    have hp : p < s.c.area.toNat := by omega
    obtain ⟨hp1, hp2, hp3⟩ := h.pg ha hp
    unfold eraseGo
    by_cases hb : isBlank (s.pages.getD (s.pgN a p) []) = true
    · rw [if_pos hb]
      have ih := ego ha m (p + 1) s h hg (by omega) fun j h1 h2 => hw j (by omega) (by omega)
      refine ⟨ih.ar, ih.c, ih.bl, ih.msk, fun q hq => ih.oth q fun j h1 h2 => hq j (by omega) (by omega), ih.pl, ih.el, fun q hq => ih.eo q fun j h1 h2 => hq j (by omega) (by omega), ih.pe, ih.sm, ih.n0, by have := ih.n1; omega, ?_⟩
      rcases ih.e with ⟨e1, e2, e3⟩ | h8
      · refine .inl ⟨e1, e2, fun j h1 h2 => ?_⟩
        by_cases e : j = p
        · subst e
          rw [ih.oth _ fun i h3 h4 e5 => by have := pg_inj h ha hp (by omega) e5; omega]; exact hb
        · exact e3 j (by omega) (by omega)
      · exact .inr h8
    · rw [if_neg hb]
      have hwp := hw p (Nat.le_refl _) (by omega)
      have hlt : s.erases.getD (s.pgN a p) 0 < s.c.erases := by
        unfold RS.wornAt at hwp
        have hb' : isBlank (s.pages.getD (s.pgN a p) []) = false := by simpa using hb
        rw [hb'] at hwp
        simp at hwp
        simpa using hwp
      have F := era_f h hg hp2 hlt
      generalize s.erase ((s.pgN a p : Nat) : Int) = t at F ⊢
      generalize s.eraseE ((s.pgN a p : Nat) : Int) = e at F ⊢
      obtain ⟨pg, f1, f2, f3, f4⟩ := F.pg
      have hel : t.erases.length = s.erases.length := by rw [F.er, List.length_set]
      have hta : t.Ar := h.setPage t _ hp2 pg f2 f3 F.c f1 hel (by rw [F.bl])
      have hpl : t.pages.length = s.pages.length := by rw [f1, List.length_set]
      have hsm : t.esum a = s.esum a + 1 := by
        unfold RS.esum
        rw [F.c]
        refine sumTo_bump hp (fun j hj hne => ?_) ?_
        · unfold RS.era
          rw [pgN_c F.c, F.er, getD_set_ne' _ _ _ _ _ fun e2 => hne (pg_inj h ha hj hp e2)]
        · unfold RS.era
          rw [pgN_c F.c, F.er, getD_set_eq _ _ _ _ (by rw [h.ok.er]; exact hp2)]
      have hert : ∀ q, t.erases.getD q 0 = if q = s.pgN a p then s.erases.getD q 0 + 1 else s.erases.getD q 0 := fun q => by
        rw [F.er]
        by_cases e5 : q = s.pgN a p
        · rw [if_pos e5, e5, getD_set_eq _ _ _ _ (by rw [h.ok.er]; exact hp2)]
        · rw [if_neg e5, getD_set_ne' _ _ _ _ _ e5]
      by_cases he : e = 0
      · rw [if_pos he]
        rcases F.e with ⟨_, hg2⟩ | ⟨h8, _⟩
        · have ih := ego ha m (p + 1) t hta hg2 (by rw [F.c]; omega) fun j h1 h2 => by
            have hne : s.pgN a j ≠ s.pgN a p := fun e2 => by have := pg_inj h ha (by omega) hp e2; omega
            have := hw j (by omega) (by omega)
            unfold RS.wornAt at this ⊢
            rw [pgN_c F.c, F.c, f1, F.er, getD_set_ne' _ _ _ _ _ hne, getD_set_ne' _ _ _ _ _ hne]; exact this
          have her : ∀ q, t.erases.getD q 0 = if q = s.pgN a p then s.erases.getD q 0 + 1 else s.erases.getD q 0 := hert
          refine ⟨ih.ar, ih.c.trans F.c, ih.bl.trans F.bl, ih.msk.trans F.msk, fun q hq => ?_, ih.pl.trans hpl, ih.el.trans hel, fun q hq => ?_, fun q => ?_, ?_, ?_, ?_, ?_⟩
          · rw [ih.oth q fun j h1 h2 => by rw [pgN_c F.c]; exact hq j (by omega) (by omega), f1, getD_set_ne' _ _ _ _ _ (hq p (Nat.le_refl _) (by omega))]
          · rw [ih.eo q fun j h1 h2 => by rw [pgN_c F.c]; exact hq j (by omega) (by omega), her, if_neg (hq p (Nat.le_refl _) (by omega))]
          · by_cases e5 : q = s.pgN a p
            · rw [ih.eo q fun j h1 h2 e6 => by rw [pgN_c F.c, e5] at e6; have := pg_inj h ha hp (by omega) e6; omega, her, if_pos e5]
              omega
            · have h5 := ih.pe q
              rw [her, if_neg e5] at h5
              exact h5
          · rw [ih.sm, F.n, hsm]; omega
          · have := ih.n0; rw [F.n] at this; omega
          · have := ih.n1; rw [F.n] at this; omega
          · rcases ih.e with ⟨e1, e2, e3⟩ | h8
            · refine .inl ⟨e1, e2, fun j h1 h2 => ?_⟩
              by_cases e5 : j = p
              · subst e5
                rw [ih.oth _ fun i h3 h4 e6 => by rw [pgN_c F.c] at e6; have := pg_inj h ha hp (by omega) e6; omega, f1, getD_set_eq _ _ _ _ hp2]; exact f4 he
              · have := e3 j (by omega) (by omega)
                rw [pgN_c F.c] at this; exact this
            · exact .inr h8
        · omega
      · rw [if_neg he]
        rcases F.e with ⟨h0, _⟩ | ⟨h8, hg8⟩
        · exact absurd h0 he
        · refine ⟨hta, F.c, F.bl, F.msk, fun q hq => ?_, hpl, hel, fun q hq => by show t.erases.getD q 0 = _; rw [hert, if_neg (hq p (Nat.le_refl _) (by omega))], fun q => by show _ ≤ t.erases.getD q 0 ∧ t.erases.getD q 0 ≤ _; rw [hert]; split <;> omega, by rw [F.n, hsm]; omega, by rw [F.n]; omega, by rw [F.n]; omega, .inr ⟨h8, hg8⟩⟩
          show t.pages.getD q [] = _
          rw [f1, getD_set_ne' _ _ _ _ _ (hq p (Nat.le_refl _) (by omega))]

/-- The cell number j of an area. -/
def RS.acell (s : RS) (a : Int) (j : Nat) : List By := (s.pages.getD (s.pgN a (j / s.c.cells.toNat)) []).getD (j % s.c.cells.toNat) []

structure LGo (a : Int) (b : List By) (k m : Nat) (s t : RS) (e : Int) : Prop where
  ar : t.Ar
  c : t.c = s.c
  bl : t.blown = s.blown
  msk : t.mask = s.mask
  er : t.erases = s.erases
  oth : ∀ q, (∀ j, j < s.c.area.toNat → q ≠ s.pgN a j) → t.pages.getD q [] = s.pages.getD q []
  pl : t.pages.length = s.pages.length
  keep : ∀ j, j < s.c.area.toNat * s.c.cells.toNat → (j < k ∨ k + m ≤ j) → t.acell a j = s.acell a j
  n0 : s.n ≤ t.n
  n1 : t.n ≤ s.n + m
  e : (e = 0 ∧ t.gone = false ∧ t.n = s.n + m ∧ ∀ j, k ≤ j → j < k + m → t.acell a j = cellOf b j) ∨ (e = 8 ∧ t.gone = true)

theorem lay_one {a : Int} (ha : a = 0 ∨ a = 1) (b : List By) (k : Nat) (s : RS) (h : s.Ar) (hg : s.gone = false) (hk : k < s.c.area.toNat * s.c.cells.toNat) (hb : s.acell a k = blankC) : LGo a b k 1 s (s.layC a b k) (s.layE a k) ∧ (s.layC a b k).n = s.n + 1 := by
  have hc := h.cells
  have har := h.area
  have hkc : k / s.c.cells.toNat < s.c.area.toNat := Nat.div_lt_of_lt_mul (by rw [Nat.mul_comm]; exact hk)
  have hkm : k % s.c.cells.toNat < s.c.cells.toNat := Nat.mod_lt _ (by omega)
  obtain ⟨hp1, hp2, hp3⟩ := h.pg ha hkc
  have F := prg_f h hg hp2 (k := k % s.c.cells.toNat) (by omega) (cellOf b k)
  have e1 : s.layC a b k = s.program ((s.pgN a (k / s.c.cells.toNat) : Nat) : Int) ((k % s.c.cells.toNat : Nat) : Int) (cellOf b k) := rfl
  have e2 : s.layE a k = s.programE ((s.pgN a (k / s.c.cells.toNat) : Nat) : Int) ((k % s.c.cells.toNat : Nat) : Int) := rfl
  rw [e1, e2]
  generalize s.program ((s.pgN a (k / s.c.cells.toNat) : Nat) : Int) ((k % s.c.cells.toNat : Nat) : Int) (cellOf b k) = t at F ⊢
  generalize s.programE ((s.pgN a (k / s.c.cells.toNat) : Nat) : Int) ((k % s.c.cells.toNat : Nat) : Int) = e at F ⊢
  clear e1 e2
  obtain ⟨y, f1, f2, f3⟩ := F.pg
  have hlen : (s.pages.getD (s.pgN a (k / s.c.cells.toNat)) []).length = s.c.cells.toNat := by have := h.pgLen hp2; omega
  have hta : t.Ar := h.setPage t _ hp2 ((s.pages.getD (s.pgN a (k / s.c.cells.toNat)) []).set (k % s.c.cells.toNat) y) (by rw [List.length_set]) (fun x hx => by
    rcases List.mem_or_eq_of_mem_set hx with h1 | rfl
    · exact h.by8 hp2 x h1
    · exact f2) F.c f1 (by rw [F.er]) (by rw [F.bl])
  have hk1 : t.acell a k = y := by
    unfold RS.acell
    rw [F.c, pgN_c F.c, f1, getD_set_eq _ _ _ _ hp2, getD_set_eq _ _ _ _ (by rw [hlen]; exact hkm)]
  have hk2 : ∀ j, j < s.c.area.toNat * s.c.cells.toNat → j ≠ k → t.acell a j = s.acell a j := by
    intro j hj hne
    have hjc : j / s.c.cells.toNat < s.c.area.toNat := Nat.div_lt_of_lt_mul (by rw [Nat.mul_comm]; exact hj)
    unfold RS.acell
    rw [F.c, pgN_c F.c, f1]
    by_cases e : j / s.c.cells.toNat = k / s.c.cells.toNat
    · rw [e, getD_set_eq _ _ _ _ hp2, getD_set_ne' _ _ _ _ _ fun e2 => hne ?_]
      rw [← Nat.div_add_mod j s.c.cells.toNat, ← Nat.div_add_mod k s.c.cells.toNat, e, e2]
    · rw [getD_set_ne' _ _ _ _ _ fun e2 => e (pg_inj h ha hjc hkc e2)]
  refine ⟨⟨hta, F.c, F.bl, F.msk, F.er, fun q hq => ?_, by rw [f1, List.length_set], fun j hj hne => hk2 j hj (by omega), by rw [F.n]; omega, by rw [F.n]; omega, ?_⟩, F.n⟩
  · rw [f1, getD_set_ne' _ _ _ _ _ (hq _ hkc)]
  · rcases F.e with ⟨h0, hg0⟩ | h8
    · refine .inl ⟨h0, hg0, F.n, fun j h1 h2 => ?_⟩
      obtain rfl : j = k := by omega
      rw [hk1, f3 h0]
      unfold RS.acell at hb
      rw [hb]
      exact prog_blank _ _ (cellOf_len _ _)
    · exact .inr h8

theorem lgo {a : Int} (ha : a = 0 ∨ a = 1) (b : List By) : ∀ (m k : Nat) (s : RS), s.Ar → s.gone = false → k + m ≤ s.c.area.toNat * s.c.cells.toNat → (∀ j, k ≤ j → j < k + m → s.acell a j = blankC) → LGo a b k m s (layGo a b m k s).1 (layGo a b m k s).2
  | 0, k, s, h, hg, hm, hw => ⟨h, rfl, rfl, rfl, rfl, fun _ _ => rfl, rfl, fun _ _ _ => rfl, Int.le_refl _, by show s.n ≤ s.n + 0; omega, .inl ⟨rfl, hg, by show s.n = s.n + 0; omega, fun j h1 h2 => by omega⟩⟩
  | m + 1, k, s, h, hg, hm, hw => by
    have L := (lay_one ha b k s h hg (by omega) (hw k (Nat.le_refl _) (by omega))).1
    unfold layGo
    generalize s.layC a b k = t at L ⊢
    generalize s.layE a k = e at L ⊢
    by_cases he : e = 0
    · rw [if_pos he]
      rcases L.e with ⟨_, hg2, hn2, hc2⟩ | ⟨h8, _⟩
      · have ih := lgo ha b m (k + 1) t L.ar hg2 (by rw [L.c]; omega) fun j h1 h2 => by
          rw [L.keep j (by omega) (.inr (by omega))]; exact hw j (by omega) (by omega)
        refine ⟨ih.ar, ih.c.trans L.c, ih.bl.trans L.bl, ih.msk.trans L.msk, ih.er.trans L.er, fun q hq => ?_, ih.pl.trans L.pl, fun j hj hne => ?_, ?_, ?_, ?_⟩
        · rw [ih.oth q fun j hj => by rw [pgN_c L.c]; exact hq j (by rw [← L.c]; exact hj), L.oth q hq]
        · rw [ih.keep j (by rw [L.c]; exact hj) (by omega), L.keep j hj (by omega)]
        · have := ih.n0; omega
        · have := ih.n1; omega
        · rcases ih.e with ⟨e1, e2, e3, e4⟩ | h8
          · refine .inl ⟨e1, e2, by omega, fun j h1 h2 => ?_⟩
            by_cases ej : j = k
            · subst ej
              rw [ih.keep j (by rw [L.c]; omega) (.inl (by omega))]; exact hc2 j (Nat.le_refl _) (by omega)
            · exact e4 j (by omega) (by omega)
          · exact .inr h8
      · omega
    · rw [if_neg he]
      rcases L.e with ⟨h0, _⟩ | h8
      · exact absurd h0 he
      · exact ⟨L.ar, L.c, L.bl, L.msk, L.er, L.oth, L.pl, fun j hj hne => L.keep j hj (by omega), L.n0, by have := L.n1; show t.n ≤ _; omega, .inr h8⟩

/-- What Write leaves. -/
structure AWF (a : Int) (b : List By) (s t : RS) (e : Int) : Prop where
  ar : t.Ar
  c : t.c = s.c
  bl : t.blown = s.blown
  oth : ∀ q, (∀ j, j < s.c.area.toNat → q ≠ s.pgN a j) → t.pages.getD q [] = s.pages.getD q []
  pl : t.pages.length = s.pages.length
  el : t.erases.length = s.erases.length
  pe : ∀ q, s.erases.getD q 0 ≤ t.erases.getD q 0 ∧ t.erases.getD q 0 ≤ s.erases.getD q 0 + 1
  n0 : s.n ≤ t.n
  n1 : t.n ≤ s.n + s.c.area.toNat + (b.length + 31) / 32
  e : (e = 0 ∧ ∀ j, j < s.c.area.toNat * s.c.cells.toNat → t.acell a j = cellOf b j) ∨
    (e = 8 ∧ t.n - s.n = t.esum a - s.esum a + ((b.length + 31) / 32 : Nat) ∧ ∀ j, 1 ≤ j → j < s.c.area.toNat * s.c.cells.toNat → t.acell a j = cellOf b j) ∨
    (e = 8 ∧ t.n - s.n < t.esum a - s.esum a + ((b.length + 31) / 32 : Nat) ∧ (t.acell a 0 = blankC ∨ t.n - s.n = t.esum a - s.esum a))

theorem blank_cell {s : RS} (h : s.Ar) {a : Int} (ha : a = 0 ∨ a = 1) (hb : ∀ p, p < s.c.area.toNat → isBlank (s.pages.getD (s.pgN a p) []) = true) {j : Nat} (hj : j < s.c.area.toNat * s.c.cells.toNat) : s.acell a j = blankC := by
  have hc := h.cells
  have hjc : j / s.c.cells.toNat < s.c.area.toNat := Nat.div_lt_of_lt_mul (by rw [Nat.mul_comm]; exact hj)
  have hjm : j % s.c.cells.toNat < s.c.cells.toNat := Nat.mod_lt _ (by omega)
  have h1 := hb _ hjc
  have hlen : (s.pages.getD (s.pgN a (j / s.c.cells.toNat)) []).length = s.c.cells.toNat := by have := h.pgLen (h.pg ha hjc).2.1; omega
  unfold isBlank at h1
  rw [List.all_eq_true] at h1
  unfold RS.acell
  have := h1 _ (List.getElem_mem (l := s.pages.getD (s.pgN a (j / s.c.cells.toNat)) []) (n := j % s.c.cells.toNat) (by rw [hlen]; exact hjm))
  rw [List.getD_eq_getElem?_getD, List.getElem?_eq_getElem (by rw [hlen]; exact hjm)]
  simpa using this
theorem cellOf_beyond {b : List By} {j : Nat} (h : b.length ≤ 32 * j) : cellOf b j = blankC := by
  unfold cellOf blankC
  apply List.ext_getElem
  · simp
  · intro i h1 h2
    have hi : i < 32 := by simpa using h1
    simp only [List.getElem_map, List.getElem_range, List.getElem_replicate]
    rw [List.getD_eq_getElem?_getD, List.getElem?_eq_none (by omega)]; rfl

theorem awf {a : Int} (ha : a = 0 ∨ a = 1) (b : List By) (s : RS) (h : s.Ar) (hg : s.gone = false) (hb0 : 0 < b.length) (hb1 : (b.length : Int) ≤ s.c.asize) (hw : s.aworn a = false) : AWF a b s (s.wr1 a b).1 (s.wr1 a b).2 := by
  have hc := h.cells
  have har := h.area
  have hE := ego ha s.c.area.toNat 0 s h hg (by omega) fun j _ hj => by
    unfold RS.aworn at hw
    rw [List.any_eq_false] at hw
    simpa using hw j (List.mem_range.2 (by omega))
  rw [h.asize] at hb1
  have hMC : ((s.c.area.toNat * s.c.cells.toNat : Nat) : Int) = s.c.area * s.c.cells := by
    rw [Int.natCast_mul]; congr 1 <;> omega
  obtain ⟨MC, hMCe⟩ : ∃ MC, s.c.area.toNat * s.c.cells.toNat = MC := ⟨_, rfl⟩
  rw [hMCe] at hMC
  have hlen : b.length ≤ 32 * MC := by rw [← hMC] at hb1; omega
  unfold RS.wr1
  generalize (eraseGo a s.c.area.toNat 0 s) = r at hE ⊢
  obtain ⟨s1, e1⟩ := r
  simp only at hE ⊢
  have hsz : ∀ t : RS, t.c = s.c → t.erases = s1.erases → t.esum a = s1.esum a := fun t h1 h2 => by
    unfold RS.esum
    rw [h1, hE.c]
    exact sumTo_congr fun j _ => by unfold RS.era; rw [pgN_c (h1.trans hE.c.symm), h2]
  have hsm := hE.sm
  rcases hE.e with ⟨e0, hg1, hbl⟩ | ⟨e8, hg8⟩
  · rw [if_pos e0]
    have hbl' : ∀ p, p < s1.c.area.toNat → isBlank (s1.pages.getD (s1.pgN a p) []) = true := fun p hp => by
      rw [hE.c] at hp
      rw [pgN_c hE.c]; exact hbl p (by omega) (by omega)
    have hcell : ∀ j, j < MC → s1.acell a j = blankC := fun j hj => blank_cell hE.ar ha hbl' (by rw [hE.c, hMCe]; exact hj)
    have hL := lgo ha b ((b.length + 31) / 32 - 1) 1 s1 hE.ar hg1 (by rw [hE.c, hMCe]; omega) fun j h1 h2 => hcell j (by omega)
    unfold RS.wr2
    generalize (layGo a b ((b.length + 31) / 32 - 1) 1 s1) = r at hL ⊢
    obtain ⟨s2, e2⟩ := r
    simp only at hL ⊢
    have hc2 : s2.c = s.c := hL.c.trans hE.c
    have hn0 := hE.n0
    have hn1 := hE.n1
    have hn2 := hL.n0
    have hn3 := hL.n1
    have hoth2 : ∀ q, (∀ j, j < s.c.area.toNat → q ≠ s.pgN a j) → s2.pages.getD q [] = s.pages.getD q [] := fun q hq => by
      rw [hL.oth q fun j hj => by rw [pgN_c hE.c]; exact hq j (by rw [← hE.c]; exact hj), hE.oth q fun j _ hj => hq j (by omega)]
    have hes2 : s2.esum a = s1.esum a := hsz s2 hc2 hL.er
    have hkeep0 : s2.acell a 0 = blankC := by
      rw [hL.keep 0 (by rw [hE.c, hMCe]; omega) (.inl (by omega))]; exact hcell 0 (by omega)
    rcases hL.e with ⟨f0, hg2, hn4, hcl⟩ | ⟨f8, hg8⟩
    · rw [if_pos f0]
      obtain ⟨hO, hn8⟩ := lay_one ha b 0 s2 hL.ar hg2 (by rw [hc2, hMCe]; omega) hkeep0
      generalize s2.layC a b 0 = t at hO hn8 ⊢
      generalize s2.layE a 0 = e at hO ⊢
      simp only
      have hct : t.c = s.c := hO.c.trans hc2
      have hes : t.esum a = s1.esum a := hsz t hct (hO.er.trans hL.er)
      have hn5 := hO.n0
      have hn6 := hO.n1
      have hrest : ∀ j, 1 ≤ j → j < MC → t.acell a j = cellOf b j := fun j h1 hj => by
        rw [hO.keep j (by rw [hc2, hMCe]; exact hj) (.inr (by omega))]
        by_cases hlt : j < (b.length + 31) / 32
        · exact hcl j h1 (by omega)
        · rw [hL.keep j (by rw [hE.c, hMCe]; exact hj) (.inr (by omega)), hcell j hj, cellOf_beyond (by omega)]
      refine ⟨hO.ar, hct, hO.bl.trans (hL.bl.trans hE.bl), fun q hq => ?_, hO.pl.trans (hL.pl.trans hE.pl), by rw [hO.er, hL.er]; exact hE.el, fun q => by rw [hO.er, hL.er]; exact hE.pe q, by omega, by omega, ?_⟩
      · rw [hO.oth q fun j hj => by rw [pgN_c hc2]; exact hq j (by rw [← hc2]; exact hj)]; exact hoth2 q hq
      · rw [hMCe]
        rcases hO.e with ⟨g0, _, hn7, hcz⟩ | ⟨g8, _⟩
        · refine .inl ⟨g0, fun j hj => ?_⟩
          by_cases hj0 : j = 0
          · subst hj0; exact hcz 0 (Nat.le_refl _) (by omega)
          · exact hrest j (by omega) hj
        · exact .inr (.inl ⟨g8, by rw [hes]; omega, hrest⟩)
    · rw [if_neg (by rw [f8]; decide)]
      show AWF a b s s2 e2
      refine ⟨hL.ar, hc2, hL.bl.trans hE.bl, hoth2, hL.pl.trans hE.pl, by rw [hL.er]; exact hE.el, fun q => by rw [hL.er]; exact hE.pe q, by omega, by omega, .inr (.inr ⟨f8, by rw [hes2]; omega, .inl hkeep0⟩)⟩
  · rw [if_neg (by rw [e8]; decide)]
    show AWF a b s s1 e1
    have hn0 := hE.n0
    have hn1 := hE.n1
    exact ⟨hE.ar, hE.c, hE.bl, fun q hq => hE.oth q fun j _ hj => hq j (by omega), hE.pl, hE.el, hE.pe, hn0, by show s1.n ≤ _; omega, .inr (.inr ⟨e8, by show s1.n - s.n < _; omega, .inr (by show s1.n - s.n = _; omega)⟩)⟩
end Go.Proofs.YtcpdanjbnijoiaaGreatDoor
