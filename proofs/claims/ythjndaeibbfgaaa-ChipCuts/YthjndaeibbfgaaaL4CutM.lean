import Derived.Test.YthjndaeibbfgaaaL4Fix
/-! What a cut act leaves lies between nothing and all of it: over plain data. -/
namespace Go.Proofs.Ythjndaeibbfgaaa
open Go.RowKit

structure CutRes (t : St) (m : List By) (k : Int) (hx wh : St) : Prop where
  pl : hx.pages.length = t.pages.length
  plw : wh.pages.length = t.pages.length
  el : hx.erases.length = t.erases.length
  elw : wh.erases.length = t.erases.length
  bl : hx.blown.length = t.blown.length
  blw : wh.blown.length = t.blown.length
  er : ∀ i, hx.erases.getD i 0 = wh.erases.getD i 0
  cl : ∀ i, (hx.pages.getD i []).length = (t.pages.getD i []).length ∧ (wh.pages.getD i []).length = (t.pages.getD i []).length
  bys : ∀ i c j, i < t.pages.length → c < (t.pages.getD i []).length → j < 32 → ((hx.pages.getD i []).getD c []).getD j 0 = ((((t.pages.getD i []).getD c []).getD j 0) &&& ~~~ bitsAt m ((if k = 3 then 32 * c else 0) + j)) ||| ((((wh.pages.getD i []).getD c []).getD j 0) &&& bitsAt m ((if k = 3 then 32 * c else 0) + j))
  bn : ∀ i, i < t.blown.length → hx.blown.getD i false = if (bitsAt m 0 &&& 1#8 = 1#8) then wh.blown.getD i false else t.blown.getD i false

theorem mix_same (b M : By) : b = (b &&& ~~~M) ||| (b &&& M) := by
  apply BitVec.eq_of_getLsbD_eq
  intro i hi
  simp only [BitVec.getLsbD_and, BitVec.getLsbD_or, BitVec.getLsbD_not, hi, decide_true, Bool.true_and]
  cases b.getLsbD i <;> cases M.getLsbD i <;> rfl
theorem mix_erase (b M : By) : b ||| M = (b &&& ~~~M) ||| (255#8 &&& M) := by
  have h255 : (255#8 : By) = BitVec.allOnes 8 := by decide
  rw [h255]
  apply BitVec.eq_of_getLsbD_eq
  intro i hi
  simp only [BitVec.getLsbD_and, BitVec.getLsbD_or, BitVec.getLsbD_not, BitVec.getLsbD_allOnes, hi, decide_true, Bool.true_and]
  cases b.getLsbD i <;> cases M.getLsbD i <;> rfl
theorem getD_set {α : Type} (l : List α) (p i : Nat) (v d : α) : (l.set p v).getD i d = if i = p ∧ p < l.length then v else l.getD i d := by
  rw [List.getD_eq_getElem?_getD, List.getElem?_set]
  by_cases h : p = i
  · subst h
    by_cases hl : p < l.length
    · rw [if_pos rfl, if_pos hl, if_pos ⟨rfl, hl⟩]; rfl
    · rw [if_pos rfl, if_neg hl, if_neg (fun h => hl h.2), List.getD_eq_getElem?_getD, List.getElem?_eq_none (by omega)]
  · rw [if_neg h, if_neg (fun h2 => h h2.1.symm), List.getD_eq_getElem?_getD]

/-- The chip, a cut at its next act. -/
def cutS (c : Cfg) (t : St) (m : List By) : RS := { layS c t with wait := max (-1) 0, mask := m }

theorem cutS_cut (c : Cfg) (t : St) (m : List By) : (cutS c t m).cut = true := by show decide ((max (-1) 0 : Int) = 0) = true; decide
theorem layS_cut (c : Cfg) (t : St) : (layS c t).cut = false := by simp [layS, RS.cut]

theorem at_vals {s : RS} (hg : s.gone = false) (p c : Int) : s.at p c = 0 ∨ s.at p c = 2 := by
  unfold RS.at
  rw [hg, if_neg (by simp)]
  split
  · exact .inr rfl
  · exact .inl rfl
theorem fuse_vals {s : RS} (hg : s.gone = false) (i : Int) : s.fuse i = 0 ∨ s.fuse i = 2 := by
  unfold RS.fuse
  rw [hg, if_neg (by simp)]
  split
  · exact .inr rfl
  · exact .inl rfl

/-- How the two acts end. -/
theorem cut_ends (c : Cfg) (t : St) (m : List By) (k a b : Int) (x : List By) (hok : (layS c t).Ok) :
    ((cutS c t m).doneE k a b = 8 ∧ (layS c t).doneE k a b = 0 ∧ ((cutS c t m).doneS k a b x).gone = true ∧ CutRes t m k ((cutS c t m).doneS k a b x).st ((layS c t).doneS k a b x).st) ∨
    ((cutS c t m).doneE k a b = (layS c t).doneE k a b ∧ ((cutS c t m).doneE k a b = 2 ∨ (cutS c t m).doneE k a b = 9) ∧ (cutS c t m).doneS k a b x = cutS c t m) := by
  have hat : ∀ p q, (cutS c t m).at p q = (layS c t).at p q := fun p q => rfl
  have hfu : ∀ i, (cutS c t m).fuse i = (layS c t).fuse i := fun i => rfl
  have hc1 := cutS_cut c t m
  have hc0 := layS_cut c t
  unfold RS.doneS RS.doneE
  by_cases h2 : k = 2
  · simp only [if_pos h2]
    unfold RS.program RS.programE
    rw [hat, hc1, hc0]
    rcases at_vals (s := layS c t) rfl a b with h | h
    · left
      obtain ⟨_, i1, i2, i3, i4⟩ := at_zero h
      obtain ⟨p, rfl⟩ := Int.eq_ofNat_of_zero_le i1
      obtain ⟨q, rfl⟩ := Int.eq_ofNat_of_zero_le i3
      have hpl : p < t.pages.length := by have : (p : Int) < (t.pages.length : Int) := i2; omega
      obtain ⟨k1, k2⟩ := hok.pgLen p hpl
      rw [if_pos h, if_pos h]
      refine ⟨rfl, rfl, ?_, ?_⟩
      · rw [if_pos h]; rfl
      · rw [if_pos h, if_pos h]
        simp only [Int.toNat_natCast]
        refine ⟨by simp [RS.st, RS.setCell, RS.act, cutS, layS], by simp [RS.st, RS.setCell, RS.act, layS], rfl, rfl, rfl, rfl, fun i => rfl, ?_, ?_, ?_⟩
        · intro i
          constructor
          · show ((t.pages.set p _).getD i []).length = _
            rw [getD_set]
            split
            · rename_i hh; rw [List.length_set, hh.1]; rfl
            · rfl
          · show ((t.pages.set p _).getD i []).length = _
            rw [getD_set]
            split
            · rename_i hh; rw [List.length_set, hh.1]; rfl
            · rfl
        · intro i cc j hi hcc hj
          have hk3 : ¬ k = 3 := by omega
          rw [if_neg hk3, Nat.zero_add]
          show (((t.pages.set p _).getD i []).getD cc []).getD j 0 = _ ||| ((((t.pages.set p _).getD i []).getD cc []).getD j 0 &&& _)
          rw [getD_set, getD_set]
          by_cases hip : i = p
          · subst hip
            rw [if_pos ⟨rfl, hi⟩, if_pos ⟨rfl, hi⟩]
            show (((t.pages.getD i []).set q _).getD cc []).getD j 0 = _ ||| ((((t.pages.getD i []).set q _).getD cc []).getD j 0 &&& _)
            rw [getD_set, getD_set]
            by_cases hcq : cc = q
            · subst hcq
              rw [if_pos ⟨rfl, hcc⟩, if_pos ⟨rfl, hcc⟩, progCell_get _ _ _ _ j hj, progCell_get _ _ _ _ j hj]
              rfl
            · rw [if_neg (fun h => hcq h.1), if_neg (fun h => hcq h.1)]
              exact mix_same _ _
          · rw [if_neg (fun h => hip h.1), if_neg (fun h => hip h.1)]
            exact mix_same _ _
        · intro i hi
          show t.blown.getD i false = if _ then t.blown.getD i false else t.blown.getD i false
          split <;> rfl
    · right
      have h0 : ¬ (layS c t).at a b = 0 := by omega
      rw [if_neg h0, if_neg h0, if_neg h0]
      exact ⟨rfl, .inl h, rfl⟩
  · simp only [if_neg h2]
    by_cases h3 : k = 3
    · simp only [if_pos h3]
      unfold RS.erase RS.eraseE
      rw [hat, hc1, hc0]
      rcases at_vals (s := layS c t) rfl a 0 with h | h
      · obtain ⟨_, i1, i2, i3, i4⟩ := at_zero h
        obtain ⟨p, rfl⟩ := Int.eq_ofNat_of_zero_le i1
        have hpl : p < t.pages.length := by have : (p : Int) < (t.pages.length : Int) := i2; omega
        obtain ⟨k1, k2⟩ := hok.pgLen p hpl
        rw [if_pos h, if_pos h]
        simp only [Int.toNat_natCast]
        have hce : (cutS c t m).c.erases = c.erases := rfl
        have hee : (cutS c t m).erases = t.erases := rfl
        have hle : (layS c t).erases = t.erases := rfl
        have hlc : (layS c t).c.erases = c.erases := rfl
        rw [hce, hee, hle, hlc]
        by_cases hw : c.erases ≤ t.erases.getD p 0
        · right
          rw [if_pos hw, if_pos hw]
          refine ⟨rfl, .inr rfl, ?_⟩
          rw [if_neg (fun hh => by have := hh.2; omega)]
        · left
          have hlt : (layS c t).at (p : Int) 0 = 0 ∧ t.erases.getD p 0 < c.erases := ⟨h, by omega⟩
          rw [if_neg hw, if_neg hw, if_pos hlt, if_pos hlt]
          refine ⟨rfl, rfl, rfl, ?_⟩
          refine ⟨by simp [RS.st, RS.act, cutS, layS], by simp [RS.st, RS.act, layS], by simp [RS.st, RS.act], by simp [RS.st, RS.act], rfl, rfl, fun i => rfl, ?_, ?_, ?_⟩
          · intro i
            constructor
            · show ((t.pages.set p _).getD i []).length = _
              rw [getD_set]
              split
              · rename_i hh
                rw [hh.1]
                simp [erasePage]; rfl
              · rfl
            · show ((t.pages.set p _).getD i []).length = _
              rw [getD_set]
              split
              · rename_i hh
                rw [hh.1]
                simp [erasePage]; rfl
              · rfl
          · intro i cc j hi hcc hj
            rw [if_pos h3]
            show (((t.pages.set p (erasePage true m (t.pages.getD p []))).getD i []).getD cc []).getD j 0 = _ ||| ((((t.pages.set p (erasePage false [] (t.pages.getD p []))).getD i []).getD cc []).getD j 0 &&& _)
            rw [getD_set, getD_set]
            by_cases hip : i = p
            · subst hip
              rw [if_pos ⟨rfl, hi⟩, if_pos ⟨rfl, hi⟩]
              have hg : ∀ cut mm, (erasePage cut mm (t.pages.getD i [])).getD cc [] = eraseCell cut mm cc ((t.pages.getD i []).getD cc []) := fun cut mm => by
                unfold erasePage
                rw [List.getD_eq_getElem?_getD (l := List.mapIdx _ _), List.getElem?_mapIdx, List.getElem?_eq_getElem hcc, List.getD_eq_getElem?_getD (l := t.pages.getD i []), List.getElem?_eq_getElem hcc]; rfl
              rw [hg, hg, eraseCell_get _ _ _ _ j hj, eraseCell_get _ _ _ _ j hj]
              exact mix_erase _ _
            · rw [if_neg (fun h => hip h.1), if_neg (fun h => hip h.1)]
              exact mix_same _ _
          · intro i hi
            show t.blown.getD i false = if _ then t.blown.getD i false else t.blown.getD i false
            split <;> rfl
      · right
        have h0 : ¬ (layS c t).at a 0 = 0 := by omega
        rw [if_neg h0, if_neg h0, if_neg (fun hh => h0 hh.1)]
        exact ⟨rfl, .inl h, rfl⟩
    · simp only [if_neg h3]
      unfold RS.blow RS.blowE
      rw [hfu, hc1, hc0]
      rcases fuse_vals (s := layS c t) rfl a with h | h
      · left
        obtain ⟨_, i1, i2⟩ := fuse_zero h
        obtain ⟨p, rfl⟩ := Int.eq_ofNat_of_zero_le i1
        have hpl : p < t.blown.length := by have : (p : Int) < (t.blown.length : Int) := i2; omega
        rw [if_pos h, if_pos h, if_pos h, if_pos h]
        simp only [Int.toNat_natCast]
        refine ⟨rfl, rfl, rfl, ?_⟩
        refine ⟨rfl, rfl, rfl, rfl, by simp [RS.st, cutS, layS], by simp [RS.st, layS], fun i => rfl, fun i => ⟨rfl, rfl⟩, ?_, ?_⟩
        · intro i cc j hi hcc hj
          exact mix_same _ _
        · intro i hi
          show (t.blown.set p ((cutS c t m).blowB p)).getD i false = if _ then (t.blown.set p ((layS c t).blowB p)).getD i false else t.blown.getD i false
          have e1 : (cutS c t m).blowB p = (t.blown.getD p false || decide (bitsAt m 0 &&& 1#8 = 1#8)) := by
            have : (cutS c t m).blowB p = (t.blown.getD p false || (!true || decide (bitsAt m 0 &&& 1#8 = 1#8))) := by
              unfold RS.blowB
              rw [hc1]; rfl
            rw [this]; rfl
          have e0 : (layS c t).blowB p = true := by
            unfold RS.blowB
            rw [hc0]; simp
          rw [e1, e0]
          by_cases hb : bitsAt m 0 &&& 1#8 = 1#8
          · rw [if_pos hb, decide_eq_true hb, Bool.or_true]
          · rw [if_neg hb, decide_eq_false hb, Bool.or_false, getD_set]
            split
            · rename_i hh; rw [hh.1]
            · rfl
      · right
        have h0 : ¬ (layS c t).fuse a = 0 := by omega
        rw [if_neg h0, if_neg h0, if_neg h0]
        exact ⟨rfl, .inl h, rfl⟩
end Go.Proofs.Ythjndaeibbfgaaa
