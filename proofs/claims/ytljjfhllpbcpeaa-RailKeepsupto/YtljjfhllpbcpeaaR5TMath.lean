import Derived.Test.YtljjfhllpbcpeaaR5Back
/-! RailTells on lists: of right rows neither lies below the other one, but itself; strings of bytes. -/
namespace Go.Proofs.Ytljjfhllpbcpeaa
open Go.RowKit

theorem strOf_data (bs : List By) : ∀ r : ByteArray, ((bs.map fun b => (b.toNat : Int)).foldl (fun r n => r.push (UInt8.ofNat n.toNat)) r).data.toList = r.data.toList ++ bs.map (fun b => UInt8.ofNat b.toNat) := by
  induction bs with
  | nil => intro r; simp
  | cons b t ih =>
    intro r
    rw [List.map_cons, List.foldl_cons, ih]
    simp [ByteArray.push]
theorem u8_inj {a b : By} (h : UInt8.ofNat a.toNat = UInt8.ofNat b.toNat) : a = b := by
  have := congrArg UInt8.toNat h
  rw [UInt8.toNat_ofNat', UInt8.toNat_ofNat'] at this
  have h1 := b8_lt a
  have h2 := b8_lt b
  exact BitVec.eq_of_toNat_eq (by omega)
theorem strOf_inj {a b : List By} (h : (strOf a).toList = (strOf b).toList) : a = b := by
  have h1 := strOf_data a ByteArray.empty
  have h2 := strOf_data b ByteArray.empty
  rw [ByteArray.toList_eq, ByteArray.toList_eq] at h
  unfold strOf at h
  rw [h1, h2] at h
  have h4 : a.map (fun b => UInt8.ofNat b.toNat) = b.map (fun b => UInt8.ofNat b.toNat) := List.append_cancel_left h
  clear h h1 h2
  induction a generalizing b with
  | nil => cases b with | nil => rfl | cons _ _ => simp at h4
  | cons x t ih =>
    cases b with
    | nil => simp at h4
    | cons y u =>
      simp only [List.map_cons, List.cons.injEq] at h4
      rw [u8_inj h4.1, ih h4.2]
theorem strOf_beq (a b : List By) : ((strOf a).toList == (strOf b).toList) = decide (a = b) := by
  by_cases h : a = b
  · subst h; simp
  · rw [decide_eq_false h, beq_eq_false_iff_ne]; exact fun e => h (strOf_inj e)

theorem and_not_zero {x y : By} (h1 : x &&& ~~~ y = 0) (h2 : ~~~ x &&& ~~~ ~~~ y = 0) : x = y := by
  apply BitVec.eq_of_getLsbD_eq
  intro i hi
  have e1 := congrArg (fun v => v.getLsbD i) h1
  have e2 := congrArg (fun v => v.getLsbD i) h2
  simp [hi] at e1 e2
  cases hx : x.getLsbD i <;> cases hy : y.getLsbD i <;> simp_all
theorem rails_below {a b : List By} (h : isBelow (rail a) (rail b)) : a = b := by
  have hl : a.length = b.length := by have := h.1; rw [rail_len, rail_len] at this; omega
  refine ext_getD hl fun i hi => ?_
  have h1 := h.2 i (by rw [rail_len]; omega)
  have h2 := h.2 (a.length + i) (by rw [rail_len]; omega)
  rw [rail_lo a i hi, rail_lo b i (by omega)] at h1
  rw [rail_hi a i hi, hl, rail_hi b i (by omega)] at h2
  exact and_not_zero h1 h2
theorem below_refl (a : List By) : isBelow a a := ⟨rfl, fun i _ => by
  apply BitVec.eq_of_getLsbD_eq
  intro j hj
  simp⟩
theorem belowB_rails (a b : List By) : belowB (rail a) (rail b) = decide (a = b) := by
  unfold belowB
  by_cases h : a = b
  · subst h; rw [decide_eq_true (below_refl _)]; simp
  · rw [decide_eq_false h, decide_eq_false_iff_not]; exact fun e => h (rails_below e)
theorem rightB_above (b u : List By) (h : isBelow (rail b) u) : rightB u = decide (u = rail b) := by
  unfold rightB
  by_cases e : u = rail b
  · subst e; rw [decide_eq_true (isRail_rail b)]; simp
  · rw [decide_eq_false e, decide_eq_false_iff_not]
    intro hr
    obtain ⟨c, rfl⟩ := (isRail_iff u).1 hr
    exact e (by rw [rails_below h])
theorem rightB_under (b u : List By) (h : isBelow u (rail b)) : rightB u = decide (u = rail b) := by
  unfold rightB
  by_cases e : u = rail b
  · subst e; rw [decide_eq_true (isRail_rail b)]; simp
  · rw [decide_eq_false e, decide_eq_false_iff_not]
    intro hr
    obtain ⟨c, rfl⟩ := (isRail_iff u).1 hr
    exact e (by rw [rails_below h])

/-- r, with f of r and the mask in its first p places. -/
def mixTo (f : By → By → By) (r m : List By) : Nat → List By
  | 0 => r
  | p + 1 => (mixTo f r m p).set p (f (r.getD p 0) (m.getD p 0))
theorem mixTo_len (f : By → By → By) (r m : List By) : ∀ p, (mixTo f r m p).length = r.length
  | 0 => rfl
  | p + 1 => by rw [mixTo, List.length_set, mixTo_len f r m p]
theorem mixTo_at (f : By → By → By) (r m : List By) : ∀ p, p ≤ r.length → ∀ i, i < r.length → (mixTo f r m p).getD i 0 = if i < p then f (r.getD i 0) (m.getD i 0) else r.getD i 0
  | 0, _, i, _ => by rw [if_neg (by omega)]; rfl
  | p + 1, hp, i, hi => by
    rw [mixTo, getD_set, mixTo_len, mixTo_at f r m p (by omega) i hi]
    by_cases h : p = i
    · subst h; rw [if_pos ⟨rfl, hi⟩, if_pos (by omega)]
    · rw [if_neg (fun e => h e.1)]
      by_cases h2 : i < p
      · rw [if_pos h2, if_pos (by omega)]
      · rw [if_neg h2, if_neg (by omega)]
def orB (x y : By) : By := x ||| y
def anB (x y : By) : By := x &&& ~~~ y
theorem up_below (r m : List By) (p : Nat) (hp : p ≤ r.length) : isBelow r (mixTo orB r m p) := by
  refine ⟨(mixTo_len _ _ _ _).symm, fun i hi => ?_⟩
  rw [mixTo_at _ _ _ p hp i hi]
  split
  · apply BitVec.eq_of_getLsbD_eq
    intro j hj
    simp [orB]
    intro h1 h2; simp [h1]
  · exact (below_refl r).2 i hi
theorem down_below (r m : List By) (p : Nat) (hp : p ≤ r.length) : isBelow (mixTo anB r m p) r := by
  refine ⟨mixTo_len _ _ _ _, fun i hi => ?_⟩
  rw [mixTo_len] at hi
  rw [mixTo_at _ _ _ p hp i hi]
  split
  · apply BitVec.eq_of_getLsbD_eq
    intro j hj
    simp [anB]
    intro h1 h2; simp [h1]
  · exact (below_refl r).2 i hi
end Go.Proofs.Ytljjfhllpbcpeaa
