
import Derived.Test.YtnpbgfnahkmhoaaDoorI11Laws
import Derived.Test.YtnpbgfnahkmhoaaDoorI11Told
/-! Make and Parse, one contract each for both ways: what they tell as data. -/
namespace Go.Proofs.YtnpbgfnahkmhoaaDoor
open Go.RowKit

/-- What Make tells: its bytes; none, if there is no such image. -/
def mkB (sec : List By) (s k v : Int) (p : List By) : List By := if may s k v p.length = 0 then mkd sec s.toNat k.toNat v.toNat p else []
theorem mkB_len (sec : List By) (s k v : Int) (p : List By) : (mkB sec s k v p).length ≤ 524288 := by
  unfold mkB
  split
  · rename_i h
    obtain ⟨_, _, _, _, _, _, _, _, _, hn⟩ := may_zero h
    rw [mkd_len]; omega
  · simp

theorem cmake_any (so : Option Addr) (sn sc : Nat) (sec : List By) (hsec : sec.length = sn) (s k v : Int) (ao : Option Addr) (n cap : Nat) (p t : List By) (hp : p.length = n) (ht : t.length = 32) (w : World)
    (hsb : IsB w so sec) (hsn : so = none → sc = 0) (hsc : sn ≤ sc) (hsl : sn ≤ 140737488351232) (hb : IsB w ao p) (hnil : ao = none → cap = 0) (hcap : n ≤ cap) (hl : n ≤ 140737488351232) :
    Calls Tryd.prog 10 #[.slice so sn sc, .agg (imgC s k v (.slice ao n cap) t).toArray] w fun e w' => ∃ ao' c', e = .returned (.tuple #[.slice ao' (mkB sec s k v p).length c', .int .i64 (may s k v n)]) ∧ Own w.heap.size w' (.slice ao' (mkB sec s k v p).length c') (mkB sec s k v p) ∧ Below w.heap.size w w' := by
  by_cases hm : may s k v n = 0
  · obtain ⟨a, b, c, rfl, rfl, rfl, ha, hb', hc, hn⟩ := may_zero hm
    have e : mkB sec a b c p = mkd sec a b c p := by unfold mkB; rw [hp, if_pos hm]; simp
    rw [e, mkd_len, hp, hm]
    exact cmake_ok so sn sc sec hsec a b c ao n cap p t hp ht w hsb hsn hsc hsl hb hnil hcap ha hb' hc hn
  · have e : mkB sec s k v p = [] := by unfold mkB; rw [hp, if_neg hm]
    rw [e]
    exact cmake_bad so sn sc sec hsec s k v ao n cap p t hp ht w hsb hsn hsc hsl hb hnil hcap hl _ rfl hm

theorem rmake_any (so : Option Addr) (sn sc : Nat) (sec : List By) (hsec : sec.length = sn) (s k v : Int) (ao : Option Addr) (n cap : Nat) (p t : List By) (hp : p.length = n) (ht : t.length = 32) (w : World)
    (hsb : IsB w so sec) (hsn : so = none → sc = 0) (hsl : sn ≤ 140737488351232) (hb : IsB w ao p) (hnil : ao = none → cap = 0) :
    Calls Tryd.prog 11 #[.slice so sn sc, .agg (imgC s k v (.slice ao n cap) t).toArray] w fun e w' => ∃ ao' c', e = .returned (.tuple #[.slice ao' (mkB sec s k v p).length c', .int .i64 (may s k v n)]) ∧ Own w.heap.size w' (.slice ao' (mkB sec s k v p).length c') (mkB sec s k v p) ∧ Below w.heap.size w w' := by
  by_cases hm : may s k v n = 0
  · obtain ⟨a, b, c, rfl, rfl, rfl, ha, hb', hc, hn⟩ := may_zero hm
    have e : mkB sec a b c p = mkd sec a b c p := by unfold mkB; rw [hp, if_pos hm]; simp
    rw [e, mkd_len, hp, hm]
    exact rmake_ok so sn sc sec hsec a b c ao n cap p t hp ht w hsb hsn (by omega) hb hnil ha hb' hc hn
  · have e : mkB sec s k v p = [] := by unfold mkB; rw [hp, if_neg hm]
    rw [e]
    refine (rmake_bad so sn sc s k v ao n cap t ht w _ rfl hm).mono ?_
    rintro e w' ⟨rfl, hb⟩
    exact ⟨none, 0, rfl, own_nil _ _ hb.size, hb⟩

/-- What Parse tells. -/
structure PD where
  s : Nat
  k : Nat
  v : Nat
  E : Nat
  At : Nat
  pl : List By
  tg : List By
def pd (b : List By) : PD :=
  match parse b with
  | .error (e, a) => ⟨0, 0, 0, e, a, [], List.replicate 32 0⟩
  | .ok (s, k, v, p, t) => ⟨s, k, v, 0, 0, p, t⟩
theorem pd_tg (b : List By) : (pd b).tg.length = 32 := by
  unfold pd
  split
  · rfl
  · rename_i h; exact (parse_img h).2.2.2.2.1
theorem pd_pl (b : List By) : (pd b).pl.length ≤ 524240 := by
  unfold pd
  split
  · simp
  · rename_i h; exact (parse_img h).2.2.2.1
theorem wrong_less {b : List By} {e a : Nat} (h : parse b = .wrong e a) : a < 4294967296 := by
  unfold parse at h
  split at h
  · injection h with h; injection h with h1 h2; omega
  · split at h
    · rename_i hs
      injection h with h; injection h with h1 h2
      subst h1; subst h2
      have := scan_some 16 0 (by omega) _ _ hs
      omega
    · rename_i hs
      simp only at h
      obtain ⟨X, hX⟩ : ∃ X, num4 (b.drop 12) = X := ⟨_, rfl⟩
      rw [hX] at h
      split at h
      · injection h with h; injection h with h1 h2; omega
      · split at h
        · injection h with h; injection h with h1 h2; omega
        · split at h
          · injection h with h; injection h with h1 h2; omega
          · cases h
theorem pd_small (b : List By) : (pd b).E < 4294967296 ∧ (pd b).At < 4294967296 := by
  unfold pd
  split
  · rename_i h; exact ⟨by have := parse_wrong h; simp only; omega, wrong_less h⟩
  · exact ⟨by simp, by simp⟩

/-- An error that tells a number and a place, or none. -/
def Tells (N : Nat) (w : World) (fv : Value) (E At : Nat) : Prop :=
  (fv = .nilIface ∧ E = 0 ∧ At = 0) ∨ ∃ g, fv = .iface 54 (.pointer (some ⟨g, 0, none⟩)) ∧ ¬ E = 0 ∧ N ≤ g ∧ Row w g 62 [.int .i64 E, .int .i64 At]
theorem Tells.below {N M : Nat} {w w' : World} {fv : Value} {E At : Nat} (h : Tells N w fv E At) (hb : Below M w w') (hM : w.heap.size ≤ M) : Tells N w' fv E At := by
  rcases h with h | ⟨g, h1, h2, h3, h4⟩
  · exact .inl h
  · exact .inr ⟨g, h1, h2, h3, h4.below hb (Nat.lt_of_lt_of_le h4.lt hM)⟩
theorem told_any {N : Nat} (w : World) (hg : HG w) (fv : Value) (E At : Nat) (h : Tells N w fv E At) :
    Calls Tryd.prog 15 #[fv] w fun e w' => e = .returned (.tuple #[.agg #[.int .i64 E, .int .i64 At], .bool true]) ∧ Below w.heap.size w w' := by
  rcases h with ⟨rfl, rfl, rfl⟩ | ⟨g, rfl, h2, _, h4⟩
  · exact told_nil w
  · exact told_wrong g E At w hg h4 (by omega)

theorem cparse_any (ao : Option Addr) (n cap : Nat) (b : List By) (hb0 : b.length = n) (w : World) (hb : IsB w ao b) (hnil : ao = none → cap = 0) (hcap : n ≤ cap) (hl : n ≤ 140737488351232) :
    Calls Tryd.prog 13 #[.slice ao n cap] w fun e w' => ∃ ao' c' fv, e = .returned (.tuple #[.agg (imgC (pd b).s (pd b).k (pd b).v (.slice ao' (pd b).pl.length c') (pd b).tg).toArray, fv]) ∧ Own w.heap.size w' (.slice ao' (pd b).pl.length c') (pd b).pl ∧ Tells w.heap.size w' fv (pd b).E (pd b).At ∧ Below w.heap.size w w' := by
  cases h : parse b with
  | error ea =>
    obtain ⟨e0, a0⟩ := ea
    have e : pd b = ⟨0, 0, 0, e0, a0, [], List.replicate 32 0⟩ := by unfold pd; rw [h]
    rw [e]
    refine (cparse_wrong ao n cap b hb0 w hb hnil hcap hl e0 a0 h).mono ?_
    rintro e' w' ⟨ao', c', g, rfl, h1, h2, h3, h4⟩
    exact ⟨ao', c', _, rfl, h1, .inr ⟨g, rfl, by have := parse_wrong h; show ¬ e0 = 0; omega, h2, h3⟩, h4⟩
  | ok qq =>
    obtain ⟨s, k, v, p, t⟩ := qq
    have e : pd b = ⟨s, k, v, 0, 0, p, t⟩ := by unfold pd; rw [h]
    rw [e]
    refine (cparse_img ao n cap b hb0 w hb hnil hcap s k v p t h).mono ?_
    rintro e' w' ⟨ao', c', rfl, h1, h2⟩
    exact ⟨ao', c', _, rfl, h1, .inl ⟨rfl, rfl, rfl⟩, h2⟩

theorem rparse_any (ao : Option Addr) (n cap : Nat) (b : List By) (hb0 : b.length = n) (w : World) (hb : IsB w ao b) (hcap : n ≤ cap) :
    Calls Tryd.prog 14 #[.slice ao n cap] w fun e w' => ∃ ao' c', e = .returned (.tuple #[.agg (imgC (pd b).s (pd b).k (pd b).v (.slice ao' (pd b).pl.length c') (pd b).tg).toArray, .agg #[.int .i64 (pd b).E, .int .i64 (pd b).At]]) ∧ Own w.heap.size w' (.slice ao' (pd b).pl.length c') (pd b).pl ∧ Below w.heap.size w w' := by
  cases h : parse b with
  | error ea =>
    obtain ⟨e0, a0⟩ := ea
    have e : pd b = ⟨0, 0, 0, e0, a0, [], List.replicate 32 0⟩ := by unfold pd; rw [h]
    rw [e]
    refine (rparse_wrong ao n cap b hb0 w hb hcap e0 a0 h).mono ?_
    rintro e' w' ⟨rfl, h1⟩
    exact ⟨none, 0, rfl, own_nil _ _ h1.size, h1⟩
  | ok qq =>
    obtain ⟨s, k, v, p, t⟩ := qq
    have e : pd b = ⟨s, k, v, 0, 0, p, t⟩ := by unfold pd; rw [h]
    rw [e]
    refine (rparse_img ao n cap b hb0 w hb hcap s k v p t h).mono ?_
    rintro e' w' ⟨ao', c', rfl, h1, h2⟩
    exact ⟨ao', c', rfl, h1, h2⟩
end Go.Proofs.YtnpbgfnahkmhoaaDoor
