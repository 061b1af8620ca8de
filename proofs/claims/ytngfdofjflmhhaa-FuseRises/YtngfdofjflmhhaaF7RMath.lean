
import Derived.Test.YtngfdofjflmhhaaF7Math
/-! What Raise leaves: P7.2, P7.3. -/
namespace Go.Proofs.Ytngfdofjflmhhaa
open Go.RowKit

theorem getD_set (b : List Bool) (i j : Nat) (v : Bool) (hi : i < b.length) : (b.set i v).getD j false = if i = j then v else b.getD j false := by
  rw [List.getD_eq_getElem?_getD, List.getElem?_set, List.getD_eq_getElem?_getD]
  by_cases h : i = j
  · rw [if_pos h, if_pos h, if_pos hi]; rfl
  · rw [if_neg h, if_neg h]
theorem cnt_set (b : List Bool) (o i : Nat) (v : Bool) (hi : o + i < b.length) : ∀ p, cnt (b.set (o + i) v) o p + (if i < p ∧ b.getD (o + i) false = true then 1 else 0) = cnt b o p + (if i < p ∧ v = true then 1 else 0)
  | 0 => by simp [cnt]
  | p + 1 => by
    have ih := cnt_set b o i v hi p
    unfold cnt
    rw [getD_set b (o + i) (o + p) v hi]
    by_cases h : i = p
    · subst h
      rw [if_neg (show ¬ (i < i ∧ b.getD (o + i) false = true) from fun h => by omega), if_neg (show ¬ (i < i ∧ v = true) from fun h => by omega)] at ih
      simp only [if_true, true_and, Nat.lt_succ_self]
      split <;> split <;> omega
    · rw [if_neg (show ¬ (o + i = o + p) by omega)]
      have e : i < p + 1 ↔ i < p := by omega
      simp only [e]
      omega
theorem cnt_all (b : List Bool) (o : Nat) : ∀ p, (∀ j, j < p → b.getD (o + j) false = true) → cnt b o p = p
  | 0, _ => rfl
  | p + 1, h => by
    unfold cnt
    rw [cnt_all b o p (fun j hj => h j (by omega)), h p (by omega)]
    rfl

/-- Blowing a fuse that isn't blown, the power there. -/
theorem blow_facts {s : RS} {q : Nat} (hg : s.gone = false) (hq : q < s.blown.length) :
    (s.wait = 0 ∧ s.blowE (q : Int) = 8 ∧ (s.blow (q : Int)).gone = true ∧ ∃ v, (s.blow (q : Int)).blown = s.blown.set q v ∧ (s.blown.getD q false = true → v = true)) ∨
    (s.wait ≠ 0 ∧ s.blowE (q : Int) = 0 ∧ (s.blow (q : Int)).gone = false ∧ (s.blow (q : Int)).blown = s.blown.set q true ∧ (0 ≤ (s.blow (q : Int)).wait → 0 ≤ s.wait ∧ (s.blow (q : Int)).wait = s.wait - 1)) := by
  have hz : s.fuse (q : Int) = 0 := fuse_of hg (by omega) (by omega)
  have eE : s.blowE (q : Int) = if s.cut then 8 else 0 := by unfold RS.blowE; rw [if_pos hz]
  have eB : s.blow (q : Int) = { s.act with blown := s.blown.set q (s.blowB q) } := by unfold RS.blow; rw [if_pos hz]; rfl
  rw [eE, eB]
  by_cases hw : s.wait = 0
  · have hc : s.cut = true := by unfold RS.cut; simpa using hw
    refine .inl ⟨hw, by rw [hc]; rfl, ?_, s.blowB q, rfl, fun h => ?_⟩
    · show (if s.wait = 0 then true else s.gone) = true
      rw [if_pos hw]
    · unfold RS.blowB; rw [h]; rfl
  · have hc : s.cut = false := by unfold RS.cut; simpa using hw
    refine .inr ⟨hw, by rw [hc]; rfl, ?_, ?_, ?_⟩
    · show (if s.wait = 0 then true else s.gone) = false
      rw [if_neg hw]; exact hg
    · have : s.blowB q = true := by unfold RS.blowB; rw [hc]; simp
      rw [this]
    · show 0 ≤ (if s.wait = 0 then -1 else if 0 < s.wait then s.wait - 1 else s.wait) → 0 ≤ s.wait ∧ (if s.wait = 0 then -1 else if 0 < s.wait then s.wait - 1 else s.wait) = s.wait - 1
      rw [if_neg hw]
      split <;> intro h <;> omega

/-- What is left of a raised row. -/
structure RaF (o fn : Nat) (n k : Int) (s : RS) (R : RS × Int) : Prop where
  en : (R.2 = 0 ∧ R.1.gone = false ∧ (cnt R.1.blown o fn : Int) = max k n) ∨ (R.2 = 8 ∧ R.1.gone = true ∧ k ≤ (cnt R.1.blown o fn : Int) ∧ (cnt R.1.blown o fn : Int) ≤ max k n ∧ 0 ≤ s.wait ∧ s.wait < n - k)
  up : ∀ j, s.blown.getD j false = true → R.1.blown.getD j false = true
  out : ∀ j, (j < o ∨ o + fn ≤ j) → R.1.blown.getD j false = s.blown.getD j false
  len : R.1.blown.length = s.blown.length

theorem raiseGo_facts {o fn : Nat} {n : Int} (hn : n ≤ (fn : Int)) : ∀ (m i : Nat) (k : Int) (s : RS), i + m = fn → s.gone = false → o + fn ≤ s.blown.length → k = (cnt s.blown o fn : Int) → (∀ j, j < i → s.blown.getD (o + j) false = true) → RaF o fn n k s (raiseGo o n m i k s)
  | 0, i, k, s, hi, hg, hl, hk, hb => by
    have hc := cnt_all s.blown o fn (fun j hj => hb j (by omega))
    refine ⟨.inl ⟨rfl, hg, ?_⟩, fun j h => h, fun j h => rfl, rfl⟩
    show (cnt s.blown o fn : Int) = max k n
    omega
  | m + 1, i, k, s, hi, hg, hl, hk, hb => by
    by_cases hkn : n ≤ k
    · rw [raiseGo, if_pos hkn]
      refine ⟨.inl ⟨rfl, hg, ?_⟩, fun j h => h, fun j h => rfl, rfl⟩
      show (cnt s.blown o fn : Int) = max k n
      omega
    · by_cases hbi : s.blown.getD (o + i) false = true
      · rw [raiseGo, if_neg hkn, if_pos hbi]
        exact raiseGo_facts hn m (i + 1) k s (by omega) hg hl hk (fun j hj => by
          by_cases h : j = i
          · rw [h]; exact hbi
          · exact hb j (by omega))
      · have hbf : s.blown.getD (o + i) false = false := by simpa using hbi
        have hq : o + i < s.blown.length := by omega
        rw [raiseGo, if_neg hkn, if_neg hbi]
        have hup : ∀ v : Bool, ∀ j, s.blown.getD j false = true → (s.blown.set (o + i) v).getD j false = true := fun v j hj => by
          rw [getD_set _ _ _ _ hq]
          by_cases h : o + i = j
          · subst h; rw [hbf] at hj; cases hj
          · rw [if_neg h]; exact hj
        have hout : ∀ v : Bool, ∀ j, (j < o ∨ o + fn ≤ j) → (s.blown.set (o + i) v).getD j false = s.blown.getD j false := fun v j hj => by
          rw [getD_set _ _ _ _ hq, if_neg (by omega)]
        rcases blow_facts (q := o + i) hg hq with ⟨w0, e8, g1, v, hv, _⟩ | ⟨w0, e0, g0, hv, hw⟩
        · rw [e8, if_neg (by decide)]
          have hc := cnt_set s.blown o i v hq fn
          rw [hbf, if_neg (by simp)] at hc
          refine ⟨.inr ⟨rfl, g1, ?_, ?_, by omega, by omega⟩, ?_, ?_, ?_⟩
          · show k ≤ (cnt (s.blow ((o + i : Nat) : Int)).blown o fn : Int)
            rw [hv]
            split at hc <;> omega
          · show (cnt (s.blow ((o + i : Nat) : Int)).blown o fn : Int) ≤ max k n
            rw [hv]
            split at hc <;> omega
          · intro j hj
            show (s.blow ((o + i : Nat) : Int)).blown.getD j false = true
            rw [hv]; exact hup v j hj
          · intro j hj
            show (s.blow ((o + i : Nat) : Int)).blown.getD j false = _
            rw [hv]; exact hout v j hj
          · exact blow_len _
        · rw [if_pos e0]
          have hc := cnt_set s.blown o i true hq fn
          rw [hbf, if_neg (by simp), if_pos ⟨by omega, rfl⟩, ← hv] at hc
          have hlen : (s.blow ((o + i : Nat) : Int)).blown.length = s.blown.length := blow_len _
          have ih := raiseGo_facts (o := o) hn m (i + 1) (k + 1) (s.blow ((o + i : Nat) : Int)) (by omega) g0 (by omega) (by omega) (fun j hj => by
            rw [hv]
            by_cases h : j = i
            · rw [h, getD_set _ _ _ _ hq, if_pos rfl]
            · exact hup true _ (hb j (by omega)))
          refine ⟨?_, fun j hj => ih.up j (by rw [hv]; exact hup true j hj), fun j hj => (ih.out j hj).trans (by rw [hv]; exact hout true j hj), ih.len.trans hlen⟩
          rcases ih.en with ⟨a1, a2, a3⟩ | ⟨a1, a2, a3, a4, a5, a6⟩
          · exact .inl ⟨a1, a2, by omega⟩
          · obtain ⟨b1, b2⟩ := hw a5
            exact .inr ⟨a1, a2, by omega, by omega, b1, by omega⟩

theorem raise_facts {s : RS} (hf : s.Fu) (hg : s.gone = false) {slot n : Int} (h0 : 0 ≤ slot) (h1 : slot < s.c.slots) (hn0 : 0 ≤ n) (hn1 : n ≤ s.c.fuses) : RaF (s.o7 slot) s.c.fuses.toNat n (s.count slot) s (s.raise slot n) := by
  have he : s.countE slot = 0 := ask_of hg h0 h1
  have ec : s.count slot = (cnt s.blown (s.o7 slot) s.c.fuses.toNat : Int) := by unfold RS.count; rw [if_pos he]
  have er : s.raise slot n = raiseGo (s.o7 slot) n s.c.fuses.toNat 0 (s.count slot) s := by
    unfold RS.raise; rw [if_pos he, if_neg (by omega)]
  obtain ⟨r1, r2, r3, r4⟩ := hf.row h0 h1
  have hbl := hf.bl
  have hk := hf.k1
  rw [er]
  exact raiseGo_facts (by omega) _ 0 _ s (by omega) hg (by omega) ec (fun j hj => by omega)
theorem raise_c (s : RS) (slot n : Int) : (s.raise slot n).1.c = s.c := by
  unfold RS.raise
  split
  · split
    · rfl
    · exact raiseGo_c _ _ _ _
  · rfl
theorem count_of {s : RS} (hg : s.gone = false) {slot : Int} (h0 : 0 ≤ slot) (h1 : slot < s.c.slots) : s.count slot = (cnt s.blown (s.o7 slot) s.c.fuses.toNat : Int) := by
  unfold RS.count; rw [if_pos (show s.countE slot = 0 from ask_of hg h0 h1)]

/-- The whole of it: cut, restored, done again. -/
structure RisF (s0 : RS) (slot n at_ : Int) (WAS G NOW END : Int) (T : List Bool) : Prop where
  w0 : 0 ≤ WAS
  w1 : WAS ≤ 64
  en : (G = 0 ∧ NOW = max WAS n) ∨ (G = 8 ∧ 0 ≤ at_ ∧ at_ < n - WAS ∧ WAS ≤ NOW ∧ NOW ≤ n)
  ed : END = max WAS n
  up : ∀ j, s0.blown.getD j false = true → T.getD j false = true
  out : ∀ j : Nat, ((j : Int) < slot * s0.c.fuses ∨ (slot + 1) * s0.c.fuses ≤ (j : Int)) → T.getD j false = s0.blown.getD j false
  len : T.length = s0.blown.length

def cutS (s : RS) (a : Int) (m : List By) : RS := { s with wait := max (-1) a, mask := m }
def upS (s : RS) : RS := { s with gone := false }
theorem rises {s0 : RS} (hf : s0.Fu) (hg : s0.gone = false) {slot n at_ : Int} (m : List By) (h0 : 0 ≤ slot) (h1 : slot < s0.c.slots) (hn0 : 0 ≤ n) (hn1 : n ≤ s0.c.fuses) :
    let R := (cutS s0 at_ m).raise slot n
    let s3 := cutS (upS R.1) (-1) []
    let R2 := s3.raise slot n
    RisF s0 slot n at_ (s0.count slot) R.2 (s3.count slot) (R2.1.count slot) R2.1.blown ∧ R2.2 = 0 ∧ s3.countE slot = 0 ∧ s3.Fu := by
  intro R s3 R2
  have hf1 : (cutS s0 at_ m).Fu := ⟨hf.s1, hf.s2, hf.f1, hf.f2, hf.k1, hf.k2, hf.bl⟩
  have A : RaF (s0.o7 slot) s0.c.fuses.toNat n (s0.count slot) (cutS s0 at_ m) R := raise_facts hf1 hg h0 h1 hn0 hn1
  have hc : R.1.c = s0.c := raise_c (cutS s0 at_ m) slot n
  have hfR : R.1.Fu := hf1.raise slot n
  have hf3 : s3.Fu := ⟨hfR.s1, hfR.s2, hfR.f1, hfR.f2, hfR.k1, hfR.k2, hfR.bl⟩
  have hc3 : s3.c = s0.c := hc
  have ho3 : s3.o7 slot = s0.o7 slot := by unfold RS.o7; rw [hc3]
  have B : RaF (s3.o7 slot) s3.c.fuses.toNat n (s3.count slot) s3 R2 := raise_facts hf3 rfl h0 (by rw [hc3]; exact h1) hn0 (by rw [hc3]; exact hn1)
  have hcR2 : R2.1.c = s0.c := (raise_c s3 slot n).trans hc3
  have e3 : s3.count slot = (cnt R.1.blown (s0.o7 slot) s0.c.fuses.toNat : Int) := by
    rw [count_of rfl h0 (by rw [hc3]; exact h1), ho3, hc3]; rfl
  have hw0 := count_of hg h0 h1
  have hle := cnt_le s0.blown (s0.o7 slot) s0.c.fuses.toNat
  have hf2 := hf.f2
  obtain ⟨r1, r2, r3, r4⟩ := hf.row h0 h1
  have hmul : (slot + 1) * s0.c.fuses = slot * s0.c.fuses + s0.c.fuses := by rw [Int.add_mul, Int.one_mul]
  rw [ho3, hc3] at B
  have hB : R2.2 = 0 ∧ R2.1.gone = false ∧ (cnt R2.1.blown (s0.o7 slot) s0.c.fuses.toNat : Int) = max (s3.count slot) n := by
    rcases B.en with h | ⟨_, _, _, _, h, _⟩
    · exact h
    · have : s3.wait = -1 := rfl
      omega
  have eE : R2.1.count slot = max (s3.count slot) n := by
    rw [count_of hB.2.1 h0 (by rw [hcR2]; exact h1)]
    have : R2.1.o7 slot = s0.o7 slot := by unfold RS.o7; rw [hcR2]
    rw [this, hcR2]; exact hB.2.2
  refine ⟨⟨by omega, by omega, ?_, ?_, fun j hj => B.up j (A.up j hj), fun j hj => ?_, B.len.trans A.len⟩, hB.1, ask_of rfl h0 (by rw [hc3]; exact h1), hf3⟩
  · rw [e3]
    rcases A.en with ⟨a1, a2, a3⟩ | ⟨a1, a2, a3, a4, a5, a6⟩
    · exact .inl ⟨a1, a3⟩
    · have hwt : (cutS s0 at_ m).wait = max (-1) at_ := rfl
      refine .inr ⟨a1, by omega, by omega, a3, by omega⟩
  · rw [eE, e3]
    rcases A.en with ⟨a1, a2, a3⟩ | ⟨a1, a2, a3, a4, a5, a6⟩ <;> omega
  · have hj' : j < s0.o7 slot ∨ s0.o7 slot + s0.c.fuses.toNat ≤ j := by omega
    exact (B.out j hj').trans (A.out j hj')
end Go.Proofs.Ytngfdofjflmhhaa
