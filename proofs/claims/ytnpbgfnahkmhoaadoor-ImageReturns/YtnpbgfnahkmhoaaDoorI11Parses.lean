
import Derived.Test.YtnpbgfnahkmhoaaDoorI11ParseOk
/-! The reference's Parse, one contract. -/
namespace Go.Proofs.YtnpbgfnahkmhoaaDoor
open Go.RowKit

theorem rparse_wrong (ao : Option Addr) (n cap : Nat) (b : List By) (hb0 : b.length = n) (w : World) (hb : IsB w ao b) (hcap : n ≤ cap) (e0 a0 : Nat) (h : parse b = .wrong e0 a0) :
    Calls Tryd.prog 14 #[.slice ao n cap] w fun e w' => e = .returned (.tuple #[.agg zImg.toArray, .agg #[.int .i64 e0, .int .i64 a0]]) ∧ Below w.heap.size w w' := by
  unfold parse at h
  rw [hb0] at h
  split at h
  · injection h with h; injection h with h1 h2; subst h1 h2
    exact rparse_long ao n cap w (by assumption)
  · rename_i hl
    split at h
    · rename_i e i hs
      injection h with h; injection h with h1 h2; subst h1 h2
      exact rparse_scan ao n cap b hb0 w hb (by omega) _ _ hs
    · rename_i hs
      simp only at h
      obtain ⟨X, hX⟩ : ∃ X, num4 (b.drop 12) = X := ⟨_, rfl⟩
      rw [hX] at h
      refine rparse_bad ao n cap b hb0 w hb hcap (by omega) hs X hX e0 a0 ?_
      split at h
      · injection h with h; injection h with h1 h2; exact .inl ⟨by assumption, h1.symm, h2.symm⟩
      · split at h
        · injection h with h; injection h with h1 h2; exact .inr (.inl ⟨by omega, by assumption, h1.symm, h2.symm⟩)
        · split at h
          · injection h with h; injection h with h1 h2; exact .inr (.inr ⟨by omega, by assumption, h1.symm, h2.symm⟩)
          · cases h

theorem rparse_img (ao : Option Addr) (n cap : Nat) (b : List By) (hb0 : b.length = n) (w : World) (hb : IsB w ao b) (hcap : n ≤ cap) (s k v : Nat) (p t : List By) (h : parse b = .img s k v p t) :
    Calls Tryd.prog 14 #[.slice ao n cap] w fun e w' => ∃ ao' c', e = .returned (.tuple #[.agg (imgC s k v (.slice ao' p.length c') t).toArray, .agg #[.int .i64 0, .int .i64 0]]) ∧ Own w.heap.size w' (.slice ao' p.length c') p ∧ Below w.heap.size w w' := by
  have hpi := parse_img h
  unfold parse at h
  rw [hb0] at h hpi
  split at h
  · cases h
  · rename_i hl
    split at h
    · cases h
    · rename_i hs
      simp only at h
      obtain ⟨X, hX⟩ : ∃ X, num4 (b.drop 12) = X := ⟨_, rfl⟩
      rw [hX] at h
      split at h
      · cases h
      · split at h
        · cases h
        · split at h
          · cases h
          · injection h with h; injection h with h1 h; injection h with h2 h; injection h with h3 h; injection h with h4 h5
            have hxp : X = p.length := by
              have := hpi.2.2.2.2.2.1
              rw [← h4, List.length_take, List.length_drop, hb0]
              clear hpi h3 h1 h2 h4 h5 hX
              omega
            subst hxp
            have hx := hX
            have := rparse_ok ao n cap b hb0 w hb hcap (by omega) hs p.length hx (by omega) s k v h1 h2 h3
            rw [h4, h5] at this
            exact this

end Go.Proofs.YtnpbgfnahkmhoaaDoor
