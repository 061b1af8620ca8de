
import Derived.Test.YtepafpnpmpijeaaK12Ref
import Derived.Test.YtepafpnpmpijeaaI11Mem
/-! The reference's rings: Sign. -/
namespace Go.Proofs.Ytepafpnpmpijeaa
open Go.RowKit
set_option linter.unusedVariables false

theorem cell_lt {w : World} {p : Addr} {v : Value} (h : w.cell? p = some v) : p.block < w.heap.size := by
  rcases Nat.lt_or_ge p.block w.heap.size with h1 | h1
  · exact h1
  · simp [World.cell?, Array.getElem?_eq_none h1] at h
theorem RgAt.keep {w w' : World} {g : Nat} {ao : Option Addr} {cap : Nat} {vs : List Value} {l : Secs} (h : RgAt w g ao cap vs l) (hb : Below w.heap.size w w') : RgAt w' g ao cap vs l where
  row := h.row.below hb h.row.lt
  key i hi := by
    obtain ⟨q, e, h1, h2⟩ := h.key i hi
    exact ⟨q, e, (hb.cell (cell_lt h1)).trans h1, (hb.cell (cell_lt h2)).trans h2⟩
  bytes i hi := by
    obtain ⟨bo, n, c, e, h1, h2⟩ := h.bytes i hi
    exact ⟨bo, n, c, e, h1.below hb (Nat.le_refl _), h2⟩

/-- What a ring signs, and tells. -/
def sgn (l : Secs) (key : Int) (b : List By) : List By := match fnd l key with | some i => tag (l.getD i (0, [])).2 b | none => List.replicate 32 0
def sgnE (l : Secs) (key : Int) : Int := match fnd l key with | some _ => 0 | none => 13
theorem sgn_len (l : Secs) (key : Int) (b : List By) : (sgn l key b).length = 32 := by
  unfold sgn; split
  · exact sha_len _
  · rfl
theorem fnd_lt {l : Secs} {key : Int} {i : Nat} (h : fnd l key = some i) : i < l.length := by
  unfold fnd at h
  rw [List.findIdx?_eq_some_iff_getElem] at h
  exact h.1

set_option maxHeartbeats 1000000 in
set_option maxRecDepth 100000 in
theorem rsign_any (w : World) (g : Nat) (ao : Option Addr) (cap : Nat) (vs : List Value) (l : Secs) (h : RgAt w g ao cap vs l) (hl : l.length ≤ 64) (hb256 : ∀ i, i < l.length → (l.getD i (0, [])).2.length ≤ 256) (key : Int)
    (bo : Option Addr) (nb cb : Nat) (b : List By) (hnb : b.length = nb) (hb : IsB w bo b) (hbk : bo = none → cb = 0) (hmb : nb ≤ 140737488353000) :
    Calls Try.prog 20 #[.pointer (some ⟨g, 0, none⟩), .int .i64 key, .slice bo nb cb] w fun e w' => e = .returned (.tuple #[.agg ((sgn l key b).map B8).toArray, .int .i64 (sgnE l key)]) ∧ Below w.heap.size w w' := by
  have b0 : ∀ o1, Below w.heap.size w (w.alloc o1) := fun o1 => (Below.refl _ _).alloc (Nat.le_refl _) _
  have HL := sgn_len l key b
  have H : Hid (∀ o1, Calls Try.prog 24 #[.pointer (some ⟨g, 0, none⟩), .int .i64 key] (w.alloc o1) fun e w' => e = .returned (.int .i64 (fndI l key)) ∧ w' = w.alloc o1) := fun o1 => find_any _ g ao cap vs l (h.keep (b0 o1)) hl key
  go_enter Try.func20, Try.ntmps20
  go_wp2_with fail
  refine (H.out _).mono ?_
  rintro e w1 ⟨rfl, hw1⟩
  have bw : Below w.heap.size w w1 := by rw [hw1]; exact b0 _
  have r0 : Row w1 w.heap.size 38 ((List.replicate 32 (0 : By)).map B8) := by rw [hw1]; exact Row.at w _ _ _ _ rfl rfl
  clear hw1 b0 H
  replace h := h.keep bw
  replace hb := hb.below bw (Nat.le_refl _)
  have h0 := h.row.cell 0 _ rfl
  have HB : Hid (b.length = nb) := hnb
  clear hnb
  cases hf : fnd l key with
  | none =>
    have e1 : fndI l key = -1 := by unfold fndI; rw [hf]
    have HS : Hid (sgn l key b = List.replicate 32 0 ∧ sgnE l key = 13) := ⟨by unfold sgn; rw [hf], by unfold sgnE; rw [hf]⟩
    rw [e1]
    clear e1 hf
    go_wp2_with (refine wpList_store_Row rfl 38 _ _ rfl w.heap.size 38 0 ((List.replicate 32 (0 : By)).map B8) ((List.replicate 32 (0 : By)).map B8) r0 (by simp) rfl rfl (by kernel_rfl) (B8_one _) ?_; intro w9 hr9 hs9)
    have hr := row_whole hr9 (by simp)
    refine bodyPost_ret_by (results_rowtmp Try.results20 _ w9 w.heap.size 38 _ _ rfl hr Try.underlying38 rfl (by kernel_rfl)) rfl ⟨?_, hs9.below bw (Nat.le_refl _)⟩
    rw [HS.out.1, HS.out.2]; rfl
  | some i =>
    have hi := fnd_lt hf
    have e1 : fndI l key = (i : Int) := by unfold fndI; rw [hf]
    obtain ⟨q, hq, hc1, hc2⟩ := h.key i hi
    obtain ⟨ko, kn, kc, ev, hkb, hkn, hkc, hknil⟩ := h.bytes i hi
    have hk256 := hb256 i hi
    subst hq
    rw [ev] at hc2
    have HS : Hid (sgn l key b = tag (l.getD i (0, [])).2 b ∧ sgnE l key = 0) := ⟨by unfold sgn; rw [hf], by unfold sgnE; rw [hf]⟩
    have y0 : (0 : Int) ≤ (i : Int) := by omega
    have y1 : (i : Int) < (l.length : Int) := by omega
    have y2 : ¬ (i : Int) < 0 := by omega
    rw [e1]
    generalize hK : (l.getD i (0, [])).2 = K at hkb hkn hk256 HS
    have HK : Hid (K.length = kn) := hkn.symm
    have hkl : kn ≤ 256 := by rw [hkn]; exact hk256
    have M : Hid (Calls Try.prog 25 #[.slice ko kn kc, .slice bo nb cb] w1 fun e w' => e = .returned (.agg ((tag K b).map B8).toArray) ∧ Below w1.heap.size w1 w') := by
      exact refMac_any ko bo kn kc nb cb K b HK.out HB.out w1 hkb hb hknil hbk (by omega) hmb
    have htl : (tag K b).length = 32 := sha_len _
    have HT : Hid ((tag K b).length = 32) := htl
    clear htl hK hkb hkn hk256 hf e1 ev hc1 h hb256
    generalize tag K b = TG at M HS HT
    go_wp2_with fail
    refine M.out.mono ?_
    rintro e w2 ⟨rfl, hb2⟩
    have r2 := r0.below hb2 r0.lt
    have bw2 := bw.trans (hb2.mono bw.size)
    go_wp2_with (refine wpList_store_Row rfl 38 _ _ rfl w.heap.size 38 0 ((List.replicate 32 (0 : By)).map B8) (TG.map B8) r2 (by simp [HT.out]) rfl rfl (by rw [List.length_map, HT.out]; kernel_rfl) (B8_one _) ?_; intro w9 hr9 hs9)
    have hr := row_whole hr9 (by simp [HT.out])
    refine bodyPost_ret_by (results_rowtmp Try.results20 _ w9 w.heap.size 38 _ _ rfl hr Try.underlying38 rfl (by rw [List.length_map, HT.out]; kernel_rfl)) rfl ⟨?_, hs9.below bw2 (Nat.le_refl _)⟩
    rw [HS.out.1, HS.out.2]; rfl

end Go.Proofs.Ytepafpnpmpijeaa
