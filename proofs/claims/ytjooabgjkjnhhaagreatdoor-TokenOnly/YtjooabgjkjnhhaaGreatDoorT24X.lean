
import Derived.Test.YtjooabgjkjnhhaaGreatDoorT24W
/-! The reference's token: Right. -/
namespace Go.Proofs.YtjooabgjkjnhhaaGreatDoor
open Go.RowKit
set_option linter.unusedVariables false
set_option linter.unusedSimpArgs false
set_option maxRecDepth 100000

set_option maxHeartbeats 2000000 in
theorem r24Right_any (so : Option Addr) (sc : Nat) (s : List By) (io : Option Addr) (ic : Nat) (id : List By) (lo : Option Addr) (lc : Nat) (l : List Cv) (w : World) (hs : IsB w so s) (hsn : so = none → sc = 0) (hsb : s.length ≤ 1000) (hi : IsB w io id) (hin : io = none → ic = 0) (hib : id.length ≤ 64) (hc : CvsIn w lo l) (hok : ∀ c ∈ l, c.ok) (hlb : l.length ≤ 32) :
    Calls Tryz.prog 19 #[.slice so s.length sc, .slice io id.length ic, .slice lo l.length lc] w fun e w' => e = .returned (.agg ((rightT tag s id l).map B8).toArray) ∧ Below w.heap.size w w' := by
  obtain ⟨W1, hW1⟩ : ∃ W1, W1 = w.alloc (.cells zH24.toArray 26) := ⟨_, rfl⟩
  have r0 : Row W1 w.heap.size 26 zH24 := by rw [hW1]; exact Row.at w _ _ _ _ rfl rfl
  have b1 : Below w.heap.size w W1 := by rw [hW1]; exact (Below.refl _ _).alloc (Nat.le_refl _) _
  have F : Calls Tryz.prog 21 #[.slice so s.length sc, .slice io id.length ic, .slice lo l.length lc] W1 fun e w' => ∃ ao c', e = .returned (.slice ao (l.length + 1) c') ∧ w'.ownsRow W1.heap.size 98 34 (.slice ao (l.length + 1) c') (l.length + 1) ((prs tag s id l).flatMap prC) ∧ Below W1.heap.size W1 w' := r24Pairs_any so sc s io ic id lo lc l W1 (hs.below b1 (Nat.le_refl _)) hsn hsb (hi.below b1 (Nat.le_refl _)) hin hib (hc.keep b1) hok hlb
  obtain ⟨RT, hRT⟩ : ∃ RT, RT = rightT tag s id l := ⟨_, rfl⟩
  have L32 : Hid (RT.length = 32) := by
    obtain ⟨a9, b9, hl9⟩ := prs_last s id l
    have := prs_tags s id l _ (List.mem_of_getElem? hl9)
    rw [hRT]; exact this
  have RNG : Hid (∀ (W : World) (pb qc : Nat), W.ownsRow W1.heap.size 98 34 (.slice (some ⟨pb, 0, none⟩) (l.length + 1) qc) (l.length + 1) ((prs tag s id l).flatMap prC) → W.rangeAt pb (l.length * 34 + 2) (RT.map B8)) := fun W pb qc ho j v hv => by
    obtain ⟨a9, b9, hl9⟩ := prs_last s id l
    rw [← hRT] at hl9
    have h1 := flP_at (prs tag s id l) (prs_tags s id _) l.length _ hl9 (2 + j) v (by unfold prC; rw [List.getElem?_append_right (by simp)]; simpa using hv)
    have := ho.cells (g := pb) rfl (l.length * 34 + (2 + j)) v h1
    rw [Addr.add_mid, Nat.zero_add, ← Nat.add_assoc] at this
    exact this
  have R0 : Hid (∀ W, Below W1.heap.size W1 W → Row W w.heap.size 26 zH24 ∧ Below w.heap.size w W) := fun W hW => ⟨r0.below hW r0.lt, b1.trans (hW.mono b1.size)⟩
  have HLB : Hid (l.length ≤ 32) := hlb
  rw [← hRT]
  clear hs hsn hsb hi hin hib hc hok hlb hRT r0 b1
  generalize hn : id.length = n at *
  generalize hm : l.length = m at *
  generalize hk : s.length = ks at *
  have z1 : IntKind.i64.wrap ((m : Int) + 1 - 1) = (m : Int) := by rw [show (m : Int) + 1 - 1 = (m : Int) by omega]; exact i64_in _ (by omega) (by have := HLB.out; omega)
  have z0 : IntKind.i64.wrap (m : Int) = (m : Int) := i64_in _ (by omega) (by have := HLB.out; omega)
  have y1 : (m : Int) < (m : Int) + 1 := by omega
  have y0 : (0 : Int) ≤ (m : Int) := by omega
  clear hn hm hk
  go_enter Tryz.func19, Tryz.ntmps19
  go_wp2_with (first
    | (have hz := hW1; clear hz; refine wpList_at24 hW1 ?_; clear hW1)
    | (go_at_call 21; refine F.mono ?_; clear F; rintro e w2 ⟨po, pc, rfl, ho2, hb2⟩; obtain ⟨pb, rfl⟩ : ∃ pb, po = some ⟨pb, 0, none⟩ := (by rcases ho2.2 with ⟨_, e0⟩ | ⟨g, cc, cur, e, _⟩; exact absurd e0 (by omega); injection e with e1 _ _; exact ⟨g, e1⟩); have rg := RNG.out w2 pb pc ho2; have HB2 : Hid (Row w2 w.heap.size 26 zH24 ∧ Below w.heap.size w w2) := R0.out w2 hb2; clear ho2 hb2)
    | (have hz := rg; clear hz; refine wpList_load_mid rfl 26 (.tmp 17) rfl pb (m * 34 + 2) rfl (RT.map B8) _ rg Tryz.underlying26 rfl (by rw [List.length_map, L32.out]; kernel_rfl) ?_; clear rg)
    | (have hz := HB2; clear hz; refine wpList_store_Row rfl 26 _ _ rfl w.heap.size 26 0 zH24 (RT.map B8) HB2.out.1 (by rw [List.length_map, L32.out]; exact Nat.le_refl _) rfl rfl (by rw [List.length_map, L32.out]; kernel_rfl) (B8_one _) ?_; intro w4 hr4 hs4))
  have q2 := row_whole hr4 (by rw [List.length_map, L32.out]; exact Nat.le_refl _)
  refine bodyPost_ret_by (results_Row Tryz.results19 _ w4 w.heap.size 26 _ _ rfl q2 Tryz.underlying26 rfl (by rw [List.length_map, L32.out]; kernel_rfl)) rfl ⟨rfl, ?_⟩
  exact hs4.below HB2.out.2 (Nat.le_refl _)
end Go.Proofs.YtjooabgjkjnhhaaGreatDoor
