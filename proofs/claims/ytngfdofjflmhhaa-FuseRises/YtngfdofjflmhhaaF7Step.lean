
import Derived.Test.YtngfdofjflmhhaaF7Code
/-! The statement's step, of both. -/
namespace Go.Proofs.Ytngfdofjflmhhaa
open Go.RowKit
set_option linter.unusedVariables false

/-- What a call of n acts at most leaves good. -/
theorem raiseGo_good {o : Nat} {n : Int} : ∀ (m i : Nat) (k : Int) (s : RS), s.Good → (raiseGo o n m i k s).1.Good ∧ (raiseGo o n m i k s).1.n ≤ s.n + m
  | 0, _, _, s, h => ⟨h, by show s.n ≤ _; omega⟩
  | m + 1, i, k, s, h => by
    unfold raiseGo
    split
    · exact ⟨h, by show s.n ≤ _; omega⟩
    · split
      · have := raiseGo_good (o := o) (n := n) m (i + 1) k s h
        exact ⟨this.1, by omega⟩
      · obtain ⟨g1, g2⟩ := h.blow ((o + i : Nat) : Int)
        split
        · have := raiseGo_good (o := o) (n := n) m (i + 1) (k + 1) _ g1
          exact ⟨this.1, by omega⟩
        · exact ⟨g1, by show (s.blow _).n ≤ _; omega⟩
theorem RS.Good.raise {s : RS} (h : s.Good) (hf : s.Fu) (slot n : Int) : (s.raise slot n).1.Good ∧ (s.raise slot n).1.n ≤ s.n + 64 := by
  unfold RS.raise
  have := hf.f2
  split
  · split
    · exact ⟨h, by show s.n ≤ _; omega⟩
    · have := raiseGo_good (o := s.o7 slot) (n := n) s.c.fuses.toNat 0 (s.count slot) s h
      exact ⟨this.1, by omega⟩
  · exact ⟨h, by show s.n ≤ _; omega⟩
theorem RS.Good.revoke {s : RS} (h : s.Good) (k : Int) : (s.revoke k).1.Good ∧ (s.revoke k).1.n ≤ s.n + 64 := by
  unfold RS.revoke
  split
  · split
    · exact ⟨h, by show s.n ≤ _; omega⟩
    · obtain ⟨g1, g2⟩ := h.blow (s.key k)
      exact ⟨g1, by show (s.blow _).n ≤ _; omega⟩
  · exact ⟨h, by show s.n ≤ _; omega⟩

def StepPost7 (G F : RF) (s : RS) (w : World) (e : Ending) (w' : World) : Prop := e = .returned (.bool true) ∧ ∃ F' s', PR w' G F' s' ∧ s'.Fu ∧ F'.g = F.g ∧ (∀ B ∈ F'.blocks, B ∈ F.blocks ∨ w.heap.size ≤ B) ∧ s'.n ≤ s.n + 64 ∧ KeptL (G.blocks ++ F.blocks) w w'

theorem u8_wrap (a : Int) : IntKind.u8.wrap a = ((BitVec.ofInt 8 a).toNat : Int) := by
  have h : (BitVec.ofInt 8 a).toNat = (a % 256).toNat := by
    rw [BitVec.toNat_ofInt]; rfl
  have h2 : IntKind.u8.wrap a = a % 256 := by rfl
  rw [h, h2]
  have : 0 ≤ a % 256 := Int.emod_nonneg _ (by decide)
  omega

set_option maxHeartbeats 4000000 in
set_option maxRecDepth 100000 in
theorem l7step_any (w : World) (G F : RF) (s : RS) (hp : PR w G F s) (hf : s.Fu) (hn : s.n < 4611686018427387000) (k a b : Int) (hb : b < 9223372036854775808) :
    Calls Try.prog 8 #[.pointer (some ⟨G.g, 0, none⟩), .pointer (some ⟨F.g, 0, none⟩), .agg #[.int .i64 k, .int .i64 a, .int .i64 b]] w (StepPost7 G F s w) := by
  have hgood := hp.good
  have HF : Hid s.Fu := hf
  obtain ⟨W0, hW0⟩ : ∃ W0, W0 = w.alloc (.cells #[.int .i64 k, .int .i64 a, .int .i64 b] 40) := ⟨_, rfl⟩
  have bb0 : Below w.heap.size w W0 := by rw [hW0]; exact (Below.refl _ _).alloc (Nat.le_refl _) _
  have rs0 : Row W0 w.heap.size 40 [.int .i64 k, .int .i64 a, .int .i64 b] := by rw [hW0]; exact Row.at _ _ _ _ _ rfl rfl
  have HPL : Hid (∀ B, B ∈ G.blocks ∨ B ∈ F.blocks → B < w.heap.size) := hp.lt
  have hGg : G.g ∈ G.blocks := by simp [RF.blocks]
  have hFg : F.g ∈ F.blocks := by simp [RF.blocks]
  have HK : Hid (∀ W, KeptL (G.blocks ++ F.blocks) W0 W → KeptL (G.blocks ++ F.blocks) w W ∧ Row W w.heap.size 40 [.int .i64 k, .int .i64 a, .int .i64 b]) := by
    intro W kl
    have hnot : ∀ B, w.heap.size ≤ B → B ∉ G.blocks ++ F.blocks := fun B hB hm => by
      have := HPL.out B (List.mem_append.1 hm)
      omega
    exact ⟨((KeptL.refl _ _).below bb0 (Nat.le_refl _)).trans kl, (kl.block _ rs0.lt (hnot _ (Nat.le_refl _))).trans rs0⟩
  have HK0 : Hid (KeptL (G.blocks ++ F.blocks) W0 W0) := KeptL.refl _ _
  have HP0 : Hid (PR W0 G F s) := hp.below bb0 (Nat.le_refl _)
  have HQ : Hid (∀ W, Below W0.heap.size W0 W → PR W G F s ∧ KeptL (G.blocks ++ F.blocks) W0 W) := fun W hW => ⟨HP0.out.below hW (Nat.le_refl _), HK0.out.below hW (Nat.le_refl _)⟩
  have HSTAY : Hid (∀ W, PR W G F s → KeptL (G.blocks ++ F.blocks) W0 W → StepPost7 G F s w (.returned (.bool true)) W) := fun W hW kl => ⟨rfl, F, s, hW, hf, rfl, fun B hB => .inl hB, by omega, (HK.out W kl).1⟩
  have HGO : Hid (∀ W s', (∃ S, CAt W G s' S) → RAt W F s' → s'.Good → s'.Fu → s'.n ≤ s.n + 64 → KeptL (G.blocks ++ F.blocks) W0 W → StepPost7 G F s w (.returned (.bool true)) W) := fun W s' h1 h2 h3 h4 h5 kl => ⟨rfl, F, s', ⟨h1, h2, hp.sep, h3, hp.mn⟩, h4, rfl, fun B hB => .inl hB, h5, (HK.out W kl).1⟩
  have c0 := rs0.cell 0 _ rfl
  have c1 := rs0.cell 1 _ rfl
  have c2 := rs0.cell 2 _ rfl
  have HSEP : Hid (∀ B ∈ G.blocks, B ∉ F.blocks) := hp.sep
  clear hp rs0
  by_cases h1 : k = 1
  · subst h1
    have HC : Hid (∀ W, PR W G F s → Calls Try.prog 13 #[.pointer (some ⟨G.g, 0, none⟩), .int .i64 a] W fun e w' => e = .returned (.tuple #[.int .i64 (s.count a), .int .i64 (s.countE a)]) ∧ Below W.heap.size W w') := fun W hW => by
      obtain ⟨S, c⟩ := hW.c
      exact fucount_any G s S a W c HF.out
    have HR : Hid (∀ W, RAt W F s → Calls Try.prog 26 #[.pointer (some ⟨F.g, 0, none⟩), .int .i64 a] W fun e w' => e = .returned (.tuple #[.int .i64 (s.count a), .int .i64 (s.countE a)]) ∧ Dr W w') := fun W hW => q7count_any F s a W hW HF.out
    generalize s.count a = V at *
    generalize s.countE a = E at *
    go_enter Try.func8, Try.ntmps8
    go_upto_region 1 with fail
    rw [← hW0]
    clear hW0
    go_wp2_with (first
      | (refine (HC.out _ HP0.out).mono ?_; rintro e w1 ⟨rfl, hb1⟩; have HP1 : Hid (PR w1 G F s ∧ KeptL (G.blocks ++ F.blocks) W0 w1) := HQ.out w1 hb1; have hb1' : Hid (Below W0.heap.size W0 w1) := hb1; have c11 := (HK.out w1 HP1.out.2).2.cell 1 _ rfl; clear hb1)
      | (refine (HR.out _ HP1.out.1.r).mono ?_; rintro e w2 ⟨rfl, d2⟩))
    go_ret
    have hq := HQ.out w2 (Below_dr hb1'.out d2)
    exact HSTAY.out _ hq.1 hq.2
  by_cases h2 : k = 2
  · subst h2
    have HC : Hid (∀ W, PR W G F s → Calls Try.prog 15 #[.pointer (some ⟨G.g, 0, none⟩), .int .i64 a, .int .i64 b] W (CPost G (s.raise a b).1 (s.raise a b).2 W)) := fun W hW => by
      obtain ⟨S, c⟩ := hW.c
      exact furaise_any G s S a b W c HF.out hgood hn
    have HR : Hid (∀ W, RAt W F s → Calls Try.prog 27 #[.pointer (some ⟨F.g, 0, none⟩), .int .i64 a, .int .i64 b] W fun e w' => e = .returned (.int .i64 (s.raise a b).2) ∧ RAt w' F (s.raise a b).1 ∧ KeptL F.blocks W w') := fun W hW => q7raise_any F s a b W hW HF.out hgood hn
    have HGG : Hid ((s.raise a b).1.Good ∧ (s.raise a b).1.n ≤ s.n + 64) := hgood.raise HF.out a b
    have HFF : Hid (s.raise a b).1.Fu := HF.out.raise a b
    generalize (s.raise a b).1 = s' at *
    generalize (s.raise a b).2 = E at *
    go_enter Try.func8, Try.ntmps8
    go_upto_region 1 with fail
    rw [← hW0]
    clear hW0
    go_wp2_with (first
      | (refine (HC.out _ HP0.out).mono ?_; rintro e w1 ⟨rfl, hc1, kl1⟩; have kk1 : KeptL (G.blocks ++ F.blocks) W0 w1 := kl1.sub (fun B hB => List.mem_append.2 (.inl hB)); have HRS1 : Hid (Row w1 w.heap.size 40 [.int .i64 2, .int .i64 a, .int .i64 b]) := (HK.out w1 kk1).2; have HR1 : Hid (RAt w1 F s) := HP0.out.r.keep (fun B hB => kl1.block B (HP0.out.r.blt B hB) (fun hm => HSEP.out B hm hB)); have HC1 : Hid (∃ S, CAt w1 G s' S) := hc1; have KK1 : Hid (KeptL (G.blocks ++ F.blocks) W0 w1) := kk1; have c1 := HRS1.out.cell 1 _ rfl; have c2 := HRS1.out.cell 2 _ rfl; clear kk1 kl1 hc1)
      | (refine (HR.out _ HR1.out).mono ?_; rintro e w2 ⟨rfl, hr2, kl2⟩))
    go_ret
    refine HGO.out w2 s' ?_ hr2 HGG.out.1 HFF.out HGG.out.2 (KK1.out.trans (kl2.sub (fun B hB => List.mem_append.2 (.inr hB))))
    obtain ⟨S1, c1'⟩ := HC1.out
    exact ⟨S1, c1'.keep fun B hB => kl2.block B (c1'.blt B hB) (HSEP.out B hB)⟩
  by_cases h3 : k = 3
  · subst h3
    have HC : Hid (∀ W, PR W G F s → Calls Try.prog 19 #[.pointer (some ⟨G.g, 0, none⟩), .int .i64 a] W fun e w' => e = .returned (.tuple #[.bool (s.revoked a), .int .i64 (s.revokedE a)]) ∧ Below W.heap.size W w') := fun W hW => by
      obtain ⟨S, c⟩ := hW.c
      exact furevoked_any G s S a W c HF.out
    have HR : Hid (∀ W, RAt W F s → Calls Try.prog 28 #[.pointer (some ⟨F.g, 0, none⟩), .int .i64 a] W fun e w' => e = .returned (.tuple #[.bool (s.revoked a), .int .i64 (s.revokedE a)]) ∧ Dr W w') := fun W hW => q7revoked_any F s a W hW HF.out
    generalize s.revoked a = V at *
    generalize s.revokedE a = E at *
    go_enter Try.func8, Try.ntmps8
    go_upto_region 1 with fail
    rw [← hW0]
    clear hW0
    go_wp2_with (first
      | (refine (HC.out _ HP0.out).mono ?_; rintro e w1 ⟨rfl, hb1⟩; have HP1 : Hid (PR w1 G F s ∧ KeptL (G.blocks ++ F.blocks) W0 w1) := HQ.out w1 hb1; have hb1' : Hid (Below W0.heap.size W0 w1) := hb1; have c11 := (HK.out w1 HP1.out.2).2.cell 1 _ rfl; clear hb1)
      | (refine (HR.out _ HP1.out.1.r).mono ?_; rintro e w2 ⟨rfl, d2⟩))
    go_ret
    have hq := HQ.out w2 (Below_dr hb1'.out d2)
    exact HSTAY.out _ hq.1 hq.2
  by_cases h4 : k = 4
  · subst h4
    have HC : Hid (∀ W, PR W G F s → Calls Try.prog 18 #[.pointer (some ⟨G.g, 0, none⟩), .int .i64 a] W (CPost G (s.revoke a).1 (s.revoke a).2 W)) := fun W hW => by
      obtain ⟨S, c⟩ := hW.c
      exact furevoke_any G s S a W c HF.out hgood hn
    have HR : Hid (∀ W, RAt W F s → Calls Try.prog 29 #[.pointer (some ⟨F.g, 0, none⟩), .int .i64 a] W fun e w' => e = .returned (.int .i64 (s.revoke a).2) ∧ RAt w' F (s.revoke a).1 ∧ KeptL F.blocks W w') := fun W hW => q7revoke_any F s a W hW HF.out hgood hn
    have HGG : Hid ((s.revoke a).1.Good ∧ (s.revoke a).1.n ≤ s.n + 64) := hgood.revoke a
    have HFF : Hid (s.revoke a).1.Fu := HF.out.revoke a
    generalize (s.revoke a).1 = s' at *
    generalize (s.revoke a).2 = E at *
    go_enter Try.func8, Try.ntmps8
    go_upto_region 1 with fail
    rw [← hW0]
    clear hW0
    go_wp2_with (first
      | (refine (HC.out _ HP0.out).mono ?_; rintro e w1 ⟨rfl, hc1, kl1⟩; have kk1 : KeptL (G.blocks ++ F.blocks) W0 w1 := kl1.sub (fun B hB => List.mem_append.2 (.inl hB)); have HRS1 : Hid (Row w1 w.heap.size 40 [.int .i64 4, .int .i64 a, .int .i64 b]) := (HK.out w1 kk1).2; have HR1 : Hid (RAt w1 F s) := HP0.out.r.keep (fun B hB => kl1.block B (HP0.out.r.blt B hB) (fun hm => HSEP.out B hm hB)); have HC1 : Hid (∃ S, CAt w1 G s' S) := hc1; have KK1 : Hid (KeptL (G.blocks ++ F.blocks) W0 w1) := kk1; have c1 := HRS1.out.cell 1 _ rfl; have c2 := HRS1.out.cell 2 _ rfl; clear kk1 kl1 hc1)
      | (refine (HR.out _ HR1.out).mono ?_; rintro e w2 ⟨rfl, hr2, kl2⟩))
    go_ret
    refine HGO.out w2 s' ?_ hr2 HGG.out.1 HFF.out HGG.out.2 (KK1.out.trans (kl2.sub (fun B hB => List.mem_append.2 (.inr hB))))
    obtain ⟨S1, c1'⟩ := HC1.out
    exact ⟨S1, c1'.keep fun B hB => kl2.block B (c1'.blt B hB) (HSEP.out B hB)⟩
  by_cases h6 : k = 6
  · subst h6
    have HC : Hid (∀ W, PR W G F s → Calls Try.prog 31 #[.pointer (some ⟨G.g, 0, none⟩), .int .i64 a] W (CPost G (s.blow a) (s.blowE a) W)) := fun W hW => by
      obtain ⟨S, c⟩ := hW.c
      exact cblow_any G s S a W c hgood.n0 (by omega) hgood.wt
    have HR : Hid (∀ W, RAt W F s → Calls Try.prog 32 #[.pointer (some ⟨F.g, 0, none⟩), .int .i64 a] W fun e w' => e = .returned (.int .i64 (s.blowE a)) ∧ RAt w' F (s.blow a) ∧ KeptL F.blocks W w') := fun W hW => blow_any F s a W hW hgood.n0 (by omega) hgood.wt
    have HGG : Hid ((s.blow a).Good ∧ (s.blow a).n ≤ s.n + 64) := ⟨(hgood.blow a).1, by have := (hgood.blow a).2; omega⟩
    have HFF : Hid (s.blow a).Fu := HF.out.blow a
    generalize s.blow a = s' at *
    generalize s.blowE a = E at *
    go_enter Try.func8, Try.ntmps8
    go_upto_region 1 with fail
    rw [← hW0]
    clear hW0
    go_wp2_with (first
      | (refine (HC.out _ HP0.out).mono ?_; rintro e w1 ⟨rfl, hc1, kl1⟩; have kk1 : KeptL (G.blocks ++ F.blocks) W0 w1 := kl1.sub (fun B hB => List.mem_append.2 (.inl hB)); have HRS1 : Hid (Row w1 w.heap.size 40 [.int .i64 6, .int .i64 a, .int .i64 b]) := (HK.out w1 kk1).2; have HR1 : Hid (RAt w1 F s) := HP0.out.r.keep (fun B hB => kl1.block B (HP0.out.r.blt B hB) (fun hm => HSEP.out B hm hB)); have HC1 : Hid (∃ S, CAt w1 G s' S) := hc1; have KK1 : Hid (KeptL (G.blocks ++ F.blocks) W0 w1) := kk1; have c1 := HRS1.out.cell 1 _ rfl; have c2 := HRS1.out.cell 2 _ rfl; clear kk1 kl1 hc1)
      | (refine (HR.out _ HR1.out).mono ?_; rintro e w2 ⟨rfl, hr2, kl2⟩))
    go_ret
    refine HGO.out w2 s' ?_ hr2 HGG.out.1 HFF.out HGG.out.2 (KK1.out.trans (kl2.sub (fun B hB => List.mem_append.2 (.inr hB))))
    obtain ⟨S1, c1'⟩ := HC1.out
    exact ⟨S1, c1'.keep fun B hB => kl2.block B (c1'.blt B hB) (HSEP.out B hB)⟩
  by_cases h5 : k = 5
  · subst h5
    obtain ⟨x, hx⟩ : ∃ x, x = BitVec.ofInt 8 a := ⟨_, rfl⟩
    have hwr : IntKind.u8.wrap a = (x.toNat : Int) := by rw [hx]; exact u8_wrap a
    clear hx
    have HCU : Hid (∀ W g, PR W G F s → W.cell? ⟨g, 0, none⟩ = some (B8 x) → g ≠ G.g → Calls Try.prog 14 #[.pointer (some ⟨G.g, 0, none⟩), .int .i64 b, .slice (some ⟨g, 0, none⟩) 1 1] W fun e w' => e = .returned (.tuple #[]) ∧ (∃ S', CAt w' G { s with wait := max (-1) b, mask := [x] } S') ∧ SameBut G.g W w') := fun W g hW h1 h2 => by
      obtain ⟨S, c⟩ := hW.c
      refine ccut_any G s S b (some ⟨g, 0, none⟩) 1 1 [x] rfl W c (.inr ⟨g, 0, rfl, fun j v hj => ?_⟩) (.inr fun B off h => ?_) (by omega) (by omega) hb
      · cases j with
        | zero => injection hj with hj; subst hj; exact h1
        | succ j => simp at hj
      · injection h with h; injection h with h; subst h; exact h2
    have HCR : Hid (∀ W g, RAt W F s → W.cell? ⟨g, 0, none⟩ = some (B8 x) → g ≠ F.g → Calls Try.prog 30 #[.pointer (some ⟨F.g, 0, none⟩), .int .i64 b, .slice (some ⟨g, 0, none⟩) 1 1] W fun e w' => e = .returned (.tuple #[]) ∧ ∃ mo mc mb, (∀ B, mb = some B → W.heap.size ≤ B) ∧ (mo = none → mc = 0) ∧ RAt w' { F with mo := mo, mcap := mc, mb := mb } { s with wait := max (-1) b, mask := [x] } ∧ KeptL [F.g] W w') := fun W g hW h1 h2 => by
      refine cut2_any F s b (some ⟨g, 0, none⟩) 1 1 [x] rfl W hW (.inr ⟨g, 0, rfl, fun j v hj => ?_⟩) (.inr fun B off h => ?_) (fun h => by cases h) (by omega)
      · cases j with
        | zero => injection hj with hj; subst hj; exact h1
        | succ j => simp at hj
      · injection h with h; injection h with h; subst h; exact h2
    have HGG : Hid (({ s with wait := max (-1) b, mask := [x] } : RS).Good ∧ ({ s with wait := max (-1) b, mask := [x] } : RS).n ≤ s.n + 64 ∧ ({ s with wait := max (-1) b, mask := [x] } : RS).Fu) := ⟨⟨hgood.n0, by show max (-1) b < _; omega, hgood.ce, hgood.e0, by show ([x] : List By).length ≤ _; simp, hgood.pos⟩, by show s.n ≤ _; omega, ⟨hf.s1, hf.s2, hf.f1, hf.f2, hf.k1, hf.k2, hf.bl⟩⟩
    generalize ({ s with wait := max (-1) b, mask := [x] } : RS) = s' at *
    go_enter Try.func8, Try.ntmps8
    go_upto_region 1 with fail
    rw [← hW0]
    clear hW0
    go_wp2_with fail
    have ba : Below W0.heap.size W0 (W0.alloc (.cells #[.int .u8 (x.toNat : Int)] 5)) := (Below.refl _ _).alloc (Nat.le_refl _) _
    have hG0 : G.g < W0.heap.size := HP0.out.lt _ (.inl hGg)
    have hF0 : F.g < W0.heap.size := HP0.out.lt _ (.inr hFg)
    refine (HCU.out _ W0.heap.size (HQ.out _ ba).1 ((Row.at _ _ [B8 x] _ _ rfl rfl : Row (W0.alloc (.cells #[.int .u8 (x.toNat : Int)] 5)) W0.heap.size 5 [B8 x]).cell 0 _ rfl) (by omega)).mono ?_
    rintro e w1 ⟨rfl, hc1, sb1⟩
    have kk1 : KeptL (G.blocks ++ F.blocks) W0 w1 := (HQ.out _ ba).2.but sb1 (.inl (List.mem_append.2 (.inl hGg)))
    have HR1 : Hid (RAt w1 F s) := (HQ.out _ ba).1.r.keep (fun B hB => sb1.block B (fun e => HSEP.out G.g hGg (e ▸ hB)))
    have HC1 : Hid (∃ S, CAt w1 G s' S) := hc1
    have KK1 : Hid (KeptL (G.blocks ++ F.blocks) W0 w1) := kk1
    have hrs1 := (HK.out w1 kk1).2
    have c1 := hrs1.cell 1 _ rfl
    have c2 := hrs1.cell 2 _ rfl
    have hF1 : F.g < w1.heap.size := HR1.out.row.lt
    clear ba kk1 sb1 hc1 hrs1
    go_wp2_with fail
    have bc : Below w1.heap.size w1 (w1.alloc (.cells #[.int .u8 (x.toNat : Int)] 5)) := (Below.refl _ _).alloc (Nat.le_refl _) _
    refine (HCR.out _ w1.heap.size (HR1.out.keep fun B hB => bc.block B (HR1.out.blt B hB)) ((Row.at _ _ [B8 x] _ _ rfl rfl : Row (w1.alloc (.cells #[.int .u8 (x.toNat : Int)] 5)) w1.heap.size 5 [B8 x]).cell 0 _ rfl) (by omega)).mono ?_
    rintro e w2 ⟨rfl, mo, mc, mb, hmb, hmn, hr2, kl2⟩
    have hsz := bc.size
    have kl3 : KeptL [F.g] w1 w2 := ((KeptL.refl _ _).below bc (Nat.le_refl _)).trans kl2
    have HFIN : Hid (StepPost7 G F s w (.returned (.bool true)) w2) := by
      refine ⟨rfl, { F with mo := mo, mcap := mc, mb := mb }, s', ⟨?_, hr2, ?_, HGG.out.1, hmn⟩, HGG.out.2.2, rfl, ?_, HGG.out.2.1, (HK.out w2 (KK1.out.trans (kl3.sub ?_))).1⟩
      · obtain ⟨S1, c1'⟩ := HC1.out
        exact ⟨S1, c1'.keep fun B hB => kl3.block B (c1'.blt B hB) (fun hm => by
          have : B = F.g := by simpa using hm
          exact HSEP.out B hB (this ▸ hFg))⟩
      · intro B hB hm
        rcases blocks_mask hm with h | h
        · exact HSEP.out B hB h
        · have := hmb B h
          obtain ⟨S1, c1'⟩ := HC1.out
          have := c1'.blt B hB
          omega
      · intro B hB
        rcases blocks_mask hB with h | h
        · exact .inl h
        · have := hmb B h
          have := (HK.out w1 KK1.out).1.size
          exact .inr (by omega)
      · intro B hB
        have : B = F.g := by simpa using hB
        exact List.mem_append.2 (.inr (this ▸ hFg))
    clear hmb hmn hr2 kl2 kl3 hsz bc
    go_wp2
    go_ret
    exact HFIN.out
  · have HC : Hid (∀ W, PR W G F s → Calls Try.prog 16 #[.pointer (some ⟨G.g, 0, none⟩)] W fun e w' => e = .returned (.tuple #[]) ∧ (∃ S, CAt w' G { s with gone := false } S) ∧ SameBut G.g W w') := fun W hW => by
      obtain ⟨S, c⟩ := hW.c
      exact (crestore_any G s S W c).mono fun e w' h => ⟨h.1, ⟨S, h.2.1⟩, h.2.2⟩
    have HR : Hid (∀ W, RAt W F s → Calls Try.prog 33 #[.pointer (some ⟨F.g, 0, none⟩)] W fun e w' => e = .returned (.tuple #[]) ∧ RAt w' F { s with gone := false } ∧ SameBut F.g W w') := fun W hW => restore_any F s W hW
    have HGG : Hid (({ s with gone := false } : RS).Good ∧ ({ s with gone := false } : RS).n ≤ s.n + 64 ∧ ({ s with gone := false } : RS).Fu) := ⟨⟨hgood.n0, hgood.wt, hgood.ce, hgood.e0, hgood.ml, hgood.pos⟩, by show s.n ≤ _; omega, ⟨hf.s1, hf.s2, hf.f1, hf.f2, hf.k1, hf.k2, hf.bl⟩⟩
    generalize ({ s with gone := false } : RS) = s' at *
    have e1 : (k == 1) = false := by rw [beq_eq_false_iff_ne]; exact h1
    have e2 : (k == 2) = false := by rw [beq_eq_false_iff_ne]; exact h2
    have e3 : (k == 3) = false := by rw [beq_eq_false_iff_ne]; exact h3
    have e4 : (k == 4) = false := by rw [beq_eq_false_iff_ne]; exact h4
    have e5 : (k == 5) = false := by rw [beq_eq_false_iff_ne]; exact h5
    have e6 : (k == 6) = false := by rw [beq_eq_false_iff_ne]; exact h6
    go_enter Try.func8, Try.ntmps8
    go_upto_region 1 with fail
    rw [← hW0]
    clear hW0
    go_wp2_with (first
      | (refine (HC.out _ HP0.out).mono ?_; rintro e w1 ⟨rfl, hc1, sb1⟩; have kk1 : KeptL (G.blocks ++ F.blocks) W0 w1 := HK0.out.but sb1 (.inl (List.mem_append.2 (.inl hGg))); have HR1 : Hid (RAt w1 F s) := HP0.out.r.keep (fun B hB => sb1.block B (fun e => HSEP.out G.g hGg (e ▸ hB))); have HC1 : Hid (∃ S, CAt w1 G s' S) := hc1; have KK1 : Hid (KeptL (G.blocks ++ F.blocks) W0 w1) := kk1; clear kk1 sb1 hc1)
      | (refine (HR.out _ HR1.out).mono ?_; rintro e w2 ⟨rfl, hr2, sb2⟩))
    go_ret
    refine HGO.out w2 s' ?_ hr2 HGG.out.1 HGG.out.2.2 HGG.out.2.1 (KK1.out.but sb2 (.inl (List.mem_append.2 (.inr hFg))))
    obtain ⟨S1, c1'⟩ := HC1.out
    exact ⟨S1, c1'.keep fun B hB => sb2.block B (fun e => HSEP.out B hB (e ▸ hFg))⟩
end Go.Proofs.Ytngfdofjflmhhaa
