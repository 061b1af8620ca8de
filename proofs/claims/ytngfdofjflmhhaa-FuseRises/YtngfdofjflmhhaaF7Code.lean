
import Derived.Test.YtngfdofjflmhhaaF7CodeB
/-! Layer 7, the program's Revoked, Revoke. -/
namespace Go.Proofs.Ytngfdofjflmhhaa
open Go.RowKit
set_option linter.unusedVariables false

set_option maxHeartbeats 2000000 in
set_option maxRecDepth 100000 in
theorem fufuseOf_any (G : RF) (s : RS) (S : ByteArray) (k : Int) (w : World) (h : CAt w G s S) (hf : s.Fu) :
    Calls Try.prog 38 #[.pointer (some ⟨G.g, 0, none⟩), .int .i64 k] w fun e w' => e = .returned (.tuple #[.int .i64 (if s.revokedE k = 0 then s.key k else 0), .int .i64 (s.revokedE k)]) ∧ Below w.heap.size w w' := by
  have HW : Hid (∀ W, Below w.heap.size w W → CAt W G s S) := fun W hW => h.below hW (Nat.le_refl _)
  have HCF : Hid (Calls Try.prog 35 #[.pointer (some ⟨G.g, 0, none⟩)] w fun e w' => e = .returned (.agg #[.int .i64 s.c.cells, .int .i64 s.c.slots, .int .i64 s.c.fuses, .int .i64 s.c.step, .int .i64 s.c.keys, .int .i64 s.c.erases, .int .i64 s.c.area]) ∧ Below w.heap.size w w') := cconfig7 G s S w h
  have HAS : Hid (∀ W, Below w.heap.size w W → Calls Try.prog 51 #[.pointer (some ⟨G.g, 0, none⟩), .int .i64 k, .int .i64 s.c.keys] W fun e w' => e = .returned (.int .i64 (s.revokedE k)) ∧ w' = W) := fun W hW => fuask_any G s S k s.c.keys W (HW.out W hW)
  have hz : ∀ w : World, (zeroValue 23).run Try.prog w = .ok (.agg #[.int .i64 0, .int .i64 0, .int .i64 0, .int .i64 0, .int .i64 0, .int .i64 0, .int .i64 0]) w := fun _ => by kernel_rfl
  obtain ⟨m1, m2⟩ := hf.mul
  have k2 := hf.k2
  have HK : Hid (s.revokedE k = 0 → 0 ≤ k ∧ k < s.c.keys) := fun h0 => (ask_zero h0).2
  have ek : s.key k = s.c.slots * s.c.fuses + k := rfl
  rw [ek]
  have w1 : IntKind.i64.wrap (s.c.slots * s.c.fuses) = s.c.slots * s.c.fuses := i64_in _ (by omega) (by omega)
  clear ek hf h
  generalize s.c.cells = X0 at *
  generalize s.c.slots = SL at *
  generalize s.c.fuses = FSZ at *
  generalize s.c.step = X3 at *
  generalize s.c.keys = KS at *
  generalize s.c.erases = X5 at *
  generalize s.c.area = X6 at *
  generalize s.revokedE k = f at *
  by_cases h0 : f = 0
  · obtain ⟨k0, k1⟩ := HK.out h0
    subst h0
    have w2 : IntKind.i64.wrap (SL * FSZ + k) = SL * FSZ + k := i64_in _ (by omega) (by omega)
    rw [if_pos rfl]
    go_enter Try.func38, Try.ntmps38
    go_wp2_with fail
    refine HCF.out.mono ?_
    rintro e w2 ⟨rfl, hb2⟩
    have HB : Hid (∀ o1, Below w.heap.size w (w2.alloc o1)) := fun o1 => hb2.alloc hb2.size o1
    go_wp2_with (refine (HAS.out _ (HB.out _)).mono ?_; rintro e w4 ⟨rfl, rfl⟩)
    go_ret2
    exact ⟨rfl, HB.out _⟩
  · rw [if_neg h0]
    have e1 : (f != 0) = true := by rw [bne_iff_ne]; exact h0
    go_enter Try.func38, Try.ntmps38
    go_wp2_with fail
    refine HCF.out.mono ?_
    rintro e w2 ⟨rfl, hb2⟩
    have HB : Hid (∀ o1, Below w.heap.size w (w2.alloc o1)) := fun o1 => hb2.alloc hb2.size o1
    go_wp2_with (refine (HAS.out _ (HB.out _)).mono ?_; rintro e w4 ⟨rfl, rfl⟩)
    go_ret2
    exact ⟨rfl, HB.out _⟩

set_option maxHeartbeats 2000000 in
set_option maxRecDepth 100000 in
theorem furevoked_any (G : RF) (s : RS) (S : ByteArray) (k : Int) (w : World) (h : CAt w G s S) (hf : s.Fu) :
    Calls Try.prog 19 #[.pointer (some ⟨G.g, 0, none⟩), .int .i64 k] w fun e w' => e = .returned (.tuple #[.bool (s.revoked k), .int .i64 (s.revokedE k)]) ∧ Below w.heap.size w w' := by
  have HW : Hid (∀ W, Below w.heap.size w W → CAt W G s S) := fun W hW => h.below hW (Nat.le_refl _)
  have HFO : Hid (Calls Try.prog 38 #[.pointer (some ⟨G.g, 0, none⟩), .int .i64 k] w fun e w' => e = .returned (.tuple #[.int .i64 (if s.revokedE k = 0 then s.key k else 0), .int .i64 (s.revokedE k)]) ∧ Below w.heap.size w w') := fufuseOf_any G s S k w h hf
  by_cases h0 : s.revokedE k = 0
  · obtain ⟨hgo, i1, i2⟩ := ask_zero h0
    have hbl := hf.bl
    obtain ⟨m1, m2⟩ := hf.mul
    have ek : s.key k = s.c.slots * s.c.fuses + k := rfl
    have HBN : Hid (∀ W, Below w.heap.size w W → Calls Try.prog 39 #[.pointer (some ⟨G.g, 0, none⟩), .int .i64 (s.key k)] W fun e w' => e = .returned (.tuple #[.bool (s.revoked k), .int .i64 0]) ∧ w' = W) := fun W hW => by
      have := cblown_any G s S (s.key k) W (HW.out W hW)
      rw [fuse_of hgo (by omega) (by omega), if_pos rfl] at this
      unfold RS.revoked
      rw [if_pos h0]
      exact this
    rw [h0, if_pos rfl] at HFO
    rw [h0]
    generalize s.revoked k = b at *
    generalize s.key k = KY at *
    clear h0 hf h ek
    go_enter Try.func19, Try.ntmps19
    go_wp2_with (first | (refine HFO.out.mono ?_; rintro e w4 ⟨rfl, hb4⟩) | (refine (HBN.out _ hb4).mono ?_; rintro e w5 ⟨rfl, rfl⟩))
    go_ret2
    exact ⟨rfl, hb4⟩
  · have ec : s.revoked k = false := by unfold RS.revoked; rw [if_neg h0]
    rw [ec]
    rw [if_neg h0] at HFO
    generalize s.revokedE k = f at *
    have e1 : (f != 0) = true := by rw [bne_iff_ne]; exact h0
    go_enter Try.func19, Try.ntmps19
    go_wp2_with (refine HFO.out.mono ?_; rintro e w4 ⟨rfl, hb4⟩)
    go_ret2
    exact ⟨rfl, hb4⟩

set_option maxHeartbeats 2000000 in
set_option maxRecDepth 100000 in
theorem furevoke_any (G : RF) (s : RS) (S : ByteArray) (k : Int) (w : World) (h : CAt w G s S) (hf : s.Fu) (hg : s.Good) (hn : s.n < 4611686018427387000) :
    Calls Try.prog 18 #[.pointer (some ⟨G.g, 0, none⟩), .int .i64 k] w (CPost G (s.revoke k).1 (s.revoke k).2 w) := by
  have HW : Hid (∀ W, Below w.heap.size w W → CAt W G s S) := fun W hW => h.below hW (Nat.le_refl _)
  have HFO : Hid (Calls Try.prog 38 #[.pointer (some ⟨G.g, 0, none⟩), .int .i64 k] w fun e w' => e = .returned (.tuple #[.int .i64 (if s.revokedE k = 0 then s.key k else 0), .int .i64 (s.revokedE k)]) ∧ Below w.heap.size w w') := fufuseOf_any G s S k w h hf
  have HST : Hid (∀ W, Below w.heap.size w W → (∃ S', CAt W G s S') ∧ KeptL G.blocks w W) := fun W hW => ⟨⟨S, HW.out W hW⟩, (KeptL.refl _ _).below hW (Nat.le_refl _)⟩
  have HRS : Hid (s.revoke k = if s.revokedE k = 0 then (if s.revoked k then (s, 0) else (s.blow (s.key k), s.blowE (s.key k))) else (s, s.revokedE k)) := rfl
  generalize s.revoke k = R at *
  by_cases h0 : s.revokedE k = 0
  · obtain ⟨hgo, i1, i2⟩ := ask_zero h0
    have hbl := hf.bl
    obtain ⟨m1, m2⟩ := hf.mul
    have ek : s.key k = s.c.slots * s.c.fuses + k := rfl
    have HBN : Hid (∀ W, Below w.heap.size w W → Calls Try.prog 39 #[.pointer (some ⟨G.g, 0, none⟩), .int .i64 (s.key k)] W fun e w' => e = .returned (.tuple #[.bool (s.revoked k), .int .i64 0]) ∧ w' = W) := fun W hW => by
      have := cblown_any G s S (s.key k) W (HW.out W hW)
      rw [fuse_of hgo (by omega) (by omega), if_pos rfl] at this
      unfold RS.revoked
      rw [if_pos h0]
      exact this
    rw [h0, if_pos rfl] at HFO
    by_cases hb : s.revoked k = true
    · have HE : Hid (R = (s, 0)) := by show _ = _; rw [HRS.out, if_pos h0, if_pos hb]
      rw [hb] at HBN
      clear HRS hb h0 hf hg i2 h ek
      generalize s.key k = KY at *
      go_enter Try.func18, Try.ntmps18
      go_wp2_with (first | (refine HFO.out.mono ?_; rintro e w4 ⟨rfl, hb4⟩) | (refine (HBN.out _ hb4).mono ?_; rintro e w5 ⟨rfl, rfl⟩))
      go_ret
      rw [HE.out]
      exact ⟨rfl, HST.out _ hb4⟩
    · have HE : Hid (R = (s.blow (s.key k), s.blowE (s.key k))) := by show _ = _; rw [HRS.out, if_pos h0, if_neg hb]
      have hb' : s.revoked k = false := by simpa using hb
      rw [hb'] at HBN
      have HBA : Hid (∀ W, Below w.heap.size w W → Calls Try.prog 31 #[.pointer (some ⟨G.g, 0, none⟩), .int .i64 (s.key k)] W (CPost G (s.blow (s.key k)) (s.blowE (s.key k)) W)) := fun W hW => cblow_any G s S _ W (HW.out W hW) hg.n0 (by omega) hg.wt
      clear HRS hb hb' h0 hf hg i2 h ek
      generalize s.blow (s.key k) = s2 at *
      generalize s.blowE (s.key k) = E at *
      generalize s.key k = KY at *
      go_enter Try.func18, Try.ntmps18
      go_wp2_with (first | (refine HFO.out.mono ?_; rintro e w4 ⟨rfl, hb4⟩) | (refine (HBN.out _ hb4).mono ?_; rintro e w5 ⟨rfl, rfl⟩) | (refine (HBA.out _ hb4).mono ?_; rintro e w6 ⟨rfl, hc6, kl6⟩))
      go_ret
      rw [HE.out]
      exact ⟨rfl, hc6, (HST.out _ hb4).2.trans kl6⟩
  · have HE : Hid (R = (s, s.revokedE k)) := by show _ = _; rw [HRS.out, if_neg h0]
    clear HRS
    rw [if_neg h0] at HFO
    generalize s.revokedE k = f at *
    have e1 : (f != 0) = true := by rw [bne_iff_ne]; exact h0
    go_enter Try.func18, Try.ntmps18
    go_wp2_with (refine HFO.out.mono ?_; rintro e w4 ⟨rfl, hb4⟩)
    go_ret
    rw [HE.out]
    exact ⟨rfl, HST.out _ hb4⟩
end Go.Proofs.Ytngfdofjflmhhaa
