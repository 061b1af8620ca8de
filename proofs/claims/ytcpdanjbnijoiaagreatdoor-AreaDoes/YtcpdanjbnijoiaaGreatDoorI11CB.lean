import Derived.Test.YtcpdanjbnijoiaaGreatDoorArC3
import Derived.Test.YtcpdanjbnijoiaaGreatDoorI11Tool

/-! The program's area: Write, Worn. -/
namespace Go.Proofs.YtcpdanjbnijoiaaGreatDoor
open Go.RowKit
set_option linter.unusedVariables false

set_option maxHeartbeats 4000000 in
set_option maxRecDepth 100000 in
theorem arwrite_any (G : RF) (s : RS) (S : ByteArray) (a : Int) (bo : Option Addr) (n cap : Nat) (b : List By) (w : World) (hb0 : b.length = n) (hn47 : n ≤ 140737488355328) (hcap : n ≤ cap) (h : CAt w G s S) (hA : s.Ar) (hG : s.Good) (hn : s.n < 4611686018427000000) (hb : IsB w bo b) (hd : b = [] ∨ ∀ B off, bo = some ⟨B, off, none⟩ → B ∉ G.blocks) :
    Calls Tryz.prog 16 #[.pointer (some ⟨G.g, 0, none⟩), .int .i64 a, .slice bo n cap] w (CPost G (s.awrite a b).1 (s.awrite a b).2 w) := by
  have HASK : Hid (∀ W, W = w → Calls Tryz.prog 36 #[.pointer (some ⟨G.g, 0, none⟩), .int .i64 a] W fun e w' => e = .returned (.int .i64 (s.areaE a)) ∧ w' = W) := by
    rintro W rfl
    exact arask_any G s S a W h
  have HST : Hid (∀ W, Below w.heap.size w W → (∃ S', CAt W G s S') ∧ KeptL G.blocks w W) := fun W hW => ⟨⟨S, h.below hW (Nat.le_refl _)⟩, (KeptL.refl _ _).below hW (Nat.le_refl _)⟩
  by_cases h0 : s.areaE a = 0
  · obtain ⟨hg, ha⟩ := areaE_zero h0
    have HAW : Hid (s.awrite a b = if b.length = 0 then (s, 1) else if s.c.asize < b.length then (s, 4) else if s.aworn a = true then (s, 9) else s.wr1 a b) := by show _ = _; unfold RS.awrite; rw [if_pos h0]
    rw [h0] at HASK
    have HCF : Hid (∀ W, W = w → Calls Tryz.prog 37 #[.pointer (some ⟨G.g, 0, none⟩)] W fun e w' => e = .returned (.agg s.c.vals.toArray) ∧ Below W.heap.size W w') := by
      rintro W rfl
      exact cconfig_any G s S W h
    have HSZ : Hid (∀ W, Calls Tryz.prog 7 #[.agg s.c.vals.toArray] W fun e w' => e = .returned (.int .i64 s.c.asize) ∧ Below W.heap.size W w') := fun W => arsize_any s.c W
    by_cases hn0 : n = 0
    · have HE : Hid (s.awrite a b = (s, 1)) := by show _ = _; rw [HAW.out, hb0, if_pos hn0]
      subst hn0
      generalize s.awrite a b = R at *
      clear HAW
      go_enter Tryz.func16, Tryz.ntmps16
      go_wp2_with (refine (HASK.out _ rfl).mono ?_; rintro e w1 ⟨rfl, rfl⟩)
      go_ret
      rw [HE.out]
      exact ⟨rfl, HST.out _ (Below.refl _ _)⟩
    have hn1 : ((n : Int) == 0) = false := by rw [beq_eq_false_iff_ne]; omega
    by_cases hbig : s.c.asize < n
    · have HE : Hid (s.awrite a b = (s, 4)) := by show _ = _; rw [HAW.out, hb0, if_neg hn0, if_pos hbig]
      generalize s.awrite a b = R at *
      generalize s.c.asize = AS at *
      generalize s.c.vals = CV at *
      have hb1 : (n : Int) > AS := hbig
      clear HAW
      go_enter Tryz.func16, Tryz.ntmps16
      go_wp2_with (first | (refine (HASK.out _ rfl).mono ?_; rintro e w1 ⟨rfl, rfl⟩) | (refine (HCF.out _ rfl).mono ?_; rintro e w2 ⟨rfl, hb2⟩) | (refine (HSZ.out _).mono ?_; rintro e w3 ⟨rfl, hb3⟩))
      go_ret
      rw [HE.out]
      exact ⟨rfl, HST.out _ (hb2.trans (hb3.mono hb2.size))⟩
    have hb1 : ¬ (n : Int) > s.c.asize := hbig
    have HUS : Hid (∀ W, Below w.heap.size w W → Calls Tryz.prog 38 #[.pointer (some ⟨G.g, 0, none⟩), .int .i64 a] W fun e w' => ∃ v, e = .returned (.tuple #[v, .int .i64 0]) ∧ Pgs w.heap.size w' v (usedL s a 0 s.c.area.toNat) ∧ Below w.heap.size w w') := fun W hW => (arused_any G s S a W (h.below hW (Nat.le_refl _)) hA hg ha).mono fun e w' ⟨v, e1, h1, h2⟩ => ⟨v, e1, by
      obtain ⟨ao, c, e2, hx⟩ := h1.pgs
      exact ⟨ao, c, e2, fun j q hq => by
        obtain ⟨g, x1, x2, x3⟩ := hx j q hq
        exact ⟨g, x1, Nat.le_trans hW.size x2, x3⟩⟩, hW.trans (h2.mono hW.size)⟩
    have har := hA.area
    have hUL : (usedL s a 0 s.c.area.toNat).length ≤ 64 := by have := usedL_len s a s.c.area.toNat 0; omega
    have hUM : ∀ q ∈ usedL s a 0 s.c.area.toNat, q < s.pages.length := fun q hq => by
      obtain ⟨j, _, hj, e⟩ := usedL_mem _ _ q hq
      rw [e]; exact (hA.pg ha (by omega)).2.1
    have HAN : Hid (∀ W v, Below w.heap.size w W → Pgs w.heap.size W v (usedL s a 0 s.c.area.toNat) → Calls Tryz.prog 39 #[.pointer (some ⟨G.g, 0, none⟩), v] W fun e w' => e = .returned (.tuple #[.bool (s.aworn a), .int .i64 0]) ∧ Below W.heap.size W w') := fun W v hW hv => by
      have := aranyWorn_any G s S w.heap.size v _ W (h.below hW (Nat.le_refl _)) hA hg hv hUM hUL
      rw [← aworn_used] at this
      exact this
    by_cases hwn : s.aworn a = true
    · have HE : Hid (s.awrite a b = (s, 9)) := by show _ = _; rw [HAW.out, hb0, if_neg hn0, if_neg hbig, if_pos hwn]
      rw [hwn] at HAN
      generalize usedL s a 0 s.c.area.toNat = U at *
      generalize s.awrite a b = R at *
      generalize s.c.asize = AS at *
      generalize s.c.vals = CV at *
      clear HAW hbig
      go_enter Tryz.func16, Tryz.ntmps16
      go_wp2_with (first | (refine (HASK.out _ rfl).mono ?_; rintro e w1 ⟨rfl, rfl⟩) | (refine (HCF.out _ rfl).mono ?_; rintro e w2 ⟨rfl, hb2⟩) | (refine (HSZ.out _).mono ?_; rintro e w3 ⟨rfl, hb3⟩; have bb3 := hb2.trans (hb3.mono hb2.size)))
      refine (HUS.out _ bb3).mono ?_
      rintro e w4 ⟨v, rfl, hv4, hb4⟩
      dsimp only
      go_wp2_with fail
      refine (HAN.out _ v hb4 hv4).mono ?_
      rintro e w5 ⟨rfl, hb5⟩
      dsimp only
      go_wp2
      go_ret
      rw [HE.out]
      exact ⟨rfl, HST.out _ (hb4.trans (hb5.mono hb4.size))⟩
    · have hwf : s.aworn a = false := by simpa using hwn
      rw [hwf] at HAN
      have HE1 : Hid (s.awrite a b = if (eraseGo a s.c.area.toNat 0 s).2 = 0 then (eraseGo a s.c.area.toNat 0 s).1.wr2 a b else eraseGo a s.c.area.toNat 0 s) := by show _ = _; rw [HAW.out, hb0, if_neg hn0, if_neg hbig, if_neg hwn]; rfl
      have hE := ego ha s.c.area.toNat 0 s hA hg (by omega) fun j _ hj => by
        unfold RS.aworn at hwf
        rw [List.any_eq_false] at hwf
        simpa using hwf j (List.mem_range.2 (by omega))
      have hGd := eraseGo_good (a := a) s.c.area.toNat 0 s hG
      have HER : Hid (∀ W v, Below w.heap.size w W → Pgs w.heap.size W v (usedL s a 0 s.c.area.toNat) → Calls Tryz.prog 40 #[.pointer (some ⟨G.g, 0, none⟩), v] W (CPost G (eraseGo a s.c.area.toNat 0 s).1 (eraseGo a s.c.area.toNat 0 s).2 W)) := fun W v hW hv => by
        rw [eraseGo_eq ha s.c.area.toNat 0 s hA hg (by omega)]
        exact arerase_any G s S w.heap.size h.blt v _ W (h.below hW (Nat.le_refl _)) hA hG hg (by omega) hv hUM hUL
      have HKM : Hid ((n + 31) / 32 ≤ s.c.area.toNat * s.c.cells.toNat) := by
        show _ ≤ _
        have hce := hA.cells
        have e1 := hA.asize
        have hMC : ((s.c.area.toNat * s.c.cells.toNat : Nat) : Int) = s.c.area * s.c.cells := by rw [Int.natCast_mul]; congr 1 <;> omega
        generalize s.c.area.toNat * s.c.cells.toNat = Z at *
        rw [e1, ← hMC] at hbig
        omega
      have HPR : Hid (∀ W s1 S1, s1 = (eraseGo a s.c.area.toNat 0 s).1 → (eraseGo a s.c.area.toNat 0 s).2 = 0 → CAt W G s1 S1 → KeptL G.blocks w W → Calls Tryz.prog 41 #[.pointer (some ⟨G.g, 0, none⟩), .int .i64 a, .slice bo n cap] W (CPost G (s1.wr2 a b).1 (s1.wr2 a b).2 W)) := fun W s1 S1 e1 e0 c kl => by
        subst e1
        have hg1 : (eraseGo a s.c.area.toNat 0 s).1.gone = false := by
          rcases hE.e with h1 | h1
          · exact h1.2.1
          · rw [e0] at h1; omega
        have hn1 := hGd.2
        exact arprogram_any G _ S1 a ha bo n cap b hb0 (by omega) hn47 hcap W c hE.ar hGd.1 hg1 (by omega) (h.dis hb hd kl) hd (by rw [hE.c]; exact HKM.out)
      generalize eraseGo a s.c.area.toNat 0 s = R1 at *
      generalize usedL s a 0 s.c.area.toNat = U at *
      generalize s.awrite a b = R at *
      generalize s.c.asize = AS at *
      generalize s.c.vals = CV at *
      obtain ⟨s1, E1⟩ := R1
      simp only at HE1 HER HPR
      clear HAW hbig hE hGd hA hG hb hd h hn0 hwn hwf hUL hUM har HKM hb0 h0
      go_enter Tryz.func16, Tryz.ntmps16
      go_wp2_with (first | (refine (HASK.out _ rfl).mono ?_; rintro e w1 ⟨rfl, rfl⟩) | (refine (HCF.out _ rfl).mono ?_; rintro e w2 ⟨rfl, hb2⟩) | (refine (HSZ.out _).mono ?_; rintro e w3 ⟨rfl, hb3⟩; have bb3 := hb2.trans (hb3.mono hb2.size)))
      refine (HUS.out _ bb3).mono ?_
      rintro e w4 ⟨v, rfl, hv4, hb4⟩
      dsimp only
      have HV4 : Hid (Pgs w1.heap.size w4 v U) := hv4
      have HB4 : Hid (Below w1.heap.size w1 w4) := hb4
      clear hv4 hb4 hb2 hb3 bb3 HUS HCF HSZ
      go_wp2_with fail
      refine (HAN.out _ v HB4.out HV4.out).mono ?_
      rintro e w5 ⟨rfl, hb5⟩
      dsimp only
      have HV5 : Hid (Pgs w1.heap.size w5 v U) := HV4.out.below hb5
      have HB5 : Hid (Below w1.heap.size w1 w5) := HB4.out.trans (hb5.mono HB4.out.size)
      clear hb5 HV4 HB4 HAN
      go_wp2_with fail
      refine (HER.out _ v HB5.out HV5.out).mono ?_
      rintro e w6 ⟨rfl, c6, k6⟩
      dsimp only
      have HK6 : Hid (KeptL G.blocks w1 w6) := (HST.out _ HB5.out).2.trans k6
      have HC6 : Hid (∃ S', CAt w6 G s1 S') := c6
      clear c6 k6 HV5 HB5 HER
      by_cases he1 : E1 = 0
      · have HF : Hid (R = s1.wr2 a b) := by show _ = _; rw [HE1.out, if_pos he1]
        have HPR2 : Hid (∀ W S1, CAt W G s1 S1 → KeptL G.blocks w1 W → Calls Tryz.prog 41 #[.pointer (some ⟨G.g, 0, none⟩), .int .i64 a, .slice bo n cap] W (CPost G (s1.wr2 a b).1 (s1.wr2 a b).2 W)) := fun W S1 c kl => HPR.out W s1 S1 rfl he1 c kl
        subst he1
        clear HE1 HPR
        generalize s1.wr2 a b = R2 at *
        go_wp2_with fail
        obtain ⟨S6, c6⟩ := HC6.out
        refine (HPR2.out _ S6 c6 HK6.out).mono ?_
        rintro e w7 ⟨rfl, c7, k7⟩
        dsimp only
        go_wp2
        go_ret
        rw [HF.out]
        exact ⟨rfl, c7, HK6.out.trans k7⟩
      · have HF : Hid (R = (s1, E1)) := by show _ = _; rw [HE1.out, if_neg he1]
        have hq : (E1 != 0) = true := by simpa using he1
        clear HE1 HPR
        go_wp2
        go_ret
        rw [HF.out]
        exact ⟨rfl, HC6.out, HK6.out⟩
  · have HE : Hid (s.awrite a b = (s, s.areaE a)) := by show _ = _; unfold RS.awrite; rw [if_neg h0]
    have hq : (s.areaE a != 0) = true := by simpa using h0
    generalize s.awrite a b = R at *
    generalize s.areaE a = E at *
    go_enter Tryz.func16, Tryz.ntmps16
    go_wp2_with (refine (HASK.out _ rfl).mono ?_; rintro e w1 ⟨rfl, rfl⟩)
    go_ret
    rw [HE.out]
    exact ⟨rfl, HST.out _ (Below.refl _ _)⟩

set_option maxHeartbeats 4000000 in
set_option maxRecDepth 100000 in
theorem arworn_any (G : RF) (s : RS) (S : ByteArray) (a : Int) (w : World) (h : CAt w G s S) (hA : s.Ar) :
    Calls Tryz.prog 29 #[.pointer (some ⟨G.g, 0, none⟩), .int .i64 a] w fun e w' => e = .returned (.tuple #[.bool (if s.areaE a = 0 then s.aworn a else false), .int .i64 (s.areaE a)]) ∧ Below w.heap.size w w' := by
  have HASK : Hid (∀ W, W = w → Calls Tryz.prog 36 #[.pointer (some ⟨G.g, 0, none⟩), .int .i64 a] W fun e w' => e = .returned (.int .i64 (s.areaE a)) ∧ w' = W) := by
    rintro W rfl
    exact arask_any G s S a W h
  by_cases h0 : s.areaE a = 0
  · obtain ⟨hg, ha⟩ := areaE_zero h0
    rw [h0] at HASK
    rw [if_pos h0, h0]
    have HUS : Hid (∀ W, W = w → Calls Tryz.prog 38 #[.pointer (some ⟨G.g, 0, none⟩), .int .i64 a] W fun e w' => ∃ v, e = .returned (.tuple #[v, .int .i64 0]) ∧ Pgs w.heap.size w' v (usedL s a 0 s.c.area.toNat) ∧ Below w.heap.size w w') := by
      rintro W rfl
      exact (arused_any G s S a W h hA hg ha).mono fun e w' ⟨v, e1, h1, h2⟩ => ⟨v, e1, h1.pgs, h2⟩
    have har := hA.area
    have hUL : (usedL s a 0 s.c.area.toNat).length ≤ 64 := by have := usedL_len s a s.c.area.toNat 0; omega
    have hUM : ∀ q ∈ usedL s a 0 s.c.area.toNat, q < s.pages.length := fun q hq => by
      obtain ⟨j, _, hj, e⟩ := usedL_mem _ _ q hq
      rw [e]; exact (hA.pg ha (by omega)).2.1
    have HAN : Hid (∀ W v, Below w.heap.size w W → Pgs w.heap.size W v (usedL s a 0 s.c.area.toNat) → Calls Tryz.prog 39 #[.pointer (some ⟨G.g, 0, none⟩), v] W fun e w' => e = .returned (.tuple #[.bool (s.aworn a), .int .i64 0]) ∧ Below W.heap.size W w') := fun W v hW hv => by
      have := aranyWorn_any G s S w.heap.size v _ W (h.below hW (Nat.le_refl _)) hA hg hv hUM hUL
      rw [← aworn_used] at this
      exact this
    generalize s.aworn a = B at *
    generalize usedL s a 0 s.c.area.toNat = U at *
    clear h hA
    go_enter Tryz.func29, Tryz.ntmps29
    go_wp2_with (refine (HASK.out _ rfl).mono ?_; rintro e w1 ⟨rfl, rfl⟩)
    refine (HUS.out _ rfl).mono ?_
    rintro e w4 ⟨v, rfl, hv4, hb4⟩
    dsimp only
    go_wp2_with fail
    refine (HAN.out _ v hb4 hv4).mono ?_
    rintro e w5 ⟨rfl, hb5⟩
    dsimp only
    go_wp2
    go_ret2
    exact ⟨rfl, hb4.trans (hb5.mono hb4.size)⟩
  · rw [if_neg h0]
    have hq : (s.areaE a != 0) = true := by simpa using h0
    generalize s.areaE a = E at *
    go_enter Tryz.func29, Tryz.ntmps29
    go_wp2_with (refine (HASK.out _ rfl).mono ?_; rintro e w1 ⟨rfl, rfl⟩)
    go_ret2
    exact ⟨rfl, Below.refl _ _⟩
end Go.Proofs.YtcpdanjbnijoiaaGreatDoor


/-! The code's leaves: copied, Body, lay, fits, number, may. -/
namespace Go.Proofs.YtcpdanjbnijoiaaGreatDoor
open Go.RowKit
set_option linter.unusedVariables false

set_option maxHeartbeats 1000000 in
set_option maxRecDepth 100000 in
theorem copied_any (ao : Option Addr) (n cap : Nat) (b : List By) (hb0 : b.length = n) (w : World) (hb : IsB w ao b) (hl : n ≤ 140737488353280) :
    Calls Tryz.prog 79 #[.slice ao n cap] w fun e w' => e = .returned (.slice (some ⟨w.heap.size, 0, none⟩) n n) ∧ Own w.heap.size w' (.slice (some ⟨w.heap.size, 0, none⟩) n n) b ∧ Below w.heap.size w w' := by
  have HB : Hid (IsB w ao b) := hb
  have HB0 : Hid (b.length = n) := hb0
  clear hb hb0
  go_enter Tryz.func79, Tryz.ntmps79
  go_wp2_with (first
    | (refine wpList_make_rowN rfl _ _ rfl .i64 .i64 _ _ n rfl rfl rfl rfl (by omega) ?_; intro w2 hr2 hb2 hz2)
    | (refine wpList_copy_to rfl (.tmp 7) (.tmp 8) rfl w.heap.size 0 n n ao n cap rfl rfl (Nat.le_refl _) (List.replicate n 0) hr2 b HB0.out (HB.out.below hb2 (Nat.le_refl _)) (by simp) ?_; intro w3 hr3 hs3))
  have e : splice (List.replicate n (0 : By)) 0 b = b := by simp [splice, HB0.out]
  rw [e] at hr3
  go_ret
  exact ⟨rfl, own_row hr3 (Nat.le_refl _) n HB0.out (by omega), hs3.below hb2 (Nat.le_refl _)⟩

/-- The four stores of a number, the lowest byte first. -/
def putL (w : World) (B off n : Nat) : World :=
  ((((w.setCell ⟨B, off, none⟩ (B8 (BitVec.ofNat 8 n))).setCell ⟨B, off + 1, none⟩ (B8 (BitVec.ofNat 8 (n / 256)))).setCell ⟨B, off + 2, none⟩ (B8 (BitVec.ofNat 8 (n / 65536)))).setCell ⟨B, off + 3, none⟩ (B8 (BitVec.ofNat 8 (n / 16777216))))
theorem bn8 (n d : Nat) : B8 (BitVec.ofNat 8 (n / d)) = .int .u8 ((n : Int) / (d : Int) % 256) := by unfold B8; rw [← by1 n d]
theorem bn8' (n : Nat) : B8 (BitVec.ofNat 8 n) = .int .u8 ((n : Int) % 256) := by unfold B8; rw [← by0 n]

set_option maxHeartbeats 1000000 in
set_option maxRecDepth 100000 in
theorem fits_anyi (i : Nat) (h8 : i < 8) (c : By) (w : World) : Calls Tryz.prog 88 #[.int .i64 i, .int .u8 (c.toNat : Int)] w fun e w' => e = .returned (.bool (mst i c.toNat)) ∧ w' = w := by
  have hc := c.isLt
  simp only [Nat.reducePow] at hc
  generalize c.toNat = x at *
  have h9 : i = 0 ∨ i = 1 ∨ i = 2 ∨ i = 3 ∨ i = 4 ∨ i = 5 ∨ i = 6 ∨ i = 7 := by omega
  clear h8
  rcases h9 with rfl | rfl | rfl | rfl | rfl | rfl | rfl | rfl
  all_goals
    go_enter Tryz.func88, Tryz.ntmps88
    go_wp2
    go_ret
    refine ⟨?_, rfl⟩
    congr 2
    simp [mst]
    try first | exact nat_beq x 80 | exact nat_beq x 67 | exact nat_beq x 85 | exact nat_beq x 76 | exact nat_beq x 1 | exact nat_beq x 0 | omega

theorem orU64 (a b : Nat) (ha : a < 4294967296) (hb : b < 4294967296) : bits .or .u64 (a : Int) (b : Int) = ((a ||| b : Nat) : Int) := by
  have h := Nat.or_lt_two_pow (n := 32) ha hb
  simp only [Nat.reducePow] at h
  have e : 2 ^ IntKind.u64.bits = 18446744073709551616 := rfl
  simp [bits]
  rw [e, Nat.mod_eq_of_lt (by omega), Nat.mod_eq_of_lt (by omega)]
  have e2 : IntKind.u64.wrap ((a ||| b : Nat) : Int) = ((a ||| b : Nat) : Int) % 18446744073709551616 := rfl
  rw [e2]; omega
theorem num_formU (x0 x1 x2 x3 : Nat) (h0 : x0 < 256) (h1 : x1 < 256) (h2 : x2 < 256) (h3 : x3 < 256) :
    bits .or .u64 (bits .or .u64 (bits .or .u64 (bits .or .u64 0 (x0 : Int)) ((x1 : Int) * 256)) ((x2 : Int) * 65536)) ((x3 : Int) * 16777216) = ((x0 + x1 * 256 + x2 * 65536 + x3 * 16777216 : Nat) : Int) := by
  have q := or_num x0 x1 x2 x3 h0 h1 h2
  have l1 : x0 ||| x1 * 256 < 2 ^ 32 := Nat.or_lt_two_pow (by simp only [Nat.reducePow]; omega) (by simp only [Nat.reducePow]; omega)
  have l2 : (x0 ||| x1 * 256) ||| x2 * 65536 < 2 ^ 32 := Nat.or_lt_two_pow l1 (by simp only [Nat.reducePow]; omega)
  simp only [Nat.reducePow] at l1 l2
  have a0 : bits .or .u64 0 (x0 : Int) = ((0 ||| x0 : Nat) : Int) := orU64 0 x0 (by omega) (by omega)
  rw [a0, Nat.zero_or]
  have a1 : bits .or .u64 (x0 : Int) ((x1 : Int) * 256) = ((x0 ||| x1 * 256 : Nat) : Int) := by
    have := orU64 x0 (x1 * 256) (by omega) (by omega); rw [← this]; congr 1
  rw [a1]
  have a2 : bits .or .u64 ((x0 ||| x1 * 256 : Nat) : Int) ((x2 : Int) * 65536) = (((x0 ||| x1 * 256) ||| x2 * 65536 : Nat) : Int) := by
    have := orU64 (x0 ||| x1 * 256) (x2 * 65536) l1 (by omega); rw [← this]; congr 1
  rw [a2]
  have a3 : bits .or .u64 (((x0 ||| x1 * 256) ||| x2 * 65536 : Nat) : Int) ((x3 : Int) * 16777216) = ((((x0 ||| x1 * 256) ||| x2 * 65536) ||| x3 * 16777216 : Nat) : Int) := by
    have := orU64 ((x0 ||| x1 * 256) ||| x2 * 65536) (x3 * 16777216) l2 (by omega); rw [← this]; congr 1
  rw [a3, q]

set_option maxHeartbeats 1000000 in
set_option maxRecDepth 100000 in
theorem cnumber_any (B off cap : Nat) (b : List By) (h4 : 4 ≤ b.length) (w : World) (hb : ∀ j v, b[j]? = some v → w.cell? ⟨B, off + j, none⟩ = some (B8 v)) :
    Calls Tryz.prog 78 #[.slice (some ⟨B, off, none⟩) 4 cap] w fun e w' => e = .returned (.int .u64 (num4 b)) ∧ w' = w := by
  have c : ∀ j, j < b.length → w.cell? ⟨B, off + j, none⟩ = some (.int .u8 ((b.getD j 0).toNat : Int)) := fun j hj => by
    rw [hb j b[j] (List.getElem?_eq_getElem (by omega)), getD_lt (by omega)]; rfl
  have c0 := c 0 (by omega); have c1 := c 1 (by omega); have c2 := c 2 (by omega); have c3 := c 3 (by omega)
  have h0 := (b.getD 0 0).isLt; have h1 := (b.getD 1 0).isLt; have h2 := (b.getD 2 0).isLt; have h3 := (b.getD 3 0).isLt
  simp only [Nat.reducePow] at h0 h1 h2 h3
  have HN : Hid (num4 b = (b.getD 0 0).toNat + (b.getD 1 0).toNat * 256 + (b.getD 2 0).toNat * 65536 + (b.getD 3 0).toNat * 16777216) := rfl
  rw [Nat.add_zero] at c0
  clear c hb h4
  generalize (b.getD 0 0).toNat = x0 at *
  generalize (b.getD 1 0).toNat = x1 at *
  generalize (b.getD 2 0).toNat = x2 at *
  generalize (b.getD 3 0).toNat = x3 at *
  go_enter Tryz.func78, Tryz.ntmps78
  go_wp2
  refine wp_loop_rounds 5 ?_
  rw [rounds_succ]
  go_wp2
  rw [rounds_succ]
  go_wp2
  rw [rounds_succ]
  go_wp2
  rw [rounds_succ]
  go_wp2
  rw [rounds_succ]
  go_wp2
  go_ret
  refine ⟨?_, rfl⟩
  rw [HN.out, ← num_formU x0 x1 x2 x3 h0 h1 h2 h3]
  rfl

end Go.Proofs.YtcpdanjbnijoiaaGreatDoor
