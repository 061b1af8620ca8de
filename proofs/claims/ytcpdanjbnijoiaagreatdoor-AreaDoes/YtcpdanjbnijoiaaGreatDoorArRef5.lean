import Derived.Test.YtcpdanjbnijoiaaGreatDoorArRef3

/-! Layer 14, the document's answer: Write. -/
namespace Go.Proofs.YtcpdanjbnijoiaaGreatDoor
open Go.RowKit
set_option linter.unusedVariables false

theorem eraseGo_good {a : Int} : ∀ (m p : Nat) (s : RS), s.Good → (eraseGo a m p s).1.Good ∧ (eraseGo a m p s).1.n ≤ s.n + m
  | 0, _, s, h => ⟨h, by show s.n ≤ _; omega⟩
  | m + 1, p, s, h => by
    unfold eraseGo
    split
    · have := eraseGo_good (a := a) m (p + 1) s h
      exact ⟨this.1, by omega⟩
    · obtain ⟨g1, g2⟩ := h.erase ((s.pgN a p : Nat) : Int)
      split
      · have := eraseGo_good (a := a) m (p + 1) _ g1
        exact ⟨this.1, by omega⟩
      · exact ⟨g1, by show (s.erase _).n ≤ _; omega⟩
theorem layGo_good {a : Int} {b : List By} : ∀ (m k : Nat) (s : RS), s.Good → (layGo a b m k s).1.Good ∧ (layGo a b m k s).1.n ≤ s.n + m
  | 0, _, s, h => ⟨h, by show s.n ≤ _; omega⟩
  | m + 1, k, s, h => by
    unfold layGo
    obtain ⟨g1, g2⟩ := h.program ((s.pgN a (k / s.c.cells.toNat) : Nat) : Int) ((k % s.c.cells.toNat : Nat) : Int) (cellOf b k)
    have g3 : (s.layC a b k).Good := g1
    have g4 : (s.layC a b k).n ≤ s.n + 1 := g2
    split
    · have := layGo_good (a := a) (b := b) m (k + 1) _ g3
      exact ⟨this.1, by omega⟩
    · exact ⟨g3, by show (s.layC a b k).n ≤ _; omega⟩
theorem erase_c (s : RS) (p : Int) : (s.erase p).c = s.c := by unfold RS.erase; split <;> rfl
theorem RS.Ar.erase {s : RS} (h : s.Ar) (hg : s.gone = false) {q : Nat} (hq : q < s.pages.length) : (s.erase (q : Int)).Ar := by
  by_cases hw : s.erases.getD q 0 < s.c.erases
  · have F := era_f h hg hq hw
    obtain ⟨pg, f1, f2, f3, _⟩ := F.pg
    exact h.setPage _ q hq pg f2 f3 F.c f1 (by rw [F.er, List.length_set]) (by rw [F.bl])
  · have e : s.erase (q : Int) = s := by unfold RS.erase; rw [if_neg (by rw [Int.toNat_natCast]; omega)]
    rw [e]; exact h

/-- What stands between two rounds of the erases: s' at the page p, all that is still to come makes R. -/
structure Ez (a : Int) (M : Nat) (R : RS × Int) (s0 s' : RS) (p : Nat) (e : Int) : Prop where
  ar : s'.Ar
  good : s'.Good
  c : s'.c = s0.c
  n : s'.n ≤ s0.n + p
  e0 : e = 0
  g : s'.gone = false
  go : eraseGo a (M - p) p s' = R
/-- And of the cells. -/
structure Lz (a : Int) (b : List By) (K : Nat) (R : RS × Int) (s0 s' : RS) (k : Nat) : Prop where
  ar : s'.Ar
  good : s'.Good
  c : s'.c = s0.c
  n : s'.n ≤ s0.n + k
  g : s'.gone = false
  go : layGo a b (K - k) k s' = R

theorem layC_c (s : RS) (a : Int) (b : List By) (k : Nat) : (s.layC a b k).c = s.c := by unfold RS.layC; exact program_c _ _ _ _
theorem RS.Ar.lay {s : RS} (h : s.Ar) (hg : s.gone = false) {a : Int} (ha : a = 0 ∨ a = 1) (b : List By) {k : Nat} (hk : k < s.c.area.toNat * s.c.cells.toNat) : (s.layC a b k).Ar ∧ ((s.layE a k = 0 ∧ (s.layC a b k).gone = false) ∨ (s.layE a k = 8)) := by
  have hc := h.cells
  have hkc : k / s.c.cells.toNat < s.c.area.toNat := Nat.div_lt_of_lt_mul (by rw [Nat.mul_comm]; exact hk)
  have hkm : k % s.c.cells.toNat < s.c.cells.toNat := Nat.mod_lt _ (by omega)
  obtain ⟨hp1, hp2, hp3⟩ := h.pg ha hkc
  have F : PrgF s (s.pgN a (k / s.c.cells.toNat)) (k % s.c.cells.toNat) (cellOf b k) (s.layC a b k) (s.layE a k) := prg_f h hg hp2 (k := k % s.c.cells.toNat) (by omega) (cellOf b k)
  obtain ⟨y, f1, f2, f3⟩ := F.pg
  refine ⟨h.setPage _ _ hp2 ((s.pages.getD (s.pgN a (k / s.c.cells.toNat)) []).set (k % s.c.cells.toNat) y) (by rw [List.length_set]) (fun x hx => by
    rcases List.mem_or_eq_of_mem_set hx with h1 | rfl
    · exact h.by8 hp2 x h1
    · exact f2) F.c f1 (by rw [F.er]) (by rw [F.bl]), ?_⟩
  rcases F.e with h1 | h1
  · exact .inl h1
  · exact .inr h1.1
end Go.Proofs.YtcpdanjbnijoiaaGreatDoor


/-! Layer 14, the document's answer: Write. -/
namespace Go.Proofs.YtcpdanjbnijoiaaGreatDoor
open Go.RowKit
set_option linter.unusedVariables false

theorem eraseE_zero {s : RS} (h : s.Ar) (hg : s.gone = false) {q : Nat} (hq : q < s.pages.length) (he : s.eraseE (q : Int) = 0) : (s.erase (q : Int)).gone = false := by
  by_cases hw : s.erases.getD q 0 < s.c.erases
  · have F := era_f h hg hq hw
    rcases F.e with h1 | h1
    · exact h1.2
    · rw [he] at h1; omega
  · have h0 : s.at (q : Int) 0 = 0 := at_of (c := 0) hg hq (by have := h.cells; omega)
    unfold RS.eraseE at he
    rw [if_pos h0, if_pos (by rw [Int.toNat_natCast]; omega)] at he
    omega
theorem RAt.dis {w : World} {F : RF} {s : RS} (h : RAt w F s) {bo : Option Addr} {b : List By} (hb : IsB w bo b) (hd : b = [] ∨ ∀ B off, bo = some ⟨B, off, none⟩ → B ∉ F.blocks) {w' : World} (k : KeptL F.blocks w w') : IsB w' bo b := by
  refine isb_keep hb fun B off hne e => ?_
  rcases hd with h1 | h1
  · exact absurd h1 hne
  · refine k.block B ?_ (h1 B off e)
    rcases hb with h2 | ⟨B', off', e2, hc⟩
    · exact absurd h2 hne
    · rw [e] at e2; injection e2 with e2; injection e2 with e3 e4
      subst e3 e4
      cases b with
      | nil => exact absurd rfl hne
      | cons x r => exact World.block_lt_of_cell? _ _ (hc 0 x rfl)

theorem ez_blank {a : Int} {M p : Nat} {R : RS × Int} {s0 s' : RS} (h : Ez a M R s0 s' p 0) (hp : p < M) (hb : isBlank (s'.pages.getD (s'.pgN a p) []) = true) : Ez a M R s0 s' (p + 1) 0 := by
  refine ⟨h.ar, h.good, h.c, by have := h.n; omega, rfl, h.g, ?_⟩
  rw [← h.go, show M - p = (M - (p + 1)) + 1 by omega]
  conv => rhs; unfold eraseGo
  rw [if_pos hb]
theorem ez_next {a : Int} (ha : a = 0 ∨ a = 1) {M p : Nat} {R : RS × Int} {s0 s' : RS} (h : Ez a M R s0 s' p 0) (hM : s0.c.area.toNat = M) (hp : p < M) (hb : isBlank (s'.pages.getD (s'.pgN a p) []) = false) (he : s'.eraseE ((s'.pgN a p : Nat) : Int) = 0) : Ez a M R s0 (s'.erase ((s'.pgN a p : Nat) : Int)) (p + 1) 0 := by
  obtain ⟨p1, p2, p3⟩ := h.ar.pg ha (p := p) (by rw [h.c, hM]; exact hp)
  obtain ⟨g1, g2⟩ := h.good.erase ((s'.pgN a p : Nat) : Int)
  refine ⟨h.ar.erase h.g p2, g1, (erase_c _ _).trans h.c, by have := h.n; omega, rfl, eraseE_zero h.ar h.g p2 he, ?_⟩
  rw [← h.go, show M - p = (M - (p + 1)) + 1 by omega]
  conv => rhs; unfold eraseGo
  rw [if_neg (by rw [hb]; decide), if_pos he]
theorem ez_out {a : Int} {M p : Nat} {R : RS × Int} {s0 s' : RS} (h : Ez a M R s0 s' p 0) (hp : p < M) (hb : isBlank (s'.pages.getD (s'.pgN a p) []) = false) (he : ¬ s'.eraseE ((s'.pgN a p : Nat) : Int) = 0) : R = (s'.erase ((s'.pgN a p : Nat) : Int), s'.eraseE ((s'.pgN a p : Nat) : Int)) := by
  rw [← h.go, show M - p = (M - (p + 1)) + 1 by omega]
  conv => lhs; unfold eraseGo
  rw [if_neg (by rw [hb]; decide), if_neg he]
theorem lz_next {a : Int} (ha : a = 0 ∨ a = 1) {b : List By} {K k : Nat} {R : RS × Int} {s0 s' : RS} (h : Lz a b K R s0 s' k) (hK : K ≤ s0.c.area.toNat * s0.c.cells.toNat) (hk : k < K) (he : s'.layE a k = 0) : Lz a b K R s0 (s'.layC a b k) (k + 1) := by
  obtain ⟨l1, l2⟩ := h.ar.lay h.g ha b (k := k) (by rw [h.c]; omega)
  obtain ⟨g1, g2⟩ := h.good.program ((s'.pgN a (k / s'.c.cells.toNat) : Nat) : Int) ((k % s'.c.cells.toNat : Nat) : Int) (cellOf b k)
  have g3 : (s'.layC a b k).Good := g1
  have g4 : (s'.layC a b k).n ≤ s'.n + 1 := g2
  refine ⟨l1, g3, (layC_c _ _ _ _).trans h.c, by have := h.n; omega, ?_, ?_⟩
  · rcases l2 with h1 | h1
    · exact h1.2
    · omega
  · rw [← h.go, show K - k = (K - (k + 1)) + 1 by omega]
    conv => rhs; unfold layGo
    rw [if_pos he]
theorem lz_out {a : Int} {b : List By} {K k : Nat} {R : RS × Int} {s0 s' : RS} (h : Lz a b K R s0 s' k) (hk : k < K) (he : ¬ s'.layE a k = 0) : R = (s'.layC a b k, s'.layE a k) := by
  rw [← h.go, show K - k = (K - (k + 1)) + 1 by omega]
  conv => lhs; unfold layGo
  rw [if_neg he]

set_option maxHeartbeats 2000000 in
set_option maxRecDepth 100000 in
theorem r14write_any (F : RF) (s : RS) (a : Int) (bo : Option Addr) (n cap : Nat) (b : List By) (hb0 : b.length = n) (hbn : n ≤ 140737488355328) (w : World) (h : RAt w F s) (hA : s.Ar) (hG : s.Good) (hn : s.n < 4611686018427000000)
    (hb : IsB w bo b) (hd : b = [] ∨ ∀ B off, bo = some ⟨B, off, none⟩ → B ∉ F.blocks) :
    Calls Tryz.prog 27 #[.pointer (some ⟨F.g, 0, none⟩), .int .i64 a, .slice bo n cap] w fun e w' => e = .returned (.int .i64 (s.awrite a b).2) ∧ RAt w' F (s.awrite a b).1 ∧ KeptL F.blocks w w' := by
  have WN := r14worn_any F s a w h hA
  have HR0 : Hid (RAt w F s) := h
  have HAW : Hid (s.awrite a b = if s.areaE a = 0 then (if b.length = 0 then (s, 1) else if s.c.asize < b.length then (s, 4) else if s.aworn a = true then (s, 9) else s.wr1 a b) else (s, s.areaE a)) := rfl
  have HKB : Hid (∀ W, Below w.heap.size w W → KeptL F.blocks w W) := fun W hW => (KeptL.refl _ _).below hW (Nat.le_refl _)
  rw [hb0] at HAW
  generalize s.awrite a b = R at *
  by_cases h0 : s.areaE a = 0
  · rw [if_pos h0] at WN
    rw [h0] at WN
    obtain ⟨hg, ha⟩ := areaE_zero h0
    have HAW2 : Hid (R = if n = 0 then (s, 1) else if s.c.asize < n then (s, 4) else if s.aworn a = true then (s, 9) else s.wr1 a b) := by show _ = _; rw [HAW.out, if_pos h0]
    clear HAW h0
    by_cases hn0 : n = 0
    · have HE : Hid (R = (s, 1)) := by show _ = _; rw [HAW2.out, if_pos hn0]
      have y0 : ((n : Int) == 0) = true := by simp [hn0]
      generalize s.aworn a = WB at *
      clear hb hb0 hd h
      go_enter Tryz.func27, Tryz.ntmps27
      go_wp2_with fail
      refine WN.mono ?_
      rintro e w1 ⟨rfl, hb1⟩
      dsimp only
      go_wp2
      go_ret
      exact ⟨by rw [HE.out]; rfl, by rw [HE.out]; exact HR0.out.below hb1, HKB.out _ hb1⟩
    · have y0 : ((n : Int) == 0) = false := by simpa using hn0
      have HRC : Hid (∀ W, RAt W F s → W.rangeAt F.g 0 s.c.vals) := fun W hW j v hv => by
        have := hW.row.cell j v (by unfold RS.cellsOf; rw [List.getElem?_append_left (List.getElem?_eq_some_iff.1 hv).1]; exact hv)
        simpa using this
      have SZ : Hid (∀ W, Calls Tryz.prog 8 #[.agg s.c.vals.toArray] W fun e w' => e = .returned (.int .i64 s.c.asize) ∧ Below W.heap.size W w') := fun W => r14size_any s.c W
      have lv : s.c.vals.length = 7 := rfl
      have HR1 : Hid (∀ W, Below w.heap.size w W → RAt W F s) := fun W hW => h.below hW
      by_cases hbig : s.c.asize < n
      · have HE : Hid (R = (s, 4)) := by show _ = _; rw [HAW2.out, if_neg hn0, if_pos hbig]
        generalize s.aworn a = WB at *
        generalize s.c.asize = AS at *
        generalize s.c.vals = CV at *
        clear hb hb0 hd h HR0
        go_enter Tryz.func27, Tryz.ntmps27
        go_wp2_with fail
        refine WN.mono ?_
        rintro e w1 ⟨rfl, hb1⟩
        dsimp only
        have rc := HRC.out _ (HR1.out _ hb1)
        go_wp2_with (refine wpList_load_mid rfl 23 (.tmp 32) rfl F.g 0 rfl CV _ rc Tryz.underlying23 rfl (by rw [lv]; kernel_rfl) ?_)
        refine (SZ.out _).mono ?_
        rintro e w2 ⟨rfl, hb2⟩
        dsimp only
        have bb : Below w.heap.size w w2 := hb1.trans (hb2.mono hb1.size)
        go_wp2
        go_ret
        exact ⟨by rw [HE.out]; rfl, by rw [HE.out]; exact HR1.out _ bb, HKB.out _ bb⟩
      · by_cases hwn : s.aworn a = true
        · have HE : Hid (R = (s, 9)) := by show _ = _; rw [HAW2.out, if_neg hn0, if_neg hbig, if_pos hwn]
          rw [hwn] at WN
          generalize s.c.asize = AS at *
          generalize s.c.vals = CV at *
          clear hb hb0 hd h HR0 hwn
          go_enter Tryz.func27, Tryz.ntmps27
          go_wp2_with fail
          refine WN.mono ?_
          rintro e w1 ⟨rfl, hb1⟩
          dsimp only
          have rc := HRC.out _ (HR1.out _ hb1)
          go_wp2_with (refine wpList_load_mid rfl 23 (.tmp 32) rfl F.g 0 rfl CV _ rc Tryz.underlying23 rfl (by rw [lv]; kernel_rfl) ?_)
          refine (SZ.out _).mono ?_
          rintro e w2 ⟨rfl, hb2⟩
          dsimp only
          have bb : Below w.heap.size w w2 := hb1.trans (hb2.mono hb1.size)
          go_wp2
          go_ret
          exact ⟨by rw [HE.out]; rfl, by rw [HE.out]; exact HR1.out _ bb, HKB.out _ bb⟩
        · have hwf : s.aworn a = false := by simpa using hwn
          rw [hwf] at WN
          have HE : Hid (R = s.wr1 a b) := by show _ = _; rw [HAW2.out, if_neg hn0, if_neg hbig, if_neg hwn]
          have har := hA.area
          have hce := hA.cells
          obtain ⟨M, hM⟩ : ∃ M : Nat, s.c.area.toNat = M := ⟨_, rfl⟩
          have hMi : s.c.area = (M : Int) := by omega
          obtain ⟨K, hK⟩ : ∃ K : Nat, (n + 31) / 32 = K := ⟨_, rfl⟩
          have HK : Hid ((n + 31) / 32 = K) := hK
          have hK1 : 1 ≤ K := by omega
          have HKM : Hid (K ≤ s.c.area.toNat * s.c.cells.toNat) := by
            show K ≤ _
            have e1 := hA.asize
            have hMC : ((s.c.area.toNat * s.c.cells.toNat : Nat) : Int) = s.c.area * s.c.cells := by rw [Int.natCast_mul]; congr 1 <;> omega
            generalize s.c.area.toNat * s.c.cells.toNat = Z at *
            rw [e1, ← hMC] at hbig
            omega
          have hK3 : K ≤ 16384 := by
            have := HKM.out
            have h2 : s.c.area.toNat * s.c.cells.toNat ≤ 64 * 256 := Nat.mul_le_mul (by omega) (by omega)
            omega
          have HEZ : Hid (Ez a M (eraseGo a M 0 s) s s 0 0) := ⟨hA, hG, rfl, by omega, rfl, hg, by rw [Nat.sub_zero]⟩
          have HE1 : Hid (R = if (eraseGo a M 0 s).2 = 0 then (eraseGo a M 0 s).1.wr2 a b else eraseGo a M 0 s) := by show _ = _; rw [HE.out]; unfold RS.wr1; rw [hM]
          generalize eraseGo a M 0 s = R1 at *
          have HIB : Hid (∀ W, KeptL F.blocks w W → IsB W bo b) := fun W hW => h.dis hb hd hW
          have HB0 : Hid (b.length = n) := hb0
          have HMM : Hid (s.c.area.toNat = M) := hM
          have HMI : Hid (s.c.area = (M : Int)) := hMi
          have hM64 : M ≤ 64 := by omega
          generalize s.c.asize = AS at *
          generalize s.c.vals = CV at *
          clear hb hb0 hd h HR0 hwn hwf HE HAW2 hA hG hK hM hMi
          go_enter Tryz.func27, Tryz.ntmps27
          go_wp2_with fail
          refine WN.mono ?_
          clear WN
          rintro e w1 ⟨rfl, hb1⟩
          dsimp only
          have rc := HRC.out _ (HR1.out _ hb1)
          go_wp2_with (refine wpList_load_mid rfl 23 (.tmp 32) rfl F.g 0 rfl CV _ rc Tryz.underlying23 rfl (by rw [lv]; kernel_rfl) ?_)
          refine (SZ.out _).mono ?_
          rintro e w2 ⟨rfl, hb2⟩
          dsimp only
          have bb : Below w.heap.size w w2 := hb1.trans (hb2.mono hb1.size)
          have HRW : Hid (RAt w2 F s) := HR1.out _ bb
          have HKW : Hid (KeptL F.blocks w w2) := HKB.out _ bb
          clear rc hb1 hb2 bb SZ HRC HR1 HKB lv
          go_wp2
          go_loopw [8, 9] (fun ev iv wr => ∃ (p : Nat) (s' : RS), p ≤ M ∧ ev = .int .i64 0 ∧ iv = .int .i64 p ∧ Hid (Ez a M R1 s s' p 0) ∧ Hid (RAt wr F s') ∧ Hid (KeptL F.blocks w wr)) (fun _ iv _ => M - (intOf iv).toNat)
          case atStart => exact ⟨0, s, by omega, rfl, rfl, HEZ, HRW, HKW⟩
          case round =>
            clear HEZ HRW HKW
            obtain ⟨p, s', hp, rfl, rfl, EZ, RW, KW⟩ := hrel
            have c6 := RW.out.row.cell 6 (.int .i64 s'.c.area) rfl
            rw [EZ.out.c, HMI.out] at c6
            by_cases hlt : p < M
            · have y1 : (p : Int) < (M : Int) := by omega
              have hpA : p < s'.c.area.toNat := by rw [EZ.out.c, HMM.out]; exact hlt
              obtain ⟨n1, n2, n3⟩ := EZ.out.ar.nums ha
              obtain ⟨m1, m2, m3⟩ := n3 p hpA
              rw [EZ.out.c, HMI.out] at n1 n2 m1
              obtain ⟨q, hq⟩ := RW.out.pgAt EZ.out.ar _ m2
              obtain ⟨cp, pg⟩ := hq _ RW.out
              have c7 := RW.out.cPages
              have m4 : ((s'.pgN a p : Nat) : Int) < (s'.pages.length : Int) := by omega
              have m5 : (0 : Int) ≤ ((s'.pgN a p : Nat) : Int) := by omega
              have hlen : (s'.pages.getD (s'.pgN a p) []).length ≤ 256 := by have := EZ.out.ar.pgLen m2; have := EZ.out.ar.cells; omega
              have BK := r14blank_any q.1 _ q.2 _ rfl hlen wr pg
              have hns := EZ.out.n
              have ER : Hid (∀ W, RAt W F s' → Calls Tryz.prog 51 #[.pointer (some ⟨F.g, 0, none⟩), .int .i64 ((s'.pgN a p : Nat) : Int)] W fun e w' => e = .returned (.int .i64 (s'.eraseE ((s'.pgN a p : Nat) : Int))) ∧ RAt w' F (s'.erase ((s'.pgN a p : Nat) : Int)) ∧ KeptL F.blocks W w') := fun W hW => erase_any F s' _ W hW EZ.out.good.n0 (by omega) EZ.out.good.wt EZ.out.good.ce EZ.out.good.e0
              have F1 : Hid (isBlank (s'.pages.getD (s'.pgN a p) []) = true → Ez a M R1 s s' (p + 1) 0) := fun e => ez_blank EZ.out hlt e
              have F2 : Hid (isBlank (s'.pages.getD (s'.pgN a p) []) = false → s'.eraseE ((s'.pgN a p : Nat) : Int) = 0 → Ez a M R1 s (s'.erase ((s'.pgN a p : Nat) : Int)) (p + 1) 0) := fun e e2 => ez_next ha EZ.out HMM.out hlt e e2
              have F3 : Hid (isBlank (s'.pages.getD (s'.pgN a p) []) = false → ¬ s'.eraseE ((s'.pgN a p : Nat) : Int) = 0 → R1 = (s'.erase ((s'.pgN a p : Nat) : Int), s'.eraseE ((s'.pgN a p : Nat) : Int))) := fun e e2 => ez_out EZ.out hlt e e2
              clear hq pg hlen n3 m2 m3 hpA hns EZ
              generalize s'.pages.getD (s'.pgN a p) [] = PG at *
              generalize s'.erase ((s'.pgN a p : Nat) : Int) = s2 at *
              generalize s'.eraseE ((s'.pgN a p : Nat) : Int) = E2 at *
              generalize s'.pgN a p = PN at *
              generalize hAA : a * (M : Int) = AA at *
              generalize isBlank PG = ib at *
              go_wp2_with fail
              refine BK.mono ?_
              clear BK cp c7
              rintro e w3 ⟨rfl, hb3⟩
              dsimp only
              have RW3 : Hid (RAt w3 F s') := RW.out.below hb3
              have KW3 : Hid (KeptL F.blocks w w3) := KW.out.below hb3 KW.out.size
              clear hb3 RW KW c6
              cases ib with
              | true =>
                go_wp2
                exact ⟨⟨p + 1, s', by omega, rfl, by go_num, F1.out rfl, RW3, KW3⟩, by simp [intOf]; omega⟩
              | false =>
                by_cases he2 : E2 = 0
                · have HN : Hid (Ez a M R1 s s2 (p + 1) 0) := F2.out rfl he2
                  rw [he2] at ER
                  clear F1 F2 F3
                  go_wp2_with fail
                  refine (ER.out _ RW3.out).mono ?_
                  rintro e w4 ⟨rfl, r4, k4⟩
                  dsimp only
                  have KW4 : Hid (KeptL F.blocks w w4) := KW3.out.trans k4
                  have RW4 : Hid (RAt w4 F s2) := r4
                  clear r4 k4
                  go_wp2
                  exact ⟨⟨p + 1, s2, by omega, rfl, by go_num, HN, RW4, KW4⟩, by simp [intOf]; omega⟩
                · have hq2 : (E2 == 0) = false := by simpa using he2
                  have HF : Hid (R = (s2, E2)) := by
                    show _ = _
                    have e3 := F3.out rfl he2
                    rw [HE1.out, e3, if_neg he2]
                  clear F1 F2 F3 HE1
                  go_wp2_with fail
                  refine (ER.out _ RW3.out).mono ?_
                  rintro e w4 ⟨rfl, r4, k4⟩
                  dsimp only
                  have KW4 : Hid (KeptL F.blocks w w4) := KW3.out.trans k4
                  have RW4 : Hid (RAt w4 F s2) := r4
                  clear r4 k4
                  go_wp2
                  go_ret
                  exact ⟨by rw [HF.out]; rfl, by rw [HF.out]; exact RW4.out, KW4.out⟩
            · obtain rfl : p = M := by omega
              have e1 : R1 = (s', 0) := by have := EZ.out.go; rw [Nat.sub_self] at this; exact this.symm
              have HE2 : Hid (R = s'.wr2 a b) := by show _ = _; rw [HE1.out, e1, if_pos rfl]
              have hns := EZ.out.n
              have hcs := EZ.out.c
              have HLZ : Hid (Lz a b K (layGo a b (K - 1) 1 s') s' s' 1) := ⟨EZ.out.ar, EZ.out.good, rfl, by omega, EZ.out.g, rfl⟩
              have HE3 : Hid (R = if (layGo a b (K - 1) 1 s').2 = 0 then ((layGo a b (K - 1) 1 s').1.layC a b 0, (layGo a b (K - 1) 1 s').1.layE a 0) else layGo a b (K - 1) 1 s') := by show _ = _; rw [HE2.out]; unfold RS.wr2; rw [HB0.out, HK.out]
              have HKM2 : Hid (K ≤ s'.c.area.toNat * s'.c.cells.toNat) := by show K ≤ _; rw [hcs]; exact HKM.out
              generalize layGo a b (K - 1) 1 s' = R2 at *
              have hp8 : p ≤ 64 := by have := HMM.out; omega
              clear HE1 HE2 e1 EZ
              go_wp2
              go_loopw [8, 12] (fun ev iv wr => ∃ (k : Nat) (t : RS), 1 ≤ k ∧ k ≤ K ∧ ev = .int .i64 0 ∧ iv = .int .i64 k ∧ Hid (Lz a b K R2 s' t k) ∧ Hid (RAt wr F t) ∧ Hid (KeptL F.blocks w wr)) (fun _ iv _ => K - (intOf iv).toNat)
              case atStart => exact ⟨1, s', Nat.le_refl _, hK1, rfl, rfl, HLZ, RW, KW⟩
              case round =>
                clear HLZ RW KW c6
                obtain ⟨k, t, hk1, hk2, rfl, rfl, LZ, RW, KW⟩ := hrel
                have kw : IntKind.i64.wrap (32 * (k : Int)) = ((32 * k : Nat) : Int) := by rw [i64_in _ (by omega) (by omega)]; omega
                have hnt := LZ.out.n
                by_cases hkl : k < K
                · have y2 : ((32 * k : Nat) : Int) < (n : Int) := by have := HK.out; omega
                  have LY := r14lay_any F t a ha bo n cap k b HB0.out wr RW.out LZ.out.ar LZ.out.good (by omega) (HIB.out _ KW.out) (by rw [LZ.out.c]; have := HKM2.out; omega)
                  have G1 : Hid (t.layE a k = 0 → Lz a b K R2 s' (t.layC a b k) (k + 1)) := fun e => lz_next ha LZ.out HKM2.out hkl e
                  have G2 : Hid (¬ t.layE a k = 0 → R2 = (t.layC a b k, t.layE a k)) := fun e => lz_out LZ.out hkl e
                  clear LZ hnt
                  generalize t.layC a b k = t2 at *
                  generalize t.layE a k = E2 at *
                  generalize h32 : 32 * k = KK at *
                  by_cases he2 : E2 = 0
                  · have HN := G1.out he2
                    have HNH : Hid (Lz a b K R2 s' t2 (k + 1)) := HN
                    rw [he2] at LY
                    clear G1 G2 HN
                    go_wp2_with fail
                    refine LY.mono ?_
                    rintro e w4 ⟨rfl, r4, k4⟩
                    dsimp only
                    have KW4 : Hid (KeptL F.blocks w w4) := KW.out.trans k4
                    have RW4 : Hid (RAt w4 F t2) := r4
                    clear r4 k4 LY
                    go_wp2
                    exact ⟨⟨k + 1, t2, by omega, by omega, rfl, by go_num, HNH, RW4, KW4⟩, by simp [intOf]; omega⟩
                  · have hq2 : (E2 == 0) = false := by simpa using he2
                    have HF : Hid (R = (t2, E2)) := by
                      show _ = _
                      have e3 := G2.out he2
                      rw [HE3.out, e3, if_neg he2]
                    clear G1 G2 HE3
                    go_wp2_with fail
                    refine LY.mono ?_
                    rintro e w4 ⟨rfl, r4, k4⟩
                    dsimp only
                    have KW4 : Hid (KeptL F.blocks w w4) := KW.out.trans k4
                    have RW4 : Hid (RAt w4 F t2) := r4
                    clear r4 k4 LY
                    go_wp2
                    go_ret
                    exact ⟨by rw [HF.out]; rfl, by rw [HF.out]; exact RW4.out, KW4.out⟩
                · obtain rfl : k = K := by omega
                  have y2 : ¬ ((32 * k : Nat) : Int) < (n : Int) := by have := HK.out; omega
                  have e1 : R2 = (t, 0) := by have := LZ.out.go; rw [Nat.sub_self] at this; exact this.symm
                  have HF : Hid (R = (t.layC a b 0, t.layE a 0)) := by show _ = _; rw [HE3.out, e1, if_pos rfl]
                  have LY := r14lay_any F t a ha bo n cap 0 b HB0.out wr RW.out LZ.out.ar LZ.out.good (by omega) (HIB.out _ KW.out) (by rw [LZ.out.c]; have := HKM2.out; omega)
                  clear LZ hnt e1 HE3
                  generalize t.layC a b 0 = t2 at *
                  generalize t.layE a 0 = E2 at *
                  generalize h32 : 32 * k = KK at *
                  go_wp2_with fail
                  refine LY.mono ?_
                  rintro e w4 ⟨rfl, r4, k4⟩
                  dsimp only
                  have KW4 : Hid (KeptL F.blocks w w4) := KW.out.trans k4
                  have RW4 : Hid (RAt w4 F t2) := r4
                  clear r4 k4 LY
                  go_wp2
                  go_ret
                  exact ⟨by rw [HF.out]; rfl, by rw [HF.out]; exact RW4.out, KW4.out⟩
  · rw [if_neg h0] at WN
    have HE : Hid (R = (s, s.areaE a)) := by show _ = _; rw [HAW.out, if_neg h0]
    have hq : (s.areaE a == 0) = false := by simpa using h0
    clear hb hb0 hd HAW
    generalize s.areaE a = E at *
    go_enter Tryz.func27, Tryz.ntmps27
    go_wp2_with fail
    refine WN.mono ?_
    rintro e w1 ⟨rfl, hb1⟩
    dsimp only
    go_wp2
    go_ret
    exact ⟨by rw [HE.out]; rfl, by rw [HE.out]; exact HR0.out.below hb1, HKB.out _ hb1⟩
end Go.Proofs.YtcpdanjbnijoiaaGreatDoor
