import Derived.Test.YthjndaeibbfgaaaC4Raise
/-! The code's chip: Erase, Config. -/
namespace Go.Proofs.Ythjndaeibbfgaaa
open Go.RowKit

theorem raise_page (s : RS) (m : List By) (pg : List (List By)) (hl : (pg.length : Int) = s.c.cells) (hm : ∀ i : Nat, (i : Int) < 32 * s.c.cells → bitsAt m i = if s.cut then bitsAt s.mask i else 255#8) : erasePage true m pg = erasePage s.cut s.mask pg := by
  unfold erasePage
  apply List.ext_getElem (by simp)
  intro c h1 h2
  have hc : c < pg.length := by simpa using h1
  rw [List.getElem_mapIdx, List.getElem_mapIdx]
  unfold eraseCell
  apply List.map_congr_left
  intro i hi
  rw [List.mem_range] at hi
  rw [hm (32 * c + i) (by omega)]
  unfold eraseByte
  by_cases hb : s.cut = true
  · simp only [hb, if_true]
  · simp only [hb, Bool.false_eq_true, if_false, if_true]
    apply BitVec.eq_of_getLsbD_eq
    intro k hk
    have h255 : (255#8 : By) = BitVec.allOnes 8 := by decide
    rw [h255, BitVec.getLsbD_or, BitVec.getLsbD_allOnes]
    simp [hk]

set_option maxHeartbeats 2000000 in
set_option maxRecDepth 100000 in
theorem cerase_any (F : RF) (s : RS) (S : ByteArray) (p : Int) (w : World) (h : CAt w F s S) (hn0 : 0 ≤ s.n) (hn : s.n < 4611686018427387904) (hw : s.wait < 9223372036854775808) (hce : s.c.erases ≤ 65536) (he0 : ∀ e ∈ s.erases, 0 ≤ e) :
    Calls Try.prog 39 #[.pointer (some ⟨F.g, 0, none⟩), .int .i64 p] w (CPost F (s.erase p) (s.eraseE p) w) := by
  have hbg : F.g ∈ F.blocks := by simp [RF.blocks]
  have hbe : F.eB ∈ F.blocks := by simp [RF.blocks]
  obtain ⟨res, hres⟩ : ∃ r, r = s.eraseE p := ⟨_, rfl⟩
  rw [← hres]
  have HR : Hid (res = s.eraseE p) := hres
  clear hres
  by_cases h0 : s.at p 0 = 0
  · obtain ⟨_, i1, i2, _, i4⟩ := at_zero h0
    obtain ⟨pn, rfl⟩ := Int.eq_ofNat_of_zero_le i1
    have hpl : pn < s.pages.length := by omega
    have hel : s.erases.length = s.pages.length := h.ok.er
    have i3 : (pn : Int) < (s.erases.length : Int) := by omega
    obtain ⟨k1, k2⟩ := h.ok.pgLen pn hpl
    have hc2 := h.ok.c2
    have c5 := h.cErases
    have c8 := h.cEr
    have ce : w.cell? ⟨F.eB, pn, none⟩ = some (.int .i64 (s.erases.getD pn 0)) := h.er.cell _ _ (by
      rw [List.getElem?_map, List.getD_eq_getElem?_getD, List.getElem?_eq_getElem (by omega)]; rfl)
    have HASK : Hid (∀ W, CAt W F s S → Calls Try.prog 60 #[.pointer (some ⟨F.g, 0, none⟩), .int .i64 (pn : Int)] W fun e w' => e = .returned (.int .i64 0) ∧ w' = W) := fun W hW => by have := caskPage_any F s S pn W hW; rw [h0] at this; exact this
    have HH : Hid (CAt w F s S) := h
    by_cases hworn : s.c.erases ≤ s.erases.getD pn 0
    · have g1 : decide (s.c.erases ≤ s.erases.getD pn 0) = true := by simpa using hworn
      have HE : Hid (s.erase pn = s) := by
        show _ = _
        unfold RS.erase
        rw [if_neg (by simp only [Int.toNat_natCast]; omega)]
      have HRE : Hid (res = 9) := by show _ = _; rw [HR.out]; simp only [RS.eraseE, h0, Int.toNat_natCast, if_true]; rw [if_pos hworn]
      generalize s.erases.getD pn 0 = E0 at *
      generalize s.erases.length = EL at *
      clear h
      go_enter Try.func39, Try.ntmps39
      go_wp2_with fail
      refine (HASK.out _ HH.out).mono ?_
      rintro e w1 ⟨rfl, rfl⟩
      go_wp2
      go_quiet (fail)
      go_wp2
      go_ret
      exact ⟨by rw [HRE.out]; rfl, ⟨S, by rw [HE.out]; exact HH.out.dr ⟨nq, rfl⟩⟩, (KeptL.refl _ _).dr ⟨nq, rfl⟩⟩
    · have g1 : decide (s.c.erases ≤ s.erases.getD pn 0) = false := by simpa using hworn
      have HE : Hid (s.erase pn = { s.act with erases := s.erases.set pn (s.erases.getD pn 0 + 1), pages := s.pages.set pn (erasePage s.cut s.mask (s.pages.getD pn [])) }) := by
        show _ = _
        unfold RS.erase
        rw [if_pos ⟨h0, by simp only [Int.toNat_natCast]; omega⟩]
        simp only [Int.toNat_natCast]
      have HRE : Hid (res = (if s.cut = true then 8 else 0)) := by show _ = _; rw [HR.out]; simp only [RS.eraseE, h0, Int.toNat_natCast, if_true]; rw [if_neg hworn]
      have HACT : Hid (∀ W, CAt W F s S → Calls Try.prog 41 #[.pointer (some ⟨F.g, 0, none⟩)] W (ActPost F s W)) := fun W hW => cact_any F s S W hW hn0 hn hw
      have hE0n : 0 ≤ s.erases.getD pn 0 := by
        rw [List.getD_eq_getElem?_getD, List.getElem?_eq_getElem (by omega)]; exact he0 _ (List.getElem_mem _)
      have hE1 : s.erases.getD pn 0 < 65536 := by omega
      have j1 : IntKind.i64.wrap (s.erases.getD pn 0 + 1) = s.erases.getD pn 0 + 1 := i64_in _ (by omega) (by omega)
      have hPL2 : (s.pages.getD pn []).length ≤ 256 := by omega
      clear h h0 hn0 hn hw hworn hE0n hE1
      have HEL : Hid (pn < s.erases.length) := by show _ < _; omega
      have HCE : Hid (∀ W S', CAt W F { s.act with pages := s.act.pages.set pn (erasePage s.cut s.mask (s.pages.getD pn [])) } S' → W.cell? ⟨F.g, 8, none⟩ = some (.slice (some ⟨F.eB, 0, none⟩) s.erases.length F.ecap) ∧ W.cell? ⟨F.eB, pn, none⟩ = some (.int .i64 (s.erases.getD pn 0)) ∧ W.frozen? ⟨F.eB, pn, none⟩ = false ∧ CAt (W.setCell ⟨F.eB, pn, none⟩ (.int .i64 (s.erases.getD pn 0 + 1))) F (s.erase pn) S') := by
        intro W S' hca
        refine ⟨hca.cEr, hca.er.cell _ _ (by show (s.erases.map (Value.int .i64))[pn]? = _; rw [List.getElem?_map, List.getD_eq_getElem?_getD, List.getElem?_eq_getElem (by omega)]; rfl), hca.er.frozen pn, ?_⟩
        rw [HE.out]
        exact hca.setErase pn (by show pn < s.erases.length; omega) _
      generalize s.erases.getD pn 0 = E0 at *
      generalize s.erases.length = EL at *
      go_enter Try.func39, Try.ntmps39
      go_wp2_with fail
      refine (HASK.out _ HH.out).mono ?_
      rintro e w1 ⟨rfl, rfl⟩
      go_wp2
      go_quiet (fail)
      go_wp2_with fail
      refine (HACT.out _ (HH.out.dr ⟨nq, rfl⟩)).mono ?_
      rintro e w2 ⟨M, S', rfl, ⟨m, hM, hm, hbit⟩, ra2, sb2⟩
      rw [← HRE.out]
      have kl2 : KeptL F.blocks w1 w2 := ((KeptL.refl _ _).dr ⟨nq, rfl⟩).but sb2 (.inl hbg)
      have c7 := ra2.cPages
      obtain ⟨q, hq, cp, pr, hqm, hqg, hqp⟩ := ra2.pageAt pn hpl
      replace c7 : w2.cell? ⟨F.g, 7, none⟩ = some (.slice (some ⟨F.pB, 0, none⟩) s.pages.length F.pcap) := c7
      replace cp : w2.cell? ⟨F.pB, pn, none⟩ = some (.slice (some ⟨q.1, 0, none⟩) (s.pages.getD pn []).length q.2) := cp
      obtain ⟨rst, rp⟩ := pr
      replace rp : Row w2 q.1 49 ((s.pages.getD pn []).flatten.map B8 ++ rst) := rp
      have HRA : Hid (Calls Try.prog 61 #[.string M, .slice (some ⟨q.1, 0, none⟩) (s.pages.getD pn []).length q.2] w2 fun e w' => e = .returned (.tuple #[]) ∧ Row w' q.1 49 ((erasePage s.cut s.mask (s.pages.getD pn [])).flatten.map B8 ++ rst) ∧ KeptL [q.1] w2 w') := by
        have := raise_any M m hM hm q.1 _ q.2 (s.pages.getD pn []) rst rfl hPL2 k2 w2 rp
        rw [raise_page s m _ k1 hbit] at this
        exact this
      have HEND : Hid (∀ W', Row W' q.1 49 ((erasePage s.cut s.mask (s.pages.getD pn [])).flatten.map B8 ++ rst) → KeptL [q.1] w2 W' → W'.cell? ⟨F.g, 8, none⟩ = some (.slice (some ⟨F.eB, 0, none⟩) EL F.ecap) ∧ W'.cell? ⟨F.eB, pn, none⟩ = some (.int .i64 E0) ∧ W'.frozen? ⟨F.eB, pn, none⟩ = false ∧ CPost F (s.erase pn) res w1 (.returned (.int .i64 res)) (W'.setCell ⟨F.eB, pn, none⟩ (.int .i64 (E0 + 1)))) := by
        intro W' hr kl
        have hca : CAt W' F { s.act with pages := s.act.pages.set pn (erasePage s.cut s.mask (s.pages.getD pn [])) } S' := by
          refine ra2.setPage pn hpl q hq _ (by show (erasePage _ _ _).length = (s.pages.getD pn []).length; simp [erasePage]) ?_ ⟨rst, hr⟩ (fun B hB hne => kl.block B (ra2.blt B hB) (by simpa using hne))
          intro y hy
          unfold erasePage at hy
          obtain ⟨i, hi, rfl⟩ := List.mem_mapIdx.1 hy
          exact eraseCell_len _ _ _ _
        obtain ⟨g1, g2, g3, g4⟩ := HCE.out W' S' hca
        exact ⟨g1, g2, g3, rfl, ⟨S', g4⟩, (kl2.trans (kl.sub (by intro b hb; simp at hb; subst hb; exact hqm))).but (SameBut.setCell F.eB pn (.int .i64 (E0 + 1)) W') (.inl hbe)⟩
      clear hM hm hbit ra2 sb2 kl2 rp hq k1 k2 he0 c5 c8 ce
      generalize (s.pages.getD pn []).length = PL at *
      go_wp2_with (refine HRA.out.mono ?_; rintro e w4 ⟨rfl, hr4, kl4⟩; obtain ⟨d8, de, df, hfin⟩ := HEND.out w4 hr4 kl4; clear hr4 kl4)
      go_ret
      exact hfin
  · have HP : Hid (s.erase p = s) := by show _ = _; simp [RS.erase, h0]
    have HF : Hid (∀ W, CAt W F s S → Calls Try.prog 60 #[.pointer (some ⟨F.g, 0, none⟩), .int .i64 p] W fun e w' => e = .returned (.int .i64 res) ∧ w' = W) := fun W hW => by have := caskPage_any F s S p W hW; rw [HR.out, RS.eraseE, if_neg h0]; exact this
    have e1 : (res != 0) = true := by rw [bne_iff_ne, HR.out, RS.eraseE, if_neg h0]; exact h0
    have HH : Hid (CAt w F s S) := h
    clear h h0 HR
    go_enter Try.func39, Try.ntmps39
    go_wp2_with fail
    refine (HF.out _ HH.out).mono ?_
    rintro e w1 ⟨rfl, rfl⟩
    go_wp2
    go_ret
    exact ⟨rfl, ⟨S, by rw [HP.out]; exact HH.out⟩, KeptL.refl _ _⟩
end Go.Proofs.Ythjndaeibbfgaaa
