import Derived.Test.YthjndaeibbfgaaaR4Erase
namespace Go.Proofs.Ythjndaeibbfgaaa
open Go.RowKit

/-- Behind the count, the first k cells of page p erased. -/
def RS.eraSt (s : RS) (p k : Nat) : RS := { s.act with erases := s.erases.set p (s.erases.getD p 0 + 1), pages := s.pages.set p (erasing s.cut s.mask (s.pages.getD p []) k) }
theorem eraSt_pg (s : RS) (p k : Nat) (hp : p < s.pages.length) : (s.eraSt p k).pages.getD p [] = erasing s.cut s.mask (s.pages.getD p []) k := by
  unfold RS.eraSt
  rw [List.getD_eq_getElem?_getD]
  simp only [List.getElem?_set_self hp]; rfl
theorem eraSt_cell (s : RS) (p k : Nat) (hp : p < s.pages.length) (hk : k < (s.pages.getD p []).length) : (s.eraSt p k).cell p k = (s.pages.getD p []).getD k [] := by
  unfold RS.cell
  rw [eraSt_pg s p k hp, erasing_get _ _ _ _ hk]
theorem eraSt_step (s : RS) (p k : Nat) (hp : p < s.pages.length) (hk : k < (s.pages.getD p []).length) : (s.eraSt p k).setCell p k (eraseCell s.cut s.mask k ((s.pages.getD p []).getD k [])) = s.eraSt p (k + 1) := by
  unfold RS.setCell
  rw [eraSt_pg s p k hp, erasing_set _ _ _ _ hk]
  unfold RS.eraSt
  simp only [List.set_set]
theorem eraSt_zero (s : RS) (p : Nat) (hp : p < s.pages.length) : s.eraSt p 0 = { s.act with erases := s.erases.set p (s.erases.getD p 0 + 1) } := by
  have e2 : s.pages.set p (s.pages.getD p []) = s.pages := by
    rw [List.getD_eq_getElem?_getD, List.getElem?_eq_getElem hp]
    exact List.set_getElem_self hp
  unfold RS.eraSt erasing
  rw [List.take_zero, List.drop_zero, List.nil_append, e2]; rfl
theorem eraSt_end (s : RS) (p : Nat) : s.eraSt p (s.pages.getD p []).length = { s.act with erases := s.erases.set p (s.erases.getD p 0 + 1), pages := s.pages.set p (erasePage s.cut s.mask (s.pages.getD p [])) } := by
  unfold RS.eraSt erasing
  rw [List.take_of_length_le (by simp [erasePage]), List.drop_length, List.append_nil]
theorem mixd_get (new was : List By) (k : Nat) (hn : new.length = 32) (hk : k < 32) : (mixd new was k).getD k 0 = was.getD k 0 := by
  unfold mixd
  have hl : (new.take k).length = k := by simp; omega
  rw [List.getD_eq_getElem?_getD, List.getElem?_append_right (by omega), hl, Nat.sub_self, List.getElem?_drop, Nat.add_zero, List.getD_eq_getElem?_getD]
theorem mixd_zero (new was : List By) : mixd new was 0 = was := by simp [mixd]
theorem mixd_end (new was : List By) (hn : new.length = 32) (hw : was.length = 32) : mixd new was 32 = new := by
  unfold mixd
  rw [List.take_of_length_le (by omega), List.drop_eq_nil_of_le (by omega), List.append_nil]

/-- What the walk reads and writes at byte i of cell k. -/
theorem era_facts {W : World} {F : RF} {s : RS} {p k i : Nat} {q : Nat × Nat} (hq : F.ps[p]? = some q) (hp : p < s.pages.length) (hk : k < (s.pages.getD p []).length) (hi : i < 32)
    (h : RAt W F ((s.eraSt p k).setCell p k (mixd (eraseCell s.cut s.mask k ((s.pages.getD p []).getD k [])) ((s.pages.getD p []).getD k []) i))) :
    W.cell? ⟨F.g, 0, none⟩ = some (.int .i64 s.c.cells) ∧ W.cell? ⟨F.g, 7, none⟩ = some (.slice (some ⟨F.pB, 0, none⟩) s.pages.length F.pcap) ∧ W.cell? ⟨F.pB, p, none⟩ = some (.slice (some ⟨q.1, 0, none⟩) (s.pages.getD p []).length q.2) ∧
      W.cell? ⟨q.1, k * 32 + i, none⟩ = some (.int .u8 ((((s.pages.getD p []).getD k []).getD i 0).toNat : Int)) ∧ W.frozen? ⟨q.1, k * 32 + i, none⟩ = false := by
  have hpe : (s.eraSt p k).pages.length = s.pages.length := by unfold RS.eraSt; simp
  have hp1 : p < (s.eraSt p k).pages.length := by omega
  have hp2 : ∀ x, ((s.eraSt p k).setCell p k x).pages.length = s.pages.length := fun x => by unfold RS.setCell; simp only [List.length_set]; exact hpe
  have hg : ∀ x, ((s.eraSt p k).setCell p k x).pages.getD p [] = (erasing s.cut s.mask (s.pages.getD p []) k).set k x := fun x => by
    rw [List.getD_eq_getElem?_getD, setCell_pages, if_pos ⟨rfl, hp1⟩, eraSt_pg s p k hp]; rfl
  have hel := erasing_len s.cut s.mask (s.pages.getD p []) k (by omega)
  have c7 := h.cPages
  rw [hp2] at c7
  obtain ⟨q', hq', cp, pr, _, _, _⟩ := h.pageAt p (by rw [hp2]; exact hp)
  obtain rfl : q = q' := by rw [hq] at hq'; injection hq'
  rw [hg, List.length_set, hel] at cp
  obtain ⟨u1, u2⟩ := h.ok.pgLen p (by rw [hp2]; exact hp)
  refine ⟨h.cCells, c7, cp, ?_, pr.frozen _⟩
  refine pr.cell _ _ ?_
  rw [List.getElem?_map, Nat.mul_comm, flat_get _ u2 k i (by rw [hg, List.length_set, hel]; exact hk) hi, hg, List.getD_eq_getElem?_getD (l := List.set _ _ _), List.getElem?_set_self (by omega)]
  show some (B8 ((mixd _ _ i).getD i 0)) = _
  rw [mixd_get _ _ i (eraseCell_len _ _ _ _) hi]; rfl
theorem era_byte {W : World} {F : RF} {s : RS} {p k i : Nat} {q : Nat × Nat} (hq : F.ps[p]? = some q) (hp : p < s.pages.length) (hk : k < (s.pages.getD p []).length) (hkc : (k : Int) < s.c.cells) (hi : i < 32) (hx : ∀ x ∈ s.pages.getD p [], x.length = 32)
    (h : RAt W F ((s.eraSt p k).setCell p k (mixd (eraseCell s.cut s.mask k ((s.pages.getD p []).getD k [])) ((s.pages.getD p []).getD k []) i))) (v : By) (hv : v = eraseByte s.cut (bitsAt s.mask (32 * k + i)) (((s.pages.getD p []).getD k []).getD i 0)) :
    RAt (W.setCell ⟨q.1, k * 32 + i, none⟩ (.int .u8 (v.toNat : Int))) F ((s.eraSt p k).setCell p k (mixd (eraseCell s.cut s.mask k ((s.pages.getD p []).getD k [])) ((s.pages.getD p []).getD k []) (i + 1))) := by
  have hpe : (s.eraSt p k).pages.length = s.pages.length := by unfold RS.eraSt; simp
  have hp1 : p < (s.eraSt p k).pages.length := by omega
  have hp2 : p < ((s.eraSt p k).setCell p k (mixd (eraseCell s.cut s.mask k ((s.pages.getD p []).getD k [])) ((s.pages.getD p []).getD k []) i)).pages.length := by unfold RS.setCell; simp only [List.length_set]; exact hp1
  have hkl : k < ((s.eraSt p k).pages.getD p []).length := by rw [eraSt_pg s p k hp, erasing_len _ _ _ _ (by omega)]; exact hk
  have h32 : ((s.pages.getD p []).getD k []).length = 32 := by
    rw [List.getD_eq_getElem?_getD (l := s.pages.getD p []), List.getElem?_eq_getElem hk]; exact hx _ (List.getElem_mem hk)
  have h1 := h.setByte p k i hp2 hkc hi q hq v
  rw [cell_setCell _ p k _ hp1 hkl, setCell_setCell _ p k _ _ hp1, hv, ← eraseCell_get s.cut s.mask k _ i hi, mixd_set _ _ i (eraseCell_len _ _ _ _) h32 hi] at h1
  rw [hv, ← eraseCell_get s.cut s.mask k _ i hi]; exact h1

set_option maxHeartbeats 2000000 in
set_option maxRecDepth 100000 in
theorem erase_any (F : RF) (s : RS) (p : Int) (w : World) (h : RAt w F s) (hn0 : 0 ≤ s.n) (hn : s.n < 4611686018427387904) (hw : s.wait < 9223372036854775808) (hce : s.c.erases ≤ 65536) (he0 : ∀ e ∈ s.erases, 0 ≤ e) :
    Calls Try.prog 52 #[.pointer (some ⟨F.g, 0, none⟩), .int .i64 p] w fun e w' => e = .returned (.int .i64 (s.eraseE p)) ∧ RAt w' F (s.erase p) ∧ KeptL F.blocks w w' := by
  obtain ⟨res, hres⟩ : ∃ r, r = s.eraseE p := ⟨_, rfl⟩
  rw [← hres]
  have HR : Hid (res = s.eraseE p) := hres
  clear hres
  by_cases h0 : s.at p 0 = 0
  · obtain ⟨_, i1, i2, _, i4⟩ := at_zero h0
    obtain ⟨pn, rfl⟩ := Int.eq_ofNat_of_zero_le i1
    have hpl : pn < s.pages.length := by omega
    have hel : s.erases.length = s.pages.length := h.ok.er
    have i3 : (pn : Int) < (s.erases.length : Int) := by omega
    obtain ⟨k1, k2⟩ := h.ok.pgLen pn hpl
    have hc2 := h.ok.c2
    have c5 := h.cErases
    have c8 := h.cEr
    have ce : w.cell? ⟨F.eB, pn, none⟩ = some (.int .i64 (s.erases.getD pn 0)) := h.er.cell _ _ (by
      rw [List.getElem?_map, List.getD_eq_getElem?_getD, List.getElem?_eq_getElem (by omega)]; rfl)
    by_cases hworn : s.c.erases ≤ s.erases.getD pn 0
    · have g1 : decide (s.c.erases ≤ s.erases.getD pn 0) = true := by simpa using hworn
      have HE : Hid (s.erase pn = s) := by show _ = _; simp [RS.erase]; intro _ hh; have : (s.erases[pn]?.getD 0) = s.erases.getD pn 0 := by simp
                                           omega
      have HRE : Hid (res = 9) := by show _ = _; rw [HR.out]; simp only [RS.eraseE, h0, Int.toNat_natCast, if_true]; rw [if_pos hworn]
      generalize s.erases.getD pn 0 = E0 at *
      generalize s.erases.length = EL at *
      go_enter Try.func52, Try.ntmps52
      go_wp2_with fail
      refine (at_any F s pn 0 w h).mono ?_
      rw [h0]
      rintro e w1 ⟨rfl, rfl⟩
      go_wp2
      go_quiet (fail)
      go_wp2
      go_ret
      exact ⟨by rw [HRE.out]; rfl, by rw [HE.out]; exact h.dr ⟨nq, rfl⟩, (KeptL.refl _ _).dr ⟨nq, rfl⟩⟩
    · have g1 : decide (s.c.erases ≤ s.erases.getD pn 0) = false := by simpa using hworn
      have HE : Hid (s.erase pn = s.eraSt pn (s.pages.getD pn []).length) := by
        show _ = _
        rw [eraSt_end]
        unfold RS.erase
        rw [if_pos ⟨h0, by simp only [Int.toNat_natCast]; omega⟩]
        simp only [Int.toNat_natCast]
      have HRE : Hid (res = (if s.cut = true then 8 else 0)) := by show _ = _; rw [HR.out]; simp only [RS.eraseE, h0, Int.toNat_natCast, if_true]; rw [if_neg hworn]
      obtain ⟨q, hq, _, pr0, hqm, hqg, hqp⟩ := h.pageAt pn hpl
      have HQ : Hid (F.ps[pn]? = some q) := hq
      clear pr0 hq
      have HFA := fun W k i hk hi => era_facts (W := W) (F := F) (s := s) (p := pn) (k := k) (i := i) HQ.out hpl hk hi
      have HBY := fun W k i hk hkc hi => era_byte (W := W) (F := F) (s := s) (p := pn) (k := k) (i := i) HQ.out hpl hk hkc hi k2
      have HH : Hid (RAt w F s) := h
      have HN : Hid (0 ≤ s.n ∧ s.n < 4611686018427387904 ∧ s.wait < 9223372036854775808) := ⟨hn0, hn, hw⟩
      have HFAh : Hid (∀ W k i, k < (s.pages.getD pn []).length → i < 32 → RAt W F ((s.eraSt pn k).setCell pn k (mixd (eraseCell s.cut s.mask k ((s.pages.getD pn []).getD k [])) ((s.pages.getD pn []).getD k []) i)) → W.cell? ⟨F.g, 0, none⟩ = some (.int .i64 s.c.cells) ∧ W.cell? ⟨F.g, 7, none⟩ = some (.slice (some ⟨F.pB, 0, none⟩) s.pages.length F.pcap) ∧ W.cell? ⟨F.pB, pn, none⟩ = some (.slice (some ⟨q.1, 0, none⟩) (s.pages.getD pn []).length q.2) ∧ W.cell? ⟨q.1, k * 32 + i, none⟩ = some (.int .u8 ((((s.pages.getD pn []).getD k []).getD i 0).toNat : Int)) ∧ W.frozen? ⟨q.1, k * 32 + i, none⟩ = false) := HFA
      have HBYh : Hid (∀ W k i, k < (s.pages.getD pn []).length → (k : Int) < s.c.cells → i < 32 → RAt W F ((s.eraSt pn k).setCell pn k (mixd (eraseCell s.cut s.mask k ((s.pages.getD pn []).getD k [])) ((s.pages.getD pn []).getD k []) i)) → ∀ v : By, v = eraseByte s.cut (bitsAt s.mask (32 * k + i)) (((s.pages.getD pn []).getD k []).getD i 0) → RAt (W.setCell ⟨q.1, k * 32 + i, none⟩ (.int .u8 (v.toNat : Int))) F ((s.eraSt pn k).setCell pn k (mixd (eraseCell s.cut s.mask k ((s.pages.getD pn []).getD k [])) ((s.pages.getD pn []).getD k []) (i + 1)))) := HBY
      have HIN : Hid (∀ W k, k < (s.pages.getD pn []).length → RAt W F (s.eraSt pn k) → RAt W F ((s.eraSt pn k).setCell pn k (mixd (eraseCell s.cut s.mask k ((s.pages.getD pn []).getD k [])) ((s.pages.getD pn []).getD k []) 0))) := by
        intro W k hk hW
        have hpe : (s.eraSt pn k).pages.length = s.pages.length := by unfold RS.eraSt; simp
        have e := setCell_self (s.eraSt pn k) pn k (by omega) (by rw [eraSt_pg s pn k hpl, erasing_len _ _ _ _ (by omega)]; exact hk)
        rw [eraSt_cell s pn k hpl hk] at e
        rw [mixd_zero, e]; exact hW
      have HOUT : Hid (∀ W k, k < (s.pages.getD pn []).length → RAt W F ((s.eraSt pn k).setCell pn k (mixd (eraseCell s.cut s.mask k ((s.pages.getD pn []).getD k [])) ((s.pages.getD pn []).getD k []) 32)) → RAt W F (s.eraSt pn (k + 1))) := by
        intro W k hk hW
        rw [mixd_end _ _ (eraseCell_len _ _ _ _) (by rw [List.getD_eq_getElem?_getD (l := s.pages.getD pn []), List.getElem?_eq_getElem hk]; exact k2 _ (List.getElem_mem hk)), eraSt_step s pn k hpl hk] at hW
        exact hW
      have HC0 : Hid (∀ W k, RAt W F (s.eraSt pn k) → W.cell? ⟨F.g, 0, none⟩ = some (.int .i64 s.c.cells)) := fun W k hW => hW.cCells
      have HBI : Hid (∀ W k i, RAt W F ((s.eraSt pn k).setCell pn k (mixd (eraseCell s.cut s.mask k ((s.pages.getD pn []).getD k [])) ((s.pages.getD pn []).getD k []) i)) → Calls Try.prog 65 #[.pointer (some ⟨F.g, 0, none⟩), .int .i64 (32 * (k : Int) + (i : Int))] W fun e w' => e = .returned (.int .u8 ((bitsAt s.mask (32 * k + i)).toNat : Int)) ∧ ∃ m, w' = W.drewN m) := fun W k i hW => by
        have := bits_any F _ (32 * k + i) W hW
        have e : ((32 * k + i : Nat) : Int) = 32 * (k : Int) + (i : Int) := by omega
        rw [e] at this
        exact this
      have HS0 : Hid (∀ W, RAt W F s.act → RAt (W.setCell ⟨F.eB, pn, none⟩ (.int .i64 (s.erases.getD pn 0 + 1))) F (s.eraSt pn 0) ∧ W.cell? ⟨F.g, 8, none⟩ = some (.slice (some ⟨F.eB, 0, none⟩) s.erases.length F.ecap) ∧ W.cell? ⟨F.eB, pn, none⟩ = some (.int .i64 (s.erases.getD pn 0)) ∧ W.frozen? ⟨F.eB, pn, none⟩ = false) := by
        intro W hW
        refine ⟨?_, hW.cEr, hW.er.cell _ _ (by show (s.erases.map (Value.int .i64))[pn]? = _; rw [List.getElem?_map, List.getD_eq_getElem?_getD, List.getElem?_eq_getElem (by omega)]; rfl), hW.er.frozen pn⟩
        rw [eraSt_zero s pn hpl]
        exact hW.setErase pn (by show pn < s.erases.length; omega) _
      have hcells : s.c.cells = ((s.pages.getD pn []).length : Int) := k1.symm
      have hPL256 : (s.pages.getD pn []).length ≤ 256 := by omega
      have hE0n : 0 ≤ s.erases.getD pn 0 := by
        rw [List.getD_eq_getElem?_getD, List.getElem?_eq_getElem (by omega)]; exact he0 _ (List.getElem_mem _)
      generalize hE0 : s.erases.getD pn 0 = E0 at *
      have hE1 : E0 < 65536 := by omega
      have hE2 : Hid (E0 + 1 ≤ 65536) := by show _ ≤ _; omega
      generalize s.erases.length = EL at *
      clear HFA HBY h hn0 hn hw k1 k2 hc2
      go_enter Try.func52, Try.ntmps52
      go_wp2_with fail
      refine (at_any F s pn 0 w HH.out).mono ?_
      rw [h0]
      rintro e w1 ⟨rfl, rfl⟩
      go_wp2
      go_quiet (fail)
      go_wp2_with fail
      refine (act_any F s _ (HH.out.dr ⟨nq, rfl⟩) HN.out.1 HN.out.2.1 HN.out.2.2).mono ?_
      rintro e w2 ⟨rfl, ra2, sb2⟩
      have kl2 : KeptL F.blocks w1 w2 := ((KeptL.refl _ _).dr ⟨nq, rfl⟩).but sb2 (.inl (by simp [RF.blocks]))
      obtain ⟨ra3, d8, de, df⟩ := HS0.out w2 ra2
      have kl3 := kl2.but (SameBut.setCell F.eB pn (.int .i64 (E0 + 1)) w2) (.inl (by simp [RF.blocks]))
      clear ra2 sb2 kl2 c5 c8 ce
      generalize hPLe : (s.pages.getD pn []).length = PL at *
      have hcN : Hid (s.c.cells = (PL : Int)) := hcells
      rw [hcells] at HC0 HFAh i4
      generalize s.cut = cut at *
      go_wp2
      go_loopw [7] (fun kv wr => ∃ k : Nat, k ≤ PL ∧ kv = .int .i64 k ∧ Hid (RAt wr F (s.eraSt pn k)) ∧ KeptL F.blocks w1 wr) (fun kv _ => PL - (intOf kv).toNat)
      case atStart => exact ⟨0, by omega, rfl, ra3, kl3⟩
      case round =>
        clear ra3 kl3 d8 de df
        obtain ⟨k, hk, rfl, hra, kl⟩ := hrel
        have c0 := HC0.out wr k hra.out
        by_cases hlt : k < PL
        · have y1 : (k : Int) < (PL : Int) := by omega
          have hra0 := HIN.out wr k hlt hra.out
          go_wp2
          go_loopw [8] (fun iv wq => ∃ i : Nat, i ≤ 32 ∧ iv = .int .i64 i ∧ Hid (RAt wq F ((s.eraSt pn k).setCell pn k (mixd (eraseCell cut s.mask k ((s.pages.getD pn []).getD k [])) ((s.pages.getD pn []).getD k []) i))) ∧ KeptL F.blocks w1 wq) (fun iv _ => 32 - (intOf iv).toNat)
          case atStart => exact ⟨0, by omega, rfl, hra0, kl⟩
          case round =>
            clear hra0 kl c0 hra
            obtain ⟨i, hi, rfl, hra, kl⟩ := hrel
            by_cases hil : i < 32
            · have z1 : (i : Int) < 32 := by omega
              have z0 : (0 : Int) ≤ (i : Int) := by omega
              have x0 : (0 : Int) ≤ (k : Int) := by omega
              obtain ⟨_, c7, cp, cv, fv⟩ := HFAh.out wr k i hlt hil hra.out
              have HB : Hid (∀ W, Dr wr W → Calls Try.prog 65 #[.pointer (some ⟨F.g, 0, none⟩), .int .i64 (32 * (k : Int) + (i : Int))] W fun e w' => e = .returned (.int .u8 ((bitsAt s.mask (32 * k + i)).toNat : Int)) ∧ ∃ m, w' = W.drewN m) := fun W d => HBI.out W k i (hra.out.dr d)
              have HV : Hid (∀ W v, Dr wr W → v = eraseByte cut (bitsAt s.mask (32 * k + i)) (((s.pages.getD pn []).getD k []).getD i 0) → RAt (W.setCell ⟨q.1, k * 32 + i, none⟩ (.int .u8 (v.toNat : Int))) F ((s.eraSt pn k).setCell pn k (mixd (eraseCell cut s.mask k ((s.pages.getD pn []).getD k [])) ((s.pages.getD pn []).getD k []) (i + 1)))) := fun W v d hv => HBYh.out W k i hlt (by rw [hcN.out]; omega) hil (hra.out.dr d) v hv
              generalize bitsAt s.mask (32 * k + i) = mb at *
              generalize ((s.pages.getD pn []).getD k []).getD i 0 = wb at *
              cases cut
              · go_wp2
                have sb := SameBut.setCell q.1 (k * 32 + i) (.int .u8 255) wr
                exact ⟨⟨i + 1, by omega, by go_num, HV.out wr 255#8 (Dr.refl _) rfl, kl.but sb (.inl hqm)⟩, by simp [intOf]; omega⟩
              · have f1 := bits8_or wb mb
                go_wp2
                go_quiet ((go_at_call 65; first | exact Calls.quiet_of (HB.out _ ⟨_, rfl⟩) | exact quiet_sum (HB.out _ ⟨_, rfl⟩)))
                go_wp2
                have hv : wb.toNat ||| mb.toNat = (wb ||| mb).toNat := by simp
                rw [hv]
                have d : Dr wr (wr.drewN nq) := ⟨nq, rfl⟩
                have sb := SameBut.setCell q.1 (k * 32 + i) (.int .u8 ((wb ||| mb).toNat : Int)) (wr.drewN nq)
                exact ⟨⟨i + 1, by omega, by go_num, HV.out _ _ d rfl, (kl.dr d).but sb (.inl hqm)⟩, by simp [intOf]; omega⟩
            · obtain rfl : i = 32 := by omega
              have z1 : ¬ ((32 : Nat) : Int) < 32 := by omega
              have hnx := HOUT.out wr k hlt hra.out
              clear hil hi hra
              go_wp2
              exact ⟨⟨k + 1, by omega, by go_num, hnx, kl⟩, by simp [intOf]; omega⟩
        · obtain rfl : k = PL := by omega
          have y1 : ¬ (k : Int) < (k : Int) := by omega
          have hfin : RAt wr F (s.erase pn) := by rw [HE.out]; exact hra.out
          clear hlt hk
          cases cut
          all_goals
            go_wp2
            go_ret
            exact ⟨by rw [HRE.out]; rfl, hfin, kl⟩
  · have HP : Hid (s.erase p = s) := by show _ = _; simp [RS.erase, h0]
    generalize hf : s.at p 0 = f at *
    have HF : Hid (s.at p 0 = f) := hf
    have e1 : (f != 0) = true := by rw [bne_iff_ne]; exact h0
    clear hf
    go_enter Try.func52, Try.ntmps52
    go_wp2_with fail
    refine (at_any F s p 0 w h).mono ?_
    rw [HF.out]
    rintro e w1 ⟨rfl, rfl⟩
    go_wp2
    go_ret
    exact ⟨by rw [HR.out]; simp [RS.eraseE, HF.out, h0], by rw [HP.out]; exact h, KeptL.refl _ _⟩
end Go.Proofs.Ythjndaeibbfgaaa
