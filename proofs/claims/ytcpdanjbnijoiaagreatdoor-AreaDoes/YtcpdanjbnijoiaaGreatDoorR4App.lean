import Derived.Test.YtcpdanjbnijoiaaGreatDoorR4Erase
import Derived.Deep.AppendLies
import Derived.Laws.AppendOwnNone

namespace Go.Proofs.YtcpdanjbnijoiaaGreatDoor
open Go.RowKit

/-- Behind the count, the first k cells of page p erased. -/
def RS.eraSt (s : RS) (p k : Nat) : RS := { s.act with erases := s.erases.set p (s.erases.getD p 0 + 1), pages := s.pages.set p (erasing s.cut s.mask (s.pages.getD p []) k) }
theorem eraSt_pg (s : RS) (p k : Nat) (hp : p < s.pages.length) : (s.eraSt p k).pages.getD p [] = erasing s.cut s.mask (s.pages.getD p []) k := by
  unfold RS.eraSt
  rw [List.getD_eq_getElem?_getD]
  simp only [List.getElem?_set_self hp]; rfl
theorem eraSt_cell (s : RS) (p k : Nat) (hp : p < s.pages.length) (hk : k < (s.pages.getD p []).length) : (s.eraSt p k).cell p k = (s.pages.getD p []).getD k [] := by
  unfold RS.cell
  rw [eraSt_pg s p k hp, erasing_get _ _ _ _ hk]
theorem eraSt_step (s : RS) (p k : Nat) (hp : p < s.pages.length) (hk : k < (s.pages.getD p []).length) : (s.eraSt p k).setCell p k (eraseCell s.cut s.mask k ((s.pages.getD p []).getD k [])) = s.eraSt p (k + 1) := by
  unfold RS.setCell
  rw [eraSt_pg s p k hp, erasing_set _ _ _ _ hk]
  unfold RS.eraSt
  simp only [List.set_set]
theorem eraSt_zero (s : RS) (p : Nat) (hp : p < s.pages.length) : s.eraSt p 0 = { s.act with erases := s.erases.set p (s.erases.getD p 0 + 1) } := by
  have e2 : s.pages.set p (s.pages.getD p []) = s.pages := by
    rw [List.getD_eq_getElem?_getD, List.getElem?_eq_getElem hp]
    exact List.set_getElem_self hp
  unfold RS.eraSt erasing
  rw [List.take_zero, List.drop_zero, List.nil_append, e2]; rfl
theorem eraSt_end (s : RS) (p : Nat) : s.eraSt p (s.pages.getD p []).length = { s.act with erases := s.erases.set p (s.erases.getD p 0 + 1), pages := s.pages.set p (erasePage s.cut s.mask (s.pages.getD p [])) } := by
  unfold RS.eraSt erasing
  rw [List.take_of_length_le (by simp [erasePage]), List.drop_length, List.append_nil]
theorem mixd_get (new was : List By) (k : Nat) (hn : new.length = 32) (hk : k < 32) : (mixd new was k).getD k 0 = was.getD k 0 := by
  unfold mixd
  have hl : (new.take k).length = k := by simp; omega
  rw [List.getD_eq_getElem?_getD, List.getElem?_append_right (by omega), hl, Nat.sub_self, List.getElem?_drop, Nat.add_zero, List.getD_eq_getElem?_getD]
theorem mixd_zero (new was : List By) : mixd new was 0 = was := by simp [mixd]
theorem mixd_end (new was : List By) (hn : new.length = 32) (hw : was.length = 32) : mixd new was 32 = new := by
  unfold mixd
  rw [List.take_of_length_le (by omega), List.drop_eq_nil_of_le (by omega), List.append_nil]

/-- What the walk reads and writes at byte i of cell k. -/
theorem era_facts {W : World} {F : RF} {s : RS} {p k i : Nat} {q : Nat × Nat} (hq : F.ps[p]? = some q) (hp : p < s.pages.length) (hk : k < (s.pages.getD p []).length) (hi : i < 32)
    (h : RAt W F ((s.eraSt p k).setCell p k (mixd (eraseCell s.cut s.mask k ((s.pages.getD p []).getD k [])) ((s.pages.getD p []).getD k []) i))) :
    W.cell? ⟨F.g, 0, none⟩ = some (.int .i64 s.c.cells) ∧ W.cell? ⟨F.g, 7, none⟩ = some (.slice (some ⟨F.pB, 0, none⟩) s.pages.length F.pcap) ∧ W.cell? ⟨F.pB, p, none⟩ = some (.slice (some ⟨q.1, 0, none⟩) (s.pages.getD p []).length q.2) ∧
      W.cell? ⟨q.1, k * 32 + i, none⟩ = some (.int .u8 ((((s.pages.getD p []).getD k []).getD i 0).toNat : Int)) ∧ W.frozen? ⟨q.1, k * 32 + i, none⟩ = false := by
  have hpe : (s.eraSt p k).pages.length = s.pages.length := by unfold RS.eraSt; simp
  have hp1 : p < (s.eraSt p k).pages.length := by omega
  have hp2 : ∀ x, ((s.eraSt p k).setCell p k x).pages.length = s.pages.length := fun x => by unfold RS.setCell; simp only [List.length_set]; exact hpe
  have hg : ∀ x, ((s.eraSt p k).setCell p k x).pages.getD p [] = (erasing s.cut s.mask (s.pages.getD p []) k).set k x := fun x => by
    rw [List.getD_eq_getElem?_getD, setCell_pages, if_pos ⟨rfl, hp1⟩, eraSt_pg s p k hp]; rfl
  have hel := erasing_len s.cut s.mask (s.pages.getD p []) k (by omega)
  have c7 := h.cPages
  rw [hp2] at c7
  obtain ⟨q', hq', cp, pr, _, _, _⟩ := h.pageAt p (by rw [hp2]; exact hp)
  obtain rfl : q = q' := by rw [hq] at hq'; injection hq'
  rw [hg, List.length_set, hel] at cp
  obtain ⟨u1, u2⟩ := h.ok.pgLen p (by rw [hp2]; exact hp)
  refine ⟨h.cCells, c7, cp, ?_, pr.frozen _⟩
  refine pr.cell _ _ ?_
  rw [List.getElem?_map, Nat.mul_comm, flat_get _ u2 k i (by rw [hg, List.length_set, hel]; exact hk) hi, hg, List.getD_eq_getElem?_getD (l := List.set _ _ _), List.getElem?_set_self (by omega)]
  show some (B8 ((mixd _ _ i).getD i 0)) = _
  rw [mixd_get _ _ i (eraseCell_len _ _ _ _) hi]; rfl
theorem era_byte {W : World} {F : RF} {s : RS} {p k i : Nat} {q : Nat × Nat} (hq : F.ps[p]? = some q) (hp : p < s.pages.length) (hk : k < (s.pages.getD p []).length) (hkc : (k : Int) < s.c.cells) (hi : i < 32) (hx : ∀ x ∈ s.pages.getD p [], x.length = 32)
    (h : RAt W F ((s.eraSt p k).setCell p k (mixd (eraseCell s.cut s.mask k ((s.pages.getD p []).getD k [])) ((s.pages.getD p []).getD k []) i))) (v : By) (hv : v = eraseByte s.cut (bitsAt s.mask (32 * k + i)) (((s.pages.getD p []).getD k []).getD i 0)) :
    RAt (W.setCell ⟨q.1, k * 32 + i, none⟩ (.int .u8 (v.toNat : Int))) F ((s.eraSt p k).setCell p k (mixd (eraseCell s.cut s.mask k ((s.pages.getD p []).getD k [])) ((s.pages.getD p []).getD k []) (i + 1))) := by
  have hpe : (s.eraSt p k).pages.length = s.pages.length := by unfold RS.eraSt; simp
  have hp1 : p < (s.eraSt p k).pages.length := by omega
  have hp2 : p < ((s.eraSt p k).setCell p k (mixd (eraseCell s.cut s.mask k ((s.pages.getD p []).getD k [])) ((s.pages.getD p []).getD k []) i)).pages.length := by unfold RS.setCell; simp only [List.length_set]; exact hp1
  have hkl : k < ((s.eraSt p k).pages.getD p []).length := by rw [eraSt_pg s p k hp, erasing_len _ _ _ _ (by omega)]; exact hk
  have h32 : ((s.pages.getD p []).getD k []).length = 32 := by
    rw [List.getD_eq_getElem?_getD (l := s.pages.getD p []), List.getElem?_eq_getElem hk]; exact hx _ (List.getElem_mem hk)
  have h1 := h.setByte p k i hp2 hkc hi q hq v
  rw [cell_setCell _ p k _ hp1 hkl, setCell_setCell _ p k _ _ hp1, hv, ← eraseCell_get s.cut s.mask k _ i hi, mixd_set _ _ i (eraseCell_len _ _ _ _) h32 hi] at h1
  rw [hv, ← eraseCell_get s.cut s.mask k _ i hi]; exact h1

set_option maxHeartbeats 2000000 in
set_option maxRecDepth 100000 in
theorem erase_any (F : RF) (s : RS) (p : Int) (w : World) (h : RAt w F s) (hn0 : 0 ≤ s.n) (hn : s.n < 4611686018427387904) (hw : s.wait < 9223372036854775808) (hce : s.c.erases ≤ 65536) (he0 : ∀ e ∈ s.erases, 0 ≤ e) :
    Calls Tryz.prog 51 #[.pointer (some ⟨F.g, 0, none⟩), .int .i64 p] w fun e w' => e = .returned (.int .i64 (s.eraseE p)) ∧ RAt w' F (s.erase p) ∧ KeptL F.blocks w w' := by
  obtain ⟨res, hres⟩ : ∃ r, r = s.eraseE p := ⟨_, rfl⟩
  rw [← hres]
  have HR : Hid (res = s.eraseE p) := hres
  clear hres
  by_cases h0 : s.at p 0 = 0
  · obtain ⟨_, i1, i2, _, i4⟩ := at_zero h0
    obtain ⟨pn, rfl⟩ := Int.eq_ofNat_of_zero_le i1
    have hpl : pn < s.pages.length := by omega
    have hel : s.erases.length = s.pages.length := h.ok.er
    have i3 : (pn : Int) < (s.erases.length : Int) := by omega
    obtain ⟨k1, k2⟩ := h.ok.pgLen pn hpl
    have hc2 := h.ok.c2
    have c5 := h.cErases
    have c8 := h.cEr
    have ce : w.cell? ⟨F.eB, pn, none⟩ = some (.int .i64 (s.erases.getD pn 0)) := h.er.cell _ _ (by
      rw [List.getElem?_map, List.getD_eq_getElem?_getD, List.getElem?_eq_getElem (by omega)]; rfl)
    by_cases hworn : s.c.erases ≤ s.erases.getD pn 0
    · have g1 : decide (s.c.erases ≤ s.erases.getD pn 0) = true := by simpa using hworn
      have HE : Hid (s.erase pn = s) := by show _ = _; simp [RS.erase]; intro _ hh; have : (s.erases[pn]?.getD 0) = s.erases.getD pn 0 := by simp
                                           omega
      have HRE : Hid (res = 9) := by show _ = _; rw [HR.out]; simp only [RS.eraseE, h0, Int.toNat_natCast, if_true]; rw [if_pos hworn]
      generalize s.erases.getD pn 0 = E0 at *
      generalize s.erases.length = EL at *
      go_enter Tryz.func51, Tryz.ntmps51
      go_wp2_with fail
      refine (at_any F s pn 0 w h).mono ?_
      rw [h0]
      rintro e w1 ⟨rfl, rfl⟩
      go_wp2
      go_quiet (fail)
      go_wp2
      go_ret
      exact ⟨by rw [HRE.out]; rfl, by rw [HE.out]; exact h.dr ⟨nq, rfl⟩, (KeptL.refl _ _).dr ⟨nq, rfl⟩⟩
    · have g1 : decide (s.c.erases ≤ s.erases.getD pn 0) = false := by simpa using hworn
      have HE : Hid (s.erase pn = s.eraSt pn (s.pages.getD pn []).length) := by
        show _ = _
        rw [eraSt_end]
        unfold RS.erase
        rw [if_pos ⟨h0, by simp only [Int.toNat_natCast]; omega⟩]
        simp only [Int.toNat_natCast]
      have HRE : Hid (res = (if s.cut = true then 8 else 0)) := by show _ = _; rw [HR.out]; simp only [RS.eraseE, h0, Int.toNat_natCast, if_true]; rw [if_neg hworn]
      obtain ⟨q, hq, _, pr0, hqm, hqg, hqp⟩ := h.pageAt pn hpl
      have HQ : Hid (F.ps[pn]? = some q) := hq
      clear pr0 hq
      have HFA := fun W k i hk hi => era_facts (W := W) (F := F) (s := s) (p := pn) (k := k) (i := i) HQ.out hpl hk hi
      have HBY := fun W k i hk hkc hi => era_byte (W := W) (F := F) (s := s) (p := pn) (k := k) (i := i) HQ.out hpl hk hkc hi k2
      have HH : Hid (RAt w F s) := h
      have HN : Hid (0 ≤ s.n ∧ s.n < 4611686018427387904 ∧ s.wait < 9223372036854775808) := ⟨hn0, hn, hw⟩
      have HFAh : Hid (∀ W k i, k < (s.pages.getD pn []).length → i < 32 → RAt W F ((s.eraSt pn k).setCell pn k (mixd (eraseCell s.cut s.mask k ((s.pages.getD pn []).getD k [])) ((s.pages.getD pn []).getD k []) i)) → W.cell? ⟨F.g, 0, none⟩ = some (.int .i64 s.c.cells) ∧ W.cell? ⟨F.g, 7, none⟩ = some (.slice (some ⟨F.pB, 0, none⟩) s.pages.length F.pcap) ∧ W.cell? ⟨F.pB, pn, none⟩ = some (.slice (some ⟨q.1, 0, none⟩) (s.pages.getD pn []).length q.2) ∧ W.cell? ⟨q.1, k * 32 + i, none⟩ = some (.int .u8 ((((s.pages.getD pn []).getD k []).getD i 0).toNat : Int)) ∧ W.frozen? ⟨q.1, k * 32 + i, none⟩ = false) := HFA
      have HBYh : Hid (∀ W k i, k < (s.pages.getD pn []).length → (k : Int) < s.c.cells → i < 32 → RAt W F ((s.eraSt pn k).setCell pn k (mixd (eraseCell s.cut s.mask k ((s.pages.getD pn []).getD k [])) ((s.pages.getD pn []).getD k []) i)) → ∀ v : By, v = eraseByte s.cut (bitsAt s.mask (32 * k + i)) (((s.pages.getD pn []).getD k []).getD i 0) → RAt (W.setCell ⟨q.1, k * 32 + i, none⟩ (.int .u8 (v.toNat : Int))) F ((s.eraSt pn k).setCell pn k (mixd (eraseCell s.cut s.mask k ((s.pages.getD pn []).getD k [])) ((s.pages.getD pn []).getD k []) (i + 1)))) := HBY
      have HIN : Hid (∀ W k, k < (s.pages.getD pn []).length → RAt W F (s.eraSt pn k) → RAt W F ((s.eraSt pn k).setCell pn k (mixd (eraseCell s.cut s.mask k ((s.pages.getD pn []).getD k [])) ((s.pages.getD pn []).getD k []) 0))) := by
        intro W k hk hW
        have hpe : (s.eraSt pn k).pages.length = s.pages.length := by unfold RS.eraSt; simp
        have e := setCell_self (s.eraSt pn k) pn k (by omega) (by rw [eraSt_pg s pn k hpl, erasing_len _ _ _ _ (by omega)]; exact hk)
        rw [eraSt_cell s pn k hpl hk] at e
        rw [mixd_zero, e]; exact hW
      have HOUT : Hid (∀ W k, k < (s.pages.getD pn []).length → RAt W F ((s.eraSt pn k).setCell pn k (mixd (eraseCell s.cut s.mask k ((s.pages.getD pn []).getD k [])) ((s.pages.getD pn []).getD k []) 32)) → RAt W F (s.eraSt pn (k + 1))) := by
        intro W k hk hW
        rw [mixd_end _ _ (eraseCell_len _ _ _ _) (by rw [List.getD_eq_getElem?_getD (l := s.pages.getD pn []), List.getElem?_eq_getElem hk]; exact k2 _ (List.getElem_mem hk)), eraSt_step s pn k hpl hk] at hW
        exact hW
      have HC0 : Hid (∀ W k, RAt W F (s.eraSt pn k) → W.cell? ⟨F.g, 0, none⟩ = some (.int .i64 s.c.cells)) := fun W k hW => hW.cCells
      have HBI : Hid (∀ W k i, RAt W F ((s.eraSt pn k).setCell pn k (mixd (eraseCell s.cut s.mask k ((s.pages.getD pn []).getD k [])) ((s.pages.getD pn []).getD k []) i)) → Calls Tryz.prog 71 #[.pointer (some ⟨F.g, 0, none⟩), .int .i64 (32 * (k : Int) + (i : Int))] W fun e w' => e = .returned (.int .u8 ((bitsAt s.mask (32 * k + i)).toNat : Int)) ∧ ∃ m, w' = W.drewN m) := fun W k i hW => by
        have := bits_any F _ (32 * k + i) W hW
        have e : ((32 * k + i : Nat) : Int) = 32 * (k : Int) + (i : Int) := by omega
        rw [e] at this
        exact this
      have HS0 : Hid (∀ W, RAt W F s.act → RAt (W.setCell ⟨F.eB, pn, none⟩ (.int .i64 (s.erases.getD pn 0 + 1))) F (s.eraSt pn 0) ∧ W.cell? ⟨F.g, 8, none⟩ = some (.slice (some ⟨F.eB, 0, none⟩) s.erases.length F.ecap) ∧ W.cell? ⟨F.eB, pn, none⟩ = some (.int .i64 (s.erases.getD pn 0)) ∧ W.frozen? ⟨F.eB, pn, none⟩ = false) := by
        intro W hW
        refine ⟨?_, hW.cEr, hW.er.cell _ _ (by show (s.erases.map (Value.int .i64))[pn]? = _; rw [List.getElem?_map, List.getD_eq_getElem?_getD, List.getElem?_eq_getElem (by omega)]; rfl), hW.er.frozen pn⟩
        rw [eraSt_zero s pn hpl]
        exact hW.setErase pn (by show pn < s.erases.length; omega) _
      have hcells : s.c.cells = ((s.pages.getD pn []).length : Int) := k1.symm
      have hPL256 : (s.pages.getD pn []).length ≤ 256 := by omega
      have hE0n : 0 ≤ s.erases.getD pn 0 := by
        rw [List.getD_eq_getElem?_getD, List.getElem?_eq_getElem (by omega)]; exact he0 _ (List.getElem_mem _)
      generalize hE0 : s.erases.getD pn 0 = E0 at *
      have hE1 : E0 < 65536 := by omega
      have hE2 : Hid (E0 + 1 ≤ 65536) := by show _ ≤ _; omega
      generalize s.erases.length = EL at *
      clear HFA HBY h hn0 hn hw k1 k2 hc2
      go_enter Tryz.func51, Tryz.ntmps51
      go_wp2_with fail
      refine (at_any F s pn 0 w HH.out).mono ?_
      rw [h0]
      rintro e w1 ⟨rfl, rfl⟩
      go_wp2
      go_quiet (fail)
      go_wp2_with fail
      refine (act_any F s _ (HH.out.dr ⟨nq, rfl⟩) HN.out.1 HN.out.2.1 HN.out.2.2).mono ?_
      rintro e w2 ⟨rfl, ra2, sb2⟩
      have kl2 : KeptL F.blocks w1 w2 := ((KeptL.refl _ _).dr ⟨nq, rfl⟩).but sb2 (.inl (by simp [RF.blocks]))
      obtain ⟨ra3, d8, de, df⟩ := HS0.out w2 ra2
      have kl3 := kl2.but (SameBut.setCell F.eB pn (.int .i64 (E0 + 1)) w2) (.inl (by simp [RF.blocks]))
      clear ra2 sb2 kl2 c5 c8 ce
      generalize hPLe : (s.pages.getD pn []).length = PL at *
      have hcN : Hid (s.c.cells = (PL : Int)) := hcells
      rw [hcells] at HC0 HFAh i4
      generalize s.cut = cut at *
      go_wp2
      go_loopw [7] (fun kv wr => ∃ k : Nat, k ≤ PL ∧ kv = .int .i64 k ∧ Hid (RAt wr F (s.eraSt pn k)) ∧ KeptL F.blocks w1 wr) (fun kv _ => PL - (intOf kv).toNat)
      case atStart => exact ⟨0, by omega, rfl, ra3, kl3⟩
      case round =>
        clear ra3 kl3 d8 de df
        obtain ⟨k, hk, rfl, hra, kl⟩ := hrel
        have c0 := HC0.out wr k hra.out
        by_cases hlt : k < PL
        · have y1 : (k : Int) < (PL : Int) := by omega
          have hra0 := HIN.out wr k hlt hra.out
          go_wp2
          go_loopw [8] (fun iv wq => ∃ i : Nat, i ≤ 32 ∧ iv = .int .i64 i ∧ Hid (RAt wq F ((s.eraSt pn k).setCell pn k (mixd (eraseCell cut s.mask k ((s.pages.getD pn []).getD k [])) ((s.pages.getD pn []).getD k []) i))) ∧ KeptL F.blocks w1 wq) (fun iv _ => 32 - (intOf iv).toNat)
          case atStart => exact ⟨0, by omega, rfl, hra0, kl⟩
          case round =>
            clear hra0 kl c0 hra
            obtain ⟨i, hi, rfl, hra, kl⟩ := hrel
            by_cases hil : i < 32
            · have z1 : (i : Int) < 32 := by omega
              have z0 : (0 : Int) ≤ (i : Int) := by omega
              have x0 : (0 : Int) ≤ (k : Int) := by omega
              obtain ⟨_, c7, cp, cv, fv⟩ := HFAh.out wr k i hlt hil hra.out
              have HB : Hid (∀ W, Dr wr W → Calls Tryz.prog 71 #[.pointer (some ⟨F.g, 0, none⟩), .int .i64 (32 * (k : Int) + (i : Int))] W fun e w' => e = .returned (.int .u8 ((bitsAt s.mask (32 * k + i)).toNat : Int)) ∧ ∃ m, w' = W.drewN m) := fun W d => HBI.out W k i (hra.out.dr d)
              have HV : Hid (∀ W v, Dr wr W → v = eraseByte cut (bitsAt s.mask (32 * k + i)) (((s.pages.getD pn []).getD k []).getD i 0) → RAt (W.setCell ⟨q.1, k * 32 + i, none⟩ (.int .u8 (v.toNat : Int))) F ((s.eraSt pn k).setCell pn k (mixd (eraseCell cut s.mask k ((s.pages.getD pn []).getD k [])) ((s.pages.getD pn []).getD k []) (i + 1)))) := fun W v d hv => HBYh.out W k i hlt (by rw [hcN.out]; omega) hil (hra.out.dr d) v hv
              generalize bitsAt s.mask (32 * k + i) = mb at *
              generalize ((s.pages.getD pn []).getD k []).getD i 0 = wb at *
              cases cut
              · go_wp2
                have sb := SameBut.setCell q.1 (k * 32 + i) (.int .u8 255) wr
                exact ⟨⟨i + 1, by omega, by go_num, HV.out wr 255#8 (Dr.refl _) rfl, kl.but sb (.inl hqm)⟩, by simp [intOf]; omega⟩
              · have f1 := bits8_or wb mb
                go_wp2
                go_quiet ((go_at_call 71; first | exact Calls.quiet_of (HB.out _ ⟨_, rfl⟩) | exact quiet_sum (HB.out _ ⟨_, rfl⟩)))
                go_wp2
                have hv : wb.toNat ||| mb.toNat = (wb ||| mb).toNat := by simp
                rw [hv]
                have d : Dr wr (wr.drewN nq) := ⟨nq, rfl⟩
                have sb := SameBut.setCell q.1 (k * 32 + i) (.int .u8 ((wb ||| mb).toNat : Int)) (wr.drewN nq)
                exact ⟨⟨i + 1, by omega, by go_num, HV.out _ _ d rfl, (kl.dr d).but sb (.inl hqm)⟩, by simp [intOf]; omega⟩
            · obtain rfl : i = 32 := by omega
              have z1 : ¬ ((32 : Nat) : Int) < 32 := by omega
              have hnx := HOUT.out wr k hlt hra.out
              clear hil hi hra
              go_wp2
              exact ⟨⟨k + 1, by omega, by go_num, hnx, kl⟩, by simp [intOf]; omega⟩
        · obtain rfl : k = PL := by omega
          have y1 : ¬ (k : Int) < (k : Int) := by omega
          have hfin : RAt wr F (s.erase pn) := by rw [HE.out]; exact hra.out
          clear hlt hk
          cases cut
          all_goals
            go_wp2
            go_ret
            exact ⟨by rw [HRE.out]; rfl, hfin, kl⟩
  · have HP : Hid (s.erase p = s) := by show _ = _; simp [RS.erase, h0]
    generalize hf : s.at p 0 = f at *
    have HF : Hid (s.at p 0 = f) := hf
    have e1 : (f != 0) = true := by rw [bne_iff_ne]; exact h0
    clear hf
    go_enter Tryz.func51, Tryz.ntmps51
    go_wp2_with fail
    refine (at_any F s p 0 w h).mono ?_
    rw [HF.out]
    rintro e w1 ⟨rfl, rfl⟩
    go_wp2
    go_ret
    exact ⟨by rw [HR.out]; simp [RS.eraseE, HF.out, h0], by rw [HP.out]; exact h, KeptL.refl _ _⟩
end Go.Proofs.YtcpdanjbnijoiaaGreatDoor


/-! Bytes in a slice; append onto an own slice of bytes. -/
namespace Go.Proofs.YtcpdanjbnijoiaaGreatDoor
open Go.RowKit
set_option maxRecDepth 100000

theorem Tryz.infoU8 : (Tryz.prog.info? 5).map (fun i => (i.zero, i.size, i.bytes)) = some (some (.int .u8 0), 1, 1) := by kernel_rfl

/-- The slice value holds these bytes. -/
def IsB (w : World) (ao : Option Addr) (m : List By) : Prop :=
  m = [] ∨ ∃ B off, ao = some ⟨B, off, none⟩ ∧ ∀ j v, m[j]? = some v → w.cell? ⟨B, off + j, none⟩ = some (B8 v)

theorem map_B8_one (x : By) : ([x].map B8) = [.int .u8 (x.toNat : Int)] := rfl

/-- What the walk knows of the row that it appends to. -/
def Own (N : Nat) (w : World) (v : Value) (m : List By) : Prop := w.ownsRow N 5 1 v m.length (m.map B8) ∧ N ≤ w.heap.size

theorem Own.grow {N : Nat} {w w1 : World} {v : Value} {m : List By} {x : By} (h : Own N w v m) {v' : Value} {n' : Nat} {o : Obj} (hn : n' = m.length + 1)
    (ho : w1.ownsRow N 5 1 v' n' (m.map B8 ++ [.int .u8 (x.toNat : Int)])) (hg : (w.alloc o).grownBy w1 v.ownBlock) : Own N w1 v' (m ++ [x]) := by
  refine ⟨?_, ?_⟩
  · have e : (m ++ [x]).length = n' := by simp [hn]
    rw [e, List.map_append, map_B8_one]
    exact ho
  · have := hg.size; have h2 := h.2; simp at this; omega
theorem Own.below {N : Nat} {a w w1 : World} {v : Value} {m : List By} {o : Obj} (h : Own N w v m) (hb : Below N a w) (hg : (w.alloc o).grownBy w1 v.ownBlock) : Below N a w1 :=
  (hb.alloc h.2 o).grown hg (by have := h.2; simp; omega) (fun k hk => (h.1.lt k hk).1)

theorem IsB.below {w w' : World} {ao : Option Addr} {m : List By} {N : Nat} (h : IsB w ao m) (hb : Below N w w') (hN : w.heap.size ≤ N) : IsB w' ao m := by
  rcases h with h | ⟨B, off, rfl, hc⟩
  · exact .inl h
  · refine .inr ⟨B, off, rfl, fun j v hj => ?_⟩
    have h1 := hc j v hj
    rw [hb.cell (p := ⟨B, off + j, none⟩) (by have := block_lt_of_cell h1; simp at this ⊢; omega)]
    exact h1

theorem wpList_append_one {ops : Array Oper} {rest : List Oper} {o : Oper} {a : Act} {w : World} {Q : Exit → Act → World → Prop} (hgd : o.guard = none) (s x : Operand)
    (ho : o.op = .call { callee := .builtin .append, args := #[s, x], argTypes := #[40, 40] })
    (N t : Nat) (a0 : World) (v : Value) (m : List By) (y : By) (yy : Int) (hyy : yy = (y.toNat : Int)) (g0 : Nat) (hg0 : g0 = w.heap.size) (hs : a.eval s = v) (hx : a.eval x = .slice (some ⟨g0, 0, none⟩) 1 1)
    (hown : Own N w v m) (hbel : Below N a0 w) (n : Nat) (hn : m.length = n) (hm : n < 140737488355328)
    (h : ∀ g cap w', Own N w' (.slice (some ⟨g, 0, none⟩) (n + 1) cap) (m ++ [y]) → Below N a0 w' → wpList Tryz.prog ops Q rest (a.put o.dst (.slice (some ⟨g, 0, none⟩) (n + 1) cap)) w') :
    wpList Tryz.prog ops Q (o :: rest) a (w.alloc (.cells #[.int .u8 yy] t)) := by
  obtain ⟨i0, hi, hz0, hz1, hz2⟩ := info_parts Tryz.infoU8
  subst hyy
  subst hg0
  subst hn
  refine wpList_append_lies (P := Tryz.prog) _ hgd s x 40 ho N 5 i0 (.int .u8 0) 1 1 Tryz.underlying40 hi hz0 hz1 hz2 rfl (by decide) v m.length (m.map B8) hs (hown.1.alloc _) ⟨w.heap.size, 0, none⟩ 1 1 [.int .u8 (y.toNat : Int)] hx rfl (cell_one_new _ _ _) ?_ (by decide) ?_ ?_ ?_ (w.heap.size + 1) (by simp) ?_
  · intro u hu; simp at hu; subst hu; rfl
  · unfold maxLen; omega
  · omega
  · have := hown.2; simp; omega
  · intro g cap w' h1 h2 _ _
    exact h g cap w' (hown.grow rfl h1 h2) (hown.below hbel h2)

/-- 'append(dst, src...)' where dst is the call's own (or nil) and src holds known bytes. -/
theorem run_append_more (N : Nat) (a0 w : World) (ty : TypeId) (aoD : Option Addr) (nD capD : Nat) (m : List By) (hD : m.length = nD) (hown : Own N w (.slice aoD nD capD) m) (hbel : Below N a0 w)
    (ao : Option Addr) (n cap : Nat) (bs : List By) (hn : bs.length = n) (hb : IsB w ao bs) (hnil : ao = none → cap = 0) (hl : nD + n ≤ 140737488353280) :
    ∃ ao' cap' w', (Builtin.append_ #[40, 40] ty #[.slice aoD nD capD, .slice ao n cap]).run Tryz.prog w = .ok (.slice ao' (nD + n) cap') w' ∧ Own N w' (.slice ao' (nD + n) cap') (m ++ bs) ∧ Below N a0 w' ∧ w.heap.size ≤ w'.heap.size ∧ (∀ k, k < w.heap.size → k < N → w'.heap[k]? = w.heap[k]?) := by
  obtain ⟨i0, hi, hz0, hz1, hz2⟩ := info_parts Tryz.infoU8
  subst hn
  subst hD
  have hN := hown.2
  have some_case : ∀ ad : Addr, (∀ j u, (bs.map B8)[j]? = some u → w.cell? (ad.add j) = some u) → ∃ ao' cap' w', (Builtin.append_ #[40, 40] ty #[.slice aoD m.length capD, .slice (some ad) bs.length cap]).run Tryz.prog w = .ok (.slice ao' (m.length + bs.length) cap') w' ∧ Own N w' (.slice ao' (m.length + bs.length) cap') (m ++ bs) ∧ Below N a0 w' ∧ w.heap.size ≤ w'.heap.size ∧ (∀ k, k < w.heap.size → k < N → w'.heap[k]? = w.heap[k]?) := by
    intro ad hnews
    obtain ⟨v', w', h1, h2, h3, _⟩ := run_append_own (P := Tryz.prog) w N 40 ty 5 i0 (.int .u8 0) 1 1 Tryz.underlying40 hi hz0 hz1 hz2 rfl (by decide) _ m.length (m.map B8) hown.1 ad bs.length cap (bs.map B8) (by simp) hnews (B8_one bs) (by unfold maxLen; omega) (by omega) hN
    have hbk : ∀ k, k < w.heap.size → k < N → w'.heap[k]? = w.heap[k]? := fun k hk hkN => h3.block k hk (fun e => by have := (hown.1.lt k e.symm).1; omega)
    have hform : ∃ ao' cap', v' = .slice ao' (m.length + bs.length) cap' := by
      rcases h2.2 with ⟨e, e0⟩ | ⟨g, c, cur, e, _⟩
      · exact ⟨none, 0, by rw [e, e0]⟩
      · exact ⟨_, _, e⟩
    obtain ⟨ao', cap', rfl⟩ := hform
    refine ⟨ao', cap', w', h1, ⟨?_, Nat.le_trans hN h3.size⟩, hbel.grown h3 hN (fun k hk => (hown.1.lt k hk).1), h3.size, hbk⟩
    rw [List.length_append, List.map_append]; exact h2
  rcases hb with rfl | ⟨B, off, rfl, hc⟩
  · cases ao with
    | none =>
      rw [hnil rfl]
      refine ⟨aoD, capD, w, ?_, ?_, hbel, Nat.le_refl _, fun _ _ _ => rfl⟩
      · have := run_append_owned_none (P := Tryz.prog) (w := w) N 40 ty 5 i0 1 Tryz.underlying40 hi _ m.length (m.map B8) hown.1
        simpa using this
      · simpa using hown
    | some ad => exact some_case ad (by simp)
  · refine some_case _ ?_
    intro j u hu
    rw [Addr.add_mid]
    rw [List.getElem?_map] at hu
    cases hj : bs[j]? with
    | none => rw [hj] at hu; cases hu
    | some v => rw [hj] at hu; injection hu with hu; subst hu; exact hc j v hj

theorem step_append_more {ops : Array Oper} {o : Oper} {a : Act} {w : World} {K : Act → World → Prop} {Q : Exit → Act → World → Prop} {E : Prop} (hgd : o.guard = none) (s x : Operand)
    (ho : o.op = .call { callee := .builtin .append, args := #[s, x], argTypes := #[40, 40] })
    (N : Nat) (a0 : World) (aoD : Option Addr) (nD capD : Nat) (m : List By) (hs : a.eval s = .slice aoD nD capD) (hD : m.length = nD) (hown : Own N w (.slice aoD nD capD) m) (hbel : Below N a0 w)
    (ao : Option Addr) (n cap : Nat) (bs : List By) (hx : a.eval x = .slice ao n cap) (hn : bs.length = n) (hb : IsB w ao bs) (hnil : ao = none → cap = 0) (hl : nD + n ≤ 140737488353280)
    (h : ∀ ao' cap' w', Own N w' (.slice ao' (nD + n) cap') (m ++ bs) → Below N a0 w' → K (a.put o.dst (.slice ao' (nD + n) cap')) w') :
    if Region.wanted o (yielded ops a.tmps) = true then Oper.wp Tryz.prog o a w K Q else E := by
  have hw : Region.wanted o (yielded ops a.tmps) = true := by simp [Region.wanted, hgd]
  rw [if_pos hw]
  obtain ⟨ao', cap', w', hrun, h2, h3, _⟩ := run_append_more N a0 w o.type aoD nD capD m hD hown hbel ao n cap bs hn hb hnil hl
  unfold Oper.wp execOp
  simp only [ho, resolve, invoke, builtin, Sem.run_bind, Sem.run_pure, Result.andThen_ok, List.map_toArray, List.map_cons, List.map_nil, hs, hx, hrun]
  exact h ao' cap' w' h2 h3

theorem wpList_append_more {ops : Array Oper} {rest : List Oper} {o : Oper} {a : Act} {w : World} {Q : Exit → Act → World → Prop} (hgd : o.guard = none) (s x : Operand)
    (ho : o.op = .call { callee := .builtin .append, args := #[s, x], argTypes := #[40, 40] })
    (N : Nat) (a0 : World) (aoD : Option Addr) (nD capD : Nat) (m : List By) (hs : a.eval s = .slice aoD nD capD) (hD : m.length = nD) (hown : Own N w (.slice aoD nD capD) m) (hbel : Below N a0 w)
    (ao : Option Addr) (n cap : Nat) (bs : List By) (hx : a.eval x = .slice ao n cap) (hn : bs.length = n) (hb : IsB w ao bs) (hnil : ao = none → cap = 0) (hl : nD + n ≤ 140737488353280)
    (h : ∀ ao' cap' w', Own N w' (.slice ao' (nD + n) cap') (m ++ bs) → Below N a0 w' → wpList Tryz.prog ops Q rest (a.put o.dst (.slice ao' (nD + n) cap')) w') : wpList Tryz.prog ops Q (o :: rest) a w := by
  refine wpList_plain hgd fun K hK => ?_
  obtain ⟨ao', cap', w', hrun, h2, h3, _⟩ := run_append_more N a0 w o.type aoD nD capD m hD hown hbel ao n cap bs hn hb hnil hl
  unfold Oper.wp execOp
  simp only [ho, resolve, invoke, builtin, Sem.run_bind, Sem.run_pure, Result.andThen_ok, List.map_toArray, List.map_cons, List.map_nil, hs, hx, hrun]
  exact hK _ _ (h ao' cap' w' h2 h3)

theorem own_cap {N : Nat} {w : World} {ao : Option Addr} {n c : Nat} {m : List By} (h : Own N w (.slice ao n c) m) : n ≤ c := by
  rcases h.1.2 with ⟨e, _⟩ | ⟨g, cap, cur, e, _, _, h4, _⟩
  · injection e with e1 e2 e3; omega
  · injection e with e1 e2 e3; omega
theorem own_nil (N : Nat) (w : World) (h : N ≤ w.heap.size) : Own N w (.slice none 0 0) [] := ⟨World.ownsRow_nil _ _ _ _, h⟩
/-- A slice without elements, made new. -/
theorem own_empty (N : Nat) (w : World) (h : N ≤ w.heap.size) (C : Array Value) (hC : C.size = 0) : Own N (w.alloc (.cells C 5)) (.slice (some ⟨w.heap.size, 0, none⟩) 0 0) [] := by
  have hC' : C = #[] := Array.eq_empty_of_size_eq_zero hC
  subst hC'
  refine ⟨⟨by simp, .inr ⟨w.heap.size, 0, #[], rfl, h, heap_alloc_new w _, by simp, by unfold maxLen; omega, by simp, by simp⟩⟩, by simp; omega⟩

theorem own_isb {N : Nat} {w : World} {ao : Option Addr} {n c : Nat} {m : List By} (h : Own N w (.slice ao n c) m) :
    m.length = n ∧ (ao = none → c = 0) ∧ m.length ≤ c ∧ (m = [] ∨ ∃ B off, ao = some ⟨B, off, none⟩ ∧ N ≤ B ∧ B < w.heap.size ∧ ∀ j v, m[j]? = some v → w.cell? ⟨B, off + j, none⟩ = some (B8 v)) := by
  have h1 := h.1
  rcases h.1.2 with ⟨e, e2⟩ | ⟨g, cap, cur, e, h2, h3, h4, _⟩
  · injection e with e1 e3 e4
    subst e4
    refine ⟨by omega, fun _ => rfl, by omega, .inl (List.length_eq_zero_iff.1 e2)⟩
  · injection e with e1 e3 e4
    subst e1
    subst e4
    refine ⟨e3.symm, (fun hh => by cases hh), h4, .inr ⟨g, 0, rfl, h2, (h1.lt g rfl).2, ?_⟩⟩
    intro j v hj
    have hjl : j < m.length := (List.getElem?_eq_some_iff.1 hj).1
    subst e3
    rw [Nat.zero_add, h1.cellAt j (by omega), List.getElem?_map, hj]; rfl

theorem own_IsB {N : Nat} {w : World} {ao : Option Addr} {n c : Nat} {m : List By} (h : Own N w (.slice ao n c) m) : IsB w ao m := by
  rcases (own_isb h).2.2.2 with h1 | ⟨B, off, h1, _, _, h2⟩
  · exact .inl h1
  · exact .inr ⟨B, off, h1, h2⟩
theorem own_form {N : Nat} {w : World} {v : Value} {m : List By} (h : Own N w v m) : ∃ ao c, v = .slice ao m.length c := by
  rcases h.1.2 with ⟨e, e0⟩ | ⟨g, c, cur, e, _⟩
  · exact ⟨none, 0, by rw [e, e0]⟩
  · exact ⟨_, _, e⟩
/-- What leaves all blocks from N on alone that are there leaves the row. -/
theorem Own.keep {N : Nat} {w w' : World} {v : Value} {m : List By} (h : Own N w v m) (hb : Below w.heap.size w w') : Own N w' v m := by
  refine ⟨⟨h.1.1, ?_⟩, Nat.le_trans h.2 hb.size⟩
  rcases h.1.2 with hn | ⟨g, cap, cur, e, h1, h2, h3⟩
  · exact .inl hn
  · refine .inr ⟨g, cap, cur, e, h1, ?_, h3⟩
    have hl : g < w.heap.size := (Array.getElem?_eq_some_iff.1 h2).1
    exact (hb.block g hl).trans h2
end Go.Proofs.YtcpdanjbnijoiaaGreatDoor
