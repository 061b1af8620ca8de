
import Derived.Test.YtcpdanjbnijoiaaGreatDoorR4Set
/-! The reference's Program. -/
namespace Go.Proofs.YtcpdanjbnijoiaaGreatDoor
open Go.RowKit

theorem bv8_ofInt (x : By) : BitVec.ofInt 8 (x.toNat : Int) = x := by
  rw [BitVec.ofInt_natCast, BitVec.ofNat_toNat, BitVec.setWidth_eq]
theorem bits8_or (x y : By) : bits .or .u8 (x.toNat : Int) (y.toNat : Int) = ((x ||| y).toNat : Int) := by
  show IntKind.u8.wrap ((BitVec.ofInt 8 (x.toNat : Int) ||| BitVec.ofInt 8 (y.toNat : Int)).toNat : Int) = _
  rw [bv8_ofInt, bv8_ofInt, IntKind.wrap_u8']
  have := b8_lt (x ||| y)
  omega
theorem bits8_and (x y : By) : bits .and .u8 (x.toNat : Int) (y.toNat : Int) = ((x &&& y).toNat : Int) := by
  show IntKind.u8.wrap ((BitVec.ofInt 8 (x.toNat : Int) &&& BitVec.ofInt 8 (y.toNat : Int)).toNat : Int) = _
  rw [bv8_ofInt, bv8_ofInt, IntKind.wrap_u8']
  have := b8_lt (x &&& y)
  omega
theorem bits8_andNot (x y : By) : bits .andNot .u8 (x.toNat : Int) (y.toNat : Int) = ((x &&& ~~~y).toNat : Int) := by
  show IntKind.u8.wrap ((BitVec.ofInt 8 (x.toNat : Int) &&& ~~~(BitVec.ofInt 8 (y.toNat : Int))).toNat : Int) = _
  rw [bv8_ofInt, bv8_ofInt, IntKind.wrap_u8']
  have := b8_lt (x &&& ~~~y)
  omega

def progByte (cut : Bool) (m was x : By) : By := if cut then (was &&& ~~~m) ||| ((was &&& x) &&& m) else was &&& x
def progCell (cut : Bool) (mask was x : List By) : List By := (List.range 32).map fun i => progByte cut (bitsAt mask i) (was.getD i 0) (x.getD i 0)
def RS.program (s : RS) (p c : Int) (x : List By) : RS := if s.at p c = 0 then s.act.setCell p.toNat c.toNat (progCell s.cut s.mask (s.cell p.toNat c.toNat) x) else s
def RS.programE (s : RS) (p c : Int) : Int := if s.at p c = 0 then (if s.cut then 8 else 0) else s.at p c

/-- The first k of new bytes, old ones behind them. -/
def mixd (new was : List By) (k : Nat) : List By := new.take k ++ was.drop k
theorem mixd_set (new was : List By) (k : Nat) (hn : new.length = 32) (hw : was.length = 32) (hk : k < 32) : (mixd new was k).set k (new.getD k 0) = mixd new was (k + 1) := by
  unfold mixd
  have hl : (new.take k).length = k := by simp; omega
  rw [List.set_append_right _ _ (by omega), hl, Nat.sub_self, List.drop_eq_getElem_cons (by omega), List.set_cons_zero, List.take_add_one, List.getElem?_eq_getElem (by omega), List.getD_eq_getElem?_getD, List.getElem?_eq_getElem (by omega), List.append_assoc]; rfl
theorem progCell_len (cut : Bool) (mask was x : List By) : (progCell cut mask was x).length = 32 := by simp [progCell]
theorem progCell_get (cut : Bool) (mask was x : List By) (k : Nat) (hk : k < 32) : (progCell cut mask was x).getD k 0 = progByte cut (bitsAt mask k) (was.getD k 0) (x.getD k 0) := by
  unfold progCell
  rw [List.getD_eq_getElem?_getD, List.getElem?_map, List.getElem?_range hk]; rfl
theorem cell_setCell (s : RS) (p c : Nat) (x : List By) (hp : p < s.pages.length) (hc : c < (s.pages.getD p []).length) : (s.setCell p c x).cell p c = x := by
  unfold RS.cell
  rw [List.getD_eq_getElem?_getD (l := (s.setCell p c x).pages), setCell_pages, if_pos ⟨rfl, hp⟩, Option.getD_some, List.getD_eq_getElem?_getD, List.getElem?_set_self hc]; rfl
theorem setCell_setCell (s : RS) (p c : Nat) (x y : List By) (hp : p < s.pages.length) : (s.setCell p c x).setCell p c y = s.setCell p c y := by
  have e : (s.setCell p c x).pages.getD p [] = (s.pages.getD p []).set c x := by
    rw [List.getD_eq_getElem?_getD (l := (s.setCell p c x).pages), setCell_pages, if_pos ⟨rfl, hp⟩]; rfl
  unfold RS.setCell at e ⊢
  simp only at e ⊢
  rw [e, List.set_set, List.set_set]
theorem setCell_self (s : RS) (p c : Nat) (hp : p < s.pages.length) (hc : c < (s.pages.getD p []).length) : s.setCell p c (s.cell p c) = s := by
  have e1 : (s.pages.getD p []).set c (s.cell p c) = s.pages.getD p [] := by
    unfold RS.cell
    generalize s.pages.getD p [] = l at *
    rw [List.getD_eq_getElem?_getD, List.getElem?_eq_getElem hc]
    exact List.set_getElem_self hc
  have e2 : s.pages.set p (s.pages.getD p []) = s.pages := by
    rw [List.getD_eq_getElem?_getD, List.getElem?_eq_getElem hp]
    exact List.set_getElem_self hp
  unfold RS.setCell
  rw [e1, e2]

/-- A callee that only draws, met behind an earlier draw. -/
theorem quiet_sum {P : Program} {f : FuncId} {args : Array Value} {w : World} {k n : Nat} {v : Value}
    (h : Calls P f args (w.drewN (k + n)) fun e w' => e = .returned v ∧ ∃ m, w' = (w.drewN (k + n)).drewN m) : Calls P f args (w.drewN (k + n)) fun e w'' => e = .returned v ∧ ∃ m, w'' = w.drewN (k + m) :=
  h.mono fun _ _ ⟨he, m, hm⟩ => ⟨he, n + m, by rw [hm, World.drewN_drewN, Nat.add_assoc]⟩

set_option maxHeartbeats 2000000 in
set_option maxRecDepth 100000 in
theorem program_any (F : RF) (s : RS) (p c : Int) (x : List By) (hx : x.length = 32) (w : World) (h : RAt w F s) (hn0 : 0 ≤ s.n) (hn : s.n < 4611686018427387904) (hw : s.wait < 9223372036854775808) :
    Calls Tryz.prog 72 #[.pointer (some ⟨F.g, 0, none⟩), .int .i64 p, .int .i64 c, .agg (x.map B8).toArray] w fun e w' => e = .returned (.int .i64 (s.programE p c)) ∧ RAt w' F (s.program p c x) ∧ KeptL F.blocks w w' := by
  have b0 : ∀ o1, Below w.heap.size w (w.alloc o1) := fun o1 => (Below.refl _ _).alloc (Nat.le_refl _) _
  have ha : ∀ o1, RAt (w.alloc o1) F s := fun o1 => h.keep (fun B hB => Below.heap_alloc w o1 B (h.blt B hB))
  have HA : Hid (∀ o1, RAt (w.alloc o1) F s) := ha
  have BLT : Hid (∀ B ∈ F.blocks, B < w.heap.size) := h.blt
  have hgl : F.g < w.heap.size := h.row.lt
  have rx := Row.at w 55 (x.map B8) _ _ rfl rfl
  obtain ⟨res, hres⟩ : ∃ r, r = s.programE p c := ⟨_, rfl⟩
  rw [← hres]
  have HR : Hid (res = s.programE p c) := hres
  clear hres ha
  by_cases h0 : s.at p c = 0
  · obtain ⟨_, i1, i2, i3, i4⟩ := at_zero h0
    obtain ⟨pn, rfl⟩ := Int.eq_ofNat_of_zero_le i1
    obtain ⟨cn, rfl⟩ := Int.eq_ofNat_of_zero_le i3
    have hpl : pn < s.pages.length := by omega
    obtain ⟨k1, k2⟩ := h.ok.pgLen pn hpl
    have hcl : cn < (s.pages.getD pn []).length := by omega
    have hpg : Hid (s.pages.length ≤ 130 ∧ s.c.cells ≤ 256) := ⟨h.ok.pg, h.ok.c2⟩
    have hw32 : (s.cell pn cn).length = 32 := by
      unfold RS.cell
      rw [List.getD_eq_getElem?_getD, List.getElem?_eq_getElem hcl]
      exact k2 _ (List.getElem_mem _)
    have HP : Hid (s.program pn cn x = s.act.setCell pn cn (progCell s.cut s.mask (s.cell pn cn) x)) := by show _ = _; simp [RS.program, h0]
    obtain ⟨q, hq, _, pr0, hqm, hqg, hqp⟩ := h.pageAt pn hpl
    have hqlt : q.1 < w.heap.size := pr0.lt
    have HQ : Hid (F.ps[pn]? = some q) := hq
    clear pr0 hq
    go_enter Tryz.func72, Tryz.ntmps72
    go_wp2_with fail
    refine (at_any F s pn cn _ (HA.out _)).mono ?_
    rw [h0]
    rintro e w1 ⟨rfl, hw1⟩
    have r1 : Row w1 w.heap.size 55 (x.map B8) := by rw [hw1]; exact rx
    have ra1 : RAt w1 F s := by rw [hw1]; exact HA.out _
    have kl1 : KeptL F.blocks w w1 := by rw [hw1]; exact (KeptL.refl _ _).below (b0 _) (Nat.le_refl _)
    have hz1 : w.heap.size < w1.heap.size := r1.lt
    clear hw1 rx
    go_wp2_with fail
    refine (act_any F s w1 ra1 hn0 hn hw).mono ?_
    rintro e w2 ⟨rfl, ra2, sb2⟩
    have r2 := r1.but sb2 (by omega)
    have kl2 := kl1.but sb2 (.inl (by simp [RF.blocks]))
    have hz2 : w.heap.size < w2.heap.size := r2.lt
    clear r1 ra1 kl1 sb2 hn0 hn hw h
    have HCUT : Hid (res = (if s.cut = true then 8 else 0)) := by show _ = _; rw [HR.out]; simp [RS.programE, h0]
    generalize s.cut = cut at *
    have c7 := ra2.cPages
    obtain ⟨q', hq', cp, pr, _, _, _⟩ := ra2.pageAt pn hpl
    obtain rfl : q = q' := by have h1 := HQ.out; rw [hq'] at h1; injection h1 with h1; exact h1.symm
    replace c7 : w2.cell? ⟨F.g, 7, none⟩ = some (.slice (some ⟨F.pB, 0, none⟩) s.pages.length F.pcap) := c7
    replace cp : w2.cell? ⟨F.pB, pn, none⟩ = some (.slice (some ⟨q.1, 0, none⟩) (s.pages.getD pn []).length q.2) := cp
    obtain ⟨rst, rp⟩ := pr
    have HRP : Hid (Row w2 q.1 55 ((s.pages.getD pn []).flatten.map B8 ++ rst)) := rp
    have hseg : (((s.pages.getD pn []).flatten.map B8 ++ rst).drop (cn * 32)).take 32 = (s.cell pn cn).map B8 := by
      have hfl := flat_len _ k2
      rw [Nat.mul_comm, List.drop_append_of_le_length (by rw [List.length_map, hfl]; omega), List.take_append_of_le_length (by rw [List.length_drop, List.length_map, hfl]; omega), ← List.map_drop, ← List.map_take, flat_seg _ k2 cn hcl]; rfl
    have HSEG : Hid ((((s.pages.getD pn []).flatten.map B8 ++ rst).drop (cn * 32)).take 32 = (s.cell pn cn).map B8) := hseg
    have i5 : (cn : Int) < ((s.pages.getD pn []).length : Int) := by omega
    have HS0 : Hid (RAt w2 F (s.act.setCell pn cn (mixd (progCell cut s.mask (s.cell pn cn) x) (s.cell pn cn) 0))) := by
      have : s.act.setCell pn cn (mixd (progCell cut s.mask (s.cell pn cn) x) (s.cell pn cn) 0) = s.act := setCell_self s.act pn cn hpl hcl
      rw [this]; exact ra2
    have HST : Hid (∀ W k v, RAt W F (s.act.setCell pn cn (mixd (progCell cut s.mask (s.cell pn cn) x) (s.cell pn cn) k)) → k < 32 → v = (progCell cut s.mask (s.cell pn cn) x).getD k 0 → RAt (W.setCell ⟨q.1, cn * 32 + k, none⟩ (.int .u8 (v.toNat : Int))) F (s.act.setCell pn cn (mixd (progCell cut s.mask (s.cell pn cn) x) (s.cell pn cn) (k + 1)))) := by
      intro W k v hW hk hv
      have hp' : pn < (s.act.setCell pn cn (mixd (progCell cut s.mask (s.cell pn cn) x) (s.cell pn cn) k)).pages.length := by unfold RS.setCell; simp only [List.length_set]; exact hpl
      have h1 := hW.setByte pn cn k hp' i4 hk q HQ.out v
      rw [cell_setCell s.act pn cn _ hpl hcl, setCell_setCell s.act pn cn _ _ hpl, hv, mixd_set _ _ k (progCell_len _ _ _ _) hw32 hk] at h1
      rw [hv]; exact h1
    have HFA : Hid (∀ W k, RAt W F (s.act.setCell pn cn (mixd (progCell cut s.mask (s.cell pn cn) x) (s.cell pn cn) k)) → k < 32 → W.cell? ⟨F.g, 7, none⟩ = some (.slice (some ⟨F.pB, 0, none⟩) s.pages.length F.pcap) ∧ W.cell? ⟨F.pB, pn, none⟩ = some (.slice (some ⟨q.1, 0, none⟩) (s.pages.getD pn []).length q.2) ∧ (∃ v0, W.cell? ⟨q.1, cn * 32 + k, none⟩ = some v0) ∧ W.frozen? ⟨q.1, cn * 32 + k, none⟩ = false) := by
      intro W k hW hk
      have hp' : pn < (s.act.setCell pn cn (mixd (progCell cut s.mask (s.cell pn cn) x) (s.cell pn cn) k)).pages.length := by unfold RS.setCell; simp only [List.length_set]; exact hpl
      have c7 := hW.cPages
      obtain ⟨q', hq', cp, pr, _, _, _⟩ := hW.pageAt pn hp'
      obtain rfl : q = q' := by have h1 := HQ.out; rw [hq'] at h1; injection h1 with h1; exact h1.symm
      have hpe : (s.act.setCell pn cn (mixd (progCell cut s.mask (s.cell pn cn) x) (s.cell pn cn) k)).pages.getD pn [] = (s.pages.getD pn []).set cn (mixd (progCell cut s.mask (s.cell pn cn) x) (s.cell pn cn) k) := by
        rw [List.getD_eq_getElem?_getD (l := (RS.setCell _ _ _ _).pages), setCell_pages, if_pos ⟨rfl, hpl⟩]; rfl
      rw [hpe, List.length_set] at cp
      have hpn : (s.act.setCell pn cn (mixd (progCell cut s.mask (s.cell pn cn) x) (s.cell pn cn) k)).pages.length = s.pages.length := by unfold RS.setCell; simp [RS.act]
      rw [hpn] at c7
      obtain ⟨u1, u2⟩ := hW.ok.pgLen pn hp'
      refine ⟨c7, cp, ⟨_, pr.cell (cn * 32 + k) _ (List.getElem?_eq_getElem (by rw [List.length_map, flat_len _ u2, hpe, List.length_set]; omega))⟩, pr.frozen _⟩
    have hnl := progCell_len cut s.mask (s.cell pn cn) x
    have HGET : Hid (∀ k, k < 32 → (progCell cut s.mask (s.cell pn cn) x).getD k 0 = progByte cut (bitsAt s.mask k) ((s.cell pn cn).getD k 0) (x.getD k 0)) := fun k hk => progCell_get _ _ _ _ k hk
    have HEND : Hid (mixd (progCell cut s.mask (s.cell pn cn) x) (s.cell pn cn) 32 = progCell cut s.mask (s.cell pn cn) x) := by
      show _ = _
      unfold mixd
      rw [List.take_of_length_le (by omega), List.drop_eq_nil_of_le (by omega), List.append_nil]
    have HMASK : Hid (∀ k, (s.act.setCell pn cn (mixd (progCell cut s.mask (s.cell pn cn) x) (s.cell pn cn) k)).mask = s.mask) := fun k => rfl
    generalize progCell cut s.mask (s.cell pn cn) x = NEW at *
    generalize hPL : (s.pages.getD pn []).length = PL at *
    generalize hWS : s.cell pn cn = WAS at *
    generalize (s.pages.getD pn []).flatten.map B8 ++ rst = RR at *
    clear hseg rp hq' k1 k2 hPL hWS ra2
    generalize hWB : w2.heap.size = WB at *
    go_wp2_with (first
      | (refine wpList_load_part rfl 55 _ rfl q.1 (cn * 32) 55 32 RR HRP.out rfl _ (WAS.map B8) HSEG.out (by rw [List.length_map]; exact hw32) Tryz.underlying55 rfl (by kernel_rfl) ?_)
      | (refine wpList_store_Row rfl 55 _ _ rfl WB 55 0 ((List.replicate 32 (0 : By)).map B8) (WAS.map B8) (Row.at _ _ _ _ _ hWB.symm rfl) (by simp [hw32]) rfl rfl (by rw [List.length_map, hw32]; kernel_rfl) (B8_one _) ?_; intro w3 hr3 hs3))
    have rw3 := row_whole hr3 (by simp [hw32])
    have bl3 : Below w2.heap.size w2 w3 := hs3.below ((Below.refl _ _).alloc (Nat.le_refl _) _) (by omega)
    have rx3 := r2.below bl3 (by omega)
    have kl3 := kl2.below bl3 (by omega)
    have hs3' : Hid (RAt w3 F (s.act.setCell pn cn (mixd NEW WAS 0))) := HS0.out.keep (fun B hB => bl3.block B (by have := BLT.out B hB; omega))
    clear hr3 hs3 bl3 r2 kl2 HS0 c7 cp HSEG HRP
    go_loopw [12] (fun i wr => ∃ k : Nat, k ≤ 32 ∧ i = .int .i64 k ∧ Hid (RAt wr F (s.act.setCell pn cn (mixd NEW WAS k))) ∧ Row wr w.heap.size 55 (x.map B8) ∧ Row wr WB 55 (WAS.map B8) ∧ KeptL F.blocks w wr) (fun i _ => 32 - (intOf i).toNat)
    case atStart => exact ⟨0, by omega, rfl, hs3', rx3, rw3, kl3⟩
    case round =>
      clear hs3' rx3 rw3 kl3
      obtain ⟨k, hk, rfl, hra, rx, rws, kl⟩ := hrel
      by_cases hlt : k < 32
      · have y0 : (0 : Int) ≤ (k : Int) := by omega
        have y1 : (k : Int) < 32 := by omega
        have cx : wr.cell? ⟨w.heap.size, k, none⟩ = some (.int .u8 ((x.getD k 0).toNat : Int)) := rx.cell k _ (by rw [List.getElem?_map, List.getD_eq_getElem?_getD, List.getElem?_eq_getElem (by omega)]; rfl)
        have cw : wr.cell? ⟨WB, k, none⟩ = some (.int .u8 ((WAS.getD k 0).toNat : Int)) := rws.cell k _ (by rw [List.getElem?_map, List.getD_eq_getElem?_getD, List.getElem?_eq_getElem (by omega)]; rfl)
        obtain ⟨c7, cp, ⟨v0, cv⟩, fv⟩ := HFA.out wr k hra.out hlt
        have HG := HGET.out k hlt
        obtain ⟨nb, hnb⟩ : ∃ nb, nb = NEW.getD k 0 := ⟨_, rfl⟩
        rw [← hnb] at HG
        have HNB : Hid (nb = NEW.getD k 0) := hnb
        clear hnb
        have HBI : Hid (∀ W, Dr wr W → Calls Tryz.prog 71 #[.pointer (some ⟨F.g, 0, none⟩), .int .i64 (k : Int)] W fun e w' => e = .returned (.int .u8 ((bitsAt s.mask k).toNat : Int)) ∧ ∃ m, w' = W.drewN m) := fun W d => bits_any F (s.act.setCell pn cn (mixd NEW WAS k)) k W (hra.out.dr d)
        generalize bitsAt s.mask k = mb at *
        generalize WAS.getD k 0 = wb at *
        generalize x.getD k 0 = xb at *
        have HG' : Hid (nb = progByte cut mb wb xb) := HG
        clear HG
        have HST' : Hid (∀ W, Dr wr W → RAt (W.setCell ⟨q.1, cn * 32 + k, none⟩ (.int .u8 (nb.toNat : Int))) F (s.act.setCell pn cn (mixd NEW WAS (k + 1)))) := fun W d => HST.out W k nb (hra.out.dr d) hlt HNB.out
        cases cut
        · have f1 := bits8_and wb xb
          go_wp2
          go_quiet (fail)
          go_wp2
          have hv : nb.toNat = wb.toNat &&& xb.toNat := by rw [HG'.out]; simp [progByte]
          rw [← hv]
          have d : Dr wr (wr.drewN nq) := ⟨nq, rfl⟩
          have sb := SameBut.setCell q.1 (cn * 32 + k) (.int .u8 (nb.toNat : Int)) (wr.drewN nq)
          exact ⟨⟨k + 1, by omega, by go_num, HST'.out _ d, (rx.dr d).but sb (by omega), (rws.dr d).but sb (by omega), (kl.dr d).but sb (.inl hqm)⟩, by simp [intOf]; omega⟩
        · have f1 := bits8_and wb xb
          have f2 := bits8_andNot wb mb
          go_wp2
          go_quiet (fail)
          go_wp2
          go_quiet ((go_at_call 71; exact quiet_sum (HBI.out _ ⟨_, rfl⟩)))
          go_wp2
          have hv : bits .or .u8 ((wb.toNat &&& (255 - mb.toNat) : Nat) : Int) (bits .and .u8 ((wb.toNat &&& xb.toNat : Nat) : Int) (mb.toNat : Int)) = (nb.toNat : Int) := by
            have e1 : wb.toNat &&& (255 - mb.toNat) = (wb &&& ~~~mb).toNat := by simp [BitVec.toNat_and, BitVec.toNat_not]
            have e2 : wb.toNat &&& xb.toNat = (wb &&& xb).toNat := by simp
            rw [e1, e2, bits8_and, bits8_or, HG'.out]; rfl
          rw [hv]
          have d : ∀ n, Dr wr (wr.drewN n) := fun n => ⟨n, rfl⟩
          have sb := fun n => SameBut.setCell q.1 (cn * 32 + k) (.int .u8 (nb.toNat : Int)) (wr.drewN n)
          exact ⟨⟨k + 1, by omega, by go_num, HST'.out _ (d _), (rx.dr (d _)).but (sb _) (by omega), (rws.dr (d _)).but (sb _) (by omega), (kl.dr (d _)).but (sb _) (.inl hqm)⟩, by simp [intOf]; omega⟩
      · obtain rfl : k = 32 := by omega
        have y1 : ¬ ((32 : Nat) : Int) < 32 := by omega
        have hra' : RAt wr F (s.program pn cn x) := by rw [HP.out, ← HEND.out]; exact hra.out
        clear hlt hk
        cases cut
        · go_wp2
          go_ret
          exact ⟨by rw [HCUT.out]; rfl, hra', kl⟩
        · go_wp2
          go_ret
          exact ⟨by rw [HCUT.out]; rfl, hra', kl⟩
  · have HP : Hid (s.program p c x = s) := by show _ = _; simp [RS.program, h0]
    generalize hf : s.at p c = f at *
    have HF : Hid (s.at p c = f) := hf
    have e1 : (f != 0) = true := by rw [bne_iff_ne]; exact h0
    clear hf
    go_enter Tryz.func72, Tryz.ntmps72
    go_wp2_with fail
    refine (at_any F s p c _ (HA.out _)).mono ?_
    rw [HF.out]
    rintro e w1 ⟨rfl, rfl⟩
    go_wp2
    go_ret
    exact ⟨by rw [HR.out]; simp [RS.programE, HF.out, h0], by rw [HP.out]; exact HA.out _, (KeptL.refl _ _).below (b0 _) (Nat.le_refl _)⟩
end Go.Proofs.YtcpdanjbnijoiaaGreatDoor
