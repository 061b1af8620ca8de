
import Derived.Test.YtcpdanjbnijoiaaDoorC4Low
import Derived.StillTailTactics
/-! The code's chip: Read, Program. -/
namespace Go.Proofs.YtcpdanjbnijoiaaDoor
open Go.RowKit

set_option maxHeartbeats 1000000 in
set_option maxRecDepth 100000 in
theorem cread_any (F : RF) (s : RS) (S : ByteArray) (p c : Int) (w : World) (h : CAt w F s S) :
    Calls Tryd.prog 15 #[.pointer (some ⟨F.g, 0, none⟩), .int .i64 p, .int .i64 c] w fun e w' => e = .returned (.tuple #[.agg ((if s.at p c = 0 then s.cell p.toNat c.toNat else List.replicate 32 0).map B8).toArray, .int .i64 (s.at p c)]) ∧ Below w.heap.size w w' := by
  have b0 : ∀ o1, Below w.heap.size w (w.alloc o1) := fun o1 => (Below.refl _ _).alloc (Nat.le_refl _) _
  have r0 := Row.at w 40 ((List.replicate 32 (0 : By)).map B8) _ _ rfl rfl
  have ha : ∀ o1, CAt (w.alloc o1) F s S := fun o1 => h.keep (fun B hB => Below.heap_alloc w o1 B (h.blt B hB))
  have HA : Hid (∀ o1, CAt (w.alloc o1) F s S) := ha
  by_cases h0 : s.at p c = 0
  · obtain ⟨_, i1, i2, i3, i4⟩ := at_zero h0
    rw [h0, if_pos rfl]
    obtain ⟨pn, rfl⟩ := Int.eq_ofNat_of_zero_le i1
    obtain ⟨cn, rfl⟩ := Int.eq_ofNat_of_zero_le i3
    simp only [Int.toNat_natCast]
    have hpl : pn < s.pages.length := by omega
    obtain ⟨k1, k2⟩ := h.ok.pgLen pn hpl
    have hx32 : (s.cell pn cn).length = 32 := by
      unfold RS.cell
      rw [List.getD_eq_getElem?_getD, List.getElem?_eq_getElem (by omega)]
      exact k2 _ (List.getElem_mem _)
    have c7 := fun o1 => (ha o1).cPages
    obtain ⟨q, hq, cp, pr, _, _, _⟩ := h.pageAt pn hpl
    have hqB : q.1 < w.heap.size := pr.lt
    have hpB : F.pB < w.heap.size := h.pg.lt
    replace cp := fun o1 => ((b0 o1).cell (p := ⟨F.pB, pn, none⟩) hpB).trans cp
    obtain ⟨rst, rp⟩ := pr
    have HRP : Hid (∀ o1, Row (w.alloc o1) q.1 40 ((s.pages.getD pn []).flatten.map B8 ++ rst)) := fun o1 => rp.alloc o1
    have hseg : (((s.pages.getD pn []).flatten.map B8 ++ rst).drop (32 * cn)).take 32 = (s.cell pn cn).map B8 := by
      have hfl := flat_len _ k2
      rw [List.drop_append_of_le_length (by rw [List.length_map, hfl]; omega), List.take_append_of_le_length (by rw [List.length_drop, List.length_map, hfl]; omega), ← List.map_drop, ← List.map_take, flat_seg _ k2 cn (by omega)]; rfl
    have HSEG : Hid ((((s.pages.getD pn []).flatten.map B8 ++ rst).drop (cn * 32)).take 32 = (s.cell pn cn).map B8) := by rw [Nat.mul_comm]; exact hseg
    have i5 : (cn : Int) < ((s.pages.getD pn []).length : Int) := by omega
    generalize hPL : (s.pages.getD pn []).length = PL at *
    generalize s.cell pn cn = X at *
    generalize (s.pages.getD pn []).flatten.map B8 ++ rst = RR at *
    clear k1 k2 hseg rp hq ha hPL
    go_enter Tryd.func15, Tryd.ntmps15
    go_wp2_with fail
    refine (caskCell_any F s S pn cn _ (HA.out _)).mono ?_
    rw [h0]
    rintro e w1 ⟨rfl, rfl⟩
    go_wp2_with (first
      | (refine wpList_load_part rfl 40 _ rfl q.1 (cn * 32) 40 32 RR (HRP.out _) rfl _ (X.map B8) HSEG.out (by rw [List.length_map]; exact hx32) Tryd.underlying40 rfl (by kernel_rfl) ?_)
      | (refine wpList_store_Row rfl 40 _ _ rfl _ _ 0 _ (X.map B8) r0 (by simp [hx32]) rfl rfl (by rw [List.length_map, hx32]; kernel_rfl) (B8_one _) ?_; intro w9 hr9 hs9))
    have hr := row_whole hr9 (by simp [hx32])
    exact bodyPost_ret_by (results_Row_tmp Tryd.results15 _ w9 w.heap.size 40 _ _ rfl hr Tryd.underlying40 rfl (by rw [List.length_map, hx32]; kernel_rfl)) rfl ⟨rfl, hs9.below (b0 _) (Nat.le_refl _)⟩
  · rw [if_neg h0]
    generalize hf : s.at p c = f at *
    have HF : Hid (s.at p c = f) := hf
    have e1 : (f != 0) = true := by rw [bne_iff_ne]; exact h0
    clear hf ha
    go_enter Tryd.func15, Tryd.ntmps15
    go_wp2_with fail
    refine (caskCell_any F s S p c _ (HA.out _)).mono ?_
    rw [HF.out]
    rintro e w1 ⟨rfl, rfl⟩
    go_wp2_with (refine wpList_store_Row rfl 40 _ _ rfl _ _ 0 _ ((List.replicate 32 (0 : By)).map B8) r0 (by simp) rfl rfl (by kernel_rfl) (B8_one _) ?_; intro w9 hr9 hs9)
    have hr := row_whole hr9 (by simp)
    exact bodyPost_ret_by (results_Row_tmp Tryd.results15 _ w9 w.heap.size 40 _ _ rfl hr Tryd.underlying40 rfl (by kernel_rfl)) rfl ⟨rfl, hs9.below (b0 _) (Nat.le_refl _)⟩

theorem low_cut (m was x : By) : was &&& (x ||| ~~~m) = (was &&& ~~~m) ||| ((was &&& x) &&& m) := by
  apply BitVec.eq_of_getLsbD_eq
  intro i hi
  simp only [BitVec.getLsbD_and, BitVec.getLsbD_or, BitVec.getLsbD_not, hi, decide_true, Bool.true_and]
  cases was.getLsbD i <;> cases x.getLsbD i <;> cases m.getLsbD i <;> rfl
theorem low_whole (was x : By) : was &&& (x ||| ~~~255#8) = was &&& x := by
  have : (~~~255#8 : By) = 0#8 := by decide
  rw [this]; simp
theorem low_prog (s : RS) (m was x : List By) (hc : 1 ≤ s.c.cells) (hm : ∀ i : Nat, (i : Int) < 32 * s.c.cells → bitsAt m i = if s.cut then bitsAt s.mask i else 255#8) : lowCell m was x = progCell s.cut s.mask was x := by
  unfold lowCell progCell
  apply List.map_congr_left
  intro i hi
  rw [List.mem_range] at hi
  rw [hm i (by omega)]
  unfold progByte
  cases s.cut
  · exact low_whole _ _
  · exact low_cut _ _ _

theorem KeptL.sub {L L' : List Nat} {w w' : World} (h : KeptL L w w') (hs : ∀ b ∈ L, b ∈ L') : KeptL L' w w' :=
  ⟨h.os, h.tape, h.output, h.size, fun k hk hn => h.block k hk (fun hm => hn (hs k hm))⟩

def CPost (F : RF) (s' : RS) (r : Int) (w : World) (e : Ending) (w' : World) : Prop := e = .returned (.int .i64 r) ∧ (∃ S', CAt w' F s' S') ∧ KeptL F.blocks w w'

/-- A cell of a page, laid over. -/
theorem putAt_cell (pg : List (List By)) (rst : List Value) (c : Nat) (x : List By) (h8 : ∀ y ∈ pg, y.length = 32) (hc : c < pg.length) (hx : x.length = 32) : putAt (pg.flatten.map B8 ++ rst) (c * 32) (x.map B8) = (pg.set c x).flatten.map B8 ++ rst := by
  have key : ∀ (l : List (List By)) (c : Nat), (∀ y ∈ l, y.length = 32) → c < l.length → l.flatten.take (c * 32) ++ x ++ l.flatten.drop (c * 32 + 32) = (l.set c x).flatten := by
    intro l
    induction l with
    | nil => intro c _ h; simp at h
    | cons y l ih =>
      intro c h h2
      have hy := h y (by simp)
      cases c with
      | zero => rw [List.flatten_cons, Nat.zero_mul, List.take_zero, List.nil_append, Nat.zero_add, List.drop_left' hy, List.set_cons_zero, List.flatten_cons]
      | succ c =>
        have := ih c (fun z hz => h z (by simp [hz])) (by simpa using h2)
        rw [List.flatten_cons, List.set_cons_succ, List.flatten_cons, ← this]
        rw [show (c + 1) * 32 = y.length + c * 32 by omega, Nat.add_assoc, List.take_append, List.drop_append, List.take_of_length_le (by omega), List.drop_eq_nil_of_le (by omega), show y.length + c * 32 - y.length = c * 32 by omega, show y.length + (c * 32 + 32) - y.length = c * 32 + 32 by omega]
        simp
  unfold putAt
  have hfl := flat_len pg h8
  rw [List.length_map, hx, List.take_append_of_le_length (by rw [List.length_map, hfl]; omega), List.drop_append_of_le_length (by rw [List.length_map, hfl]; omega), ← List.map_take, ← List.map_drop, ← List.append_assoc, ← List.map_append, ← List.map_append, key pg c h8 hc]

set_option maxHeartbeats 2000000 in
set_option maxRecDepth 100000 in
theorem cprogram_any (F : RF) (s : RS) (S : ByteArray) (p c : Int) (x : List By) (hx : x.length = 32) (w : World) (h : CAt w F s S) (hn0 : 0 ≤ s.n) (hn : s.n < 4611686018427387904) (hw : s.wait < 9223372036854775808) :
    Calls Tryd.prog 48 #[.pointer (some ⟨F.g, 0, none⟩), .int .i64 p, .int .i64 c, .agg (x.map B8).toArray] w (CPost F (s.program p c x) (s.programE p c) w) := by
  have b0 : ∀ o1, Below w.heap.size w (w.alloc o1) := fun o1 => (Below.refl _ _).alloc (Nat.le_refl _) _
  have ha : ∀ o1, CAt (w.alloc o1) F s S := fun o1 => h.below (b0 o1) (Nat.le_refl _)
  have HA : Hid (∀ o1, CAt (w.alloc o1) F s S) := ha
  have BLT : Hid (∀ B ∈ F.blocks, B < w.heap.size) := h.blt
  have rx := Row.at w 40 (x.map B8) _ _ rfl rfl
  obtain ⟨res, hres⟩ : ∃ r, r = s.programE p c := ⟨_, rfl⟩
  rw [← hres]
  have HR : Hid (res = s.programE p c) := hres
  clear hres ha
  by_cases h0 : s.at p c = 0
  · obtain ⟨_, i1, i2, i3, i4⟩ := at_zero h0
    obtain ⟨pn, rfl⟩ := Int.eq_ofNat_of_zero_le i1
    obtain ⟨cn, rfl⟩ := Int.eq_ofNat_of_zero_le i3
    have hpl : pn < s.pages.length := by omega
    obtain ⟨k1, k2⟩ := h.ok.pgLen pn hpl
    have hcl : cn < (s.pages.getD pn []).length := by omega
    have hgl : F.g < w.heap.size := h.row.lt
    have hok := h.ok
    have HOK : Hid (s.pages.length ≤ 130 ∧ s.c.cells ≤ 256 ∧ 1 ≤ s.c.cells) := ⟨hok.pg, hok.c2, hok.c1⟩
    have hw32 : (s.cell pn cn).length = 32 := by
      unfold RS.cell
      rw [List.getD_eq_getElem?_getD, List.getElem?_eq_getElem hcl]
      exact k2 _ (List.getElem_mem _)
    have HP : Hid (s.program pn cn x = s.act.setCell pn cn (progCell s.cut s.mask (s.cell pn cn) x)) := by show _ = _; simp [RS.program, h0]
    have HRES : Hid (res = (if s.cut then 8 else 0)) := by show _ = _; rw [HR.out]; simp [RS.programE, h0]
    have HACT : Hid (∀ W, CAt W F s S → Calls Tryd.prog 46 #[.pointer (some ⟨F.g, 0, none⟩)] W (ActPost F s W)) := fun W hW => cact_any F s S W hW hn0 hn hw
    have HASK : Hid (∀ W, CAt W F s S → Calls Tryd.prog 29 #[.pointer (some ⟨F.g, 0, none⟩), .int .i64 (pn : Int), .int .i64 (cn : Int)] W fun e w' => e = .returned (.int .i64 0) ∧ w' = W) := fun W hW => by have := caskCell_any F s S pn cn W hW; rw [h0] at this; exact this
    have i5 : (cn : Int) < ((s.pages.getD pn []).length : Int) := by omega
    have hbg : F.g ∈ F.blocks := by simp [RF.blocks]
    clear h h0 hok hn0 hn hw
    go_enter Tryd.func48, Tryd.ntmps48
    go_wp2_with fail
    refine (HASK.out _ (HA.out _)).mono ?_
    rintro e w1 ⟨rfl, hw1⟩
    have r1 : Row w1 w.heap.size 40 (x.map B8) := by rw [hw1]; exact rx
    have ra1 : CAt w1 F s S := by rw [hw1]; exact HA.out _
    have kl1 : KeptL F.blocks w w1 := by rw [hw1]; exact (KeptL.refl _ _).below (b0 _) (Nat.le_refl _)
    have hz1 : w.heap.size < w1.heap.size := r1.lt
    clear hw1 rx
    go_wp2_with fail
    refine (HACT.out w1 ra1).mono ?_
    rintro e w2 ⟨M, S', rfl, ⟨m, hM, hm, hbit⟩, ra2, sb2⟩
    rw [← HRES.out]
    have r2 := r1.but sb2 (by omega)
    have kl2 := kl1.but sb2 (.inl hbg)
    have hz2 : w.heap.size < w2.heap.size := r2.lt
    have c7 := ra2.cPages
    obtain ⟨q, hq, cp, pr, hqm, hqg, hqp⟩ := ra2.pageAt pn hpl
    replace c7 : w2.cell? ⟨F.g, 7, none⟩ = some (.slice (some ⟨F.pB, 0, none⟩) s.pages.length F.pcap) := c7
    replace cp : w2.cell? ⟨F.pB, pn, none⟩ = some (.slice (some ⟨q.1, 0, none⟩) (s.pages.getD pn []).length q.2) := cp
    obtain ⟨rst, rp⟩ := pr
    replace rp : Row w2 q.1 40 ((s.pages.getD pn []).flatten.map B8 ++ rst) := rp
    have hseg : (((s.pages.getD pn []).flatten.map B8 ++ rst).drop (cn * 32)).take 32 = (s.cell pn cn).map B8 := by
      have hfl := flat_len _ k2
      rw [Nat.mul_comm, List.drop_append_of_le_length (by rw [List.length_map, hfl]; omega), List.take_append_of_le_length (by rw [List.length_drop, List.length_map, hfl]; omega), ← List.map_drop, ← List.map_take, flat_seg _ k2 cn hcl]; rfl
    have HLOW : Hid (∀ W, Dr w2 W → Calls Tryd.prog 57 #[.string M, .pointer (some ⟨q.1, cn * 32, none⟩), .agg (x.map B8).toArray] W fun e w' => e = .returned (.tuple #[]) ∧ Row w' q.1 40 (((s.pages.getD pn []).set cn (progCell s.cut s.mask (s.cell pn cn) x)).flatten.map B8 ++ rst) ∧ KeptL [q.1] W w') := by
      intro W d
      have := lower_any M m hM hm q.1 (cn * 32) _ (s.cell pn cn) x hx hw32 W (rp.dr d) (by rw [List.length_append, List.length_map, flat_len _ k2]; omega) hseg
      rw [low_prog s m _ x HOK.out.2.2 hbit, putAt_cell _ rst cn _ k2 hcl (progCell_len _ _ _ _)] at this
      exact this
    have HEND : Hid (∀ W W', Dr w2 W → Row W' q.1 40 (((s.pages.getD pn []).set cn (progCell s.cut s.mask (s.cell pn cn) x)).flatten.map B8 ++ rst) → KeptL [q.1] W W' → CPost F (s.program pn cn x) res w (.returned (.int .i64 res)) W') := by
      intro W W' d hr kl
      refine ⟨rfl, ⟨S', ?_⟩, (kl2.dr d).trans (kl.sub (by intro b hb; simp at hb; subst hb; exact hqm))⟩
      rw [HP.out]
      have hpe : s.act.pages.getD pn [] = s.pages.getD pn [] := rfl
      refine (ra2.dr d).setPage pn hpl q hq _ (by rw [List.length_set]) ?_ ⟨rst, by rw [hpe]; exact hr⟩ ?_
      · intro y hy
        rcases List.mem_or_eq_of_mem_set hy with hy | rfl
        · exact k2 y hy
        · exact progCell_len _ _ _ _
      · intro B hB hne
        exact kl.block B ((ra2.dr d).blt B hB) (by simpa using hne)
    clear hbit hM hm ra2 sb2 r1 ra1 kl1 hseg rp hq kl2 k1 k2
    generalize (s.pages.getD pn []).length = PL at *
    go_wp2
    refine wp_region_still_tail 12 (by kernel_rfl) (by kernel_rfl) ?_
    simp only [List.take_succ_cons, List.take_zero, List.drop_succ_cons, List.drop_zero]
    have hd : Dr w2 { w2 with drawn := w2.drawn + 1 } := ⟨1, rfl⟩
    generalize { w2 with drawn := w2.drawn + 1 } = wq at hd ⊢
    replace c7 := hd.cell c7
    replace cp := hd.cell cp
    have r3 := r2.dr hd
    still_step
    still_step
    still_step
    still_step
    still_step
    still_step
    still_step
    still_step
    still_step
    still_step
    still_step
    refine wpStill_load_range rfl 40 _ rfl w.heap.size 0 32 _ (by have := r3.range 0 32; rw [List.drop_zero, List.take_of_length_le (by rw [List.length_map]; omega)] at this; exact this) rfl _ (by rw [List.length_map]; exact hx) Tryd.underlying40 rfl (by kernel_rfl) ?_
    refine wpStill_nil ?_
    go_wp2_with fail
    refine (HLOW.out _ hd).mono ?_
    rintro e w4 ⟨rfl, hr4, kl4⟩
    have hfin := HEND.out _ w4 hd hr4 kl4
    clear hr4 kl4 r3 c7 cp r2
    go_wp2
    go_ret
    exact hfin
  · have HP : Hid (s.program p c x = s) := by show _ = _; simp [RS.program, h0]
    have HF : Hid (∀ W, CAt W F s S → Calls Tryd.prog 29 #[.pointer (some ⟨F.g, 0, none⟩), .int .i64 p, .int .i64 c] W fun e w' => e = .returned (.int .i64 res) ∧ w' = W) := fun W hW => by have := caskCell_any F s S p c W hW; rw [HR.out, RS.programE, if_neg h0]; exact this
    have e1 : (res != 0) = true := by rw [bne_iff_ne, HR.out, RS.programE, if_neg h0]; exact h0
    clear h h0 HR
    go_enter Tryd.func48, Tryd.ntmps48
    go_wp2_with fail
    refine (HF.out _ (HA.out _)).mono ?_
    rintro e w1 ⟨rfl, rfl⟩
    go_wp2
    go_ret
    exact ⟨rfl, ⟨S, by rw [HP.out]; exact HA.out _⟩, (KeptL.refl _ _).below (b0 _) (Nat.le_refl _)⟩
end Go.Proofs.YtcpdanjbnijoiaaDoor
