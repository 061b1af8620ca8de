import Derived.Test.YtcpdanjbnijoiaaGreatDoorC4Low
import Derived.StillTailTactics
import Derived.Laws.BytesString

/-! The code's chip: Read, Program. -/
namespace Go.Proofs.YtcpdanjbnijoiaaGreatDoor
open Go.RowKit

set_option maxHeartbeats 1000000 in
set_option maxRecDepth 100000 in
theorem cread_any (F : RF) (s : RS) (S : ByteArray) (p c : Int) (w : World) (h : CAt w F s S) :
    Calls Tryz.prog 18 #[.pointer (some ⟨F.g, 0, none⟩), .int .i64 p, .int .i64 c] w fun e w' => e = .returned (.tuple #[.agg ((if s.at p c = 0 then s.cell p.toNat c.toNat else List.replicate 32 0).map B8).toArray, .int .i64 (s.at p c)]) ∧ Below w.heap.size w w' := by
  have b0 : ∀ o1, Below w.heap.size w (w.alloc o1) := fun o1 => (Below.refl _ _).alloc (Nat.le_refl _) _
  have r0 := Row.at w 55 ((List.replicate 32 (0 : By)).map B8) _ _ rfl rfl
  have ha : ∀ o1, CAt (w.alloc o1) F s S := fun o1 => h.keep (fun B hB => Below.heap_alloc w o1 B (h.blt B hB))
  have HA : Hid (∀ o1, CAt (w.alloc o1) F s S) := ha
  by_cases h0 : s.at p c = 0
  · obtain ⟨_, i1, i2, i3, i4⟩ := at_zero h0
    rw [h0, if_pos rfl]
    obtain ⟨pn, rfl⟩ := Int.eq_ofNat_of_zero_le i1
    obtain ⟨cn, rfl⟩ := Int.eq_ofNat_of_zero_le i3
    simp only [Int.toNat_natCast]
    have hpl : pn < s.pages.length := by omega
    obtain ⟨k1, k2⟩ := h.ok.pgLen pn hpl
    have hx32 : (s.cell pn cn).length = 32 := by
      unfold RS.cell
      rw [List.getD_eq_getElem?_getD, List.getElem?_eq_getElem (by omega)]
      exact k2 _ (List.getElem_mem _)
    have c7 := fun o1 => (ha o1).cPages
    obtain ⟨q, hq, cp, pr, _, _, _⟩ := h.pageAt pn hpl
    have hqB : q.1 < w.heap.size := pr.lt
    have hpB : F.pB < w.heap.size := h.pg.lt
    replace cp := fun o1 => ((b0 o1).cell (p := ⟨F.pB, pn, none⟩) hpB).trans cp
    obtain ⟨rst, rp⟩ := pr
    have HRP : Hid (∀ o1, Row (w.alloc o1) q.1 55 ((s.pages.getD pn []).flatten.map B8 ++ rst)) := fun o1 => rp.alloc o1
    have hseg : (((s.pages.getD pn []).flatten.map B8 ++ rst).drop (32 * cn)).take 32 = (s.cell pn cn).map B8 := by
      have hfl := flat_len _ k2
      rw [List.drop_append_of_le_length (by rw [List.length_map, hfl]; omega), List.take_append_of_le_length (by rw [List.length_drop, List.length_map, hfl]; omega), ← List.map_drop, ← List.map_take, flat_seg _ k2 cn (by omega)]; rfl
    have HSEG : Hid ((((s.pages.getD pn []).flatten.map B8 ++ rst).drop (cn * 32)).take 32 = (s.cell pn cn).map B8) := by rw [Nat.mul_comm]; exact hseg
    have i5 : (cn : Int) < ((s.pages.getD pn []).length : Int) := by omega
    generalize hPL : (s.pages.getD pn []).length = PL at *
    generalize s.cell pn cn = X at *
    generalize (s.pages.getD pn []).flatten.map B8 ++ rst = RR at *
    clear k1 k2 hseg rp hq ha hPL
    go_enter Tryz.func18, Tryz.ntmps18
    go_wp2_with fail
    refine (caskCell_any F s S pn cn _ (HA.out _)).mono ?_
    rw [h0]
    rintro e w1 ⟨rfl, rfl⟩
    go_wp2_with (first
      | (refine wpList_load_part rfl 55 _ rfl q.1 (cn * 32) 55 32 RR (HRP.out _) rfl _ (X.map B8) HSEG.out (by rw [List.length_map]; exact hx32) Tryz.underlying55 rfl (by kernel_rfl) ?_)
      | (refine wpList_store_Row rfl 55 _ _ rfl _ _ 0 _ (X.map B8) r0 (by simp [hx32]) rfl rfl (by rw [List.length_map, hx32]; kernel_rfl) (B8_one _) ?_; intro w9 hr9 hs9))
    have hr := row_whole hr9 (by simp [hx32])
    exact bodyPost_ret_by (results_Row_tmp Tryz.results18 _ w9 w.heap.size 55 _ _ rfl hr Tryz.underlying55 rfl (by rw [List.length_map, hx32]; kernel_rfl)) rfl ⟨rfl, hs9.below (b0 _) (Nat.le_refl _)⟩
  · rw [if_neg h0]
    generalize hf : s.at p c = f at *
    have HF : Hid (s.at p c = f) := hf
    have e1 : (f != 0) = true := by rw [bne_iff_ne]; exact h0
    clear hf ha
    go_enter Tryz.func18, Tryz.ntmps18
    go_wp2_with fail
    refine (caskCell_any F s S p c _ (HA.out _)).mono ?_
    rw [HF.out]
    rintro e w1 ⟨rfl, rfl⟩
    go_wp2_with (refine wpList_store_Row rfl 55 _ _ rfl _ _ 0 _ ((List.replicate 32 (0 : By)).map B8) r0 (by simp) rfl rfl (by kernel_rfl) (B8_one _) ?_; intro w9 hr9 hs9)
    have hr := row_whole hr9 (by simp)
    exact bodyPost_ret_by (results_Row_tmp Tryz.results18 _ w9 w.heap.size 55 _ _ rfl hr Tryz.underlying55 rfl (by kernel_rfl)) rfl ⟨rfl, hs9.below (b0 _) (Nat.le_refl _)⟩

theorem low_cut (m was x : By) : was &&& (x ||| ~~~m) = (was &&& ~~~m) ||| ((was &&& x) &&& m) := by
  apply BitVec.eq_of_getLsbD_eq
  intro i hi
  simp only [BitVec.getLsbD_and, BitVec.getLsbD_or, BitVec.getLsbD_not, hi, decide_true, Bool.true_and]
  cases was.getLsbD i <;> cases x.getLsbD i <;> cases m.getLsbD i <;> rfl
theorem low_whole (was x : By) : was &&& (x ||| ~~~255#8) = was &&& x := by
  have : (~~~255#8 : By) = 0#8 := by decide
  rw [this]; simp
theorem low_prog (s : RS) (m was x : List By) (hc : 1 ≤ s.c.cells) (hm : ∀ i : Nat, (i : Int) < 32 * s.c.cells → bitsAt m i = if s.cut then bitsAt s.mask i else 255#8) : lowCell m was x = progCell s.cut s.mask was x := by
  unfold lowCell progCell
  apply List.map_congr_left
  intro i hi
  rw [List.mem_range] at hi
  rw [hm i (by omega)]
  unfold progByte
  cases s.cut
  · exact low_whole _ _
  · exact low_cut _ _ _

theorem KeptL.sub {L L' : List Nat} {w w' : World} (h : KeptL L w w') (hs : ∀ b ∈ L, b ∈ L') : KeptL L' w w' :=
  ⟨h.os, h.tape, h.output, h.size, fun k hk hn => h.block k hk (fun hm => hn (hs k hm))⟩

def CPost (F : RF) (s' : RS) (r : Int) (w : World) (e : Ending) (w' : World) : Prop := e = .returned (.int .i64 r) ∧ (∃ S', CAt w' F s' S') ∧ KeptL F.blocks w w'

/-- A cell of a page, laid over. -/
theorem putAt_cell (pg : List (List By)) (rst : List Value) (c : Nat) (x : List By) (h8 : ∀ y ∈ pg, y.length = 32) (hc : c < pg.length) (hx : x.length = 32) : putAt (pg.flatten.map B8 ++ rst) (c * 32) (x.map B8) = (pg.set c x).flatten.map B8 ++ rst := by
  have key : ∀ (l : List (List By)) (c : Nat), (∀ y ∈ l, y.length = 32) → c < l.length → l.flatten.take (c * 32) ++ x ++ l.flatten.drop (c * 32 + 32) = (l.set c x).flatten := by
    intro l
    induction l with
    | nil => intro c _ h; simp at h
    | cons y l ih =>
      intro c h h2
      have hy := h y (by simp)
      cases c with
      | zero => rw [List.flatten_cons, Nat.zero_mul, List.take_zero, List.nil_append, Nat.zero_add, List.drop_left' hy, List.set_cons_zero, List.flatten_cons]
      | succ c =>
        have := ih c (fun z hz => h z (by simp [hz])) (by simpa using h2)
        rw [List.flatten_cons, List.set_cons_succ, List.flatten_cons, ← this]
        rw [show (c + 1) * 32 = y.length + c * 32 by omega, Nat.add_assoc, List.take_append, List.drop_append, List.take_of_length_le (by omega), List.drop_eq_nil_of_le (by omega), show y.length + c * 32 - y.length = c * 32 by omega, show y.length + (c * 32 + 32) - y.length = c * 32 + 32 by omega]
        simp
  unfold putAt
  have hfl := flat_len pg h8
  rw [List.length_map, hx, List.take_append_of_le_length (by rw [List.length_map, hfl]; omega), List.drop_append_of_le_length (by rw [List.length_map, hfl]; omega), ← List.map_take, ← List.map_drop, ← List.append_assoc, ← List.map_append, ← List.map_append, key pg c h8 hc]

set_option maxHeartbeats 2000000 in
set_option maxRecDepth 100000 in
theorem cprogram_any (F : RF) (s : RS) (S : ByteArray) (p c : Int) (x : List By) (hx : x.length = 32) (w : World) (h : CAt w F s S) (hn0 : 0 ≤ s.n) (hn : s.n < 4611686018427387904) (hw : s.wait < 9223372036854775808) :
    Calls Tryz.prog 76 #[.pointer (some ⟨F.g, 0, none⟩), .int .i64 p, .int .i64 c, .agg (x.map B8).toArray] w (CPost F (s.program p c x) (s.programE p c) w) := by
  have b0 : ∀ o1, Below w.heap.size w (w.alloc o1) := fun o1 => (Below.refl _ _).alloc (Nat.le_refl _) _
  have ha : ∀ o1, CAt (w.alloc o1) F s S := fun o1 => h.below (b0 o1) (Nat.le_refl _)
  have HA : Hid (∀ o1, CAt (w.alloc o1) F s S) := ha
  have BLT : Hid (∀ B ∈ F.blocks, B < w.heap.size) := h.blt
  have rx := Row.at w 55 (x.map B8) _ _ rfl rfl
  obtain ⟨res, hres⟩ : ∃ r, r = s.programE p c := ⟨_, rfl⟩
  rw [← hres]
  have HR : Hid (res = s.programE p c) := hres
  clear hres ha
  by_cases h0 : s.at p c = 0
  · obtain ⟨_, i1, i2, i3, i4⟩ := at_zero h0
    obtain ⟨pn, rfl⟩ := Int.eq_ofNat_of_zero_le i1
    obtain ⟨cn, rfl⟩ := Int.eq_ofNat_of_zero_le i3
    have hpl : pn < s.pages.length := by omega
    obtain ⟨k1, k2⟩ := h.ok.pgLen pn hpl
    have hcl : cn < (s.pages.getD pn []).length := by omega
    have hgl : F.g < w.heap.size := h.row.lt
    have hok := h.ok
    have HOK : Hid (s.pages.length ≤ 130 ∧ s.c.cells ≤ 256 ∧ 1 ≤ s.c.cells) := ⟨hok.pg, hok.c2, hok.c1⟩
    have hw32 : (s.cell pn cn).length = 32 := by
      unfold RS.cell
      rw [List.getD_eq_getElem?_getD, List.getElem?_eq_getElem hcl]
      exact k2 _ (List.getElem_mem _)
    have HP : Hid (s.program pn cn x = s.act.setCell pn cn (progCell s.cut s.mask (s.cell pn cn) x)) := by show _ = _; simp [RS.program, h0]
    have HRES : Hid (res = (if s.cut then 8 else 0)) := by show _ = _; rw [HR.out]; simp [RS.programE, h0]
    have HACT : Hid (∀ W, CAt W F s S → Calls Tryz.prog 74 #[.pointer (some ⟨F.g, 0, none⟩)] W (ActPost F s W)) := fun W hW => cact_any F s S W hW hn0 hn hw
    have HASK : Hid (∀ W, CAt W F s S → Calls Tryz.prog 44 #[.pointer (some ⟨F.g, 0, none⟩), .int .i64 (pn : Int), .int .i64 (cn : Int)] W fun e w' => e = .returned (.int .i64 0) ∧ w' = W) := fun W hW => by have := caskCell_any F s S pn cn W hW; rw [h0] at this; exact this
    have i5 : (cn : Int) < ((s.pages.getD pn []).length : Int) := by omega
    have hbg : F.g ∈ F.blocks := by simp [RF.blocks]
    clear h h0 hok hn0 hn hw
    go_enter Tryz.func76, Tryz.ntmps76
    go_wp2_with fail
    refine (HASK.out _ (HA.out _)).mono ?_
    rintro e w1 ⟨rfl, hw1⟩
    have r1 : Row w1 w.heap.size 55 (x.map B8) := by rw [hw1]; exact rx
    have ra1 : CAt w1 F s S := by rw [hw1]; exact HA.out _
    have kl1 : KeptL F.blocks w w1 := by rw [hw1]; exact (KeptL.refl _ _).below (b0 _) (Nat.le_refl _)
    have hz1 : w.heap.size < w1.heap.size := r1.lt
    clear hw1 rx
    go_wp2_with fail
    refine (HACT.out w1 ra1).mono ?_
    rintro e w2 ⟨M, S', rfl, ⟨m, hM, hm, hbit⟩, ra2, sb2⟩
    rw [← HRES.out]
    have r2 := r1.but sb2 (by omega)
    have kl2 := kl1.but sb2 (.inl hbg)
    have hz2 : w.heap.size < w2.heap.size := r2.lt
    have c7 := ra2.cPages
    obtain ⟨q, hq, cp, pr, hqm, hqg, hqp⟩ := ra2.pageAt pn hpl
    replace c7 : w2.cell? ⟨F.g, 7, none⟩ = some (.slice (some ⟨F.pB, 0, none⟩) s.pages.length F.pcap) := c7
    replace cp : w2.cell? ⟨F.pB, pn, none⟩ = some (.slice (some ⟨q.1, 0, none⟩) (s.pages.getD pn []).length q.2) := cp
    obtain ⟨rst, rp⟩ := pr
    replace rp : Row w2 q.1 55 ((s.pages.getD pn []).flatten.map B8 ++ rst) := rp
    have hseg : (((s.pages.getD pn []).flatten.map B8 ++ rst).drop (cn * 32)).take 32 = (s.cell pn cn).map B8 := by
      have hfl := flat_len _ k2
      rw [Nat.mul_comm, List.drop_append_of_le_length (by rw [List.length_map, hfl]; omega), List.take_append_of_le_length (by rw [List.length_drop, List.length_map, hfl]; omega), ← List.map_drop, ← List.map_take, flat_seg _ k2 cn hcl]; rfl
    have HLOW : Hid (∀ W, Dr w2 W → Calls Tryz.prog 87 #[.string M, .pointer (some ⟨q.1, cn * 32, none⟩), .agg (x.map B8).toArray] W fun e w' => e = .returned (.tuple #[]) ∧ Row w' q.1 55 (((s.pages.getD pn []).set cn (progCell s.cut s.mask (s.cell pn cn) x)).flatten.map B8 ++ rst) ∧ KeptL [q.1] W w') := by
      intro W d
      have := lower_any M m hM hm q.1 (cn * 32) _ (s.cell pn cn) x hx hw32 W (rp.dr d) (by rw [List.length_append, List.length_map, flat_len _ k2]; omega) hseg
      rw [low_prog s m _ x HOK.out.2.2 hbit, putAt_cell _ rst cn _ k2 hcl (progCell_len _ _ _ _)] at this
      exact this
    have HEND : Hid (∀ W W', Dr w2 W → Row W' q.1 55 (((s.pages.getD pn []).set cn (progCell s.cut s.mask (s.cell pn cn) x)).flatten.map B8 ++ rst) → KeptL [q.1] W W' → CPost F (s.program pn cn x) res w (.returned (.int .i64 res)) W') := by
      intro W W' d hr kl
      refine ⟨rfl, ⟨S', ?_⟩, (kl2.dr d).trans (kl.sub (by intro b hb; simp at hb; subst hb; exact hqm))⟩
      rw [HP.out]
      have hpe : s.act.pages.getD pn [] = s.pages.getD pn [] := rfl
      refine (ra2.dr d).setPage pn hpl q hq _ (by rw [List.length_set]) ?_ ⟨rst, by rw [hpe]; exact hr⟩ ?_
      · intro y hy
        rcases List.mem_or_eq_of_mem_set hy with hy | rfl
        · exact k2 y hy
        · exact progCell_len _ _ _ _
      · intro B hB hne
        exact kl.block B ((ra2.dr d).blt B hB) (by simpa using hne)
    clear hbit hM hm ra2 sb2 r1 ra1 kl1 hseg rp hq kl2 k1 k2
    generalize (s.pages.getD pn []).length = PL at *
    go_wp2
    refine wp_region_still_tail 12 (by kernel_rfl) (by kernel_rfl) ?_
    simp only [List.take_succ_cons, List.take_zero, List.drop_succ_cons, List.drop_zero]
    have hd : Dr w2 { w2 with drawn := w2.drawn + 1 } := ⟨1, rfl⟩
    generalize { w2 with drawn := w2.drawn + 1 } = wq at hd ⊢
    replace c7 := hd.cell c7
    replace cp := hd.cell cp
    have r3 := r2.dr hd
    still_step
    still_step
    still_step
    still_step
    still_step
    still_step
    still_step
    still_step
    still_step
    still_step
    still_step
    refine wpStill_load_range rfl 55 _ rfl w.heap.size 0 32 _ (by have := r3.range 0 32; rw [List.drop_zero, List.take_of_length_le (by rw [List.length_map]; omega)] at this; exact this) rfl _ (by rw [List.length_map]; exact hx) Tryz.underlying55 rfl (by kernel_rfl) ?_
    refine wpStill_nil ?_
    go_wp2_with fail
    refine (HLOW.out _ hd).mono ?_
    rintro e w4 ⟨rfl, hr4, kl4⟩
    have hfin := HEND.out _ w4 hd hr4 kl4
    clear hr4 kl4 r3 c7 cp r2
    go_wp2
    go_ret
    exact hfin
  · have HP : Hid (s.program p c x = s) := by show _ = _; simp [RS.program, h0]
    have HF : Hid (∀ W, CAt W F s S → Calls Tryz.prog 44 #[.pointer (some ⟨F.g, 0, none⟩), .int .i64 p, .int .i64 c] W fun e w' => e = .returned (.int .i64 res) ∧ w' = W) := fun W hW => by have := caskCell_any F s S p c W hW; rw [HR.out, RS.programE, if_neg h0]; exact this
    have e1 : (res != 0) = true := by rw [bne_iff_ne, HR.out, RS.programE, if_neg h0]; exact h0
    clear h h0 HR
    go_enter Tryz.func76, Tryz.ntmps76
    go_wp2_with fail
    refine (HF.out _ (HA.out _)).mono ?_
    rintro e w1 ⟨rfl, rfl⟩
    go_wp2
    go_ret
    exact ⟨rfl, ⟨S, by rw [HP.out]; exact HA.out _⟩, (KeptL.refl _ _).below (b0 _) (Nat.le_refl _)⟩
end Go.Proofs.YtcpdanjbnijoiaaGreatDoor


/-! The code's chip: keep, Cut, Blow. -/
namespace Go.Proofs.YtcpdanjbnijoiaaGreatDoor
open Go.RowKit

/-- The string of bytes. -/
def strOf (bs : List By) : ByteArray := (bs.map fun b => (b.toNat : Int)).foldl (fun r n => r.push (UInt8.ofNat n.toNat)) ByteArray.empty
theorem fold_push : ∀ (l : List Int) (acc : ByteArray), (l.foldl (fun r n => r.push (UInt8.ofNat n.toNat)) acc).data = acc.data ++ (l.map fun n => UInt8.ofNat n.toNat).toArray
  | [], acc => by simp
  | n :: l, acc => by
    rw [List.foldl_cons, fold_push l]
    simp [ByteArray.push]
theorem strOf_data (bs : List By) : (strOf bs).data = (bs.map fun b => UInt8.ofNat b.toNat).toArray := by
  unfold strOf
  rw [fold_push]
  have h0 : ByteArray.empty.data = #[] := rfl
  rw [h0]
  simp [Function.comp_def]
theorem strOf_is (bs : List By) : StrIs (strOf bs) bs := by
  have hd := strOf_data bs
  have hs : (strOf bs).size = bs.length := by
    show (strOf bs).data.size = _
    rw [hd]; simp
  refine ⟨hs, fun i hi => ?_⟩
  have hi' : i < bs.length := by omega
  have e : (strOf bs)[i]'hi = UInt8.ofNat (bs[i].toNat) := by
    show (strOf bs).data[i] = _
    simp only [hd]
    simp
  rw [e, List.getD_eq_getElem?_getD, List.getElem?_eq_getElem hi']
  have := b8_lt bs[i]
  simp only [Option.getD_some]
  rw [UInt8.toNat_ofNat']
  omega

theorem conv_mask (w : World) (ao : Option Addr) (n cap : Nat) (bs : List By) (hn : bs.length = n) (hb : IsB w ao bs) :
    (convert 40 61 (.slice ao n cap)).run Tryz.prog w = .ok (.string (strOf bs)) w := by
  subst hn
  rw [run_convert_bytes_string w 40 61 5 ao bs.length cap Tryz.underlying40 Tryz.underlying5 Tryz.underlying61]
  have key : ∀ a : Addr, (∀ j v, (bs.map B8)[j]? = some v → w.cell? (a.add j) = some v) → (Conv.bytesToString (.slice (some a) bs.length cap)).run Tryz.prog w = .ok (.string (strOf bs)) w := by
    intro a h
    have hl := run_loadCells_list (P := Tryz.prog) w a (bs.map B8) h
    rw [List.length_map] at hl
    have e : bs.map B8 = (bs.map fun b => (b.toNat : Int)).map (Value.int .u8) := by
      rw [List.map_map]; rfl
    rw [e] at hl
    exact run_bytesToString w a bs.length cap _ hl
  rcases hb with rfl | ⟨B, off, rfl, hc⟩
  · cases ao with
    | none => rfl
    | some a => exact key a (by simp)
  · refine key _ ?_
    intro j u hu
    rw [Addr.add_mid]
    rw [List.getElem?_map] at hu
    cases hj : bs[j]? with
    | none => rw [hj] at hu; cases hu
    | some v =>
      rw [hj] at hu
      injection hu with hu
      rw [← hu]; exact hc j v hj

theorem take_bits (m : List By) (K : Nat) (i : Nat) (hi : i < K) : bitsAt (m.take (min m.length K)) i = bitsAt m i := by
  by_cases h : m.length ≤ K
  · rw [Nat.min_eq_left h, List.take_length]
  · rw [Nat.min_eq_right (by omega)]
    unfold bitsAt
    rw [List.length_take, Nat.min_eq_left (by omega), Nat.mod_eq_of_lt hi, Nat.mod_eq_of_lt (by omega), List.getD_eq_getElem?_getD, List.getElem?_take_of_lt hi, ← List.getD_eq_getElem?_getD]

def KeepPost (cells : Int) (m : List By) (w : World) (e : Ending) (w' : World) : Prop := ∃ S, e = .returned (.string S) ∧ MskIs cells m S ∧ w' = w

set_option maxHeartbeats 2000000 in
set_option maxRecDepth 100000 in
theorem ckeep_any (ao : Option Addr) (n cap : Nat) (m : List By) (hm : m.length = n) (w : World) (hb : IsB w ao m) (hcap : n ≤ cap) (hl : n ≤ 140737488355328) (cells : Int) (h1 : 1 ≤ cells) (h2 : cells ≤ 256) :
    Calls Tryz.prog 54 #[.slice ao n cap, .int .i64 cells] w (KeepPost cells m w) := by
  by_cases hz : n = 0
  · subst hz
    have hm0 : m = [] := List.length_eq_zero_iff.1 hm
    have HE : Hid (KeepPost cells m w (.returned (.string ⟨#[0]⟩)) w) := ⟨_, rfl, ⟨[0#8], one_is _ _ rfl, by simp, fun i _ => by rw [bits_one, hm0]; rfl⟩, rfl⟩
    clear hb hm0 hm
    go_enter Tryz.func54, Tryz.ntmps54
    go_wp2
    go_ret
    exact HE.out
  · obtain ⟨B, off, rfl, hc⟩ : ∃ B off, ao = some ⟨B, off, none⟩ ∧ ∀ j v, m[j]? = some v → w.cell? ⟨B, off + j, none⟩ = some (B8 v) := by
      rcases hb with rfl | hb
      · exact absurd hm.symm hz
      · exact hb
    obtain ⟨cn, rfl⟩ := Int.eq_ofNat_of_zero_le (show 0 ≤ cells by omega)
    have e1 : ((n : Int) == 0) = false := by rw [beq_eq_false_iff_ne]; omega
    obtain ⟨K, hK⟩ : ∃ K, K = min n (cn * 32) := ⟨_, rfl⟩
    have hK1 : K ≤ n := by omega
    have hmin : min (n : Int) ((cn : Int) * 32) = (K : Int) := by omega
    have j1 : IntKind.i64.wrap ((cn : Int) * 32) = (cn : Int) * 32 := i64_in _ (by omega) (by omega)
    have i1 : (0 : Int) ≤ (K : Int) := by omega
    have i2 : (K : Int) ≤ (cap : Int) := by omega
    have i3 : K ≤ cap := by omega
    have HC : Hid ((convert 40 61 (.slice (some ⟨B, off, none⟩) K cap)).run Tryz.prog w = .ok (.string (strOf (m.take K))) w) :=
      conv_mask w _ K cap (m.take K) (by rw [List.length_take]; omega) (.inr ⟨B, off, rfl, fun j v hj => hc j v (by rw [List.getElem?_take] at hj; split at hj; exact hj; cases hj)⟩)
    have HE : Hid (KeepPost (cn : Int) m w (.returned (.string (strOf (m.take K)))) w) := by
      refine ⟨_, rfl, ⟨m.take K, strOf_is _, ?_, ?_⟩, rfl⟩
      · intro e
        have h3 : (m.take K).length = 0 := by rw [e]; rfl
        rw [List.length_take] at h3
        omega
      · intro i hi
        rw [hK, ← hm]
        exact take_bits m (cn * 32) i (by omega)
    have hconv := HC.out
    clear hb hc hm
    generalize strOf (m.take K) = SS at *
    by_cases hc : (cn : Int) * 32 < (n : Int)
    · obtain rfl : K = cn * 32 := by omega
      have t1 : ((cn : Int) * 32).toNat = cn * 32 := by omega
      have i4 : (0 : Int) ≤ (cn : Int) * 32 := by omega
      have i5 : (cn : Int) * 32 ≤ (cap : Int) := by omega
      clear hK hmin
      go_enter Tryz.func54, Tryz.ntmps54
      go_wp2
      go_ret
      exact HE.out
    · obtain rfl : K = n := by omega
      have hc' : ¬ (cn : Int) * 32 < (K : Int) := hc
      clear hK hmin hc
      go_enter Tryz.func54, Tryz.ntmps54
      go_wp2
      go_ret
      exact HE.out

def CutPost (F : RF) (s : RS) (n : Int) (m : List By) (w : World) (e : Ending) (w' : World) : Prop := e = .returned (.tuple #[]) ∧ (∃ S', CAt w' F { s with wait := max (-1) n, mask := m } S') ∧ SameBut F.g w w'

set_option maxHeartbeats 2000000 in
set_option maxRecDepth 100000 in
theorem ccut_any (F : RF) (s : RS) (S : ByteArray) (n : Int) (ao : Option Addr) (len cap : Nat) (m : List By) (hm : m.length = len) (w : World) (h : CAt w F s S) (hb : IsB w ao m) (hbg : m = [] ∨ ∀ B off, ao = some ⟨B, off, none⟩ → B ≠ F.g) (hcap : len ≤ cap) (hl : len ≤ 140737488355328) (hn : n < 9223372036854775808) :
    Calls Tryz.prog 31 #[.pointer (some ⟨F.g, 0, none⟩), .int .i64 n, .slice ao len cap] w (CutPost F s n m w) := by
  have c12 := h.cWaits
  have c13 := h.cAhead
  have c14 := h.cMask
  have c0 := h.cCells
  have f12 := h.row.frozen 12
  have f13 := h.row.frozen 13
  have f14 := h.row.frozen 14
  have hc1 := h.ok.c1
  have hc2 := h.ok.c2
  have r1 := ((h.row.set 12 (.bool false)).set 13 (.int .i64 0)).set 14 (.string ⟨#[]⟩)
  rw [ccells_cut s F S false 0 ⟨#[]⟩ { s with wait := -1, mask := m } rfl rfl rfl rfl rfl rfl rfl rfl] at r1
  have s1 := ((SameBut.setCell F.g 12 (.bool false) w).trans (SameBut.setCell F.g 13 (.int .i64 0) _)).trans (SameBut.setCell F.g 14 (.string ⟨#[]⟩) _)
  by_cases h0 : 0 ≤ n
  · obtain ⟨nn, rfl⟩ := Int.eq_ofNat_of_zero_le h0
    have HKE : Hid (∀ W, SameBut F.g w W → Calls Tryz.prog 54 #[.slice ao len cap, .int .i64 s.c.cells] W (KeepPost s.c.cells m W)) := by
      intro W sb
      refine ckeep_any ao len cap m hm W ?_ hcap hl s.c.cells hc1 hc2
      rcases hb with e | ⟨B, off, rfl, hc⟩
      · exact .inl e
      · by_cases he : m = []
        · exact .inl he
        · refine .inr ⟨B, off, rfl, fun j v hj => ?_⟩
          have hne : B ≠ F.g := by
            rcases hbg with e | e
            · exact absurd e he
            · exact e B off rfl
          have h1 := hc j v hj
          rw [← h1]
          exact World.cell?_of_block (sb.block B hne)
    have HEND : Hid (∀ W T, SameBut F.g w W → MskIs s.c.cells m T → Row W F.g 65 (({ s with wait := (nn : Int), mask := m } : RS).ccells F T) → CutPost F s (nn : Int) m w (.returned (.tuple #[])) W) := by
      intro W T sb hT hr
      refine ⟨rfl, ⟨T, ?_⟩, sb⟩
      have e : max (-1) (nn : Int) = (nn : Int) := by omega
      rw [e]
      exact h.struct sb hr rfl rfl rfl rfl (by show -1 ≤ (nn : Int); omega) (fun _ => hT)
    have HROW : Hid (∀ W T, Row W F.g 65 (({ s with wait := -1, mask := m } : RS).ccells F ⟨#[]⟩) → Row (((W.setCell ⟨F.g, 12, none⟩ (.bool true)).setCell ⟨F.g, 13, none⟩ (.int .i64 (nn : Int))).setCell ⟨F.g, 14, none⟩ (.string T)) F.g 65 (({ s with wait := (nn : Int), mask := m } : RS).ccells F T)) := by
      intro W T hr
      have := ((hr.set 12 (.bool true)).set 13 (.int .i64 (nn : Int))).set 14 (.string T)
      rw [ccells_cut { s with wait := -1, mask := m } F ⟨#[]⟩ true (nn : Int) T { s with wait := (nn : Int), mask := m } rfl rfl rfl rfl rfl rfl (by show decide ((0 : Int) ≤ (nn : Int)) = true; simp) (by show (((nn : Int).toNat : Nat) : Int) = _; omega)] at this
      exact this
    have e1 : decide ((0 : Int) ≤ (nn : Int)) = true := by simp
    clear hb hbg hm h h0
    go_enter Tryz.func31, Tryz.ntmps31
    go_wp2_with (refine (HKE.out _ s1).mono ?_; rintro e w3 ⟨T, rfl, hT, rfl⟩)
    go_end0
    have s2 := ((s1.trans (SameBut.setCell F.g 12 (.bool true) _)).trans (SameBut.setCell F.g 13 (.int .i64 (nn : Int)) _)).trans (SameBut.setCell F.g 14 (.string T) _)
    exact HEND.out _ T s2 hT (HROW.out _ T r1)
  · have e1 : decide ((0 : Int) ≤ n) = false := by simpa using h0
    have HEND : Hid (CutPost F s n m w (.returned (.tuple #[])) (((w.setCell ⟨F.g, 12, none⟩ (.bool false)).setCell ⟨F.g, 13, none⟩ (.int .i64 0)).setCell ⟨F.g, 14, none⟩ (.string ⟨#[]⟩))) := by
      refine ⟨rfl, ⟨⟨#[]⟩, ?_⟩, s1⟩
      have e : max (-1) n = -1 := by omega
      rw [e]
      exact h.struct s1 r1 rfl rfl rfl rfl (by show (-1 : Int) ≤ -1; decide) (fun hh => absurd hh (by show ¬ (0 : Int) ≤ -1; decide))
    clear hb hbg hm h
    go_enter Tryz.func31, Tryz.ntmps31
    go_wp2
    go_end0
    exact HEND.out
end Go.Proofs.YtcpdanjbnijoiaaGreatDoor


/-! The code's chip: Blow, Config, blank. -/
namespace Go.Proofs.YtcpdanjbnijoiaaGreatDoor
open Go.RowKit

theorem and_one (b : By) : decide (b &&& 1#8 = 1#8) = (bits .and .u8 (b.toNat : Int) 1 == 1) := by
  revert b; decide +kernel

end Go.Proofs.YtcpdanjbnijoiaaGreatDoor
