import Derived.Test.YthjndaeibbfgaaaC4New
/-! The statements' own functions: done, mixed. -/
namespace Go.Proofs.Ythjndaeibbfgaaa
open Go.RowKit

/-- A step, as values. -/
def stepVals (k a b : Int) (x : List By) (mo : Option Addr) (ml mc : Nat) : List Value := [.int .i64 k, .int .i64 a, .int .i64 b] ++ x.map B8 ++ [.slice mo ml mc]

/-- An act, as 'done' does it. -/
def RS.doneS (s : RS) (k a b : Int) (x : List By) : RS := if k = 2 then s.program a b x else if k = 3 then s.erase a else s.blow a
def RS.doneE (s : RS) (k a b : Int) : Int := if k = 2 then s.programE a b else if k = 3 then s.eraseE a else s.blowE a

theorem CPost.above {F : RF} {s' : RS} {r : Int} {w0 w w' : World} {e : Ending} (h : CPost F s' r w e w') (hb : Below w0.heap.size w0 w) : CPost F s' r w0 e w' := by
  obtain ⟨h1, h2, h3⟩ := h
  refine ⟨h1, h2, ((KeptL.refl F.blocks w0).below hb (Nat.le_refl _)).trans ?_⟩
  exact h3

set_option maxHeartbeats 2000000 in
set_option maxRecDepth 100000 in
theorem done_any (F : RF) (s : RS) (S : ByteArray) (k a b : Int) (x : List By) (hx : x.length = 32) (mo : Option Addr) (ml mc : Nat) (w : World) (h : CAt w F s S) (hn0 : 0 ≤ s.n) (hn : s.n < 4611686018427387904) (hw : s.wait < 9223372036854775808) (hce : s.c.erases ≤ 65536) (he0 : ∀ e ∈ s.erases, 0 ≤ e) :
    Calls Try.prog 19 #[.pointer (some ⟨F.g, 0, none⟩), .agg (stepVals k a b x mo ml mc).toArray] w (CPost F (s.doneS k a b x) (s.doneE k a b) w) := by
  have b0 : ∀ o1, Below w.heap.size w (w.alloc o1) := fun o1 => (Below.refl _ _).alloc (Nat.le_refl _) _
  have HA : Hid (∀ o1, CAt (w.alloc o1) F s S) := fun o1 => h.below (b0 o1) (Nat.le_refl _)
  obtain ⟨VS, hVS⟩ : ∃ VS, VS = stepVals k a b x mo ml mc := ⟨_, rfl⟩
  rw [← hVS]
  have rx := Row.at w 52 VS _ _ rfl rfl
  have HSEG : Hid ((VS.drop 3).take 32 = x.map B8) := by
    show _ = _
    rw [hVS]
    unfold stepVals
    have e : ([Value.int .i64 k, .int .i64 a, .int .i64 b] ++ x.map B8 ++ [Value.slice mo ml mc]).drop 3 = x.map B8 ++ [Value.slice mo ml mc] := by simp
    rw [e, List.take_append_of_le_length (by simp [hx]), List.take_of_length_le (by simp [hx])]
  have e0 : VS[0]? = some (.int .i64 k) := by rw [hVS]; rfl
  have e1 : VS[1]? = some (.int .i64 a) := by rw [hVS]; rfl
  have e2 : VS[2]? = some (.int .i64 b) := by rw [hVS]; rfl
  have c0 := rx.cell 0 _ e0
  have c1 := rx.cell 1 _ e1
  have c2 := rx.cell 2 _ e2
  have HRX : Hid (Row (w.alloc (.cells VS.toArray 52)) w.heap.size 52 VS) := rx
  clear e0 e1 e2 rx hVS
  by_cases h2 : k = 2
  · have HS : Hid (s.doneS k a b x = s.program a b x ∧ s.doneE k a b = s.programE a b) := by unfold RS.doneS RS.doneE; rw [if_pos h2, if_pos h2]; exact ⟨rfl, rfl⟩
    have g1 : (k == 2) = true := by rw [beq_iff_eq]; exact h2
    have HP : Hid (∀ W, CAt W F s S → Calls Try.prog 23 #[.pointer (some ⟨F.g, 0, none⟩), .int .i64 a, .int .i64 b, .agg (x.map B8).toArray] W (CPost F (s.program a b x) (s.programE a b) W)) := fun W hW => cprogram_any F s S a b x hx W hW hn0 hn hw
    rw [HS.out.1, HS.out.2]
    clear h h2 HS
    go_enter Try.func19, Try.ntmps19
    go_wp2_with (first
      | (refine wpList_load_part rfl 49 _ rfl w.heap.size 3 52 32 VS HRX.out rfl _ (x.map B8) HSEG.out (by rw [List.length_map]; exact hx) Try.underlying49 rfl (by kernel_rfl) ?_)
      | (refine (HP.out _ (HA.out _)).mono ?_; rintro e w1 hp; have hq := hp.above (b0 _); obtain ⟨rfl, hq2⟩ := hq; clear hp))
    go_ret
    exact ⟨rfl, hq2⟩
  · have g1 : (k == 2) = false := by rw [beq_eq_false_iff_ne]; exact h2
    by_cases h3 : k = 3
    · have HS : Hid (s.doneS k a b x = s.erase a ∧ s.doneE k a b = s.eraseE a) := by unfold RS.doneS RS.doneE; rw [if_neg h2, if_neg h2, if_pos h3, if_pos h3]; exact ⟨rfl, rfl⟩
      have g2 : (k == 3) = true := by rw [beq_iff_eq]; exact h3
      have HP : Hid (∀ W, CAt W F s S → Calls Try.prog 39 #[.pointer (some ⟨F.g, 0, none⟩), .int .i64 a] W (CPost F (s.erase a) (s.eraseE a) W)) := fun W hW => cerase_any F s S a W hW hn0 hn hw hce he0
      rw [HS.out.1, HS.out.2]
      clear h h2 h3 HS
      go_enter Try.func19, Try.ntmps19
      go_wp2_with (refine (HP.out _ (HA.out _)).mono ?_; rintro e w1 hp; have hq := hp.above (b0 _); obtain ⟨rfl, hq2⟩ := hq; clear hp)
      go_ret
      exact ⟨rfl, hq2⟩
    · have HS : Hid (s.doneS k a b x = s.blow a ∧ s.doneE k a b = s.blowE a) := by unfold RS.doneS RS.doneE; rw [if_neg h2, if_neg h2, if_neg h3, if_neg h3]; exact ⟨rfl, rfl⟩
      have g2 : (k == 3) = false := by rw [beq_eq_false_iff_ne]; exact h3
      have HP : Hid (∀ W, CAt W F s S → Calls Try.prog 25 #[.pointer (some ⟨F.g, 0, none⟩), .int .i64 a] W (CPost F (s.blow a) (s.blowE a) W)) := fun W hW => cblow_any F s S a W hW hn0 hn hw
      rw [HS.out.1, HS.out.2]
      clear h h2 h3 HS
      go_enter Try.func19, Try.ntmps19
      go_wp2_with (refine (HP.out _ (HA.out _)).mono ?_; rintro e w1 hp; have hq := hp.above (b0 _); obtain ⟨rfl, hq2⟩ := hq; clear hp)
      go_ret
      exact ⟨rfl, hq2⟩

set_option maxHeartbeats 2000000 in
set_option maxRecDepth 100000 in
theorem mixed_any (hf ws wh : List By) (h1 : hf.length = 32) (h2 : ws.length = 32) (h3 : wh.length = 32) (ao : Option Addr) (n cap : Nat) (m : List By) (hm : m.length = n) (hl : n ≤ 140737488355328) (place : Nat) (hp : place ≤ 1000000) (w : World) (hb : IsB w ao m)
    (hok : ∀ i, i < 32 → hf.getD i 0 = (ws.getD i 0 &&& ~~~ bitsAt m (place + i)) ||| (wh.getD i 0 &&& bitsAt m (place + i))) :
    Calls Try.prog 22 #[.agg (hf.map B8).toArray, .agg (ws.map B8).toArray, .agg (wh.map B8).toArray, .slice ao n cap, .int .i64 (place : Int)] w fun e w' => e = .returned (.bool true) ∧ Below w.heap.size w w' := by
  obtain ⟨W1, hW1⟩ : ∃ W1, W1 = ((w.alloc (.cells (hf.map B8).toArray 49)).alloc (.cells (ws.map B8).toArray 49)).alloc (.cells (wh.map B8).toArray 49) := ⟨_, rfl⟩
  have HR0 : Hid (Row W1 w.heap.size 49 (hf.map B8)) := by rw [hW1]; exact ((Row.at _ _ _ _ _ rfl rfl : Row (w.alloc _) _ _ _).alloc _).alloc _
  have HR1 : Hid (Row W1 (w.heap.size + 1) 49 (ws.map B8)) := by rw [hW1]; exact (Row.at _ _ _ _ _ (by simp) rfl : Row ((w.alloc _).alloc _) _ _ _).alloc _
  have HR2 : Hid (Row W1 (w.heap.size + 2) 49 (wh.map B8)) := by rw [hW1]; exact Row.at _ _ _ _ _ (by simp) rfl
  have HB1 : Hid (Below w.heap.size w W1) := by rw [hW1]; exact (((Below.refl _ _).alloc (Nat.le_refl _) _).alloc (by simp) _).alloc (by simp; omega) _
  have HIB : Hid (∀ W, Dr W1 W → IsB W ao m) := by
    intro W d
    rcases hb with e | ⟨B, off, rfl, hc⟩
    · exact .inl e
    · exact .inr ⟨B, off, rfl, fun j v hj => d.cell (by rw [HB1.out.cell (World.block_lt_of_cell? _ _ (hc j v hj))]; exact hc j v hj)⟩
  have HOK : Hid (∀ i, i < 32 → hf.getD i 0 = (ws.getD i 0 &&& ~~~ bitsAt m (place + i)) ||| (wh.getD i 0 &&& bitsAt m (place + i))) := hok
  clear hb hok
  go_enter Try.func22, Try.ntmps22
  go_wp2
  rw [← hW1]
  clear hW1
  go_loopw [11] (fun iv wr => ∃ i : Nat, i ≤ 32 ∧ iv = .int .i64 i ∧ Dr W1 wr) (fun iv _ => 32 - (intOf iv).toNat)
  case atStart => exact ⟨0, by omega, rfl, Dr.refl _⟩
  case round =>
    obtain ⟨i, hi, rfl, d⟩ := hrel
    by_cases hlt : i < 32
    · have y0 : (0 : Int) ≤ (i : Int) := by omega
      have y1 : (i : Int) < 32 := by omega
      have ch : wr.cell? ⟨w.heap.size, i, none⟩ = some (.int .u8 ((hf.getD i 0).toNat : Int)) := d.cell (HR0.out.cell i _ (by rw [List.getElem?_map, List.getD_eq_getElem?_getD, List.getElem?_eq_getElem (by omega)]; rfl))
      have cw : wr.cell? ⟨w.heap.size + 1, i, none⟩ = some (.int .u8 ((ws.getD i 0).toNat : Int)) := d.cell (HR1.out.cell i _ (by rw [List.getElem?_map, List.getD_eq_getElem?_getD, List.getElem?_eq_getElem (by omega)]; rfl))
      have cz : wr.cell? ⟨w.heap.size + 2, i, none⟩ = some (.int .u8 ((wh.getD i 0).toNat : Int)) := d.cell (HR2.out.cell i _ (by rw [List.getElem?_map, List.getD_eq_getElem?_getD, List.getElem?_eq_getElem (by omega)]; rfl))
      have hk := HOK.out i hlt
      have j1 : IntKind.i64.wrap ((place : Int) + (i : Int)) = (place : Int) + (i : Int) := i64_in _ (by omega) (by omega)
      generalize hf.getD i 0 = hb at *
      generalize ws.getD i 0 = wb at *
      generalize wh.getD i 0 = zb at *
      by_cases hz : n = 0
      · have hm0 : m = [] := List.length_eq_zero_iff.1 (by omega)
        have hb0 : bitsAt m (place + i) = 0#8 := by rw [hm0]; rfl
        rw [hb0] at hk
        subst hz
        have e1 := bits8_andNot wb 0#8
        have e2 := bits8_and zb 0#8
        have e3 := bits8_or (wb &&& ~~~0#8) (zb &&& 0#8)
        rw [← hk] at e3
        have hz8 : ((0#8 : By).toNat : Int) = 0 := rfl
        rw [hz8] at e1 e2
        generalize (wb &&& ~~~0#8) = A at *
        generalize (zb &&& 0#8) = B at *
        clear hk hm0 hb0 hz8
        have HE1 : Hid (bits .andNot .u8 (wb.toNat : Int) 0 = (A.toNat : Int)) := e1
        have HE2 : Hid (bits .and .u8 (zb.toNat : Int) 0 = (B.toNat : Int)) := e2
        have HE3 : Hid (bits .or .u8 (A.toNat : Int) (B.toNat : Int) = (hb.toNat : Int)) := e3
        clear e1 e2 e3
        go_wp2
        go_quiet (fail)
        rw [HE1.out, HE2.out, HE3.out]
        go_wp2
        exact ⟨⟨i + 1, by omega, by go_num, d.trans ⟨nq, rfl⟩⟩, by simp [intOf]; omega⟩
      · have hpos : 0 < n := by omega
        have hlt2 : (place + i) % n < n := Nat.mod_lt _ hpos
        obtain ⟨B, off, rfl, hc⟩ : ∃ B off, ao = some ⟨B, off, none⟩ ∧ ∀ j v, m[j]? = some v → wr.cell? ⟨B, off + j, none⟩ = some (B8 v) := by
          rcases HIB.out wr d with e | e
          · exact absurd (by rw [← hm, e]; rfl) hz
          · exact e
        have cm : wr.cell? ⟨B, off + (place + i) % n, none⟩ = some (.int .u8 ((bitsAt m (place + i)).toNat : Int)) := hc _ _ (by
          unfold bitsAt
          rw [hm, List.getD_eq_getElem?_getD, List.getElem?_eq_getElem (by omega)]; rfl)
        generalize bitsAt m (place + i) = mb at *
        have e1 := bits8_andNot wb mb
        have e2 := bits8_and zb mb
        have e3 := bits8_or (wb &&& ~~~mb) (zb &&& mb)
        rw [← hk] at e3
        generalize (wb &&& ~~~mb) = A at *
        generalize (zb &&& mb) = B' at *
        have HE1 : Hid (bits .andNot .u8 (wb.toNat : Int) (mb.toNat : Int) = (A.toNat : Int)) := e1
        have HE2 : Hid (bits .and .u8 (zb.toNat : Int) (mb.toNat : Int) = (B'.toNat : Int)) := e2
        have HE3 : Hid (bits .or .u8 (A.toNat : Int) (B'.toNat : Int) = (hb.toNat : Int)) := e3
        have hrem2 : ((place : Int) + (i : Int)).tmod (n : Int) = (((place + i) % n : Nat) : Int) := by
          rw [Int.tmod_eq_emod_of_nonneg (by omega)]; simp
        have hg : decide ((0 : Int) < (n : Int)) = true := by simp; omega
        generalize (place + i) % n = r at *
        have i1 : (0 : Int) ≤ (r : Int) := by omega
        have i2 : (r : Int) < (n : Int) := by omega
        clear e1 e2 e3 hk hc
        go_wp2
        go_quiet (fail)
        rw [HE1.out, HE2.out, HE3.out]
        go_wp2
        exact ⟨⟨i + 1, by omega, by go_num, d.trans ⟨nq, rfl⟩⟩, by simp [intOf]; omega⟩
    · obtain rfl : i = 32 := by omega
      have y1 : ¬ ((32 : Nat) : Int) < 32 := by omega
      have hbw : Below w.heap.size w wr := Below_dr HB1.out d
      go_wp2
      go_ret
      exact ⟨rfl, hbw⟩
end Go.Proofs.Ythjndaeibbfgaaa
