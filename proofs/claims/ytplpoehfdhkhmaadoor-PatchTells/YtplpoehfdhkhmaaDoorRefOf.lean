
import Derived.Test.YtplpoehfdhkhmaaDoorPadded
import Derived.StillTailTactics
namespace Go.Proofs.YtplpoehfdhkhmaaDoor
open Go.RowKit

theorem IsB.below {w w' : World} {ao : Option Addr} {m : List By} {N : Nat} (h : IsB w ao m) (hb : Below N w w') (hN : w.heap.size <= N) : IsB w' ao m := by
  rcases h with h | ⟨B, off, rfl, hc⟩
  · exact .inl h
  · refine .inr ⟨B, off, rfl, fun j v hj => ?_⟩
    have h1 := hc j v hj
    rw [hb.cell (p := ⟨B, off + j, none⟩) (by have := block_lt_of_cell h1; simp at this ⊢; omega)]
    exact h1

/-- Bytes that lie in a block from its place o on. -/
def Lies (w : World) (g o : Nat) (m : List By) : Prop := ∀ j, j < m.length -> w.cell? ⟨g, o + j, none⟩ = some (B8 (m.getD j 0))
theorem Lies.below {w w' : World} {g o B : Nat} {m : List By} (h : Lies w g o m) (hb : Below B w w') (hg : g < B) : Lies w' g o m := fun j hj => (hb.cell (p := ⟨g, o + j, none⟩) hg).trans (h j hj)
theorem Lies.but {w w' : World} {g o g' : Nat} {m : List By} (h : Lies w g o m) (hs : SameBut g' w w') (hne : g ≠ g') : Lies w' g o m := fun j hj => (World.cell?_of_block (w := w) (hs.block g hne)).trans (h j hj)
theorem Lies.alloc {w : World} {g o : Nat} {m : List By} (h : Lies w g o m) (ob : Obj) (hg : g < w.heap.size) : Lies (w.alloc ob) g o m := fun j hj => (World.cell?_alloc_past (w := w) ob g (o + j) hg).trans (h j hj)
theorem Lies.dr {w w' : World} {g o : Nat} {m : List By} (h : Lies w g o m) (d : Dr w w') : Lies w' g o m := fun j hj => d.cell (h j hj)

/-- The padded row, its value written out. -/
theorem padded_at (ao : Option Addr) (cap : Nat) (m : List By) (w : World) (hb : IsB w ao m) (hcap : ao = none -> cap = 0) (hm : m.length <= 140737488353280) :
    Calls Tryd.prog 42 #[.slice ao m.length cap] w fun e w' => ∃ g c, e = .returned (.slice (some ⟨g, 0, none⟩) (pad m).length c) /\ (pad m).length <= c /\ w.heap.size <= g /\ g < w'.heap.size /\ (∀ j, j < (pad m).length -> w'.cell? ⟨g, j, none⟩ = some (B8 ((pad m).getD j 0))) /\ Below w.heap.size w w' := by
  refine (padded_any ao cap m w hb hcap hm).mono ?_
  rintro e w' ⟨v, rfl, ho, hbl⟩
  have hpos : 0 < (pad m).length := by simp [pad, ending]; omega
  rcases ho.1.2 with ⟨rfl, h0⟩ | ⟨g, c, cur, rfl, hg, hc, hnc, _, _, _⟩
  · omega
  · refine ⟨g, c, rfl, hnc, hg, ?_, ?_, hbl⟩
    · by_cases hlt : g < w'.heap.size
      · exact hlt
      · rw [Array.getElem?_eq_none (by omega)] at hc; cases hc
    · intro j hj
      rw [ho.1.cellAt j (by omega)]
      simp [hj]

theorem wpStill_load_Row {P : Program} {ops : Array Oper} {rest : List Oper} {op : Oper} {a : Act} {w : World} {Q : Act -> Prop} (hgd : op.guard = none) (ty : TypeId) (x : Operand) (ho : op.op = .load ty x)
    (g o t n : Nat) (cs : List Value) (hr : Row w g t cs) (hx : a.eval x = .pointer (some ⟨g, o, none⟩)) (d : TypeDesc) (cs' : List Value) (hcs : (cs.drop o).take n = cs') (hn : cs'.length = n)
    (hu : P.underlying ty = some d) (hd : d.isRow = true) (hi : (P.info? ty).map (·.size) = some n)
    (h : wpStill P ops w Q rest (a.put op.dst (.agg cs'.toArray))) : wpStill P ops w Q (op :: rest) a := by
  subst hcs
  refine wpStill_step (fun K hK => ?_)
  have hw : Region.wanted op (yielded ops a.tmps) = true := by unfold Region.wanted; simp [hgd]
  rw [if_pos hw]
  unfold Oper.still execOp
  simp only [ho, hx, Instr.loadAt, Instr.sureAddr, Sem.run_bind, Sem.run_pure, Result.andThen_ok, run_loadVar_mid w g o ty _ d (hr.range o n) hu hd (by rw [hn]; exact hi)]
  exact ⟨rfl, hK _ h⟩

theorem hs_succ (m : List By) (n : Nat) : comp (hs m n) (pc m n) = hs m (n + 1) := by simp only [hs]
theorem pc_getD (pm : List By) (n j : Nat) (hj : j < 64) : (pc pm n).getD j 0 = pm.getD (64 * n + j) 0 := by
  unfold pc
  rw [List.getD_eq_getElem?_getD, List.getD_eq_getElem?_getD, List.getElem?_take, if_pos hj, List.getElem?_drop]

/-- The first k bytes of a row, zeros behind them. -/
def part (l : List By) (n k : Nat) : List By := l.take k ++ List.replicate (n - k) 0
theorem part_len (l : List By) (n k : Nat) (hl : l.length = n) (hk : k <= n) : (part l n k).length = n := by simp [part]; omega
theorem part_all (l : List By) (n : Nat) (hl : l.length = n) : part l n n = l := by simp [part, <- hl]
theorem part_set (l : List By) (n k : Nat) (hl : l.length = n) (hk : k < n) : (part l n k).set k (l.getD k 0) = part l n (k + 1) := by
  unfold part
  rw [List.set_append_right _ _ (by simp; omega)]
  have e1 : k - (l.take k).length = 0 := by simp; omega
  rw [e1, show n - k = (n - (k + 1)) + 1 by omega, List.replicate_succ, List.set_cons_zero]
  have : l[k]? = some l[k] := List.getElem?_eq_getElem (by omega)
  rw [List.take_add_one, this, List.getD_eq_getElem?_getD, this, List.append_assoc]
  rfl
theorem map_set_B8 (l : List By) (i : Nat) (x : By) : (l.map B8).set i (.int .u8 (x.toNat : Int)) = (l.set i x).map B8 := by
  rw [List.map_set]; rfl
theorem out_len (s : S8) : (out s).length = 32 := rfl
theorem out_get0 (s : S8) (q : Nat) (hq : q < 8) : (out s).getD (4 * q) 0 = (s.list.getD q 0 >>> 24).setWidth 8 := by
  have : q = 0 ∨ q = 1 ∨ q = 2 ∨ q = 3 ∨ q = 4 ∨ q = 5 ∨ q = 6 ∨ q = 7 := by omega
  rcases this with rfl | rfl | rfl | rfl | rfl | rfl | rfl | rfl <;> rfl
theorem out_get1 (s : S8) (q : Nat) (hq : q < 8) : (out s).getD (4 * q + 1) 0 = (s.list.getD q 0 >>> 16).setWidth 8 := by
  have : q = 0 ∨ q = 1 ∨ q = 2 ∨ q = 3 ∨ q = 4 ∨ q = 5 ∨ q = 6 ∨ q = 7 := by omega
  rcases this with rfl | rfl | rfl | rfl | rfl | rfl | rfl | rfl <;> rfl
theorem out_get2 (s : S8) (q : Nat) (hq : q < 8) : (out s).getD (4 * q + 2) 0 = (s.list.getD q 0 >>> 8).setWidth 8 := by
  have : q = 0 ∨ q = 1 ∨ q = 2 ∨ q = 3 ∨ q = 4 ∨ q = 5 ∨ q = 6 ∨ q = 7 := by omega
  rcases this with rfl | rfl | rfl | rfl | rfl | rfl | rfl | rfl <;> rfl
theorem out_get3 (s : S8) (q : Nat) (hq : q < 8) : (out s).getD (4 * q + 3) 0 = (s.list.getD q 0).setWidth 8 := by
  have : q = 0 ∨ q = 1 ∨ q = 2 ∨ q = 3 ∨ q = 4 ∨ q = 5 ∨ q = 6 ∨ q = 7 := by omega
  rcases this with rfl | rfl | rfl | rfl | rfl | rfl | rfl | rfl <;> rfl

set_option maxHeartbeats 1000000 in
set_option maxRecDepth 100000 in
theorem refOf_any (ao : Option Addr) (cap : Nat) (m : List By) (w : World) (hb : IsB w ao m) (hcap : ao = none -> cap = 0) (hm : m.length <= 140737488353280) :
    Calls Tryd.prog 25 #[.slice ao m.length cap] w fun e w' => e = .returned (.agg ((sha m).map B8).toArray) /\ Below w.heap.size w w' := by
  go_enter Tryd.func25, Tryd.ntmps25
  go_wp2_with fail
  have b0 : ∀ o1, Below w.heap.size w (w.alloc o1) := fun o1 => (Below.refl _ _).alloc (Nat.le_refl _) _
  refine (padded_at ao cap m _ (hb.below (b0 _) (Nat.le_refl _)) hcap hm).mono ?_
  rintro e w1 ⟨g, c, rfl, hLc, hg1, hg2, hcl, hb1⟩
  have r0 : Row w1 w.heap.size 25 ((List.replicate 32 (0 : By)).map B8) := Row.below (Row.at w 25 _ _ _ rfl rfl) hb1 (by simp)
  have bb : Below w.heap.size w w1 := (b0 _).trans (hb1.mono (by simp))
  replace hg1 : w.heap.size + 1 <= g := by simpa using hg1
  have hpl := pad_len m
  have hpL : (pad m).length <= 140737488355328 := by simp [pad, ending_len, zerosOf]; omega
  have HS : Hid (sha m = out (hs (pad m) ((pad m).length / 64))) := rfl
  generalize pad m = pm at hpl hpL HS hcl hLc ⊢
  clear hb1 b0 hb
  go_wp2_with fail
  refine (begins_any _).mono ?_
  rintro e w2 ⟨rfl, hb2⟩
  replace r0 := r0.below hb2 r0.lt
  replace bb := bb.trans (hb2.mono (by have := r0.lt; have := bb.size; omega))
  replace hcl : Lies w1 g 0 pm := fun j hj => by rw [Nat.zero_add]; exact hcl j hj
  replace hcl := hcl.below hb2 hg2
  have hg3 : g < w2.heap.size := by have := hb2.size; omega
  clear hb2 hg2
  generalize hN : w.heap.size = N at *
  generalize hS2 : w2.heap.size = SB at *
  go_wp2_with (refine wpList_store_Row rfl 96 _ _ rfl SB 96 0 ((List.replicate 8 (0 : Wd)).map U) (init8.list.map U) (Row.at _ _ _ _ _ hS2.symm rfl) (by simp [S8.list]) rfl rfl (by kernel_rfl) (U_one _) ?_; intro w3 hr3 hs3)
  have r1 := row_whole hr3 (by simp [S8.list_len])
  replace r0 := (r0.alloc _).but hs3 (by omega)
  replace hcl := (hcl.alloc _ (by omega)).but hs3 (by omega)
  replace bb := hs3.below (bb.alloc (by omega) _) (by omega)
  have hz3 : w3.heap.size = SB + 1 := by rw [hs3.size]; simp [hS2]
  clear hr3 hs3
  refine (rounds_any _).mono ?_
  rintro e w4 ⟨rfl, hb4⟩
  replace r0 := r0.below hb4 (by omega)
  replace r1 := r1.below hb4 (by omega)
  replace hcl := hcl.below hb4 (by omega)
  replace bb := bb.trans (hb4.mono (by omega))
  have hz4 : SB + 1 <= w4.heap.size := by have := hb4.size; omega
  clear hb4 hz3
  obtain ⟨KK, hKK⟩ : ∃ K, K = Kt := ⟨_, rfl⟩
  rw [<- hKK]
  have hKl : KK.length = 64 := by rw [hKK]; rfl
  have HK : Hid (KK = Kt) := hKK
  clear hKK
  generalize hS4 : w4.heap.size = KB at *
  go_wp2_with (refine wpList_store_Row rfl 98 _ _ rfl KB 98 0 ((List.replicate 64 (0 : Wd)).map U) (KK.map U) (Row.at _ _ _ _ _ hS4.symm rfl) (by rw [List.length_map, hKl, List.length_map, List.length_replicate]; decide) rfl rfl (by rw [List.length_map, hKl]; kernel_rfl) (U_one _) ?_; intro w5 hr5 hs5)
  have rk := row64 hKl hr5
  replace r0 := (r0.alloc _).but hs5 (by omega)
  replace r1 := (r1.alloc _).but hs5 (by omega)
  replace hcl := (hcl.alloc _ (by omega)).but hs5 (by omega)
  replace bb := hs5.below (bb.alloc (by omega) _) (by omega)
  clear hr5 hs5 hS4 hS2
  go_loopw [6] (fun i wr => ∃ n : Nat, n <= pm.length / 64 /\ i = .int .i64 ((64 * n : Nat) : Int) /\ (∃ s : S8, Hid (s = hs pm n) /\ Row wr SB 96 (s.list.map U)) /\ Row wr N 25 ((List.replicate 32 (0 : By)).map B8) /\ Row wr KB 98 (KK.map U) /\ Lies wr g 0 pm /\ Below N w wr)
    (fun i _ => pm.length - (intOf i).toNat)
  case atStart => exact ⟨0, by omega, rfl, ⟨init8, rfl, r1⟩, r0, rk, hcl, bb⟩
  case round =>
    clear r0 r1 rk hcl bb
    obtain ⟨n, hn, rfl, ⟨s, hs, r1⟩, r0, rk, hcl, bb⟩ := hrel
    by_cases hlt : n < pm.length / 64
    · have i1 : ((64 * n : Nat) : Int) < (pm.length : Int) := by omega
      have i2 : (0 : Int) <= ((64 * n : Nat) : Int) := by omega
      have i3 : ((64 * n : Nat) : Int) + 64 <= (c : Int) := by omega
      generalize hat : 64 * n = at_ at *
      have HA : Hid (64 * n = at_) := hat
      have i4 : (0 : Int) <= (at_ : Int) + 64 := by omega
      have i5 : ((at_ : Int) + 64).toNat = at_ + 64 := by omega
      have i6 : c ≠ at_ := by omega
      have i7 : at_ <= at_ + 64 := by omega
      have i8 : at_ + 64 - at_ = 64 := by omega
      have j1 : IntKind.i64.wrap ((at_ : Int) + 64) = (at_ : Int) + 64 := i64_in _ (by omega) (by omega)
      have hle : at_ + 64 <= pm.length := by omega
      clear hat
      go_wp2
      refine wp_region_still_tail 7 (by kernel_rfl) (by kernel_rfl) ?_
      simp only [List.take_succ_cons, List.take_zero, List.drop_succ_cons, List.drop_zero]
      have hd : Dr wr { wr with drawn := wr.drawn + 1 } := ⟨1, rfl⟩
      generalize { wr with drawn := wr.drawn + 1 } = wq at hd ⊢
      replace r1 := r1.dr hd
      replace r0 := r0.dr hd
      replace rk := rk.dr hd
      replace hcl := hcl.dr hd
      replace bb := Below_dr bb hd
      clear hd
      refine wpStill_load_Row rfl 96 _ rfl SB 0 96 8 _ r1 rfl _ (s.list.map U) (by simp [S8.list]) (by simp [S8.list]) Tryd.underlying96 rfl (by kernel_rfl) ?_
      still_step
      still_step
      still_step
      still_step
      still_step
      refine wpStill_load_Row rfl 98 _ rfl KB 0 98 64 _ rk rfl _ (KK.map U) (by rw [List.drop_zero, List.take_of_length_le (by simp [hKl])]) (by simp [hKl]) Tryd.underlying98 rfl (by kernel_rfl) ?_
      refine wpStill_nil ?_
      go_wp2_with fail
      have hP : ∀ j, j < 64 -> wq.cell? ⟨g, at_ + j, none⟩ = some (B8 ((pc pm n).getD j 0)) := fun j hj => by
        rw [pc_getD pm n j hj, HA.out]
        have := hcl (at_ + j) (by omega)
        rwa [Nat.zero_add] at this
      have pcl := piece_any s g at_ (c - at_) (pc pm n) wq hP
      rw [<- HK.out] at pcl
      refine pcl.mono ?_
      rintro e w6 ⟨rfl, hb6⟩
      clear pcl hP
      have hz := rk.lt
      replace r1 := r1.below hb6 r1.lt
      replace r0 := r0.below hb6 r0.lt
      replace rk := rk.below hb6 hz
      replace hcl := hcl.below hb6 (by omega)
      replace bb := bb.trans (hb6.mono (by omega))
      clear hb6 hz
      have E : Hid (comp s (pc pm n) = YtplpoehfdhkhmaaDoor.hs pm (n + 1)) := by show _ = _; rw [hs.out]; exact hs_succ pm n
      generalize comp s (pc pm n) = s' at E ⊢
      go_wp2_with (refine wpList_store_Row rfl 96 _ _ rfl SB 96 0 _ (s'.list.map U) r1 (by simp [S8.list_len]) rfl rfl (by kernel_rfl) (U_one _) ?_; intro w7 hr7 hs7)
      have r1' := row_whole hr7 (by simp [S8.list_len])
      refine ⟨⟨n + 1, by omega, ?_, ⟨s', E.out, r1'⟩, r0.but hs7 (by omega), rk.but hs7 (by omega), hcl.but hs7 (by omega), hs7.below bb (by omega)⟩, by simp [intOf]; omega⟩
      have := HA.out
      exact val_int (by omega)
    · obtain rfl : n = pm.length / 64 := by omega
      have hge : ¬ ((64 * (pm.length / 64) : Nat) : Int) < (pm.length : Int) := by omega
      have HO : Hid (sha m = out s) := by show _ = _; rw [HS.out, hs.out]
      have hz := rk.lt
      clear hlt hn rk hcl hs HS
      generalize hHB : wr.heap.size = HB at *
      go_wp2_with (refine wpList_store_Row rfl 25 _ _ rfl HB 25 0 ((List.replicate 32 (0 : By)).map B8) ((part (out s) 32 0).map B8) (Row.at _ _ _ _ _ hHB.symm rfl) (by simp [part]) rfl rfl (by kernel_rfl) (B8_one _) ?_; intro w8 hr8 hs8)
      have rh := row_whole hr8 (by simp [part])
      replace r1 := (r1.alloc _).but hs8 (by omega)
      replace r0 := (r0.alloc _).but hs8 (by omega)
      replace bb := hs8.below (bb.alloc (by omega) _) (by omega)
      clear hr8 hs8 hHB
      go_loopw [8] (fun i wr => ∃ k : Nat, k <= 32 /\ i = .int .i64 k /\ Row wr HB 25 ((part (out s) 32 k).map B8) /\ Row wr SB 96 (s.list.map U) /\ Row wr N 25 ((List.replicate 32 (0 : By)).map B8) /\ Below N w wr)
        (fun i _ => 32 - (intOf i).toNat)
      case atStart => exact ⟨0, by omega, rfl, rh, r1, r0, bb⟩
      case round =>
        clear rh r1 r0 bb
        obtain ⟨k, hk, rfl, rh, r1, r0, bb⟩ := hrel
        by_cases hlt : k < 32
        · obtain ⟨q, r, hkq, hr4, hq8⟩ : ∃ q r, k = 4 * q + r /\ r < 4 /\ q < 8 := ⟨k / 4, k % 4, by omega, by omega, by omega⟩
          have x1 := r1.word q (by rw [S8.list_len]; exact hq8)
          have k1 : ∃ v, wr.cell? ⟨HB, k, none⟩ = some v := ⟨_, rh.cell k _ (List.getElem?_eq_getElem (by rw [List.length_map, part_len _ _ _ (out_len s) hk]; exact hlt))⟩
          obtain ⟨vv, k1⟩ := k1
          have k2 := rh.frozen k
          have i1 : (k : Int) / 4 = (q : Int) := by omega
          have i3 : (0 : Int) <= (q : Int) := by omega
          have i4 : (q : Int) < 8 := by omega
          have i5 : (k : Int) < 32 := by omega
          have i6 : (0 : Int) <= (k : Int) := by omega
          have E := part_set (out s) 32 k (out_len s) hlt
          have rr4 : r = 0 ∨ r = 1 ∨ r = 2 ∨ r = 3 := by omega
          clear hr4
          rcases rr4 with rfl | rfl | rfl | rfl
          · have i2 : (k : Int) % 4 = 0 := by omega
            have EE : Hid ((part (out s) 32 k).set k (((s.list.getD q 0) >>> 24).setWidth 8) = part (out s) 32 (k + 1)) := by
              show _ = _
              rw [<- E, hkq]; congr 1; exact (out_get0 s q hq8).symm
            clear E hkq
            generalize s.list.getD q 0 = x at x1 EE
            have fm : (x.toNat : Int) / (16777216 : Int) = (((x >>> 24).setWidth 8 : By).toNat : Int) := by
              have h := byte_of x 24; simp only [Int.reducePow] at h; rw [<- h]; have := x.isLt; omega
            generalize ((x >>> 24).setWidth 8 : By) = y at EE fm
            go_wp2
            refine ⟨⟨k + 1, by omega, by go_num, ?_, r1.setOther _ _ (by simp; omega), r0.setOther _ _ (by simp; omega), bb.setCell (by simp; omega) _⟩, by simp [intOf]; omega⟩
            have R := rh.set k (.int .u8 (y.toNat : Int))
            rw [map_set_B8, EE.out] at R
            exact R
          · have i2 : (k : Int) % 4 = 1 := by omega
            have EE : Hid ((part (out s) 32 k).set k (((s.list.getD q 0) >>> 16).setWidth 8) = part (out s) 32 (k + 1)) := by
              show _ = _
              rw [<- E, hkq]; congr 1; exact (out_get1 s q hq8).symm
            clear E hkq
            generalize s.list.getD q 0 = x at x1 EE
            have fm : (x.toNat : Int) / (65536 : Int) % (256 : Int) = (((x >>> 16).setWidth 8 : By).toNat : Int) := by
              have h := byte_of x 16; simp only [Int.reducePow] at h; rw [<- h]
            generalize ((x >>> 16).setWidth 8 : By) = y at EE fm
            go_wp2
            refine ⟨⟨k + 1, by omega, by go_num, ?_, r1.setOther _ _ (by simp; omega), r0.setOther _ _ (by simp; omega), bb.setCell (by simp; omega) _⟩, by simp [intOf]; omega⟩
            have R := rh.set k (.int .u8 (y.toNat : Int))
            rw [map_set_B8, EE.out] at R
            exact R
          · have i2 : (k : Int) % 4 = 2 := by omega
            have EE : Hid ((part (out s) 32 k).set k (((s.list.getD q 0) >>> 8).setWidth 8) = part (out s) 32 (k + 1)) := by
              show _ = _
              rw [<- E, hkq]; congr 1; exact (out_get2 s q hq8).symm
            clear E hkq
            generalize s.list.getD q 0 = x at x1 EE
            have fm : (x.toNat : Int) / (256 : Int) % (256 : Int) = (((x >>> 8).setWidth 8 : By).toNat : Int) := by
              have h := byte_of x 8; simp only [Int.reducePow] at h; rw [<- h]
            generalize ((x >>> 8).setWidth 8 : By) = y at EE fm
            go_wp2
            refine ⟨⟨k + 1, by omega, by go_num, ?_, r1.setOther _ _ (by simp; omega), r0.setOther _ _ (by simp; omega), bb.setCell (by simp; omega) _⟩, by simp [intOf]; omega⟩
            have R := rh.set k (.int .u8 (y.toNat : Int))
            rw [map_set_B8, EE.out] at R
            exact R
          · have i2 : (k : Int) % 4 = 3 := by omega
            have EE : Hid ((part (out s) 32 k).set k ((s.list.getD q 0).setWidth 8) = part (out s) 32 (k + 1)) := by
              show _ = _
              rw [<- E, hkq]; congr 1; exact (out_get3 s q hq8).symm
            clear E hkq
            generalize s.list.getD q 0 = x at x1 EE
            have fm : (x.toNat : Int) % (256 : Int) = ((x.setWidth 8 : By).toNat : Int) := by
              rw [BitVec.toNat_setWidth]; omega
            generalize (x.setWidth 8 : By) = y at EE fm
            go_wp2
            refine ⟨⟨k + 1, by omega, by go_num, ?_, r1.setOther _ _ (by simp; omega), r0.setOther _ _ (by simp; omega), bb.setCell (by simp; omega) _⟩, by simp [intOf]; omega⟩
            have R := rh.set k (.int .u8 (y.toNat : Int))
            rw [map_set_B8, EE.out] at R
            exact R
        · obtain rfl : k = 32 := by omega
          clear hlt hk
          rw [part_all _ _ (out_len s)] at rh
          go_wp2_with (first | (refine wpList_load_Row rfl 25 _ rfl _ _ _ rh rfl _ Tryd.underlying25 rfl (by rw [List.length_map, out_len]; kernel_rfl) ?_) | (refine wpList_store_Row rfl 25 _ _ rfl _ _ 0 _ _ r0 (by simp [out_len]) rfl rfl (by rw [List.length_map, out_len]; kernel_rfl) (B8_one _) ?_; intro w9 hr9 hs9))
          have hr := row_whole hr9 (by simp [out_len])
          exact bodyPost_ret_by (results_Row Tryd.results25 _ w9 N 25 _ _ rfl hr Tryd.underlying25 rfl (by rw [List.length_map, out_len]; kernel_rfl)) rfl ⟨by rw [HO.out], by rw [hN]; exact hs9.below bb (by omega)⟩
end Go.Proofs.YtplpoehfdhkhmaaDoor
