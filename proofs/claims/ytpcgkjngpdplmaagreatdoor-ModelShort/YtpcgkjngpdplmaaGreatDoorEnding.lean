import Derived.Test.YtpcgkjngpdplmaaGreatDoorOpenA
import Derived.Test.YtpcgkjngpdplmaaGreatDoorSched

namespace Go.Proofs.YtpcgkjngpdplmaaGreatDoor
open Go.RowKit

theorem run_index_U (t len : Nat) (hu : Tryz.prog.underlying t = some (.array len 135)) (l : List Wd) (k : Nat) (hk : k < len) (hl : k < l.length) (w : World) :
    (Instr.index t (.agg (l.map U).toArray) (.int .i64 (k : Int))).run Tryz.prog w = .ok (.int .u32 ((l.getD k 0).toNat : Int)) w := by
  have hs : (sizeOf 135).run Tryz.prog w = .ok 1 w := by kernel_rfl
  simp [Instr.index, asIntOf, run_underlying hu, hk, hs, Go.part, hl, U]

set_option maxHeartbeats 1000000 in
set_option maxRecDepth 100000 in
theorem compress_any (s : S8) (D o KB : Nat) (bs : List By) (w : World) (hp : ∀ j, j < 64 → w.cell? ⟨D, o + j, none⟩ = some (B8 (bs.getD j 0))) (hk : Row w KB 138 (Kt.map U)) :
    Calls Tryz.prog 115 #[.agg (s.list.map U).toArray, .pointer (some ⟨D, o, none⟩), .pointer (some ⟨KB, 0, none⟩)] w fun e w' => e = .returned (.agg ((comp s bs).list.map U).toArray) ∧ Below w.heap.size w w' := by
  have hD : D < w.heap.size := block_lt_of_cell (hp 0 (by omega))
  have hKB := hk.lt
  have e0 : (s.list.map U).toArray = #[.int .u32 (s.a.toNat : Int), .int .u32 (s.b.toNat : Int), .int .u32 (s.c.toNat : Int), .int .u32 (s.d.toNat : Int), .int .u32 (s.e.toNat : Int), .int .u32 (s.f.toNat : Int), .int .u32 (s.g.toNat : Int), .int .u32 (s.h.toNat : Int)] := rfl
  rw [e0]
  clear e0
  go_enter Tryz.func115, Tryz.ntmps115
  go_wp2_with fail
  have b0 : ∀ o1 o2, Below w.heap.size w ((w.alloc o1).alloc o2) := fun o1 o2 => ((Below.refl _ _).alloc (Nat.le_refl _) _).alloc (by simp) _
  refine (schedule_any D o bs _ (fun j hj => ((b0 _ _).cell (p := ⟨D, o + j, none⟩) hD).trans (hp j hj))).mono ?_
  rintro e w1 ⟨rfl, hb1⟩
  have r0 : Row w1 w.heap.size 136 (s.list.map U) := Row.below ((Row.at w 136 (s.list.map U) _ _ rfl rfl).alloc _) hb1 (by simp; omega)
  have r1 : Row w1 (w.heap.size + 1) 136 ((List.replicate 8 (0 : Wd)).map U) := Row.below (Row.at (w.alloc _) 136 ((List.replicate 8 (0 : Wd)).map U) _ _ (by simp) rfl) hb1 (by simp)
  have bb : Below w.heap.size w w1 := (b0 _ _).trans (hb1.mono (by simp; omega))
  have hsz : w.heap.size + 1 < w1.heap.size := r1.lt
  have r2 : Row w1 KB 138 (Kt.map U) := hk.below bb hKB
  clear hb1 b0 hp hk
  go_wp2_with (refine wpList_store_Row rfl 138 _ _ rfl w1.heap.size 138 0 ((List.replicate 64 (0 : Wd)).map U) ((sched bs).map U) (Row.at _ _ _ _ _ rfl rfl) (by rw [List.length_map, sched_len, List.length_map, List.length_replicate]; decide) rfl rfl (by rw [List.length_map, sched_len]; kernel_rfl) (U_one _) ?_; intro w2 hr0 hs)
  have r3 := row64 (sched_len bs) hr0
  replace r0 : Row w2 w.heap.size 136 (s.list.map U) := (r0.alloc _).but hs (by omega)
  replace r1 : Row w2 (w.heap.size + 1) 136 ((List.replicate 8 (0 : Wd)).map U) := (r1.alloc _).but hs (by omega)
  replace r2 : Row w2 KB 138 (Kt.map U) := (r2.alloc _).but hs (by omega)
  replace bb : Below w.heap.size w w2 := hs.below (bb.alloc (by omega) _) (by omega)
  clear hs hr0
  generalize hSB : w1.heap.size = SB at r3 ⊢
  have a0 := r0.word 0 (by simp [S8.list])
  have a1 := r0.word 1 (by simp [S8.list])
  have a2 := r0.word 2 (by simp [S8.list])
  have a3 := r0.word 3 (by simp [S8.list])
  have a4 := r0.word 4 (by simp [S8.list])
  have a5 := r0.word 5 (by simp [S8.list])
  have a6 := r0.word 6 (by simp [S8.list])
  have a7 := r0.word 7 (by simp [S8.list])
  simp only [S8.list, List.getD_cons_zero, List.getD_cons_succ] at a0 a1 a2 a3 a4 a5 a6 a7
  go_wp2
  go_quiet (fail)
  go_wp2
  go_quiet (fail)
  go_wp2_with (refine wpList_load_Row rfl 138 _ rfl _ _ _ r3 rfl _ Tryz.underlying138 rfl (by rw [List.length_map, sched_len]; kernel_rfl) ?_)
  go_loopw [8, 9, 10, 11, 12, 13, 14, 15, 41] (fun a b c d e f g h i wr => ∃ t : Nat, t ≤ 64 ∧ i = .int .i64 t ∧ Dr w2 wr ∧ ∃ v : S8, Hid (v = rnds s Kt (sched bs) t) ∧ a = .int .u32 (v.a.toNat : Int) ∧ b = .int .u32 (v.b.toNat : Int)
      ∧ c = .int .u32 (v.c.toNat : Int) ∧ d = .int .u32 (v.d.toNat : Int) ∧ e = .int .u32 (v.e.toNat : Int) ∧ f = .int .u32 (v.f.toNat : Int) ∧ g = .int .u32 (v.g.toNat : Int) ∧ h = .int .u32 (v.h.toNat : Int))
    (fun _ _ _ _ _ _ _ _ i _ => 64 - (intOf i).toNat)
  case atStart => exact ⟨0, by omega, rfl, ⟨_, rfl⟩, s, rfl, rfl, rfl, rfl, rfl, rfl, rfl, rfl, rfl⟩
  case round =>
    obtain ⟨t, ht, rfl, hn, v, hv, rfl, rfl, rfl, rfl, rfl, rfl, rfl, rfl⟩ := hrel
    by_cases hlt : t < 64
    · have i1 : (0 : Int) ≤ (t : Int) := by omega
      have i2 : (t : Int) < 64 := by omega
      have x1 := run_index_U 138 64 Tryz.underlying138 (sched bs) t hlt (by rw [sched_len]; exact hlt)
      have k1 := (r2.dr hn).word t (by rw [Kt_len]; exact hlt)
      have E : Hid (rnds s Kt (sched bs) (t + 1) = rnd v (Kt.getD t 0) ((sched bs).getD t 0)) := by
        rw [hv.out]; rfl
      generalize (sched bs).getD t 0 = y at x1 E
      generalize Kt.getD t 0 = kt at k1 E
      go_wp2
      go_quiet ((go_at_call 127; exact Calls.quiet_of_same (turn_at _ _ _ (by decide) (by decide))))
      go_wp2_with (go_at_call 127; refine (turn_at _ _ _ (by decide) (by decide)).mono ?_; rintro e w' ⟨rfl, rfl⟩)
      refine ⟨⟨t + 1, by omega, by go_num, hn.drewN nq, rnd v kt y, E.out.symm, val_int ?_, rfl, rfl, rfl, val_int ?_, rfl, rfl, rfl⟩, by simp [intOf]; omega⟩
      · rw [rndU_form, rndV_form, add_bv]; rfl
      · rw [rndU_form, add_bv]; rfl
    · obtain rfl : t = 64 := by omega
      clear hlt ht
      replace r0 := r0.dr hn
      replace r1 := r1.dr hn
      replace bb := Below_dr bb hn
      clear a0 a1 a2 a3 a4 a5 a6 a7 r2 r3 hSB hsz hn
      go_wp2
      go_loopw [114] (fun i wr => ∃ k : Nat, k ≤ 8 ∧ i = .int .i64 k ∧ Row wr w.heap.size 136 ((addSet s v k).map U) ∧ Row wr (w.heap.size + 1) 136 ((List.replicate 8 (0 : Wd)).map U) ∧ Below w.heap.size w wr)
        (fun i _ => 8 - (intOf i).toNat)
      case atStart => exact ⟨0, by omega, rfl, r0, r1, bb⟩
      case round =>
        clear r0 r1 bb
        obtain ⟨k, hk, rfl, r0, r1, bb⟩ := hrel
        by_cases hlt : k < 8
        · have i1 : (0 : Int) ≤ (k : Int) := by omega
          have i2 : (k : Int) < 8 := by omega
          have x1 : ∀ w : World, (Instr.index 136 (.agg #[.int .u32 (v.a.toNat : Int), .int .u32 (v.b.toNat : Int), .int .u32 (v.c.toNat : Int), .int .u32 (v.d.toNat : Int), .int .u32 (v.e.toNat : Int), .int .u32 (v.f.toNat : Int), .int .u32 (v.g.toNat : Int), .int .u32 (v.h.toNat : Int)]) (.int .i64 (k : Int))).run Tryz.prog w = .ok (.int .u32 ((v.list.getD k 0).toNat : Int)) w :=
            run_index_U 136 8 Tryz.underlying136 v.list k hlt (by rw [S8.list_len]; exact hlt)
          have k1 := r0.word k (by rw [addSet_len]; exact hlt)
          have k2 := r0.frozen k
          have E : Hid (addSet s v (k + 1) = (addSet s v k).set k ((addSet s v k).getD k 0 + v.list.getD k 0)) := rfl
          generalize v.list.getD k 0 = y at x1 E
          generalize (addSet s v k).getD k 0 = z at k1 E
          go_wp2
          rw [add_bv]
          refine ⟨⟨k + 1, by omega, by go_num, ?_, r1.setOther _ _ (by simp), bb.setCell (Nat.le_refl _) _⟩, by simp [intOf]; omega⟩
          have R := r0.set k (.int .u32 ((z + y).toNat : Int))
          rw [map_set_U, ← E.out] at R
          exact R
        · obtain rfl : k = 8 := by omega
          clear hlt hk
          rw [addSet_all] at r0
          have e9 : s.add v = comp s bs := by rw [hv.out]; rfl
          rw [e9] at r0
          clear e9 hv
          go_wp2_with (first | (refine wpList_load_Row rfl 136 _ rfl _ _ _ r0 rfl _ Tryz.underlying136 rfl (by kernel_rfl) ?_) | (refine wpList_store_Row rfl 136 _ _ rfl _ _ 0 _ _ r1 (by simp [S8.list_len]) rfl rfl (by kernel_rfl) (U_one _) ?_; intro w3 hr2 hs2))
          have hr3 : Row w3 (w.heap.size + 1) 136 ((comp s bs).list.map U) := by simpa [S8.list_len] using hr2
          exact bodyPost_ret_by (results_Row Tryz.results115 _ w3 (w.heap.size + 1) 136 _ _ rfl hr3 Tryz.underlying136 rfl (by kernel_rfl)) rfl ⟨rfl, hs2.below bb (by omega)⟩
end Go.Proofs.YtpcgkjngpdplmaaGreatDoor


namespace Go.Proofs.YtpcgkjngpdplmaaGreatDoor
open Go.RowKit

/-- A Digest's cells: the state, the bytes that don't make a piece yet, the count of all bytes. -/
def digCells (s : S8) (p : List By) (n : Nat) : List Value := s.list.map U ++ (p.map B8 ++ [.int .u64 (n : Int)])

set_option maxHeartbeats 1000000 in
set_option maxRecDepth 100000 in
theorem new_any (w : World) : Calls Tryz.prog 102 #[] w fun e w' => ∃ g, e = .returned (.pointer (some ⟨g, 0, none⟩)) ∧ w.heap.size ≤ g ∧ Row w' g 183 (digCells init8 (List.replicate 64 0) 0) ∧ Below w.heap.size w w' := by
  go_enter Tryz.func102, Tryz.ntmps102
  go_wp2_with fail
  refine (firstState_any _).mono ?_
  rintro e w1 ⟨rfl, hb1⟩
  have e0 : (init8.list.map U).toArray = #[.int .u32 1779033703, .int .u32 3144134277, .int .u32 1013904242, .int .u32 2773480762, .int .u32 1359893119, .int .u32 2600822924, .int .u32 528734635, .int .u32 1541459225] := rfl
  rw [e0]
  clear e0
  have hz : ∀ w : World, (zeroValue 183).run Tryz.prog w = .ok (.agg #[.int .u32 0, .int .u32 0, .int .u32 0, .int .u32 0, .int .u32 0, .int .u32 0, .int .u32 0, .int .u32 0, .int .u8 0, .int .u8 0, .int .u8 0, .int .u8 0, .int .u8 0, .int .u8 0, .int .u8 0, .int .u8 0, .int .u8 0, .int .u8 0, .int .u8 0, .int .u8 0, .int .u8 0, .int .u8 0, .int .u8 0, .int .u8 0, .int .u8 0, .int .u8 0, .int .u8 0, .int .u8 0, .int .u8 0, .int .u8 0, .int .u8 0, .int .u8 0, .int .u8 0, .int .u8 0, .int .u8 0, .int .u8 0, .int .u8 0, .int .u8 0, .int .u8 0, .int .u8 0, .int .u8 0, .int .u8 0, .int .u8 0, .int .u8 0, .int .u8 0, .int .u8 0, .int .u8 0, .int .u8 0, .int .u8 0, .int .u8 0, .int .u8 0, .int .u8 0, .int .u8 0, .int .u8 0, .int .u8 0, .int .u8 0, .int .u8 0, .int .u8 0, .int .u8 0, .int .u8 0, .int .u8 0, .int .u8 0, .int .u8 0, .int .u8 0, .int .u8 0, .int .u8 0, .int .u8 0, .int .u8 0, .int .u8 0, .int .u8 0, .int .u8 0, .int .u8 0, .int .u64 0]) w := fun _ => by kernel_rfl
  go_wp2
  go_ret
  exact ⟨_, rfl, hb1.size, Row.at _ _ _ _ _ rfl rfl, hb1.alloc hb1.size _⟩
end Go.Proofs.YtpcgkjngpdplmaaGreatDoor


namespace Go.Proofs.YtpcgkjngpdplmaaGreatDoor
open Go.RowKit

theorem wpList_make_Row {ops : Array Oper} {rest : List Oper} {o : Oper} {a : Act} {w : World} {Q : Exit → Act → World → Prop} (hg : o.guard = none) (l c : Operand) (hop : o.op = Op.makeSlice 32 l c)
    (kl kc : IntKind) (L C : Int) (n : Nat) (hl : a.eval l = .int kl L) (hc : a.eval c = .int kc C) (hL : L = (n : Int)) (hC : C = (n : Int)) (hn : n ≤ 1000000)
    (hK : ∀ w', Row w' w.heap.size 5 ((List.replicate n (0 : By)).map B8) → Below w.heap.size w w' → wpList Tryz.prog ops Q rest (a.put o.dst (.slice (some ⟨w.heap.size, 0, none⟩) n n)) w') :
    wpList Tryz.prog ops Q (o :: rest) a w := by
  obtain ⟨i0, hi, hz0, hz1, hz2⟩ := info_parts Tryz.info5
  refine wpList_plain hg fun K hK' => ?_
  subst hL
  subst hC
  have hrun := run_make (P := Tryz.prog) w 32 5 i0 (.int .u8 0) Tryz.underlying32 hi hz0 kl kc (n : Int) (n : Int) (by omega) (by omega) (by rw [hz2]; omega) (by omega)
  unfold Oper.wp
  simp [execOp, hop, hl, hc, hrun, Result.andThen]
  refine hK' _ _ (hK _ ?_ ?_)
  · refine Row.at w 5 _ _ _ rfl ?_
    rw [hz1, Nat.mul_one]
    have : (madeCells #[Value.int .u8 0] n).toList = (List.replicate n (0 : By)).map B8 := by
      rw [toList_madeCells_one]; simp [B8]
    rw [← this]; rfl
  · exact (Below.refl _ _).alloc (Nat.le_refl _) _

theorem set4 (pre post : List Value) (a b c d x y z t : Value) (o : Nat) (ho : o = pre.length) :
    ((((pre ++ a :: b :: c :: d :: post).set o x).set (o + 1) y).set (o + 2) z).set (o + 3) t = pre ++ x :: y :: z :: t :: post := by
  subst ho
  simp
theorem Row.put4 {w : World} {g ty o : Nat} {pre post : List Value} {a b c d : Value} (h : Row w g ty (pre ++ a :: b :: c :: d :: post)) (ho : o = pre.length) (x : Wd) :
    Row (put4 w g o x) g ty (pre ++ ((wbytes x).map B8 ++ post)) := by
  have := (((h.set o (B8 ((x >>> 24).setWidth 8))).set (o + 1) (B8 ((x >>> 16).setWidth 8))).set (o + 2) (B8 ((x >>> 8).setWidth 8))).set (o + 3) (B8 (x.setWidth 8))
  rw [set4 pre post a b c d _ _ _ _ o ho] at this
  exact this
theorem put4_but (w : World) (g o : Nat) (x : Wd) : SameBut g w (put4 w g o x) :=
  (((SameBut.setCell g o _ w).trans (SameBut.setCell g (o + 1) _ _)).trans (SameBut.setCell g (o + 2) _ _)).trans (SameBut.setCell g (o + 3) _ _)
theorem Row.there {w : World} {g t : Nat} {cs : List Value} (h : Row w g t cs) (o n : Nat) (hl : o + n ≤ cs.length) : w.there g o n := by
  intro j hj
  refine ⟨?_, h.frozen _⟩
  rw [h.cell (o + j) (cs[o + j]'(by omega)) (List.getElem?_eq_getElem (by omega))]; rfl

theorem lenBytes_of (n : Nat) : wbytes (BitVec.ofNat 32 (8 * n / 4294967296)) ++ wbytes (BitVec.ofNat 32 (8 * n)) = lenBytes n := by
  have h : ∀ (k s : Nat), s ≤ 24 → ((BitVec.ofNat 32 k >>> s).setWidth 8 : By) = BitVec.ofNat 8 (k / 2 ^ s) := by
    intro k s hs
    apply BitVec.eq_of_toNat_eq
    rw [BitVec.toNat_setWidth, BitVec.toNat_ushiftRight, BitVec.toNat_ofNat, BitVec.toNat_ofNat, Nat.shiftRight_eq_div_pow]
    have e : (2 : Nat) ^ 32 = 2 ^ s * 2 ^ (32 - s) := by rw [← Nat.pow_add]; congr 1; omega
    rw [e, Nat.mod_mul_right_div_self]
    have e2 : (2 : Nat) ^ (32 - s) = 2 ^ 8 * 2 ^ (24 - s) := by rw [← Nat.pow_add]; congr 1; omega
    rw [e2, Nat.mod_mul_right_mod]
  have h0 : ∀ k : Nat, ((BitVec.ofNat 32 k).setWidth 8 : By) = BitVec.ofNat 8 k := by
    intro k
    apply BitVec.eq_of_toNat_eq
    rw [BitVec.toNat_setWidth, BitVec.toNat_ofNat, BitVec.toNat_ofNat]
    omega
  simp only [wbytes, lenBytes, h0, h _ 24 (by omega), h _ 16 (by omega), h _ 8 (by omega), List.cons_append, List.nil_append, Nat.div_div_eq_div_mul, Nat.reducePow, Nat.reduceMul]

set_option maxHeartbeats 1000000 in
set_option maxRecDepth 100000 in
theorem ending_any (n : Nat) (hn : n < 1152921504606846976) (w : World) :
    Calls Tryz.prog 117 #[.int .u64 (n : Int)] w fun e w' => e = .returned (.slice (some ⟨w.heap.size, 0, none⟩) (9 + zerosOf n) (9 + zerosOf n)) ∧ Lies w' w.heap.size 0 (ending n) ∧ Below w.heap.size w w' := by
  have hz : zerosOf n ≤ 63 := by unfold zerosOf; omega
  have hzz : (119 - (n : Int) % 64) % 64 = (zerosOf n : Int) := by unfold zerosOf; omega
  have HE : Hid (ending n = 128#8 :: (List.replicate (zerosOf n) 0 ++ (wbytes (BitVec.ofNat 32 (8 * n / 4294967296)) ++ wbytes (BitVec.ofNat 32 (8 * n))))) := by
    show _ = _
    rw [lenBytes_of]; rfl
  have hel : Hid ((ending n).length = 9 + zerosOf n) := ending_len n
  have j1 : IntKind.u64.wrap (8 * (n : Int)) = ((8 * n : Nat) : Int) := by rw [IntKind.wrap_u64]; omega
  have j2 : ((8 * n : Nat) : Int) / (4294967296 : Int) % (4294967296 : Int) = ((BitVec.ofNat 32 (8 * n / 4294967296)).toNat : Int) := by rw [BitVec.toNat_ofNat]; omega
  have j3 : ((8 * n : Nat) : Int) % (4294967296 : Int) = ((BitVec.ofNat 32 (8 * n)).toNat : Int) := by rw [BitVec.toNat_ofNat]; omega
  generalize BitVec.ofNat 32 (8 * n / 4294967296) = hi at *
  generalize BitVec.ofNat 32 (8 * n) = lo at *
  generalize 8 * n = E at *
  generalize zerosOf n = z at *
  clear hn
  have i1 : (1 : Int) + (z : Int) ≤ (9 + z : Nat) := by omega
  have i2 : (0 : Int) ≤ 1 + (z : Int) := by omega
  go_enter Tryz.func117, Tryz.ntmps117
  go_wp2_with (first | (refine wpList_make_Row rfl _ _ rfl .u64 .u64 _ _ (9 + z) rfl rfl (by omega) (by omega) (by omega) ?_; intro w1 r1 hb1; have c0 := r1.cell 0 (B8 0) (by simp [List.getElem?_replicate]); have f0 := r1.frozen 0))
  have r2 := r1.set 0 (.int .u8 128)
  have eL : ((List.replicate (9 + z) (0 : By)).map B8).set 0 (.int .u8 128) = ((128#8 :: List.replicate z 0).map B8) ++ B8 0 :: B8 0 :: B8 0 :: B8 0 :: [B8 0, B8 0, B8 0, B8 0] := by
    have e1 : List.replicate (9 + z) (0 : By) = 0 :: (List.replicate z 0 ++ List.replicate 8 0) := by
      rw [List.replicate_append_replicate, ← List.replicate_succ]; congr 1; omega
    rw [e1]
    simp [B8, List.replicate_succ]
  rw [eL] at r2
  have bl2 : Below w.heap.size w (w1.setCell ⟨w.heap.size, 0, none⟩ (.int .u8 128)) := hb1.setCell (Nat.le_refl _) _
  clear eL c0 f0 r1 hb1
  refine (putWord_any hi w.heap.size (1 + z) _ _ _ (by omega) (r2.there (1 + z) 4 (by simp; omega))).mono ?_
  rintro e w2 ⟨rfl, hw2⟩
  have r3 := r2.put4 (o := 1 + z) (by simp; omega) hi
  have bl3 := (put4_but (w1.setCell ⟨w.heap.size, 0, none⟩ (.int .u8 128)) w.heap.size (1 + z) hi).below bl2 (Nat.le_refl _)
  rw [← hw2] at r3 bl3
  clear hw2 r2 bl2
  have r3' : Row w2 w.heap.size 5 ((((128#8 :: List.replicate z 0) ++ wbytes hi).map B8) ++ B8 0 :: B8 0 :: B8 0 :: B8 0 :: []) := by
    simpa using r3
  have i3 : (0 : Int) ≤ 1 + (z : Int) + 4 := by omega
  have i4 : (1 : Int) + (z : Int) + 4 ≤ (9 + z : Nat) := by omega
  go_wp2_with fail
  refine (putWord_any lo w.heap.size (1 + z + 4) _ _ _ (by omega) (r3'.there (1 + z + 4) 4 (by simp [wbytes]; omega))).mono ?_
  rintro e w3 ⟨rfl, hw3⟩
  have r4 := r3'.put4 (o := 1 + z + 4) (by simp [wbytes]; omega) lo
  have bl4 := (put4_but w2 w.heap.size (1 + z + 4) lo).below bl3 (Nat.le_refl _)
  rw [← hw3] at r4 bl4
  clear hw3 r3 r3' bl3
  go_wp2
  go_ret
  refine ⟨rfl, ?_, bl4⟩
  have r5 : Row w3 w.heap.size 5 ((ending n).map B8) := by
    rw [HE.out]; simpa using r4
  intro j hj
  rw [Nat.zero_add]
  refine r5.cell j _ ?_
  simp [hj]
end Go.Proofs.YtpcgkjngpdplmaaGreatDoor
