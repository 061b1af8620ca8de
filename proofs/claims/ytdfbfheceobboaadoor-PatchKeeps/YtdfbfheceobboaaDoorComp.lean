import Derived.Test.YtdfbfheceobboaaDoorRefOf
import Derived.Deep.RegionHeld3

namespace Go.Proofs.YtdfbfheceobboaaDoor
open Go.RowKit

set_option maxHeartbeats 1000000 in
set_option maxRecDepth 100000 in
theorem schedule_any (D o : Nat) (bs : List By) (w : World) (hp : ∀ j, j < 64 → w.cell? ⟨D, o + j, none⟩ = some (B8 (bs.getD j 0))) :
    Calls Tryd.prog 46 #[.pointer (some ⟨D, o, none⟩)] w fun e w' => e = .returned (.agg ((sched bs).map U).toArray) ∧ Below w.heap.size w w' := by
  have hD : D < w.heap.size := block_lt_of_cell (hp 0 (by omega))
  go_enter Tryd.func46, Tryd.ntmps46
  go_wp2
  go_loopw [8] (fun i wr => ∃ k : Nat, k ≤ 16 ∧ i = .int .i64 k ∧ Row wr (w.heap.size + 1) 93 ((fill bs k).map U) ∧ Row wr w.heap.size 93 ((fill bs 0).map U) ∧ Below w.heap.size w wr)
    (fun i _ => 16 - (intOf i).toNat)
  case atStart => exact ⟨0, by omega, rfl, Row.at _ _ _ _ _ (by simp) rfl, (Row.at _ _ _ _ _ rfl rfl).alloc _, ((Below.refl _ _).alloc (Nat.le_refl _) _).alloc (by simp) _⟩
  case round =>
    obtain ⟨k, hk, rfl, hr1, hr0, hb⟩ := hrel
    by_cases hlt : k < 16
    · have c0 : wr.cell? ⟨D, o + 4 * k, none⟩ = some (.int .u8 ((bs.getD (4 * k) 0).toNat : Int)) := (hb.cell (p := ⟨D, o + 4 * k, none⟩) hD).trans (hp (4 * k) (by omega))
      have c1 : wr.cell? ⟨D, o + 4 * k + 1, none⟩ = some (.int .u8 ((bs.getD (4 * k + 1) 0).toNat : Int)) := (hb.cell (p := ⟨D, o + 4 * k + 1, none⟩) hD).trans (hp (4 * k + 1) (by omega))
      have c2 : wr.cell? ⟨D, o + 4 * k + 2, none⟩ = some (.int .u8 ((bs.getD (4 * k + 2) 0).toNat : Int)) := (hb.cell (p := ⟨D, o + 4 * k + 2, none⟩) hD).trans (hp (4 * k + 2) (by omega))
      have c3 : wr.cell? ⟨D, o + 4 * k + 3, none⟩ = some (.int .u8 ((bs.getD (4 * k + 3) 0).toNat : Int)) := (hb.cell (p := ⟨D, o + 4 * k + 3, none⟩) hD).trans (hp (4 * k + 3) (by omega))
      have q0 : (0 : Int) ≤ 4 * (k : Int) := by omega
      have q1 : 4 * (k : Int) ≤ 64 := by omega
      have s1 := hr1.word k (by rw [fill_len]; omega)
      have s2 := hr1.frozen k
      go_wp2_with fail
      refine (wordAt_any _ _ _ _ D (o + 4 * k) (64 - 4 * k) (64 - 4 * k) wr (by omega) c0 c1 c2 c3).mono ?_
      rintro e w' ⟨rfl, m, rfl⟩
      go_wp2
      go_roundw
      case rel => 
        refine ⟨k + 1, by omega, by go_num, ?_, ?_, ?_⟩
        · have := (hr1.drewN m).set k (.int .u32 ((wordOf bs k).toNat : Int))
          rw [map_set_U] at this
          exact this
        · exact (hr0.drewN m).setOther _ _ (by simp)
        · exact (Below_drewN hb m).setCell (by simp) _
      case measure => simp [intOf]; omega
    · obtain rfl : k = 16 := by omega
      clear hk hlt
      go_wp2
      go_loopw [5] (fun i wr => ∃ t : Nat, 16 ≤ t ∧ t ≤ 64 ∧ i = .int .i64 (t : Int) ∧ Row wr (w.heap.size + 1) 93 ((ext bs (t - 16)).map U) ∧ Row wr w.heap.size 93 ((fill bs 0).map U) ∧ Below w.heap.size w wr)
        (fun i _ => 64 - (intOf i).toNat)
      case atStart => exact ⟨16, by omega, by omega, rfl, hr1, hr0, hb⟩
      case round =>
        clear hr1 hr0 hb
        obtain ⟨t, ht, hk, rfl, hr1, hr0, hb⟩ := hrel
        by_cases hlt : t < 64
        · have hl := ext_len bs (t - 16)
          obtain ⟨x15, e15⟩ : ∃ x, x = (ext bs (t - 16)).getD (t - 15) 0 := ⟨_, rfl⟩
          obtain ⟨x2, e2⟩ : ∃ x, x = (ext bs (t - 16)).getD (t - 2) 0 := ⟨_, rfl⟩
          obtain ⟨x16, e16⟩ : ∃ x, x = (ext bs (t - 16)).getD (t - 16) 0 := ⟨_, rfl⟩
          obtain ⟨x7, e7⟩ : ∃ x, x = (ext bs (t - 16)).getD (t - 7) 0 := ⟨_, rfl⟩
          have g1 := hr1.word (t - 15) (by omega)
          have g2 := hr1.word (t - 2) (by omega)
          have g3 := hr1.word (t - 16) (by omega)
          have g4 := hr1.word (t - 7) (by omega)
          have s1 := hr1.word t (by omega)
          have s2 := hr1.frozen t
          rw [← e15] at g1
          rw [← e2] at g2
          rw [← e16] at g3
          rw [← e7] at g4
          have E : Hid (ext bs (t + 1 - 16) = (ext bs (t - 16)).set t (x16 + (rr x15 7 ^^^ rr x15 18 ^^^ x15 >>> 3) + x7 + (rr x2 17 ^^^ rr x2 19 ^^^ x2 >>> 10))) := by
            show _ = _
            rw [show t + 1 - 16 = (t - 16) + 1 by omega, ext, e15, e2, e16, e7, show 16 + (t - 16) = t by omega]
            rfl
          clear e15 e2 e16 e7 hl
          have i1 : (0 : Int) ≤ (t : Int) - 15 := by omega
          have i2 : (t : Int) - 15 < 64 := by omega
          have i3 : (0 : Int) ≤ (t : Int) - 2 := by omega
          have i4 : (t : Int) - 2 < 64 := by omega
          have i5 : (0 : Int) ≤ (t : Int) - 16 := by omega
          have i6 : (t : Int) - 16 < 64 := by omega
          have i7 : (0 : Int) ≤ (t : Int) - 7 := by omega
          have i8 : (t : Int) - 7 < 64 := by omega
          have i9 : (16 : Int) ≤ (t : Int) := by omega
          have i10 : (7 : Int) ≤ (t : Int) := by omega
          have i11 : ((t : Int) - 16).toNat = t - 16 := by omega
          have i12 : ((t : Int) - 7).toNat = t - 7 := by omega
          have i13 : (t : Int) < 80 := by omega
          have i14 : (t : Int) < 71 := by omega
          have n1 : t ≠ t - 16 := by omega
          have n2 : t ≠ t - 7 := by omega
          have n3 : t - 16 ≠ t := by omega
          have n4 : t - 7 ≠ t := by omega
          have j1 : IntKind.i64.wrap ((t : Int) - 16) = (t : Int) - 16 := i64_in _ (by omega) (by omega)
          have j2 : IntKind.i64.wrap ((t : Int) - 7) = (t : Int) - 7 := i64_in _ (by omega) (by omega)
          go_wp2
          go_quiet (fail)
          go_wp2
          go_region_held3 (fun w' => w'.cell? ⟨w.heap.size + 1, t - 16, none⟩ = some (.int .u32 (x16.toNat : Int)) ∧ w'.cell? ⟨w.heap.size + 1, t - 7, none⟩ = some (.int .u32 (x7.toNat : Int))) (first | go_keep | (refine ⟨?_, ?_⟩ <;> (rw [World.cell?_setCell_other _ _ _ _ (by first | (simp; done) | (simp; omega))]; first | exact g3 | exact g4)))
            ((go_at_call 47; refine (turn_at _ _ _ (by decide) (by decide)).mono ?_; rintro e w' ⟨rfl, rfl⟩))
          rw [wn_form x16 x15 x7 x2]
          generalize x16 + (rr x15 7 ^^^ rr x15 18 ^^^ x15 >>> 3) + x7 + (rr x2 17 ^^^ rr x2 19 ^^^ x2 >>> 10) = y at E ⊢
          go_wp2
          refine ⟨?_, ?measure⟩
          refine ⟨_, _, _, _, _, _, _, _, _, _, _, _, _, _, _, _, _, _, _, _, _, _, _, _, _, _, _, _, _, _, _, _, _, _, _, _, _, _, _, _, _, _, _, _, ?rel, rfl⟩
          case rel =>
            refine ⟨t + 1, by omega, by omega, by go_num, ?_, ?_, ?_⟩
            · have R := (hr1.drewN (nq + 1)).set t (.int .u32 (y.toNat : Int))
              rw [map_set_U, ← E.out] at R
              exact R
            · exact (hr0.drewN (nq + 1)).setOther _ _ (by simp)
            · exact (Below_drewN hb (nq + 1)).setCell (by simp) _
          case measure => simp [intOf]; omega
        · obtain rfl : t = 64 := by omega
          clear hk hlt ht
          go_wp2_with (first | (refine wpList_load_Row rfl 93 _ rfl _ _ _ hr1 rfl _ Tryd.underlying93 rfl (by rw [List.length_map, ext_len]; kernel_rfl) ?_) | (refine wpList_store_Row rfl 93 _ _ rfl _ _ 0 _ _ hr0 (by simp [ext_len, fill_len]) rfl rfl (by rw [List.length_map, ext_len]; kernel_rfl) (U_one _) ?_; intro w1 hr2 hs2))
          have hr3 : Row w1 w.heap.size 93 ((sched bs).map U) := by
            have : Row w1 w.heap.size 93 ((ext bs 48).map U ++ ((fill bs 0).map U).drop ((ext bs 48).length)) := by simpa using hr2
            rwa [List.drop_eq_nil_of_le (by simp [ext_len, fill_len]), List.append_nil] at this
          exact bodyPost_ret_by (results_Row Tryd.results46 _ w1 w.heap.size 93 _ _ rfl hr3 Tryd.underlying93 rfl (by rw [List.length_map, sched_len]; kernel_rfl)) rfl ⟨rfl, hs2.below hb (Nat.le_refl _)⟩

end Go.Proofs.YtdfbfheceobboaaDoor


namespace Go.Proofs.YtdfbfheceobboaaDoor
open Go.RowKit

theorem run_index_U (t len : Nat) (hu : Tryd.prog.underlying t = some (.array len 86)) (l : List Wd) (k : Nat) (hk : k < len) (hl : k < l.length) (w : World) :
    (Instr.index t (.agg (l.map U).toArray) (.int .i64 (k : Int))).run Tryd.prog w = .ok (.int .u32 ((l.getD k 0).toNat : Int)) w := by
  have hs : (sizeOf 86).run Tryd.prog w = .ok 1 w := by kernel_rfl
  simp [Instr.index, asIntOf, run_underlying hu, hk, hs, Go.part, hl, U]

set_option maxHeartbeats 1000000 in
set_option maxRecDepth 100000 in
theorem compress_any (s : S8) (D o KB : Nat) (bs : List By) (w : World) (hp : ∀ j, j < 64 → w.cell? ⟨D, o + j, none⟩ = some (B8 (bs.getD j 0))) (hk : Row w KB 93 (Kt.map U)) :
    Calls Tryd.prog 35 #[.agg (s.list.map U).toArray, .pointer (some ⟨D, o, none⟩), .pointer (some ⟨KB, 0, none⟩)] w fun e w' => e = .returned (.agg ((comp s bs).list.map U).toArray) ∧ Below w.heap.size w w' := by
  have hD : D < w.heap.size := block_lt_of_cell (hp 0 (by omega))
  have hKB := hk.lt
  have e0 : (s.list.map U).toArray = #[.int .u32 (s.a.toNat : Int), .int .u32 (s.b.toNat : Int), .int .u32 (s.c.toNat : Int), .int .u32 (s.d.toNat : Int), .int .u32 (s.e.toNat : Int), .int .u32 (s.f.toNat : Int), .int .u32 (s.g.toNat : Int), .int .u32 (s.h.toNat : Int)] := rfl
  rw [e0]
  clear e0
  go_enter Tryd.func35, Tryd.ntmps35
  go_wp2_with fail
  have b0 : ∀ o1 o2, Below w.heap.size w ((w.alloc o1).alloc o2) := fun o1 o2 => ((Below.refl _ _).alloc (Nat.le_refl _) _).alloc (by simp) _
  refine (schedule_any D o bs _ (fun j hj => ((b0 _ _).cell (p := ⟨D, o + j, none⟩) hD).trans (hp j hj))).mono ?_
  rintro e w1 ⟨rfl, hb1⟩
  have r0 : Row w1 w.heap.size 87 (s.list.map U) := Row.below ((Row.at w 87 (s.list.map U) _ _ rfl rfl).alloc _) hb1 (by simp; omega)
  have r1 : Row w1 (w.heap.size + 1) 87 ((List.replicate 8 (0 : Wd)).map U) := Row.below (Row.at (w.alloc _) 87 ((List.replicate 8 (0 : Wd)).map U) _ _ (by simp) rfl) hb1 (by simp)
  have bb : Below w.heap.size w w1 := (b0 _ _).trans (hb1.mono (by simp; omega))
  have hsz : w.heap.size + 1 < w1.heap.size := r1.lt
  have r2 : Row w1 KB 93 (Kt.map U) := hk.below bb hKB
  clear hb1 b0 hp hk
  go_wp2_with (refine wpList_store_Row rfl 93 _ _ rfl w1.heap.size 93 0 ((List.replicate 64 (0 : Wd)).map U) ((sched bs).map U) (Row.at _ _ _ _ _ rfl rfl) (by rw [List.length_map, sched_len, List.length_map, List.length_replicate]; decide) rfl rfl (by rw [List.length_map, sched_len]; kernel_rfl) (U_one _) ?_; intro w2 hr0 hs)
  have r3 := row64 (sched_len bs) hr0
  replace r0 : Row w2 w.heap.size 87 (s.list.map U) := (r0.alloc _).but hs (by omega)
  replace r1 : Row w2 (w.heap.size + 1) 87 ((List.replicate 8 (0 : Wd)).map U) := (r1.alloc _).but hs (by omega)
  replace r2 : Row w2 KB 93 (Kt.map U) := (r2.alloc _).but hs (by omega)
  replace bb : Below w.heap.size w w2 := hs.below (bb.alloc (by omega) _) (by omega)
  clear hs hr0
  generalize hSB : w1.heap.size = SB at r3 ⊢
  have a0 := r0.word 0 (by simp [S8.list])
  have a1 := r0.word 1 (by simp [S8.list])
  have a2 := r0.word 2 (by simp [S8.list])
  have a3 := r0.word 3 (by simp [S8.list])
  have a4 := r0.word 4 (by simp [S8.list])
  have a5 := r0.word 5 (by simp [S8.list])
  have a6 := r0.word 6 (by simp [S8.list])
  have a7 := r0.word 7 (by simp [S8.list])
  simp only [S8.list, List.getD_cons_zero, List.getD_cons_succ] at a0 a1 a2 a3 a4 a5 a6 a7
  go_wp2
  go_quiet (fail)
  go_wp2
  go_quiet (fail)
  go_wp2_with (refine wpList_load_Row rfl 93 _ rfl _ _ _ r3 rfl _ Tryd.underlying93 rfl (by rw [List.length_map, sched_len]; kernel_rfl) ?_)
  go_loopw [8, 9, 10, 11, 12, 13, 14, 15, 41] (fun a b c d e f g h i wr => ∃ t : Nat, t ≤ 64 ∧ i = .int .i64 t ∧ Dr w2 wr ∧ ∃ v : S8, Hid (v = rnds s Kt (sched bs) t) ∧ a = .int .u32 (v.a.toNat : Int) ∧ b = .int .u32 (v.b.toNat : Int)
      ∧ c = .int .u32 (v.c.toNat : Int) ∧ d = .int .u32 (v.d.toNat : Int) ∧ e = .int .u32 (v.e.toNat : Int) ∧ f = .int .u32 (v.f.toNat : Int) ∧ g = .int .u32 (v.g.toNat : Int) ∧ h = .int .u32 (v.h.toNat : Int))
    (fun _ _ _ _ _ _ _ _ i _ => 64 - (intOf i).toNat)
  case atStart => exact ⟨0, by omega, rfl, ⟨_, rfl⟩, s, rfl, rfl, rfl, rfl, rfl, rfl, rfl, rfl, rfl⟩
  case round =>
    obtain ⟨t, ht, rfl, hn, v, hv, rfl, rfl, rfl, rfl, rfl, rfl, rfl, rfl⟩ := hrel
    by_cases hlt : t < 64
    · have i1 : (0 : Int) ≤ (t : Int) := by omega
      have i2 : (t : Int) < 64 := by omega
      have x1 := run_index_U 93 64 Tryd.underlying93 (sched bs) t hlt (by rw [sched_len]; exact hlt)
      have k1 := (r2.dr hn).word t (by rw [Kt_len]; exact hlt)
      have E : Hid (rnds s Kt (sched bs) (t + 1) = rnd v (Kt.getD t 0) ((sched bs).getD t 0)) := by
        rw [hv.out]; rfl
      generalize (sched bs).getD t 0 = y at x1 E
      generalize Kt.getD t 0 = kt at k1 E
      go_wp2
      go_quiet ((go_at_call 47; exact Calls.quiet_of_same (turn_at _ _ _ (by decide) (by decide))))
      go_wp2_with (go_at_call 47; refine (turn_at _ _ _ (by decide) (by decide)).mono ?_; rintro e w' ⟨rfl, rfl⟩)
      refine ⟨⟨t + 1, by omega, by go_num, hn.drewN nq, rnd v kt y, E.out.symm, val_int ?_, rfl, rfl, rfl, val_int ?_, rfl, rfl, rfl⟩, by simp [intOf]; omega⟩
      · rw [rndU_form, rndV_form, add_bv]; rfl
      · rw [rndU_form, add_bv]; rfl
    · obtain rfl : t = 64 := by omega
      clear hlt ht
      replace r0 := r0.dr hn
      replace r1 := r1.dr hn
      replace bb := Below_dr bb hn
      clear a0 a1 a2 a3 a4 a5 a6 a7 r2 r3 hSB hsz hn
      go_wp2
      go_loopw [114] (fun i wr => ∃ k : Nat, k ≤ 8 ∧ i = .int .i64 k ∧ Row wr w.heap.size 87 ((addSet s v k).map U) ∧ Row wr (w.heap.size + 1) 87 ((List.replicate 8 (0 : Wd)).map U) ∧ Below w.heap.size w wr)
        (fun i _ => 8 - (intOf i).toNat)
      case atStart => exact ⟨0, by omega, rfl, r0, r1, bb⟩
      case round =>
        clear r0 r1 bb
        obtain ⟨k, hk, rfl, r0, r1, bb⟩ := hrel
        by_cases hlt : k < 8
        · have i1 : (0 : Int) ≤ (k : Int) := by omega
          have i2 : (k : Int) < 8 := by omega
          have x1 : ∀ w : World, (Instr.index 87 (.agg #[.int .u32 (v.a.toNat : Int), .int .u32 (v.b.toNat : Int), .int .u32 (v.c.toNat : Int), .int .u32 (v.d.toNat : Int), .int .u32 (v.e.toNat : Int), .int .u32 (v.f.toNat : Int), .int .u32 (v.g.toNat : Int), .int .u32 (v.h.toNat : Int)]) (.int .i64 (k : Int))).run Tryd.prog w = .ok (.int .u32 ((v.list.getD k 0).toNat : Int)) w :=
            run_index_U 87 8 Tryd.underlying87 v.list k hlt (by rw [S8.list_len]; exact hlt)
          have k1 := r0.word k (by rw [addSet_len]; exact hlt)
          have k2 := r0.frozen k
          have E : Hid (addSet s v (k + 1) = (addSet s v k).set k ((addSet s v k).getD k 0 + v.list.getD k 0)) := rfl
          generalize v.list.getD k 0 = y at x1 E
          generalize (addSet s v k).getD k 0 = z at k1 E
          go_wp2
          rw [add_bv]
          refine ⟨⟨k + 1, by omega, by go_num, ?_, r1.setOther _ _ (by simp), bb.setCell (Nat.le_refl _) _⟩, by simp [intOf]; omega⟩
          have R := r0.set k (.int .u32 ((z + y).toNat : Int))
          rw [map_set_U, ← E.out] at R
          exact R
        · obtain rfl : k = 8 := by omega
          clear hlt hk
          rw [addSet_all] at r0
          have e9 : s.add v = comp s bs := by rw [hv.out]; rfl
          rw [e9] at r0
          clear e9 hv
          go_wp2_with (first | (refine wpList_load_Row rfl 87 _ rfl _ _ _ r0 rfl _ Tryd.underlying87 rfl (by kernel_rfl) ?_) | (refine wpList_store_Row rfl 87 _ _ rfl _ _ 0 _ _ r1 (by simp [S8.list_len]) rfl rfl (by kernel_rfl) (U_one _) ?_; intro w3 hr2 hs2))
          have hr3 : Row w3 (w.heap.size + 1) 87 ((comp s bs).list.map U) := by simpa [S8.list_len] using hr2
          exact bodyPost_ret_by (results_Row Tryd.results35 _ w3 (w.heap.size + 1) 87 _ _ rfl hr3 Tryd.underlying87 rfl (by kernel_rfl)) rfl ⟨rfl, hs2.below bb (by omega)⟩
end Go.Proofs.YtdfbfheceobboaaDoor
