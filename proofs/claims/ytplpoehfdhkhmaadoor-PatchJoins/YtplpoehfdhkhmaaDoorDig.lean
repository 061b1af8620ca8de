import Derived.Test.YtplpoehfdhkhmaaDoorWords
import Derived.Deep.RegionHeld3
import Derived.Test.YtplpoehfdhkhmaaDoorPadded
import Derived.Test.YtplpoehfdhkhmaaDoorRefOf
import Derived.Laws.CopyOwn

namespace Go.Proofs.YtplpoehfdhkhmaaDoor
open Go.RowKit

set_option maxHeartbeats 1000000 in
set_option maxRecDepth 100000 in
theorem schedule_any (D o : Nat) (bs : List By) (w : World) (hp : ∀ j, j < 64 -> w.cell? ⟨D, o + j, none⟩ = some (B8 (bs.getD j 0))) :
    Calls Tryd.prog 68 #[.pointer (some ⟨D, o, none⟩)] w fun e w' => e = .returned (.agg ((sched bs).map U).toArray) /\ Below w.heap.size w w' := by
  have hD : D < w.heap.size := block_lt_of_cell (hp 0 (by omega))
  go_enter Tryd.func68, Tryd.ntmps68
  go_wp2
  go_loopw [8] (fun i wr => ∃ k : Nat, k <= 16 /\ i = .int .i64 k /\ Row wr (w.heap.size + 1) 98 ((fill bs k).map U) /\ Row wr w.heap.size 98 ((fill bs 0).map U) /\ Below w.heap.size w wr)
    (fun i _ => 16 - (intOf i).toNat)
  case atStart => exact ⟨0, by omega, rfl, Row.at _ _ _ _ _ (by simp) rfl, (Row.at _ _ _ _ _ rfl rfl).alloc _, ((Below.refl _ _).alloc (Nat.le_refl _) _).alloc (by simp) _⟩
  case round =>
    obtain ⟨k, hk, rfl, hr1, hr0, hb⟩ := hrel
    by_cases hlt : k < 16
    · have c0 : wr.cell? ⟨D, o + 4 * k, none⟩ = some (.int .u8 ((bs.getD (4 * k) 0).toNat : Int)) := (hb.cell (p := ⟨D, o + 4 * k, none⟩) hD).trans (hp (4 * k) (by omega))
      have c1 : wr.cell? ⟨D, o + 4 * k + 1, none⟩ = some (.int .u8 ((bs.getD (4 * k + 1) 0).toNat : Int)) := (hb.cell (p := ⟨D, o + 4 * k + 1, none⟩) hD).trans (hp (4 * k + 1) (by omega))
      have c2 : wr.cell? ⟨D, o + 4 * k + 2, none⟩ = some (.int .u8 ((bs.getD (4 * k + 2) 0).toNat : Int)) := (hb.cell (p := ⟨D, o + 4 * k + 2, none⟩) hD).trans (hp (4 * k + 2) (by omega))
      have c3 : wr.cell? ⟨D, o + 4 * k + 3, none⟩ = some (.int .u8 ((bs.getD (4 * k + 3) 0).toNat : Int)) := (hb.cell (p := ⟨D, o + 4 * k + 3, none⟩) hD).trans (hp (4 * k + 3) (by omega))
      have q0 : (0 : Int) <= 4 * (k : Int) := by omega
      have q1 : 4 * (k : Int) <= 64 := by omega
      have s1 := hr1.word k (by rw [fill_len]; omega)
      have s2 := hr1.frozen k
      go_wp2_with fail
      refine (wordAt_any _ _ _ _ D (o + 4 * k) (64 - 4 * k) (64 - 4 * k) wr (by omega) c0 c1 c2 c3).mono ?_
      rintro e w' ⟨rfl, m, rfl⟩
      go_wp2
      go_roundw
      case rel => 
        refine ⟨k + 1, by omega, by go_num, ?_, ?_, ?_⟩
        · have := (hr1.drewN m).set k (.int .u32 ((wordOf bs k).toNat : Int))
          rw [map_set_U] at this
          exact this
        · exact (hr0.drewN m).setOther _ _ (by simp)
        · exact (Below_drewN hb m).setCell (by simp) _
      case measure => simp [intOf]; omega
    · obtain rfl : k = 16 := by omega
      clear hk hlt
      go_wp2
      go_loopw [5] (fun i wr => ∃ t : Nat, 16 <= t /\ t <= 64 /\ i = .int .i64 (t : Int) /\ Row wr (w.heap.size + 1) 98 ((ext bs (t - 16)).map U) /\ Row wr w.heap.size 98 ((fill bs 0).map U) /\ Below w.heap.size w wr)
        (fun i _ => 64 - (intOf i).toNat)
      case atStart => exact ⟨16, by omega, by omega, rfl, hr1, hr0, hb⟩
      case round =>
        clear hr1 hr0 hb
        obtain ⟨t, ht, hk, rfl, hr1, hr0, hb⟩ := hrel
        by_cases hlt : t < 64
        · have hl := ext_len bs (t - 16)
          obtain ⟨x15, e15⟩ : ∃ x, x = (ext bs (t - 16)).getD (t - 15) 0 := ⟨_, rfl⟩
          obtain ⟨x2, e2⟩ : ∃ x, x = (ext bs (t - 16)).getD (t - 2) 0 := ⟨_, rfl⟩
          obtain ⟨x16, e16⟩ : ∃ x, x = (ext bs (t - 16)).getD (t - 16) 0 := ⟨_, rfl⟩
          obtain ⟨x7, e7⟩ : ∃ x, x = (ext bs (t - 16)).getD (t - 7) 0 := ⟨_, rfl⟩
          have g1 := hr1.word (t - 15) (by omega)
          have g2 := hr1.word (t - 2) (by omega)
          have g3 := hr1.word (t - 16) (by omega)
          have g4 := hr1.word (t - 7) (by omega)
          have s1 := hr1.word t (by omega)
          have s2 := hr1.frozen t
          rw [<- e15] at g1
          rw [<- e2] at g2
          rw [<- e16] at g3
          rw [<- e7] at g4
          have E : Hid (ext bs (t + 1 - 16) = (ext bs (t - 16)).set t (x16 + (rr x15 7 ^^^ rr x15 18 ^^^ x15 >>> 3) + x7 + (rr x2 17 ^^^ rr x2 19 ^^^ x2 >>> 10))) := by
            show _ = _
            rw [show t + 1 - 16 = (t - 16) + 1 by omega, ext, e15, e2, e16, e7, show 16 + (t - 16) = t by omega]
            rfl
          clear e15 e2 e16 e7 hl
          have i1 : (0 : Int) <= (t : Int) - 15 := by omega
          have i2 : (t : Int) - 15 < 64 := by omega
          have i3 : (0 : Int) <= (t : Int) - 2 := by omega
          have i4 : (t : Int) - 2 < 64 := by omega
          have i5 : (0 : Int) <= (t : Int) - 16 := by omega
          have i6 : (t : Int) - 16 < 64 := by omega
          have i7 : (0 : Int) <= (t : Int) - 7 := by omega
          have i8 : (t : Int) - 7 < 64 := by omega
          have i9 : (16 : Int) <= (t : Int) := by omega
          have i10 : (7 : Int) <= (t : Int) := by omega
          have i11 : ((t : Int) - 16).toNat = t - 16 := by omega
          have i12 : ((t : Int) - 7).toNat = t - 7 := by omega
          have i13 : (t : Int) < 80 := by omega
          have i14 : (t : Int) < 71 := by omega
          have n1 : t ≠ t - 16 := by omega
          have n2 : t ≠ t - 7 := by omega
          have n3 : t - 16 ≠ t := by omega
          have n4 : t - 7 ≠ t := by omega
          have j1 : IntKind.i64.wrap ((t : Int) - 16) = (t : Int) - 16 := i64_in _ (by omega) (by omega)
          have j2 : IntKind.i64.wrap ((t : Int) - 7) = (t : Int) - 7 := i64_in _ (by omega) (by omega)
          go_wp2
          go_quiet (fail)
          go_wp2
          go_region_held3 (fun w' => w'.cell? ⟨w.heap.size + 1, t - 16, none⟩ = some (.int .u32 (x16.toNat : Int)) /\ w'.cell? ⟨w.heap.size + 1, t - 7, none⟩ = some (.int .u32 (x7.toNat : Int))) (first | go_keep | (refine ⟨?_, ?_⟩ <;> (rw [World.cell?_setCell_other _ _ _ _ (by first | (simp; done) | (simp; omega))]; first | exact g3 | exact g4)))
            ((go_at_call 69; refine (turn_at _ _ _ (by decide) (by decide)).mono ?_; rintro e w' ⟨rfl, rfl⟩))
          rw [wn_form x16 x15 x7 x2]
          generalize x16 + (rr x15 7 ^^^ rr x15 18 ^^^ x15 >>> 3) + x7 + (rr x2 17 ^^^ rr x2 19 ^^^ x2 >>> 10) = y at E ⊢
          go_wp2
          refine ⟨?_, ?measure⟩
          refine ⟨_, _, _, _, _, _, _, _, _, _, _, _, _, _, _, _, _, _, _, _, _, _, _, _, _, _, _, _, _, _, _, _, _, _, _, _, _, _, _, _, _, _, _, _, ?rel, rfl⟩
          case rel =>
            refine ⟨t + 1, by omega, by omega, by go_num, ?_, ?_, ?_⟩
            · have R := (hr1.drewN (nq + 1)).set t (.int .u32 (y.toNat : Int))
              rw [map_set_U, <- E.out] at R
              exact R
            · exact (hr0.drewN (nq + 1)).setOther _ _ (by simp)
            · exact (Below_drewN hb (nq + 1)).setCell (by simp) _
          case measure => simp [intOf]; omega
        · obtain rfl : t = 64 := by omega
          clear hk hlt ht
          go_wp2_with (first | (refine wpList_load_Row rfl 98 _ rfl _ _ _ hr1 rfl _ Tryd.underlying98 rfl (by rw [List.length_map, ext_len]; kernel_rfl) ?_) | (refine wpList_store_Row rfl 98 _ _ rfl _ _ 0 _ _ hr0 (by simp [ext_len, fill_len]) rfl rfl (by rw [List.length_map, ext_len]; kernel_rfl) (U_one _) ?_; intro w1 hr2 hs2))
          have hr3 : Row w1 w.heap.size 98 ((sched bs).map U) := by
            have : Row w1 w.heap.size 98 ((ext bs 48).map U ++ ((fill bs 0).map U).drop ((ext bs 48).length)) := by simpa using hr2
            rwa [List.drop_eq_nil_of_le (by simp [ext_len, fill_len]), List.append_nil] at this
          exact bodyPost_ret_by (results_Row Tryd.results68 _ w1 w.heap.size 98 _ _ rfl hr3 Tryd.underlying98 rfl (by rw [List.length_map, sched_len]; kernel_rfl)) rfl ⟨rfl, hs2.below hb (Nat.le_refl _)⟩

end Go.Proofs.YtplpoehfdhkhmaaDoor


namespace Go.Proofs.YtplpoehfdhkhmaaDoor
open Go.RowKit

theorem run_index_U (t len : Nat) (hu : Tryd.prog.underlying t = some (.array len 95)) (l : List Wd) (k : Nat) (hk : k < len) (hl : k < l.length) (w : World) :
    (Instr.index t (.agg (l.map U).toArray) (.int .i64 (k : Int))).run Tryd.prog w = .ok (.int .u32 ((l.getD k 0).toNat : Int)) w := by
  have hs : (sizeOf 95).run Tryd.prog w = .ok 1 w := by kernel_rfl
  simp [Instr.index, asIntOf, run_underlying hu, hk, hs, Go.part, hl, U]

set_option maxHeartbeats 1000000 in
set_option maxRecDepth 100000 in
theorem compress_any (s : S8) (D o KB : Nat) (bs : List By) (w : World) (hp : ∀ j, j < 64 -> w.cell? ⟨D, o + j, none⟩ = some (B8 (bs.getD j 0))) (hk : Row w KB 98 (Kt.map U)) :
    Calls Tryd.prog 53 #[.agg (s.list.map U).toArray, .pointer (some ⟨D, o, none⟩), .pointer (some ⟨KB, 0, none⟩)] w fun e w' => e = .returned (.agg ((comp s bs).list.map U).toArray) /\ Below w.heap.size w w' := by
  have hD : D < w.heap.size := block_lt_of_cell (hp 0 (by omega))
  have hKB := hk.lt
  have e0 : (s.list.map U).toArray = #[.int .u32 (s.a.toNat : Int), .int .u32 (s.b.toNat : Int), .int .u32 (s.c.toNat : Int), .int .u32 (s.d.toNat : Int), .int .u32 (s.e.toNat : Int), .int .u32 (s.f.toNat : Int), .int .u32 (s.g.toNat : Int), .int .u32 (s.h.toNat : Int)] := rfl
  rw [e0]
  clear e0
  go_enter Tryd.func53, Tryd.ntmps53
  go_wp2_with fail
  have b0 : ∀ o1 o2, Below w.heap.size w ((w.alloc o1).alloc o2) := fun o1 o2 => ((Below.refl _ _).alloc (Nat.le_refl _) _).alloc (by simp) _
  refine (schedule_any D o bs _ (fun j hj => ((b0 _ _).cell (p := ⟨D, o + j, none⟩) hD).trans (hp j hj))).mono ?_
  rintro e w1 ⟨rfl, hb1⟩
  have r0 : Row w1 w.heap.size 96 (s.list.map U) := Row.below ((Row.at w 96 (s.list.map U) _ _ rfl rfl).alloc _) hb1 (by simp; omega)
  have r1 : Row w1 (w.heap.size + 1) 96 ((List.replicate 8 (0 : Wd)).map U) := Row.below (Row.at (w.alloc _) 96 ((List.replicate 8 (0 : Wd)).map U) _ _ (by simp) rfl) hb1 (by simp)
  have bb : Below w.heap.size w w1 := (b0 _ _).trans (hb1.mono (by simp; omega))
  have hsz : w.heap.size + 1 < w1.heap.size := r1.lt
  have r2 : Row w1 KB 98 (Kt.map U) := hk.below bb hKB
  clear hb1 b0 hp hk
  go_wp2_with (refine wpList_store_Row rfl 98 _ _ rfl w1.heap.size 98 0 ((List.replicate 64 (0 : Wd)).map U) ((sched bs).map U) (Row.at _ _ _ _ _ rfl rfl) (by rw [List.length_map, sched_len, List.length_map, List.length_replicate]; decide) rfl rfl (by rw [List.length_map, sched_len]; kernel_rfl) (U_one _) ?_; intro w2 hr0 hs)
  have r3 := row64 (sched_len bs) hr0
  replace r0 : Row w2 w.heap.size 96 (s.list.map U) := (r0.alloc _).but hs (by omega)
  replace r1 : Row w2 (w.heap.size + 1) 96 ((List.replicate 8 (0 : Wd)).map U) := (r1.alloc _).but hs (by omega)
  replace r2 : Row w2 KB 98 (Kt.map U) := (r2.alloc _).but hs (by omega)
  replace bb : Below w.heap.size w w2 := hs.below (bb.alloc (by omega) _) (by omega)
  clear hs hr0
  generalize hSB : w1.heap.size = SB at r3 ⊢
  have a0 := r0.word 0 (by simp [S8.list])
  have a1 := r0.word 1 (by simp [S8.list])
  have a2 := r0.word 2 (by simp [S8.list])
  have a3 := r0.word 3 (by simp [S8.list])
  have a4 := r0.word 4 (by simp [S8.list])
  have a5 := r0.word 5 (by simp [S8.list])
  have a6 := r0.word 6 (by simp [S8.list])
  have a7 := r0.word 7 (by simp [S8.list])
  simp only [S8.list, List.getD_cons_zero, List.getD_cons_succ] at a0 a1 a2 a3 a4 a5 a6 a7
  go_wp2
  go_quiet (fail)
  go_wp2
  go_quiet (fail)
  go_wp2_with (refine wpList_load_Row rfl 98 _ rfl _ _ _ r3 rfl _ Tryd.underlying98 rfl (by rw [List.length_map, sched_len]; kernel_rfl) ?_)
  go_loopw [8, 9, 10, 11, 12, 13, 14, 15, 41] (fun a b c d e f g h i wr => ∃ t : Nat, t <= 64 /\ i = .int .i64 t /\ Dr w2 wr /\ ∃ v : S8, Hid (v = rnds s Kt (sched bs) t) /\ a = .int .u32 (v.a.toNat : Int) /\ b = .int .u32 (v.b.toNat : Int)
      /\ c = .int .u32 (v.c.toNat : Int) /\ d = .int .u32 (v.d.toNat : Int) /\ e = .int .u32 (v.e.toNat : Int) /\ f = .int .u32 (v.f.toNat : Int) /\ g = .int .u32 (v.g.toNat : Int) /\ h = .int .u32 (v.h.toNat : Int))
    (fun _ _ _ _ _ _ _ _ i _ => 64 - (intOf i).toNat)
  case atStart => exact ⟨0, by omega, rfl, ⟨_, rfl⟩, s, rfl, rfl, rfl, rfl, rfl, rfl, rfl, rfl, rfl⟩
  case round =>
    obtain ⟨t, ht, rfl, hn, v, hv, rfl, rfl, rfl, rfl, rfl, rfl, rfl, rfl⟩ := hrel
    by_cases hlt : t < 64
    · have i1 : (0 : Int) <= (t : Int) := by omega
      have i2 : (t : Int) < 64 := by omega
      have x1 := run_index_U 98 64 Tryd.underlying98 (sched bs) t hlt (by rw [sched_len]; exact hlt)
      have k1 := (r2.dr hn).word t (by rw [Kt_len]; exact hlt)
      have E : Hid (rnds s Kt (sched bs) (t + 1) = rnd v (Kt.getD t 0) ((sched bs).getD t 0)) := by
        rw [hv.out]; rfl
      generalize (sched bs).getD t 0 = y at x1 E
      generalize Kt.getD t 0 = kt at k1 E
      go_wp2
      go_quiet ((go_at_call 69; exact Calls.quiet_of_same (turn_at _ _ _ (by decide) (by decide))))
      go_wp2_with (go_at_call 69; refine (turn_at _ _ _ (by decide) (by decide)).mono ?_; rintro e w' ⟨rfl, rfl⟩)
      refine ⟨⟨t + 1, by omega, by go_num, hn.drewN nq, rnd v kt y, E.out.symm, val_int ?_, rfl, rfl, rfl, val_int ?_, rfl, rfl, rfl⟩, by simp [intOf]; omega⟩
      · rw [rndU_form, rndV_form, add_bv]; rfl
      · rw [rndU_form, add_bv]; rfl
    · obtain rfl : t = 64 := by omega
      clear hlt ht
      replace r0 := r0.dr hn
      replace r1 := r1.dr hn
      replace bb := Below_dr bb hn
      clear a0 a1 a2 a3 a4 a5 a6 a7 r2 r3 hSB hsz hn
      go_wp2
      go_loopw [114] (fun i wr => ∃ k : Nat, k <= 8 /\ i = .int .i64 k /\ Row wr w.heap.size 96 ((addSet s v k).map U) /\ Row wr (w.heap.size + 1) 96 ((List.replicate 8 (0 : Wd)).map U) /\ Below w.heap.size w wr)
        (fun i _ => 8 - (intOf i).toNat)
      case atStart => exact ⟨0, by omega, rfl, r0, r1, bb⟩
      case round =>
        clear r0 r1 bb
        obtain ⟨k, hk, rfl, r0, r1, bb⟩ := hrel
        by_cases hlt : k < 8
        · have i1 : (0 : Int) <= (k : Int) := by omega
          have i2 : (k : Int) < 8 := by omega
          have x1 : ∀ w : World, (Instr.index 96 (.agg #[.int .u32 (v.a.toNat : Int), .int .u32 (v.b.toNat : Int), .int .u32 (v.c.toNat : Int), .int .u32 (v.d.toNat : Int), .int .u32 (v.e.toNat : Int), .int .u32 (v.f.toNat : Int), .int .u32 (v.g.toNat : Int), .int .u32 (v.h.toNat : Int)]) (.int .i64 (k : Int))).run Tryd.prog w = .ok (.int .u32 ((v.list.getD k 0).toNat : Int)) w :=
            run_index_U 96 8 Tryd.underlying96 v.list k hlt (by rw [S8.list_len]; exact hlt)
          have k1 := r0.word k (by rw [addSet_len]; exact hlt)
          have k2 := r0.frozen k
          have E : Hid (addSet s v (k + 1) = (addSet s v k).set k ((addSet s v k).getD k 0 + v.list.getD k 0)) := rfl
          generalize v.list.getD k 0 = y at x1 E
          generalize (addSet s v k).getD k 0 = z at k1 E
          go_wp2
          rw [add_bv]
          refine ⟨⟨k + 1, by omega, by go_num, ?_, r1.setOther _ _ (by simp), bb.setCell (Nat.le_refl _) _⟩, by simp [intOf]; omega⟩
          have R := r0.set k (.int .u32 ((z + y).toNat : Int))
          rw [map_set_U, <- E.out] at R
          exact R
        · obtain rfl : k = 8 := by omega
          clear hlt hk
          rw [addSet_all] at r0
          have e9 : s.add v = comp s bs := by rw [hv.out]; rfl
          rw [e9] at r0
          clear e9 hv
          go_wp2_with (first | (refine wpList_load_Row rfl 96 _ rfl _ _ _ r0 rfl _ Tryd.underlying96 rfl (by kernel_rfl) ?_) | (refine wpList_store_Row rfl 96 _ _ rfl _ _ 0 _ _ r1 (by simp [S8.list_len]) rfl rfl (by kernel_rfl) (U_one _) ?_; intro w3 hr2 hs2))
          have hr3 : Row w3 (w.heap.size + 1) 96 ((comp s bs).list.map U) := by simpa [S8.list_len] using hr2
          exact bodyPost_ret_by (results_Row Tryd.results53 _ w3 (w.heap.size + 1) 96 _ _ rfl hr3 Tryd.underlying96 rfl (by kernel_rfl)) rfl ⟨rfl, hs2.below bb (by omega)⟩
end Go.Proofs.YtplpoehfdhkhmaaDoor


namespace Go.Proofs.YtplpoehfdhkhmaaDoor
open Go.RowKit

/-- A Digest's cells: the state, the bytes that don't make a piece yet, the count of all bytes. -/
def digCells (s : S8) (p : List By) (n : Nat) : List Value := s.list.map U ++ (p.map B8 ++ [.int .u64 (n : Int)])

set_option maxHeartbeats 1000000 in
set_option maxRecDepth 100000 in
theorem new_any (w : World) : Calls Tryd.prog 32 #[] w fun e w' => ∃ g, e = .returned (.pointer (some ⟨g, 0, none⟩)) /\ w.heap.size <= g /\ Row w' g 113 (digCells init8 (List.replicate 64 0) 0) /\ Below w.heap.size w w' := by
  go_enter Tryd.func32, Tryd.ntmps32
  go_wp2_with fail
  refine (firstState_any _).mono ?_
  rintro e w1 ⟨rfl, hb1⟩
  have e0 : (init8.list.map U).toArray = #[.int .u32 1779033703, .int .u32 3144134277, .int .u32 1013904242, .int .u32 2773480762, .int .u32 1359893119, .int .u32 2600822924, .int .u32 528734635, .int .u32 1541459225] := rfl
  rw [e0]
  clear e0
  have hz : ∀ w : World, (zeroValue 113).run Tryd.prog w = .ok (.agg #[.int .u32 0, .int .u32 0, .int .u32 0, .int .u32 0, .int .u32 0, .int .u32 0, .int .u32 0, .int .u32 0, .int .u8 0, .int .u8 0, .int .u8 0, .int .u8 0, .int .u8 0, .int .u8 0, .int .u8 0, .int .u8 0, .int .u8 0, .int .u8 0, .int .u8 0, .int .u8 0, .int .u8 0, .int .u8 0, .int .u8 0, .int .u8 0, .int .u8 0, .int .u8 0, .int .u8 0, .int .u8 0, .int .u8 0, .int .u8 0, .int .u8 0, .int .u8 0, .int .u8 0, .int .u8 0, .int .u8 0, .int .u8 0, .int .u8 0, .int .u8 0, .int .u8 0, .int .u8 0, .int .u8 0, .int .u8 0, .int .u8 0, .int .u8 0, .int .u8 0, .int .u8 0, .int .u8 0, .int .u8 0, .int .u8 0, .int .u8 0, .int .u8 0, .int .u8 0, .int .u8 0, .int .u8 0, .int .u8 0, .int .u8 0, .int .u8 0, .int .u8 0, .int .u8 0, .int .u8 0, .int .u8 0, .int .u8 0, .int .u8 0, .int .u8 0, .int .u8 0, .int .u8 0, .int .u8 0, .int .u8 0, .int .u8 0, .int .u8 0, .int .u8 0, .int .u8 0, .int .u64 0]) w := fun _ => by kernel_rfl
  go_wp2
  go_ret
  exact ⟨_, rfl, hb1.size, Row.at _ _ _ _ _ rfl rfl, hb1.alloc hb1.size _⟩
end Go.Proofs.YtplpoehfdhkhmaaDoor


namespace Go.Proofs.YtplpoehfdhkhmaaDoor
open Go.RowKit

theorem wpList_make_Row {ops : Array Oper} {rest : List Oper} {o : Oper} {a : Act} {w : World} {Q : Exit -> Act -> World -> Prop} (hg : o.guard = none) (l c : Operand) (hop : o.op = Op.makeSlice 23 l c)
    (kl kc : IntKind) (L C : Int) (n : Nat) (hl : a.eval l = .int kl L) (hc : a.eval c = .int kc C) (hL : L = (n : Int)) (hC : C = (n : Int)) (hn : n <= 1000000)
    (hK : ∀ w', Row w' w.heap.size 5 ((List.replicate n (0 : By)).map B8) -> Below w.heap.size w w' -> wpList Tryd.prog ops Q rest (a.put o.dst (.slice (some ⟨w.heap.size, 0, none⟩) n n)) w') :
    wpList Tryd.prog ops Q (o :: rest) a w := by
  obtain ⟨i0, hi, hz0, hz1, hz2⟩ := info_parts Tryd.info5
  refine wpList_plain hg fun K hK' => ?_
  subst hL
  subst hC
  have hrun := run_make (P := Tryd.prog) w 23 5 i0 (.int .u8 0) Tryd.underlying23 hi hz0 kl kc (n : Int) (n : Int) (by omega) (by omega) (by rw [hz2]; omega) (by omega)
  unfold Oper.wp
  simp [execOp, hop, hl, hc, hrun, Result.andThen]
  refine hK' _ _ (hK _ ?_ ?_)
  · refine Row.at w 5 _ _ _ rfl ?_
    rw [hz1, Nat.mul_one]
    have : (madeCells #[Value.int .u8 0] n).toList = (List.replicate n (0 : By)).map B8 := by
      rw [toList_madeCells_one]; simp [B8]
    rw [<- this]; rfl
  · exact (Below.refl _ _).alloc (Nat.le_refl _) _

theorem set4 (pre post : List Value) (a b c d x y z t : Value) (o : Nat) (ho : o = pre.length) :
    ((((pre ++ a :: b :: c :: d :: post).set o x).set (o + 1) y).set (o + 2) z).set (o + 3) t = pre ++ x :: y :: z :: t :: post := by
  subst ho
  simp
theorem Row.put4 {w : World} {g ty o : Nat} {pre post : List Value} {a b c d : Value} (h : Row w g ty (pre ++ a :: b :: c :: d :: post)) (ho : o = pre.length) (x : Wd) :
    Row (put4 w g o x) g ty (pre ++ ((wbytes x).map B8 ++ post)) := by
  have := (((h.set o (B8 ((x >>> 24).setWidth 8))).set (o + 1) (B8 ((x >>> 16).setWidth 8))).set (o + 2) (B8 ((x >>> 8).setWidth 8))).set (o + 3) (B8 (x.setWidth 8))
  rw [set4 pre post a b c d _ _ _ _ o ho] at this
  exact this
theorem put4_but (w : World) (g o : Nat) (x : Wd) : SameBut g w (put4 w g o x) :=
  (((SameBut.setCell g o _ w).trans (SameBut.setCell g (o + 1) _ _)).trans (SameBut.setCell g (o + 2) _ _)).trans (SameBut.setCell g (o + 3) _ _)
theorem Row.there {w : World} {g t : Nat} {cs : List Value} (h : Row w g t cs) (o n : Nat) (hl : o + n <= cs.length) : w.there g o n := by
  intro j hj
  refine ⟨?_, h.frozen _⟩
  rw [h.cell (o + j) (cs[o + j]'(by omega)) (List.getElem?_eq_getElem (by omega))]; rfl

theorem lenBytes_of (n : Nat) : wbytes (BitVec.ofNat 32 (8 * n / 4294967296)) ++ wbytes (BitVec.ofNat 32 (8 * n)) = lenBytes n := by
  have h : ∀ (k s : Nat), s <= 24 -> ((BitVec.ofNat 32 k >>> s).setWidth 8 : By) = BitVec.ofNat 8 (k / 2 ^ s) := by
    intro k s hs
    apply BitVec.eq_of_toNat_eq
    rw [BitVec.toNat_setWidth, BitVec.toNat_ushiftRight, BitVec.toNat_ofNat, BitVec.toNat_ofNat, Nat.shiftRight_eq_div_pow]
    have e : (2 : Nat) ^ 32 = 2 ^ s * 2 ^ (32 - s) := by rw [<- Nat.pow_add]; congr 1; omega
    rw [e, Nat.mod_mul_right_div_self]
    have e2 : (2 : Nat) ^ (32 - s) = 2 ^ 8 * 2 ^ (24 - s) := by rw [<- Nat.pow_add]; congr 1; omega
    rw [e2, Nat.mod_mul_right_mod]
  have h0 : ∀ k : Nat, ((BitVec.ofNat 32 k).setWidth 8 : By) = BitVec.ofNat 8 k := by
    intro k
    apply BitVec.eq_of_toNat_eq
    rw [BitVec.toNat_setWidth, BitVec.toNat_ofNat, BitVec.toNat_ofNat]
    omega
  simp only [wbytes, lenBytes, h0, h _ 24 (by omega), h _ 16 (by omega), h _ 8 (by omega), List.cons_append, List.nil_append, Nat.div_div_eq_div_mul, Nat.reducePow, Nat.reduceMul]

set_option maxHeartbeats 1000000 in
set_option maxRecDepth 100000 in
theorem ending_any (n : Nat) (hn : n < 1152921504606846976) (w : World) :
    Calls Tryd.prog 55 #[.int .u64 (n : Int)] w fun e w' => e = .returned (.slice (some ⟨w.heap.size, 0, none⟩) (9 + zerosOf n) (9 + zerosOf n)) /\ Lies w' w.heap.size 0 (ending n) /\ Below w.heap.size w w' := by
  have hz : zerosOf n <= 63 := by unfold zerosOf; omega
  have hzz : (119 - (n : Int) % 64) % 64 = (zerosOf n : Int) := by unfold zerosOf; omega
  have HE : Hid (ending n = 128#8 :: (List.replicate (zerosOf n) 0 ++ (wbytes (BitVec.ofNat 32 (8 * n / 4294967296)) ++ wbytes (BitVec.ofNat 32 (8 * n))))) := by
    show _ = _
    rw [lenBytes_of]; rfl
  have hel : Hid ((ending n).length = 9 + zerosOf n) := ending_len n
  have j1 : IntKind.u64.wrap (8 * (n : Int)) = ((8 * n : Nat) : Int) := by rw [IntKind.wrap_u64]; omega
  have j2 : ((8 * n : Nat) : Int) / (4294967296 : Int) % (4294967296 : Int) = ((BitVec.ofNat 32 (8 * n / 4294967296)).toNat : Int) := by rw [BitVec.toNat_ofNat]; omega
  have j3 : ((8 * n : Nat) : Int) % (4294967296 : Int) = ((BitVec.ofNat 32 (8 * n)).toNat : Int) := by rw [BitVec.toNat_ofNat]; omega
  generalize BitVec.ofNat 32 (8 * n / 4294967296) = hi at *
  generalize BitVec.ofNat 32 (8 * n) = lo at *
  generalize 8 * n = E at *
  generalize zerosOf n = z at *
  clear hn
  have i1 : (1 : Int) + (z : Int) <= (9 + z : Nat) := by omega
  have i2 : (0 : Int) <= 1 + (z : Int) := by omega
  go_enter Tryd.func55, Tryd.ntmps55
  go_wp2_with (first | (refine wpList_make_Row rfl _ _ rfl .u64 .u64 _ _ (9 + z) rfl rfl (by omega) (by omega) (by omega) ?_; intro w1 r1 hb1; have c0 := r1.cell 0 (B8 0) (by simp [List.getElem?_replicate]); have f0 := r1.frozen 0))
  have r2 := r1.set 0 (.int .u8 128)
  have eL : ((List.replicate (9 + z) (0 : By)).map B8).set 0 (.int .u8 128) = ((128#8 :: List.replicate z 0).map B8) ++ B8 0 :: B8 0 :: B8 0 :: B8 0 :: [B8 0, B8 0, B8 0, B8 0] := by
    have e1 : List.replicate (9 + z) (0 : By) = 0 :: (List.replicate z 0 ++ List.replicate 8 0) := by
      rw [List.replicate_append_replicate, <- List.replicate_succ]; congr 1; omega
    rw [e1]
    simp [B8, List.replicate_succ]
  rw [eL] at r2
  have bl2 : Below w.heap.size w (w1.setCell ⟨w.heap.size, 0, none⟩ (.int .u8 128)) := hb1.setCell (Nat.le_refl _) _
  clear eL c0 f0 r1 hb1
  refine (putWord_any hi w.heap.size (1 + z) _ _ _ (by omega) (r2.there (1 + z) 4 (by simp; omega))).mono ?_
  rintro e w2 ⟨rfl, hw2⟩
  have r3 := r2.put4 (o := 1 + z) (by simp; omega) hi
  have bl3 := (put4_but (w1.setCell ⟨w.heap.size, 0, none⟩ (.int .u8 128)) w.heap.size (1 + z) hi).below bl2 (Nat.le_refl _)
  rw [<- hw2] at r3 bl3
  clear hw2 r2 bl2
  have r3' : Row w2 w.heap.size 5 ((((128#8 :: List.replicate z 0) ++ wbytes hi).map B8) ++ B8 0 :: B8 0 :: B8 0 :: B8 0 :: []) := by
    simpa using r3
  have i3 : (0 : Int) <= 1 + (z : Int) + 4 := by omega
  have i4 : (1 : Int) + (z : Int) + 4 <= (9 + z : Nat) := by omega
  go_wp2_with fail
  refine (putWord_any lo w.heap.size (1 + z + 4) _ _ _ (by omega) (r3'.there (1 + z + 4) 4 (by simp [wbytes]; omega))).mono ?_
  rintro e w3 ⟨rfl, hw3⟩
  have r4 := r3'.put4 (o := 1 + z + 4) (by simp [wbytes]; omega) lo
  have bl4 := (put4_but w2 w.heap.size (1 + z + 4) lo).below bl3 (Nat.le_refl _)
  rw [<- hw3] at r4 bl4
  clear hw3 r3 r3' bl3
  go_wp2
  go_ret
  refine ⟨rfl, ?_, bl4⟩
  have r5 : Row w3 w.heap.size 5 ((ending n).map B8) := by
    rw [HE.out]; simpa using r4
  intro j hj
  rw [Nat.zero_add]
  refine r5.cell j _ ?_
  simp [hj]
end Go.Proofs.YtplpoehfdhkhmaaDoor


namespace Go.Proofs.YtplpoehfdhkhmaaDoor
open Go.RowKit

theorem digCells_len (s : S8) (p : List By) (n : Nat) (hp : p.length = 64) : (digCells s p n).length = 73 := by simp [digCells, S8.list_len, hp]
theorem digCells_one (s : S8) (p : List By) (n : Nat) : ∀ v ∈ digCells s p n, v.oneCell' = true := by
  intro v hv
  simp only [digCells, List.mem_append, List.mem_singleton] at hv
  rcases hv with h | h | h
  · exact U_one _ v h
  · exact B8_one _ v h
  · subst h; rfl
theorem digCells_count (s : S8) (p : List By) (n : Nat) (hp : p.length = 64) : (digCells s p n)[72]? = some (.int .u64 (n : Int)) := by
  unfold digCells
  rw [List.getElem?_append_right (by simp [S8.list_len]), List.getElem?_append_right (by simp [S8.list_len, hp])]
  simp [S8.list_len, hp]
theorem digCells_setCount (s : S8) (p : List By) (n n' : Nat) (hp : p.length = 64) : (digCells s p n).set 72 (.int .u64 (n' : Int)) = digCells s p n' := by
  unfold digCells
  rw [List.set_append_right _ _ (by simp [S8.list_len]), List.set_append_right _ _ (by simp [S8.list_len, hp])]
  simp [S8.list_len, hp]
theorem digCells_load (s : S8) (p : List By) (n : Nat) : ((digCells s p n).drop 0).take 8 = s.list.map U := by
  unfold digCells
  rw [List.drop_zero, List.take_append_of_le_length (by simp [S8.list_len])]
  exact List.take_of_length_le (by simp [S8.list_len])
theorem digCells_part (s : S8) (p X : List By) (n h t : Nat) (hp : p.length = 64) (ht : X.length = t) (hh : h + t <= 64) :
    (digCells s p n).take (8 + h) ++ X.map B8 ++ (digCells s p n).drop (8 + h + (X.map B8).length) = digCells s (p.take h ++ X ++ p.drop (h + t)) n := by
  unfold digCells
  have e8 : (s.list.map U).length = 8 := by simp [S8.list_len]
  have h1 : (s.list.map U ++ (p.map B8 ++ [Value.int .u64 (n : Int)])).take (8 + h) = s.list.map U ++ (p.take h).map B8 := by
    rw [List.take_append, e8, show 8 + h - 8 = h by omega, List.take_of_length_le (by omega), List.take_append_of_le_length (by simp; omega), List.map_take]
  have h2 : (s.list.map U ++ (p.map B8 ++ [Value.int .u64 (n : Int)])).drop (8 + h + t) = (p.drop (h + t)).map B8 ++ [Value.int .u64 (n : Int)] := by
    rw [List.drop_append, e8, show 8 + h + t - 8 = h + t by omega, List.drop_eq_nil_of_le (by omega), List.nil_append, List.drop_append_of_le_length (by simp; omega), List.map_drop]
  rw [h1, List.length_map, ht, h2]
  simp
theorem digCells_byte (s : S8) (p : List By) (n j : Nat) (hp : p.length = 64) (hj : j < 64) : (digCells s p n)[8 + j]? = some (B8 (p.getD j 0)) := by
  unfold digCells
  rw [List.getElem?_append_right (by simp [S8.list_len]), show 8 + j - (s.list.map U).length = j by simp [S8.list_len], List.getElem?_append_left (by simp; omega)]
  simp [hp, hj]

/-! ### The state behind some pieces, and more bytes behind them -/
theorem pc_append (M X : List By) (k : Nat) (h : 64 * (k + 1) <= M.length) : pc (M ++ X) k = pc M k := by
  unfold pc
  rw [List.drop_append_of_le_length (by omega), List.take_append_of_le_length (by simp; omega)]
theorem hs_append (M X : List By) (n : Nat) (h : 64 * n <= M.length) : hs (M ++ X) n = hs M n := by
  induction n with
  | zero => simp only [hs]
  | succ k ih => rw [<- hs_succ, <- hs_succ, ih (by omega), pc_append M X k h]

/-- The Digest at block D has the bytes M. -/
def Dig (w : World) (D : Nat) (M : List By) : Prop := ∃ p, p.length = 64 /\ p.take (M.length % 64) = M.drop (64 * (M.length / 64)) /\ Row w D 113 (digCells (hs M (M.length / 64)) p M.length)

/-- The same, the Digest being the first part of a block of type T: 'post' comes behind it. -/
def DigT (w : World) (D T : Nat) (post : List Value) (M : List By) : Prop := ∃ p, p.length = 64 /\ p.take (M.length % 64) = M.drop (64 * (M.length / 64)) /\ Row w D T (digCells (hs M (M.length / 64)) p M.length ++ post)
theorem dig_iff (w : World) (D : Nat) (M : List By) : Dig w D M ↔ DigT w D 113 [] M := by simp [Dig, DigT]
theorem digX_count (s : S8) (p : List By) (n : Nat) (post : List Value) (hp : p.length = 64) : (digCells s p n ++ post)[72]? = some (.int .u64 (n : Int)) := by
  rw [List.getElem?_append_left (by rw [digCells_len _ _ _ hp]; omega)]; exact digCells_count s p n hp
theorem digX_setCount (s : S8) (p : List By) (n n' : Nat) (post : List Value) (hp : p.length = 64) : (digCells s p n ++ post).set 72 (.int .u64 (n' : Int)) = digCells s p n' ++ post := by
  rw [List.set_append_left _ _ (by rw [digCells_len _ _ _ hp]; omega), digCells_setCount s p n n' hp]
theorem digX_part (s : S8) (p X : List By) (n h t : Nat) (post : List Value) (hp : p.length = 64) (ht : X.length = t) (hh : h + t <= 64) :
    (digCells s p n ++ post).take (8 + h) ++ X.map B8 ++ (digCells s p n ++ post).drop (8 + h + (X.map B8).length) = digCells s (p.take h ++ X ++ p.drop (h + t)) n ++ post := by
  have hl := digCells_len s p n hp
  rw [List.take_append_of_le_length (by omega), List.drop_append_of_le_length (by rw [List.length_map, ht]; omega), <- List.append_assoc, digCells_part s p X n h t hp ht hh]
theorem digX_byte (s : S8) (p : List By) (n j : Nat) (post : List Value) (hp : p.length = 64) (hj : j < 64) : (digCells s p n ++ post)[8 + j]? = some (B8 (p.getD j 0)) := by
  rw [List.getElem?_append_left (by rw [digCells_len _ _ _ hp]; omega)]; exact digCells_byte s p n j hp hj

theorem dig_less (M X p : List By) (hp : p.length = 64) (hpt : p.take (M.length % 64) = M.drop (64 * (M.length / 64))) (hX : M.length % 64 + X.length < 64) :
    (p.take (M.length % 64) ++ X ++ p.drop (M.length % 64 + X.length)).length = 64 /\
    (p.take (M.length % 64) ++ X ++ p.drop (M.length % 64 + X.length)).take ((M ++ X).length % 64) = (M ++ X).drop (64 * ((M ++ X).length / 64)) /\
    hs (M ++ X) ((M ++ X).length / 64) = hs M (M.length / 64) := by
  have e1 : (M ++ X).length / 64 = M.length / 64 := by simp; omega
  have e2 : (M ++ X).length % 64 = M.length % 64 + X.length := by simp; omega
  refine ⟨by simp; omega, ?_, ?_⟩
  · rw [e1, e2, List.drop_append_of_le_length (by omega), <- hpt]
    exact List.take_left' (by simp; omega)
  · rw [e1]; exact hs_append M X _ (by omega)
theorem dig_full (M X p : List By) (hp : p.length = 64) (hpt : p.take (M.length % 64) = M.drop (64 * (M.length / 64))) (hX : M.length % 64 + X.length = 64) :
    (p.take (M.length % 64) ++ X ++ p.drop (M.length % 64 + X.length)).length = 64 /\
    (M ++ X).length % 64 = 0 /\ (M ++ X).length / 64 = M.length / 64 + 1 /\
    hs (M ++ X) ((M ++ X).length / 64) = comp (hs M (M.length / 64)) (p.take (M.length % 64) ++ X ++ p.drop (M.length % 64 + X.length)) := by
  have e1 : (M ++ X).length / 64 = M.length / 64 + 1 := by simp; omega
  refine ⟨by simp; omega, by simp; omega, e1, ?_⟩
  rw [e1, <- hs_succ, hs_append M X _ (by omega)]
  have e2 : pc (M ++ X) (M.length / 64) = p.take (M.length % 64) ++ X ++ p.drop (M.length % 64 + X.length) := by
    unfold pc
    have e3 : p.drop (M.length % 64 + X.length) = [] := List.drop_eq_nil_of_le (by omega)
    rw [List.drop_append_of_le_length (by omega), <- hpt, e3, List.append_nil]
    exact List.take_of_length_le (by simp; omega)
  rw [e2]

/-- All old blocks but D are as they were. -/
structure Kept (D : Nat) (w w' : World) : Prop where
  os : w'.os = w.os
  tape : w'.tape = w.tape
  output : w'.output = w.output
  size : w.heap.size <= w'.heap.size
  block : ∀ k, k < w.heap.size -> k ≠ D -> w'.heap[k]? = w.heap[k]?
theorem Kept.refl (D : Nat) (w : World) : Kept D w w := ⟨rfl, rfl, rfl, Nat.le_refl _, fun _ _ _ => rfl⟩
theorem Kept.trans {D : Nat} {a b c : World} (h : Kept D a b) (k : Kept D b c) : Kept D a c :=
  ⟨k.os.trans h.os, k.tape.trans h.tape, k.output.trans h.output, Nat.le_trans h.size k.size, fun i hi hne => (k.block i (Nat.lt_of_lt_of_le hi h.size) hne).trans (h.block i hi hne)⟩
theorem Kept.but {D : Nat} {a w w' : World} (h : Kept D a w) (hs : SameBut D w w') : Kept D a w' :=
  h.trans ⟨hs.os, hs.tape, hs.output, Nat.le_of_eq hs.size.symm, fun k _ hne => hs.block k hne⟩
theorem Kept.below {D : Nat} {a w w' : World} (h : Kept D a w) (hb : Below w.heap.size w w') : Kept D a w' :=
  h.trans ⟨hb.os, hb.tape, hb.output, hb.size, fun k hk _ => hb.block k hk⟩
theorem Kept.dr {D : Nat} {a w w' : World} (h : Kept D a w) (d : Dr w w') : Kept D a w' := by
  obtain ⟨n, rfl⟩ := d; exact ⟨h.os, h.tape, h.output, h.size, h.block⟩
theorem Row.kept {w w' : World} {g t D : Nat} {cs : List Value} (h : Row w g t cs) (k : Kept D w w') (hne : g ≠ D) : Row w' g t cs := (k.block g h.lt hne).trans h
theorem Kept.toBelow {D B : Nat} {a w w' : World} (h : Kept D w w') (hb : Below B a w) (hBD : B <= D) (hB : B <= w.heap.size) : Below B a w' :=
  hb.trans ⟨h.os, h.tape, h.output, h.size, fun k hk => h.block k (by omega) (by omega)⟩

/-- What a slice holds, its block another than D. -/
def IsBn (D : Nat) (w : World) (ao : Option Addr) (m : List By) : Prop :=
  m = [] ∨ ∃ B off, ao = some ⟨B, off, none⟩ /\ ∀ j v, m[j]? = some v -> B ≠ D /\ w.cell? ⟨B, off + j, none⟩ = some (B8 v)
theorem IsBn.keep {D : Nat} {w w' : World} {ao : Option Addr} {m : List By} (h : IsBn D w ao m) (hk : ∀ B, B < w.heap.size -> B ≠ D -> w'.heap[B]? = w.heap[B]?) : IsBn D w' ao m := by
  rcases h with h | ⟨B, off, rfl, hc⟩
  · exact .inl h
  · refine .inr ⟨B, off, rfl, fun j v hj => ?_⟩
    obtain ⟨h1, h2⟩ := hc j v hj
    exact ⟨h1, (World.cell?_of_block (w := w) (hk B (block_lt_of_cell h2) h1)).trans h2⟩

theorem wpList_copy_Row {ops : Array Oper} {rest : List Oper} {o : Oper} {a : Act} {w : World} {Q : Exit -> Act -> World -> Prop} (hgd : o.guard = none) (d s : Operand)
    (ho : o.op = .call { callee := .builtin .copy, args := #[d, s], argTypes := #[23, 23] })
    (D od dLen dCap B off sLen sCap : Nat) (hd : a.eval d = .slice (some ⟨D, od, none⟩) dLen dCap) (hs : a.eval s = .slice (some ⟨B, off, none⟩) sLen sCap)
    (t : Nat) (cur : List Value) (hr : Row w D t cur) (cs : List By) (k : Nat) (hk : cs.length = k) (hn : k = Nat.min sLen dLen)
    (hsrc : ∀ j v, cs[j]? = some v -> w.cell? ⟨B, off + j, none⟩ = some (B8 v)) (hfit : od + k <= cur.length)
    (h : ∀ w', Row w' D t (cur.take od ++ cs.map B8 ++ cur.drop (od + (cs.map B8).length)) -> SameBut D w w' -> wpList Tryd.prog ops Q rest (a.put o.dst (.int .i64 (k : Int))) w') : wpList Tryd.prog ops Q (o :: rest) a w := by
  refine wpList_plain hgd fun K hK => ?_
  have hth := hr.there od k hfit
  have hrun := run_copy_cells (P := Tryd.prog) w 23 23 o.type 5 D od dLen dCap ⟨B, off, none⟩ sLen sCap (cs.map B8) Tryd.underlying23 (by kernel_rfl) (by rw [List.length_map, hk, hn])
    (by
      intro j v hv
      rw [Addr.add_mid]
      rw [List.getElem?_map] at hv
      cases hj : cs[j]? with
      | none => rw [hj] at hv; cases hv
      | some x => rw [hj] at hv; injection hv with hv; subst hv; exact hsrc j x hj)
    (fun j hj => (hth j (by rw [List.length_map, hk] at hj; exact hj)).1) (fun j hj => (hth j (by rw [List.length_map, hk] at hj; exact hj)).2) (B8_one cs)
  unfold Oper.wp
  simp [execOp, ho, resolve, invoke, builtin, hd, hs, hrun, Result.andThen, goInt, hk]
  refine hK _ _ (h _ ?_ (SameBut.setCells D _ od w))
  exact Row.setCells (cs.map B8) od w cur hr (by rw [List.length_map, hk]; exact hfit)

end Go.Proofs.YtplpoehfdhkhmaaDoor
