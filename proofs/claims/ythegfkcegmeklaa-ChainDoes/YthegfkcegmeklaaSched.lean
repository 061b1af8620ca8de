
import Derived.Test.YthegfkcegmeklaaA
import Derived.Deep.RegionHeld3
namespace Go.Proofs.Ythegfkcegmeklaa
open Go.RowKit

set_option maxHeartbeats 1000000 in
set_option maxRecDepth 100000 in
theorem schedule_any (D o : Nat) (bs : List By) (w : World) (hp : ∀ j, j < 64 → w.cell? ⟨D, o + j, none⟩ = some (B8 (bs.getD j 0))) :
    Calls Try.prog 67 #[.pointer (some ⟨D, o, none⟩)] w fun e w' => e = .returned (.agg ((sched bs).map U).toArray) ∧ Below w.heap.size w w' := by
  have hD : D < w.heap.size := block_lt_of_cell (hp 0 (by omega))
  go_enter Try.func67, Try.ntmps67
  go_wp2
  go_loopw [8] (fun i wr => ∃ k : Nat, k ≤ 16 ∧ i = .int .i64 k ∧ Row wr (w.heap.size + 1) 86 ((fill bs k).map U) ∧ Row wr w.heap.size 86 ((fill bs 0).map U) ∧ Below w.heap.size w wr)
    (fun i _ => 16 - (intOf i).toNat)
  case atStart => exact ⟨0, by omega, rfl, Row.at _ _ _ _ _ (by simp) rfl, (Row.at _ _ _ _ _ rfl rfl).alloc _, ((Below.refl _ _).alloc (Nat.le_refl _) _).alloc (by simp) _⟩
  case round =>
    obtain ⟨k, hk, rfl, hr1, hr0, hb⟩ := hrel
    by_cases hlt : k < 16
    · have c0 : wr.cell? ⟨D, o + 4 * k, none⟩ = some (.int .u8 ((bs.getD (4 * k) 0).toNat : Int)) := (hb.cell (p := ⟨D, o + 4 * k, none⟩) hD).trans (hp (4 * k) (by omega))
      have c1 : wr.cell? ⟨D, o + 4 * k + 1, none⟩ = some (.int .u8 ((bs.getD (4 * k + 1) 0).toNat : Int)) := (hb.cell (p := ⟨D, o + 4 * k + 1, none⟩) hD).trans (hp (4 * k + 1) (by omega))
      have c2 : wr.cell? ⟨D, o + 4 * k + 2, none⟩ = some (.int .u8 ((bs.getD (4 * k + 2) 0).toNat : Int)) := (hb.cell (p := ⟨D, o + 4 * k + 2, none⟩) hD).trans (hp (4 * k + 2) (by omega))
      have c3 : wr.cell? ⟨D, o + 4 * k + 3, none⟩ = some (.int .u8 ((bs.getD (4 * k + 3) 0).toNat : Int)) := (hb.cell (p := ⟨D, o + 4 * k + 3, none⟩) hD).trans (hp (4 * k + 3) (by omega))
      have q0 : (0 : Int) ≤ 4 * (k : Int) := by omega
      have q1 : 4 * (k : Int) ≤ 64 := by omega
      have s1 := hr1.word k (by rw [fill_len]; omega)
      have s2 := hr1.frozen k
      go_wp2_with fail
      refine (wordAt_any _ _ _ _ D (o + 4 * k) (64 - 4 * k) (64 - 4 * k) wr (by omega) c0 c1 c2 c3).mono ?_
      rintro e w' ⟨rfl, m, rfl⟩
      go_wp2
      go_roundw
      case rel => 
        refine ⟨k + 1, by omega, by go_num, ?_, ?_, ?_⟩
        · have := (hr1.drewN m).set k (.int .u32 ((wordOf bs k).toNat : Int))
          rw [map_set_U] at this
          exact this
        · exact (hr0.drewN m).setOther _ _ (by simp)
        · exact (Below_drewN hb m).setCell (by simp) _
      case measure => simp [intOf]; omega
    · obtain rfl : k = 16 := by omega
      clear hk hlt
      go_wp2
      go_loopw [5] (fun i wr => ∃ t : Nat, 16 ≤ t ∧ t ≤ 64 ∧ i = .int .i64 (t : Int) ∧ Row wr (w.heap.size + 1) 86 ((ext bs (t - 16)).map U) ∧ Row wr w.heap.size 86 ((fill bs 0).map U) ∧ Below w.heap.size w wr)
        (fun i _ => 64 - (intOf i).toNat)
      case atStart => exact ⟨16, by omega, by omega, rfl, hr1, hr0, hb⟩
      case round =>
        clear hr1 hr0 hb
        obtain ⟨t, ht, hk, rfl, hr1, hr0, hb⟩ := hrel
        by_cases hlt : t < 64
        · have hl := ext_len bs (t - 16)
          obtain ⟨x15, e15⟩ : ∃ x, x = (ext bs (t - 16)).getD (t - 15) 0 := ⟨_, rfl⟩
          obtain ⟨x2, e2⟩ : ∃ x, x = (ext bs (t - 16)).getD (t - 2) 0 := ⟨_, rfl⟩
          obtain ⟨x16, e16⟩ : ∃ x, x = (ext bs (t - 16)).getD (t - 16) 0 := ⟨_, rfl⟩
          obtain ⟨x7, e7⟩ : ∃ x, x = (ext bs (t - 16)).getD (t - 7) 0 := ⟨_, rfl⟩
          have g1 := hr1.word (t - 15) (by omega)
          have g2 := hr1.word (t - 2) (by omega)
          have g3 := hr1.word (t - 16) (by omega)
          have g4 := hr1.word (t - 7) (by omega)
          have s1 := hr1.word t (by omega)
          have s2 := hr1.frozen t
          rw [← e15] at g1
          rw [← e2] at g2
          rw [← e16] at g3
          rw [← e7] at g4
          have E : Hid (ext bs (t + 1 - 16) = (ext bs (t - 16)).set t (x16 + (rr x15 7 ^^^ rr x15 18 ^^^ x15 >>> 3) + x7 + (rr x2 17 ^^^ rr x2 19 ^^^ x2 >>> 10))) := by
            show _ = _
            rw [show t + 1 - 16 = (t - 16) + 1 by omega, ext, e15, e2, e16, e7, show 16 + (t - 16) = t by omega]
            rfl
          clear e15 e2 e16 e7 hl
          have i1 : (0 : Int) ≤ (t : Int) - 15 := by omega
          have i2 : (t : Int) - 15 < 64 := by omega
          have i3 : (0 : Int) ≤ (t : Int) - 2 := by omega
          have i4 : (t : Int) - 2 < 64 := by omega
          have i5 : (0 : Int) ≤ (t : Int) - 16 := by omega
          have i6 : (t : Int) - 16 < 64 := by omega
          have i7 : (0 : Int) ≤ (t : Int) - 7 := by omega
          have i8 : (t : Int) - 7 < 64 := by omega
          have i9 : (16 : Int) ≤ (t : Int) := by omega
          have i10 : (7 : Int) ≤ (t : Int) := by omega
          have i11 : ((t : Int) - 16).toNat = t - 16 := by omega
          have i12 : ((t : Int) - 7).toNat = t - 7 := by omega
          have i13 : (t : Int) < 80 := by omega
          have i14 : (t : Int) < 71 := by omega
          have n1 : t ≠ t - 16 := by omega
          have n2 : t ≠ t - 7 := by omega
          have n3 : t - 16 ≠ t := by omega
          have n4 : t - 7 ≠ t := by omega
          have j1 : IntKind.i64.wrap ((t : Int) - 16) = (t : Int) - 16 := i64_in _ (by omega) (by omega)
          have j2 : IntKind.i64.wrap ((t : Int) - 7) = (t : Int) - 7 := i64_in _ (by omega) (by omega)
          go_wp2
          go_quiet (fail)
          go_wp2
          go_region_held3 (fun w' => w'.cell? ⟨w.heap.size + 1, t - 16, none⟩ = some (.int .u32 (x16.toNat : Int)) ∧ w'.cell? ⟨w.heap.size + 1, t - 7, none⟩ = some (.int .u32 (x7.toNat : Int))) (first | go_keep | (refine ⟨?_, ?_⟩ <;> (rw [World.cell?_setCell_other _ _ _ _ (by first | (simp; done) | (simp; omega))]; first | exact g3 | exact g4)))
            ((go_at_call 68; refine (turn_at _ _ _ (by decide) (by decide)).mono ?_; rintro e w' ⟨rfl, rfl⟩))
          rw [wn_form x16 x15 x7 x2]
          generalize x16 + (rr x15 7 ^^^ rr x15 18 ^^^ x15 >>> 3) + x7 + (rr x2 17 ^^^ rr x2 19 ^^^ x2 >>> 10) = y at E ⊢
          go_wp2
          refine ⟨?_, ?measure⟩
          refine ⟨_, _, _, _, _, _, _, _, _, _, _, _, _, _, _, _, _, _, _, _, _, _, _, _, _, _, _, _, _, _, _, _, _, _, _, _, _, _, _, _, _, _, _, _, ?rel, rfl⟩
          case rel =>
            refine ⟨t + 1, by omega, by omega, by go_num, ?_, ?_, ?_⟩
            · have R := (hr1.drewN (nq + 1)).set t (.int .u32 (y.toNat : Int))
              rw [map_set_U, ← E.out] at R
              exact R
            · exact (hr0.drewN (nq + 1)).setOther _ _ (by simp)
            · exact (Below_drewN hb (nq + 1)).setCell (by simp) _
          case measure => simp [intOf]; omega
        · obtain rfl : t = 64 := by omega
          clear hk hlt ht
          go_wp2_with (first | (refine wpList_load_Row rfl 86 _ rfl _ _ _ hr1 rfl _ Try.underlying86 rfl (by rw [List.length_map, ext_len]; kernel_rfl) ?_) | (refine wpList_store_Row rfl 86 _ _ rfl _ _ 0 _ _ hr0 (by simp [ext_len, fill_len]) rfl rfl (by rw [List.length_map, ext_len]; kernel_rfl) (U_one _) ?_; intro w1 hr2 hs2))
          have hr3 : Row w1 w.heap.size 86 ((sched bs).map U) := by
            have : Row w1 w.heap.size 86 ((ext bs 48).map U ++ ((fill bs 0).map U).drop ((ext bs 48).length)) := by simpa using hr2
            rwa [List.drop_eq_nil_of_le (by simp [ext_len, fill_len]), List.append_nil] at this
          exact bodyPost_ret_by (results_Row Try.results67 _ w1 w.heap.size 86 _ _ rfl hr3 Try.underlying86 rfl (by rw [List.length_map, sched_len]; kernel_rfl)) rfl ⟨rfl, hs2.below hb (Nat.le_refl _)⟩

end Go.Proofs.Ythegfkcegmeklaa
