
import Derived.Test.YthegfkcegmeklaaA
import Derived.Deep.RegionHeld3
namespace Go.Proofs.Ythegfkcegmeklaa
open Go.RowKit

theorem word_form' (a b c d : By) : bits .or .u32 (bits .or .u32 (bits .or .u32 (IntKind.u32.wrap (IntKind.u32.wrap (a.toNat : Int) * 16777216)) (IntKind.u32.wrap (IntKind.u32.wrap (b.toNat : Int) * 65536))) (IntKind.u32.wrap (IntKind.u32.wrap (c.toNat : Int) * 256))) (IntKind.u32.wrap (d.toNat : Int)) =
    ((word4 a b c d).toNat : Int) := by
  have ha := b8_lt a
  have hb := b8_lt b
  have hc := b8_lt c
  have hd := b8_lt d
  have e1 : IntKind.u32.wrap (IntKind.u32.wrap (a.toNat : Int) * 16777216) = (a.toNat : Int) * 16777216 := by simp only [IntKind.wrap_u32']; omega
  have e2 : IntKind.u32.wrap (IntKind.u32.wrap (b.toNat : Int) * 65536) = (b.toNat : Int) * 65536 := by simp only [IntKind.wrap_u32']; omega
  have e3 : IntKind.u32.wrap (IntKind.u32.wrap (c.toNat : Int) * 256) = (c.toNat : Int) * 256 := by simp only [IntKind.wrap_u32']; omega
  have e4 : IntKind.u32.wrap (d.toNat : Int) = (d.toNat : Int) := by simp only [IntKind.wrap_u32']; omega
  rw [e1, e2, e3, e4]
  exact word_form a b c d
theorem wn_form' (x16 a x7 b : Wd) : IntKind.u32.wrap (IntKind.u32.wrap (IntKind.u32.wrap ((x16.toNat : Int) + (a.toNat : Int)) + (x7.toNat : Int)) + (b.toNat : Int)) = ((x16 + a + x7 + b).toNat : Int) := by
  rw [wrap_add_bv, wrap_add_bv, wrap_add_bv]
theorem sg_form (x : Wd) (p q n : Nat) (c : Int) (hc : c = 2 ^ n) : bits .xor .u32 (bits .xor .u32 ((rr x p).toNat : Int) ((rr x q).toNat : Int)) ((x.toNat : Int) / c) = ((rr x p ^^^ rr x q ^^^ x >>> n).toNat : Int) := by
  rw [hc, shr_bv, bits_xor_bv, bits_xor_bv]

set_option maxHeartbeats 1000000 in
set_option maxRecDepth 100000 in
theorem words_any (D o cap : Nat) (bs : List By) (w : World) (hp : ∀ j, j < 64 → w.cell? ⟨D, o + j, none⟩ = some (B8 (bs.getD j 0))) :
    Calls Try.prog 63 #[.slice (some ⟨D, o, none⟩) 64 cap] w fun e w' => e = .returned (.agg ((sched bs).map U).toArray) ∧ Below w.heap.size w w' := by
  have hD : D < w.heap.size := block_lt_of_cell (hp 0 (by omega))
  go_enter Try.func63, Try.ntmps63
  go_wp2_with (refine wpList_store_Row rfl 86 _ _ rfl (w.heap.size + 1) 86 0 ((fill bs 0).map U) ((fill bs 0).map U) (Row.at _ _ _ _ _ (by simp) rfl) (by simp [fill_len]) rfl rfl (by rw [List.length_map, fill_len]; kernel_rfl) (U_one _) ?_; intro w1 hr0 hs1)
  have r1 : Row w1 (w.heap.size + 1) 86 ((fill bs 0).map U) := by
    rw [List.take_zero, List.nil_append, List.drop_eq_nil_of_le (by simp), List.append_nil] at hr0; exact hr0
  have r0 : Row w1 w.heap.size 86 ((fill bs 0).map U) := ((Row.at w 86 ((fill bs 0).map U) _ _ rfl rfl).alloc _).but hs1 (by omega)
  have bb : Below w.heap.size w w1 := hs1.below (((Below.refl _ _).alloc (Nat.le_refl _) _).alloc (by simp) _) (by omega)
  clear hr0 hs1
  go_loopw [4] (fun i wr => ∃ k : Nat, k ≤ 16 ∧ i = .int .i64 k ∧ Row wr (w.heap.size + 1) 86 ((fill bs k).map U) ∧ Row wr w.heap.size 86 ((fill bs 0).map U) ∧ Below w.heap.size w wr)
    (fun i _ => 16 - (intOf i).toNat)
  case atStart => exact ⟨0, by omega, rfl, r1, r0, bb⟩
  case round =>
    clear r1 r0 bb
    obtain ⟨k, hk, rfl, hr1, hr0, hb⟩ := hrel
    by_cases hlt : k < 16
    · have c0 : wr.cell? ⟨D, o + 4 * k, none⟩ = some (.int .u8 ((bs.getD (4 * k) 0).toNat : Int)) := (hb.cell (p := ⟨D, o + 4 * k, none⟩) hD).trans (hp (4 * k) (by omega))
      have c1 : wr.cell? ⟨D, o + (4 * k + 1), none⟩ = some (.int .u8 ((bs.getD (4 * k + 1) 0).toNat : Int)) := (hb.cell (p := ⟨D, o + (4 * k + 1), none⟩) hD).trans (hp (4 * k + 1) (by omega))
      have c2 : wr.cell? ⟨D, o + (4 * k + 2), none⟩ = some (.int .u8 ((bs.getD (4 * k + 2) 0).toNat : Int)) := (hb.cell (p := ⟨D, o + (4 * k + 2), none⟩) hD).trans (hp (4 * k + 2) (by omega))
      have c3 : wr.cell? ⟨D, o + (4 * k + 3), none⟩ = some (.int .u8 ((bs.getD (4 * k + 3) 0).toNat : Int)) := (hb.cell (p := ⟨D, o + (4 * k + 3), none⟩) hD).trans (hp (4 * k + 3) (by omega))
      have E : Hid (wordOf bs k = word4 (bs.getD (4 * k) 0) (bs.getD (4 * k + 1) 0) (bs.getD (4 * k + 2) 0) (bs.getD (4 * k + 3) 0)) := rfl
      generalize bs.getD (4 * k) 0 = x0 at c0 E
      generalize bs.getD (4 * k + 1) 0 = x1 at c1 E
      generalize bs.getD (4 * k + 2) 0 = x2 at c2 E
      generalize bs.getD (4 * k + 3) 0 = x3 at c3 E
      have b0 := b8_lt x0
      have b1 := b8_lt x1
      have b2 := b8_lt x2
      have b3 := b8_lt x3
      have q0 : (0 : Int) ≤ 4 * (k : Int) := by omega
      have q1 : 4 * (k : Int) < 64 := by omega
      have q2 : (0 : Int) ≤ 4 * (k : Int) + 1 := by omega
      have q3 : 4 * (k : Int) + 1 < 64 := by omega
      have q4 : (0 : Int) ≤ 4 * (k : Int) + 2 := by omega
      have q5 : 4 * (k : Int) + 2 < 64 := by omega
      have q6 : (0 : Int) ≤ 4 * (k : Int) + 3 := by omega
      have q7 : 4 * (k : Int) + 3 < 64 := by omega
      have t0 : (4 * (k : Int)).toNat = 4 * k := by omega
      have t1 : (4 * (k : Int) + 1).toNat = 4 * k + 1 := by omega
      have t2 : (4 * (k : Int) + 2).toNat = 4 * k + 2 := by omega
      have t3 : (4 * (k : Int) + 3).toNat = 4 * k + 3 := by omega
      have j0 : IntKind.i64.wrap (4 * (k : Int)) = 4 * (k : Int) := i64_in _ (by omega) (by omega)
      have j1 : IntKind.i64.wrap (4 * (k : Int) + 1) = 4 * (k : Int) + 1 := i64_in _ (by omega) (by omega)
      have j2 : IntKind.i64.wrap (4 * (k : Int) + 2) = 4 * (k : Int) + 2 := i64_in _ (by omega) (by omega)
      have j3 : IntKind.i64.wrap (4 * (k : Int) + 3) = 4 * (k : Int) + 3 := i64_in _ (by omega) (by omega)
      have i1 : (0 : Int) ≤ (k : Int) := by omega
      have i2 : (k : Int) < 64 := by omega
      have s1 := hr1.word k (by rw [fill_len]; omega)
      have s2 := hr1.frozen k
      have n1 : w.heap.size + 1 ≠ D := by omega
      go_wp2
      go_region_held3 (fun w' => w'.cell? ⟨D, o + 4 * k, none⟩ = some (.int .u8 (x0.toNat : Int)) ∧ w'.cell? ⟨D, o + (4 * k + 1), none⟩ = some (.int .u8 (x1.toNat : Int)) ∧ w'.cell? ⟨D, o + (4 * k + 2), none⟩ = some (.int .u8 (x2.toNat : Int)) ∧ w'.cell? ⟨D, o + (4 * k + 3), none⟩ = some (.int .u8 (x3.toNat : Int)))
        (first | go_keep | (refine ⟨?_, ?_, ?_, ?_⟩ <;> (rw [World.cell?_setCell_other _ _ _ _ (by simp; omega)]; first | exact c0 | exact c1 | exact c2 | exact c3))) (fail)
      rw [word_form' x0 x1 x2 x3, ← E.out]
      clear E
      have E : Hid (fill bs (k + 1) = (fill bs k).set k (wordOf bs k)) := rfl
      generalize wordOf bs k = y at E ⊢
      go_wp2
      refine ⟨⟨k + 1, by omega, by go_num, ?_, ?_, ?_⟩, by simp [intOf]; omega⟩
      · have R := hr1.set k (.int .u32 (y.toNat : Int))
        rw [map_set_U, ← E.out] at R
        exact R.drew
      · exact (hr0.setOther _ _ (by simp)).drew
      · exact (hb.setCell (by simp) _).drew
    · obtain rfl : k = 16 := by omega
      clear hk hlt
      go_wp2
      go_loopw [5] (fun i wr => ∃ t : Nat, 16 ≤ t ∧ t ≤ 64 ∧ i = .int .i64 (t : Int) ∧ Row wr (w.heap.size + 1) 86 ((ext bs (t - 16)).map U) ∧ Row wr w.heap.size 86 ((fill bs 0).map U) ∧ Below w.heap.size w wr)
        (fun i _ => 64 - (intOf i).toNat)
      case atStart => exact ⟨16, by omega, by omega, rfl, hr1, hr0, hb⟩
      case round =>
        clear hr1 hr0 hb
        obtain ⟨t, ht, hk, rfl, hr1, hr0, hb⟩ := hrel
        by_cases hlt : t < 64
        · have hl := ext_len bs (t - 16)
          obtain ⟨x15, e15⟩ : ∃ x, x = (ext bs (t - 16)).getD (t - 15) 0 := ⟨_, rfl⟩
          obtain ⟨x2, e2⟩ : ∃ x, x = (ext bs (t - 16)).getD (t - 2) 0 := ⟨_, rfl⟩
          obtain ⟨x16, e16⟩ : ∃ x, x = (ext bs (t - 16)).getD (t - 16) 0 := ⟨_, rfl⟩
          obtain ⟨x7, e7⟩ : ∃ x, x = (ext bs (t - 16)).getD (t - 7) 0 := ⟨_, rfl⟩
          have g1 := hr1.word (t - 15) (by omega)
          have g2 := hr1.word (t - 2) (by omega)
          have g3 := hr1.word (t - 16) (by omega)
          have g4 := hr1.word (t - 7) (by omega)
          have s1 := hr1.word t (by omega)
          have s2 := hr1.frozen t
          rw [← e15] at g1
          rw [← e2] at g2
          rw [← e16] at g3
          rw [← e7] at g4
          have E : Hid (ext bs (t + 1 - 16) = (ext bs (t - 16)).set t (x16 + (rr x15 7 ^^^ rr x15 18 ^^^ x15 >>> 3) + x7 + (rr x2 17 ^^^ rr x2 19 ^^^ x2 >>> 10))) := by
            show _ = _
            rw [show t + 1 - 16 = (t - 16) + 1 by omega, ext, e15, e2, e16, e7, show 16 + (t - 16) = t by omega]
            rfl
          clear e15 e2 e16 e7 hl
          have i1 : (0 : Int) ≤ (t : Int) - 15 := by omega
          have i2 : (t : Int) - 15 < 64 := by omega
          have i3 : (0 : Int) ≤ (t : Int) - 2 := by omega
          have i4 : (t : Int) - 2 < 64 := by omega
          have i5 : (0 : Int) ≤ (t : Int) - 16 := by omega
          have i6 : (t : Int) - 16 < 64 := by omega
          have i7 : (0 : Int) ≤ (t : Int) - 7 := by omega
          have i8 : (t : Int) - 7 < 64 := by omega
          have i9 : (16 : Int) ≤ (t : Int) := by omega
          have i10 : (7 : Int) ≤ (t : Int) := by omega
          have i11 : ((t : Int) - 16).toNat = t - 16 := by omega
          have i12 : ((t : Int) - 7).toNat = t - 7 := by omega
          have i13 : (t : Int) < 80 := by omega
          have i14 : (t : Int) < 71 := by omega
          have n1 : t ≠ t - 16 := by omega
          have n2 : t ≠ t - 7 := by omega
          have n3 : t - 16 ≠ t := by omega
          have n4 : t - 7 ≠ t := by omega
          have j1 : IntKind.i64.wrap ((t : Int) - 16) = (t : Int) - 16 := i64_in _ (by omega) (by omega)
          have j2 : IntKind.i64.wrap ((t : Int) - 7) = (t : Int) - 7 := i64_in _ (by omega) (by omega)
          go_wp2
          go_quiet (fail)
          go_wp2_with (go_at_call 64; refine (turned_at _ _ _ (by decide) (by decide)).mono ?_; rintro e w' ⟨rfl, m, rfl⟩)
          go_region_held3 (fun w' => w'.cell? ⟨w.heap.size + 1, t - 16, none⟩ = some (.int .u32 (x16.toNat : Int)) ∧ w'.cell? ⟨w.heap.size + 1, t - 7, none⟩ = some (.int .u32 (x7.toNat : Int)))
            (first | go_keep | (refine ⟨?_, ?_⟩ <;> (rw [World.cell?_setCell_other _ _ _ _ (by first | (simp; done) | (simp; omega))]; first | exact g3 | exact g4))) (fail)
          rw [sg_form x15 7 18 3 8 (by decide), sg_form x2 17 19 10 1024 (by decide), wn_form']
          generalize x16 + (rr x15 7 ^^^ rr x15 18 ^^^ x15 >>> 3) + x7 + (rr x2 17 ^^^ rr x2 19 ^^^ x2 >>> 10) = y at E ⊢
          go_wp2
          refine ⟨?_, ?measure⟩
          refine ⟨_, _, _, _, _, _, _, _, _, _, _, _, _, _, _, _, _, _, _, _, _, _, _, _, _, _, _, _, _, _, _, _, _, _, _, _, _, _, _, _, _, _, _, _, _, _, ?rel, rfl⟩
          case rel =>
            refine ⟨t + 1, by omega, by omega, by go_num, ?_, ?_, ?_⟩
            · have R := fun q => (hr1.drewN q).set t (.int .u32 (y.toNat : Int))
              simp only [map_set_U, ← E.out] at R
              exact R _
            · exact Row.setOther (hr0.drewN _) _ _ (by simp)
            · exact (Below_drewN hb _).setCell (by simp) _
          case measure => simp [intOf]; omega
        · obtain rfl : t = 64 := by omega
          clear hk hlt ht
          go_wp2_with (first | (refine wpList_load_Row rfl 86 _ rfl _ _ _ hr1 rfl _ Try.underlying86 rfl (by rw [List.length_map, ext_len]; kernel_rfl) ?_) | (refine wpList_store_Row rfl 86 _ _ rfl _ _ 0 _ _ hr0 (by simp [ext_len, fill_len]) rfl rfl (by rw [List.length_map, ext_len]; kernel_rfl) (U_one _) ?_; intro w1 hr2 hs2))
          have hr3 : Row w1 w.heap.size 86 ((sched bs).map U) := by
            have : Row w1 w.heap.size 86 ((ext bs 48).map U ++ ((fill bs 0).map U).drop ((ext bs 48).length)) := by simpa using hr2
            rwa [List.drop_eq_nil_of_le (by simp [ext_len, fill_len]), List.append_nil] at this
          exact bodyPost_ret_by (results_Row Try.results63 _ w1 w.heap.size 86 _ _ rfl hr3 Try.underlying86 rfl (by rw [List.length_map, sched_len]; kernel_rfl)) rfl ⟨rfl, hs2.below hb (Nat.le_refl _)⟩

end Go.Proofs.Ythegfkcegmeklaa
