
import Derived.Test.YthegfkcegmeklaaWords
import Derived.Test.YthegfkcegmeklaaConsts
import Derived.Deep.DeepCutAuto
namespace Go.Proofs.Ythegfkcegmeklaa
open Go.RowKit

theorem turned_quiet (x : Wd) (n : Int) (w : World) (q : Nat) (h1 : 1 ≤ n) (h2 : n ≤ 31) :
    Calls Try.prog 64 #[.int .u32 (x.toNat : Int), .int .i64 n] (w.drewN q) fun e w' => e = .returned (.int .u32 ((rr x n.toNat).toNat : Int)) ∧ ∃ m, w' = w.drewN m :=
  (turned_at x n (w.drewN q) h1 h2).mono fun _ _ ⟨he, m, hm⟩ => ⟨he, q + m, by rw [hm, World.drewN_drewN]⟩

theorem row_whole {w : World} {g t : Nat} {old new : List Value} (h : Row w g t (old.take 0 ++ new ++ old.drop (0 + new.length))) (hl : old.length ≤ new.length) : Row w g t new := by
  rw [List.take_zero, List.nil_append, List.drop_eq_nil_of_le (by omega), List.append_nil] at h
  exact h
theorem Dr.cell {w w' : World} (h : Dr w w') {a : Addr} {v : Value} (c : w.cell? a = some v) : w'.cell? a = some v := by
  obtain ⟨n, rfl⟩ := h; exact c

set_option maxHeartbeats 1000000 in
set_option maxRecDepth 100000 in
theorem piece_any (s : S8) (D o cap : Nat) (bs : List By) (w : World) (hp : ∀ j, j < 64 → w.cell? ⟨D, o + j, none⟩ = some (B8 (bs.getD j 0))) :
    Calls Try.prog 50 #[.agg (s.list.map U).toArray, .slice (some ⟨D, o, none⟩) 64 cap, .agg (Kt.map U).toArray] w fun e w' => e = .returned (.agg ((comp s bs).list.map U).toArray) ∧ Below w.heap.size w w' := by
  have hD : D < w.heap.size := block_lt_of_cell (hp 0 (by omega))
  have e0 : (s.list.map U).toArray = #[.int .u32 (s.a.toNat : Int), .int .u32 (s.b.toNat : Int), .int .u32 (s.c.toNat : Int), .int .u32 (s.d.toNat : Int), .int .u32 (s.e.toNat : Int), .int .u32 (s.f.toNat : Int), .int .u32 (s.g.toNat : Int), .int .u32 (s.h.toNat : Int)] := rfl
  obtain ⟨KK, hKK⟩ : ∃ K, K = Kt := ⟨_, rfl⟩
  have hKl : KK.length = 64 := by rw [hKK]; rfl
  rw [e0, ← hKK]
  clear e0
  have H : Hid (KK = Kt) := hKK
  clear hKK
  go_enter Try.func50, Try.ntmps50
  go_wp2_with fail
  have b0 : ∀ o1 o2 o3, Below w.heap.size w (((w.alloc o1).alloc o2).alloc o3) := fun o1 o2 o3 => (((Below.refl _ _).alloc (Nat.le_refl _) _).alloc (by simp) _).alloc (by simp; omega) _
  refine (words_any D o cap bs _ (fun j hj => ((b0 _ _ _).cell (p := ⟨D, o + j, none⟩) hD).trans (hp j hj))).mono ?_
  rintro e w1 ⟨rfl, hb1⟩
  have r0 : Row w1 w.heap.size 84 (s.list.map U) := Row.below (((Row.at w 84 (s.list.map U) _ _ rfl rfl).alloc _).alloc _) hb1 (by simp; omega)
  have rk : Row w1 (w.heap.size + 1) 86 (KK.map U) := Row.below ((Row.at (w.alloc _) 86 (KK.map U) _ _ (by simp) rfl).alloc _) hb1 (by simp)
  have rz : Row w1 (w.heap.size + 1 + 1) 84 ((List.replicate 8 (0 : Wd)).map U) := Row.below (Row.at ((w.alloc _).alloc _) 84 ((List.replicate 8 (0 : Wd)).map U) _ _ (by simp) rfl) hb1 (by simp)
  have bb : Below w.heap.size w w1 := (b0 _ _ _).trans (hb1.mono (by simp; omega))
  have hsz : w.heap.size + 1 + 1 < w1.heap.size := rz.lt
  clear hb1 b0 hp
  generalize hNN : w.heap.size = N at *
  generalize hSB : w1.heap.size = SB at *
  go_wp2_with (first | (refine wpList_store_Row rfl 86 _ _ rfl SB 86 0 ((List.replicate 64 (0 : Wd)).map U) ((sched bs).map U) (Row.at _ _ _ _ _ hSB.symm rfl) (by rw [List.length_map, sched_len, List.length_map, List.length_replicate]; decide) rfl rfl (by rw [List.length_map, sched_len]; kernel_rfl) (U_one _) ?_; intro w2 hr0 hs; have r3 := row64 (sched_len bs) hr0; have r0a : Row w2 N 84 (s.list.map U) := (r0.alloc _).but hs (by omega); have hz2 : w2.heap.size = SB + 1 := by rw [hs.size]; simp [hSB]) | (refine wpList_load_Row rfl 84 _ rfl _ _ _ r0a rfl _ Try.underlying84 rfl (by kernel_rfl) ?_) | (refine wpList_store_Row rfl 84 _ _ rfl (SB + 1) 84 0 ((List.replicate 8 (0 : Wd)).map U) (s.list.map U) (Row.at _ _ _ _ _ hz2.symm rfl) (by simp [S8.list_len]) rfl rfl (by kernel_rfl) (U_one _) ?_; intro w3 hr4 hs4))
  have rv : Row w3 (SB + 1) 84 (s.list.map U) := by simpa [S8.list_len] using hr4
  replace rk : Row w3 (N + 1) 86 (KK.map U) := (((rk.alloc _).but hs (by omega)).alloc _).but hs4 (by omega)
  replace rz : Row w3 (N + 1 + 1) 84 ((List.replicate 8 (0 : Wd)).map U) := (((rz.alloc _).but hs (by omega)).alloc _).but hs4 (by omega)
  replace r0 : Row w3 N 84 (s.list.map U) := (r0a.alloc _).but hs4 (by omega)
  replace r3 : Row w3 SB 86 ((sched bs).map U) := (r3.alloc _).but hs4 (by omega)
  replace bb : Below N w w3 := hs4.below ((hs.below (bb.alloc (by omega) _) (by omega)).alloc (by omega) _) (by omega)
  clear hr4 hs4 r0a hr0 hs hz2 hSB
  generalize hws : sched bs = ws at r3
  have hwl : ws.length = 64 := by rw [← hws, sched_len]
  have HW : Hid (sched bs = ws) := hws
  clear hws
  go_loopw [9] (fun i wr => ∃ t : Nat, t ≤ 64 ∧ i = .int .i64 t ∧ (∃ v : S8, Hid (v = rnds s KK ws t) ∧ Row wr (SB + 1) 84 (v.list.map U)) ∧ Row wr N 84 (s.list.map U) ∧ Row wr (N + 1) 86 (KK.map U) ∧ Row wr (N + 1 + 1) 84 ((List.replicate 8 (0 : Wd)).map U) ∧ Row wr SB 86 (ws.map U) ∧ Below N w wr)
    (fun i _ => 64 - (intOf i).toNat)
  case atStart => exact ⟨0, by omega, rfl, ⟨s, rfl, rv⟩, r0, rk, rz, r3, bb⟩
  case round =>
    clear r0 rk rz r3 bb rv
    obtain ⟨t, ht, rfl, ⟨v, hv, rv⟩, r0, rk, rz, r3, bb⟩ := hrel
    by_cases hlt : t < 64
    · have i1 : (0 : Int) ≤ (t : Int) := by omega
      have i2 : (t : Int) < 64 := by omega
      have x1 := r3.word t (by omega)
      have k1 := rk.word t (by omega)
      have E : Hid (rnds s KK ws (t + 1) = rnd v (KK.getD t 0) (ws.getD t 0)) := by
        rw [hv.out]; rfl
      generalize ws.getD t 0 = y at x1 E
      generalize KK.getD t 0 = kt at k1 E
      have a0 := rv.word 0 (by simp [S8.list])
      have a1 := rv.word 1 (by simp [S8.list])
      have a2 := rv.word 2 (by simp [S8.list])
      have a3 := rv.word 3 (by simp [S8.list])
      have a4 := rv.word 4 (by simp [S8.list])
      have a5 := rv.word 5 (by simp [S8.list])
      have a6 := rv.word 6 (by simp [S8.list])
      have a7 := rv.word 7 (by simp [S8.list])
      simp only [S8.list, List.getD_cons_zero, List.getD_cons_succ] at a0 a1 a2 a3 a4 a5 a6 a7
      go_wp2
      go_quiet (fail)
      go_wp2
      have hd1 : Dr wr (wr.drewN nq) := ⟨nq, rfl⟩
      generalize wr.drewN nq = wq1 at hd1 ⊢
      clear nq
      replace a0 := hd1.cell a0
      replace a1 := hd1.cell a1
      replace a2 := hd1.cell a2
      replace a3 := hd1.cell a3
      replace a4 := hd1.cell a4
      replace a5 := hd1.cell a5
      replace a6 := hd1.cell a6
      replace a7 := hd1.cell a7
      replace x1 := hd1.cell x1
      replace k1 := hd1.cell k1
      go_cut [12] (fun u w' => u = .int .u32 ((rndU v kt y).toNat : Int) ∧ Dr wr w')
      case first =>
        rename_i J K' hJ hK
        go_quiet ((go_at_call 64; exact turned_quiet _ _ _ _ (by decide) (by decide)))
        refine hK _ _ ?_
        go_meet
        case rel =>
          refine ⟨val_int ?_, hd1.drewN nq⟩
          rw [Int.emod_add_emod, rndU_form]
      case rest =>
        obtain ⟨rfl, hd2⟩ := hcut
        have E2 : Hid (rnds s KK ws (t + 1) = ⟨rndU v kt y + rndV v, v.a, v.b, v.c, v.d + rndU v kt y, v.e, v.f, v.g⟩) := E
        clear E x1 k1 a0 a1 a2 a3 a4 a5 a6 a7
        generalize rndU v kt y = uu at E2 ⊢
        go_wp2
        have a1 := hd2.cell (rv.word 1 (by simp [S8.list]))
        have a2 := hd2.cell (rv.word 2 (by simp [S8.list]))
        simp only [S8.list, List.getD_cons_zero, List.getD_cons_succ] at a1 a2
        go_cut [13] (fun u w' => u = .int .u32 ((rndV v).toNat : Int) ∧ Dr wr w')
        case first =>
          rename_i J K' hJ hK
          go_quiet ((go_at_call 64; exact turned_quiet _ _ _ _ (by decide) (by decide)))
          refine hK _ _ ?_
          go_meet
          case rel =>
            refine ⟨val_int ?_, hd2.drewN nq⟩
            rw [rndV_form]
        case rest =>
          clear a1 a2 hd2
          obtain ⟨rfl, hd3⟩ := hcut
          generalize rndV v = vv at E2 ⊢
          replace rv := rv.dr hd3
          replace r0 := r0.dr hd3
          replace rk := rk.dr hd3
          replace rz := rz.dr hd3
          replace r3 := r3.dr hd3
          replace bb := Below_dr bb hd3
          clear hd3 hd1
          have a0 := rv.word 0 (by simp [S8.list])
          have a1 := rv.word 1 (by simp [S8.list])
          have a2 := rv.word 2 (by simp [S8.list])
          have a3 := rv.word 3 (by simp [S8.list])
          have a4 := rv.word 4 (by simp [S8.list])
          have a5 := rv.word 5 (by simp [S8.list])
          have a6 := rv.word 6 (by simp [S8.list])
          simp only [S8.list, List.getD_cons_zero, List.getD_cons_succ] at a0 a1 a2 a3 a4 a5 a6
          have p1 := add_bv uu vv
          have p2 := add_bv v.d uu
          generalize uu + vv = pp at p1 E2
          generalize v.d + uu = qq at p2 E2
          go_wp2_with (refine wpList_store_Row rfl 84 _ _ rfl _ 84 0 _ ((S8.list ⟨pp, v.a, v.b, v.c, qq, v.e, v.f, v.g⟩).map U) rv (by simp [S8.list_len]) rfl rfl (by kernel_rfl) (U_one _) ?_; intro w4 hr4 hs4)
          have rv2 := row_whole hr4 (by simp [S8.list_len])
          refine ⟨⟨t + 1, by omega, by go_num, ⟨_, E2.out.symm, rv2⟩, r0.but hs4 (by omega), rk.but hs4 (by omega), rz.but hs4 (by omega), r3.but hs4 (by omega), hs4.below bb (by omega)⟩, by simp [intOf]; omega⟩
    · obtain rfl : t = 64 := by omega
      clear hlt ht r3 rk
      go_wp2
      go_loopw [14] (fun i wr => ∃ k : Nat, k ≤ 8 ∧ i = .int .i64 k ∧ Row wr N 84 ((addSet s v k).map U) ∧ Row wr (SB + 1) 84 (v.list.map U) ∧ Row wr (N + 1 + 1) 84 ((List.replicate 8 (0 : Wd)).map U) ∧ Below N w wr)
        (fun i _ => 8 - (intOf i).toNat)
      case atStart => exact ⟨0, by omega, rfl, r0, rv, rz, bb⟩
      case round =>
        clear r0 rv rz bb
        obtain ⟨k, hk, rfl, r0, rv, rz, bb⟩ := hrel
        by_cases hlt : k < 8
        · have i1 : (0 : Int) ≤ (k : Int) := by omega
          have i2 : (k : Int) < 8 := by omega
          have x1 := rv.word k (by rw [S8.list_len]; exact hlt)
          have k1 := r0.word k (by rw [addSet_len]; exact hlt)
          have k2 := r0.frozen k
          have E : Hid (addSet s v (k + 1) = (addSet s v k).set k ((addSet s v k).getD k 0 + v.list.getD k 0)) := rfl
          generalize v.list.getD k 0 = y at x1 E
          generalize (addSet s v k).getD k 0 = z at k1 E
          have p1 := wrap_add_bv z y
          have p2 := add_bv z y
          generalize z + y = zy at p1 p2 E
          go_wp2
          go_region
          all_goals go_wp2
          refine ⟨⟨k + 1, by omega, by go_num, ?_, (rv.setOther _ _ (by simp; omega)).drew, (rz.setOther _ _ (by simp; omega)).drew, (bb.setCell (Nat.le_refl _) _).drew⟩, by simp [intOf]; omega⟩
          have R := r0.set k (.int .u32 (zy.toNat : Int))
          rw [map_set_U, ← E.out] at R
          exact R.drew
        · obtain rfl : k = 8 := by omega
          clear hlt hk
          rw [addSet_all] at r0
          have e9 : s.add v = comp s bs := by rw [hv.out, ← HW.out, H.out]; rfl
          rw [e9] at r0
          clear e9 hv rv
          go_wp2_with (first | (refine wpList_load_Row rfl 84 _ rfl _ _ _ r0 rfl _ Try.underlying84 rfl (by kernel_rfl) ?_) | (refine wpList_store_Row rfl 84 _ _ rfl _ _ 0 _ _ rz (by simp [S8.list_len]) rfl rfl (by kernel_rfl) (U_one _) ?_; intro w3 hr2 hs2))
          have hr3 := row_whole hr2 (by simp [S8.list_len])
          exact bodyPost_ret_by (results_Row Try.results50 _ w3 (N + 1 + 1) 84 _ _ rfl hr3 Try.underlying84 rfl (by kernel_rfl)) rfl ⟨rfl, by rw [hNN]; exact hs2.below bb (by omega)⟩
end Go.Proofs.Ythegfkcegmeklaa
