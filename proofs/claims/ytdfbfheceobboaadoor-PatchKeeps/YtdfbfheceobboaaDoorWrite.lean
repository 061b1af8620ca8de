
import Derived.Test.YtdfbfheceobboaaDoorDig
namespace Go.Proofs.YtdfbfheceobboaaDoor
open Go.RowKit

theorem list_lit (s : S8) : (s.list.map U).toArray = #[.int .u32 (s.a.toNat : Int), .int .u32 (s.b.toNat : Int), .int .u32 (s.c.toNat : Int), .int .u32 (s.d.toNat : Int), .int .u32 (s.e.toNat : Int), .int .u32 (s.f.toNat : Int), .int .u32 (s.g.toNat : Int), .int .u32 (s.h.toNat : Int)] := rfl
theorem compress_lit (s : S8) (D o KB : Nat) (bs : List By) (w : World) (hp : ∀ j, j < 64 → w.cell? ⟨D, o + j, none⟩ = some (B8 (bs.getD j 0))) (hk : Row w KB 93 (Kt.map U)) :
    Calls Tryd.prog 35 #[.agg #[.int .u32 (s.a.toNat : Int), .int .u32 (s.b.toNat : Int), .int .u32 (s.c.toNat : Int), .int .u32 (s.d.toNat : Int), .int .u32 (s.e.toNat : Int), .int .u32 (s.f.toNat : Int), .int .u32 (s.g.toNat : Int), .int .u32 (s.h.toNat : Int)], .pointer (some ⟨D, o, none⟩), .pointer (some ⟨KB, 0, none⟩)] w fun e w' => ∃ s' : S8, Hid (comp s bs = s') ∧ e = .returned (.agg #[.int .u32 (s'.a.toNat : Int), .int .u32 (s'.b.toNat : Int), .int .u32 (s'.c.toNat : Int), .int .u32 (s'.d.toNat : Int), .int .u32 (s'.e.toNat : Int), .int .u32 (s'.f.toNat : Int), .int .u32 (s'.g.toNat : Int), .int .u32 (s'.h.toNat : Int)]) ∧ Below w.heap.size w w' := by
  have h := compress_any s D o KB bs w hp hk
  rw [list_lit s] at h
  refine h.mono ?_
  rintro e w' ⟨he, hb⟩
  exact ⟨comp s bs, rfl, he, hb⟩
theorem digCells_word (s : S8) (p : List By) (n j : Nat) (hj : j < 8) : (digCells s p n)[j]? = some (.int .u32 ((s.list.getD j 0).toNat : Int)) := by
  unfold digCells
  rw [List.getElem?_append_left (by simp [S8.list_len]; omega)]
  rw [List.getElem?_map, List.getD_eq_getElem?_getD, List.getElem?_eq_getElem (by rw [S8.list_len]; exact hj)]; rfl
theorem digX_word (s : S8) (p : List By) (n j : Nat) (post : List Value) (hp : p.length = 64) (hj : j < 8) : (digCells s p n ++ post)[j]? = some (.int .u32 ((s.list.getD j 0).toNat : Int)) := by
  rw [List.getElem?_append_left (by rw [digCells_len _ _ _ hp]; omega)]; exact digCells_word s p n j hj
theorem digX_set8 (s s' : S8) (p : List By) (n : Nat) (post : List Value) : ((((((((digCells s p n ++ post).set 0 (.int .u32 (s'.a.toNat : Int))).set 1 (.int .u32 (s'.b.toNat : Int))).set 2 (.int .u32 (s'.c.toNat : Int))).set 3 (.int .u32 (s'.d.toNat : Int))).set 4 (.int .u32 (s'.e.toNat : Int))).set 5 (.int .u32 (s'.f.toNat : Int))).set 6 (.int .u32 (s'.g.toNat : Int))).set 7 (.int .u32 (s'.h.toNat : Int)) = digCells s' p n ++ post := rfl
theorem dig_of_full {w : World} {D T L' : Nat} {post : List Value} {N p' : List By} {s' : S8} (r : Row w D T (digCells s' p' L' ++ post)) (hl : N.length = L') (hp : p'.length = 64) (h0 : N.length % 64 = 0) (hh : hs N (N.length / 64) = s') : DigT w D T post N := by
  refine ⟨p', hp, ?_, ?_⟩
  · rw [h0, List.take_zero, List.drop_eq_nil_of_le (by omega)]
  · rw [hh, hl]; exact r
theorem dig_of_less {w : World} {D T L' : Nat} {post : List Value} {N p' : List By} {s' : S8} (r : Row w D T (digCells s' p' L' ++ post)) (hl : N.length = L') (hp : p'.length = 64) (h0 : p'.take (N.length % 64) = N.drop (64 * (N.length / 64))) (hh : hs N (N.length / 64) = s') : DigT w D T post N := by
  refine ⟨p', hp, h0, ?_⟩
  rw [hh, hl]; exact r

set_option maxHeartbeats 1000000 in
set_option maxRecDepth 100000 in
theorem write_at (D T : Nat) (post : List Value) (m : List By) (ao : Option Addr) (cap : Nat) (bs : List By) (w : World) (hd : DigT w D T post m) (hb : IsBn D w ao bs) (hcap : bs.length ≤ cap) (hl : m.length + bs.length < 1152921504606846976) (hbl : bs.length ≤ 140737488355328) :
    Calls Tryd.prog 24 #[.pointer (some ⟨D, 0, none⟩), .slice ao bs.length cap] w fun e w' => e = .returned (.tuple #[]) ∧ DigT w' D T post (m ++ bs) ∧ Kept D w w' := by
  have hD : D < w.heap.size := by obtain ⟨p, _, _, r⟩ := hd; exact r.lt
  have hlen : Hid (m.length + bs.length < 1152921504606846976) := hl
  obtain ⟨KK, hKK⟩ : ∃ K, K = Kt := ⟨_, rfl⟩
  have hKl : KK.length = 64 := by rw [hKK]; rfl
  have HK : Hid (KK = Kt) := hKK
  clear hl
  go_enter Tryd.func24, Tryd.ntmps24
  go_wp2_with fail
  refine (roundWords_any _).mono ?_
  rintro e w1 ⟨rfl, hb1⟩
  rw [← hKK]
  clear hKK
  obtain ⟨p, hp1, hp2, hp3⟩ := hd
  replace hp3 := hp3.below hb1 hD
  replace hb : IsBn D w1 ao bs := hb.keep (fun B hB _ => hb1.block B hB)
  have kp : Kept D w w1 := (Kept.refl D w).below hb1
  have hsz := kp.size
  clear hb1
  generalize hKB : w1.heap.size = KB at *
  go_wp2_with (refine wpList_store_Row rfl 93 _ _ rfl KB 93 0 ((List.replicate 64 (0 : Wd)).map U) (KK.map U) (Row.at _ _ _ _ _ hKB.symm rfl) (by rw [List.length_map, hKl, List.length_map, List.length_replicate]; decide) rfl rfl (by rw [List.length_map, hKl]; kernel_rfl) (U_one _) ?_; intro w2 hr2 hs2)
  have rk := row64 hKl hr2
  replace hp3 := (hp3.alloc _).but hs2 (by omega)
  replace hb : IsBn D w2 ao bs := hb.keep (fun B hB _ => (hs2.block B (by omega)).trans (Below.heap_alloc w1 _ B hB))
  replace kp : Kept D w w2 := kp.trans ⟨hs2.os, hs2.tape, hs2.output, by rw [hs2.size]; simp, fun k hk _ => (hs2.block k (by omega)).trans (Below.heap_alloc w1 _ k hk)⟩
  clear hr2 hs2 hKB
  dsimp only [Act.put]
  go_loopw [1] (fun b wr => ∃ (M rs : List By) (ao' : Option Addr) (q cap' : Nat), Hid (M ++ rs = m ++ bs) ∧ Hid (q = rs.length) ∧ b = .slice ao' q cap' ∧ q ≤ cap' ∧ IsBn D wr ao' rs ∧ DigT wr D T post M ∧ Row wr KB 93 (KK.map U) ∧ Kept D w wr)
    (fun b _ => slen b)
  case atStart => exact ⟨m, bs, ao, bs.length, cap, rfl, rfl, rfl, hcap, hb, ⟨p, hp1, hp2, hp3⟩, rk, kp⟩
  case round =>
    clear hb hp1 hp2 hp3 rk kp
    obtain ⟨M, rs, ao', q, cap', hM, hq, rfl, hqc, hb, ⟨p, hp1, hp2, hp3⟩, rk, kp⟩ := hrel
    by_cases hpos : 0 < q
    · have h0 : (0 : Int) < (q : Int) := by omega
      rcases hb with hnil | ⟨B, off, rfl, hc⟩
      · rw [hnil] at hq; have := hq.out; simp at this; omega
      have hrl := hq.out
      have hh64 : M.length % 64 < 64 := by omega
      obtain ⟨t, ht⟩ : ∃ t, t = Nat.min q (64 - M.length % 64) := ⟨_, rfl⟩
      have ht0 : 0 < t ∧ t ≤ q ∧ M.length % 64 + t ≤ 64 ∧ (M.length % 64 + t < 64 → t = q) := by
        have : Nat.min q (64 - M.length % 64) = min q (64 - M.length % 64) := rfl
        omega
      obtain ⟨X, hX⟩ : ∃ X, X = rs.take t := ⟨_, rfl⟩
      have hXl : X.length = t := by rw [hX, List.length_take]; omega
      have hbnd : M.length + t < 1152921504606846976 := by
        have h1 := hlen.out
        have h2 := congrArg List.length hM.out
        simp only [List.length_append] at h2
        omega
      have hsrc : ∀ j v, X[j]? = some v → wr.cell? ⟨B, off + j, none⟩ = some (B8 v) := by
        intro j v hj
        rw [hX, List.getElem?_take] at hj
        split at hj
        · exact (hc j v hj).2
        · cases hj
      have hBD : B ≠ D := (hc 0 (rs[0]'(by omega)) (List.getElem?_eq_getElem (by omega))).1
      have j1 : IntKind.u64.wrap ((M.length : Int) + (t : Int)) = ((M.length + t : Nat) : Int) := by rw [IntKind.wrap_u64]; omega
      have c72 := hp3.cell 72 _ (digX_count _ p M.length post hp1)
      have hpart := fun n => digX_part (hs M (M.length / 64)) p X n (M.length % 64) t post hp1 hXl ht0.2.2.1
      have hls := dig_less M X p hp1 hp2
      have hfl := dig_full M X p hp1 hp2
      rw [hXl] at hls hfl
      have hM2 : Hid ((M ++ X) ++ rs.drop t = m ++ bs) := by
        show _ = _
        rw [List.append_assoc, hX, List.take_append_drop]; exact hM.out
      have hlM : Hid ((M ++ X).length = M.length + t) := by show _ = _; rw [List.length_append, hXl]
      generalize hs M (M.length / 64) = s at *
      have hpl : (p.take (M.length % 64) ++ X ++ p.drop (M.length % 64 + t)).length = 64 := by simp; omega
      generalize p.take (M.length % 64) ++ X ++ p.drop (M.length % 64 + t) = p' at *
      have HP := hpart
      clear hpart hp2
      have Hls : Hid (M.length % 64 + t < 64 → List.length p' = 64 ∧ List.take ((M ++ X).length % 64) p' = List.drop (64 * ((M ++ X).length / 64)) (M ++ X) ∧ YtdfbfheceobboaaDoor.hs (M ++ X) ((M ++ X).length / 64) = s) := hls
      have Hfl : Hid (M.length % 64 + t = 64 → List.length p' = 64 ∧ (M ++ X).length % 64 = 0 ∧ (M ++ X).length / 64 = M.length / 64 + 1 ∧ YtdfbfheceobboaaDoor.hs (M ++ X) ((M ++ X).length / 64) = comp s p') := hfl
      clear hls hfl
      have e1 : (M.length : Int) % 64 = ((M.length % 64 : Nat) : Int) := by omega
      generalize hL : M.length = L at *
      generalize L % 64 = h at *
      generalize hL' : L + t = L' at *
      have HT : Hid (t = Nat.min q (64 - h)) := ht
      have HX : Hid (X = rs.take t) := hX
      have HXl : Hid (X.length = t) := hXl
      have HPP : Hid (∀ n, List.take (8 + h) (digCells s p n ++ post) ++ List.map B8 X ++ List.drop (8 + h + (List.map B8 X).length) (digCells s p n ++ post) = digCells s p' n ++ post) := HP
      have HSR : Hid (∀ j v, X[j]? = some v → wr.cell? ⟨B, off + j, none⟩ = some (B8 v)) := hsrc
      have HC : Hid (∀ j v, rs[j]? = some v → B ≠ D ∧ wr.cell? ⟨B, off + j, none⟩ = some (B8 v)) := hc
      obtain ⟨ht1, ht2, ht3, ht4⟩ := ht0
      have HT4 : Hid (h + t < 64 → t = q) := ht4
      have i1 : (0 : Int) ≤ (h : Int) := by omega
      have i2 : (h : Int) ≤ 64 := by omega
      have i3 : ¬ 64 = h := by omega
      have i4 : (0 : Int) ≤ (t : Int) := by omega
      have i5 : (t : Int) ≤ (q : Int) := by omega
      have i6 : (t : Int) ≤ (cap' : Int) := by omega
      have i7 : (t : Int) ≤ 64 := by omega
      clear hrl hL hL' hbnd ht hX hXl HP hsrc hc ht4
      have hI1 : cap' = t → IsBn D wr (some ⟨B, off, none⟩) (rs.drop t) := by
        intro e
        have : rs.drop t = [] := List.drop_eq_nil_of_le (by have := hq.out; omega)
        rw [this]
        exact .inr ⟨B, off, rfl, fun j v hj => by simp at hj⟩
      have hI2 : IsBn D wr (some ⟨B, off + t, none⟩) (rs.drop t) := by
        refine .inr ⟨B, off + t, rfl, fun j v hj => ?_⟩
        rw [List.getElem?_drop] at hj
        have := HC.out (t + j) v hj
        rwa [← Nat.add_assoc] at this
      have hqd : Hid (q - t = (rs.drop t).length) := by show _ = _; rw [List.length_drop, ← hq.out]
      by_cases hct : cap' = t
      all_goals
        have hIs : IsBn D wr (if cap' = t then some ⟨B, off, none⟩ else some ⟨B, off + t, none⟩) (rs.drop t) := by
          by_cases hc1 : cap' = t
          · rw [if_pos hc1]; exact hI1 hc1
          · rw [if_neg hc1]; exact hI2
        clear hI1 hI2
        by_cases hfull : h + t = 64
        · have tst : (((h : Int) + (t : Int)) == 64) = true := by rw [beq_iff_eq]; omega
          go_wp2_with (refine wpList_copy_Row rfl _ _ rfl D (8 + h) (64 - h) (64 - h) B off q cap' rfl rfl T (digCells s p L ++ post) hp3 X t HXl.out HT.out HSR.out (by rw [List.length_append, digCells_len _ _ _ hp1]; omega) ?_; intro w3 hr3 hs3; rw [HPP.out L] at hr3; have c3 := hr3.cell 72 _ (digX_count _ p' L post hpl); have f3 := hr3.frozen 72)
          have r4 := hr3.set 72 (.int .u64 (L' : Int))
          rw [digX_setCount s p' L L' post hpl] at r4
          have k4 := ((Kept.refl D wr).but hs3).but (SameBut.setCell D 72 (.int .u64 (L' : Int)) w3)
          generalize w3.setCell ⟨D, 72, none⟩ (.int .u64 (L' : Int)) = w4 at r4 k4 ⊢
          clear c3 f3 hr3 hs3 c72
          have rk4 := rk.kept k4 (by omega)
          have rk5 : Row w4 KB 93 (Kt.map U) := by rw [← HK.out]; exact rk4
          have a0 := r4.cell 0 _ (digX_word s p' L' 0 post hpl (by omega))
          have a1 := r4.cell 1 _ (digX_word s p' L' 1 post hpl (by omega))
          have a2 := r4.cell 2 _ (digX_word s p' L' 2 post hpl (by omega))
          have a3 := r4.cell 3 _ (digX_word s p' L' 3 post hpl (by omega))
          have a4 := r4.cell 4 _ (digX_word s p' L' 4 post hpl (by omega))
          have a5 := r4.cell 5 _ (digX_word s p' L' 5 post hpl (by omega))
          have a6 := r4.cell 6 _ (digX_word s p' L' 6 post hpl (by omega))
          have a7 := r4.cell 7 _ (digX_word s p' L' 7 post hpl (by omega))
          simp only [S8.list, List.getD_cons_zero, List.getD_cons_succ] at a0 a1 a2 a3 a4 a5 a6 a7
          go_region_with
            ((go_at_call 35; refine (compress_lit s D 8 KB p' _ (fun j hj => r4.drew.cell (8 + j) _ (digX_byte s p' L' j post hpl hj)) rk5.drew).mono ?_; rintro e w5 ⟨s', HS, rfl, hb5⟩; have r5 := r4.drew.below hb5 r4.lt; have d0 := r5.cell 0 _ (digX_word s p' L' 0 post hpl (by omega)); have g0 := r5.frozen 0; have d1 := r5.cell 1 _ (digX_word s p' L' 1 post hpl (by omega)); have g1 := r5.frozen 1; have d2 := r5.cell 2 _ (digX_word s p' L' 2 post hpl (by omega)); have g2 := r5.frozen 2; have d3 := r5.cell 3 _ (digX_word s p' L' 3 post hpl (by omega)); have g3 := r5.frozen 3; have d4 := r5.cell 4 _ (digX_word s p' L' 4 post hpl (by omega)); have g4 := r5.frozen 4; have d5 := r5.cell 5 _ (digX_word s p' L' 5 post hpl (by omega)); have g5 := r5.frozen 5; have d6 := r5.cell 6 _ (digX_word s p' L' 6 post hpl (by omega)); have g6 := r5.frozen 6; have d7 := r5.cell 7 _ (digX_word s p' L' 7 post hpl (by omega)); have g7 := r5.frozen 7))
          have r6 := ((((((((r5).set 0 (.int .u32 (s'.a.toNat : Int))).set 1 (.int .u32 (s'.b.toNat : Int))).set 2 (.int .u32 (s'.c.toNat : Int))).set 3 (.int .u32 (s'.d.toNat : Int))).set 4 (.int .u32 (s'.e.toNat : Int))).set 5 (.int .u32 (s'.f.toNat : Int))).set 6 (.int .u32 (s'.g.toNat : Int))).set 7 (.int .u32 (s'.h.toNat : Int))
          rw [digX_set8] at r6
          have k6 := ((((((((((k4.dr ⟨1, rfl⟩ : Kept D wr w4.drew).below hb5)).but (SameBut.setCell D 0 (.int .u32 (s'.a.toNat : Int)) _)).but (SameBut.setCell D 1 (.int .u32 (s'.b.toNat : Int)) _)).but (SameBut.setCell D 2 (.int .u32 (s'.c.toNat : Int)) _)).but (SameBut.setCell D 3 (.int .u32 (s'.d.toNat : Int)) _)).but (SameBut.setCell D 4 (.int .u32 (s'.e.toNat : Int)) _)).but (SameBut.setCell D 5 (.int .u32 (s'.f.toNat : Int)) _)).but (SameBut.setCell D 6 (.int .u32 (s'.g.toNat : Int)) _)).but (SameBut.setCell D 7 (.int .u32 (s'.h.toNat : Int)) _)
          generalize ((((((((w5).setCell ⟨D, 0, none⟩ (.int .u32 (s'.a.toNat : Int))).setCell ⟨D, 1, none⟩ (.int .u32 (s'.b.toNat : Int))).setCell ⟨D, 2, none⟩ (.int .u32 (s'.c.toNat : Int))).setCell ⟨D, 3, none⟩ (.int .u32 (s'.d.toNat : Int))).setCell ⟨D, 4, none⟩ (.int .u32 (s'.e.toNat : Int))).setCell ⟨D, 5, none⟩ (.int .u32 (s'.f.toNat : Int))).setCell ⟨D, 6, none⟩ (.int .u32 (s'.g.toNat : Int))).setCell ⟨D, 7, none⟩ (.int .u32 (s'.h.toNat : Int)) = w6 at r6 k6 ⊢
          have dg : DigT w6 D T post (M ++ X) := by
            obtain ⟨f1, f2, f3, f4⟩ := Hfl.out hfull
            exact dig_of_full r6 hlM.out f1 f2 (f4.trans HS.out)
          have rk6 := rk.kept k6 (by omega)
          have hIs6 := hIs.keep (w' := w6) (fun B hB hne => k6.block B hB hne)
          have kp6 := kp.trans k6
          clear a0 d0 g0 a1 d1 g1 a2 d2 g2 a3 d3 g3 a4 d4 g4 a5 d5 g5 a6 d6 g6 a7 d7 g7 hb5 r5 k4 r4 rk4 rk5 HS
          go_wp2
          refine ⟨⟨M ++ X, rs.drop t, _, q - t, _, hM2, hqd, rfl, by omega, ?_, dg, rk6, kp6⟩, by simp [slen]; omega⟩
          simpa [hct] using hIs6
        · have tst : (((h : Int) + (t : Int)) == 64) = false := by rw [beq_eq_false_iff_ne]; omega
          go_wp2_with (refine wpList_copy_Row rfl _ _ rfl D (8 + h) (64 - h) (64 - h) B off q cap' rfl rfl T (digCells s p L ++ post) hp3 X t HXl.out HT.out HSR.out (by rw [List.length_append, digCells_len _ _ _ hp1]; omega) ?_; intro w3 hr3 hs3; rw [HPP.out L] at hr3; have c3 := hr3.cell 72 _ (digX_count _ p' L post hpl); have f3 := hr3.frozen 72)
          have r4 := hr3.set 72 (.int .u64 (L' : Int))
          rw [digX_setCount s p' L L' post hpl] at r4
          have k6 := ((Kept.refl D wr).but hs3).but (SameBut.setCell D 72 (.int .u64 (L' : Int)) w3)
          generalize w3.setCell ⟨D, 72, none⟩ (.int .u64 (L' : Int)) = w6 at r4 k6 ⊢
          have dg : DigT w6 D T post (M ++ X) := by
            obtain ⟨f1, f2, f3⟩ := Hls.out (by omega)
            exact dig_of_less r4 hlM.out f1 f2 f3
          have rk6 := rk.kept k6 (by omega)
          have hIs6 := hIs.keep (w' := w6) (fun B hB hne => k6.block B hB hne)
          have kp6 := kp.trans k6
          refine ⟨⟨M ++ X, rs.drop t, _, q - t, _, hM2, hqd, rfl, by omega, ?_, dg, rk6, kp6⟩, by simp [slen]; omega⟩
          simpa [hct] using hIs6
    · obtain rfl : q = 0 := by omega
      go_wp2
      go_end0
      have hr0 : rs = [] := List.eq_nil_of_length_eq_zero hq.out.symm
      have e : m ++ bs = M := by rw [← hM.out, hr0, List.append_nil]
      rw [e]
      exact ⟨rfl, ⟨p, hp1, hp2, hp3⟩, kp⟩

theorem write_any (D : Nat) (m : List By) (ao : Option Addr) (cap : Nat) (bs : List By) (w : World) (hd : Dig w D m) (hb : IsBn D w ao bs) (hcap : bs.length ≤ cap) (hl : m.length + bs.length < 1152921504606846976) (hbl : bs.length ≤ 140737488355328) :
    Calls Tryd.prog 24 #[.pointer (some ⟨D, 0, none⟩), .slice ao bs.length cap] w fun e w' => e = .returned (.tuple #[]) ∧ Dig w' D (m ++ bs) ∧ Kept D w w' := by
  refine (write_at D 92 [] m ao cap bs w ((dig_iff _ _ _).1 hd) hb hcap hl hbl).mono ?_
  rintro e w' ⟨rfl, h1, h2⟩
  exact ⟨rfl, (dig_iff _ _ _).2 h1, h2⟩
end Go.Proofs.YtdfbfheceobboaaDoor
