import Derived.Test.YthjndaeibbfgaaaL4GameA
import Derived.Test.YthjndaeibbfgaaaR4CopyC
import Derived.Test.YthjndaeibbfgaaaC4Lay2
/-! game: holds. -/
namespace Go.Proofs.Ythjndaeibbfgaaa
open Go.RowKit

theorem size_alloc1 (w : World) (o : Obj) : (w.alloc o).heap.size = w.heap.size + 1 := by
  show (w.heap.push _).size = _
  exact Array.size_push ..

set_option maxHeartbeats 4000000 in
set_option maxRecDepth 100000 in
theorem game_any (w : World) (base : Nat) (G F : RF) (s : RS) (hp : PR w G F s) (hs0 : s.n ≤ 0) (hlo : ∀ B, B ∈ G.blocks ∨ B ∈ F.blocks → base ≤ B) (hbase : base ≤ w.heap.size) (so : Option Addr) (n cap : Nat) (hn : n ≤ 1152921504606846976)
    (hso : ∀ j, j < n → ∃ SB off o, so = some ⟨SB, off, none⟩ ∧ SB < base ∧ SIOk w base SB off j o) :
    Calls Try.prog 10 #[.pointer (some ⟨G.g, 0, none⟩), .pointer (some ⟨F.g, 0, none⟩), .slice so n cap] w fun e w' => e = .returned (.bool true) ∧ Below base w w' := by
  have HP : Hid (PR w G F s) := hp
  have HLS : Hid (∀ W G F s, PR W G F s → Calls Try.prog 34 #[.agg #[.pointer (some ⟨G.g, 0, none⟩), .pointer (some ⟨F.g, 0, none⟩)]] W fun e w' => e = .returned (.bool true) ∧ Below W.heap.size W w') := fun W G F s h => by
    obtain ⟨S, c⟩ := h.c
    exact lsame_any W G F s S c h.r
  have HSO : Hid (∀ j, j < n → ∃ SB off o, so = some ⟨SB, off, none⟩ ∧ SB < base ∧ SIOk w base SB off j o) := hso
  have HLO : Hid (∀ B, B ∈ G.blocks ∨ B ∈ F.blocks → base ≤ B) := hlo
  have HB : Hid (base ≤ w.heap.size) := hbase
  have HN0 : Hid (s.n ≤ 0) := hs0
  clear hp hso hlo hbase hs0
  go_enter Try.func10, Try.ntmps10
  go_wp2
  have HG0 : Hid (GR w base w.heap.size (w.heap.size + 1) 0 ((w.alloc (.cells #[.pointer (some ⟨G.g, 0, none⟩), .pointer (some ⟨F.g, 0, none⟩)] 76)).alloc (.cells #[.pointer (some ⟨G.g, 0, none⟩), .pointer (some ⟨F.g, 0, none⟩)] 76)) G F s G F s) := by
    have hb := HB.out
    have b1 : Below base w (w.alloc (.cells #[.pointer (some ⟨G.g, 0, none⟩), .pointer (some ⟨F.g, 0, none⟩)] 76)) := (Below.refl _ _).alloc hb _
    have b2 := b1.alloc (Nat.le_trans hb b1.size) (.cells #[.pointer (some ⟨G.g, 0, none⟩), .pointer (some ⟨F.g, 0, none⟩)] 76)
    have c1 : Below w.heap.size w (w.alloc (.cells #[.pointer (some ⟨G.g, 0, none⟩), .pointer (some ⟨F.g, 0, none⟩)] 76)) := (Below.refl _ _).alloc (Nat.le_refl _) _
    have c2 := c1.alloc c1.size (.cells #[.pointer (some ⟨G.g, 0, none⟩), .pointer (some ⟨F.g, 0, none⟩)] 76)
    have hpr := HP.out.below c2 (Nat.le_refl _)
    have hn0 := HN0.out
    refine ⟨b2, ?_, ?_, hpr, hpr, by omega, by omega, ?_, by omega, hb, by omega, .inl ⟨rfl, rfl, rfl⟩⟩
    · exact (Row.at _ _ _ _ _ rfl rfl : Row _ w.heap.size 76 [.pointer (some ⟨G.g, 0, none⟩), .pointer (some ⟨F.g, 0, none⟩)]).alloc _
    · exact Row.at _ _ _ _ _ (size_alloc1 w _).symm rfl
    · have hl := HP.out.lt
      rintro B (hB | hB | hB | hB)
      · have := hl B (.inl hB); exact ⟨HLO.out B (.inl hB), by omega, by omega⟩
      · have := hl B (.inr hB); exact ⟨HLO.out B (.inr hB), by omega, by omega⟩
      · have := hl B (.inl hB); exact ⟨HLO.out B (.inl hB), by omega, by omega⟩
      · have := hl B (.inr hB); exact ⟨HLO.out B (.inr hB), by omega, by omega⟩
  generalize hPB : w.heap.size = PB at *
  generalize hQB : PB + 1 = QB at *
  generalize (w.alloc (.cells #[.pointer (some ⟨G.g, 0, none⟩), .pointer (some ⟨F.g, 0, none⟩)] 76)).alloc (.cells #[.pointer (some ⟨G.g, 0, none⟩), .pointer (some ⟨F.g, 0, none⟩)] 76) = W0 at *
  clear HP HB HLO HN0 hPB hQB
  go_loopw [9] (fun iv wr => ∃ i : Nat, i ≤ n ∧ iv = .int .i64 i ∧ Hid (∃ G F s G' F' s', GR w base PB QB i wr G F s G' F' s')) (fun iv _ => n - (intOf iv).toNat)
  case atStart => exact ⟨0, by omega, rfl, ⟨_, _, _, _, _, _, HG0.out⟩⟩
  case round =>
    clear HG0
    obtain ⟨i, hi, rfl, hgr⟩ := hrel
    obtain ⟨G, F, s, G', F', s', hgr⟩ := hgr.out
    have hgr := (show Hid _ from hgr)
    have p0 := hgr.out.rp.cell 0 _ rfl
    have p1 := hgr.out.rp.cell 1 _ rfl
    have q0 := hgr.out.rq.cell 0 _ rfl
    have q1 := hgr.out.rq.cell 1 _ rfl
    by_cases hlt : i < n
    · have y0 : (0 : Int) ≤ (i : Int) := by omega
      have y1 : (i : Int) < (n : Int) := by omega
      obtain ⟨SB, off, o, rfl, hSB, ho⟩ := HSO.out i hlt
      have ho := (show Hid _ from ho.below hgr.out.bel hSB)
      have k0 : wr.cell? ⟨SB, off + i * 36, none⟩ = some (.int .i64 o.k) := ho.out.rg 0 _ rfl
      by_cases h9 : o.k = 9
      · have e9 : (o.k == 9) = true := by rw [beq_iff_eq]; exact h9
        have HCC : Hid (∃ S, ∀ W, Below wr.heap.size wr W → Calls Try.prog 17 #[.pointer (some ⟨G.g, 0, none⟩)] W (CopyPost s S W)) := by
          obtain ⟨S, c⟩ := hgr.out.p.c
          exact ⟨S, fun W hW => ccopy_any G s S W (c.keep fun B hB => hW.block B (c.blt B hB))⟩
        have HCR : Hid (∀ W, Below wr.heap.size wr W → Calls Try.prog 32 #[.pointer (some ⟨F.g, 0, none⟩)] W fun e w' => ∃ F', e = .returned (.pointer (some ⟨F'.g, 0, none⟩)) ∧ RAt w' F' s ∧ (∀ B ∈ F'.blocks, W.heap.size ≤ B) ∧ (F'.mo = none → F'.mcap = 0) ∧ Below W.heap.size W w') := fun W hW => by
          have hq := hgr.out.p
          exact copy_any F s W (hq.r.keep fun B hB => hW.block B (hq.r.blt B hB)) hq.good.pos hq.mn (by have := hq.good.ml; omega)
        have HRP : Hid (Row wr PB 76 [.pointer (some ⟨G.g, 0, none⟩), .pointer (some ⟨F.g, 0, none⟩)]) := hgr.out.rp
        have HRQ : Hid (Row wr QB 76 [.pointer (some ⟨G'.g, 0, none⟩), .pointer (some ⟨F'.g, 0, none⟩)]) := hgr.out.rq
        clear p0 p1 q0 q1
        go_wp2
        refine wp_region_inv (ICPI wr s PB QB G.g F.g [] _ _ _ _ _ _ _ _ _ _ _ _ _ _ _ _ _ _ _ _ _ _ _ _ _ _ _ _ _ _ _ _ _ _ _ _ _ _ _ _ _ _ _ _ _ _ _ _ _ _ _ _ _ _ _ _ _ _ _ _ _ _ _ _ _ _ _ _ _ _ _ _ _ _ _) (by kernel_rfl) (by kernel_rfl) ⟨_, _, _, _, _, _, _, G, F, rfl, CPI.zero wr s PB QB G.g F.g [] _ _ _ _ _ _ _ G F⟩ ?_ ?_
        · refine .cons ?_ (.cons ?_ (.cons ?_ (.cons ?_ (.cons ?_ (.cons ?_ (.cons ?_ (.cons ?_ .nil)))))))
          all_goals (rintro L a W ⟨x42, x43, x44, x45, x46, x47, x48, G2, F2, rfl, hI⟩ hL hd K hK)
          · rw [if_pos (by rfl)]
            go_simp
            exact hK.out _ _ ⟨_, _, _, _, _, _, _, _, _, rfl, hI.s0⟩
          · have hx := hI.p0 (hd 0 (by decide))
            subst hx
            have rp : Row W PB 76 [.pointer (some ⟨G.g, 0, none⟩), .pointer (some ⟨F.g, 0, none⟩)] := ((hI.bel (hI.off1 (.inl hL))).block _ HRP.out.lt).trans HRP.out
            have c0 := rp.cell 0 _ rfl
            rw [if_pos (by rfl)]
            go_simp
            exact hK.out _ _ ⟨_, _, _, _, _, _, _, _, _, rfl, hI.s1⟩
          · have hx := hI.p1 (hd 1 (by decide))
            subst hx
            have h7 := hI.bel (hI.off1 (.inr (.inr (.inl hL))))
            obtain ⟨S, HC⟩ := HCC.out
            rw [if_pos (by rfl)]
            go_simp
            refine (HC _ h7).mono ?_
            rintro e w3 ⟨F3, rfl, hc3, hG3, hb3⟩
            exact hK.out _ _ ⟨_, _, _, _, _, _, _, _, _, rfl, hI.s2 hL (hd 1 (by decide)) ⟨_, hc3⟩ hG3 hb3⟩
          · rw [if_pos (by rfl)]
            go_simp
            exact hK.out _ _ ⟨_, _, _, _, _, _, _, _, _, rfl, hI.s3⟩
          · have hx := hI.p3 (hd 3 (by decide))
            subst hx
            have rp : Row W PB 76 [.pointer (some ⟨G.g, 0, none⟩), .pointer (some ⟨F.g, 0, none⟩)] := ((hI.bel (hI.off1 (.inr (.inl hL)))).block _ HRP.out.lt).trans HRP.out
            have c1 := rp.cell 1 _ rfl
            rw [if_pos (by rfl)]
            go_simp
            exact hK.out _ _ ⟨_, _, _, _, _, _, _, _, _, rfl, hI.s4⟩
          · have hx := hI.p4 (hd 4 (by decide))
            subst hx
            have h7 := hI.bel (hI.off1 (.inr (.inr (.inr hL))))
            rw [if_pos (by rfl)]
            go_simp
            refine (HCR.out _ h7).mono ?_
            rintro e w3 ⟨F3, rfl, hc3, hF3, hm3, hb3⟩
            exact hK.out _ _ ⟨_, _, _, _, _, _, _, _, _, rfl, hI.s5 hL (hd 4 (by decide)) hc3 hF3 hm3 hb3⟩
          · have hx := hI.e2 (hd 2 (by decide))
            have hy := hI.e5 (hd 5 (by decide))
            subst hx hy
            rw [if_pos (by rfl)]
            go_simp
            exact hK.out _ _ ⟨_, _, _, _, _, _, _, _, _, rfl, hI.s6 (hd 2 (by decide)) (hd 5 (by decide))⟩
          · have hx := hI.p6 (hd 6 (by decide))
            subst hx
            have rq : Row W QB 76 [.pointer (some ⟨G'.g, 0, none⟩), .pointer (some ⟨F'.g, 0, none⟩)] := ((hI.bel hL).block _ HRQ.out.lt).trans HRQ.out
            have c0 := rq.cell 0 _ rfl
            have c1 := rq.cell 1 _ rfl
            have f0 := rq.frozen 0
            have f1 := rq.frozen 1
            rw [if_pos (by rfl)]
            go_simp
            exact hK.out _ _ ⟨_, _, _, _, _, _, _, _, _, rfl, hI.s7 hL (hd 6 (by decide)) ((rq.set 0 (.pointer (some ⟨G2.g, 0, none⟩))).set 1 (.pointer (some ⟨F2.g, 0, none⟩))) ((SameBut.setCell QB 0 (.pointer (some ⟨G2.g, 0, none⟩)) W).trans (SameBut.setCell QB 1 (.pointer (some ⟨F2.g, 0, none⟩)) _))⟩
        · rintro L a W hall ⟨x42, x43, x44, x45, x46, x47, x48, G2, F2, rfl, hI⟩
          obtain ⟨WX, k1, k2, k3, k4, k5, k6, k7, k8, k9⟩ := hI.fin (hall 7 (by decide))
          have hgr2 : Hid (GR w base PB QB (i + 1) W G F s G2 F2 s) := hgr.out.copy k1 G2 F2 k2 k4 k3 k5 k7 k6 k8 k9
          clear hI hall k1 k2 k3 k4 k5 k6 k7 k8 k9 hgr HCC HCR HRP HRQ
          have hgr := hgr2
          clear hgr2
          try dsimp only
          have q0 := hgr.out.rq.cell 0 _ rfl
          go_upto_region 16 with fail
          clear q0
          have p0 := hgr.out.rp.cell 0 _ rfl
          have p1 := hgr.out.rp.cell 1 _ rfl
          have q0 := hgr.out.rq.cell 0 _ rfl
          have q1 := hgr.out.rq.cell 1 _ rfl
          by_cases h200 : (n : Int) < 200
          · go_wp2_with fail
            refine (HLS.out _ _ _ _ hgr.out.p).mono ?_
            rintro e w7 ⟨rfl, hb7⟩
            have hgr7 : Hid (GR w base PB QB (i + 1) w7 G F s G2 F2 s) := hgr.out.below hb7
            clear hgr hb7 p0 p1 q0 q1
            have q0 := hgr7.out.rq.cell 0 _ rfl
            have q1 := hgr7.out.rq.cell 1 _ rfl
            go_wp2_with fail
            refine (HLS.out _ _ _ _ hgr7.out.q).mono ?_
            rintro e w8 ⟨rfl, hb8⟩
            have hgr8 : Hid (GR w base PB QB (i + 1) w8 G F s G2 F2 s) := hgr7.out.below hb8
            clear hgr7 hb8 q0 q1
            go_wp2
            exact ⟨⟨i + 1, by omega, by go_num, ⟨_, _, _, _, _, _, hgr8.out⟩⟩, by simp [intOf]; omega⟩
          · by_cases h50 : ((i : Int) % 50 == 0) = true
            · go_wp2_with fail
              refine (HLS.out _ _ _ _ hgr.out.p).mono ?_
              rintro e w7 ⟨rfl, hb7⟩
              have hgr7 : Hid (GR w base PB QB (i + 1) w7 G F s G2 F2 s) := hgr.out.below hb7
              clear hgr hb7 p0 p1 q0 q1
              have q0 := hgr7.out.rq.cell 0 _ rfl
              have q1 := hgr7.out.rq.cell 1 _ rfl
              go_wp2_with fail
              refine (HLS.out _ _ _ _ hgr7.out.q).mono ?_
              rintro e w8 ⟨rfl, hb8⟩
              have hgr8 : Hid (GR w base PB QB (i + 1) w8 G F s G2 F2 s) := hgr7.out.below hb8
              clear hgr7 hb8 q0 q1
              go_wp2
              exact ⟨⟨i + 1, by omega, by go_num, ⟨_, _, _, _, _, _, hgr8.out⟩⟩, by simp [intOf]; omega⟩
            · have h50' : ((i : Int) % 50 == 0) = false := by simpa using h50
              clear h50
              go_wp2
              exact ⟨⟨i + 1, by omega, by go_num, ⟨_, _, _, _, _, _, hgr.out⟩⟩, by simp [intOf]; omega⟩
      · have e9 : (o.k == 9) = false := by rw [beq_eq_false_iff_ne]; exact h9
        by_cases h10 : o.k = 10
        · have e10 : (o.k == 10) = true := by rw [beq_iff_eq]; exact h10
          have f0 := hgr.out.rp.frozen 0
          have f1 := hgr.out.rp.frozen 1
          have g0 := hgr.out.rq.frozen 0
          have g1 := hgr.out.rq.frozen 1
          have npq := hgr.out.pq
          have nqp := npq.symm
          have hgr2 : Hid (GR w base PB QB (i + 1) ((((wr.setCell ⟨PB, 0, none⟩ (.pointer (some ⟨G'.g, 0, none⟩))).setCell ⟨PB, 1, none⟩ (.pointer (some ⟨F'.g, 0, none⟩))).setCell ⟨QB, 0, none⟩ (.pointer (some ⟨G.g, 0, none⟩))).setCell ⟨QB, 1, none⟩ (.pointer (some ⟨F.g, 0, none⟩))) G' F' s' G F s) := hgr.out.swapped
          clear hgr ho
          go_upto_region 16 with fail
          generalize (((wr.setCell ⟨PB, 0, none⟩ (.pointer (some ⟨G'.g, 0, none⟩))).setCell ⟨PB, 1, none⟩ (.pointer (some ⟨F'.g, 0, none⟩))).setCell ⟨QB, 0, none⟩ (.pointer (some ⟨G.g, 0, none⟩))).setCell ⟨QB, 1, none⟩ (.pointer (some ⟨F.g, 0, none⟩)) = w5 at hgr2 ⊢
          clear f0 f1 g0 g1 p0 p1 q0 q1 k0
          have hgr := hgr2
          clear hgr2
          have p0 := hgr.out.rp.cell 0 _ rfl
          have p1 := hgr.out.rp.cell 1 _ rfl
          have q0 := hgr.out.rq.cell 0 _ rfl
          have q1 := hgr.out.rq.cell 1 _ rfl
          by_cases h200 : (n : Int) < 200
          · go_wp2_with fail
            refine (HLS.out _ _ _ _ hgr.out.p).mono ?_
            rintro e w7 ⟨rfl, hb7⟩
            have hgr7 : Hid (GR w base PB QB (i + 1) w7 G' F' s' G F s) := hgr.out.below hb7
            clear hgr hb7 p0 p1 q0 q1
            have q0 := hgr7.out.rq.cell 0 _ rfl
            have q1 := hgr7.out.rq.cell 1 _ rfl
            go_wp2_with fail
            refine (HLS.out _ _ _ _ hgr7.out.q).mono ?_
            rintro e w8 ⟨rfl, hb8⟩
            have hgr8 : Hid (GR w base PB QB (i + 1) w8 G' F' s' G F s) := hgr7.out.below hb8
            clear hgr7 hb8 q0 q1
            go_wp2
            exact ⟨⟨i + 1, by omega, by go_num, ⟨_, _, _, _, _, _, hgr8.out⟩⟩, by simp [intOf]; omega⟩
          · by_cases h50 : ((i : Int) % 50 == 0) = true
            · go_wp2_with fail
              refine (HLS.out _ _ _ _ hgr.out.p).mono ?_
              rintro e w7 ⟨rfl, hb7⟩
              have hgr7 : Hid (GR w base PB QB (i + 1) w7 G' F' s' G F s) := hgr.out.below hb7
              clear hgr hb7 p0 p1 q0 q1
              have q0 := hgr7.out.rq.cell 0 _ rfl
              have q1 := hgr7.out.rq.cell 1 _ rfl
              go_wp2_with fail
              refine (HLS.out _ _ _ _ hgr7.out.q).mono ?_
              rintro e w8 ⟨rfl, hb8⟩
              have hgr8 : Hid (GR w base PB QB (i + 1) w8 G' F' s' G F s) := hgr7.out.below hb8
              clear hgr7 hb8 q0 q1
              go_wp2
              exact ⟨⟨i + 1, by omega, by go_num, ⟨_, _, _, _, _, _, hgr8.out⟩⟩, by simp [intOf]; omega⟩
            · have h50' : ((i : Int) % 50 == 0) = false := by simpa using h50
              clear h50
              go_wp2
              exact ⟨⟨i + 1, by omega, by go_num, ⟨_, _, _, _, _, _, hgr.out⟩⟩, by simp [intOf]; omega⟩
        · have e10 : (o.k == 10) = false := by rw [beq_eq_false_iff_ne]; exact h10
          have HST : Hid (∀ W, Below wr.heap.size wr W → Calls Try.prog 33 #[.agg #[.pointer (some ⟨G.g, 0, none⟩), .pointer (some ⟨F.g, 0, none⟩)], .agg o.vals.toArray] W (StepPost G F s W)) := fun W hW => by
            have hz := hW.size
            have hgg := hgr.out.below hW
            have hbw : base ≤ wr.heap.size := by have := hgr.out.bp; have := hgr.out.rp.lt; omega
            have hoo := ho.out.below (hW.mono hbw) hSB
            have hnp := hgg.np
            refine lstep_any W G F s hgg.p (by omega) o.k o.a o.b o.x hoo.x32 hoo.ha o.mo o.mc o.m hoo.ib hoo.mn hoo.mc hoo.ml ?_
            rcases hoo.lt with e | e
            · exact .inl e
            · refine .inr fun B off he => ?_
              have h1 := e B off he
              have h2 := hgg.bp
              have h3 := hgg.rp.lt
              have h4 := (hgg.lo G.g (.inl (by simp [RF.blocks]))).1
              have h5 := (hgg.lo F.g (.inr (.inl (by simp [RF.blocks])))).1
              exact ⟨by omega, by omega, by omega⟩
          have HV : Hid (o.vals.length = 36) := by
            show (stepVals _ _ _ _ _ _ _).length = 36
            have := ho.out.x32
            simp [stepVals, this]
          have rg : wr.rangeAt SB (off + i * 36) o.vals := ho.out.rg
          clear ho
          generalize o.vals = VS at *
          go_wp2
          refine wp_region_still_tail 5 (by kernel_rfl) (by kernel_rfl) ?_
          simp only [List.take_succ_cons, List.take_zero, List.drop_succ_cons, List.drop_zero]
          have hd : Dr wr { wr with drawn := wr.drawn + 1 } := ⟨1, rfl⟩
          have hgd : Hid (GR w base PB QB i { wr with drawn := wr.drawn + 1 } G F s G' F' s') := hgr.out.below (Below_dr (Below.refl _ _) hd)
          have hbd : Below wr.heap.size wr { wr with drawn := wr.drawn + 1 } := Below_dr (Below.refl _ _) hd
          have HST2 := HST.out _ hbd
          clear hbd HST
          generalize { wr with drawn := wr.drawn + 1 } = wq at hd hgd HST2 ⊢
          have HST : Hid (Calls Try.prog 33 #[.agg #[.pointer (some ⟨G.g, 0, none⟩), .pointer (some ⟨F.g, 0, none⟩)], .agg VS.toArray] wq (StepPost G F s wq)) := HST2
          clear HST2
          replace p0 := hd.cell p0
          replace p1 := hd.cell p1
          have rg' : wq.rangeAt SB (off + i * 36) VS := fun j v hv => hd.cell (rg j v hv)
          clear hgr hd rg k0 q0 q1
          still_step
          still_step
          still_step
          still_step
          refine wpStill_load_range rfl 52 _ rfl SB (off + i * 36) 36 _ rg' rfl _ HV.out Try.underlying52 rfl (by kernel_rfl) ?_
          refine wpStill_nil ?_
          go_wp2_with fail
          refine HST.out.mono ?_
          intro e w9 hpost
          obtain ⟨F2, s2, F2', s2', hgr⟩ := hgd.out.step hpost
          obtain ⟨rfl, _⟩ := hpost
          have hgr := (show Hid (GR w base PB QB (i + 1) w9 G F2 s2 G' F2' s2') from hgr)
          clear HST hgd rg' p0 p1
          go_upto_region 16 with fail
          have p0 := hgr.out.rp.cell 0 _ rfl
          have p1 := hgr.out.rp.cell 1 _ rfl
          have q0 := hgr.out.rq.cell 0 _ rfl
          have q1 := hgr.out.rq.cell 1 _ rfl
          by_cases h200 : (n : Int) < 200
          · go_wp2_with fail
            refine (HLS.out _ _ _ _ hgr.out.p).mono ?_
            rintro e w7 ⟨rfl, hb7⟩
            have hgr7 : Hid (GR w base PB QB (i + 1) w7 G F2 s2 G' F2' s2') := hgr.out.below hb7
            clear hgr hb7 p0 p1 q0 q1
            have q0 := hgr7.out.rq.cell 0 _ rfl
            have q1 := hgr7.out.rq.cell 1 _ rfl
            go_wp2_with fail
            refine (HLS.out _ _ _ _ hgr7.out.q).mono ?_
            rintro e w8 ⟨rfl, hb8⟩
            have hgr8 : Hid (GR w base PB QB (i + 1) w8 G F2 s2 G' F2' s2') := hgr7.out.below hb8
            clear hgr7 hb8 q0 q1
            go_wp2
            exact ⟨⟨i + 1, by omega, by go_num, ⟨_, _, _, _, _, _, hgr8.out⟩⟩, by simp [intOf]; omega⟩
          · by_cases h50 : ((i : Int) % 50 == 0) = true
            · go_wp2_with fail
              refine (HLS.out _ _ _ _ hgr.out.p).mono ?_
              rintro e w7 ⟨rfl, hb7⟩
              have hgr7 : Hid (GR w base PB QB (i + 1) w7 G F2 s2 G' F2' s2') := hgr.out.below hb7
              clear hgr hb7 p0 p1 q0 q1
              have q0 := hgr7.out.rq.cell 0 _ rfl
              have q1 := hgr7.out.rq.cell 1 _ rfl
              go_wp2_with fail
              refine (HLS.out _ _ _ _ hgr7.out.q).mono ?_
              rintro e w8 ⟨rfl, hb8⟩
              have hgr8 : Hid (GR w base PB QB (i + 1) w8 G F2 s2 G' F2' s2') := hgr7.out.below hb8
              clear hgr7 hb8 q0 q1
              go_wp2
              exact ⟨⟨i + 1, by omega, by go_num, ⟨_, _, _, _, _, _, hgr8.out⟩⟩, by simp [intOf]; omega⟩
            · have h50' : ((i : Int) % 50 == 0) = false := by simpa using h50
              clear h50
              go_wp2
              exact ⟨⟨i + 1, by omega, by go_num, ⟨_, _, _, _, _, _, hgr.out⟩⟩, by simp [intOf]; omega⟩
    · obtain rfl : i = n := by omega
      have y1 : ¬ (i : Int) < (i : Int) := by omega
      go_wp2_with fail
      refine (HLS.out _ _ _ _ hgr.out.p).mono ?_
      rintro e w7 ⟨rfl, hb7⟩
      have hgr7 : Hid (GR w base PB QB (i) w7 G F s G' F' s') := hgr.out.below hb7
      clear hgr hb7 p0 p1 q0 q1
      have q0 := hgr7.out.rq.cell 0 _ rfl
      have q1 := hgr7.out.rq.cell 1 _ rfl
      go_wp2_with fail
      refine (HLS.out _ _ _ _ hgr7.out.q).mono ?_
      rintro e w8 ⟨rfl, hb8⟩
      have hgr8 : Hid (GR w base PB QB (i) w8 G F s G' F' s') := hgr7.out.below hb8
      clear hgr7 hb8 q0 q1
      go_wp2
      go_ret
      exact ⟨rfl, hgr8.out.bel⟩
end Go.Proofs.Ythjndaeibbfgaaa
