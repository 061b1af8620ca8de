import Derived.Test.YtgpnbiaghokjkaaDoorD21KM
/-! Layer 21: DumpKeeps, of any code that keeps its contracts. (Printed by tools/genlaw21.py.) -/
namespace Go.Proofs.YtgpnbiaghokjkaaDoor
open Go.RowKit
set_option linter.unusedVariables false
set_option linter.unusedSimpArgs false
set_option maxRecDepth 100000

set_option maxHeartbeats 32000000 in
theorem l21keeps_any (DM : Dmp2) (c : Cfg) (v : SV) (t : St) (T : List By) (hT : T.length ≤ 2000000) (w : World) (hq : Tab w) (h : StV w v t) (hl : Lens t) (he : ∀ e ∈ t.erases, e < 9223372036854775808) (hen : v.eo = none → v.ec = 0) (hbn : v.bo = none → v.bc = 0) (hpn : ∀ B off p k qc, v.po = some ⟨B, off, none⟩ → p < t.pages.length → w.cell? ⟨B, off + p, none⟩ = some (.slice none k qc) → qc = 0) :
    Calls Tryd.prog 8 #[.agg c.vals.toArray, .agg (v.vals t).toArray, .string (strOf T)] w fun e w' => e = .returned (.bool true) ∧ Below w.heap.size w w' := by
  have HAW : Hid (∀ W : World, Tab W → Calls Tryd.prog 9 #[] W fun e w' => e = .returned (.bool true) ∧ Below W.heap.size W w') := fun W hW => l21awake_any DM.toDmp W hW
  have HQ : Hid (∀ W, Below w.heap.size w W → Tab W) := fun W hW => hq.on hW (Nat.le_refl _)
  have HFW : Hid (∀ W, Below w.heap.size w W → Calls Tryd.prog 16 #[.agg (v.vals t).toArray] W (FewP t W)) := fun W hW => l21few_any v t W (h.below hW (Nat.le_refl _)) hl
  have HCY : Hid (∀ W, Below w.heap.size w W → Small t → Calls Tryd.prog 17 #[.agg (v.vals t).toArray] W (CopyP t W)) := fun W hW hs => r21copy_any v t W (h.below hW (Nat.le_refl _)) hen hbn (fun B off p k qc e1 hp hc => by
    obtain ⟨B2, off2, qo, qc2, e2, c2, _⟩ := h.page p hp
    rw [e1] at e2
    injection e2 with e2
    injection e2 with e2 e3
    subst e2 e3
    rw [hW.cell (p := ⟨B, off + p, none⟩) (World.block_lt_of_cell? _ _ c2), c2] at hc
    injection hc with hc
    injection hc with e4 e5 e6
    subst e4 e6
    exact hpn B off p _ qc2 e1 hp c2) hs
  have HPR : Hid (∀ (W : World) (u : SV), Tab W → StV W u t → Calls Tryd.prog 10 #[.agg c.vals.toArray, .agg (u.vals t).toArray] W (PrintP c t W)) := fun W u ht hu => DM.print c u t W ht hu hl he
  have HRP : Hid (∀ W, Below w.heap.size w W → Calls Tryd.prog 11 #[.agg c.vals.toArray, .agg (v.vals t).toArray] W (PrintP c t W)) := fun W hW => r21print_any c v t W (h.below hW (Nat.le_refl _)) hl he
  have HSM : Hid (∀ (W : World) (va vb : SV) (u : St), StV W va u → StV W vb u → Lens u → Calls Tryd.prog 14 #[.agg (va.vals u).toArray, .agg (vb.vals u).toArray] W fun e w' => e = .returned (.bool true) ∧ Below W.heap.size W w') := fun W va vb u h1 h2 h3 => r21same_any va vb u u W h1 h2 h3 h3 true (by simp)
  have HCP : Hid (∀ W : World, Calls Tryd.prog 12 #[.string (strOf T)] W (ParO T W)) := fun W => DM.own T W hT
  have HRR : Hid (∀ W : World, Calls Tryd.prog 13 #[.string (strOf T)] W (ParP T W)) := fun W => r21parse_any T hT W
  have HVS : Hid (∀ W, Below w.heap.size w W → StV W v t) := fun W hW => h.below hW (Nat.le_refl _)
  have HLN : Hid (Lens t) := hl
  have HLP : Hid (Lens (parseR T).2.1) := parseR_lens T
  have HSP : Hid ((parseR T).2.1.pages.length ≤ 1000000 ∧ (∀ g ∈ (parseR T).2.1.pages, g.length ≤ 1000000) ∧ (parseR T).2.1.erases.length ≤ 1000000 ∧ (parseR T).2.1.blown.length ≤ 1000000) := by
    cases hp : parseL T with
    | error q =>
      obtain ⟨k, l⟩ := q
      rw [parseR_err hp]
      exact ⟨by simp, fun g hg => (by cases hg), by simp, by simp⟩
    | ok q =>
      obtain ⟨c', t'⟩ := q
      rw [parseR_ok hp]
      obtain ⟨hm, ⟨f1, f2, f3, f4⟩, _⟩ := (print_parse hp).2.1
      obtain ⟨m1, m2, m3, m4, m5, m6, m7⟩ := may_all hm
      have hprod : c'.slots * c'.fuses ≤ 512 := by
        have := Int.mul_le_mul m1.2 m3.2 (by omega) (by omega); omega
      refine ⟨by show t'.pages.length ≤ _; omega, fun g hg => ?_, by show t'.erases.length ≤ _; omega, by show t'.blown.length ≤ _; omega⟩
      have hg' : g ∈ t'.pages := hg
      obtain ⟨i, hi, rfl⟩ := List.getElem_of_mem hg'
      have := (f4 i hi).1
      rw [List.getD_eq_getElem?_getD, List.getElem?_eq_getElem hi] at this
      simp at this
      omega
  unfold ParO at HCP
  unfold ParP at HRR
  obtain ⟨PT, hPT⟩ : ∃ P, parseR T = P := ⟨_, rfl⟩
  rw [hPT] at HCP HRR HLP HSP
  clear hPT
  obtain ⟨d, u, k, ln⟩ := PT
  dsimp only at HCP HRR HLP HSP
  generalize strOf T = ST at *
  have lc := cfg_len c
  have ls := sv_len v t
  have HR0 : Hid (Row ((w.alloc (.cells c.vals.toArray 24)).alloc (.cells (v.vals t).toArray 29)) w.heap.size 24 c.vals) := (Row.at _ _ _ _ _ rfl rfl).alloc _
  have HS0 : Hid (Row ((w.alloc (.cells c.vals.toArray 24)).alloc (.cells (v.vals t).toArray 29)) (w.heap.size + 1) 29 (v.vals t)) := Row.at _ _ _ _ _ (by simp) rfl
  have HB0 : Hid (Below w.heap.size w ((w.alloc (.cells c.vals.toArray 24)).alloc (.cells (v.vals t).toArray 29))) := ((Below.refl _ _).alloc (Nat.le_refl _) _).alloc (by simp) _
  clear h hl he hen hbn hpn hT hq
  generalize c.vals = CV at *
  have HXS : Hid (v.vals t = [.slice v.po t.pages.length v.pc, .slice v.eo t.erases.length v.ec, .slice v.bo t.blown.length v.bc]) := rfl
  obtain ⟨XS, hXS⟩ : ∃ XS, v.vals t = XS := ⟨_, rfl⟩
  have HXV : Hid (v.vals t = XS) := hXS
  rw [hXS] at HFW HCY HRP ls HR0 HS0 HB0 HXS ⊢
  clear hXS
  go_enter Tryd.func8, Tryd.ntmps8
  go_wp2_with fail
  generalize (w.alloc (.cells CV.toArray 24)).alloc (.cells XS.toArray 29) = W0 at *
  refine (HAW.out _ (HQ.out _ HB0.out)).mono ?_
  rintro e w1 ⟨rfl, hb1⟩
  have HR1 : Hid (Row w1 w.heap.size 24 CV) := HR0.out.below hb1 HR0.out.lt
  have s1 : Row w1 (w.heap.size + 1) 29 XS := HS0.out.below hb1 HS0.out.lt
  have HB1 : Hid (Below w.heap.size w w1) := HB0.out.trans (hb1.mono HB0.out.size)
  clear HR0 HS0 HB0 hb1 HAW
  dsimp only
  go_wp2_with (refine wpList_load_Row rfl 29 _ rfl _ _ XS s1 rfl _ Tryd.underlying29 rfl (by rw [ls]; kernel_rfl) ?_)
  refine (HFW.out _ HB1.out).mono ?_
  rintro e w2 ⟨r, rfl, hsm, hb2⟩
  have HR2 : Hid (Row w2 w.heap.size 24 CV) := HR1.out.below hb2 HR1.out.lt
  have s2 : Row w2 (w.heap.size + 1) 29 XS := s1.below hb2 s1.lt
  have HB2 : Hid (Below w.heap.size w w2) := HB1.out.trans (hb2.mono HB1.out.size)
  clear HR1 s1 HB1 hb2 HFW
  dsimp only
  cases r with
  | false =>
    go_wp2
    go_ret
    exact ⟨rfl, HB2.out⟩
  | true =>
    have hsmall := hsm rfl
    have HCY2 := HCY.out w2 HB2.out hsmall
    clear hsm hsmall HCY
    go_wp2_with (refine wpList_load_Row rfl 29 _ rfl _ _ XS s2 rfl _ Tryd.underlying29 rfl (by rw [ls]; kernel_rfl) ?_)
    refine HCY2.mono ?_
    rintro e w3 ⟨vo, rfl, hvo, hb3⟩
    have HVO : Hid (∀ W, Below w3.heap.size w3 W → StV W vo t) := fun W hW => hvo.below hW (Nat.le_refl _)
    have HR3 : Hid (Row w3 w.heap.size 24 CV) := HR2.out.below hb3 HR2.out.lt
    have HS3 : Hid (Row w3 (w.heap.size + 1) 29 XS) := s2.below hb3 s2.lt
    have HB3 : Hid (Below w.heap.size w w3) := HB2.out.trans (hb3.mono HB2.out.size)
    clear HR2 s2 HB2 hb3 hvo HCY2
    dsimp only
    have lo := sv_len vo t
    have oo := sv_one vo t
    have zs : Row (w3.alloc (.cells #[.slice none 0 0, .slice none 0 0, .slice none 0 0] 29)) w3.heap.size 29 [nilS, nilS, nilS] := Row.at _ _ _ _ _ rfl rfl
    go_upto_region 6 with (refine wpList_store_Row rfl 29 _ _ rfl w3.heap.size 29 0 [nilS, nilS, nilS] (vo.vals t) zs (by rw [lo]; decide) rfl rfl (by rw [lo]; kernel_rfl) oo ?_; intro w4 hr4 hs4)
    have o4 := row_whole hr4 (by rw [lo]; decide)
    have HB34 : Hid (Below w3.heap.size w3 w4) := hs4.below ((Below.refl _ _).alloc (Nat.le_refl _) _) (Nat.le_refl _)
    have r4 : Row w4 w.heap.size 24 CV := HR3.out.below HB34.out HR3.out.lt
    have HS4 : Hid (Row w4 (w.heap.size + 1) 29 XS) := HS3.out.below HB34.out HS3.out.lt
    have HB4 : Hid (Below w.heap.size w w4) := HB3.out.trans (HB34.out.mono HB3.out.size)
    have PR4 := HPR.out w4 vo (HQ.out _ HB4.out) (HVO.out _ HB34.out)
    clear zs hr4 hs4 HR3 HS3 HB3 HPR
    obtain ⟨XO, hXO⟩ : ∃ XO, vo.vals t = XO := ⟨_, rfl⟩
    have HXO : Hid (vo.vals t = XO) := hXO
    rw [hXO] at PR4 o4 lo
    clear hXO oo
    go_wp2_with (first | (refine wpList_load_Row rfl 24 _ rfl _ _ CV r4 rfl _ Tryd.underlying24 rfl (by rw [lc]; kernel_rfl) ?_) | (refine wpList_load_Row rfl 29 _ rfl _ _ XO o4 rfl _ Tryd.underlying29 rfl (by rw [lo]; kernel_rfl) ?_))
    refine PR4.mono ?_
    rintro e w5 ⟨T1, k1, hp1, rfl, hb5⟩
    have HB35 : Hid (Below w3.heap.size w3 w5) := HB34.out.trans (hb5.mono HB34.out.size)
    have r5 : Row w5 w.heap.size 24 CV := r4.below hb5 r4.lt
    have s5 : Row w5 (w.heap.size + 1) 29 XS := HS4.out.below hb5 HS4.out.lt
    have HO5 : Hid (Row w5 w3.heap.size 29 XO) := o4.below hb5 o4.lt
    have HB5 : Hid (Below w.heap.size w w5) := HB4.out.trans (hb5.mono HB4.out.size)
    have HP1 : Hid (PrP c t T1 k1) := hp1
    clear r4 o4 HS4 HB4 hb5 hp1 PR4 HB34
    dsimp only
    generalize hS1 : strOf T1 = S1 at *
    have HS1 : Hid (strOf T1 = S1) := hS1
    clear hS1
    go_wp2_with (first | (refine wpList_load_Row rfl 24 _ rfl _ _ CV r5 rfl _ Tryd.underlying24 rfl (by rw [lc]; kernel_rfl) ?_) | (refine wpList_load_Row rfl 29 _ rfl _ _ XS s5 rfl _ Tryd.underlying29 rfl (by rw [ls]; kernel_rfl) ?_))
    refine (HRP.out _ HB5.out).mono ?_
    rintro e w6 ⟨T2, k2, hp2, rfl, hb6⟩
    obtain ⟨hTT, hkk⟩ := HP1.out.one hp2
    subst hTT
    subst hkk
    rw [HS1.out]
    have HB36 : Hid (Below w3.heap.size w3 w6) := HB35.out.trans (hb6.mono HB35.out.size)
    have s6 : Row w6 (w.heap.size + 1) 29 XS := s5.below hb6 s5.lt
    have o6 : Row w6 w3.heap.size 29 XO := HO5.out.below hb6 HO5.out.lt
    have HB6 : Hid (Below w.heap.size w w6) := HB5.out.trans (hb6.mono HB5.out.size)
    have SM := HSM.out w6 vo v t (HVO.out _ HB36.out) (HVS.out _ HB6.out) HLN.out
    have HXO2 : Hid (XO = [.slice vo.po t.pages.length vo.pc, .slice vo.eo t.erases.length vo.ec, .slice vo.bo t.blown.length vo.bc]) := by rw [← HXO.out]; exact rfl
    rw [HXO2.out] at o6
    rw [HXS.out] at s6
    have a0 := s6.cell 0 _ rfl
    have a1 := s6.cell 1 _ rfl
    have a2 := s6.cell 2 _ rfl
    have b0 := o6.cell 0 _ rfl
    have b1 := o6.cell 1 _ rfl
    have b2 := o6.cell 2 _ rfl
    clear r5 s5 s6 o6 HO5 HB5 hb6 hp2 HP1 HS1 HRP HB35 HVO
    dsimp only
    go_wp2_with fail
    refine SM.mono ?_
    rintro e w7 ⟨rfl, hb7⟩
    have HB7 : Hid (Below w.heap.size w w7) := HB6.out.trans (hb7.mono HB6.out.size)
    clear SM hb7 HB6 HB36 a0 a1 a2 b0 b1 b2
    dsimp only
    go_wp2_with fail
    refine (HRR.out _).mono ?_
    rintro e w8 ⟨vy, rfl, hvy, hb8⟩
    have HVY : Hid (∀ W, Below w8.heap.size w8 W → StV W vy u) := fun W hW => hvy.below hW (Nat.le_refl _)
    have HB8 : Hid (Below w.heap.size w w8) := HB7.out.trans (hb8.mono HB7.out.size)
    clear hvy hb8 HB7 HRR
    unfold Tells4
    dsimp only
    have ld := cfg_len d
    have od := cfg_one d
    have ly := sv_len vy u
    have oy := sv_one vy u
    have zc : ∀ o : Obj, Row ((w8.alloc (.cells #[.int .i64 0, .int .i64 0, .int .i64 0, .int .i64 0, .int .i64 0, .int .i64 0, .int .i64 0] 24)).alloc o) w8.heap.size 24 ([.int .i64 0, .int .i64 0, .int .i64 0, .int .i64 0, .int .i64 0, .int .i64 0, .int .i64 0] : List Value) := fun o => (Row.at _ _ _ _ _ rfl rfl).alloc _
    have zs : ∀ o : Obj, Row ((w8.alloc o).alloc (.cells #[.slice none 0 0, .slice none 0 0, .slice none 0 0] 29)) (w8.heap.size + 1) 29 [nilS, nilS, nilS] := fun o => Row.at _ _ _ _ _ (by simp) rfl
    have zb : ∀ o o2 : Obj, Below w8.heap.size w8 ((w8.alloc o).alloc o2) := fun o o2 => ((Below.refl _ _).alloc (Nat.le_refl _) _).alloc (by simp) _
    go_upto_region 11 with (first | (refine wpList_store_Row rfl 24 _ _ rfl w8.heap.size 24 0 ([.int .i64 0, .int .i64 0, .int .i64 0, .int .i64 0, .int .i64 0, .int .i64 0, .int .i64 0] : List Value) d.vals (zc _) (by rw [ld]; decide) rfl rfl (by rw [ld]; kernel_rfl) od ?_; intro w9a hra hsa; have zs2 := (zs _).but hsa (by omega)) | (refine wpList_store_Row rfl 29 _ _ rfl (w8.heap.size + 1) 29 0 [nilS, nilS, nilS] (vy.vals u) zs2 (by rw [ly]; decide) rfl rfl (by rw [ly]; kernel_rfl) oy ?_; intro w9 hrb hsb))
    have w9_c := (row_whole hra (by rw [ld]; decide)).but hsb (by omega)
    have w9_s := row_whole hrb (by rw [ly]; decide)
    have w9_b : Below w8.heap.size w8 w9 := hsb.below (hsa.below (zb _ _) (Nat.le_refl _)) (by omega)
    clear zc zs zb zs2 hra hrb hsa hsb w9a
    have HVY9 : Hid (∀ W, Below w9.heap.size w9 W → StV W vy u) := fun W hW => HVY.out W (w9_b.trans (hW.mono w9_b.size))
    have HY9 : Hid (Row w9 (w8.heap.size + 1) 29 (vy.vals u)) := w9_s
    have HB9 : Hid (Below w.heap.size w w9) := HB8.out.trans (w9_b.mono HB8.out.size)
    clear w9_c w9_s w9_b HB8 HVY od oy ld ly
    obtain ⟨Y0, hY0⟩ : ∃ Y0, w9.heap.size = Y0 := ⟨_, rfl⟩
    have HYZ : Hid (w9.heap.size = Y0) := hY0
    have hwY : w.heap.size ≤ Y0 := by rw [← hY0]; exact HB9.out.size
    rw [hY0] at HVY9
    clear hY0
    have HC0 : Hid (Chs Y0 u (fun _ => none) [] (w9.alloc (.cells #[] 29))) := ⟨fun j x hx => by simp at hx, fun j x hx => by simp at hx, fun j x hx => by simp at hx, fun i j x y _ hx => by simp at hx⟩
    have HT0 : Hid (Tol Y0 u [] (some ⟨w9.heap.size, 0, none⟩) 0 (w9.alloc (.cells #[] 29))) := ⟨owns_empty Y0 w9 (by rw [HYZ.out]; exact Nat.le_refl _) 29 3, fun B _ j x hx => by simp at hx⟩
    have HBY0 : Hid (Below Y0 w9 (w9.alloc (.cells #[] 29))) := (Below.refl _ _).alloc (by rw [HYZ.out]; exact Nat.le_refl _) _
    have hY1 : Y0 ≤ (w9.alloc (.cells #[] 29)).heap.size := by rw [← HYZ.out]; simp
    go_wp2_with fail
    go_loopw [16, 17] (fun lv iv wr => ∃ (ts : List Ch) (ao : Option Addr) (cc : Nat), ts.length ≤ 3 ∧ iv = .int .i64 (ts.length : Int) ∧ lv = .slice ao ts.length cc ∧ Y0 ≤ wr.heap.size ∧ Hid (Chs Y0 u (fun _ => none) ts wr) ∧ Hid (Tol Y0 u ts ao cc wr) ∧ Hid (Below Y0 w9 wr)) (fun _ iv _ => 3 - (intOf iv).toNat)
    case atStart => exact ⟨[], _, 0, by simp, rfl, rfl, hY1, HC0, HT0, HBY0⟩
    case round =>
      clear HC0 HT0 HBY0 hY1
      obtain ⟨ts, ao, cc, hts, rfl, rfl, hYw, HCH, HTO, HBY⟩ := hrel
      by_cases h3 : ts.length < 3
      · have z1 : (ts.length : Int) < 3 := by omega
        have CP := HCP.out wr
        go_wp2_with fail
        refine CP.mono ?_
        rintro e wa ⟨vx, qx, rfl, hvx, htx, hba⟩
        have HCHa : Hid (Chs Y0 u (fun _ => none) (ts ++ [(vx, qx, wr.heap.size, wa.heap.size)]) wa) := HCH.out.push hba rfl htx hYw
        have HTOa : Hid (Tol Y0 u ts ao cc wa) := HTO.out.below hba
        have HBYa : Hid (Below Y0 w9 wa) := HBY.out.trans (hba.mono hYw)
        have HVX : Hid (∀ W, Below wa.heap.size wa W → StV W vx u) := fun W hW => hvx.below hW (Nat.le_refl _)
        have hYa : Y0 ≤ wa.heap.size := Nat.le_trans hYw hba.size
        have hra : wr.heap.size ≤ wa.heap.size := hba.size
        have HTB : Hid (∀ B, ao = some ⟨B, 0, none⟩ → B < wr.heap.size) := fun B hB => (owns_at HTO.out.own B hB).2
        clear hvx htx hba HCH HTO HBY CP
        unfold Tells4
        dsimp only
        have ld := cfg_len d
        have od := cfg_one d
        have lv := sv_len vx u
        have ov := sv_one vx u
        have zc : ∀ o : Obj, Row ((wa.alloc (.cells #[.int .i64 0, .int .i64 0, .int .i64 0, .int .i64 0, .int .i64 0, .int .i64 0, .int .i64 0] 24)).alloc o) wa.heap.size 24 ([.int .i64 0, .int .i64 0, .int .i64 0, .int .i64 0, .int .i64 0, .int .i64 0, .int .i64 0] : List Value) := fun o => (Row.at _ _ _ _ _ rfl rfl).alloc _
        have zs : ∀ o : Obj, Row ((wa.alloc o).alloc (.cells #[.slice none 0 0, .slice none 0 0, .slice none 0 0] 29)) (wa.heap.size + 1) 29 [nilS, nilS, nilS] := fun o => Row.at _ _ _ _ _ (by simp) rfl
        have zb : ∀ o o2 : Obj, Below wa.heap.size wa ((wa.alloc o).alloc o2) := fun o o2 => ((Below.refl _ _).alloc (Nat.le_refl _) _).alloc (by simp) _
        go_upto_region 16 with (first | (refine wpList_store_Row rfl 24 _ _ rfl wa.heap.size 24 0 ([.int .i64 0, .int .i64 0, .int .i64 0, .int .i64 0, .int .i64 0, .int .i64 0, .int .i64 0] : List Value) d.vals (zc _) (by rw [ld]; decide) rfl rfl (by rw [ld]; kernel_rfl) od ?_; intro wba hra hsa; have zs2 := (zs _).but hsa (by omega)) | (refine wpList_store_Row rfl 29 _ _ rfl (wa.heap.size + 1) 29 0 [nilS, nilS, nilS] (vx.vals u) zs2 (by rw [lv]; decide) rfl rfl (by rw [lv]; kernel_rfl) ov ?_; intro wb hrb hsb))
        have wb_c := (row_whole hra (by rw [ld]; decide)).but hsb (by omega)
        have wb_s := row_whole hrb (by rw [lv]; decide)
        have wb_b : Below wa.heap.size wa wb := hsb.below (hsa.below (zb _ _) (Nat.le_refl _)) (by omega)
        clear zc zs zb zs2 hra hrb hsa hsb wba
        have HCHb : Hid (Chs Y0 u (fun _ => none) (ts ++ [(vx, qx, wr.heap.size, wa.heap.size)]) wb) := HCHa.out.below wb_b
        have HTOb : Hid (Tol Y0 u ts ao cc wb) := HTOa.out.below wb_b
        have HBYb : Hid (Below Y0 w9 wb) := HBYa.out.trans (wb_b.mono hYa)
        have hab : wa.heap.size ≤ wb.heap.size := wb_b.size
        have SM := HSM.out wb vx vy u (HVX.out _ wb_b) (HVY9.out _ HBYb.out) HLP.out
        have y9 : Row wb (w8.heap.size + 1) 29 (vy.vals u) := HY9.out.below HBYb.out (by rw [← HYZ.out]; exact HY9.out.lt)
        have p0 := wb_s.cell 0 (.slice vx.po u.pages.length vx.pc) rfl
        have p1 := wb_s.cell 1 (.slice vx.eo u.erases.length vx.ec) rfl
        have p2 := wb_s.cell 2 (.slice vx.bo u.blown.length vx.bc) rfl
        have t0 := y9.cell 0 (.slice vy.po u.pages.length vy.pc) rfl
        have t1 := y9.cell 1 (.slice vy.eo u.erases.length vy.ec) rfl
        have t2 := y9.cell 2 (.slice vy.bo u.blown.length vy.bc) rfl
        have HXb : Hid (Row wb (wa.heap.size + 1) 29 (vx.vals u)) := wb_s
        clear wb_c wb_s wb_b HCHa HTOa HBYa HVX y9 od ld
        go_wp2_with fail
        refine SM.mono ?_
        rintro e wc ⟨rfl, hbc⟩
        have xC : Row wc (wa.heap.size + 1) 29 (vx.vals u) := HXb.out.below hbc HXb.out.lt
        have HCHc : Hid (Chs Y0 u (fun _ => none) (ts ++ [(vx, qx, wr.heap.size, wa.heap.size)]) wc) := HCHb.out.below hbc
        have HTOc : Hid (Tol Y0 u ts ao cc wc) := HTOb.out.below hbc
        have hbz : Y0 ≤ wb.heap.size := by omega
        have HBYc : Hid (Below Y0 w9 wc) := HBYb.out.trans (hbc.mono hbz)
        have hbc2 : wb.heap.size ≤ wc.heap.size := hbc.size
        have how := owns_base HTOc.out.own (Nat.zero_le _)
        have HOW : Hid (wc.ownsRow 0 29 3 (.slice ao ts.length cc) ts.length (ts.flatMap fun x => x.1.vals u)) := how
        clear SM hbc HXb HCHb HTOb HBYb p0 p1 p2 t0 t1 t2 how
        dsimp only
        have x0 := xC.cell 0 (.slice vx.po u.pages.length vx.pc) rfl
        have x1 := xC.cell 1 (.slice vx.eo u.erases.length vx.ec) rfl
        have x2 := xC.cell 2 (.slice vx.bo u.blown.length vx.bc) rfl
        have wi : IntKind.i64.wrap ((ts.length : Int) + 1) = (ts.length : Int) + 1 := i64_in _ (by omega) (by omega)
        clear xC
        go_wp2_with (at_builtin; refine wpList_append_pre el_chips rfl (.tmp 96) (.tmp 98) rfl 29 ao ts.length cc _ (vx.vals u) rfl _ rfl rfl HOW.out rfl ov (by unfold maxLen; omega) (by omega) ?_; intro ao6 c6 w6 ho6 hap6)
        have hch6 : Chs Y0 u (fun _ => none) (ts ++ [(vx, qx, wr.heap.size, wa.heap.size)]) w6 := HCHc.out.keep (fun b j x hx h1 h2 => hap6.other b (Nat.lt_of_lt_of_le h2 (HCHc.out.hi j x hx)) (fun g hg e => by
          subst e
          by_cases hj : j < ts.length
          · rw [List.getElem?_append_left hj] at hx
            exact HTOc.out.tb b hg j x hx ⟨h1, h2⟩
          · rw [List.getElem?_append_right (by omega)] at hx
            have h0 := (List.getElem?_eq_some_iff.1 hx).1
            have hj0 : j - ts.length = 0 := by simpa using h0
            rw [hj0] at hx
            injection hx with hx
            rw [← hx] at h1
            have := HTB.out b hg
            dsimp only at h1
            omega)) hap6.size
        have hto6 : Tol Y0 u (ts ++ [(vx, qx, wr.heap.size, wa.heap.size)]) ao6 c6 w6 := HTOc.out.push (x := (vx, qx, wr.heap.size, wa.heap.size)) ho6 hap6 (by omega) (by show wa.heap.size ≤ _; omega) (fun j y hy => HCHc.out.hi j y (by rw [List.getElem?_append_left (List.getElem?_eq_some_iff.1 hy).1]; exact hy)) (fun B hB => by have := HTB.out B hB; dsimp only; omega)
        have hby6 : Below Y0 w9 w6 := ⟨hap6.os.trans HBYc.out.os, hap6.tape.trans HBYc.out.tape, hap6.output.trans HBYc.out.output, Nat.le_trans HBYc.out.size hap6.size, fun b hb => (hap6.other b (by omega) (fun g hg e => by have := (owns_at HTOc.out.own g hg).1; omega)).trans (HBYc.out.block b hb)⟩
        have hz6 := hap6.size
        exact ⟨⟨ts ++ [(vx, qx, wr.heap.size, wa.heap.size)], ao6, c6, by rw [List.length_append]; simp; omega, by rw [List.length_append]; simp, by rw [List.length_append]; rfl, by omega, hch6, hto6, hby6⟩, by simp [intOf]; omega⟩
      · have h3' : ts.length = 3 := by omega
        have z1 : ¬ (ts.length : Int) < 3 := by omega
        obtain ⟨wk, hwk⟩ : ∃ wk, wk = wr := ⟨wr, rfl⟩
        subst hwk
        have HC1 : Hid (Chs Y0 u (fun j => if j < 0 then some (j + 1) else none) ts wk) := by
          have e : (fun j : Nat => if j < 0 then some (j + 1) else (none : Option Nat)) = fun _ => none := by funext j; rw [if_neg (by omega)]
          rw [e]; exact HCH.out
        clear HCH
        go_wp2_with fail
        go_loopw [102] (fun iv wr => ∃ i : Nat, i ≤ ts.length ∧ iv = .int .i64 i ∧ Y0 ≤ wr.heap.size ∧ Hid (Chs Y0 u (fun j => if j < i then some (j + 1) else none) ts wr) ∧ Hid (Tol Y0 u ts ao cc wr) ∧ Hid (Below Y0 w9 wr)) (fun iv _ => ts.length - (intOf iv).toNat)
        case atStart => exact ⟨0, by omega, rfl, hYw, HC1, HTO, HBY⟩
        case round =>
          clear HC1 HTO HBY hYw
          obtain ⟨i, hi, rfl, hYw, HCH, HTO, HBY⟩ := hrel
          by_cases hlt : i < ts.length
          · have y0 : (0 : Int) ≤ (i : Int) := by omega
            have y1 : (i : Int) < (ts.length : Int) := by omega
            obtain ⟨x, hx⟩ : ∃ x, ts[i]? = some x := ⟨_, List.getElem?_eq_getElem hlt⟩
            obtain ⟨TB, hao, hrng⟩ := HTO.out.at i x hx
            have HAO : Hid (ao = some ⟨TB, 0, none⟩) := hao
            have HXI : Hid (ts[i]? = some x) := hx
            have HRG : Hid (wr.rangeAt TB (i * 3) (x.1.vals u)) := hrng
            have HTL : Hid (Tld x.2.2.1 x.2.2.2 wr x.1 u x.2.1) := by
              have := HCH.out.each i x hx
              rw [if_neg (by omega)] at this
              exact this
            rw [hao]
            have lx := sv_len x.1 u
            have ox := sv_one x.1 u
            obtain ⟨VX, hVX⟩ : ∃ VX, x.1.vals u = VX := ⟨_, rfl⟩
            have HVE : Hid (x.1.vals u = VX) := hVX
            rw [hVX] at HRG lx ox
            have zs : Row (wr.alloc (.cells #[.slice none 0 0, .slice none 0 0, .slice none 0 0] 29)) wr.heap.size 29 [nilS, nilS, nilS] := Row.at _ _ _ _ _ rfl rfl
            have wi : IntKind.i64.wrap ((i : Int) + 1) = (i : Int) + 1 := i64_in _ (by omega) (by omega)
            clear hx hao hrng hVX
            go_upto_region 22 with (first | (refine wpList_load_mid rfl 29 _ rfl TB (i * 3) rfl VX _ HRG.out Tryd.underlying29 rfl (by rw [lx]; kernel_rfl) ?_) | (refine wpList_store_Row rfl 29 _ _ rfl wr.heap.size 29 0 [nilS, nilS, nilS] VX zs (by rw [lx]; decide) rfl rfl (by rw [lx]; kernel_rfl) ox ?_; intro wm hrm hsm))
            have xm := row_whole hrm (by rw [lx]; decide)
            have hbm : Below wr.heap.size wr wm := hsm.below ((Below.refl _ _).alloc (Nat.le_refl _) _) (Nat.le_refl _)
            have HCHm : Hid (Chs Y0 u (fun j => if j < i then some (j + 1) else none) ts wm) := HCH.out.below hbm
            have HTOm : Hid (Tol Y0 u ts ao cc wm) := HTO.out.below hbm
            have HBYm : Hid (Below Y0 w9 wm) := HBY.out.trans (hbm.mono hYw)
            have hYm : Y0 ≤ wm.heap.size := Nat.le_trans hYw hbm.size
            have HTLm : Hid (Tld x.2.2.1 x.2.2.2 wm x.1 u x.2.1) := HTL.out.keep (fun b _ h2 => hbm.block b (Nat.lt_of_lt_of_le h2 HTL.out.up)) hbm.size
            have SPO : Calls Tryd.prog 18 #[.agg VX.toArray, .int .i64 ((i + 1 : Nat) : Int)] wm fun e w' => e = .returned (.tuple #[]) ∧ Mkd x.2.2.1 x.2.2.2 w' x.1 u x.2.1 (i + 1) ∧ KeptR x.2.2.1 x.2.2.2 wm w' := by
              have := l21spoil_any x.2.2.1 x.2.2.2 x.1 u x.2.1 (i + 1) (by omega) wm HTLm.out HSP.out.1 HSP.out.2.1 HSP.out.2.2.1 HSP.out.2.2.2
              rw [HVE.out] at this
              exact this
            clear hrm hsm zs HCH HTO HBY HTL HRG hbm ox
            have wi2 : IntKind.i64.wrap ((i : Int) + 1) = ((i + 1 : Nat) : Int) := by rw [i64_in _ (by omega) (by omega)]; omega
            clear wi
            obtain ⟨I1, hI1⟩ : ∃ I1, i + 1 = I1 := ⟨_, rfl⟩
            rw [hI1] at SPO wi2
            have HI1 : Hid (i + 1 = I1) := hI1
            clear hI1
            go_wp2_with (refine wpList_load_Row rfl 29 _ rfl _ _ VX xm rfl _ Tryd.underlying29 rfl (by rw [lx]; kernel_rfl) ?_)
            refine SPO.mono ?_
            rintro e wn ⟨rfl, hmk, hkr⟩
            have HCHn : Hid (Chs Y0 u (fun j => if j < I1 then some (j + 1) else none) ts wn) := by
              have h1 := HCHm.out.spoil HXI.out hmk hkr
              have e : (fun j : Nat => if j = i then some I1 else if j < i then some (j + 1) else (none : Option Nat)) = fun j => if j < I1 then some (j + 1) else none := by
                funext j
                have := HI1.out
                by_cases h1 : j = i
                · rw [if_pos h1, if_pos (by omega), h1, this]
                · rw [if_neg h1]
                  by_cases h2 : j < i
                  · rw [if_pos h2, if_pos (by omega)]
                  · rw [if_neg h2, if_neg (by omega)]
              rw [e] at h1
              exact h1
            have HTOn : Hid (Tol Y0 u ts ao cc wn) := HTOm.out.kr HXI.out hkr
            have HBYn : Hid (Below Y0 w9 wn) := HCHm.out.below_spoil HXI.out hkr HBYm.out hYm
            have hYn : Y0 ≤ wn.heap.size := Nat.le_trans hYm hkr.size
            clear SPO hmk hkr HCHm HTOm HBYm HTLm xm
            dsimp only
            go_wp2
            rw [← HAO.out]
            exact ⟨⟨I1, by have := HI1.out; omega, by first | rfl | go_num, hYn, HCHn, HTOn, HBYn⟩, by have := HI1.out; simp [intOf]; omega⟩
          · have hin : i = ts.length := by omega
            have y1 : ¬ (i : Int) < (ts.length : Int) := by omega
            have HC2 : Hid (Chs Y0 u (fun j => some (j + 1)) ts wr) := by
              refine ⟨fun j x hx => ?_, HCH.out.lo, HCH.out.hi, HCH.out.sep⟩
              have := HCH.out.each j x hx
              rw [if_pos (by rw [hin]; exact (List.getElem?_eq_some_iff.1 hx).1)] at this
              exact this
            obtain ⟨wl, hwl⟩ : ∃ wl, wl = wr := ⟨wr, rfl⟩
            subst hwl
            clear HCH
            go_wp2_with fail
            go_loopw [114] (fun iv wr => ∃ i : Nat, i ≤ ts.length ∧ iv = .int .i64 i ∧ Hid (Below wl.heap.size wl wr)) (fun iv _ => ts.length - (intOf iv).toNat)
            case atStart => exact ⟨0, by omega, rfl, Below.refl _ _⟩
            case round =>
              obtain ⟨i, hi, rfl, HBL⟩ := hrel
              by_cases hlt : i < ts.length
              · have y0 : (0 : Int) ≤ (i : Int) := by omega
                have y1 : (i : Int) < (ts.length : Int) := by omega
                obtain ⟨x, hx⟩ : ∃ x, ts[i]? = some x := ⟨_, List.getElem?_eq_getElem hlt⟩
                obtain ⟨TB, hao, hrng⟩ := (HTO.out.below HBL.out).at i x hx
                have HAO : Hid (ao = some ⟨TB, 0, none⟩) := hao
                have HRG : Hid (wr.rangeAt TB (i * 3) (x.1.vals u)) := hrng
                have HMK : Hid (Mkd x.2.2.1 x.2.2.2 wr x.1 u x.2.1 (i + 1)) := (HC2.out.below HBL.out).each i x hx
                rw [hao]
                have lx := sv_len x.1 u
                have ox := sv_one x.1 u
                obtain ⟨VX, hVX⟩ : ∃ VX, x.1.vals u = VX := ⟨_, rfl⟩
                have HVE : Hid (x.1.vals u = VX) := hVX
                rw [hVX] at HRG lx ox
                have zs : Row (wr.alloc (.cells #[.slice none 0 0, .slice none 0 0, .slice none 0 0] 29)) wr.heap.size 29 [nilS, nilS, nilS] := Row.at _ _ _ _ _ rfl rfl
                clear hx hao hrng hVX
                go_upto_region 27 with (first | (refine wpList_load_mid rfl 29 _ rfl TB (i * 3) rfl VX _ HRG.out Tryd.underlying29 rfl (by rw [lx]; kernel_rfl) ?_) | (refine wpList_store_Row rfl 29 _ _ rfl wr.heap.size 29 0 [nilS, nilS, nilS] VX zs (by rw [lx]; decide) rfl rfl (by rw [lx]; kernel_rfl) ox ?_; intro wm hrm hsm))
                have xm := row_whole hrm (by rw [lx]; decide)
                have hbm : Below wr.heap.size wr wm := hsm.below ((Below.refl _ _).alloc (Nat.le_refl _) _) (Nat.le_refl _)
                have HBLm : Hid (Below wl.heap.size wl wm) := HBL.out.trans (hbm.mono HBL.out.size)
                have SPT : Calls Tryd.prog 19 #[.agg VX.toArray, .int .i64 ((i + 1 : Nat) : Int)] wm fun e w' => e = .returned (.bool true) ∧ Below wm.heap.size wm w' := by
                  have := l21spoilt_any x.1 u (i + 1) (by omega) wm (HMK.out.view.below hbm (Nat.le_refl _)) HSP.out.1 HSP.out.2.1 HSP.out.2.2.1 HSP.out.2.2.2
                  rw [HVE.out] at this
                  exact this
                clear hrm hsm zs HRG hbm ox HMK HBL
                have wi2 : IntKind.i64.wrap ((i : Int) + 1) = ((i + 1 : Nat) : Int) := by rw [i64_in _ (by omega) (by omega)]; omega
                obtain ⟨I1, hI1⟩ : ∃ I1, i + 1 = I1 := ⟨_, rfl⟩
                rw [hI1] at SPT wi2
                have HI1 : Hid (i + 1 = I1) := hI1
                clear hI1
                go_wp2_with (refine wpList_load_Row rfl 29 _ rfl _ _ VX xm rfl _ Tryd.underlying29 rfl (by rw [lx]; kernel_rfl) ?_)
                refine SPT.mono ?_
                rintro e wn ⟨rfl, hbn⟩
                have HBLn : Hid (Below wl.heap.size wl wn) := HBLm.out.trans (hbn.mono HBLm.out.size)
                clear SPT hbn HBLm xm
                dsimp only
                go_wp2
                exact ⟨⟨I1, by have := HI1.out; omega, by first | rfl | go_num, HBLn⟩, by have := HI1.out; simp [intOf]; omega⟩
              · have y1 : ¬ (i : Int) < (ts.length : Int) := by omega
                have HBYr : Hid (Below Y0 w9 wr) := HBY.out.trans (HBL.out.mono hYw)
                have hYr : Y0 ≤ wr.heap.size := Nat.le_trans hYw HBL.out.size
                have CP := HCP.out wr
                clear HC2 HTO HBY HBL
                go_wp2_with fail
                refine CP.mono ?_
                rintro e wa ⟨vx, qx, rfl, hvx, htx, hba⟩
                have HBYa : Hid (Below Y0 w9 wa) := HBYr.out.trans (hba.mono hYr)
                have HVX : Hid (∀ W, Below wa.heap.size wa W → StV W vx u) := fun W hW => hvx.below hW (Nat.le_refl _)
                have hYa : Y0 ≤ wa.heap.size := Nat.le_trans hYr hba.size
                clear hvx htx hba HBYr CP
                unfold Tells4
                dsimp only
                have ld := cfg_len d
                have od := cfg_one d
                have lv := sv_len vx u
                have ov := sv_one vx u
                have zc : ∀ o : Obj, Row ((wa.alloc (.cells #[.int .i64 0, .int .i64 0, .int .i64 0, .int .i64 0, .int .i64 0, .int .i64 0, .int .i64 0] 24)).alloc o) wa.heap.size 24 ([.int .i64 0, .int .i64 0, .int .i64 0, .int .i64 0, .int .i64 0, .int .i64 0, .int .i64 0] : List Value) := fun o => (Row.at _ _ _ _ _ rfl rfl).alloc _
                have zs : ∀ o : Obj, Row ((wa.alloc o).alloc (.cells #[.slice none 0 0, .slice none 0 0, .slice none 0 0] 29)) (wa.heap.size + 1) 29 [nilS, nilS, nilS] := fun o => Row.at _ _ _ _ _ (by simp) rfl
                have zb : ∀ o o2 : Obj, Below wa.heap.size wa ((wa.alloc o).alloc o2) := fun o o2 => ((Below.refl _ _).alloc (Nat.le_refl _) _).alloc (by simp) _
                go_upto_region 31 with (first | (refine wpList_store_Row rfl 24 _ _ rfl wa.heap.size 24 0 ([.int .i64 0, .int .i64 0, .int .i64 0, .int .i64 0, .int .i64 0, .int .i64 0, .int .i64 0] : List Value) d.vals (zc _) (by rw [ld]; decide) rfl rfl (by rw [ld]; kernel_rfl) od ?_; intro wba hra hsa; have zs2 := (zs _).but hsa (by omega)) | (refine wpList_store_Row rfl 29 _ _ rfl (wa.heap.size + 1) 29 0 [nilS, nilS, nilS] (vx.vals u) zs2 (by rw [lv]; decide) rfl rfl (by rw [lv]; kernel_rfl) ov ?_; intro wb hrb hsb))
                have wb_c := (row_whole hra (by rw [ld]; decide)).but hsb (by omega)
                have wb_s := row_whole hrb (by rw [lv]; decide)
                have wb_b : Below wa.heap.size wa wb := hsb.below (hsa.below (zb _ _) (Nat.le_refl _)) (by omega)
                clear zc zs zb zs2 hra hrb hsa hsb wba
                have HBYb : Hid (Below Y0 w9 wb) := HBYa.out.trans (wb_b.mono hYa)
                have hab : wa.heap.size ≤ wb.heap.size := wb_b.size
                have SM := HSM.out wb vx vy u (HVX.out _ wb_b) (HVY9.out _ HBYb.out) HLP.out
                have y9 : Row wb (w8.heap.size + 1) 29 (vy.vals u) := HY9.out.below HBYb.out (by rw [← HYZ.out]; exact HY9.out.lt)
                have p0 := wb_s.cell 0 (.slice vx.po u.pages.length vx.pc) rfl
                have p1 := wb_s.cell 1 (.slice vx.eo u.erases.length vx.ec) rfl
                have p2 := wb_s.cell 2 (.slice vx.bo u.blown.length vx.bc) rfl
                have t0 := y9.cell 0 (.slice vy.po u.pages.length vy.pc) rfl
                have t1 := y9.cell 1 (.slice vy.eo u.erases.length vy.ec) rfl
                have t2 := y9.cell 2 (.slice vy.bo u.blown.length vy.bc) rfl
                clear wb_c wb_s wb_b HBYa HVX y9 od ld
                go_wp2_with fail
                refine SM.mono ?_
                rintro e wc ⟨rfl, hbc⟩
                have HBYc : Hid (Below Y0 w9 wc) := HBYb.out.trans (hbc.mono (by omega))
                have HFIN : Hid (Below w.heap.size w wc) := HB9.out.trans (HBYc.out.mono hwY)
                clear SM hbc HBYb p0 p1 p2 t0 t1 t2 HBYc
                dsimp only
                go_wp2
                go_ret
                exact ⟨rfl, HFIN.out⟩
end Go.Proofs.YtgpnbiaghokjkaaDoor
