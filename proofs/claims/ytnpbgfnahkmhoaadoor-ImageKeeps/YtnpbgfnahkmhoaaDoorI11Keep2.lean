
import Derived.Test.YtnpbgfnahkmhoaaDoorI11KeepR
/-! The law's own walk: ImageKeeps. (Printed by tools/genkeep11.py.) -/
namespace Go.Proofs.YtnpbgfnahkmhoaaDoor
open Go.RowKit
set_option linter.unusedVariables false

set_option maxHeartbeats 4000000 in
set_option maxRecDepth 100000 in
theorem keeps_any (so : Option Addr) (sn sc : Nat) (sec : List By) (hsec : sec.length = sn) (bo : Option Addr) (bn bc : Nat) (b : List By) (hb0 : b.length = bn) (s k v : Int) (ao : Option Addr) (n cap : Nat) (p t : List By) (hp : p.length = n) (ht : t.length = 32) (w : World) (hg : HG w)
    (hsb : IsB w so sec) (hsn : so = none → sc = 0) (hsc : sn ≤ sc) (hsl : sn ≤ 140737488351232) (hbb : IsB w bo b) (hbn : bo = none → bc = 0) (hbc : bn ≤ bc) (hbl : bn ≤ 140737488351232) (hb : IsB w ao p) (hnil : ao = none → cap = 0) (hcap : n ≤ cap) (hl : n ≤ 140737488351232) :
    Calls Tryd.prog 8 #[.slice so sn sc, .slice bo bn bc, .agg (imgC s k v (.slice ao n cap) t).toArray] w fun e w' => e = .returned (.bool true) ∧ Below w.heap.size w w' := by
  have b1 : Below w.heap.size w (w.alloc (.cells (imgC s k v (.slice ao n cap) t).toArray 27)) := (Below.refl _ _).alloc (Nat.le_refl _) _
  have r0 := Row.at w 27 (imgC s k v (.slice ao n cap) t) _ _ rfl rfl
  have hil := imgC_len s k v (.slice ao n cap) t ht
  have h1 := imgC_one s k v ao n cap t
  have AW := awake_any _ (hg.below b1 hg.lt)
  have HGW : Hid (HG w) := hg
  have SB : Hid (∀ W, Below w.heap.size w W → IsB W so sec) := fun W h => hsb.below h (Nat.le_refl _)
  have BB : Hid (∀ W, Below w.heap.size w W → IsB W bo b) := fun W h => hbb.below h (Nat.le_refl _)
  have PB : Hid (∀ W, Below w.heap.size w W → IsB W ao p) := fun W h => hb.below h (Nat.le_refl _)
  have HX3 : Hid ((imgC s k v (.slice ao n cap) t)[3]? = some (.slice ao n cap)) := rfl
  have HS3 : Hid (∀ pl, (imgC s k v (.slice ao n cap) t).set 3 pl = imgC s k v pl t) := fun pl => imgC_setpl s k v _ pl t
  have HSEC : Hid (sec.length = sn) := hsec
  have HBL : Hid (b.length = bn) := hb0
  have HPL : Hid (p.length = n) := hp
  have HTL : Hid (t.length = 32) := ht
  -- what is told, as data
  have RM : Hid (∀ W, Below w.heap.size w W → Calls Tryd.prog 11 #[.slice so sn sc, .agg (imgC s k v (.slice ao n cap) t).toArray] W fun e w' => ∃ ao' c', e = .returned (.tuple #[.slice ao' (mkB sec s k v p).length c', .int .i64 (may s k v n)]) ∧ Own W.heap.size w' (.slice ao' (mkB sec s k v p).length c') (mkB sec s k v p) ∧ Below W.heap.size W w') :=
    fun W h => rmake_any so sn sc sec hsec s k v ao n cap p t hp ht W (SB.out W h) hsn hsl (PB.out W h) hnil
  have RP : Hid (∀ W, Below w.heap.size w W → Calls Tryd.prog 14 #[.slice bo bn bc] W fun e w' => ∃ ao' c', e = .returned (.tuple #[.agg (imgC (pd b).s (pd b).k (pd b).v (.slice ao' (pd b).pl.length c') (pd b).tg).toArray, .agg #[.int .i64 (pd b).E, .int .i64 (pd b).At]]) ∧ Own W.heap.size w' (.slice ao' (pd b).pl.length c') (pd b).pl ∧ Below W.heap.size W w') :=
    fun W h => rparse_any bo bn bc b hb0 W (BB.out W h) hbc
  have RB : Hid (∀ W, Below w.heap.size w W → Calls Tryd.prog 18 #[.slice bo bn bc] W fun e w' => ∃ ao' c', e = .returned (.slice ao' (bn - 32) c') ∧ Own W.heap.size w' (.slice ao' (bn - 32) c') (b.take (bn - 32)) ∧ Below W.heap.size W w') :=
    fun W h => rbody_any bo bn bc b hb0 W (BB.out W h) hbc (by omega)
  have CM : Hid (∀ (gs cs gp cp : Nat) (W : World), IsB W (some ⟨gs, 0, none⟩) sec → sn ≤ cs → IsB W (some ⟨gp, 0, none⟩) p → n ≤ cp → Calls Tryd.prog 10 #[.slice (some ⟨gs, 0, none⟩) sn cs, .agg (imgC s k v (.slice (some ⟨gp, 0, none⟩) n cp) t).toArray] W fun e w' => ∃ ao' c', e = .returned (.tuple #[.slice ao' (mkB sec s k v p).length c', .int .i64 (may s k v n)]) ∧ Own W.heap.size w' (.slice ao' (mkB sec s k v p).length c') (mkB sec s k v p) ∧ Below W.heap.size W w') :=
    fun gs cs gp cp W h1 h2 h3 h4 => cmake_any _ sn cs sec hsec s k v _ n cp p t hp ht W h1 (fun e => by cases e) h2 hsl h3 (fun e => by cases e) h4 hl
  have CP : Hid (∀ (o : Option Addr) (c : Nat) (W : World), IsB W o b → (o = none → c = 0) → bn ≤ c → Calls Tryd.prog 13 #[.slice o bn c] W fun e w' => ∃ ao' c' fv, e = .returned (.tuple #[.agg (imgC (pd b).s (pd b).k (pd b).v (.slice ao' (pd b).pl.length c') (pd b).tg).toArray, fv]) ∧ Own W.heap.size w' (.slice ao' (pd b).pl.length c') (pd b).pl ∧ Tells W.heap.size w' fv (pd b).E (pd b).At ∧ Below W.heap.size W w') :=
    fun o c W h1 h2 h3 => cparse_any o bn c b hb0 W h1 h2 h3 hbl
  have CB : Hid (∀ (gi ci : Nat) (W : World), IsB W (some ⟨gi, 0, none⟩) b → bn ≤ ci → Calls Tryd.prog 17 #[.slice (some ⟨gi, 0, none⟩) bn ci] W fun e w' => ∃ ao' c', e = .returned (.slice ao' (bn - 32) c') ∧ Own W.heap.size w' (.slice ao' (bn - 32) c') (b.take (bn - 32)) ∧ Below W.heap.size W w') :=
    fun gi ci W h1 h2 => cbody_any _ bn ci b hb0 W h1 (fun e => by cases e) h2 (by omega)
  have HWS : Hid (∀ W, Below (w.heap.size) w W → Calls Tryd.prog 21 #[.slice so sn sc] W fun e w' => ∃ g c, e = .returned (.slice (some ⟨g, 0, none⟩) sn c) ∧ Own W.heap.size w' (.slice (some ⟨g, 0, none⟩) (sn + 5) c) (sec ++ marks) ∧ Below W.heap.size W w') := fun W h => wide_any so sn sc sec hsec W (SB.out W h) hsn hsl
  have HWB : Hid (∀ W, Below (w.heap.size) w W → Calls Tryd.prog 21 #[.slice bo bn bc] W fun e w' => ∃ g c, e = .returned (.slice (some ⟨g, 0, none⟩) bn c) ∧ Own W.heap.size w' (.slice (some ⟨g, 0, none⟩) (bn + 5) c) (b ++ marks) ∧ Below W.heap.size W w') := fun W h => wide_any bo bn bc b hb0 W (BB.out W h) hbn hbl
  have HWP : Hid (∀ W, Below (w.heap.size) w W → Calls Tryd.prog 21 #[.slice ao n cap] W fun e w' => ∃ g c, e = .returned (.slice (some ⟨g, 0, none⟩) n c) ∧ Own W.heap.size w' (.slice (some ⟨g, 0, none⟩) (n + 5) c) (p ++ marks) ∧ Below W.heap.size W w') := fun W h => wide_any ao n cap p hp W (PB.out W h) hnil hl
  have HDT : Hid ((pd b).tg.length = 32) := pd_tg b
  have HMKL : Hid ((mkB sec s k v p).length ≤ 524288) := mkB_len sec s k v p
  have HBC : Hid (bn ≤ bc) := hbc
  have HBN : Hid (bo = none → bc = 0) := hbn
  have HDP : Hid ((pd b).pl.length ≤ 524240) := pd_pl b
  have HEW : Hid (∀ w : World, (Op.equalIn 10000 39 (.agg #[.int .i64 (pd b).E, .int .i64 (pd b).At]) (.agg #[.int .i64 (pd b).E, .int .i64 (pd b).At])).run Tryd.prog w = .ok true w) := eq_wrong (pd b).E (pd b).At (pd_small b).1 (pd_small b).2
  generalize pd b = D at *
  obtain ⟨BD, hBD⟩ : ∃ BD, b.take (bn - 32) = BD := ⟨_, rfl⟩
  have HBD : Hid (BD.length = bn - 32) := by show _ = _; rw [← hBD, List.length_take, hb0]; omega
  rw [hBD] at RB CB
  generalize imgC s k v (.slice ao n cap) t = IM at *
  generalize may s k v n = E at *
  generalize mkB sec s k v p = MK at *
  clear hsb hbb hb hsn hsc hbc hnil hcap hsec hb0 hp ht hg
  go_enter Tryd.func8, Tryd.ntmps8
  go_wp2_with fail
  refine AW.mono ?_
  rintro e W1 ⟨rfl, hb2⟩
  have bb2 := b1.trans (hb2.mono (by simp))
  replace r0 := r0.below hb2 (by simp)
  clear hb2 b1 AW
  have HC3 : Hid (∀ W, Below W1.heap.size W1 W → W.cell? ⟨w.heap.size, 3, none⟩ = some (.slice ao n cap)) := fun W h => (r0.below h r0.lt).cell 3 _ HX3.out
  have lift : ∀ W, Below W1.heap.size W1 W → Below w.heap.size w W := fun W h => bb2.trans (h.mono bb2.size)
  replace HWS : Hid (∀ W, Below W1.heap.size W1 W → Calls Tryd.prog 21 #[.slice so sn sc] W fun e w' => ∃ g c, e = .returned (.slice (some ⟨g, 0, none⟩) sn c) ∧ Own W.heap.size w' (.slice (some ⟨g, 0, none⟩) (sn + 5) c) (sec ++ marks) ∧ Below W.heap.size W w') := fun W h => HWS.out W (lift W h)
  replace HWB : Hid (∀ W, Below W1.heap.size W1 W → Calls Tryd.prog 21 #[.slice bo bn bc] W fun e w' => ∃ g c, e = .returned (.slice (some ⟨g, 0, none⟩) bn c) ∧ Own W.heap.size w' (.slice (some ⟨g, 0, none⟩) (bn + 5) c) (b ++ marks) ∧ Below W.heap.size W w') := fun W h => HWB.out W (lift W h)
  replace HWP : Hid (∀ W, Below W1.heap.size W1 W → Calls Tryd.prog 21 #[.slice ao n cap] W fun e w' => ∃ g c, e = .returned (.slice (some ⟨g, 0, none⟩) n c) ∧ Own W.heap.size w' (.slice (some ⟨g, 0, none⟩) (n + 5) c) (p ++ marks) ∧ Below W.heap.size W w') := fun W h => HWP.out W (lift W h)
  clear lift
  go_wp2_with fail
  refine wp_region_inv (IK3 W1 so bo ao sn sc bn bc n cap w.heap.size sec b p _ _ _ _ _ _ _ _ _ _ _ _ _ _ _ _ _ _ _ _ _ _ _ _ _ _ _ _ _ _ _ _ _ _ _ _ _ _ _ _ _ _ _ _ _ _ _ _ _ _ _ _ _ _ _ _ _ _ _ _ _ _ _ _ _ _ _ _ _ _ _ _ _ _ _ _ _ _ _ _ _ _ _ _ _ _ _ _ _ _ _ _ _ _ _ _ _ _ _ _ _ _ _ _ _ _ _ _ _ _ _ _ _ _ _ _ _ _ _ _ _ _ _ _ _ _ _ _ _ _ _ _ _ _ _ _ _ _ _ _ _ _ _ _ _ _ _ _ _ _ _ _ _ _ _ _ _ _ _ _ _ _ _ _ _ _ _ _ _ _ _ _ _ _ _ _ _ _ _ _ _ _ _ _ _ _ _ _ _ _ _ _ _ _ _ _ _ _ _ _ _ _ _ _ _ _ _ _ _ _ _ _) (by kernel_rfl) (by kernel_rfl) ⟨_, _, _, _, _, _, _, _, _, _, rfl, ⟨(Below.refl _ _).drew, fun k => (by cases k), fun k => (by cases k), fun k => (by cases k), fun k => (by cases k), fun k => (by cases k), fun k => (by cases k), fun k => (by cases k), fun k => (by cases k), fun k => (by cases k), fun k => (by cases k)⟩⟩ ?_ ?_
  · refine .cons ?_ (.cons ?_ (.cons ?_ (.cons ?_ (.cons ?_ (.cons ?_ (.cons ?_ (.cons ?_ (.cons ?_ (.cons ?_ .nil)))))))))
    all_goals (refine K3.step ?_; intro x35 x36 x37 x38 x39 x40 x41 x7 x8 x9 L W hI hL hd K hK)
    · rw [if_pos (by rfl)]
      go_simp
      exact hK.out _ _ ⟨_, _, _, _, _, _, _, _, _, _, rfl, hI.s0⟩
    · have hx0 := hI.p0 (hd 0 (by decide))
      subst hx0
      rw [if_pos (by rfl)]
      go_simp
      refine (HWS.out W hI.x).mono ?_
      rintro e W2 ⟨g3, c3, rfl, ho3, hb3⟩
      replace ho3 : ∃ ao c, Value.slice (some ⟨g3, 0, none⟩) sn c3 = .slice ao (sn) c ∧ Own W1.heap.size W2 (.slice ao (sn + 5) c) _ := ⟨_, _, rfl, own_le ho3 hI.x.size⟩
      go_simp
      exact hK.out _ _ ⟨_, _, _, _, _, _, _, _, _, _, rfl, hI.s1 (hI.x.trans (hb3.mono hI.x.size)) hb3 ho3⟩
    · rw [if_pos (by rfl)]
      go_simp
      exact hK.out _ _ ⟨_, _, _, _, _, _, _, _, _, _, rfl, hI.s2⟩
    · have hx2 := hI.p2 (hd 2 (by decide))
      subst hx2
      rw [if_pos (by rfl)]
      go_simp
      refine (HWB.out W hI.x).mono ?_
      rintro e W2 ⟨g3, c3, rfl, ho3, hb3⟩
      replace ho3 : ∃ ao c, Value.slice (some ⟨g3, 0, none⟩) bn c3 = .slice ao (bn) c ∧ Own W1.heap.size W2 (.slice ao (bn + 5) c) _ := ⟨_, _, rfl, own_le ho3 hI.x.size⟩
      go_simp
      exact hK.out _ _ ⟨_, _, _, _, _, _, _, _, _, _, rfl, hI.s3 (hI.x.trans (hb3.mono hI.x.size)) hb3 ho3⟩
    · rw [if_pos (by rfl)]
      go_simp
      exact hK.out _ _ ⟨_, _, _, _, _, _, _, _, _, _, rfl, hI.s4⟩
    · have hx4 := hI.p4 (hd 4 (by decide))
      subst hx4
      rw [if_pos (by rfl)]
      have c3 := HC3.out W hI.x
      go_simp
      exact hK.out _ _ ⟨_, _, _, _, _, _, _, _, _, _, rfl, hI.s5⟩
    · have hx5 := hI.p5 (hd 5 (by decide))
      subst hx5
      rw [if_pos (by rfl)]
      go_simp
      refine (HWP.out W hI.x).mono ?_
      rintro e W2 ⟨g3, c3, rfl, ho3, hb3⟩
      replace ho3 : ∃ ao c, Value.slice (some ⟨g3, 0, none⟩) n c3 = .slice ao (n) c ∧ Own W1.heap.size W2 (.slice ao (n + 5) c) _ := ⟨_, _, rfl, own_le ho3 hI.x.size⟩
      go_simp
      exact hK.out _ _ ⟨_, _, _, _, _, _, _, _, _, _, rfl, hI.s6 (hI.x.trans (hb3.mono hI.x.size)) hb3 ho3⟩
    · obtain ⟨ao1, c1, hx1, ho1⟩ := hI.p1 (hd 1 (by decide))
      subst hx1
      rw [if_pos (by rfl)]
      have ho3 : ∃ ao c, Value.slice ao1 sn c1 = .slice ao sn c ∧ Own W1.heap.size W (.slice ao (sn + 5) c) _ := ⟨_, _, rfl, ho1⟩
      go_simp
      exact hK.out _ _ ⟨_, _, _, _, _, _, _, _, _, _, rfl, hI.s7 ho3⟩
    · obtain ⟨ao3, c3, hx3, ho3⟩ := hI.p3 (hd 3 (by decide))
      subst hx3
      rw [if_pos (by rfl)]
      have ho3 : ∃ ao c, Value.slice ao3 bn c3 = .slice ao bn c ∧ Own W1.heap.size W (.slice ao (bn + 5) c) _ := ⟨_, _, rfl, ho3⟩
      go_simp
      exact hK.out _ _ ⟨_, _, _, _, _, _, _, _, _, _, rfl, hI.s8 ho3⟩
    · obtain ⟨ao6, c6, hx6, ho6⟩ := hI.p6 (hd 6 (by decide))
      subst hx6
      rw [if_pos (by rfl)]
      have ho3 : ∃ ao c, Value.slice ao6 n c6 = .slice ao n c ∧ Own W1.heap.size W (.slice ao (n + 5) c) _ := ⟨_, _, rfl, ho6⟩
      go_simp
      exact hK.out _ _ ⟨_, _, _, _, _, _, _, _, _, _, rfl, hI.s9 ho3⟩
  · refine K3.ends ?_; intro x35 x36 x37 x38 x39 x40 x41 x7 x8 x9 L W hall hI
    have hx0 := hI.p0 (hall 0 (by decide))
    subst hx0
    obtain ⟨ao1, c1, hx1, ho1⟩ := hI.p1 (hall 1 (by decide))
    subst hx1
    have hx2 := hI.p2 (hall 2 (by decide))
    subst hx2
    obtain ⟨ao3, c3, hx3, ho3⟩ := hI.p3 (hall 3 (by decide))
    subst hx3
    have hx4 := hI.p4 (hall 4 (by decide))
    subst hx4
    have hx5 := hI.p5 (hall 5 (by decide))
    subst hx5
    obtain ⟨ao6, c6, hx6, ho6⟩ := hI.p6 (hall 6 (by decide))
    subst hx6
    obtain ⟨ao7, c7, hx7, ho7⟩ := hI.p7 (hall 7 (by decide))
    subst hx7
    obtain ⟨ao8, c8, hx8, ho8⟩ := hI.p8 (hall 8 (by decide))
    subst hx8
    obtain ⟨ao9, c9, hx9, ho9⟩ := hI.p9 (hall 9 (by decide))
    subst hx9
    have hXe := hI.x
    clear hI hall
    try dsimp only
    clear ho1 ho3 ho6 HWS HWB HWP HC3
    obtain ⟨gs, hgs, _, hgsl⟩ := ho7.at (by omega)
    obtain ⟨gi, hgi, _, hgil⟩ := ho8.at (by omega)
    obtain ⟨gp, hgp, _, hgpl⟩ := ho9.at (by omega)
    subst hgs hgi hgp
    have hcs := own_cap ho7
    have hci := own_cap ho8
    have hcp := own_cap ho9
    have bbW := bb2.trans (hXe.mono bb2.size)
    have rW := r0.below hXe r0.lt
    have hlow := r0.lt
    have hW1 := hXe.size
    clear r0 hXe bb2
    generalize hM : W.heap.size = M at *
    have rz := Row.at W 27 zImg zImg.toArray M hM.symm rfl
    have alW := (Below.refl W.heap.size W).alloc (Nat.le_refl _) (.cells zImg.toArray 27)
    have rW2 := rW.below alW (by omega)
    go_wp2_with (first | (refine wpList_load_Row rfl 27 _ rfl _ _ IM rW rfl _ Tryd.underlying27 rfl (by rw [hil]; kernel_rfl) ?_) | (refine wpList_store_Row rfl 27 _ _ rfl M 27 0 zImg IM rz (by rw [hil]; exact Nat.le_refl _) rfl rfl (by rw [hil]; kernel_rfl) h1 ?_; intro w3 hr3 hs3; have r3 := row_whole hr3 (by rw [hil]; exact Nat.le_of_eq zImg_len); have cc := r3.cell 3 _ HX3.out; have ff := r3.frozen 3; have rL := ((rW2.but hs3 (by omega)).but (SameBut.setCell M 3 (.slice (some ⟨gp, 0, none⟩) n c9) w3) (by omega)).alloc (.cells #[] 23)) | (refine wpList_load_Row rfl 27 _ rfl _ _ IM rL rfl _ Tryd.underlying27 rfl (by rw [hil]; kernel_rfl) ?_))
    have sm := SameBut.setCell M 3 (.slice (some ⟨gp, 0, none⟩) n c9) w3
    have hz3 : w3.heap.size = M + 1 := by rw [hs3.size]; simp [hM]
    have hzs : (w3.setCell ⟨M, 3, none⟩ (.slice (some ⟨gp, 0, none⟩) n c9)).heap.size = M + 1 := by rw [sm.size, hz3]
    have alB := (Below.refl (w3.setCell ⟨M, 3, none⟩ (.slice (some ⟨gp, 0, none⟩) n c9)).heap.size (w3.setCell ⟨M, 3, none⟩ (.slice (some ⟨gp, 0, none⟩) n c9))).alloc (Nat.le_refl _) (.cells #[] 23)
    have bWB : Below M W ((w3.setCell ⟨M, 3, none⟩ (.slice (some ⟨gp, 0, none⟩) n c9)).alloc (.cells #[] 23)) := by
      have h1 := hs3.below (by rw [hM] at alW; exact alW) (Nat.le_refl _)
      exact (sm.below h1 (Nat.le_refl _)).trans (alB.mono (by omega))
    have rM := (r3.set 3 (.slice (some ⟨gp, 0, none⟩) n c9)).alloc (.cells #[] 23)
    rw [HS3.out] at rM
    have oO : OwnS M ((w3.setCell ⟨M, 3, none⟩ (.slice (some ⟨gp, 0, none⟩) n c9)).alloc (.cells #[] 23)) (some ⟨M + 1, 0, none⟩) 0 [] := by
      have hh := heap_alloc_new (w3.setCell ⟨M, 3, none⟩ (.slice (some ⟨gp, 0, none⟩) n c9)) (.cells #[] 23)
      rw [hzs] at hh
      exact ⟨⟨by simp, .inr ⟨M + 1, 0, #[], rfl, by omega, hh, by simp, by unfold maxLen; omega, by simp, by simp⟩⟩, by simp; omega⟩
    have hzB : ((w3.setCell ⟨M, 3, none⟩ (.slice (some ⟨gp, 0, none⟩) n c9)).alloc (.cells #[] 23)).heap.size = M + 2 := by simp; omega
    rw [hz3]
    generalize ((w3.setCell ⟨M, 3, none⟩ (.slice (some ⟨gp, 0, none⟩) n c9)).alloc (.cells #[] 23)) = wB at *
    have bbB : Below w.heap.size w wB := bbW.trans (bWB.mono (by omega))
    replace ho7 := ho7.of_block (w' := wB) (by omega) (fun B off e => bWB.block B (by injection e with e; injection e with e _; omega))
    replace ho8 := ho8.of_block (w' := wB) (by omega) (fun B off e => bWB.block B (by injection e with e; injection e with e _; omega))
    replace ho9 := ho9.of_block (w' := wB) (by omega) (fun B off e => bWB.block B (by injection e with e; injection e with e _; omega))
    clear hr3 hs3 r3 cc ff sm alB rz alW rW2 rW bWB bbW hzs hz3 w3 hM
    refine (RM.out _ bbB).mono ?_
    rintro e w4 ⟨aoW, cW, rfl, hoW, hb4⟩
    have bb4 := bbB.trans (hb4.mono bbB.size)
    replace rL := rL.below hb4 rL.lt
    replace rM := rM.below hb4 rM.lt
    replace oO := oO.of_block (w' := w4) (by have := hb4.size; omega) (fun B e => hb4.block B (by injection e with e; injection e with e _; omega))
    replace ho7 := ho7.keep hb4
    replace ho8 := ho8.keep hb4
    replace ho9 := ho9.keep hb4
    have hz4 := hb4.size
    clear hb4 bbB RM
    go_wp2_with fail
    refine (RP.out _ bb4).mono ?_
    rintro e w5 ⟨aoY, cY, rfl, hoY, hb5⟩
    have bb5 := bb4.trans (hb5.mono bb4.size)
    replace rL := rL.below hb5 rL.lt
    replace rM := rM.below hb5 rM.lt
    replace oO := oO.of_block (w' := w5) (by have := hb5.size; omega) (fun B e => hb5.block B (by injection e with e; injection e with e _; omega))
    replace ho7 := ho7.keep hb5
    replace ho8 := ho8.keep hb5
    replace ho9 := ho9.keep hb5
    replace hoW := hoW.keep hb5
    have hz5 := hb5.size
    have hilY := imgC_len D.s D.k D.v (.slice aoY D.pl.length cY) D.tg HDT.out
    have h1Y := imgC_one D.s D.k D.v aoY D.pl.length cY D.tg
    have HY3 : Hid ((imgC D.s D.k D.v (.slice aoY D.pl.length cY) D.tg)[3]? = some (.slice aoY D.pl.length cY)) := rfl
    have SMY : Hid (∀ aoz cz W, IsB W aoz D.pl → IsB W aoY D.pl → Calls Tryd.prog 16 #[.agg (imgC D.s D.k D.v (.slice aoz D.pl.length cz) D.tg).toArray, .agg (imgC D.s D.k D.v (.slice aoY D.pl.length cY) D.tg).toArray] W fun e w' => e = .returned (.bool true) ∧ Below W.heap.size W w') := fun aoz cz W h1 h2 => same_eq D.s D.k D.v aoz aoY D.pl.length cz cY D.pl D.tg rfl HDT.out W h1 h2
    generalize imgC D.s D.k D.v (.slice aoY D.pl.length cY) D.tg = IY at *
    clear hb5 bb4 RP
    generalize hG : w5.heap.size = G at *
    have r14 := (Row.at w5 27 zImg zImg.toArray G hG.symm rfl).alloc (.cells #[.int .i64 0, .int .i64 0] 39)
    have r15 : Row ((w5.alloc (.cells zImg.toArray 27)).alloc (.cells #[.int .i64 0, .int .i64 0] 39)) (G + 1) 39 [.int .i64 0, .int .i64 0] := Row.at _ _ _ _ _ (by simp [hG]) rfl
    have b8 : Below w5.heap.size w5 ((w5.alloc (.cells zImg.toArray 27)).alloc (.cells #[.int .i64 0, .int .i64 0] 39)) := ((Below.refl _ _).alloc (Nat.le_refl _) _).alloc (by simp) _
    go_wp2_with (first | (refine wpList_store_Row rfl 27 _ _ rfl G 27 0 zImg IY r14 (by rw [hilY]; exact Nat.le_refl _) rfl rfl (by rw [hilY]; kernel_rfl) h1Y ?_; intro w6 hr6 hs6) | (refine wpList_store_Row rfl 39 _ _ rfl (G + 1) 39 0 _ [.int .i64 D.E, .int .i64 D.At] (r15.but hs6 (by omega)) (Nat.le_refl _) rfl rfl (by kernel_rfl) (by simp [Value.oneCell']) ?_; intro w7 hr7 hs7))
    have b7 : Below G w5 w7 := hs7.below (hs6.below (by rw [hG] at b8; exact b8) (Nat.le_refl _)) (by omega)
    have q14 := (row_whole hr6 (by rw [hilY]; exact Nat.le_of_eq zImg_len)).but hs7 (by omega)
    have q15 := row_whole hr7 (by simp)
    have hz7 : w7.heap.size = G + 2 := by rw [hs7.size, hs6.size]; simp [hG]
    have bb7 := bb5.trans (b7.mono (by have := bb5.size; omega))
    have hrLt := rL.lt
    have hrMt := rM.lt
    replace rL := rL.below b7 (by omega)
    replace rM := rM.below b7 (by omega)
    replace oO := oO.of_block (w' := w7) (by omega) (fun B e => b7.block B (by injection e with e; injection e with e _; omega))
    have keepOwn : ∀ {N : Nat} {o : Option Addr} {l c : Nat} {m : List By}, Own N w5 (.slice o l c) m → Own N w7 (.slice o l c) m := fun h => h.of_block (by have := h.2; omega) (fun B off e => b7.block B (by have := (h.lies B off e).2.2; omega))
    replace ho7 := keepOwn ho7
    replace ho8 := keepOwn ho8
    replace ho9 := keepOwn ho9
    replace hoW := keepOwn hoW
    replace hoY := keepOwn hoY
    clear hr6 hr7 hs6 hs7 r14 r15 b8 keepOwn
    have neM : ∀ g, g ≠ M + 1 → (some (⟨M + 1, 0, none⟩ : Addr)) ≠ some ⟨g, 0, none⟩ := fun g h e => by injection e with e; injection e with e _; omega
    have FL : Hid (∀ W', Chg M (some ⟨M + 1, 0, none⟩) w7 W' → Row W' w.heap.size 27 IM) := fun W' h => h.row rL (neM _ (by omega))
    have FM : Hid (∀ W', Chg M (some ⟨M + 1, 0, none⟩) w7 W' → Row W' M 27 (imgC s k v (.slice (some ⟨gp, 0, none⟩) n c9) t)) := fun W' h => h.row rM (neM _ (by omega))
    have FSX : Hid (∀ W', Chg M (some ⟨M + 1, 0, none⟩) w7 W' → IsB W' (some ⟨gs, 0, none⟩) (sec ++ marks)) := fun W' h => h.isb (own_IsB ho7) (fun B off e => by injection e with e; injection e with e _; subst e; exact ⟨ho7.lt.2, neM _ (by omega)⟩)
    have FI : Hid (∀ W', Chg M (some ⟨M + 1, 0, none⟩) w7 W' → IsB W' (some ⟨gi, 0, none⟩) (b ++ marks)) := fun W' h => h.isb (own_IsB ho8) (fun B off e => by injection e with e; injection e with e _; subst e; exact ⟨ho8.lt.2, neM _ (by omega)⟩)
    have FP : Hid (∀ W', Chg M (some ⟨M + 1, 0, none⟩) w7 W' → IsB W' (some ⟨gp, 0, none⟩) (p ++ marks)) := fun W' h => h.isb (own_IsB ho9) (fun B off e => by injection e with e; injection e with e _; subst e; exact ⟨ho9.lt.2, neM _ (by omega)⟩)
    have FW : Hid (∀ W', Chg M (some ⟨M + 1, 0, none⟩) w7 W' → IsB W' aoW MK) := fun W' h => h.isb (own_IsB hoW) (fun B off e => ⟨(hoW.lies B off e).2.2, neM _ (by have := (hoW.lies B off e).2.1; omega)⟩)
    have FY : Hid (∀ W', Chg M (some ⟨M + 1, 0, none⟩) w7 W' → IsB W' aoY D.pl) := fun W' h => h.isb (own_IsB hoY) (fun B off e => ⟨(hoY.lies B off e).2.2, neM _ (by have := (hoY.lies B off e).2.1; omega)⟩)
    have F14 : Hid (∀ W', Chg M (some ⟨M + 1, 0, none⟩) w7 W' → Row W' G 27 IY) := fun W' h => h.row q14 (neM _ (by omega))
    have F15 : Hid (∀ W', Chg M (some ⟨M + 1, 0, none⟩) w7 W' → Row W' (G + 1) 39 [.int .i64 D.E, .int .i64 D.At]) := fun W' h => h.row q15 (neM _ (by omega))
    have FO : Hid (∀ W', Chg M (some ⟨M + 1, 0, none⟩) w7 W' → OwnE W1.heap.size W' gs (sn + 5) c7 ∧ OwnE W1.heap.size W' gi (bn + 5) c8 ∧ OwnE W1.heap.size W' gp (n + 5) c9) := fun W' h => ⟨⟨_, ho7.of_block (by have := h.size; omega) (fun B off e => h.blk B (ho7.lies B off e).2.2 (neM _ (by injection e with e; injection e with e _; omega)))⟩, ⟨_, ho8.of_block (by have := h.size; omega) (fun B off e => h.blk B (ho8.lies B off e).2.2 (neM _ (by injection e with e; injection e with e _; omega)))⟩, ⟨_, ho9.of_block (by have := h.size; omega) (fun B off e => h.blk B (ho9.lies B off e).2.2 (neM _ (by injection e with e; injection e with e _; omega)))⟩⟩
    have FOW : Hid (∀ W', Chg M (some ⟨M + 1, 0, none⟩) w7 W' → Own M W' (.slice aoW MK.length cW) MK ∧ Own M W' (.slice aoY D.pl.length cY) D.pl ∧ (∀ B off, aoW = some ⟨B, off, none⟩ → M ≤ B) ∧ (∀ B off, aoY = some ⟨B, off, none⟩ → M ≤ B)) := fun W' h => ⟨own_le (hoW.of_block (by have := hoW.2; have := h.size; omega) (fun B off e => h.blk B (hoW.lies B off e).2.2 (neM _ (by have := (hoW.lies B off e).2.1; omega)))) (by omega), own_le (hoY.of_block (by have := hoY.2; have := h.size; omega) (fun B off e => h.blk B (hoY.lies B off e).2.2 (neM _ (by have := (hoY.lies B off e).2.1; omega)))) (by omega), fun B off e => by have := (hoW.lies B off e).2.1; omega, fun B off e => by have := (hoY.lies B off e).2.1; omega⟩
    have lgs : w.heap.size ≤ gs := by have := ho7.lt.1; omega
    have lgi : w.heap.size ≤ gi := by have := ho8.lt.1; omega
    have lgp : w.heap.size ≤ gp := by have := ho9.lt.1; omega
    have hMG : M + 2 ≤ G := by omega
    have HZ7 : Hid (w7.heap.size = G + 2) := hz7
    have HAY : Hid (∀ B off, aoY = some ⟨B, off, none⟩ → B < G + 2) := fun B off e => by have := (hoY.lies B off e).2.2; omega
    have FB : Hid (∀ W', Chg M (some ⟨M + 1, 0, none⟩) w7 W' → Below w.heap.size w W') := fun W' h => bb7.trans (h.bel.mono (by omega))
    have OK0 : Hid (OutOk M MK D.pl BD w7 0 (some ⟨M + 1, 0, none⟩) 0 [] w7) := ⟨Chg.refl _ _ _, rfl, oO, fun j r h => by simp at h, fun i j r r' g h => by simp at h, fun r h => by simp at h, .inl rfl⟩
    have hM7 : M + 2 ≤ w7.heap.size := by omega
    have cS : sn ≤ c7 := by omega
    have cI : bn ≤ c8 := by omega
    have cP : n ≤ c9 := by omega
    have SC : Hid (w.heap.size < M) := by show _ < _; omega
    clear rL rM ho7 ho8 ho9 hoW hoY q14 q15 bb7 oO neM hrLt hrMt hz5 hz4 hzB hG b7 hz7 bb5
    go_wp2_with fail
    go_loopw [11, 16] (fun o i wr => ∃ (q cO : Nat) (aoO : Option Addr) (rs : List Gr), q ≤ 2 ∧ i = .int .i64 q ∧ o = .slice aoO (3 * q) cO ∧ Hid (OutOk M MK D.pl BD w7 q aoO cO rs wr)) (fun _ i _ => 2 - (intOf i).toNat)
    case atStart => exact ⟨0, 0, _, [], by omega, rfl, rfl, OK0⟩
    case round =>
      clear OK0
      obtain ⟨q, cO, aoO, rs, hq, rfl, rfl, OK⟩ := hrel
      by_cases hlt : q < 2
      · have i1 : (q : Int) < 2 := by omega
        have ch := OK.out.chg
        have rMw := FM.out _ ch
        have iS := FSX.out _ ch
        have iP := FP.out _ ch
        have iI := FI.out _ ch
        have isS : IsB wr (some ⟨gs, 0, none⟩) sec := by have := isB_take iS sn; rwa [List.take_left' HSEC.out] at this
        have isP : IsB wr (some ⟨gp, 0, none⟩) p := by have := isB_take iP n; rwa [List.take_left' HPL.out] at this
        have isI : IsB wr (some ⟨gi, 0, none⟩) b := by have := isB_take iI bn; rwa [List.take_left' HBL.out] at this
        have C1 := CM.out gs c7 gp c9 wr isS cS isP cP
        have hilM := imgC_len s k v (.slice (some ⟨gp, 0, none⟩) n c9) t HTL.out
        have hMw : M ≤ wr.heap.size := OK.out.arr.2
        have h7w := ch.size
        generalize imgC s k v (.slice (some ⟨gp, 0, none⟩) n c9) t = IMp at *
        clear iS iP iI isS isP
        go_wp2_with (refine wpList_load_Row rfl 27 _ rfl _ _ IMp rMw rfl _ Tryd.underlying27 rfl (by rw [hilM]; kernel_rfl) ?_)
        refine C1.mono ?_
        clear C1 rMw
        rintro e v1 ⟨aoc, cc, rfl, hoc, hb1⟩
        have C2 := CP.out (some ⟨gi, 0, none⟩) c8 v1 (isI.below hb1 (Nat.le_refl _)) (fun e => by cases e) cI
        have hv1 := hb1.size
        have hocl : Hid (∀ B off, aoc = some ⟨B, off, none⟩ → B < v1.heap.size) := fun B off e => (hoc.lies B off e).2.2
        go_wp2_with fail
        refine C2.mono ?_
        clear C2
        rintro e v2 ⟨aoz, cz, fv, rfl, hoz, htz, hb2⟩
        have bv2 : Below wr.heap.size wr v2 := hb1.trans (hb2.mono hv1)
        have hozl : Hid (∀ B off, aoz = some ⟨B, off, none⟩ → v1.heap.size ≤ B ∧ B < v2.heap.size) := fun B off e => (hoz.lies B off e).2
        replace hoc := hoc.keep hb2
        have hv2 := hb2.size
        have hilZ := imgC_len D.s D.k D.v (.slice aoz D.pl.length cz) D.tg HDT.out
        have h1Z := imgC_one D.s D.k D.v aoz D.pl.length cz D.tg
        have HZ3 : Hid ((imgC D.s D.k D.v (.slice aoz D.pl.length cz) D.tg)[3]? = some (.slice aoz D.pl.length cz)) := rfl
        have SMZ : Hid (∀ W, IsB W aoz D.pl → IsB W aoY D.pl → Calls Tryd.prog 16 #[.agg (imgC D.s D.k D.v (.slice aoz D.pl.length cz) D.tg).toArray, .agg IY.toArray] W fun e w' => e = .returned (.bool true) ∧ Below W.heap.size W w') := fun W h1 h2 => SMY.out aoz cz W h1 h2
        generalize imgC D.s D.k D.v (.slice aoz D.pl.length cz) D.tg = IZ at *
        clear hb1 hb2
        generalize hG19 : v2.heap.size = G19 at *
        have rz := Row.at v2 27 zImg zImg.toArray G19 hG19.symm rfl
        have al2 := (Below.refl v2.heap.size v2).alloc (Nat.le_refl _) (.cells zImg.toArray 27)
        go_wp2_with (refine wpList_store_Row rfl 27 _ _ rfl G19 27 0 zImg IZ rz (by rw [hilZ]; exact Nat.le_refl _) rfl rfl (by rw [hilZ]; kernel_rfl) h1Z ?_; intro v3 hr3 hs3)
        have r19 := row_whole hr3 (by rw [hilZ]; exact Nat.le_of_eq zImg_len)
        have b23 : Below v2.heap.size v2 v3 := hs3.below al2 (by omega)
        have bv3 : Below wr.heap.size wr v3 := bv2.trans (b23.mono (by omega))
        have hz3 : v3.heap.size = G19 + 1 := by rw [hs3.size]; simp [hG19]
        replace hoc := hoc.keep b23
        replace hoz := hoz.keep b23
        replace htz := htz.below b23 (Nat.le_refl _)
        have ch3 := ch.below bv3 hMw
        clear hr3 hs3 rz al2 b23 bv2
        refine (told_any v3 (HGW.out.below (FB.out _ ch3) HGW.out.lt) fv D.E D.At htz).mono ?_
        rintro e v4 ⟨rfl, hb4⟩
        have al4 := (Below.refl v4.heap.size v4).alloc (Nat.le_refl _) (.cells #[.int .i64 D.E, .int .i64 D.At] 39)
        have hv4 := hb4.size
        have b35 : Below v3.heap.size v3 (v4.alloc (.cells #[.int .i64 D.E, .int .i64 D.At] 39)) := hb4.trans (al4.mono hv4)
        have r21 : Row (v4.alloc (.cells #[.int .i64 D.E, .int .i64 D.At] 39)) v4.heap.size 39 [.int .i64 D.E, .int .i64 D.At] := Row.at _ _ _ _ _ rfl rfl
        have bv5 : Below wr.heap.size wr (v4.alloc (.cells #[.int .i64 D.E, .int .i64 D.At] 39)) := bv3.trans (b35.mono (by omega))
        have hz5 : (v4.alloc (.cells #[.int .i64 D.E, .int .i64 D.At] 39)).heap.size = v4.heap.size + 1 := by simp
        replace hoc := hoc.keep b35
        replace hoz := hoz.keep b35
        replace r19 := r19.below b35 r19.lt
        have C3 := CB.out gi c8 _ (isI.below bv5 (Nat.le_refl _)) cI
        clear hb4 al4 b35 bv3 htz ch3 isI
        go_wp2_with fail
        refine C3.mono ?_
        clear C3
        rintro e V1 ⟨aod, cd, rfl, hod, hb6⟩
        generalize hG21 : v4.heap.size = G21 at *
        rw [hz5] at hod hb6
        have bV : Below wr.heap.size wr V1 := bv5.trans (hb6.mono (by omega))
        have keep5 : ∀ {N : Nat} {o : Option Addr} {l c : Nat} {m : List By}, Own N (v4.alloc (.cells #[.int .i64 D.E, .int .i64 D.At] 39)) (.slice o l c) m → Own N V1 (.slice o l c) m := fun h => h.of_block (by have := h.2; have := hb6.size; omega) (fun B off e => hb6.block B (by have := (h.lies B off e).2.2; omega))
        replace hoc := keep5 hoc
        replace hoz := keep5 hoz
        replace r19 := r19.below hb6 (by omega)
        replace r21 := r21.below hb6 (by omega)
        have chV := ch.below bV hMw
        have hVs := hb6.size
        have hMV : M ≤ V1.heap.size := by have := bV.size; omega
        have HVC : Hid (∀ W, Below V1.heap.size V1 W → (convert 23 9 (.slice aoc MK.length cc)).run Tryd.prog W = .ok (.string (strOf MK)) W) := fun W h => conv_bytes W _ _ _ MK rfl ((own_IsB hoc).below h (Nat.le_refl _))
        have HVW : Hid (∀ W, Below V1.heap.size V1 W → (convert 23 9 (.slice aoW MK.length cW)).run Tryd.prog W = .ok (.string (strOf MK)) W) := fun W h => conv_bytes W _ _ _ MK rfl (FW.out W (chV.below h hMV))
        have HVD : Hid (∀ W, Below V1.heap.size V1 W → (convert 23 9 (.slice aod (bn - 32) cd)).run Tryd.prog W = .ok (.string (strOf BD)) W) := fun W h => conv_bytes W _ _ _ BD HBD.out ((own_IsB hod).below h (Nat.le_refl _))
        have HZ : Hid (∀ W, Below V1.heap.size V1 W → Row W G19 27 IZ) := fun W h => r19.below h r19.lt
        have HY : Hid (∀ W, Below V1.heap.size V1 W → Row W G 27 IY) := fun W h => F14.out W (chV.below h hMV)
        have HZL : Hid (IZ.length = 36) := hilZ
        have HYL : Hid (IY.length = 36) := hilY
        have HR21 : Hid (∀ W, Below V1.heap.size V1 W → Row W G21 39 [.int .i64 D.E, .int .i64 D.At]) := fun W h => r21.below h r21.lt
        have HR15 : Hid (∀ W, Below V1.heap.size V1 W → Row W (G + 1) 39 [.int .i64 D.E, .int .i64 D.At]) := fun W h => F15.out W (chV.below h hMV)
        have HSM : Hid (∀ W, Below V1.heap.size V1 W → Calls Tryd.prog 16 #[.agg IZ.toArray, .agg IY.toArray] W fun e w' => e = .returned (.bool true) ∧ Below W.heap.size W w') := fun W h => SMZ.out W ((own_IsB hoz).below h (Nat.le_refl _)) (FY.out W (chV.below h hMV))
        have HRB : Hid (∀ W, Below V1.heap.size V1 W → Calls Tryd.prog 18 #[.slice bo bn bc] W fun e w' => ∃ ao' c', e = .returned (.slice ao' (bn - 32) c') ∧ Own W.heap.size w' (.slice ao' (bn - 32) c') BD ∧ Below W.heap.size W w') := fun W h => RB.out W (FB.out W (chV.below h hMV))
        have HK1 : Hid (∀ W, Below V1.heap.size V1 W → Calls Tryd.prog 22 #[.slice (some ⟨gs, 0, none⟩) sn c7, .slice so sn sc] W fun e w' => e = .returned (.bool true) ∧ w' = W) := fun W h => kept_any gs sn c7 so sc sec HSEC.out W (FSX.out W (chV.below h hMV)) hcs (SB.out W (FB.out W (chV.below h hMV))) hsl
        have HK2 : Hid (∀ W, Below V1.heap.size V1 W → Calls Tryd.prog 22 #[.slice (some ⟨gi, 0, none⟩) bn c8, .slice bo bn bc] W fun e w' => e = .returned (.bool true) ∧ w' = W) := fun W h => kept_any gi bn c8 bo bc b HBL.out W (FI.out W (chV.below h hMV)) hci (BB.out W (FB.out W (chV.below h hMV))) hbl
        have HK3 : Hid (∀ W, Below V1.heap.size V1 W → Calls Tryd.prog 22 #[.slice (some ⟨gp, 0, none⟩) n c9, .slice ao n cap] W fun e w' => e = .returned (.bool true) ∧ w' = W) := fun W h => kept_any gp n c9 ao cap p HPL.out W (FP.out W (chV.below h hMV)) hcp (PB.out W (FB.out W (chV.below h hMV))) hl
        have HC3 : Hid (∀ W, Below V1.heap.size V1 W → W.cell? ⟨w.heap.size, 3, none⟩ = some (.slice ao n cap)) := fun W h => (FL.out W (chV.below h hMV)).cell 3 _ HX3.out
        have X19 : Hid (∀ W, Below V1.heap.size V1 W → W.cell? ⟨G19, 3, none⟩ = some (.slice aoz D.pl.length cz)) := fun W h => (r19.below h r19.lt).cell 3 _ HZ3.out
        have OC : Hid (∀ W, Below V1.heap.size V1 W → Own wr.heap.size W (.slice aoc MK.length cc) MK ∧ Own wr.heap.size W (.slice aoz D.pl.length cz) D.pl ∧ Own wr.heap.size W (.slice aod (bn - 32) cd) BD) := fun W h => ⟨hoc.keep h, own_le (hoz.keep h) hv1, own_le (hod.keep h) (by omega)⟩
        have SEP : Hid (SepR [⟨aoc, MK.length, cc⟩, ⟨aoz, D.pl.length, cz⟩, ⟨aod, bn - 32, cd⟩]) := sep_three (fun g e1 e2 => by have a := hocl.out g 0 e1; have b := (hozl.out g 0 e2).1; omega) (fun g e1 e2 => by have a := hocl.out g 0 e1; have b := (hod.lies g 0 e2).2.1; omega) (fun g e1 e2 => by have a := (hozl.out g 0 e1).2; have b := (hod.lies g 0 e2).2.1; omega)
        clear hoc hoz hod r19 r21 keep5 hb6 bv5 hocl hozl SMZ HZ3 hilZ h1Z ch hVs
        go_wp2_with fail
        refine wp_region_inv (IK16 V1 E aoc aoW aod bo so ao MK.length cc cW (bn - 32) cd bn bc gs sn c7 sc gi c8 gp n c9 cap w.heap.size (D.E : Int) (D.At : Int) IZ IY MK BD _ _ _ _ _ _ _ _ _ _ _ _ _ _ _ _ _ _ _ _ _ _ _ _ _ _ _ _ _ _ _ _ _ _ _ _ _ _ _ _ _ _ _ _ _ _ _ _ _ _ _ _ _ _ _ _ _ _ _ _ _ _ _ _ _ _ _ _ _ _ _ _ _ _ _ _ _ _ _ _ _ _ _ _ _ _ _ _ _ _ _ _ _ _ _ _ _ _ _ _ _ _ _ _ _ _ _ _ _ _ _ _ _ _ _ _ _ _ _ _ _ _ _ _ _ _ _ _ _ _ _ _ _ _ _ _ _ _ _ _ _ _ _ _ _ _ _ _ _ _ _ _ _ _ _ _ _ _ _ _ _ _ _ _ _ _ _ _ _ _) (by kernel_rfl) (by kernel_rfl) ⟨_, _, _, _, _, _, _, _, _, _, _, _, _, _, _, _, _, _, _, _, _, _, _, _, _, _, _, _, _, _, _, _, _, _, _, _, _, _, _, _, _, _, _, _, _, _, _, _, _, _, _, _, rfl, ⟨(Below.refl _ _).drew, fun k => (by cases k), fun k => (by cases k), fun k => (by cases k), fun k => (by cases k), fun k => (by cases k), fun k => (by cases k), fun k => (by cases k), fun k => (by cases k), fun k => (by cases k), fun k => (by cases k), fun k => (by cases k), fun k => (by cases k), fun k => (by cases k), fun k => (by cases k), fun k => (by cases k), fun k => (by cases k), fun k => (by cases k), fun k => (by cases k), fun k => (by cases k), fun k => (by cases k), fun k => (by cases k), fun k => (by cases k), fun k => (by cases k), fun k => (by cases k), fun k => (by cases k), fun k => (by cases k), fun k => (by cases k), fun k => (by cases k), fun k => (by cases k), fun k => (by cases k), fun k => (by cases k), fun k => (by cases k), fun k => (by cases k), fun k => (by cases k), fun k => (by cases k), fun k => (by cases k), fun k => (by cases k), fun k => (by cases k), fun k => (by cases k), fun k => (by cases k), fun k => (by cases k), fun k => (by cases k), fun k => (by cases k), fun k => (by cases k), fun k => (by cases k), fun k => (by cases k), fun k => (by cases k), fun k => (by cases k), fun k => (by cases k), fun k => (by cases k), fun k => (by cases k), fun k => (by cases k)⟩⟩ ?_ ?_
        · refine .cons ?_ (.cons ?_ (.cons ?_ (.cons ?_ (.cons ?_ (.cons ?_ (.cons ?_ (.cons ?_ (.cons ?_ (.cons ?_ (.cons ?_ (.cons ?_ (.cons ?_ (.cons ?_ (.cons ?_ (.cons ?_ (.cons ?_ (.cons ?_ (.cons ?_ (.cons ?_ (.cons ?_ (.cons ?_ (.cons ?_ (.cons ?_ (.cons ?_ (.cons ?_ (.cons ?_ (.cons ?_ (.cons ?_ (.cons ?_ (.cons ?_ (.cons ?_ (.cons ?_ (.cons ?_ (.cons ?_ (.cons ?_ (.cons ?_ (.cons ?_ (.cons ?_ (.cons ?_ (.cons ?_ (.cons ?_ (.cons ?_ (.cons ?_ (.cons ?_ (.cons ?_ (.cons ?_ (.cons ?_ (.cons ?_ (.cons ?_ (.cons ?_ (.cons ?_ .nil)))))))))))))))))))))))))))))))))))))))))))))))))))
          all_goals (refine K16.step ?_; intro x79 x80 x81 x82 x83 x84 x85 x86 x87 x88 x89 x90 x91 x92 x93 x94 x95 x96 x97 x98 x99 x100 x101 x102 x103 x104 x105 x106 x107 x108 x109 x110 x111 x112 x113 x114 x115 x116 x117 x118 x119 x120 x121 x122 x123 x124 x125 x126 x127 x128 x129 x130 L W hI hL hd K hK)
          · rw [if_pos (by rfl)]
            go_simp
            exact hK.out _ _ ⟨_, _, _, _, _, _, _, _, _, _, _, _, _, _, _, _, _, _, _, _, _, _, _, _, _, _, _, _, _, _, _, _, _, _, _, _, _, _, _, _, _, _, _, _, _, _, _, _, _, _, _, _, rfl, hI.s0⟩
          · rw [if_pos (by rfl)]
            go_simp
            exact hK.out _ _ ⟨_, _, _, _, _, _, _, _, _, _, _, _, _, _, _, _, _, _, _, _, _, _, _, _, _, _, _, _, _, _, _, _, _, _, _, _, _, _, _, _, _, _, _, _, _, _, _, _, _, _, _, _, rfl, hI.s1⟩
          · have hx0 := hI.p0 (hd 0 (by decide))
            subst hx0
            have hx1 := hI.p1 (hd 1 (by decide))
            subst hx1
            rw [if_pos (by rfl)]
            go_simp
            exact hK.out _ _ ⟨_, _, _, _, _, _, _, _, _, _, _, _, _, _, _, _, _, _, _, _, _, _, _, _, _, _, _, _, _, _, _, _, _, _, _, _, _, _, _, _, _, _, _, _, _, _, _, _, _, _, _, _, rfl, hI.s2⟩
          · have hx2 := hI.p2 (hd 2 (by decide))
            subst hx2
            rw [if_pos (by rfl)]
            go_simp
            exact hK.out _ _ ⟨_, _, _, _, _, _, _, _, _, _, _, _, _, _, _, _, _, _, _, _, _, _, _, _, _, _, _, _, _, _, _, _, _, _, _, _, _, _, _, _, _, _, _, _, _, _, _, _, _, _, _, _, rfl, hI.s3⟩
          · have hx3 := hI.p3 (hd 3 (by decide))
            subst hx3
            rw [if_pos (by rfl)]
            go_simp
            exact hK.out _ _ ⟨_, _, _, _, _, _, _, _, _, _, _, _, _, _, _, _, _, _, _, _, _, _, _, _, _, _, _, _, _, _, _, _, _, _, _, _, _, _, _, _, _, _, _, _, _, _, _, _, _, _, _, _, rfl, hI.s4⟩
          · have hx4 := hI.p4 (hd 4 (by decide))
            subst hx4
            have hx3 := hI.p3 (hd 3 (by decide))
            subst hx3
            rw [if_pos (by rfl)]
            have cv := HVC.out W hI.x
            go_simp
            exact hK.out _ _ ⟨_, _, _, _, _, _, _, _, _, _, _, _, _, _, _, _, _, _, _, _, _, _, _, _, _, _, _, _, _, _, _, _, _, _, _, _, _, _, _, _, _, _, _, _, _, _, _, _, _, _, _, _, rfl, hI.s5⟩
          · have hx3 := hI.p3 (hd 3 (by decide))
            subst hx3
            rw [if_pos (by rfl)]
            go_simp
            exact hK.out _ _ ⟨_, _, _, _, _, _, _, _, _, _, _, _, _, _, _, _, _, _, _, _, _, _, _, _, _, _, _, _, _, _, _, _, _, _, _, _, _, _, _, _, _, _, _, _, _, _, _, _, _, _, _, _, rfl, hI.s6⟩
          · have hx6 := hI.p6 (hd 6 (by decide))
            subst hx6
            have hx3 := hI.p3 (hd 3 (by decide))
            subst hx3
            rw [if_pos (by rfl)]
            have cv := HVW.out W hI.x
            go_simp
            exact hK.out _ _ ⟨_, _, _, _, _, _, _, _, _, _, _, _, _, _, _, _, _, _, _, _, _, _, _, _, _, _, _, _, _, _, _, _, _, _, _, _, _, _, _, _, _, _, _, _, _, _, _, _, _, _, _, _, rfl, hI.s7⟩
          · have hx5 := hI.p5 (hd 5 (by decide))
            subst hx5
            have hx7 := hI.p7 (hd 7 (by decide))
            subst hx7
            have hx3 := hI.p3 (hd 3 (by decide))
            subst hx3
            rw [if_pos (by rfl)]
            go_simp
            exact hK.out _ _ ⟨_, _, _, _, _, _, _, _, _, _, _, _, _, _, _, _, _, _, _, _, _, _, _, _, _, _, _, _, _, _, _, _, _, _, _, _, _, _, _, _, _, _, _, _, _, _, _, _, _, _, _, _, rfl, hI.s8⟩
          · have hx3 := hI.p3 (hd 3 (by decide))
            subst hx3
            have hx8 := hI.p8 (hd 8 (by decide))
            subst hx8
            rw [if_pos (by rfl)]
            go_simp
            exact hK.out _ _ ⟨_, _, _, _, _, _, _, _, _, _, _, _, _, _, _, _, _, _, _, _, _, _, _, _, _, _, _, _, _, _, _, _, _, _, _, _, _, _, _, _, _, _, _, _, _, _, _, _, _, _, _, _, rfl, hI.s9⟩
          · have hx9 := hI.p9 (hd 9 (by decide))
            subst hx9
            rw [if_pos (by rfl)]
            go_simp
            exact hK.out _ _ ⟨_, _, _, _, _, _, _, _, _, _, _, _, _, _, _, _, _, _, _, _, _, _, _, _, _, _, _, _, _, _, _, _, _, _, _, _, _, _, _, _, _, _, _, _, _, _, _, _, _, _, _, _, rfl, hI.s10⟩
          · have hx10 := hI.p10 (hd 10 (by decide))
            subst hx10
            rw [if_pos (by rfl)]
            go_simp
            exact hK.out _ _ ⟨_, _, _, _, _, _, _, _, _, _, _, _, _, _, _, _, _, _, _, _, _, _, _, _, _, _, _, _, _, _, _, _, _, _, _, _, _, _, _, _, _, _, _, _, _, _, _, _, _, _, _, _, rfl, hI.s11⟩
          · have hx11 := hI.p11 (hd 11 (by decide))
            subst hx11
            have hx10 := hI.p10 (hd 10 (by decide))
            subst hx10
            rw [if_pos (by rfl)]
            go_simp
            exact hK.out _ _ ⟨_, _, _, _, _, _, _, _, _, _, _, _, _, _, _, _, _, _, _, _, _, _, _, _, _, _, _, _, _, _, _, _, _, _, _, _, _, _, _, _, _, _, _, _, _, _, _, _, _, _, _, _, rfl, hI.s12⟩
          · have hx10 := hI.p10 (hd 10 (by decide))
            subst hx10
            have hx12 := hI.p12 (hd 12 (by decide))
            subst hx12
            rw [if_pos (by rfl)]
            go_simp
            exact hK.out _ _ ⟨_, _, _, _, _, _, _, _, _, _, _, _, _, _, _, _, _, _, _, _, _, _, _, _, _, _, _, _, _, _, _, _, _, _, _, _, _, _, _, _, _, _, _, _, _, _, _, _, _, _, _, _, rfl, hI.s13⟩
          · have hx13 := hI.p13 (hd 13 (by decide))
            subst hx13
            rw [if_pos (by rfl)]
            go_simp
            exact hK.out _ _ ⟨_, _, _, _, _, _, _, _, _, _, _, _, _, _, _, _, _, _, _, _, _, _, _, _, _, _, _, _, _, _, _, _, _, _, _, _, _, _, _, _, _, _, _, _, _, _, _, _, _, _, _, _, rfl, hI.s14⟩
          · have hx14 := hI.p14 (hd 14 (by decide))
            subst hx14
            rw [if_pos (by rfl)]
            have c9 := (HR21.out W hI.x).cell 0 _ rfl
            have d9 := (HR21.out W hI.x).cell 1 _ rfl
            go_simp
            exact hK.out _ _ ⟨_, _, _, _, _, _, _, _, _, _, _, _, _, _, _, _, _, _, _, _, _, _, _, _, _, _, _, _, _, _, _, _, _, _, _, _, _, _, _, _, _, _, _, _, _, _, _, _, _, _, _, _, rfl, hI.s15⟩
          · have hx14 := hI.p14 (hd 14 (by decide))
            subst hx14
            rw [if_pos (by rfl)]
            have c9 := (HR15.out W hI.x).cell 0 _ rfl
            have d9 := (HR15.out W hI.x).cell 1 _ rfl
            go_simp
            exact hK.out _ _ ⟨_, _, _, _, _, _, _, _, _, _, _, _, _, _, _, _, _, _, _, _, _, _, _, _, _, _, _, _, _, _, _, _, _, _, _, _, _, _, _, _, _, _, _, _, _, _, _, _, _, _, _, _, rfl, hI.s16⟩
          · have hx15 := hI.p15 (hd 15 (by decide))
            subst hx15
            have hx16 := hI.p16 (hd 16 (by decide))
            subst hx16
            have hx14 := hI.p14 (hd 14 (by decide))
            subst hx14
            rw [if_pos (by rfl)]
            have q1 := HEW.out
            go_simp
            exact hK.out _ _ ⟨_, _, _, _, _, _, _, _, _, _, _, _, _, _, _, _, _, _, _, _, _, _, _, _, _, _, _, _, _, _, _, _, _, _, _, _, _, _, _, _, _, _, _, _, _, _, _, _, _, _, _, _, rfl, hI.s17⟩
          · have hx14 := hI.p14 (hd 14 (by decide))
            subst hx14
            have hx17 := hI.p17 (hd 17 (by decide))
            subst hx17
            rw [if_pos (by rfl)]
            go_simp
            exact hK.out _ _ ⟨_, _, _, _, _, _, _, _, _, _, _, _, _, _, _, _, _, _, _, _, _, _, _, _, _, _, _, _, _, _, _, _, _, _, _, _, _, _, _, _, _, _, _, _, _, _, _, _, _, _, _, _, rfl, hI.s18⟩
          · have hx18 := hI.p18 (hd 18 (by decide))
            subst hx18
            rw [if_pos (by rfl)]
            go_simp
            exact hK.out _ _ ⟨_, _, _, _, _, _, _, _, _, _, _, _, _, _, _, _, _, _, _, _, _, _, _, _, _, _, _, _, _, _, _, _, _, _, _, _, _, _, _, _, _, _, _, _, _, _, _, _, _, _, _, _, rfl, hI.s19⟩
          · have hx19 := hI.p19 (hd 19 (by decide))
            subst hx19
            refine step_load_part ?_ 27 (.tmp 19) rfl G19 0 27 36 _ (HZ.out W hI.x) rfl _ IZ (take_all36 HZL.out) HZL.out Tryd.underlying27 rfl (by kernel_rfl) ?_
            · rfl
            exact hK.out _ _ ⟨_, _, _, _, _, _, _, _, _, _, _, _, _, _, _, _, _, _, _, _, _, _, _, _, _, _, _, _, _, _, _, _, _, _, _, _, _, _, _, _, _, _, _, _, _, _, _, _, _, _, _, _, rfl, hI.s20⟩
          · have hx19 := hI.p19 (hd 19 (by decide))
            subst hx19
            refine step_load_part ?_ 27 (.tmp 14) rfl G 0 27 36 _ (HY.out W hI.x) rfl _ IY (take_all36 HYL.out) HYL.out Tryd.underlying27 rfl (by kernel_rfl) ?_
            · rfl
            exact hK.out _ _ ⟨_, _, _, _, _, _, _, _, _, _, _, _, _, _, _, _, _, _, _, _, _, _, _, _, _, _, _, _, _, _, _, _, _, _, _, _, _, _, _, _, _, _, _, _, _, _, _, _, _, _, _, _, rfl, hI.s21⟩
          · have hx20 := hI.p20 (hd 20 (by decide))
            subst hx20
            have hx21 := hI.p21 (hd 21 (by decide))
            subst hx21
            have hx19 := hI.p19 (hd 19 (by decide))
            subst hx19
            rw [if_pos (by rfl)]
            go_simp
            refine (HSM.out W hI.x).mono ?_
            rintro e W2 ⟨rfl, hb3⟩
            go_simp
            exact hK.out _ _ ⟨_, _, _, _, _, _, _, _, _, _, _, _, _, _, _, _, _, _, _, _, _, _, _, _, _, _, _, _, _, _, _, _, _, _, _, _, _, _, _, _, _, _, _, _, _, _, _, _, _, _, _, _, rfl, hI.s22 (hI.x.trans (hb3.mono hI.x.size)) hb3⟩
          · have hx22 := hI.p22 (hd 22 (by decide))
            subst hx22
            have hx19 := hI.p19 (hd 19 (by decide))
            subst hx19
            rw [if_pos (by rfl)]
            go_simp
            exact hK.out _ _ ⟨_, _, _, _, _, _, _, _, _, _, _, _, _, _, _, _, _, _, _, _, _, _, _, _, _, _, _, _, _, _, _, _, _, _, _, _, _, _, _, _, _, _, _, _, _, _, _, _, _, _, _, _, rfl, hI.s23⟩
          · have hx19 := hI.p19 (hd 19 (by decide))
            subst hx19
            have hx23 := hI.p23 (hd 23 (by decide))
            subst hx23
            rw [if_pos (by rfl)]
            go_simp
            exact hK.out _ _ ⟨_, _, _, _, _, _, _, _, _, _, _, _, _, _, _, _, _, _, _, _, _, _, _, _, _, _, _, _, _, _, _, _, _, _, _, _, _, _, _, _, _, _, _, _, _, _, _, _, _, _, _, _, rfl, hI.s24⟩
          · have hx24 := hI.p24 (hd 24 (by decide))
            subst hx24
            rw [if_pos (by rfl)]
            go_simp
            exact hK.out _ _ ⟨_, _, _, _, _, _, _, _, _, _, _, _, _, _, _, _, _, _, _, _, _, _, _, _, _, _, _, _, _, _, _, _, _, _, _, _, _, _, _, _, _, _, _, _, _, _, _, _, _, _, _, _, rfl, hI.s25⟩
          · have hx25 := hI.p25 (hd 25 (by decide))
            subst hx25
            rw [if_pos (by rfl)]
            go_simp
            exact hK.out _ _ ⟨_, _, _, _, _, _, _, _, _, _, _, _, _, _, _, _, _, _, _, _, _, _, _, _, _, _, _, _, _, _, _, _, _, _, _, _, _, _, _, _, _, _, _, _, _, _, _, _, _, _, _, _, rfl, hI.s26⟩
          · have hx26 := hI.p26 (hd 26 (by decide))
            subst hx26
            have hx25 := hI.p25 (hd 25 (by decide))
            subst hx25
            rw [if_pos (by rfl)]
            have cv := HVD.out W hI.x
            go_simp
            exact hK.out _ _ ⟨_, _, _, _, _, _, _, _, _, _, _, _, _, _, _, _, _, _, _, _, _, _, _, _, _, _, _, _, _, _, _, _, _, _, _, _, _, _, _, _, _, _, _, _, _, _, _, _, _, _, _, _, rfl, hI.s27⟩
          · have hx25 := hI.p25 (hd 25 (by decide))
            subst hx25
            rw [if_pos (by rfl)]
            go_simp
            exact hK.out _ _ ⟨_, _, _, _, _, _, _, _, _, _, _, _, _, _, _, _, _, _, _, _, _, _, _, _, _, _, _, _, _, _, _, _, _, _, _, _, _, _, _, _, _, _, _, _, _, _, _, _, _, _, _, _, rfl, hI.s28⟩
          · have hx28 := hI.p28 (hd 28 (by decide))
            subst hx28
            have hx25 := hI.p25 (hd 25 (by decide))
            subst hx25
            rw [if_pos (by rfl)]
            go_simp
            refine (HRB.out W hI.x).mono ?_
            rintro e W2 ⟨ao3, c3, rfl, ho3, hb3⟩
            replace ho3 : ∃ ao c, Value.slice ao3 (bn - 32) c3 = .slice ao (bn - 32) c ∧ Own V1.heap.size W2 (.slice ao (bn - 32) c) BD := ⟨_, _, rfl, own_le ho3 hI.x.size⟩
            go_simp
            exact hK.out _ _ ⟨_, _, _, _, _, _, _, _, _, _, _, _, _, _, _, _, _, _, _, _, _, _, _, _, _, _, _, _, _, _, _, _, _, _, _, _, _, _, _, _, _, _, _, _, _, _, _, _, _, _, _, _, rfl, hI.s29 (hI.x.trans (hb3.mono hI.x.size)) hb3 ho3⟩
          · obtain ⟨ao29, c29, hx29, ho29⟩ := hI.p29 (hd 29 (by decide))
            subst hx29
            have hx25 := hI.p25 (hd 25 (by decide))
            subst hx25
            rw [if_pos (by rfl)]
            have cv := conv_bytes W ao29 _ c29 BD HBD.out (own_IsB ho29)
            go_simp
            exact hK.out _ _ ⟨_, _, _, _, _, _, _, _, _, _, _, _, _, _, _, _, _, _, _, _, _, _, _, _, _, _, _, _, _, _, _, _, _, _, _, _, _, _, _, _, _, _, _, _, _, _, _, _, _, _, _, _, rfl, hI.s30⟩
          · have hx27 := hI.p27 (hd 27 (by decide))
            subst hx27
            have hx30 := hI.p30 (hd 30 (by decide))
            subst hx30
            have hx25 := hI.p25 (hd 25 (by decide))
            subst hx25
            rw [if_pos (by rfl)]
            go_simp
            exact hK.out _ _ ⟨_, _, _, _, _, _, _, _, _, _, _, _, _, _, _, _, _, _, _, _, _, _, _, _, _, _, _, _, _, _, _, _, _, _, _, _, _, _, _, _, _, _, _, _, _, _, _, _, _, _, _, _, rfl, hI.s31⟩
          · have hx25 := hI.p25 (hd 25 (by decide))
            subst hx25
            have hx31 := hI.p31 (hd 31 (by decide))
            subst hx31
            rw [if_pos (by rfl)]
            go_simp
            exact hK.out _ _ ⟨_, _, _, _, _, _, _, _, _, _, _, _, _, _, _, _, _, _, _, _, _, _, _, _, _, _, _, _, _, _, _, _, _, _, _, _, _, _, _, _, _, _, _, _, _, _, _, _, _, _, _, _, rfl, hI.s32⟩
          · have hx32 := hI.p32 (hd 32 (by decide))
            subst hx32
            rw [if_pos (by rfl)]
            go_simp
            exact hK.out _ _ ⟨_, _, _, _, _, _, _, _, _, _, _, _, _, _, _, _, _, _, _, _, _, _, _, _, _, _, _, _, _, _, _, _, _, _, _, _, _, _, _, _, _, _, _, _, _, _, _, _, _, _, _, _, rfl, hI.s33⟩
          · have hx33 := hI.p33 (hd 33 (by decide))
            subst hx33
            rw [if_pos (by rfl)]
            go_simp
            exact hK.out _ _ ⟨_, _, _, _, _, _, _, _, _, _, _, _, _, _, _, _, _, _, _, _, _, _, _, _, _, _, _, _, _, _, _, _, _, _, _, _, _, _, _, _, _, _, _, _, _, _, _, _, _, _, _, _, rfl, hI.s34⟩
          · have hx33 := hI.p33 (hd 33 (by decide))
            subst hx33
            rw [if_pos (by rfl)]
            go_simp
            exact hK.out _ _ ⟨_, _, _, _, _, _, _, _, _, _, _, _, _, _, _, _, _, _, _, _, _, _, _, _, _, _, _, _, _, _, _, _, _, _, _, _, _, _, _, _, _, _, _, _, _, _, _, _, _, _, _, _, rfl, hI.s35⟩
          · have hx34 := hI.p34 (hd 34 (by decide))
            subst hx34
            have hx35 := hI.p35 (hd 35 (by decide))
            subst hx35
            have hx33 := hI.p33 (hd 33 (by decide))
            subst hx33
            rw [if_pos (by rfl)]
            go_simp
            refine (HK1.out W hI.x).mono ?_
            rintro e W2 ⟨rfl, rfl⟩
            have hb3 := Below.refl W2.heap.size W2
            go_simp
            exact hK.out _ _ ⟨_, _, _, _, _, _, _, _, _, _, _, _, _, _, _, _, _, _, _, _, _, _, _, _, _, _, _, _, _, _, _, _, _, _, _, _, _, _, _, _, _, _, _, _, _, _, _, _, _, _, _, _, rfl, hI.s36 (hI.x) hb3⟩
          · have hx36 := hI.p36 (hd 36 (by decide))
            subst hx36
            have hx33 := hI.p33 (hd 33 (by decide))
            subst hx33
            rw [if_pos (by rfl)]
            go_simp
            exact hK.out _ _ ⟨_, _, _, _, _, _, _, _, _, _, _, _, _, _, _, _, _, _, _, _, _, _, _, _, _, _, _, _, _, _, _, _, _, _, _, _, _, _, _, _, _, _, _, _, _, _, _, _, _, _, _, _, rfl, hI.s37⟩
          · have hx33 := hI.p33 (hd 33 (by decide))
            subst hx33
            have hx37 := hI.p37 (hd 37 (by decide))
            subst hx37
            rw [if_pos (by rfl)]
            go_simp
            exact hK.out _ _ ⟨_, _, _, _, _, _, _, _, _, _, _, _, _, _, _, _, _, _, _, _, _, _, _, _, _, _, _, _, _, _, _, _, _, _, _, _, _, _, _, _, _, _, _, _, _, _, _, _, _, _, _, _, rfl, hI.s38⟩
          · have hx38 := hI.p38 (hd 38 (by decide))
            subst hx38
            rw [if_pos (by rfl)]
            go_simp
            exact hK.out _ _ ⟨_, _, _, _, _, _, _, _, _, _, _, _, _, _, _, _, _, _, _, _, _, _, _, _, _, _, _, _, _, _, _, _, _, _, _, _, _, _, _, _, _, _, _, _, _, _, _, _, _, _, _, _, rfl, hI.s39⟩
          · have hx39 := hI.p39 (hd 39 (by decide))
            subst hx39
            rw [if_pos (by rfl)]
            go_simp
            exact hK.out _ _ ⟨_, _, _, _, _, _, _, _, _, _, _, _, _, _, _, _, _, _, _, _, _, _, _, _, _, _, _, _, _, _, _, _, _, _, _, _, _, _, _, _, _, _, _, _, _, _, _, _, _, _, _, _, rfl, hI.s40⟩
          · have hx39 := hI.p39 (hd 39 (by decide))
            subst hx39
            rw [if_pos (by rfl)]
            go_simp
            exact hK.out _ _ ⟨_, _, _, _, _, _, _, _, _, _, _, _, _, _, _, _, _, _, _, _, _, _, _, _, _, _, _, _, _, _, _, _, _, _, _, _, _, _, _, _, _, _, _, _, _, _, _, _, _, _, _, _, rfl, hI.s41⟩
          · have hx40 := hI.p40 (hd 40 (by decide))
            subst hx40
            have hx41 := hI.p41 (hd 41 (by decide))
            subst hx41
            have hx39 := hI.p39 (hd 39 (by decide))
            subst hx39
            rw [if_pos (by rfl)]
            go_simp
            refine (HK2.out W hI.x).mono ?_
            rintro e W2 ⟨rfl, rfl⟩
            have hb3 := Below.refl W2.heap.size W2
            go_simp
            exact hK.out _ _ ⟨_, _, _, _, _, _, _, _, _, _, _, _, _, _, _, _, _, _, _, _, _, _, _, _, _, _, _, _, _, _, _, _, _, _, _, _, _, _, _, _, _, _, _, _, _, _, _, _, _, _, _, _, rfl, hI.s42 (hI.x) hb3⟩
          · have hx42 := hI.p42 (hd 42 (by decide))
            subst hx42
            have hx39 := hI.p39 (hd 39 (by decide))
            subst hx39
            rw [if_pos (by rfl)]
            go_simp
            exact hK.out _ _ ⟨_, _, _, _, _, _, _, _, _, _, _, _, _, _, _, _, _, _, _, _, _, _, _, _, _, _, _, _, _, _, _, _, _, _, _, _, _, _, _, _, _, _, _, _, _, _, _, _, _, _, _, _, rfl, hI.s43⟩
          · have hx39 := hI.p39 (hd 39 (by decide))
            subst hx39
            have hx43 := hI.p43 (hd 43 (by decide))
            subst hx43
            rw [if_pos (by rfl)]
            go_simp
            exact hK.out _ _ ⟨_, _, _, _, _, _, _, _, _, _, _, _, _, _, _, _, _, _, _, _, _, _, _, _, _, _, _, _, _, _, _, _, _, _, _, _, _, _, _, _, _, _, _, _, _, _, _, _, _, _, _, _, rfl, hI.s44⟩
          · have hx44 := hI.p44 (hd 44 (by decide))
            subst hx44
            rw [if_pos (by rfl)]
            go_simp
            exact hK.out _ _ ⟨_, _, _, _, _, _, _, _, _, _, _, _, _, _, _, _, _, _, _, _, _, _, _, _, _, _, _, _, _, _, _, _, _, _, _, _, _, _, _, _, _, _, _, _, _, _, _, _, _, _, _, _, rfl, hI.s45⟩
          · have hx45 := hI.p45 (hd 45 (by decide))
            subst hx45
            rw [if_pos (by rfl)]
            go_simp
            exact hK.out _ _ ⟨_, _, _, _, _, _, _, _, _, _, _, _, _, _, _, _, _, _, _, _, _, _, _, _, _, _, _, _, _, _, _, _, _, _, _, _, _, _, _, _, _, _, _, _, _, _, _, _, _, _, _, _, rfl, hI.s46⟩
          · have hx45 := hI.p45 (hd 45 (by decide))
            subst hx45
            rw [if_pos (by rfl)]
            go_simp
            exact hK.out _ _ ⟨_, _, _, _, _, _, _, _, _, _, _, _, _, _, _, _, _, _, _, _, _, _, _, _, _, _, _, _, _, _, _, _, _, _, _, _, _, _, _, _, _, _, _, _, _, _, _, _, _, _, _, _, rfl, hI.s47⟩
          · have hx47 := hI.p47 (hd 47 (by decide))
            subst hx47
            have hx45 := hI.p45 (hd 45 (by decide))
            subst hx45
            rw [if_pos (by rfl)]
            have c3 := HC3.out W hI.x
            go_simp
            exact hK.out _ _ ⟨_, _, _, _, _, _, _, _, _, _, _, _, _, _, _, _, _, _, _, _, _, _, _, _, _, _, _, _, _, _, _, _, _, _, _, _, _, _, _, _, _, _, _, _, _, _, _, _, _, _, _, _, rfl, hI.s48⟩
          · have hx46 := hI.p46 (hd 46 (by decide))
            subst hx46
            have hx48 := hI.p48 (hd 48 (by decide))
            subst hx48
            have hx45 := hI.p45 (hd 45 (by decide))
            subst hx45
            rw [if_pos (by rfl)]
            go_simp
            refine (HK3.out W hI.x).mono ?_
            rintro e W2 ⟨rfl, rfl⟩
            have hb3 := Below.refl W2.heap.size W2
            go_simp
            exact hK.out _ _ ⟨_, _, _, _, _, _, _, _, _, _, _, _, _, _, _, _, _, _, _, _, _, _, _, _, _, _, _, _, _, _, _, _, _, _, _, _, _, _, _, _, _, _, _, _, _, _, _, _, _, _, _, _, rfl, hI.s49 (hI.x) hb3⟩
          · have hx49 := hI.p49 (hd 49 (by decide))
            subst hx49
            have hx45 := hI.p45 (hd 45 (by decide))
            subst hx45
            rw [if_pos (by rfl)]
            go_simp
            exact hK.out _ _ ⟨_, _, _, _, _, _, _, _, _, _, _, _, _, _, _, _, _, _, _, _, _, _, _, _, _, _, _, _, _, _, _, _, _, _, _, _, _, _, _, _, _, _, _, _, _, _, _, _, _, _, _, _, rfl, hI.s50⟩
          · have hx45 := hI.p45 (hd 45 (by decide))
            subst hx45
            have hx50 := hI.p50 (hd 50 (by decide))
            subst hx50
            rw [if_pos (by rfl)]
            go_simp
            exact hK.out _ _ ⟨_, _, _, _, _, _, _, _, _, _, _, _, _, _, _, _, _, _, _, _, _, _, _, _, _, _, _, _, _, _, _, _, _, _, _, _, _, _, _, _, _, _, _, _, _, _, _, _, _, _, _, _, rfl, hI.s51⟩
        · refine K16.ends ?_; intro x79 x80 x81 x82 x83 x84 x85 x86 x87 x88 x89 x90 x91 x92 x93 x94 x95 x96 x97 x98 x99 x100 x101 x102 x103 x104 x105 x106 x107 x108 x109 x110 x111 x112 x113 x114 x115 x116 x117 x118 x119 x120 x121 x122 x123 x124 x125 x126 x127 x128 x129 x130 L W hall hI
          have hx0 := hI.p0 (hall 0 (by decide))
          subst hx0
          have hx1 := hI.p1 (hall 1 (by decide))
          subst hx1
          have hx2 := hI.p2 (hall 2 (by decide))
          subst hx2
          have hx3 := hI.p3 (hall 3 (by decide))
          subst hx3
          have hx4 := hI.p4 (hall 4 (by decide))
          subst hx4
          have hx5 := hI.p5 (hall 5 (by decide))
          subst hx5
          have hx6 := hI.p6 (hall 6 (by decide))
          subst hx6
          have hx7 := hI.p7 (hall 7 (by decide))
          subst hx7
          have hx8 := hI.p8 (hall 8 (by decide))
          subst hx8
          have hx9 := hI.p9 (hall 9 (by decide))
          subst hx9
          have hx10 := hI.p10 (hall 10 (by decide))
          subst hx10
          have hx11 := hI.p11 (hall 11 (by decide))
          subst hx11
          have hx12 := hI.p12 (hall 12 (by decide))
          subst hx12
          have hx13 := hI.p13 (hall 13 (by decide))
          subst hx13
          have hx14 := hI.p14 (hall 14 (by decide))
          subst hx14
          have hx15 := hI.p15 (hall 15 (by decide))
          subst hx15
          have hx16 := hI.p16 (hall 16 (by decide))
          subst hx16
          have hx17 := hI.p17 (hall 17 (by decide))
          subst hx17
          have hx18 := hI.p18 (hall 18 (by decide))
          subst hx18
          have hx19 := hI.p19 (hall 19 (by decide))
          subst hx19
          have hx20 := hI.p20 (hall 20 (by decide))
          subst hx20
          have hx21 := hI.p21 (hall 21 (by decide))
          subst hx21
          have hx22 := hI.p22 (hall 22 (by decide))
          subst hx22
          have hx23 := hI.p23 (hall 23 (by decide))
          subst hx23
          have hx24 := hI.p24 (hall 24 (by decide))
          subst hx24
          have hx25 := hI.p25 (hall 25 (by decide))
          subst hx25
          have hx26 := hI.p26 (hall 26 (by decide))
          subst hx26
          have hx27 := hI.p27 (hall 27 (by decide))
          subst hx27
          have hx28 := hI.p28 (hall 28 (by decide))
          subst hx28
          obtain ⟨ao29, c29, hx29, ho29⟩ := hI.p29 (hall 29 (by decide))
          subst hx29
          have hx30 := hI.p30 (hall 30 (by decide))
          subst hx30
          have hx31 := hI.p31 (hall 31 (by decide))
          subst hx31
          have hx32 := hI.p32 (hall 32 (by decide))
          subst hx32
          have hx33 := hI.p33 (hall 33 (by decide))
          subst hx33
          have hx34 := hI.p34 (hall 34 (by decide))
          subst hx34
          have hx35 := hI.p35 (hall 35 (by decide))
          subst hx35
          have hx36 := hI.p36 (hall 36 (by decide))
          subst hx36
          have hx37 := hI.p37 (hall 37 (by decide))
          subst hx37
          have hx38 := hI.p38 (hall 38 (by decide))
          subst hx38
          have hx39 := hI.p39 (hall 39 (by decide))
          subst hx39
          have hx40 := hI.p40 (hall 40 (by decide))
          subst hx40
          have hx41 := hI.p41 (hall 41 (by decide))
          subst hx41
          have hx42 := hI.p42 (hall 42 (by decide))
          subst hx42
          have hx43 := hI.p43 (hall 43 (by decide))
          subst hx43
          have hx44 := hI.p44 (hall 44 (by decide))
          subst hx44
          have hx45 := hI.p45 (hall 45 (by decide))
          subst hx45
          have hx46 := hI.p46 (hall 46 (by decide))
          subst hx46
          have hx47 := hI.p47 (hall 47 (by decide))
          subst hx47
          have hx48 := hI.p48 (hall 48 (by decide))
          subst hx48
          have hx49 := hI.p49 (hall 49 (by decide))
          subst hx49
          have hx50 := hI.p50 (hall 50 (by decide))
          subst hx50
          have hx51 := hI.p51 (hall 51 (by decide))
          subst hx51
          have hXe := hI.x
          clear hI hall
          try dsimp only
          clear ho29 HVC HVW HVD HZ HY HZL HYL HR21 HR15 HSM HRB HK1 HK2 HK3 HC3
          have x19 := X19.out W hXe
          have alA := (Below.refl W.heap.size W).alloc (Nat.le_refl _) (.cells #[.slice aoc MK.length cc, .slice aoz D.pl.length cz, .slice aod (bn - 32) cd] 23)
          have bVA := hXe.trans (alA.mono hXe.size)
          have bA : Below wr.heap.size wr (W.alloc (.cells #[.slice aoc MK.length cc, .slice aoz D.pl.length cz, .slice aod (bn - 32) cd] 23)) := bV.trans (bVA.mono bV.size)
          have rowA : Row (W.alloc (.cells #[.slice aoc MK.length cc, .slice aoz D.pl.length cz, .slice aod (bn - 32) cd] 23)) W.heap.size 23 [.slice aoc MK.length cc, .slice aoz D.pl.length cz, .slice aod (bn - 32) cd] := Row.at _ _ _ _ _ rfl rfl
          have arA : OwnS M (W.alloc (.cells #[.slice aoc MK.length cc, .slice aoz D.pl.length cz, .slice aod (bn - 32) cd] 23)) aoO cO (rs.map Gr.val) := OK.out.arr.of_block (by have := bA.size; omega) (fun B e => bA.block B (OK.out.arr.lies B 0 e).2.2)
          have hlo := arA.1
          rw [List.length_map, OK.out.len] at hlo
          obtain ⟨f0, f1, f2⟩ := OC.out _ bVA
          have PU : Hid (∀ (ao' : Option Addr) (c' : Nat) (w2 : World), w2.ownsRow M 23 1 (.slice ao' (3 * q + 3) c') (3 * q + 3) (rs.map Gr.val ++ [.slice aoc MK.length cc, .slice aoz D.pl.length cz, .slice aod (bn - 32) cd]) → Below M (W.alloc (.cells #[.slice aoc MK.length cc, .slice aoz D.pl.length cz, .slice aod (bn - 32) cd] 23)) w2 → (∀ k, k < (W.alloc (.cells #[.slice aoc MK.length cc, .slice aoz D.pl.length cz, .slice aod (bn - 32) cd] 23)).heap.size → aoO ≠ some ⟨k, 0, none⟩ → w2.heap[k]? = (W.alloc (.cells #[.slice aoc MK.length cc, .slice aoz D.pl.length cz, .slice aod (bn - 32) cd] 23)).heap[k]?) → (ao' = aoO ∨ ao' = some ⟨(W.alloc (.cells #[.slice aoc MK.length cc, .slice aoz D.pl.length cz, .slice aod (bn - 32) cd] 23)).heap.size, 0, none⟩) → OutOk M MK D.pl BD w7 (q + 1) ao' c' (rs ++ [⟨aoc, MK.length, cc⟩, ⟨aoz, D.pl.length, cz⟩, ⟨aod, bn - 32, cd⟩]) w2) := by
            intro ao' c' w2 q1 q2 q4 q5
            refine OK.out.push bA ⟨aoc, MK.length, cc⟩ ⟨aoz, D.pl.length, cz⟩ ⟨aod, bn - 32, cd⟩ f0 f1 f2 SEP.out ao' c' ⟨?_, Nat.le_trans arA.2 q2.size⟩ q2 q4 q5
            rw [List.map_append, List.length_append, List.length_map, OK.out.len]
            exact q1
          clear f0 f1 f2 OC SEP X19
          go_wp2_with (at_builtin; refine wpList_append_just el_rows rfl (.tmp 131) (.tmp 136) rfl M (W.alloc (.cells #[.slice aoc MK.length cc, .slice aoz D.pl.length cz, .slice aod (bn - 32) cd] 23)) aoO (3 * q) cO _ rfl hlo arA.2 (Below.refl _ _) W.heap.size 0 3 3 [.slice aoc MK.length cc, .slice aoz D.pl.length cz, .slice aod (bn - 32) cd] rfl rfl (fun j u hu => by rw [Nat.zero_add]; exact rowA.cell j u hu) (by omega) (by intro u hu; simp at hu; rcases hu with rfl | rfl | rfl <;> rfl) (by unfold maxLen; omega) (by omega) ?_; intro ao' c' w2 q1 q2 q3 q4 q5)
          have OKn := PU.out ao' c' w2 q1 q2 (fun k hk hne => q4 k hk (fun g e e2 => hne (by rw [e, e2]))) (q5.imp id (·.1))
          exact ⟨⟨q + 1, c', ao', _, by omega, by go_num, rfl, OKn⟩, by simp [intOf]; omega⟩
      · obtain rfl : q = 2 := by omega
        have ch := OK.out.chg
        have XS0 : XS W1.heap.size M w wr gs (sn + 5) c7 gi (bn + 5) c8 gp (n + 5) c9 wr := ⟨(FO.out _ ch).1, (FO.out _ ch).2.1, (FO.out _ ch).2.2, fun _ _ => rfl, rfl, FB.out _ ch⟩
        obtain ⟨WR, hWR⟩ : ∃ WR : World, WR = wr := ⟨_, rfl⟩
        subst hWR
        clear hlt CM CB
        go_wp2
        go_loopw [140] (fun i wx => ∃ j : Nat, j ≤ sn ∧ i = .int .i64 j ∧ XS W1.heap.size M w WR gs (sn + 5) c7 gi (bn + 5) c8 gp (n + 5) c9 wx) (fun i _ => sn - (intOf i).toNat)
        case atStart => exact ⟨0, by omega, rfl, XS0⟩
        case round =>
          clear XS0
          obtain ⟨j, hj, rfl, xs⟩ := hrel
          by_cases hjl : j < sn
          · have j1 : (j : Int) < (sn : Int) := by omega
            have j0 : (0 : Int) ≤ (j : Int) := by omega
            obtain ⟨ys, hy⟩ := xs.es
            have cc := hy.cell j (by omega)
            have ff := hy.frozen j
            have XN : Hid (XS W1.heap.size M w WR gs (sn + 5) c7 gi (bn + 5) c8 gp (n + 5) c9 (wr.setCell ⟨gs, j, none⟩ (.int .u8 ((ys.getD j 0 ^^^ 60#8).toNat : Int)))) := xs.set gs j _ hgsl lgs
            have bx : bits .xor .u8 ((ys.getD j 0).toNat : Int) 60 = ((ys.getD j 0 ^^^ 60#8).toNat : Int) := bits8_xor (ys.getD j 0) 60#8
            generalize (ys.getD j 0).toNat = Y0 at cc bx
            generalize (ys.getD j 0 ^^^ 60#8).toNat = Y1 at bx XN
            clear hy xs
            go_wp2
            exact ⟨⟨j + 1, by omega, by go_num, XN.out⟩, by simp [intOf]; omega⟩
          · have hje : j = sn := by omega
            subst hje
            have j1 : ¬ (j : Int) < (j : Int) := by omega
            clear hjl hj
            go_wp2
            have XS152 := xs
            clear xs
            go_loopw [152] (fun i wx => ∃ jj : Nat, jj ≤ bn ∧ i = .int .i64 jj ∧ XS W1.heap.size M w WR gs (j + 5) c7 gi (bn + 5) c8 gp (n + 5) c9 wx) (fun i _ => bn - (intOf i).toNat)
            case atStart => exact ⟨0, by omega, rfl, XS152⟩
            case round =>
              clear XS152
              obtain ⟨j2, hj, rfl, xs⟩ := hrel
              by_cases hjl : j2 < bn
              · have j1 : (j2 : Int) < (bn : Int) := by omega
                have j0 : (0 : Int) ≤ (j2 : Int) := by omega
                obtain ⟨ys, hy⟩ := xs.ei
                have cc := hy.cell j2 (by omega)
                have ff := hy.frozen j2
                have XN : Hid (XS W1.heap.size M w WR gs (j + 5) c7 gi (bn + 5) c8 gp (n + 5) c9 (wr.setCell ⟨gi, j2, none⟩ (.int .u8 ((ys.getD j2 0 ^^^ 60#8).toNat : Int)))) := xs.set gi j2 _ hgil lgi
                have bx : bits .xor .u8 ((ys.getD j2 0).toNat : Int) 60 = ((ys.getD j2 0 ^^^ 60#8).toNat : Int) := bits8_xor (ys.getD j2 0) 60#8
                generalize (ys.getD j2 0).toNat = Y0 at cc bx
                generalize (ys.getD j2 0 ^^^ 60#8).toNat = Y1 at bx XN
                clear hy xs
                go_wp2
                exact ⟨⟨j2 + 1, by omega, by go_num, XN.out⟩, by simp [intOf]; omega⟩
              · have hje : j2 = bn := by omega
                subst hje
                have j1 : ¬ (j2 : Int) < (j2 : Int) := by omega
                clear hjl hj
                go_wp2
                have XS164 := xs
                clear xs
                go_loopw [164] (fun i wx => ∃ jj : Nat, jj ≤ n ∧ i = .int .i64 jj ∧ XS W1.heap.size M w WR gs (j + 5) c7 gi (j2 + 5) c8 gp (n + 5) c9 wx) (fun i _ => n - (intOf i).toNat)
                case atStart => exact ⟨0, by omega, rfl, XS164⟩
                case round =>
                  clear XS164
                  obtain ⟨j3, hj, rfl, xs⟩ := hrel
                  by_cases hjl : j3 < n
                  · have j1 : (j3 : Int) < (n : Int) := by omega
                    have j0 : (0 : Int) ≤ (j3 : Int) := by omega
                    obtain ⟨ys, hy⟩ := xs.ep
                    have cc := hy.cell j3 (by omega)
                    have ff := hy.frozen j3
                    have XN : Hid (XS W1.heap.size M w WR gs (j + 5) c7 gi (j2 + 5) c8 gp (n + 5) c9 (wr.setCell ⟨gp, j3, none⟩ (.int .u8 ((ys.getD j3 0 ^^^ 60#8).toNat : Int)))) := xs.set gp j3 _ hgpl lgp
                    have bx : bits .xor .u8 ((ys.getD j3 0).toNat : Int) 60 = ((ys.getD j3 0 ^^^ 60#8).toNat : Int) := bits8_xor (ys.getD j3 0) 60#8
                    generalize (ys.getD j3 0).toNat = Y0 at cc bx
                    generalize (ys.getD j3 0 ^^^ 60#8).toNat = Y1 at bx XN
                    clear hy xs
                    go_wp2
                    exact ⟨⟨j3 + 1, by omega, by go_num, XN.out⟩, by simp [intOf]; omega⟩
                  · have hje : j3 = n := by omega
                    subst hje
                    have j1 : ¬ (j3 : Int) < (j3 : Int) := by omega
                    clear hjl hj
                    go_wp2
                    obtain ⟨X, hX⟩ : ∃ X : World, X = wr := ⟨_, rfl⟩
                    subst hX
                    have keepX : ∀ {N : Nat} {o : Option Addr} {l c : Nat} {m : List By}, M ≤ N → Own N WR (.slice o l c) m → Own N X (.slice o l c) m := fun hN h => h.of_block (by have := h.2; rw [xs.sz]; exact this) (fun B off e => xs.low B (by have := (h.lies B off e).2.1; omega))
                    have hMX : M ≤ X.heap.size := by rw [xs.sz]; exact OK.out.arr.2
                    have XW : Hid (∀ W', Below X.heap.size X W' → Own M W' (.slice aoW MK.length cW) MK) := fun W' h => (keepX (Nat.le_refl _) (FOW.out _ ch).1).keep h
                    have XY : Hid (∀ W', Below X.heap.size X W' → Own M W' (.slice aoY D.pl.length cY) D.pl) := fun W' h => (keepX (Nat.le_refl _) (FOW.out _ ch).2.1).keep h
                    have rG : Row X G 27 IY := (xs.low G (by omega)).trans (F14.out _ ch)
                    have rG1 : Row X (G + 1) 39 [.int .i64 D.E, .int .i64 D.At] := (xs.low (G + 1) (by omega)).trans (F15.out _ ch)
                    have XR14 : Hid (∀ W', Below X.heap.size X W' → Row W' G 27 IY) := fun W' h => rG.below h rG.lt
                    have XR15 : Hid (∀ W', Below X.heap.size X W' → Row W' (G + 1) 39 [.int .i64 D.E, .int .i64 D.At]) := fun W' h => rG1.below h rG1.lt
                    have XBB : Hid (∀ W', Below X.heap.size X W' → Below w.heap.size w W') := fun W' h => xs.bel.trans (h.mono xs.bel.size)
                    have XO : Hid (∀ W', Below X.heap.size X W' → ∀ (i : Nat) (r : Gr), rs[i]? = some r → Own M W' r.val (cyc MK D.pl BD i)) := fun W' h i r hr => (keepX (Nat.le_refl _) (OK.out.rows i r hr)).keep h
                    have aX : OwnS M X aoO cO (rs.map Gr.val) := OK.out.arr.of_block hMX (fun B e => xs.low B (OK.out.arr.lies B 0 e).2.1)
                    have XA : Hid (∀ W', Below X.heap.size X W' → OwnS M W' aoO cO (rs.map Gr.val)) := fun W' h => aX.of_block (by have := h.size; omega) (fun B e => h.block B (aX.lies B 0 e).2.2)
                    have hrl := OK.out.len
                    have HSR : Hid (SepR rs) := OK.out.sep
                    have HHI : Hid (∀ r ∈ rs, ∀ B off, r.ao = some ⟨B, off, none⟩ → G + 2 ≤ B) := fun r hr B off e => by have := OK.out.hi r hr B off e; have := HZ7.out; omega
                    have hXG : G + 2 ≤ X.heap.size := by rw [xs.sz]; have := ch.size; have := HZ7.out; omega
                    have HRL : Hid (rs.length = 6) := hrl
                    clear keepX rG rG1 aX hrl OK xs FL FM FSX FI FP FW FY F14 F15 FO FOW FB ch
                    go_loopw [176] (fun i wx => ∃ a : Nat, a ≤ 6 ∧ i = .int .i64 a ∧ Below X.heap.size X wx) (fun i _ => 6 - (intOf i).toNat)
                    case atStart => exact ⟨0, by omega, rfl, Below.refl _ _⟩
                    case round =>
                      obtain ⟨a, ha, rfl, bx⟩ := hrel
                      by_cases hal : a < 6
                      · have a1 : (a : Int) < 6 := by omega
                        have a0 : (0 : Int) ≤ (a : Int) := by omega
                        obtain ⟨am, hap⟩ : ∃ am, a % 3 = am := ⟨_, rfl⟩
                        have hrem : (a : Int) % 3 = (am : Int) := by omega
                        have hrem2 : Int.tmod (a : Int) 3 = (am : Int) := by rw [Int.tmod_eq_emod_of_nonneg a0]; exact hrem
                        have am1 : (am : Int) < 3 := by omega
                        have am0 : (0 : Int) ≤ (am : Int) := by omega
                        obtain ⟨V1, hV1⟩ : ∃ V1 : World, V1 = wr := ⟨_, rfl⟩
                        subst hV1
                        have hMv : M ≤ V1.heap.size := by have := bx.size; omega
                        have tr : ∀ W, Below V1.heap.size V1 W → Below X.heap.size X W := fun W h => bx.trans (h.mono bx.size)
                        have XRB : Hid (∀ W, Below V1.heap.size V1 W → Calls Tryd.prog 18 #[.slice bo j2 bc] W fun e w' => ∃ ao' c', e = .returned (.slice ao' (j2 - 32) c') ∧ Own W.heap.size w' (.slice ao' (j2 - 32) c') BD ∧ Below W.heap.size W w') := fun W h => RB.out W (XBB.out W (tr W h))
                        have XC3 : Hid (∀ W, Below V1.heap.size V1 W → W.cell? ⟨G, 3, none⟩ = some (.slice aoY D.pl.length cY)) := fun W h => (XR14.out W (tr W h)).cell 3 _ HY3.out
                        have XW' := XW
                        have XY' := XY
                        replace XW : Hid (∀ W, Below V1.heap.size V1 W → Own M W (.slice aoW MK.length cW) MK) := fun W h => XW'.out W (tr W h)
                        replace XY : Hid (∀ W, Below V1.heap.size V1 W → Own M W (.slice aoY D.pl.length cY) D.pl) := fun W h => XY'.out W (tr W h)
                        go_wp2_with fail
                        refine wp_region_inv (IK37 V1 M aoW aoY bo MK.length cW D.pl.length cY (j2 - 32) j2 bc G a am MK D.pl BD _ _ _ _ _ _ _ _ _ _ _ _ _ _ _ _ _ _ _ _ _ _ _ _ _ _ _ _ _ _ _ _ _ _ _ _ _ _ _ _ _ _ _ _ _ _ _ _ _ _ _ _ _ _ _ _ _ _ _ _ _ _ _ _ _ _ _ _ _ _ _ _ _ _ _ _ _ _ _ _ _ _ _ _ _ _ _ _ _ _ _ _ _ _ _ _ _ _ _ _ _ _ _ _ _ _ _ _ _ _ _ _ _ _ _ _ _ _ _ _ _ _ _ _ _ _ _ _ _ _ _ _ _ _ _ _ _ _ _ _ _ _ _ _ _ _ _ _ _ _ _ _ _ _ _ _ _ _ _ _ _ _ _ _ _ _ _ _ _ _ _ _ _ _ _ _ _ _ _ _ _ _ _ _ _ _ _ _ _ _ _ _ _ _ _ _ _ _ _ _ _ _ _ _ _ _ _ _ _ _ _) (by kernel_rfl) (by kernel_rfl) ⟨_, _, _, _, _, _, _, _, _, _, _, rfl, ⟨(Below.refl _ _).drew, fun k => (by cases k), fun k => (by cases k), fun k => (by cases k), fun k => (by cases k), fun k => (by cases k), fun k => (by cases k), fun k => (by cases k), fun k => (by cases k), fun k => (by cases k), fun k => (by cases k), fun k => (by cases k)⟩⟩ ?_ ?_
                        · refine .cons ?_ (.cons ?_ (.cons ?_ (.cons ?_ (.cons ?_ (.cons ?_ (.cons ?_ (.cons ?_ (.cons ?_ (.cons ?_ (.cons ?_ .nil))))))))))
                          all_goals (refine K37.step ?_; intro x179 x180 x181 x182 x183 x184 x185 x186 x187 x188 x28 L W hI hL hd K hK)
                          · rw [if_pos (by rfl)]
                            go_simp
                            exact hK.out _ _ ⟨_, _, _, _, _, _, _, _, _, _, _, rfl, hI.s0⟩
                          · rw [if_pos (by rfl)]
                            go_simp
                            exact hK.out _ _ ⟨_, _, _, _, _, _, _, _, _, _, _, rfl, hI.s1⟩
                          · have hx1 := hI.p1 (hd 1 (by decide))
                            subst hx1
                            rw [if_pos (by rfl)]
                            have c3 := XC3.out W hI.x
                            go_simp
                            exact hK.out _ _ ⟨_, _, _, _, _, _, _, _, _, _, _, rfl, hI.s2⟩
                          · rw [if_pos (by rfl)]
                            go_simp
                            exact hK.out _ _ ⟨_, _, _, _, _, _, _, _, _, _, _, rfl, hI.s3⟩
                          · have hx3 := hI.p3 (hd 3 (by decide))
                            subst hx3
                            rw [if_pos (by rfl)]
                            go_simp
                            refine (XRB.out W hI.x).mono ?_
                            rintro e W2 ⟨ao3, c3, rfl, ho3, hb3⟩
                            replace ho3 : ∃ ao c, Value.slice ao3 (j2 - 32) c3 = .slice ao (j2 - 32) c ∧ Own M W2 (.slice ao (j2 - 32) c) BD := ⟨_, _, rfl, own_le ho3 (Nat.le_trans hMv hI.x.size)⟩
                            go_simp
                            exact hK.out _ _ ⟨_, _, _, _, _, _, _, _, _, _, _, rfl, hI.s4 (hI.x.trans (hb3.mono hI.x.size)) hb3 ho3⟩
                          · have hx0 := hI.p0 (hd 0 (by decide))
                            subst hx0
                            have hx2 := hI.p2 (hd 2 (by decide))
                            subst hx2
                            obtain ⟨ao4, c4, hx4, ho4⟩ := hI.p4 (hd 4 (by decide))
                            subst hx4
                            rw [if_pos (by rfl)]
                            have hb3 : Below W.heap.size W (W.alloc (.cells #[.slice aoW MK.length cW, .slice aoY D.pl.length cY, .slice ao4 (j2 - 32) c4] 23)) := (Below.refl _ _).alloc (Nat.le_refl _) _
                            have ho5 := ho4.keep hb3
                            have rw5 : Row (W.alloc (.cells #[.slice aoW MK.length cW, .slice aoY D.pl.length cY, .slice ao4 (j2 - 32) c4] 23)) W.heap.size 23 [.slice aoW MK.length cW, .slice aoY D.pl.length cY, .slice ao4 (j2 - 32) c4] := Row.at _ _ _ _ _ rfl rfl
                            clear ho4
                            go_simp
                            have ho3 : ∃ g ao c, Value.slice (some ⟨W.heap.size, 0, none⟩) 3 3 = .slice (some ⟨g, 0, none⟩) 3 3 ∧ Row (W.alloc (.cells #[.slice aoW MK.length cW, .slice aoY D.pl.length cY, .slice ao4 (j2 - 32) c4] 23)) g 23 [.slice aoW MK.length cW, .slice aoY D.pl.length cY, .slice ao (j2 - 32) c] ∧ Own M (W.alloc (.cells #[.slice aoW MK.length cW, .slice aoY D.pl.length cY, .slice ao4 (j2 - 32) c4] 23)) (.slice ao (j2 - 32) c) BD := ⟨_, ao4, c4, rfl, rw5, ho5⟩
                            exact hK.out _ _ ⟨_, _, _, _, _, _, _, _, _, _, _, rfl, hI.s5 (hI.x.trans (hb3.mono hI.x.size)) hb3 ho3⟩
                          · rw [if_pos (by rfl)]
                            go_simp
                            exact hK.out _ _ ⟨_, _, _, _, _, _, _, _, _, _, _, rfl, hI.s6⟩
                          · have hx6 := hI.p6 (hd 6 (by decide))
                            subst hx6
                            rw [if_pos (by rfl)]
                            have hr1 := hrem
                            have hr2 := hrem2
                            go_simp
                            exact hK.out _ _ ⟨_, _, _, _, _, _, _, _, _, _, _, rfl, hI.s7⟩
                          · have hp5 := hI.p5 (hd 5 (by decide))
                            have hx7 := hI.p7 (hd 7 (by decide))
                            subst hx7
                            rw [if_pos (by rfl)]
                            obtain ⟨g, ao, c, hx, hr, ho⟩ := hp5
                            subst hx
                            have ho3 : ∃ g' ao c, Value.pointer (some ⟨g, am, none⟩) = .pointer (some ⟨g', am, none⟩) ∧ Row W g' 23 [.slice aoW MK.length cW, .slice aoY D.pl.length cY, .slice ao (j2 - 32) c] ∧ Own M W (.slice ao (j2 - 32) c) BD := ⟨g, ao, c, rfl, hr, ho⟩
                            clear hr ho
                            go_simp
                            exact hK.out _ _ ⟨_, _, _, _, _, _, _, _, _, _, _, rfl, hI.s8 ho3⟩
                          · have hp8 := hI.p8 (hd 8 (by decide))
                            rw [if_pos (by rfl)]
                            obtain ⟨g, ao, c, hx, hr, ho⟩ := hp8
                            subst hx
                            obtain ⟨ao9, c9', hcell, ho9⟩ := pick_row MK D.pl BD a am hap hr (XW.out W hI.x) (XY.out W hI.x) ho HBD.out
                            have ho3 : ∃ ao c, Value.slice ao9 (cyc MK D.pl BD a).length c9' = .slice ao (cyc MK D.pl BD a).length c ∧ Own M W (.slice ao (cyc MK D.pl BD a).length c) (cyc MK D.pl BD a) := ⟨ao9, c9', rfl, ho9⟩
                            clear hr ho ho9
                            go_simp
                            exact hK.out _ _ ⟨_, _, _, _, _, _, _, _, _, _, _, rfl, hI.s9 ho3⟩
                          · obtain ⟨ao9, c9, hx9, ho9⟩ := hI.p9 (hd 9 (by decide))
                            subst hx9
                            rw [if_pos (by rfl)]
                            have ho3 : ∃ ao c, Value.slice ao9 (cyc MK D.pl BD a).length c9 = .slice ao (cyc MK D.pl BD a).length c ∧ Own M W (.slice ao (cyc MK D.pl BD a).length c) (cyc MK D.pl BD a) := ⟨_, _, rfl, ho9⟩
                            go_simp
                            exact hK.out _ _ ⟨_, _, _, _, _, _, _, _, _, _, _, rfl, hI.s10 ho3⟩
                        · refine K37.ends ?_; intro x179 x180 x181 x182 x183 x184 x185 x186 x187 x188 x28 L W hall hI
                          have hx0 := hI.p0 (hall 0 (by decide))
                          subst hx0
                          have hx1 := hI.p1 (hall 1 (by decide))
                          subst hx1
                          have hx2 := hI.p2 (hall 2 (by decide))
                          subst hx2
                          have hx3 := hI.p3 (hall 3 (by decide))
                          subst hx3
                          obtain ⟨ao4, c4, hx4, ho4⟩ := hI.p4 (hall 4 (by decide))
                          subst hx4
                          have hp5 := hI.p5 (hall 5 (by decide))
                          have hx6 := hI.p6 (hall 6 (by decide))
                          subst hx6
                          have hx7 := hI.p7 (hall 7 (by decide))
                          subst hx7
                          have hp8 := hI.p8 (hall 8 (by decide))
                          obtain ⟨ao9, c9, hx9, ho9⟩ := hI.p9 (hall 9 (by decide))
                          subst hx9
                          obtain ⟨ao10, c10, hx10, ho10⟩ := hI.p10 (hall 10 (by decide))
                          subst hx10
                          have hXe := hI.x
                          clear hI hall
                          try dsimp only
                          clear ho9 hp5 hp8 XRB XC3 XW XY
                          obtain ⟨V2, hV2⟩ : ∃ V2 : World, V2 = W := ⟨_, rfl⟩
                          subst hV2
                          have b2 := tr V2 hXe
                          have hal' : a < rs.length := by rw [HRL.out]; exact hal
                          obtain ⟨r, hr⟩ : ∃ r, rs[a]? = some r := ⟨_, List.getElem?_eq_getElem hal'⟩
                          have hor := XO.out V2 b2 a r hr
                          obtain ⟨gO, eO, cellO⟩ := (XA.out V2 b2).at a (by rw [List.length_map]; exact hal')
                          rw [List.getElem_map, (List.getElem?_eq_some_iff.1 hr).2] at cellO
                          obtain ⟨rao, rn, rc⟩ := r
                          rw [Gr.val] at cellO hor
                          have hrn := hor.len
                          simp only at cellO hor hrn
                          subst hrn
                          subst eO
                          have hgO := block_lt_of_cell cellO
                          have XO3 : Hid (∀ W, Below V2.heap.size V2 W → W.cell? ⟨gO, a, none⟩ = some (.slice rao (cyc MK D.pl BD a).length rc)) := fun W h => (h.cell (p := ⟨gO, a, none⟩) hgO).trans cellO
                          have XV1 : Hid (∀ W, Below V2.heap.size V2 W → (convert 23 9 (.slice rao (cyc MK D.pl BD a).length rc)).run Tryd.prog W = .ok (.string (strOf (cyc MK D.pl BD a))) W) := fun W h => conv_bytes W _ _ _ _ rfl ((own_IsB hor).below h (Nat.le_refl _))
                          have XV2 : Hid (∀ W, Below V2.heap.size V2 W → (convert 23 9 (.slice ao10 (cyc MK D.pl BD a).length c10)).run Tryd.prog W = .ok (.string (strOf (cyc MK D.pl BD a))) W) := fun W h => conv_bytes W _ _ _ _ rfl ((own_IsB ho10).below h (Nat.le_refl _))
                          clear hor ho10 cellO hr
                          go_wp2_with fail
                          refine wp_region_inv (IK38 V2 gO cO a (cyc MK D.pl BD a).length rc c10 rao ao10 (cyc MK D.pl BD a) _ _ _ _ _ _ _ _ _ _ _ _ _ _ _ _ _ _ _ _ _ _ _ _ _ _ _ _ _ _ _ _ _ _ _ _ _ _ _ _ _ _ _ _ _ _ _ _ _ _ _ _ _ _ _ _ _ _ _ _ _ _ _ _ _ _ _ _ _ _ _ _ _ _ _ _ _ _ _ _ _ _ _ _ _ _ _ _ _ _ _ _ _ _ _ _ _ _ _ _ _ _ _ _ _ _ _ _ _ _ _ _ _ _ _ _ _ _ _ _ _ _ _ _ _ _ _ _ _ _ _ _ _ _ _ _ _ _ _ _ _ _ _ _ _ _ _ _ _ _ _ _ _ _ _ _ _ _ _ _ _ _ _ _ _ _ _ _ _ _ _ _ _ _ _ _ _ _ _ _ _ _ _ _ _ _ _ _ _ _ _ _ _ _ _ _ _ _ _ _ _ _ _ _ _ _ _ _ _ _ _ _ _ _) (by kernel_rfl) (by kernel_rfl) ⟨_, _, _, _, _, _, _, _, rfl, ⟨(Below.refl _ _).drew, fun k => (by cases k), fun k => (by cases k), fun k => (by cases k), fun k => (by cases k), fun k => (by cases k), fun k => (by cases k), fun k => (by cases k), fun k => (by cases k)⟩⟩ ?_ ?_
                          · refine .cons ?_ (.cons ?_ (.cons ?_ (.cons ?_ (.cons ?_ (.cons ?_ (.cons ?_ (.cons ?_ .nil)))))))
                            all_goals (refine K38.step ?_; intro x189 x190 x191 x192 x193 x194 x195 x196 L W hI hL hd K hK)
                            · rw [if_pos (by rfl)]
                              go_simp
                              exact hK.out _ _ ⟨_, _, _, _, _, _, _, _, rfl, hI.s0⟩
                            · rw [if_pos (by rfl)]
                              go_simp
                              exact hK.out _ _ ⟨_, _, _, _, _, _, _, _, rfl, hI.s1⟩
                            · have hx0 := hI.p0 (hd 0 (by decide))
                              subst hx0
                              have hx1 := hI.p1 (hd 1 (by decide))
                              subst hx1
                              rw [if_pos (by rfl)]
                              go_simp
                              exact hK.out _ _ ⟨_, _, _, _, _, _, _, _, rfl, hI.s2⟩
                            · have hx2 := hI.p2 (hd 2 (by decide))
                              subst hx2
                              rw [if_pos (by rfl)]
                              have c3 := XO3.out W hI.x
                              go_simp
                              exact hK.out _ _ ⟨_, _, _, _, _, _, _, _, rfl, hI.s3⟩
                            · have hx3 := hI.p3 (hd 3 (by decide))
                              subst hx3
                              rw [if_pos (by rfl)]
                              have cv := XV1.out W hI.x
                              go_simp
                              exact hK.out _ _ ⟨_, _, _, _, _, _, _, _, rfl, hI.s4⟩
                            · rw [if_pos (by rfl)]
                              go_simp
                              exact hK.out _ _ ⟨_, _, _, _, _, _, _, _, rfl, hI.s5⟩
                            · have hx5 := hI.p5 (hd 5 (by decide))
                              subst hx5
                              rw [if_pos (by rfl)]
                              have cv := XV2.out W hI.x
                              go_simp
                              exact hK.out _ _ ⟨_, _, _, _, _, _, _, _, rfl, hI.s6⟩
                            · have hx4 := hI.p4 (hd 4 (by decide))
                              subst hx4
                              have hx6 := hI.p6 (hd 6 (by decide))
                              subst hx6
                              rw [if_pos (by rfl)]
                              go_simp
                              exact hK.out _ _ ⟨_, _, _, _, _, _, _, _, rfl, hI.s7⟩
                          · refine K38.ends ?_; intro x189 x190 x191 x192 x193 x194 x195 x196 L W hall hI
                            have hx0 := hI.p0 (hall 0 (by decide))
                            subst hx0
                            have hx1 := hI.p1 (hall 1 (by decide))
                            subst hx1
                            have hx2 := hI.p2 (hall 2 (by decide))
                            subst hx2
                            have hx3 := hI.p3 (hall 3 (by decide))
                            subst hx3
                            have hx4 := hI.p4 (hall 4 (by decide))
                            subst hx4
                            have hx5 := hI.p5 (hall 5 (by decide))
                            subst hx5
                            have hx6 := hI.p6 (hall 6 (by decide))
                            subst hx6
                            have hx7 := hI.p7 (hall 7 (by decide))
                            subst hx7
                            have hXe := hI.x
                            clear hI hall
                            try dsimp only
                            have b3 := b2.trans (hXe.mono b2.size)
                            go_wp2
                            exact ⟨⟨a + 1, by omega, by go_num, b3⟩, by simp [intOf]; omega⟩
                      · have hae : a = 6 := by omega
                        subst hae
                        clear hal ha
                        have GA := grown_any rs aoO cO (G + 2) 6 HRL.out wr (XA.out wr bx).zero (by have := bx.size; omega) (fun i r hr => ⟨_, own_raise (XO.out wr bx i r hr) (HHI.out r (List.mem_of_getElem? hr)) (by have := bx.size; omega)⟩) HSR.out (fun r hr => by
                          obtain ⟨i, hi⟩ := List.mem_iff_getElem?.1 hr
                          have := (XO.out wr bx i r hi).len
                          have h1 := HMKL.out
                          have h2 := HDP.out
                          have h3 := HBD.out
                          rw [← this]
                          unfold cyc
                          split
                          · omega
                          · split <;> omega) (by omega)
                        go_wp2_with fail
                        refine GA.mono ?_
                        clear GA
                        rintro e w9 ⟨rfl, hb9⟩
                        have hsc9 := SC.out
                        have bb9 : Below w.heap.size w w9 := (XBB.out wr bx).trans (hb9.mono (by omega))
                        have r14 := (XR14.out wr bx).below hb9 (by omega)
                        have r15 := (XR15.out wr bx).below hb9 (by omega)
                        have iY : IsB w9 aoY D.pl := (own_IsB (XY.out wr bx)).of_block (fun B off e => hb9.block B (HAY.out B off e))
                        have C9 := CP.out bo bc w9 (BB.out _ bb9) HBN.out HBC.out
                        clear hb9 XW XY XR14 XR15 XO XA HSR HHI bx
                        go_wp2_with fail
                        refine C9.mono ?_
                        clear C9
                        rintro e u1 ⟨aoq, cq, fv, rfl, hoq, htq, hbq⟩
                        have bbu := bb9.trans (hbq.mono bb9.size)
                        replace r14 := r14.below hbq r14.lt
                        replace r15 := r15.below hbq r15.lt
                        replace iY := iY.below hbq (Nat.le_refl _)
                        have hilQ := imgC_len D.s D.k D.v (.slice aoq D.pl.length cq) D.tg HDT.out
                        have h1Q := imgC_one D.s D.k D.v aoq D.pl.length cq D.tg
                        have SMQ : Hid (∀ W, IsB W aoq D.pl → IsB W aoY D.pl → Calls Tryd.prog 16 #[.agg (imgC D.s D.k D.v (.slice aoq D.pl.length cq) D.tg).toArray, .agg IY.toArray] W fun e w' => e = .returned (.bool true) ∧ Below W.heap.size W w') := fun W h1 h2 => SMY.out aoq cq W h1 h2
                        generalize imgC D.s D.k D.v (.slice aoq D.pl.length cq) D.tg = IQ at *
                        clear hbq bb9
                        generalize hG29 : u1.heap.size = G29 at *
                        have rz := Row.at u1 27 zImg zImg.toArray G29 hG29.symm rfl
                        have al1 := (Below.refl u1.heap.size u1).alloc (Nat.le_refl _) (.cells zImg.toArray 27)
                        go_wp2_with (refine wpList_store_Row rfl 27 _ _ rfl G29 27 0 zImg IQ rz (by rw [hilQ]; exact Nat.le_refl _) rfl rfl (by rw [hilQ]; kernel_rfl) h1Q ?_; intro u2 hr2 hs2)
                        have r29 := row_whole hr2 (by rw [hilQ]; exact Nat.le_of_eq zImg_len)
                        have b12 : Below u1.heap.size u1 u2 := hs2.below al1 (by omega)
                        have bbv := bbu.trans (b12.mono bbu.size)
                        replace r14 := r14.below b12 r14.lt
                        replace r15 := r15.below b12 r15.lt
                        replace iY := iY.below b12 (Nat.le_refl _)
                        replace hoq := hoq.keep b12
                        replace htq := htq.below b12 (Nat.le_refl _)
                        clear hr2 hs2 rz al1 b12 bbu
                        refine (told_any u2 (HGW.out.below bbv HGW.out.lt) fv D.E D.At htq).mono ?_
                        rintro e u3 ⟨rfl, hb3⟩
                        have al3 := (Below.refl u3.heap.size u3).alloc (Nat.le_refl _) (.cells #[.int .i64 D.E, .int .i64 D.At] 39)
                        have b24 : Below u2.heap.size u2 (u3.alloc (.cells #[.int .i64 D.E, .int .i64 D.At] 39)) := hb3.trans (al3.mono hb3.size)
                        have bbz := bbv.trans (b24.mono bbv.size)
                        replace r14 := r14.below b24 r14.lt
                        replace r15 := r15.below b24 r15.lt
                        replace r29 := r29.below b24 r29.lt
                        replace iY := iY.below b24 (Nat.le_refl _)
                        have iQ := own_IsB (hoq.keep b24)
                        have c15 := r15.cell 0 _ rfl
                        have d15 := r15.cell 1 _ rfl
                        have q1 := HEW.out
                        have h36Q := take_all36 hilQ
                        have h36Y := take_all36 hilY
                        clear hb3 al3 b24 bbv htq hoq
                        go_wp2_with (first | (refine wpList_load_part_g ?_ 27 (.tmp 29) rfl G29 0 27 36 IQ r29 rfl _ IQ h36Q hilQ Tryd.underlying27 rfl (by kernel_rfl) ?_; · rfl) | (refine wpList_load_part_g ?_ 27 (.tmp 14) rfl G 0 27 36 IY r14 rfl _ IY h36Y hilY Tryd.underlying27 rfl (by kernel_rfl) ?_; · rfl) | (go_at_call 16; refine (SMQ.out _ iQ iY).mono ?_; rintro e u5 ⟨rfl, hb5⟩))
                        go_ret
                        exact ⟨rfl, bbz.trans (hb5.mono bbz.size)⟩
end Go.Proofs.YtnpbgfnahkmhoaaDoor
