
import Derived.Test.YtplpoehfdhkhmaaDoorP25W1
/-! The law of layer 25: PatchMakes. -/
namespace Go.Proofs.YtplpoehfdhkhmaaDoor
open Go.RowKit
set_option linter.unusedVariables false

/-- A row of bytes that came in, or was told. -/
structure RowIn (w : World) (ao : Option Addr) (c : Nat) (m : List By) : Prop where
  len : m.length <= 140737488351232
  cap : m.length <= c
  nil : ao = none -> c = 0
  isb : IsB w ao m
theorem RowIn.keep {w w' : World} {ao : Option Addr} {c : Nat} {m : List By} (h : RowIn w ao c m) (hb : Below w.heap.size w w') : RowIn w' ao c m := ⟨h.len, h.cap, h.nil, h.isb.below hb (Nat.le_refl _)⟩
theorem BV.rowIn {w : World} {v : Value} {m : List By} (h : BV w v m) (hl : m.length <= 140737488351232) : ∃ ao c, v = .slice ao m.length c /\ RowIn w ao c m := by
  obtain ⟨ao, c, e, hi, h1, h2⟩ := h.eq
  exact ⟨ao, c, e, hl, h2, h1, hi⟩
/-- The same cells stored once more: nothing has changed. -/
theorem same_row_below {w w' : World} {g t : Nat} {cs : List Value} (hs : SameBut g w w') (h : Row w g t cs) (h' : Row w' g t cs) : Below w.heap.size w w' :=
  ⟨hs.os, hs.tape, hs.output, by rw [hs.size]; exact Nat.le_refl _, fun k _ => by
    by_cases e : k = g
    · subst e
      unfold Row at h h'
      rw [h, h']
    · exact hs.block k e⟩
section
variable {M J : List By -> List By -> List By}
theorem Pch.rd (P : Pch M J) {w : World} (hg : HG w) {po : Option Addr} {pc : Nat} {p : List By} (hp : RowIn w po pc p) : Calls Tryd.prog 10 #[.slice po p.length pc] w (CRd w p) := P.read w po _ pc p hg rfl hp.len hp.cap hp.nil hp.isb
theorem Pch.ap (P : Pch M J) {w : World} (hg : HG w) {ao : Option Addr} {c : Nat} {old : List By} (ho : RowIn w ao c old) {po : Option Addr} {pc : Nat} {p : List By} (hp : RowIn w po pc p) : Calls Tryd.prog 12 #[.slice ao old.length c, .slice po p.length pc] w (CAp w old p) :=
  P.apply w ao _ c old po _ pc p hg rfl ho.len ho.cap ho.nil ho.isb rfl hp.len hp.cap hp.nil hp.isb
theorem Pch.mk' (P : Pch M J) {w : World} (hg : HG w) {ao : Option Addr} {c : Nat} {old : List By} (ho : RowIn w ao c old) {po : Option Addr} {pc : Nat} {p : List By} (hp : RowIn w po pc p) : Calls Tryd.prog 16 #[.slice ao old.length c, .slice po p.length pc] w (CMk M w old p) :=
  P.make w ao _ c old po _ pc p hg rfl ho.len ho.cap ho.nil ho.isb rfl hp.len hp.cap hp.nil hp.isb
theorem Pch.jo (P : Pch M J) {w : World} (hg : HG w) {ao : Option Addr} {c : Nat} {p : List By} (ho : RowIn w ao c p) {po : Option Addr} {pc : Nat} {q : List By} (hp : RowIn w po pc q) : Calls Tryd.prog 19 #[.slice ao p.length c, .slice po q.length pc] w (CJo J w p q) :=
  P.join w ao _ c p po _ pc q hg rfl ho.len ho.cap ho.nil ho.isb rfl hp.len hp.cap hp.nil hp.isb
theorem rd_ref {w : World} {po : Option Addr} {pc : Nat} {p : List By} (hp : RowIn w po pc p) : Calls Tryd.prog 11 #[.slice po p.length pc] w (RdP w p) := rdC_any w po _ pc p rfl hp.len hp.cap hp.isb
theorem ap_ref {w : World} {ao : Option Addr} {c : Nat} {old : List By} (ho : RowIn w ao c old) {po : Option Addr} {pc : Nat} {p : List By} (hp : RowIn w po pc p) : Calls Tryd.prog 13 #[.slice ao old.length c, .slice po p.length pc] w (ApP w old p) :=
  r25Apply_any rdC_any w ao _ c old rfl ho.len ho.cap ho.nil ho.isb po _ pc p rfl hp.len hp.cap hp.isb
theorem Pch.mlen (P : Pch M J) {old new : List By} (h1 : old.length <= 524288) (h2 : new.length <= 524288) : (M old new).length <= 140737488351232 := by
  obtain ⟨x, _, _, _, _, _, _, h⟩ := P.made old new h1 h2
  have : mostN old new <= 82 + 524288 := by
    unfold mostN
    split
    · omega
    · exact Nat.le_trans (Nat.min_le_right _ _) (by omega)
  omega
end

set_option maxHeartbeats 4000000 in
set_option maxRecDepth 100000 in
theorem makes25_any {M J : List By -> List By -> List By} (P : Pch M J) (w : World) (hg : HG w) (ao : Option Addr) (c : Nat) (old : List By) (ho : RowIn w ao c old) (po : Option Addr) (pc : Nat) (new : List By) (hp : RowIn w po pc new) :
    Calls Tryd.prog 5 #[.slice ao old.length c, .slice po new.length pc] w fun e w' => e = .returned (.bool true) /\ Below w.heap.size w w' := by
  have HGB : Hid (∀ W, Below w.heap.size w W -> HG W) := fun W h => hg.below h hg.lt
  have KO : Hid (∀ W, Below w.heap.size w W -> RowIn W ao c old) := fun W h => ho.keep h
  have KN : Hid (∀ W, Below w.heap.size w W -> RowIn W po pc new) := fun W h => hp.keep h
  have MC : Hid (∀ W, Below w.heap.size w W -> Calls Tryd.prog 16 #[.slice ao old.length c, .slice po new.length pc] W (CMk M W old new)) := fun W h => P.mk' (HGB.out W h) (KO.out W h) (KN.out W h)
  have FX : Hid (∀ W, Below w.heap.size w W -> Calls Tryd.prog 9 #[] W fun e w' => e = .returned (.bool true) /\ Below W.heap.size W w') := fun W h => fixed25_any P W (HGB.out W h)
  have HP : Hid (Pch M J) := P
  clear ho hp hg P
  go_enter Tryd.func5, Tryd.ntmps5
  go_wp2_with fail
  refine (MC.out w (Below.refl _ _)).mono ?_
  rintro e w2 ⟨hb2, b, hbv, rfl⟩
  have B2 : Hid (Below w.heap.size w w2) := hb2
  by_cases hlen : old.length <= 524288 /\ new.length <= 524288
  · rw [if_pos hlen] at hbv ⊢
    obtain ⟨bo, bc, rfl, hri⟩ := hbv.rowIn (HP.out.mlen hlen.1 hlen.2)
    obtain ⟨x, hr, xb, xa, _, _, _, hmost⟩ := HP.out.made old new hlen.1 hlen.2
    have hap := apply_made HP.out hlen.1 hlen.2
    have HRT : Hid (rT (M old new) = (x, 0, 0)) := by show _ = _; unfold rT; rw [hr]
    have HAT : Hid (aT old (M old new) = (new, 0, 0)) := by show _ = _; unfold aT; rw [hap]
    obtain ⟨m, hm⟩ : ∃ m, m = M old new := ⟨_, rfl⟩
    rw [<- hm] at hri hmost HRT HAT ⊢
    have KM : Hid (∀ W, Below w2.heap.size w2 W -> RowIn W bo bc m) := fun W h => hri.keep h
    have MC2 : Hid (∀ W, Below w.heap.size w W -> Calls Tryd.prog 16 #[.slice ao old.length c, .slice po new.length pc] W (CMk M W old new)) := MC.out
    have HM : Hid (m = M old new) := hm
    have y1 : ¬ (524288 : Int) < (old.length : Int) := by omega
    have y2 : ¬ (524288 : Int) < (new.length : Int) := by omega
    have y1' : decide (524288 < old.length) = false := by rw [decide_eq_false_iff_not]; omega
    have y2' : decide (524288 < new.length) = false := by rw [decide_eq_false_iff_not]; omega
    have MO : Hid (∀ W, Below w.heap.size w W -> Calls Tryd.prog 17 #[.slice ao old.length c, .slice po new.length pc] W fun e w' => e = .returned (.int .i64 (mostN old new : Int)) /\ Below W.heap.size W w') := fun W h => r25Most_any W ao _ c old rfl hlen.1 (KO.out W h).isb po _ pc new rfl hlen.2 (KN.out W h).isb
    have HL : Hid (old.length <= 524288 /\ new.length <= 524288) := hlen
    have HXB : Hid (x.before = old.length /\ x.after = new.length) := ⟨xb, xa⟩
    have hmo : m.length <= mostN old new := hmost
    clear hbv hri hr hap hm hb2 hlen xb xa hmost MC
    dsimp only
    go_wp2_with fail
    refine (rd_ref (KM.out _ (Below.refl _ _))).mono ?_
    intro e w3 he
    obtain ⟨hb3, C, rfl, hpx⟩ := rdp_uni he
    rw [HRT.out] at hpx ⊢
    dsimp only at hpx ⊢
    clear he
    have lC := hpx.len
    have okx := hpx.ok
    obtain ⟨lo, lc, hC, _⟩ := hpx.eq
    rw [HXB.out.1, HXB.out.2] at hC
    have oC : Hid (∀ v ∈ C, v.oneCell' = true) := by rw [hC]; exact pxC_one _ _ _ _ _ _ _
    have C64 : Hid (C[64]? = some (.int .i64 (old.length : Int)) /\ C[65]? = some (.int .i64 (new.length : Int))) := by rw [hC]; exact ⟨pxC_bef okx.lo okx.ln, pxC_aft okx.lo okx.ln⟩
    have B3 : Hid (Below w.heap.size w w3) := B2.out.trans (hb3.mono B2.out.size)
    have KM3 : Hid (∀ W, Below w3.heap.size w3 W -> RowIn W bo bc m) := fun W h => KM.out W (hb3.trans (h.mono hb3.size))
    clear hb3 hpx hC okx KM B2 HRT HXB
    obtain ⟨G, hG⟩ : ∃ G, G = w3.heap.size := ⟨_, rfl⟩
    have Z7 : Hid (Row ((w3.alloc (.cells zPx.toArray 34)).alloc (.cells #[.int .i64 0, .int .i64 0] 37)) G 34 zPx) := (Row.at w3 _ _ _ _ hG rfl).alloc _
    have Z8 : Hid (Row ((w3.alloc (.cells zPx.toArray 34)).alloc (.cells #[.int .i64 0, .int .i64 0] 37)) (G + 1) 37 [.int .i64 0, .int .i64 0]) := Row.at _ _ _ _ _ (by rw [hG]; simp) rfl
    have b4 : Below w3.heap.size w3 ((w3.alloc (.cells zPx.toArray 34)).alloc (.cells #[.int .i64 0, .int .i64 0] 37)) := ((Below.refl _ _).alloc (Nat.le_refl _) _).alloc (by simp) _
    have K4 : Hid (∀ wa wb, SameBut G ((w3.alloc (.cells zPx.toArray 34)).alloc (.cells #[.int .i64 0, .int .i64 0] 37)) wa -> SameBut (G + 1) wa wb -> Below w3.heap.size w3 wb) := fun wa wb h1 h2 => h2.below (h1.below b4 (by omega)) (by omega)
    have HG : Hid (G = w3.heap.size) := hG
    have ymo : ¬ (mostN old new : Int) < (m.length : Int) := by omega
    have ymo' : decide (mostN old new < m.length) = false := by rw [decide_eq_false_iff_not]; omega
    have HMO : Hid (m.length <= mostN old new) := hmo
    clear hG b4 hmo
    generalize mostN old new = mo at *
    go_wp2_with (first
      | (have hz := Z7; clear hz; rw [<- HG.out]; refine wpList_store_Row rfl 34 (.tmp 7) (.tmp 39) rfl G 34 0 zPx C Z7.out (by rw [lC]; exact Nat.le_refl _) rfl rfl (by rw [lC]; kernel_rfl) oC.out ?_; intro wa hra hsa; have h7 : Hid (Row wa (G + 1) 37 [.int .i64 0, .int .i64 0] /\ Row wa G 34 C /\ SameBut G ((w3.alloc (.cells zPx.toArray 34)).alloc (.cells #[.int .i64 0, .int .i64 0] 37)) wa) := ⟨Z8.out.but hsa (by omega), row_whole hra (by rw [lC]; exact Nat.le_refl _), hsa⟩; clear hra hsa Z7 Z8)
      | (have hz := h7; clear hz; refine wpList_store_Row rfl 37 (.tmp 8) (.tmp 40) rfl (G + 1) 37 0 [.int .i64 0, .int .i64 0] [.int .i64 0, .int .i64 0] h7.out.1 (Nat.le_refl _) rfl rfl (by kernel_rfl) (wr2_one _ _) ?_; intro w5 hr5 hs5; have b45 := K4.out _ _ h7.out.2.2 hs5; have rC := h7.out.2.1.but hs5 (by omega); have rW : Hid (Row w5 (G + 1) 37 [.int .i64 0, .int .i64 0]) := row_whole hr5 (Nat.le_refl _); have c80 := rW.out.cell 0 _ rfl; have c64 := rC.cell 64 _ C64.out.1; have c65 := rC.cell 65 _ C64.out.2; have B5 : Hid (Below w.heap.size w w5) := B3.out.trans (b45.mono B3.out.size); have KM5 : Hid (∀ W, Below w5.heap.size w5 W -> RowIn W bo bc m) := (fun W h => KM3.out W (b45.trans (h.mono b45.size))); clear hr5 hs5 h7 b45 K4 rC B3 KM3)
      | (have hz := B5; clear hz; go_at_call 17; refine (MO.out _ B5.out).mono ?_; rintro e w6 ⟨rfl, hb6⟩; have B6 : Hid (Below w.heap.size w w6) := B5.out.trans (hb6.mono B5.out.size); have KM6 : Hid (∀ W, Below w6.heap.size w6 W -> RowIn W bo bc m) := (fun W h => KM5.out W (hb6.trans (h.mono hb6.size))); have rW6 : Hid (Row w6 (G + 1) 37 [.int .i64 0, .int .i64 0]) := rW.out.below hb6 rW.out.lt; clear hb6 B5 KM5 rW c80 c64 c65 MO))
    refine (ap_ref (KO.out _ B6.out) (KM6.out _ (Below.refl _ _))).mono ?_
    intro e w7 he
    obtain ⟨hb7, b7, rfl, hbv7⟩ := apP_uni he
    rw [HAT.out] at hbv7 ⊢
    dsimp only at hbv7 ⊢
    obtain ⟨co, cc, rfl, hci, _, _⟩ := hbv7.eq
    have B7 : Hid (Below w.heap.size w w7) := B6.out.trans (hb7.mono B6.out.size)
    have K7 : Hid (∀ W, Below w7.heap.size w7 W -> RowIn W bo bc m /\ IsB W co new) := fun W h => ⟨KM6.out W (hb7.trans (h.mono hb7.size)), hci.below h (Nat.le_refl _)⟩
    have rW7 : Hid (Row w7 (G + 1) 37 [.int .i64 0, .int .i64 0]) := rW6.out.below hb7 rW6.out.lt
    have HM2 : Hid (M old new = m) := HM.out.symm
    clear he hb7 hbv7 hci B6 KM6 rW6 HAT HM
    go_wp2_with (first
      | (have hz := rW7; clear hz; refine wpList_store_Row rfl 37 (.tmp 8) (.tmp 75) rfl (G + 1) 37 0 [.int .i64 0, .int .i64 0] [.int .i64 0, .int .i64 0] rW7.out (Nat.le_refl _) rfl rfl (by kernel_rfl) (wr2_one _ _) ?_; intro w8 hr8 hs8; have rW8 : Hid (Row w8 (G + 1) 37 [.int .i64 0, .int .i64 0]) := row_whole hr8 (Nat.le_refl _); have b8 := same_row_below hs8 rW7.out rW8.out; have B8 : Hid (Below w.heap.size w w8) := B7.out.trans (b8.mono B7.out.size); have K8 : Hid (∀ W, Below w8.heap.size w8 W -> RowIn W bo bc m /\ IsB W co new) := (fun W h => K7.out W (b8.trans (h.mono b8.size))); clear hr8 hs8 b8 rW7 B7 K7))
    refine (MC2.out _ B8.out).mono ?_
    rintro e w9 ⟨hb9, q, hqv, rfl⟩
    rw [if_pos HL.out] at hqv ⊢
    rw [HM2.out] at hqv
    obtain ⟨qo, qc, rfl, hqi, _, _⟩ := hqv.eq
    have B9 : Hid (Below w.heap.size w w9) := B8.out.trans (hb9.mono B8.out.size)
    have c90 := (rW8.out.below hb9 rW8.out.lt).cell 0 _ rfl
    have cv1 := conv_bytes w9 co new.length cc new rfl (K8.out _ hb9).2
    have cv2 := conv_bytes w9 po new.length pc new rfl (KN.out _ B9.out).isb
    have cv3 := conv_bytes w9 bo m.length bc m rfl (K8.out _ hb9).1.isb
    have cv4 := conv_bytes w9 qo m.length qc m rfl hqi
    clear hb9 hqv hqi K8 rW8 B8 MC2 HM2 HL KO KN HP
    generalize strOf new = S1 at *
    generalize strOf m = S2 at *
    dsimp only
    go_wp2_with (have hz := B9; clear hz; go_at_call 9; refine (FX.out _ B9.out).mono ?_; rintro e wC ⟨rfl, hbC⟩; have BC : Hid (Below w.heap.size w wC) := B9.out.trans (hbC.mono B9.out.size); clear hbC B9 cv1 cv2 cv3 cv4 c90)
    go_ret
    exact ⟨rfl, BC.out⟩
  · rw [if_neg hlen] at hbv ⊢
    obtain ⟨bo, bc, rfl, _, _, _⟩ := hbv.eq
    clear hbv hb2
    dsimp only
    by_cases h1 : old.length <= 524288
    · have y1 : ¬ (524288 : Int) < (old.length : Int) := by omega
      have y2 : (524288 : Int) < (new.length : Int) := by omega
      have y1' : decide (524288 < old.length) = false := by rw [decide_eq_false_iff_not]; omega
      have y2' : decide (524288 < new.length) = true := by rw [decide_eq_true_iff]; omega
      clear hlen h1
      go_wp2_with (have hz := B2; clear hz; go_at_call 9; refine (FX.out _ B2.out).mono ?_; rintro e wC ⟨rfl, hbC⟩; have BC : Hid (Below w.heap.size w wC) := B2.out.trans (hbC.mono B2.out.size); clear hbC B2)
      go_ret
      exact ⟨rfl, BC.out⟩
    · have y1 : (524288 : Int) < (old.length : Int) := by omega
      have y1' : decide (524288 < old.length) = true := by rw [decide_eq_true_iff]; omega
      clear hlen h1
      go_wp2_with (have hz := B2; clear hz; go_at_call 9; refine (FX.out _ B2.out).mono ?_; rintro e wC ⟨rfl, hbC⟩; have BC : Hid (Below w.heap.size w wC) := B2.out.trans (hbC.mono B2.out.size); clear hbC B2)
      go_ret
      exact ⟨rfl, BC.out⟩
end Go.Proofs.YtplpoehfdhkhmaaDoor
