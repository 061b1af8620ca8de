
import Derived.Test.YthegfkcegmeklaaH16Fixed
/-! ChainTells, of any chain in code. -/
namespace Go.Proofs.Ythegfkcegmeklaa
open Go.RowKit
set_option linter.unusedVariables false

def dropS : Nat → Code → Code
  | 0, c => c
  | n + 1, .seq _ b => dropS n b
  | _ + 1, c => c
def KP (w : World) : Ending → World → Prop := fun e w' => e = .returned (.bool true) ∧ Below w.heap.size w w'

/-- Where quotes of unlike events or nonces are like, Clash tells. -/
theorem tells_clash {key n1 n2 : List By} {xs ys : List EvV} (hx : xs.length ≤ 1024) (hy : ys.length ≤ 1024) (ox : ∀ x ∈ xs, EvOk x) (oy : ∀ y ∈ ys, EvOk y) {r : Bool} (hq : quot key n1 xs = quot key n2 ys)
    (hr : r = false → (tag key (msg n1 xs) = tag key (msg n2 ys) → msg n1 xs = msg n2 ys) ∧ NoClash (rowL xs xs.length ++ rowL ys ys.length)) (hn : ¬ (n2 = n1 ∧ xs = ys)) : r = true := by
  cases r with
  | true => rfl
  | false =>
    obtain ⟨h1, h2⟩ := hr rfl
    obtain ⟨e1, e2, e3⟩ := msg_inj hx hy (h1 hq)
    exact absurd ⟨e1.symm, reg_inj_len _ xs ys rfl e2.symm ox oy h2 e3⟩ hn
theorem EvIn.all {w : World} {B off : Nat} {xs : List EvV} (h : EvIn w B off xs) : ∀ x ∈ xs, EvOk x := fun x hx => by
  obtain ⟨i, hi⟩ := List.mem_iff_getElem?.1 hx
  exact h.ok i x hi
theorem EvIn.take {w : World} {B off : Nat} {xs : List EvV} (h : EvIn w B off xs) (n : Nat) : EvIn w B off (xs.take n) := by
  have e : ∀ (i : Nat) (x : EvV), (xs.take n)[i]? = some x → xs[i]? = some x := fun i x hx => by
    rw [List.getElem?_take] at hx
    by_cases h1 : i < n
    · rwa [if_pos h1] at hx
    · rw [if_neg h1] at hx; cases hx
  exact ⟨fun i x hx => h.cells i x (e i x hx), fun i x hx => h.ok i x (e i x hx)⟩

/-- A log, and rows beside it. -/
def FW (Lg : (Nat → Prop) → World → Addr → List EvV → Prop) (w : World) (a : Addr) (xs : List EvV) (R : List (Nat × Nat × List Value)) (W : World) : Prop :=
  ∃ S, Lg S W a xs ∧ (∀ j, S j → w.heap.size ≤ j) ∧ Below w.heap.size w W ∧ ∀ t ∈ R, Row W t.1 t.2.1 t.2.2 ∧ ¬ S t.1
theorem FW.below {Lg : (Nat → Prop) → World → Addr → List EvV → Prop} (C : Chn Lg) {w : World} {a : Addr} {xs : List EvV} {R : List (Nat × Nat × List Value)} {W W' : World} (h : FW Lg w a xs R W) (hb : Below W.heap.size W W') : FW Lg w a xs R W' := by
  obtain ⟨S, h1, h2, h3, h4⟩ := h
  exact ⟨S, C.keep h1 (fun j hj => hb.block j (C.lt h1 j hj)) hb.size, h2, h3.trans (hb.mono h3.size), fun t ht => ⟨(h4 t ht).1.below hb (h4 t ht).1.lt, (h4 t ht).2⟩⟩
theorem FW.out {Lg : (Nat → Prop) → World → Addr → List EvV → Prop} {w : World} {a : Addr} {xs : List EvV} {R : List (Nat × Nat × List Value)} {W : World} (h : FW Lg w a xs R W) :
    ∃ S, Lg S W a xs ∧ ∀ S' W' ys, Lg S' W' a ys → (∀ j, S' j → S j ∨ W.heap.size ≤ j) → But S W W' → FW Lg w a ys R W' := by
  obtain ⟨S, h1, h2, h3, h4⟩ := h
  exact ⟨S, h1, fun S' W' ys hl hs hb => ⟨S', hl, fun j hj => (hs j hj).elim (h2 j) fun h => Nat.le_trans h3.size h, h3.trans (hb.below h3.size h2), fun t ht => ⟨(h4 t ht).1.blk (hb.block _ (h4 t ht).1.lt (h4 t ht).2), fun h => (hs _ h).elim (h4 t ht).2 fun h9 => absurd (h4 t ht).1.lt (by omega)⟩⟩⟩
theorem FW.push {Lg : (Nat → Prop) → World → Addr → List EvV → Prop} (C : Chn Lg) {w : World} {a : Addr} {xs : List EvV} {R : List (Nat × Nat × List Value)} {W W' : World} {G t : Nat} {l : List Value} (h : FW Lg w a xs R W) (hb : Below W.heap.size W W') (hr : Row W' G t l) (hG : W.heap.size ≤ G) : FW Lg w a xs ((G, t, l) :: R) W' := by
  obtain ⟨S, h1, h2, h3, h4⟩ := h.below C hb
  obtain ⟨S0, k1, k2, k3, k4⟩ := h
  refine ⟨S0, C.keep k1 (fun j hj => hb.block j (C.lt k1 j hj)) hb.size, k2, h3, fun t ht => ?_⟩
  rcases List.mem_cons.1 ht with rfl | ht
  · exact ⟨hr, fun hs => absurd (C.lt k1 _ hs) (by omega)⟩
  · exact ⟨(k4 t ht).1.below hb (k4 t ht).1.lt, (k4 t ht).2⟩
theorem FW.row {Lg : (Nat → Prop) → World → Addr → List EvV → Prop} {w : World} {a : Addr} {xs : List EvV} {R : List (Nat × Nat × List Value)} {W : World} (h : FW Lg w a xs R W) {G t : Nat} {l : List Value} (hm : (G, t, l) ∈ R) : Row W G t l := by
  obtain ⟨S, h1, h2, h3, h4⟩ := h
  exact (h4 _ hm).1
theorem FW.bel {Lg : (Nat → Prop) → World → Addr → List EvV → Prop} {w : World} {a : Addr} {xs : List EvV} {R : List (Nat × Nat × List Value)} {W : World} (h : FW Lg w a xs R W) : Below w.heap.size w W := by
  obtain ⟨S, h1, h2, h3, h4⟩ := h
  exact h3
def askC (ko : Option Addr) (kn kc : Nat) (no : Option Addr) (nb nc : Nat) (lo : Option Addr) (ln lc : Nat) (q : List By) : List Value := [.slice ko kn kc, .slice no nb nc, .slice lo ln lc] ++ q.map B8

set_option maxHeartbeats 4000000 in
set_option maxRecDepth 1000000 in
theorem tst5 {Lg : (Nat → Prop) → World → Addr → List EvV → Prop} (C : Chn Lg) (w W : World) (a : Addr) (X : Nat)
    (ko : Option Addr) (kn kc : Nat) (key : List By) (hkn : key.length = kn) (hki : IsB w ko key) (hkk : (ko = none → kc = 0) ∧ kn ≤ kc) (hkb : kn ≤ 140737488351232)
    (no : Option Addr) (nb nc : Nat) (n1 : List By) (hnb : n1.length = nb) (hni : IsB w no n1) (hnn : (no = none → nc = 0) ∧ nb ≤ nc) (hbig : nb ≤ 140737488351232)
    (ao : Option Addr) (n cap B off : Nat) (xs : List EvV) (hn : xs.length = n) (hn1024 : n ≤ 1024) (hao : 0 < n → ao = some ⟨B, off, none⟩) (hin : EvIn w B off xs)
    (mo : Option Addr) (mb mc : Nat) (n2 : List By) (hmb : n2.length = mb) (hmi : IsB w mo n2) (hmn : (mo = none → mc = 0) ∧ mb ≤ mc) (hmig : mb ≤ 140737488351232)
    (bo : Option Addr) (m bc D dff : Nat) (ys : List EvV) (hm : ys.length = m) (hm47 : m ≤ 140737488355328) (hbo : 0 < m → bo = some ⟨D, dff, none⟩) (hiy : EvIn w D dff ys)
    (lo : Option Addr) (ln lc : Nat) (q : List By) (hF : FW Lg w a xs [(X, 46, askC ko kn kc no nb nc lo ln lc q)] W) (c0 c4 c5 c6 c9 c10 c11 c12 c13 c14 c15 c16 c17 c18 c19 c20 c21 c22 c23 c24 c25 c26 c27 c28 c29 c30 c31 c32 c33 c34 c35 c36 c37 c38 c39 c40 c41 c42 c43 c44 c45 c46 c47 c48 c49 c50 c51 c52 c53 c54 c55 c56 c57 c58 c59 c60 c61 c62 c63 c64 c65 c66 c67 c68 c69 c70 c71 c72 c73 c74 c75 c76 c77 c78 c79 c80 c81 c82 c83 c84 : Value) :
    Code.wp Try.prog (dropS 5 (Try.f6.body.getD .skip)) (bodyPost Try.prog Try.f6 (KP w)) ⟨#[c0, .slice mo mb mc, .slice bo m bc, .pointer (some ⟨X, 0, none⟩), c4, c5, c6, .pointer (some a), .slice ao n cap, c9, c10, c11, c12, c13, c14, c15, c16, c17, c18, c19, c20, c21, c22, c23, c24, c25, c26, c27, c28, c29, c30, c31, c32, c33, c34, c35, c36, c37, c38, c39, c40, c41, c42, c43, c44, c45, c46, c47, c48, c49, c50, c51, c52, c53, c54, c55, c56, c57, c58, c59, c60, c61, c62, c63, c64, c65, c66, c67, c68, c69, c70, c71, c72, c73, c74, c75, c76, c77, c78, c79, c80, c81, c82, c83, c84], []⟩ W := by
  have HC : Hid (Chn Lg) := C
  have HKI : Hid (∀ W, Below w.heap.size w W → IsB W ko key) := fun W h => hki.below h (Nat.le_refl _)
  have HNI : Hid (∀ W, Below w.heap.size w W → IsB W no n1) := fun W h => hni.below h (Nat.le_refl _)
  have HMI : Hid (∀ W, Below w.heap.size w W → IsB W mo n2) := fun W h => hmi.below h (Nat.le_refl _)
  have HIN : Hid (∀ W, Below w.heap.size w W → EvIn W B off xs) := fun W h => hin.keep h
  have HIY : Hid (∀ W, Below w.heap.size w W → EvIn W D dff ys) := fun W h => hiy.keep h
  have HX : Hid (∀ x ∈ xs, EvOk x) := hin.all
  have HY : Hid (∀ x ∈ ys, EvOk x) := hiy.all
  have HKN : Hid (key.length = kn) := hkn
  have HNB : Hid (n1.length = nb) := hnb
  have HMB : Hid (n2.length = mb) := hmb
  have HXN : Hid (xs.length = n) := hn
  have HYM : Hid (ys.length = m) := hm
  have HK0 : Hid ((ko = none → kc = 0) ∧ kn ≤ kc) := hkk
  have HN0 : Hid ((no = none → nc = 0) ∧ nb ≤ nc) := hnn
  have HM0 : Hid ((mo = none → mc = 0) ∧ mb ≤ mc) := hmn
  have HA0 : Hid (0 < n → ao = some ⟨B, off, none⟩) := hao
  have HB0 : Hid (0 < m → bo = some ⟨D, dff, none⟩) := hbo
  have F0 : Hid (FW Lg w a xs [(X, 46, askC ko kn kc no nb nc lo ln lc q)] W) := hF
  clear C hki hni hmi hin hiy hkn hnb hmb hn hm hkk hnn hmn hao hbo hF
  have rX := F0.out.row (List.mem_cons_self ..)
  have x0 := rX.cell 0 (.slice ko kn kc) rfl
  have x1 := rX.cell 1 (.slice no nb nc) rfl
  clear rX
  conv => arg 2; whnf
  obtain ⟨S1, L1, N1⟩ := F0.out.out
  have QT : Hid (Calls Try.prog 22 #[.pointer (some a), .slice ko kn kc, .slice no nb nc] W fun e w' => ∃ S', e = .returned (.agg ((quot key n1 xs).map B8).toArray) ∧ Lg S' w' a xs ∧ (∀ j, S' j → S1 j ∨ W.heap.size ≤ j) ∧ But S1 W w') := HC.out.quote L1 ko kn kc key HKN.out (HKI.out _ F0.out.bel) HK0.out hkb no nb nc n1 HNB.out (HNI.out _ F0.out.bel) HN0.out hbig
  have N1' : Hid (∀ S' W' ys, Lg S' W' a ys → (∀ j, S' j → S1 j ∨ W.heap.size ≤ j) → But S1 W W' → FW Lg w a ys [(X, 46, askC ko kn kc no nb nc lo ln lc q)] W') := N1
  clear L1 N1
  go_wp2_with fail
  refine QT.out.mono ?_
  rintro e w2 ⟨S2, rfl, hl2, hs2, hb2⟩
  dsimp only
  have F2 : Hid (FW Lg w a xs [(X, 46, askC ko kn kc no nb nc lo ln lc q)] w2) := N1'.out _ _ _ hl2 hs2 hb2
  clear hl2 hs2 hb2 N1' QT F0 x0 x1
  have hql : (quot key n1 xs).length = 32 := shaLen _
  have CK : Hid (chk key n2 ys (quot key n1 xs) = if 1024 < m then 3 else if quot key n2 ys = quot key n1 xs then 0 else 19) := by show _ = _; unfold chk; rw [HYM.out]
  obtain ⟨rq, hrq⟩ : ∃ r, r = decide (quot key n2 ys = quot key n1 xs) := ⟨_, rfl⟩
  have HRQ : Hid (rq = decide (quot key n2 ys = quot key n1 xs)) := hrq
  clear hrq
  generalize hQQ : quot key n1 xs = QQ at *
  have HQQ : Hid (quot key n1 xs = QQ) := hQQ
  clear hQQ
  generalize hG : w2.heap.size = G at *
  have lq : (QQ.map B8).length = 32 := by rw [List.length_map, hql]
  go_wp2_with (first | (refine wpList_store_Row rfl 32 _ _ rfl G 32 0 z32 (QQ.map B8) (Row.at w2 _ _ _ _ hG.symm rfl) (by simp [hql]) rfl rfl (by rw [lq]; kernel_rfl) (B8_one _) ?_; intro w3 hr3 hs3; have F3 : Hid (FW Lg w a xs [(G, 32, QQ.map B8), (X, 46, askC ko kn kc no nb nc lo ln lc q)] w3) := F2.out.push HC.out (hs3.below ((Below.refl _ _).alloc (Nat.le_refl _) _) (by omega)) (row_whole hr3 (by simp [hql])) (by omega); clear hr3 hs3; have rX := F3.out.row (List.mem_cons_of_mem _ (List.mem_cons_self ..)); have rG := F3.out.row (List.mem_cons_self ..); have x0 := rX.cell 0 (.slice ko kn kc) rfl; clear rX) | (refine wpList_load_Row rfl 32 (.tmp 9) rfl G 32 (QQ.map B8) rG rfl _ Try.underlying32 rfl (by rw [lq]; kernel_rfl) ?_))
  clear x0 rG
  refine (HC.out.check _ ko kn kc key HKN.out (HKI.out _ F3.out.bel) HK0.out hkb mo mb mc n2 HMB.out (HMI.out _ F3.out.bel) HM0.out hmig bo m bc D dff ys HYM.out hm47 HB0.out (HIY.out _ F3.out.bel) QQ hql).mono ?_
  rw [CK.out]
  rintro e w4 ⟨rfl, hb⟩
  have F4 : Hid (FW Lg w a xs [(G, 32, QQ.map B8), (X, 46, askC ko kn kc no nb nc lo ln lc q)] w4) := F3.out.below HC.out hb
  clear hb F2 F3 CK hG
  by_cases hbm : 1024 < m
  · rw [if_pos hbm]
    have i1 : (1024 : Int) < (m : Int) := by omega
    dsimp only
    go_wp2_with fail
    refine (fixed_any HC.out _).mono ?_
    rintro e w9 ⟨rfl, hb⟩
    dsimp only
    have B9 : Hid (Below w.heap.size w w9) := (F4.out.bel).trans (hb.mono (F4.out.bel).size)
    clear hb
    go_wp2
    go_ret
    exact ⟨rfl, B9.out⟩
  · rw [if_neg hbm]
    have i1 : ¬ (1024 : Int) < (m : Int) := by omega
    have rX := F4.out.row (List.mem_cons_of_mem _ (List.mem_cons_self ..))
    have x0 := rX.cell 0 (.slice ko kn kc) rfl
    have x1 := rX.cell 1 (.slice no nb nc) rfl
    clear rX
    have cv1 := conv_bytes w4 mo mb mc n2 HMB.out (HMI.out _ F4.out.bel)
    have cv2 := conv_bytes w4 no nb nc n1 HNB.out (HNI.out _ F4.out.bel)
    have hqq : (if quot key n2 ys = QQ then (0 : Int) else 19) = if rq = true then 0 else 19 := by rw [HRQ.out]; by_cases h : quot key n2 ys = QQ <;> simp [h]
    rw [hqq]
    clear hqq
    by_cases hn12 : n2 = n1
    · have HS : Hid (∀ r, r = decide (xs = ys) → Calls Try.prog 13 #[.slice ao n cap, .slice bo m bc] w4 fun e w' => e = .returned (.bool r) ∧ Dr w4 w') := fun r hr => rsame_any w4 ao n cap B off xs HXN.out (by omega) HA0.out (HIN.out _ F4.out.bel) bo m bc D dff ys HYM.out HB0.out (HIY.out _ F4.out.bel) r hr
      have sb := strOf_beq n2 n1 true (by rw [decide_eq_true hn12])
      have HNN : Hid (n2 = n1) := hn12
      clear hn12
      generalize strOf n2 = SA at *
      generalize strOf n1 = SB at *
      by_cases hxy : xs = ys
      · obtain rfl : rq = true := by rw [HRQ.out, decide_eq_true]; rw [← HQQ.out, HNN.out, hxy]
        have hs := HS.out true (by rw [decide_eq_true hxy])
        rw [if_pos rfl]
        dsimp only
        go_wp2_with fail
        refine hs.mono ?_
        clear hs
        rintro e w5 ⟨rfl, hd⟩
        dsimp only
        have B5 : Hid (Below w.heap.size w w5) := Below_dr F4.out.bel hd
        clear hd cv1 cv2 x0 x1
        go_wp2_with fail
        refine (fixed_any HC.out _).mono ?_
        rintro e w9 ⟨rfl, hb⟩
        dsimp only
        have B9 : Hid (Below w.heap.size w w9) := (B5.out).trans (hb.mono (B5.out).size)
        clear hb
        go_wp2
        go_ret
        exact ⟨rfl, B9.out⟩
      · have hs := HS.out false (by rw [decide_eq_false hxy])
        have HNS : Hid (¬ (n2 = n1 ∧ xs = ys)) := fun h => hxy h.2
        clear hxy
        cases rq with
        | true =>
          have HQE : Hid (quot key n1 xs = quot key n2 ys) := by show _ = _; rw [HQQ.out]; exact (of_decide_eq_true HRQ.out.symm).symm
          rw [if_pos rfl]
          dsimp only
          go_wp2_with fail
          refine hs.mono ?_
          clear hs
          rintro e w5 ⟨rfl, hd⟩
          dsimp only
          have B5 : Hid (Below w.heap.size w w5) := Below_dr F4.out.bel hd
          obtain ⟨dn, rfl⟩ := hd
          clear cv1 cv2
          have CA : Hid (Calls Try.prog 23 #[.slice ko kn kc, .slice no nb nc, .slice ao n cap, .slice mo mb mc, .slice bo m bc] (w4.drewN dn) (ClPost key n1 xs n2 ys (w4.drewN dn))) := rclash_any (w4.drewN dn) ko kn kc key HKN.out (HKI.out _ (B5.out)) HK0.out.1 hkb no nb nc n1 HNB.out (HNI.out _ (B5.out)) HN0.out.1 hbig ao n cap B off xs HXN.out hn1024 HA0.out (HIN.out _ (B5.out)) mo mb mc n2 HMB.out (HMI.out _ (B5.out)) HM0.out.1 hmig bo m bc D dff ys HYM.out (by omega) HB0.out (HIY.out _ (B5.out))
          go_wp2_with fail
          refine CA.out.mono ?_
          rintro e w7 ⟨r, rfl, hb, hr⟩
          obtain rfl : r = true := tells_clash (by rw [HXN.out]; exact hn1024) (by rw [HYM.out]; omega) HX.out HY.out HQE.out hr.1 HNS.out
          clear hr CA
          dsimp only
          have B7 : Hid (Below w.heap.size w w7) := (B5.out).trans (hb.mono (B5.out).size)
          clear hb
          go_wp2_with fail
          refine (fixed_any HC.out _).mono ?_
          rintro e w9 ⟨rfl, hb⟩
          dsimp only
          have B9 : Hid (Below w.heap.size w w9) := (B7.out).trans (hb.mono (B7.out).size)
          clear hb
          go_wp2
          go_ret
          exact ⟨rfl, B9.out⟩
        | false =>
          rw [if_neg (by decide)]
          dsimp only
          go_wp2_with fail
          refine hs.mono ?_
          clear hs
          rintro e w5 ⟨rfl, hd⟩
          dsimp only
          have B5 : Hid (Below w.heap.size w w5) := Below_dr F4.out.bel hd
          clear hd cv1 cv2 x0 x1
          go_wp2_with fail
          refine (fixed_any HC.out _).mono ?_
          rintro e w9 ⟨rfl, hb⟩
          dsimp only
          have B9 : Hid (Below w.heap.size w w9) := (B5.out).trans (hb.mono (B5.out).size)
          clear hb
          go_wp2
          go_ret
          exact ⟨rfl, B9.out⟩
    · have sb := strOf_beq n2 n1 false (by rw [decide_eq_false hn12])
      have HNS : Hid (¬ (n2 = n1 ∧ xs = ys)) := fun h => hn12 h.1
      clear hn12
      generalize strOf n2 = SA at *
      generalize strOf n1 = SB at *
      cases rq with
      | true =>
        have HQE : Hid (quot key n1 xs = quot key n2 ys) := by show _ = _; rw [HQQ.out]; exact (of_decide_eq_true HRQ.out.symm).symm
        rw [if_pos rfl]
        dsimp only
        have CA : Hid (Calls Try.prog 23 #[.slice ko kn kc, .slice no nb nc, .slice ao n cap, .slice mo mb mc, .slice bo m bc] w4 (ClPost key n1 xs n2 ys w4)) := rclash_any w4 ko kn kc key HKN.out (HKI.out _ (F4.out.bel)) HK0.out.1 hkb no nb nc n1 HNB.out (HNI.out _ (F4.out.bel)) HN0.out.1 hbig ao n cap B off xs HXN.out hn1024 HA0.out (HIN.out _ (F4.out.bel)) mo mb mc n2 HMB.out (HMI.out _ (F4.out.bel)) HM0.out.1 hmig bo m bc D dff ys HYM.out (by omega) HB0.out (HIY.out _ (F4.out.bel))
        go_wp2_with fail
        refine CA.out.mono ?_
        rintro e w7 ⟨r, rfl, hb, hr⟩
        obtain rfl : r = true := tells_clash (by rw [HXN.out]; exact hn1024) (by rw [HYM.out]; omega) HX.out HY.out HQE.out hr.1 HNS.out
        clear hr CA
        dsimp only
        have B7 : Hid (Below w.heap.size w w7) := (F4.out.bel).trans (hb.mono (F4.out.bel).size)
        clear hb
        go_wp2_with fail
        refine (fixed_any HC.out _).mono ?_
        rintro e w9 ⟨rfl, hb⟩
        dsimp only
        have B9 : Hid (Below w.heap.size w w9) := (B7.out).trans (hb.mono (B7.out).size)
        clear hb
        go_wp2
        go_ret
        exact ⟨rfl, B9.out⟩
      | false =>
        rw [if_neg (by decide)]
        dsimp only
        go_wp2_with fail
        refine (fixed_any HC.out _).mono ?_
        rintro e w9 ⟨rfl, hb⟩
        dsimp only
        have B9 : Hid (Below w.heap.size w w9) := (F4.out.bel).trans (hb.mono (F4.out.bel).size)
        clear hb
        go_wp2
        go_ret
        exact ⟨rfl, B9.out⟩

set_option maxHeartbeats 300000 in
set_option maxRecDepth 1000000 in
theorem tells_any {Lg : (Nat → Prop) → World → Addr → List EvV → Prop} (C : Chn Lg) (w : World)
    (ko : Option Addr) (kn kc : Nat) (key : List By) (hkn : key.length = kn) (hki : IsB w ko key) (hkk : (ko = none → kc = 0) ∧ kn ≤ kc) (hkb : kn ≤ 140737488351232)
    (no : Option Addr) (nb nc : Nat) (n1 : List By) (hnb : n1.length = nb) (hni : IsB w no n1) (hnn : (no = none → nc = 0) ∧ nb ≤ nc) (hbig : nb ≤ 140737488351232)
    (ao : Option Addr) (n cap B off : Nat) (xs : List EvV) (hn : xs.length = n) (hn47 : n ≤ 140737488355328) (hao : 0 < n → ao = some ⟨B, off, none⟩) (hin : EvIn w B off xs) (hcap : n ≤ cap)
    (q : List By) (hq : q.length = 32)
    (mo : Option Addr) (mb mc : Nat) (n2 : List By) (hmb : n2.length = mb) (hmi : IsB w mo n2) (hmn : (mo = none → mc = 0) ∧ mb ≤ mc) (hmig : mb ≤ 140737488351232)
    (bo : Option Addr) (m bc D dff : Nat) (ys : List EvV) (hm : ys.length = m) (hm47 : m ≤ 140737488355328) (hbo : 0 < m → bo = some ⟨D, dff, none⟩) (hiy : EvIn w D dff ys) :
    Calls Try.prog 6 #[.agg (askC ko kn kc no nb nc ao n cap q).toArray, .slice mo mb mc, .slice bo m bc] w (KP w) := by
  have lA : (askC ko kn kc no nb nc ao n cap q).length = 35 := by simp [askC, hq]
  have NX : Hid (∀ (n' : Nat) (xs' : List EvV) (W : World) (a : Addr) (X : Nat), xs'.length = n' → n' ≤ 1024 → (0 < n' → 0 < n) → EvIn w B off xs' → FW Lg w a xs' [(X, 46, askC ko kn kc no nb nc ao n cap q)] W → ∀ (c0 c4 c5 c6 c9 c10 c11 c12 c13 c14 c15 c16 c17 c18 c19 c20 c21 c22 c23 c24 c25 c26 c27 c28 c29 c30 c31 c32 c33 c34 c35 c36 c37 c38 c39 c40 c41 c42 c43 c44 c45 c46 c47 c48 c49 c50 c51 c52 c53 c54 c55 c56 c57 c58 c59 c60 c61 c62 c63 c64 c65 c66 c67 c68 c69 c70 c71 c72 c73 c74 c75 c76 c77 c78 c79 c80 c81 c82 c83 c84 : Value), Code.wp Try.prog (dropS 5 (Try.f6.body.getD .skip)) (bodyPost Try.prog Try.f6 (KP w)) ⟨#[c0, .slice mo mb mc, .slice bo m bc, .pointer (some ⟨X, 0, none⟩), c4, c5, c6, .pointer (some a), (.slice ao n' cap), c9, c10, c11, c12, c13, c14, c15, c16, c17, c18, c19, c20, c21, c22, c23, c24, c25, c26, c27, c28, c29, c30, c31, c32, c33, c34, c35, c36, c37, c38, c39, c40, c41, c42, c43, c44, c45, c46, c47, c48, c49, c50, c51, c52, c53, c54, c55, c56, c57, c58, c59, c60, c61, c62, c63, c64, c65, c66, c67, c68, c69, c70, c71, c72, c73, c74, c75, c76, c77, c78, c79, c80, c81, c82, c83, c84], []⟩ W) := fun n' xs' W a X h1 h2 h3 h4 h5 c0 c4 c5 c6 c9 c10 c11 c12 c13 c14 c15 c16 c17 c18 c19 c20 c21 c22 c23 c24 c25 c26 c27 c28 c29 c30 c31 c32 c33 c34 c35 c36 c37 c38 c39 c40 c41 c42 c43 c44 c45 c46 c47 c48 c49 c50 c51 c52 c53 c54 c55 c56 c57 c58 c59 c60 c61 c62 c63 c64 c65 c66 c67 c68 c69 c70 c71 c72 c73 c74 c75 c76 c77 c78 c79 c80 c81 c82 c83 c84 => tst5 C w W a X ko kn kc key hkn hki hkk hkb no nb nc n1 hnb hni hnn hbig ao n' cap B off xs' h1 h2 (fun h => hao (h3 h)) h4 mo mb mc n2 hmb hmi hmn hmig bo m bc D dff ys hm hm47 hbo hiy ao n cap q h5 c0 c4 c5 c6 c9 c10 c11 c12 c13 c14 c15 c16 c17 c18 c19 c20 c21 c22 c23 c24 c25 c26 c27 c28 c29 c30 c31 c32 c33 c34 c35 c36 c37 c38 c39 c40 c41 c42 c43 c44 c45 c46 c47 c48 c49 c50 c51 c52 c53 c54 c55 c56 c57 c58 c59 c60 c61 c62 c63 c64 c65 c66 c67 c68 c69 c70 c71 c72 c73 c74 c75 c76 c77 c78 c79 c80 c81 c82 c83 c84
  obtain ⟨W1, hW1⟩ : ∃ W1, W1 = w.alloc (.cells (askC ko kn kc no nb nc ao n cap q).toArray 46) := ⟨_, rfl⟩
  have b1 : Hid (Below w.heap.size w W1) := by show Below _ _ _; rw [hW1]; exact (Below.refl _ _).alloc (Nat.le_refl _) _
  have r1 : Hid (Row W1 w.heap.size 46 (askC ko kn kc no nb nc ao n cap q)) := by show Row _ _ _ _; rw [hW1]; exact Row.at w _ _ _ _ rfl rfl
  have LG := logged_any C W1 ao n cap B off xs hn hn47 hao (hin.keep b1.out)
  have x2 := r1.out.cell 2 (.slice ao n cap) rfl
  have HA2 : Hid ((askC ko kn kc no nb nc ao n cap q)[2]? = some (.slice ao n cap)) := rfl
  have HC : Hid (Chn Lg) := C
  have HIN : Hid (EvIn w B off xs) := hin
  have HN : Hid (xs.length = n) := hn
  have HA0 : Hid (0 < n → ao = some ⟨B, off, none⟩) := hao
  have hZ : W1.heap.size = w.heap.size + 1 := by rw [hW1]; simp
  clear hin hn hao C hki hkn hkk hni hnb hnn hmi hmb hmn hm hbo hiy hq
  generalize hAC : askC ko kn kc no nb nc ao n cap q = AC at *
  clear hAC
  go_enter Try.func6, Try.ntmps6
  refine wp_seq_k fun K hK => ?_
  have HKK : Hid _ := hK
  clear hK
  go_wp2_with fail
  refine HKK.out _ _ ?_
  clear HKK
  refine wp_seq_k fun K hK => ?_
  have HKK : Hid _ := hK
  clear hK
  rw [← hW1]
  clear hW1
  go_wp2_with fail
  refine LG.mono ?_
  clear LG
  rintro e w2 ⟨a, S, rfl, hl, hs, hb⟩
  dsimp only
  have F2 : Hid (FW Lg w a (xs.take 1024) [(w.heap.size, 46, AC)] w2) := ⟨S, hl, fun j hj => by have := hs j hj; omega, b1.out.trans (hb.mono (by omega)), fun t ht => by
    rw [List.mem_singleton] at ht
    subst ht
    exact ⟨r1.out.below hb (by show w.heap.size < _; omega), fun h => by have := hs _ h; simp only at this; omega⟩⟩
  clear hl hs hb b1 r1 x2
  have x2 := (F2.out.row (List.mem_cons_self ..)).cell 2 (.slice ao n cap) HA2.out
  go_wp2
  refine HKK.out _ _ ?_
  clear HKK
  refine wp_seq_k fun K hK => ?_
  have HKK : Hid _ := hK
  clear hK
  go_wp2
  refine HKK.out _ _ ?_
  clear HKK
  refine wp_seq_k fun K hK => ?_
  have HKK : Hid _ := hK
  clear hK
  go_wp2
  refine HKK.out _ _ ?_
  clear HKK
  refine wp_seq_k fun K hK => ?_
  have HKK : Hid _ := hK
  clear hK
  by_cases hbg : 1024 < n
  · have i1 : (1024 : Int) < (n : Int) := by omega
    have i2 : (1024 : Int) ≤ (cap : Int) := by omega
    have ha := HA0.out (by omega)
    subst ha
    go_wp2
    refine HKK.out _ _ ?_
    exact NX.out 1024 (xs.take 1024) _ a _ (by rw [List.length_take, HN.out]; omega) (by omega) (by omega) (HIN.out.take 1024) F2.out _ _ _ _ _ _ _ _ _ _ _ _ _ _ _ _ _ _ _ _ _ _ _ _ _ _ _ _ _ _ _ _ _ _ _ _ _ _ _ _ _ _ _ _ _ _ _ _ _ _ _ _ _ _ _ _ _ _ _ _ _ _ _ _ _ _ _ _ _ _ _ _ _ _ _ _ _ _ _ _
  · have i1 : ¬ (1024 : Int) < (n : Int) := by omega
    have e : xs.take 1024 = xs := List.take_of_length_le (by rw [HN.out]; omega)
    rw [e] at F2
    clear e
    go_wp2
    refine HKK.out _ _ ?_
    exact NX.out n xs _ a _ HN.out (by omega) (by omega) HIN.out F2.out _ _ _ _ _ _ _ _ _ _ _ _ _ _ _ _ _ _ _ _ _ _ _ _ _ _ _ _ _ _ _ _ _ _ _ _ _ _ _ _ _ _ _ _ _ _ _ _ _ _ _ _ _ _ _ _ _ _ _ _ _ _ _ _ _ _ _ _ _ _ _ _ _ _ _ _ _ _ _ _
end Go.Proofs.Ythegfkcegmeklaa
