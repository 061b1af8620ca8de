import Derived.Test.YtplpoehfdhkhmaaDoorP25Mem

/-! The reference's patch: Laid, Tells. -/
namespace Go.Proofs.YtplpoehfdhkhmaaDoor
open Go.RowKit
set_option linter.unusedVariables false

set_option maxHeartbeats 2000000 in
set_option maxRecDepth 100000 in
theorem r25Laid_any (N : Nat) (x : PX) (C : List Value) (w : World) (h : PxV N w x C) :
    Calls Tryd.prog 27 #[.agg C.toArray] w fun e w' => e = .returned (.int .i64 (laidN x.l : Int)) /\ Below w.heap.size w w' := by
  have b1 : Below w.heap.size w (w.alloc (.cells C.toArray 34)) := (Below.refl _ _).alloc (Nat.le_refl _) _
  have r1 : Row (w.alloc (.cells C.toArray 34)) w.heap.size 34 C := Row.at w _ _ _ _ rfl rfl
  obtain ⟨lo, lc, hC, hm⟩ := h.eq
  have c66 : (w.alloc (.cells C.toArray 34)).cell? ⟨w.heap.size, 66, none⟩ = some (.slice lo x.l.length lc) := r1.cell 66 _ (by rw [hC]; exact pxC_sl h.ok.lo h.ok.ln)
  have HM : Hid (PxM N (w.alloc (.cells C.toArray 34)) x.l lo lc) := hm.keep b1
  have HB : Hid (Below w.heap.size w (w.alloc (.cells C.toArray 34))) := b1
  have hn : x.l.length <= 524288 := Nat.le_trans (len_le_sum h.ok.pos) (by rw [h.ok.sum]; exact h.ok.aft)
  have HP : Hid (PXok x) := h.ok
  clear h hC hm r1 b1
  go_enter Tryd.func27, Tryd.ntmps27
  go_wp2
  go_loopw [3, 4] (fun nv iv wr => ∃ i : Nat, i <= x.l.length /\ nv = .int .i64 (laidN (x.l.take i) : Int) /\ iv = .int .i64 i /\ w.alloc (.cells C.toArray 34) = wr) (fun _ iv _ => x.l.length - (intOf iv).toNat)
  case atStart => exact ⟨0, by omega, rfl, rfl, rfl⟩
  case round =>
    obtain ⟨i, hi, rfl, rfl, rfl⟩ := hrel
    by_cases hlt : i < x.l.length
    · have y0 : (0 : Int) <= (i : Int) := by omega
      have y1 : (i : Int) < (x.l.length : Int) := by omega
      obtain ⟨y, hy⟩ : ∃ y, x.l[i]? = some y := ⟨_, List.getElem?_eq_getElem hlt⟩
      obtain ⟨B, v, rfl, hr, hv⟩ := HM.out.at hy
      obtain ⟨bo, bc, rfl, _⟩ := hv.eq
      have c0 := hr 0 _ rfl
      have c2 := hr 2 _ rfl
      rw [Nat.add_zero] at c0
      have hyn : y.n <= 524288 := by
        have h1 := sum_le_of (List.mem_of_getElem? hy)
        have h2 := HP.out.sum
        have h3 := HP.out.aft
        omega
      have hL : laidN (x.l.take i) <= 524288 := by
        have h1 := laid_le (x.l.take i)
        have h2 : ((x.l.take i).map Pt.n).sum <= (x.l.map Pt.n).sum := by
          have e : x.l = x.l.take i ++ x.l.drop i := (List.take_append_drop i x.l).symm
          rw [congrArg (fun z => (List.map Pt.n z).sum) e, List.map_append, List.sum_append]
          omega
        have h3 := HP.out.sum
        have h4 := HP.out.aft
        omega
      have HS : Hid (laidN (x.l.take (i + 1)) = laidN (x.l.take i) + (if y.lay then y.n else 0)) := by show _ = _; rw [takeP_one hy, laid_snoc]
      have z1 : IntKind.i64.wrap ((i : Int) + 1) = (i : Int) + 1 := i64_in _ (by omega) (by omega)
      have z2 : IntKind.i64.wrap ((laidN (x.l.take i) : Int) + (y.n : Int)) = (laidN (x.l.take i) : Int) + (y.n : Int) := i64_in _ (by omega) (by omega)
      clear hv hr hy
      generalize laidN (x.l.take i) = L at *
      generalize y.n = yn at *
      generalize hlay : y.lay = yl at *
      cases yl with
      | true =>
        go_wp2
        exact ⟨⟨i + 1, by omega, by rw [HS.out]; rfl, by go_num, by first | rfl | trivial⟩, by simp [intOf]; omega⟩
      | false =>
        go_wp2
        exact ⟨⟨i + 1, by omega, by rw [HS.out]; rfl, by go_num, by first | rfl | trivial⟩, by simp [intOf]; omega⟩
    · obtain rfl : i = x.l.length := by omega
      have y1 : ¬ ((x.l.length : Nat) : Int) < (x.l.length : Int) := by omega
      rw [List.take_length]
      go_wp2
      go_ret
      exact ⟨rfl, HB.out⟩

theorem isB_part {W : World} {ao : Option Addr} {b : List By} (h : IsB W ao b) (f n : Nat) (hf : f + n <= b.length) (h0 : 0 < n) : ∃ B off, ao = some ⟨B, off, none⟩ /\ IsB W (some ⟨B, off + f, none⟩) ((b.drop f).take n) := by
  rcases h with rfl | ⟨B, off, rfl, hc⟩
  · simp at hf; omega
  · refine ⟨B, off, rfl, .inr ⟨B, off + f, rfl, fun j v hj => ?_⟩⟩
    rw [List.getElem?_take] at hj
    split at hj
    · rw [List.getElem?_drop] at hj
      have := hc (f + j) v hj
      rw [Nat.add_assoc]; exact this
    · cases hj
theorem tells_len {x : PX} (h : PXok x) {old : List By} (ho : old.length = x.before) : ∀ {l : List Pt}, (∀ y ∈ l, y ∈ x.l) -> (tells l old).length = (l.map Pt.n).sum
  | [], _ => rfl
  | y :: ys, hl => by
    have hy := hl y (List.mem_cons_self ..)
    have ih := tells_len h ho fun z hz => hl z (List.mem_cons_of_mem _ hz)
    unfold tells at *
    rw [List.flatMap_cons, List.length_append, ih, List.map_cons, List.sum_cons]
    congr 1
    unfold ptB
    cases hyl : y.lay with
    | true => rw [if_pos rfl]; exact h.lay y hy hyl
    | false =>
      have := (h.cpy y hy hyl).2
      simp only [Bool.false_eq_true, if_false, List.length_take, List.length_drop]
      omega

theorem sum_take_le (l : List Pt) (i : Nat) : ((l.take i).map Pt.n).sum <= (l.map Pt.n).sum := by
  have e : l = l.take i ++ l.drop i := (List.take_append_drop i l).symm
  rw [congrArg (fun z => (List.map Pt.n z).sum) e, List.map_append, List.sum_append]
  omega

set_option maxHeartbeats 4000000 in
set_option maxRecDepth 100000 in
theorem r25Tells_any (N : Nat) (x : PX) (C : List Value) (w : World) (h : PxV N w x C) (ao : Option Addr) (n cap : Nat) (old : List By) (hn : old.length = n) (hb : IsB w ao old) (hx : n = x.before) (hcap : n <= cap) :
    Calls Tryd.prog 21 #[.agg C.toArray, .slice ao n cap] w fun e w' => ∃ ao' c', e = .returned (.slice ao' x.after c') /\ Own w.heap.size w' (.slice ao' x.after c') (tells x.l old) /\ Below w.heap.size w w' := by
  obtain ⟨W1, hW1⟩ : ∃ W1, W1 = w.alloc (.cells C.toArray 34) := ⟨_, rfl⟩
  have b1 : Below w.heap.size w W1 := by rw [hW1]; exact (Below.refl _ _).alloc (Nat.le_refl _) _
  have r1 : Row W1 w.heap.size 34 C := by rw [hW1]; exact Row.at w _ _ _ _ rfl rfl
  have hz1 : W1.heap.size = w.heap.size + 1 := by rw [hW1]; simp
  obtain ⟨lo, lc, hC, hm⟩ := h.eq
  have hC66 : C[66]? = some (.slice lo x.l.length lc) := by rw [hC]; exact pxC_sl h.ok.lo h.ok.ln
  have C66 : Hid (∀ W, Below W1.heap.size W1 W -> W.cell? ⟨w.heap.size, 66, none⟩ = some (.slice lo x.l.length lc)) := fun W hW => (r1.below hW r1.lt).cell 66 _ hC66
  have HM : Hid (∀ W, Below W1.heap.size W1 W -> PxM N W x.l lo lc) := fun W hW => (hm.keep b1).keep hW
  have HI : Hid (∀ W, Below W1.heap.size W1 W -> IsB W ao old) := fun W hW => (hb.below b1 (Nat.le_refl _)).below hW (by omega)
  have HB1 : Hid (Below w.heap.size w W1) := b1
  have hnl : x.l.length <= 524288 := Nat.le_trans (len_le_sum h.ok.pos) (by rw [h.ok.sum]; exact h.ok.aft)
  have HP : Hid (PXok x) := h.ok
  have HO : Hid (old.length = x.before) := hn.trans hx
  have hxa := h.ok.aft
  have hxb := h.ok.bef
  have HT : Hid (∀ i, (tells (x.l.take i) old).length = ((x.l.take i).map Pt.n).sum) := fun i => tells_len HP.out HO.out fun y hy => List.mem_of_mem_take hy
  have O1 : Hid (Own W1.heap.size (W1.alloc (.cells #[] 5)) (.slice (some ⟨W1.heap.size, 0, none⟩) 0 0) []) := own_empty _ W1 (Nat.le_refl _) _ rfl
  have HNX : Hid (n = x.before) := hx
  clear h hC hm r1 b1 hb hn hC66
  go_enter Tryd.func21, Tryd.ntmps21
  go_wp2
  rw [<- hW1]
  rw [<- hz1]
  have HZ : Hid (W1.heap.size = w.heap.size + 1) := hz1
  clear hW1 hx hz1
  have T0 : Hid (tells (x.l.take 0) old = []) := rfl
  go_loopw [5, 6] (fun ov iv wr => ∃ (i : Nat) (bo : Option Addr) (bc : Nat), i <= x.l.length /\ ov = .slice bo ((x.l.take i).map Pt.n).sum bc /\ iv = .int .i64 i /\ Hid (Own W1.heap.size wr (.slice bo ((x.l.take i).map Pt.n).sum bc) (tells (x.l.take i) old) /\ Below W1.heap.size W1 wr)) (fun _ iv _ => x.l.length - (intOf iv).toNat)
  case atStart => exact ⟨0, _, _, by omega, rfl, rfl, O1.out, (Below.refl _ _).alloc (Nat.le_refl _) _⟩
  case round =>
    clear O1 T0
    obtain ⟨i, bo, bc, hi, rfl, rfl, HR⟩ := hrel
    have c66 := C66.out _ HR.out.2
    by_cases hlt : i < x.l.length
    · have y0 : (0 : Int) <= (i : Int) := by omega
      have y1 : (i : Int) < (x.l.length : Int) := by omega
      obtain ⟨y, hy⟩ : ∃ y, x.l[i]? = some y := ⟨_, List.getElem?_eq_getElem hlt⟩
      have hym := List.mem_of_getElem? hy
      obtain ⟨B, v, rfl, hr, hv⟩ := (HM.out _ HR.out.2).at hy
      obtain ⟨yo, yc, rfl, hyo⟩ := hv.eq
      have hyn : y.n <= 524288 := by
        have h1 := sum_le_of hym
        have h2 := HP.out.sum
        omega
      have hS : ((x.l.take i).map Pt.n).sum <= 524288 := by
        have h1 := sum_take_le x.l i
        have h2 := HP.out.sum
        omega
      have HSS : Hid (((x.l.take (i + 1)).map Pt.n).sum = ((x.l.take i).map Pt.n).sum + y.n) := by show _ = _; rw [takeP_one hy, List.map_append, List.sum_append]; simp
      have HTT : Hid (tells (x.l.take (i + 1)) old = tells (x.l.take i) old ++ ptB old y) := by show _ = _; rw [takeP_one hy, tells_snoc]
      have HL : Hid ((tells (x.l.take i) old).length = ((x.l.take i).map Pt.n).sum) := HT.out i
      have z1 : IntKind.i64.wrap ((i : Int) + 1) = (i : Int) + 1 := i64_in _ (by omega) (by omega)
      obtain ⟨YC, hYC⟩ : ∃ YC, YC = ptC y.lay y.frm y.n (.slice yo y.b.length yc) := ⟨_, rfl⟩
      rw [<- hYC] at hr
      have lY : YC.length = 4 := by rw [hYC]; rfl
      have oY : Hid (∀ v ∈ YC, v.oneCell' = true) := by
        rw [hYC]
        show ∀ v ∈ ptC y.lay y.frm y.n (.slice yo y.b.length yc), _
        intro v hv
        simp [ptC] at hv
        rcases hv with rfl | rfl | rfl | rfl <;> rfl
      have HY : Hid (YC[0]? = some (.bool y.lay) /\ YC[1]? = some (.int .i64 (y.frm : Int)) /\ YC[2]? = some (.int .i64 (y.n : Int)) /\ YC[3]? = some (.slice yo y.b.length yc)) := by rw [hYC]; exact ⟨rfl, rfl, rfl, rfl⟩
      obtain ⟨G, hG⟩ : ∃ G, G = wr.heap.size := ⟨_, rfl⟩
      have ZR : Hid (Row (wr.alloc (.cells zPt.toArray 65)) G 65 zPt) := Row.at wr _ _ _ _ hG rfl
      have HG : Hid (G = wr.heap.size) := hG
      have PST : Hid (∀ W, SameBut G (wr.alloc (.cells zPt.toArray 65)) W -> Own W1.heap.size W (.slice bo ((x.l.take i).map Pt.n).sum bc) (tells (x.l.take i) old) /\ Below W1.heap.size W1 W /\ Own N W (.slice yo y.b.length yc) y.b) := fun W hs => by
        have hbb : Below wr.heap.size wr W := hs.below ((Below.refl _ _).alloc (Nat.le_refl _) _) (by omega)
        exact ⟨HR.out.1.keep hbb, HR.out.2.trans (hbb.mono HR.out.2.size), hyo.keep hbb⟩
      clear hYC hv hyo hG HR
      have hlay := HP.out.lay y hym
      have hcpy := HP.out.cpy y hym
      generalize tells (x.l.take i) old = T at *
      generalize ((x.l.take i).map Pt.n).sum = S at *
      cases hyl : y.lay with
      | true =>
        have hbl := hlay hyl
        have HPB : Hid (ptB old y = y.b) := by show _ = _; unfold ptB; rw [if_pos hyl]
        rw [hyl, hbl] at HY
        rw [hbl] at PST
        go_wp2_with (first
          | (have hz := hr; clear hz; refine wpList_load_mid rfl 65 (.tmp 19) rfl B (i * 4) rfl YC _ hr Tryd.underlying65 rfl (by rw [lY]; kernel_rfl) ?_; clear hr c66)
          | (have hz := ZR; clear hz; rw [<- HG.out]; refine wpList_store_Row rfl 65 (.tmp 7) (.tmp 20) rfl G 65 0 zPt YC ZR.out (by rw [lY]; exact Nat.le_refl _) rfl rfl (by rw [lY]; kernel_rfl) oY.out ?_; intro w3 hr3 hs3; have r3 := row_whole hr3 (by rw [lY]; exact Nat.le_refl _); have c0 := r3.cell 0 _ HY.out.1; have c3 := r3.cell 3 _ HY.out.2.2.2; obtain ⟨hp1, hp2, hp3⟩ := PST.out _ hs3; clear ZR hr3 hs3 r3)
          | (at_builtin; have hz := hp1; clear hz; refine wpList_append_more rfl (.tmp 23) (.tmp 25) rfl W1.heap.size W1 bo S bc T rfl HL.out hp1 hp2 yo y.n yc y.b rfl hbl (own_IsB hp3) (own_isb hp3).2.1 (by omega) ?_; intro ao5 c5 w5 ho5 hb5; clear hp1 hp2 hp3 c0 c3))
        have HF : Hid (Own W1.heap.size w5 (.slice ao5 (((x.l.take (i + 1)).map Pt.n).sum) c5) (tells (x.l.take (i + 1)) old) /\ Below W1.heap.size W1 w5) := ⟨by rw [HSS.out, HTT.out, HPB.out]; exact ho5, hb5⟩
        clear ho5 hb5
        go_wp2
        exact ⟨⟨i + 1, ao5, c5, by omega, by rw [HSS.out], by go_num, HF⟩, by simp [intOf]; omega⟩
      | false =>
        obtain ⟨hb0, hfn⟩ := hcpy hyl
        have hpos := HP.out.pos y hym
        have HPB : Hid (ptB old y = (old.drop y.frm).take y.n) := by show _ = _; unfold ptB; rw [hyl]; rfl
        rw [hyl] at HY
        have hnx := HNX.out
        have hol := HO.out
        have hlen : Hid (((old.drop y.frm).take y.n).length = y.n) := by show _ = _; rw [List.length_take, List.length_drop]; omega
        have z2 : IntKind.i64.wrap ((y.frm : Int) + (y.n : Int)) = ((y.frm + y.n : Nat) : Int) := by rw [i64_in _ (by omega) (by omega)]; omega
        have g1 : (0 : Int) <= (y.frm : Int) := by omega
        have g2 : (y.frm : Int) <= ((y.frm + y.n : Nat) : Int) := by omega
        have g3 : ((y.frm + y.n : Nat) : Int) <= (cap : Int) := by omega
        obtain ⟨B2, off2, rfl, _⟩ := isB_part (HI.out _ (Below.refl _ _)) y.frm y.n (by omega) (by omega)
        have HIP : Hid (∀ W, Below W1.heap.size W1 W -> IsB W (some ⟨B2, off2 + y.frm, none⟩) ((old.drop y.frm).take y.n)) := fun W hW => by
          obtain ⟨B3, off3, e, h⟩ := isB_part (HI.out _ hW) y.frm y.n (by omega) (by omega)
          injection e with e
          injection e with e1 e2
          subst e1 e2
          exact h
        clear hcpy hlay hfn hb0 hnx hol
        generalize (old.drop y.frm).take y.n = OB at *
        obtain ⟨fe, hfe⟩ : ∃ fe, fe = y.frm + y.n := ⟨_, rfl⟩
        rw [<- hfe] at z2 g2 g3
        have HFE : Hid (fe - y.frm = y.n) := (by omega : fe - y.frm = y.n)
        have HLN : Hid (OB.length = fe - y.frm) := by show _ = _; rw [HFE.out]; exact hlen.out
        have hsm : fe - y.frm <= 524288 := by omega
        have g4 : ¬ cap = y.frm := by omega
        clear hfe
        generalize y.frm = yf at *
        go_wp2_with (first
          | (have hz := hr; clear hz; refine wpList_load_mid rfl 65 (.tmp 19) rfl B (i * 4) rfl YC _ hr Tryd.underlying65 rfl (by rw [lY]; kernel_rfl) ?_; clear hr c66)
          | (have hz := ZR; clear hz; rw [<- HG.out]; refine wpList_store_Row rfl 65 (.tmp 7) (.tmp 20) rfl G 65 0 zPt YC ZR.out (by rw [lY]; exact Nat.le_refl _) rfl rfl (by rw [lY]; kernel_rfl) oY.out ?_; intro w3 hr3 hs3; have r3 := row_whole hr3 (by rw [lY]; exact Nat.le_refl _); have c0 := r3.cell 0 _ HY.out.1; have c1 := r3.cell 1 _ HY.out.2.1; have c2 := r3.cell 2 _ HY.out.2.2.1; obtain ⟨hp1, hp2, hp3⟩ := PST.out _ hs3; clear ZR hr3 hs3 r3)
          | (at_builtin; have hz := hp1; clear hz; refine wpList_append_more rfl (.tmp 27) (.tmp 36) rfl W1.heap.size W1 bo S bc T rfl HL.out hp1 hp2 (some ⟨B2, off2 + yf, none⟩) (fe - yf) _ OB rfl HLN.out (HIP.out _ hp2) (fun h => by cases h) (by omega) ?_; intro ao5 c5 w5 ho5 hb5; clear hp1 hp2 hp3 c0 c1 c2))
        have HF : Hid (Own W1.heap.size w5 (.slice ao5 (((x.l.take (i + 1)).map Pt.n).sum) c5) (tells (x.l.take (i + 1)) old) /\ Below W1.heap.size W1 w5) := ⟨by rw [HSS.out, HTT.out, HPB.out, <- HFE.out]; exact ho5, hb5⟩
        clear ho5 hb5
        go_wp2
        exact ⟨⟨i + 1, ao5, c5, by omega, by rw [HSS.out, <- HFE.out], by go_num, HF⟩, by simp [intOf]; omega⟩
    · obtain rfl : i = x.l.length := by omega
      have y1 : ¬ ((x.l.length : Nat) : Int) < (x.l.length : Int) := by omega
      have hf := HR.out
      rw [List.take_length, HP.out.sum] at hf
      have HF : Hid (Own w.heap.size wr (.slice bo x.after bc) (tells x.l old) /\ Below w.heap.size w wr) := ⟨own_le hf.1 HB1.out.size, HB1.out.trans (hf.2.mono HB1.out.size)⟩
      rw [List.take_length, HP.out.sum]
      clear hf HR
      go_wp2
      go_ret
      exact ⟨bo, bc, rfl, HF.out⟩
end Go.Proofs.YtplpoehfdhkhmaaDoor


/-! Which errors reading tells; what a read patch is; what applying tells. -/
namespace Go.Proofs.YtplpoehfdhkhmaaDoor
open Go.RowKit
set_option linter.unusedVariables false

theorem sE_some {p : List By} : ∀ (k i : Nat) (e a : Nat), sE p i k = some (e, a) -> e = 5 ∨ e = 6
  | 0, i, e, a, h => by cases h
  | k + 1, i, e, a, h => by
    rw [sE] at h
    split at h
    · injection h with h; injection h with h1 h2; exact .inr h1.symm
    · split at h
      · injection h with h; injection h with h1 h2; exact .inl h1.symm
      · split at h
        · injection h with h; injection h with h1 h2; exact .inl h1.symm
        · exact sE_some k (i + 1) e a h
theorem startR_wrong {p : List By} {e a : Nat} (h : startR p = .error (e, a)) : e = 5 ∨ e = 6 := by
  unfold startR at h
  split at h
  · rename_i e' a' he
    injection h with h
    injection h with h1 h2
    subst h1
    exact sE_some _ _ _ _ he
  · split at h
    · injection h with h
      injection h with h1 h2
      exact .inl h1.symm
    · cases h
theorem partR_err {bef aft : Nat} {l : List Pt} {p : List By} {a hv e k : Nat} (h : partR bef aft l p a hv = .error (e, k)) : e = 5 ∨ e = 6 := by
  unfold partR at h
  repeat' split at h
  all_goals first
    | (injection h with h; injection h with h1 h2; exact .inr h1.symm)
    | (injection h with h; injection h with h1 h2; exact .inl h1.symm)
    | cases h
theorem readL_err {bef aft : Nat} {p : List By} : ∀ (n a hv : Nat) (l : List Pt) {e k : Nat}, readL bef aft p n a hv l = .error (e, k) -> e = 5 ∨ e = 6
  | 0, a, hv, l, e, k, h => by cases h
  | n + 1, a, hv, l, e, k, h => by
    rw [readL] at h
    split at h
    · cases h
    · split at h
      · rename_i e' he
        injection h with h
        subst h
        exact partR_err he
      · exact readL_err n _ _ _ h
theorem readR_wrong {p : List By} {e a : Nat} (h : readR p = .error (e, a)) : 5 <= e /\ e <= 7 := by
  unfold readR at h
  split at h
  · rename_i e' a' he
    injection h with h
    injection h with h1 h2
    subst h1
    have := startR_wrong he
    omega
  · split at h
    · rename_i e' a' he
      injection h with h
      injection h with h1 h2
      subst h1
      have := readL_err _ _ _ _ he
      omega
    · split at h
      · injection h with h
        injection h with h1 h2
        omega
      · cases h
theorem startR_ok {p : List By} {x : PX} (h : startR p = .ok x) : 77 <= p.length /\ x.old = (p.drop 5).take 32 /\ x.new = (p.drop 37).take 32 /\ x.before = num4 (p.drop 69) /\ x.after = num4 (p.drop 73) /\ x.l = [] /\ x.after <= 524288 := by
  unfold startR at h
  split at h
  · cases h
  · rename_i he
    split at h
    · cases h
    · injection h with h
      subst h
      exact ⟨sE_none 77 0 rfl (Nat.zero_le _) he, rfl, rfl, rfl, rfl, rfl, by show num4 (p.drop 73) <= 524288; omega⟩
theorem sE_72 {p : List By} : ∀ (k i : Nat), i + k = 77 -> i <= 72 -> sE p i k = none -> num4 (p.drop 69) <= 524288
  | 0, i, hk, hi, _ => by omega
  | k + 1, i, hk, hi, h => by
    rw [sE] at h
    split at h
    · cases h
    · split at h
      · cases h
      · split at h
        · cases h
        · rename_i h3
          by_cases e : i = 72
          · by_cases h4 : 524288 < num4 (p.drop 69)
            · exact absurd ⟨e, h4⟩ h3
            · omega
          · exact sE_72 k (i + 1) (by omega) (by omega) h
theorem startR_bef {p : List By} {x : PX} (h : startR p = .ok x) : x.before <= 524288 := by
  have h2 := (startR_ok h).2.2.2.1
  unfold startR at h
  split at h
  · cases h
  · rename_i he
    rw [h2]
    exact sE_72 77 0 rfl (by omega) he
/-- Parts that were read. -/
structure PtOk (bef : Nat) (y : Pt) : Prop where
  pos : 1 <= y.n
  lay : y.lay = true -> y.b.length = y.n
  cpy : y.lay = false -> y.b = [] /\ y.frm + y.n <= bef
  frm : y.frm < 4294967296
theorem partR_ok {bef aft : Nat} {l : List Pt} {p : List By} {a hv : Nat} {y : Pt} {nx : Nat} (h : partR bef aft l p a hv = .ok (y, nx)) : PtOk bef y /\ hv + y.n <= aft /\ behB l y.lay y.frm = true := by
  unfold partR at h
  split at h
  · cases h
  · split at h
    · cases h
    · split at h
      · cases h
      · split at h
        · cases h
        · rename_i h1 h2 h3 h4
          split at h
          · rename_i h5
            split at h
            · cases h
            · rename_i h6
              injection h with h
              injection h with hy hx
              subst hy
              simp only [nxt, h5, if_true, frmOf] at h4 h3
              have e1 : a + 5 - 4 = a + 1 := by omega
              rw [e1] at h4
              simp only [not_or, Bool.not_eq_false] at h4
              obtain ⟨k1, k2, k3, k4⟩ := h4
              refine ⟨⟨by show 1 <= num4 (p.drop (a + 1)); omega, fun _ => ?_, fun h => (by cases h), (by show 0 < 4294967296; omega)⟩, by show hv + num4 (p.drop (a + 1)) <= aft; omega, ?_⟩
              · show ((p.drop (a + 5)).take (num4 (p.drop (a + 1)))).length = num4 (p.drop (a + 1))
                rw [List.length_take, List.length_drop]
                omega
              · show behB l true 0 = true
                simpa using k4
          · rename_i h5
            injection h with h
            injection h with hy hx
            subst hy
            have h6 : (p.getD a 0).toNat = 1 := by omega
            simp only [nxt, frmOf, if_neg h5] at h4 h3
            have e1 : a + 9 - 4 = a + 5 := by omega
            rw [e1] at h4
            simp only [not_or, Bool.not_eq_false] at h4
            obtain ⟨k1, k2, k3, k4⟩ := h4
            have k3' : ¬ bef < num4 (p.drop (a + 1)) + num4 (p.drop (a + 5)) := fun hh => k3 ⟨h6, hh⟩
            have hl := num4_lt (p.drop (a + 1))
            refine ⟨⟨by show 1 <= num4 (p.drop (a + 5)); omega, fun h => (by cases h), fun _ => ⟨rfl, by show num4 (p.drop (a + 1)) + num4 (p.drop (a + 5)) <= bef; omega⟩, hl⟩, by show hv + num4 (p.drop (a + 5)) <= aft; omega, ?_⟩
            show behB l false (num4 (p.drop (a + 1))) = true
            have e2 : decide ((p.getD a 0).toNat = 2) = false := decide_eq_false h5
            rw [e2] at k4
            exact k4
theorem readL_ok {bef aft : Nat} {p : List By} : ∀ (n a hv : Nat) (l : List Pt) {l' : List Pt} {a' : Nat}, aft <= hv + n -> hv = (l.map Pt.n).sum -> hv <= aft -> (∀ y ∈ l, PtOk bef y) -> readL bef aft p n a hv l = .ok (l', a') -> (l'.map Pt.n).sum = aft /\ ∀ y ∈ l', PtOk bef y
  | 0, a, hv, l, l', a', hn, hs, hv', ho, h => by
    injection h with h
    injection h with h1 h2
    subst h1
    exact ⟨by omega, ho⟩
  | n + 1, a, hv, l, l', a', hn, hs, hv', ho, h => by
    rw [readL] at h
    split at h
    · injection h with h
      injection h with h1 h2
      subst h1
      exact ⟨by omega, ho⟩
    · split at h
      · cases h
      · rename_i y nx he
        obtain ⟨h1, h2, _⟩ := partR_ok he
        have := h1.pos
        refine readL_ok n nx (hv + y.n) (l ++ [y]) (by omega) ?_ h2 ?_ h
        · rw [List.map_append, List.sum_append, <- hs]; simp
        · intro z hz
          rcases List.mem_append.1 hz with hz | hz
          · exact ho z hz
          · rw [List.mem_singleton] at hz; subst hz; exact h1
theorem readR_ok {p : List By} {x : PX} (h : readR p = .ok x) : PXok x := by
  unfold readR at h
  split at h
  · cases h
  · rename_i x0 he
    split at h
    · cases h
    · rename_i l a hl
      split at h
      · cases h
      · injection h with h
        subst h
        obtain ⟨h1, h2, h3, _, _, _, h7⟩ := startR_ok he
        obtain ⟨k1, k2⟩ := readL_ok x0.after 77 0 [] (by omega) rfl (by omega) (by simp) hl
        refine ⟨?_, ?_, (show x0.before <= 524288 from startR_bef he), h7, k1, fun y hy => (k2 y hy).pos, fun y hy => (k2 y hy).lay, fun y hy => (k2 y hy).cpy, fun y hy => (k2 y hy).frm⟩
        · show x0.old.length = 32
          rw [h2, List.length_take, List.length_drop]; omega
        · show x0.new.length = 32
          rw [h3, List.length_take, List.length_drop]; omega
/-- What applying tells. -/
def applyR (old p : List By) : Except (Nat × Nat) (List By) :=
  match readR p with
  | .error (e, a) => .error (e, a)
  | .ok x => if old.length ≠ x.before ∨ sha old ≠ x.old then .error (11, 5) else if sha (tells x.l old) ≠ x.new then .error (19, 37) else .ok (tells x.l old)
end Go.Proofs.YtplpoehfdhkhmaaDoor
