
import Derived.Test.YtgpnbiaghokjkaaDoorD21SpA
/-! Layer 21: spoil. -/
namespace Go.Proofs.YtgpnbiaghokjkaaDoor
open Go.RowKit
set_option linter.unusedVariables false
set_option linter.unusedSimpArgs false
set_option maxRecDepth 100000

theorem setTo_step (g : List (List By)) (m : List By) (i : Nat) (hi : i < g.length) : (List.replicate i m ++ g.drop i).set i m = List.replicate (i + 1) m ++ g.drop (i + 1) := by
  rw [List.set_append_right _ _ (by simp), List.length_replicate, Nat.sub_self, List.drop_eq_getElem_cons hi, List.set_cons_zero, List.replicate_succ', List.append_assoc]; rfl
theorem setTo_len (g : List (List By)) (m : List By) (i : Nat) (hi : i ≤ g.length) : (List.replicate i m ++ g.drop i).length = g.length := by simp; omega
theorem setTo_step1 {α : Type} (g : List α) (m : α) (i : Nat) (hi : i < g.length) : (List.replicate i m ++ g.drop i).set i m = List.replicate (i + 1) m ++ g.drop (i + 1) := by
  rw [List.set_append_right _ _ (by simp), List.length_replicate, Nat.sub_self, List.drop_eq_getElem_cons hi, List.set_cons_zero, List.replicate_succ', List.append_assoc]; rfl
theorem map_const {α β : Type} (l : List α) (m : β) : (l.map fun _ => m) = List.replicate l.length m := by
  induction l with
  | nil => rfl
  | cons a l ih => rw [List.map_cons, ih, List.length_cons, List.replicate_succ]
set_option maxHeartbeats 16000000 in
theorem l21spoil_any (N M : Nat) (v : SV) (t : St) (qs : List Value) (k : Nat) (hk : k = 1 ∨ k = 2 ∨ k = 3) (w : World) (h : Tld N M w v t qs) (hp : t.pages.length ≤ 1000000) (hg : ∀ g ∈ t.pages, g.length ≤ 1000000) (hel : t.erases.length ≤ 1000000) (hbl : t.blown.length ≤ 1000000) :
    Calls Tryd.prog 18 #[.agg (v.vals t).toArray, .int .i64 (k : Int)] w fun e w' => e = .returned (.tuple #[]) ∧ Mkd N M w' v t qs k ∧ KeptR N M w w' := by
  have HAP : Hid (Apart v qs) := h.apart
  have hup := h.up
  have HNE : Hid (∀ g ∈ t.pages, 0 < g.length) := h.ne
  have HQ : Hid (∀ i, i < t.pages.length → ∃ G c, qs[i]? = some (.slice (some ⟨G, 0, none⟩) (t.pages.getD i []).length c) ∧ N ≤ G ∧ G < M ∧ 0 < (t.pages.getD i []).length) := fun i hi => by
    obtain ⟨G, c, h1, _, h3, h4, h5⟩ := h.page i hi
    exact ⟨G, c, h1, h3, h4, h5⟩
  have HLN : Hid (∀ i, i < t.pages.length → (t.pages.getD i []).length ≤ 1000000 ∧ t.pages[i]? = some (t.pages.getD i [])) := fun i hi => by
    have hpi : t.pages[i]? = some (t.pages.getD i []) := by rw [List.getElem?_eq_getElem hi, List.getD_eq_getElem?_getD, List.getElem?_eq_getElem hi]; rfl
    exact ⟨hg _ (List.mem_of_getElem? hpi), hpi⟩
  have HTD : Hid (Tld N M w v t qs) := h
  have HUP : Hid (∀ B, v.po = some ⟨B, 0, none⟩ → B < M) := h.upp
  have HUQ : Hid (∀ (j B n c : Nat), qs[j]? = some (.slice (some ⟨B, 0, none⟩) n c) → B < M) := h.upq
  have HUQN : Hid (∀ (j B n c : Nat), qs[j]? = some (.slice (some ⟨B, 0, none⟩) n c) → N ≤ B ∧ B < M) := fun j B n c hq => by
    have hj : j < t.pages.length := by rw [← h.ql]; exact (List.getElem?_eq_some_iff.1 hq).1
    obtain ⟨G, c', hq', _, h3, h4, _⟩ := h.page j hj
    rw [hq] at hq'
    injection hq' with hq'
    injection hq' with e1 _ _
    injection e1 with e1
    injection e1 with e1
    subst e1
    exact ⟨h3, h4⟩
  have HUE : Hid (∀ B, v.eo = some ⟨B, 0, none⟩ → B < M) := h.upe
  have HUB : Hid (∀ B, v.bo = some ⟨B, 0, none⟩ → B < M) := h.upb
  clear h hg
  have lsv : (v.vals t).length = 3 := rfl
  obtain ⟨XS, hXS⟩ : ∃ XS, v.vals t = XS := ⟨_, rfl⟩
  have HEX : Hid (XS = [.slice v.po t.pages.length v.pc, .slice v.eo t.erases.length v.ec, .slice v.bo t.blown.length v.bc]) := by rw [← hXS]; exact rfl
  rw [hXS] at lsv ⊢
  clear hXS
  have zm : ∀ o : Obj, Row ((w.alloc o).alloc (.cells ((List.replicate 32 (0 : By)).map B8).toArray 56)) (w.heap.size + 1) 56 ((List.replicate 32 (0 : By)).map B8) := fun o => Row.at _ _ _ _ _ (by simp) rfl
  have zx : ∀ o : Obj, Row ((w.alloc (.cells XS.toArray 29)).alloc o) w.heap.size 29 XS := fun o => (Row.at _ _ _ _ _ rfl rfl).alloc _
  have zb : ∀ o o2 : Obj, Below w.heap.size w ((w.alloc o).alloc o2) := fun o o2 => ((Below.refl _ _).alloc (Nat.le_refl _) _).alloc (by simp) _
  have hmc : ((mcell k).map B8) = [.int .u8 (k : Int), .int .u8 0, .int .u8 0, .int .u8 0, .int .u8 0, .int .u8 0, .int .u8 0, .int .u8 0, .int .u8 0, .int .u8 0, .int .u8 0, .int .u8 0, .int .u8 0, .int .u8 0, .int .u8 0, .int .u8 0, .int .u8 0, .int .u8 0, .int .u8 0, .int .u8 0, .int .u8 0, .int .u8 0, .int .u8 0, .int .u8 0, .int .u8 0, .int .u8 0, .int .u8 0, .int .u8 0, .int .u8 0, .int .u8 0, .int .u8 0, .int .u8 0] := by
    rcases hk with rfl | rfl | rfl <;> rfl
  have lmc : ((mcell k).map B8).length = 32 := by rw [List.length_map, mcell_len]
  have wk : IntKind.u8.wrap (k : Int) = (k : Int) := by rcases hk with rfl | rfl | rfl <;> rfl
  have wk2 : (k : Int) % 256 = (k : Int) := by omega
  go_enter Tryd.func18, Tryd.ntmps18
  go_upto_region 2 with (refine wpList_store_Row rfl 56 _ _ rfl (w.heap.size + 1) 56 0 ((List.replicate 32 (0 : By)).map B8) ((mcell k).map B8) (zm _) (by rw [lmc]; simp) rfl (by rw [hmc]; rfl) (by rw [lmc]; kernel_rfl) (B8_one _) ?_; intro w1 hr1 hs1)
  have HM1 : Hid (Row w1 (w.heap.size + 1) 56 ((mcell k).map B8)) := row_whole hr1 (by rw [lmc]; simp)
  have HX1 : Hid (Row w1 w.heap.size 29 XS) := (zx _).but hs1 (by omega)
  have HB1 : Hid (Below w.heap.size w w1) := hs1.below (zb _ _) (by omega)
  have HS0 : Hid (SI N M w1 v t qs k 0 w1) := SI.zero HTD.out HB1.out
  have hw1 : w.heap.size + 2 ≤ w1.heap.size := HM1.out.lt
  clear hr1 hs1 zm zx zb hmc HTD wk wk2
  have x1 := HX1.out
  rw [HEX.out] at x1
  have c0 := x1.cell 0 _ rfl
  clear x1
  obtain ⟨MB, hMB⟩ : ∃ MB, (mcell k).map B8 = MB := ⟨_, rfl⟩
  have HMB : Hid ((mcell k).map B8 = MB) := hMB
  have one1 : ∀ u ∈ MB, Value.oneCell' u = true := by rw [← hMB]; exact B8_one _
  rw [hMB] at HM1 lmc
  clear hMB
  go_wp2_with fail
  go_loopw [20] (fun iv wr => ∃ i : Nat, i ≤ t.pages.length ∧ iv = .int .i64 i ∧ Hid (SI N M w1 v t qs k i wr)) (fun iv _ => t.pages.length - (intOf iv).toNat)
  case atStart => exact ⟨0, by omega, rfl, HS0⟩
  case round =>
    clear HS0 c0
    obtain ⟨i, hi, rfl, HSI⟩ := hrel
    have x1 : Row wr w.heap.size 29 XS := HSI.out.kr.row HX1.out (by omega)
    rw [HEX.out] at x1
    have c0 := x1.cell 0 _ rfl
    have c1 := x1.cell 1 _ rfl
    have c2 := x1.cell 2 _ rfl
    clear x1
    by_cases hlt : i < t.pages.length
    · have y0 : (0 : Int) ≤ (i : Int) := by omega
      have y1 : (i : Int) < (t.pages.length : Int) := by omega
      obtain ⟨G, cg, hq, hG1, hG2, hg0⟩ := HQ.out i hlt
      obtain ⟨hgl, hpi⟩ := HLN.out i hlt
      have HOC : Hid (OwnC N wr (.slice (some ⟨G, 0, none⟩) (t.pages.getD i []).length cg) (t.pages.getD i [])) := HSI.out.td i _ _ (Nat.le_refl _) hq hpi
      obtain ⟨PB, hPO⟩ : ∃ PB, v.po = some ⟨PB, 0, none⟩ := by
        rcases HSI.out.pr.2 with ⟨e1, _⟩ | ⟨g', c', cur, e1, _⟩
        · injection e1 with _ e2 _; omega
        · injection e1 with e1 _ _; exact ⟨g', e1⟩
      have HPO : Hid (v.po = some ⟨PB, 0, none⟩) := hPO
      have hpr := HSI.out.pr
      rw [hPO] at hpr c0
      have cp := (owns_cell hpr i _ hq).1
      have HQI : Hid (qs[i]? = some (.slice (some ⟨G, 0, none⟩) (t.pages.getD i []).length cg)) := hq
      have HPI : Hid (t.pages[i]? = some (t.pages.getD i [])) := hpi
      clear hpr hq hpi hPO
      rw [HPO.out]
      obtain ⟨g, hg⟩ : ∃ g, t.pages.getD i [] = g := ⟨_, rfl⟩
      rw [hg] at HOC HQI HPI hg0 hgl cp
      clear hg
      obtain ⟨n, hn⟩ : ∃ n, g.length = n := ⟨_, rfl⟩
      have HGN : Hid (g.length = n) := hn
      rw [hn] at HOC HQI hg0 hgl cp
      clear hn
      have HO0 : Hid (OwnC N wr (.slice (some ⟨G, 0, none⟩) n cg) (List.replicate 0 (mcell k) ++ g.drop 0)) := by
        show OwnC _ _ _ _
        simpa using HOC.out
      have HK0 : Hid (KeptL [G] wr wr) := KeptL.refl _ _
      obtain ⟨wa, hwa⟩ : ∃ wa, wa = wr := ⟨wr, rfl⟩
      subst hwa
      have HMa : Hid (Row wa (w.heap.size + 1) 56 MB) := HSI.out.kr.row HM1.out (by omega)
      have hza : w1.heap.size ≤ wa.heap.size := HSI.out.kr.size
      clear HOC
      go_wp2_with fail
      go_loopw [30] (fun kv wr => ∃ j : Nat, j ≤ n ∧ kv = .int .i64 j ∧ Hid (OwnC N wr (.slice (some ⟨G, 0, none⟩) n cg) (List.replicate j (mcell k) ++ g.drop j)) ∧ Hid (KeptL [G] wa wr)) (fun kv _ => n - (intOf kv).toNat)
      case atStart => exact ⟨0, by omega, rfl, HO0, HK0⟩
      case round =>
        clear HO0 HK0 c0 c1 c2 cp
        obtain ⟨j, hj, rfl, HO, HK⟩ := hrel
        have hGm : G ≠ w.heap.size + 1 := by omega
        by_cases hjn : j < n
        · have z0 : (0 : Int) ≤ (j : Int) := by omega
          have z1 : (j : Int) < (n : Int) := by omega
          have rM : Row wr (w.heap.size + 1) 56 MB := HK.out.row HMa.out (by simp; omega)
          have hln : (List.replicate j (mcell k) ++ g.drop j).length = n := by rw [setTo_len g (mcell k) j (by rw [HGN.out]; omega)]; exact HGN.out
          obtain ⟨G', cG, cs, hve, hNG, hrG, hcG, hmG, hlG, htG⟩ := HO.out.row (by rw [hln]; omega)
          rw [hln] at hve
          injection hve with hve1 _ hve2
          injection hve1 with hve1
          injection hve1 with hve1
          subst hve1
          subst hve2
          have HST : Hid (∀ W, Row W G 56 (cs.take (j * 32) ++ MB ++ cs.drop (j * 32 + MB.length)) → OwnC N W (.slice (some ⟨G, 0, none⟩) n cg) (List.replicate (j + 1) (mcell k) ++ g.drop (j + 1))) := fun W hW => by
            rw [← HMB.out] at hW
            have := OwnC.store HO.out.2.2 hNG hcG hmG hlG htG (by rw [hln]; exact hjn) (mcell_len k) hW
            rw [hln, setTo_step g (mcell k) j (by rw [HGN.out]; exact hjn)] at this
            exact this
          have hsl : j * 32 + 32 ≤ cs.length := by rw [hlG]; rw [hln] at hcG; omega
          have wj : IntKind.i64.wrap ((j : Int) + 1) = (j : Int) + 1 := i64_in _ (by omega) (by omega)
          clear HO hNG hcG hmG hlG htG hln
          go_wp2_with (first | (refine wpList_load_Row rfl 56 _ rfl _ _ MB rM rfl _ Tryd.underlying56 rfl (by rw [lmc]; kernel_rfl) ?_) | (refine wpList_store_Row rfl 56 _ _ rfl G 56 (j * 32) cs MB hrG (by rw [lmc]; exact hsl) rfl rfl (by rw [lmc]; kernel_rfl) one1 ?_; intro w7 hr7 hs7))
          exact ⟨⟨j + 1, by omega, by go_num, HST.out _ hr7, HK.out.but hs7 (.inl (by simp))⟩, by simp [intOf]; omega⟩
        · obtain rfl : j = n := by omega
          have z1 : ¬ (j : Int) < (j : Int) := by omega
          have HOF : Hid (OwnC N wr (.slice (some ⟨G, 0, none⟩) j cg) (List.replicate j (mcell k))) := by
            have := HO.out
            rw [List.drop_of_length_le (by rw [HGN.out]; exact Nat.le_refl _), List.append_nil] at this
            exact this
          have HIG : Hid (IsL wr (some ⟨G, 0, none⟩) ((List.replicate j (mcell k)).flatten.map B8)) := HOF.out.isL
          have HOW : Hid (wr.ownsRow 0 56 32 (.slice (some ⟨G, 0, none⟩) j cg) j ((List.replicate j (mcell k)).flatten.map B8)) := by
            have := HOF.out.1
            rw [List.length_replicate] at this
            exact owns_base this (Nat.zero_le _)
          clear HO HOF
          go_wp2_with fail
          go_loopw [6, 8] (fun lv kv wr => ∃ (x : Nat) (ao : Option Addr) (c' : Nat), x ≤ 5 ∧ kv = .int .i64 x ∧ lv = .slice ao (j + x) c' ∧ Hid (wr.ownsRow 0 56 32 (.slice ao (j + x) c') (j + x) ((List.replicate (j + x) (mcell k)).flatten.map B8)) ∧ Hid (ao = some ⟨G, 0, none⟩ ∨ ∃ g', ao = some ⟨g', 0, none⟩ ∧ wa.heap.size ≤ g') ∧ Hid (IsL wr (some ⟨G, 0, none⟩) ((List.replicate j (mcell k)).flatten.map B8)) ∧ Hid (KeptL [G] wa wr)) (fun _ kv _ => 5 - (intOf kv).toNat)
          case atStart => exact ⟨0, some ⟨G, 0, none⟩, cg, by omega, rfl, rfl, HOW, .inl rfl, HIG, HK⟩
          case round =>
            clear HOW HIG HK
            obtain ⟨x, ao, c', hx, rfl, rfl, HOW, HLO, HIG, HK⟩ := hrel
            by_cases hx5 : x < 5
            · have z2 : (x : Int) < 5 := by omega
              have rM : Row wr (w.heap.size + 1) 56 MB := HK.out.row HMa.out (by simp; omega)
              have hm32 : MB.length = 1 * 32 := by rw [lmc]
              go_wp2_with (first | (refine wpList_load_Row rfl 56 _ rfl _ _ MB rM rfl _ Tryd.underlying56 rfl (by rw [lmc]; kernel_rfl) ?_) | (refine wpList_buildC rfl _ rfl MB lmc rfl ?_) | (at_builtin; refine wpList_append_pre el_cells rfl (.tmp 42) (.tmp 44) rfl 56 ao (j + x) c' _ MB rfl _ rfl rfl HOW.out hm32 one1 (by unfold maxLen; omega) (by omega) ?_; intro ao6 c6 w6 ho6 hap6))
              have HOW6 : Hid (w6.ownsRow 0 56 32 (.slice ao6 (j + (x + 1)) c6) (j + (x + 1)) ((List.replicate (j + (x + 1)) (mcell k)).flatten.map B8)) := by
                rw [← HMB.out] at ho6
                rw [show j + (x + 1) = j + x + 1 by omega, List.replicate_succ', List.flatten_append, List.map_append]
                show World.ownsRow _ _ _ _ _ _ _
                simpa using ho6
              have HLO6 : Hid (ao6 = some ⟨G, 0, none⟩ ∨ ∃ g', ao6 = some ⟨g', 0, none⟩ ∧ wa.heap.size ≤ g') := by
                rcases hap6.loc with e | ⟨g', e, hg'⟩
                · rw [e]; exact HLO.out
                · exact .inr ⟨g', e, Nat.le_trans HK.out.size hg'⟩
              have HK6 : Hid (KeptL [G] wa w6) := hap6.kept HK.out (fun g' hg' => by
                rcases HLO.out with e | ⟨g2, e, hg2⟩
                · rw [e] at hg'; injection hg' with hg'; injection hg' with hg'; exact .inl (by rw [hg']; simp)
                · rw [e] at hg'; injection hg' with hg'; injection hg' with hg'; exact .inr (by omega))
              have HIG6 : Hid (IsL w6 (some ⟨G, 0, none⟩) ((List.replicate j (mcell k)).flatten.map B8)) := by
                rcases HLO.out with e | ⟨g2, e, hg2⟩
                · refine .inr ⟨G, 0, rfl, fun y u hu => ?_⟩
                  rw [Nat.zero_add]
                  refine hap6.pre G e y u ?_
                  rw [← List.replicate_append_replicate, List.flatten_append, List.map_append, List.getElem?_append_left (List.getElem?_eq_some_iff.1 hu).1]
                  exact hu
                · rcases HIG.out with hnil | ⟨B, off, e2, hc2⟩
                  · exact .inl hnil
                  · injection e2 with e2
                    injection e2 with e3 e4
                    subst e3
                    subst e4
                    refine .inr ⟨G, 0, rfl, fun y u hu => ?_⟩
                    refine (World.cell?_of_block (hap6.other G (by have := HK.out.size; omega) (fun g' hg' e5 => ?_))).trans (hc2 y u hu)
                    rw [e] at hg'
                    injection hg' with hg'
                    injection hg' with hg'
                    omega
              exact ⟨⟨x + 1, ao6, c6, by omega, by go_num, by rw [Nat.add_assoc], HOW6, HLO6, HIG6, HK6⟩, by simp [intOf]; omega⟩
            · obtain rfl : x = 5 := by omega
              have z2 : ¬ ((5 : Nat) : Int) < 5 := by omega
              have HSN : Hid (SI N M w1 v t qs k (i + 1) wr) := HSI.out.next HAP.out HQI.out HPI.out ⟨hG1, hG2⟩ HNE.out HK.out (by rw [map_const, HGN.out]; exact HIG.out)
              have wi : IntKind.i64.wrap ((i : Int) + 1) = (i : Int) + 1 := i64_in _ (by omega) (by omega)
              clear HOW HLO HIG HK
              go_wp2
              exact ⟨⟨i + 1, by omega, by go_num, HSN⟩, by simp [intOf]; omega⟩
    · obtain rfl : i = t.pages.length := by omega
      have y1 : ¬ (t.pages.length : Int) < (t.pages.length : Int) := by omega
      go_wp2
      go_quiet (fail)
      have HSJ0 : Hid (SJ N M w1 v t qs k (wr.drewN nq)) := HSI.out.all.kept HAP.out (L := []) ((KeptL.refl _ _).dr ⟨nq, rfl⟩) (fun x hx => by cases hx)
      have HE0 : Hid ((wr.drewN nq).ownsRow N 3 1 (.slice v.eo t.erases.length v.ec) t.erases.length ((List.replicate 0 (-(k : Int)) ++ t.erases.drop 0).map (Value.int .i64))) := by
        show World.ownsRow _ _ _ _ _ _ _
        simpa using owns_kept HSI.out.er (fun g hg => (Below_dr (Below.refl _ wr) ⟨nq, rfl⟩).block g (owns_at HSI.out.er g hg).2)
      have HF0 : Hid ((wr.drewN nq).ownsRow N 4 1 (.slice v.bo t.blown.length v.bc) t.blown.length (t.blown.map Value.bool)) := owns_kept HSI.out.bl (fun g hg => (Below_dr (Below.refl _ wr) ⟨nq, rfl⟩).block g (owns_at HSI.out.bl g hg).2)
      have wneg : IntKind.i64.wrap (-(k : Int)) = -(k : Int) := i64_in _ (by omega) (by omega)
      clear HSI c0 c1 c2
      go_wp2_with fail
      go_loopw [53] (fun iv wr => ∃ i : Nat, i ≤ t.erases.length ∧ iv = .int .i64 i ∧ Hid (SJ N M w1 v t qs k wr) ∧ Hid (wr.ownsRow N 3 1 (.slice v.eo t.erases.length v.ec) t.erases.length ((List.replicate i (-(k : Int)) ++ t.erases.drop i).map (Value.int .i64))) ∧ Hid (wr.ownsRow N 4 1 (.slice v.bo t.blown.length v.bc) t.blown.length (t.blown.map Value.bool))) (fun iv _ => t.erases.length - (intOf iv).toNat)
      case atStart => exact ⟨0, by omega, rfl, HSJ0, HE0, HF0⟩
      case round =>
        clear HSJ0 HE0 HF0
        obtain ⟨i, hi, rfl, HSJ, HE, HF⟩ := hrel
        by_cases hlt : i < t.erases.length
        · have z0 : (0 : Int) ≤ (i : Int) := by omega
          have z1 : (i : Int) < (t.erases.length : Int) := by omega
          obtain ⟨B, hB⟩ := owns_form HE.out (by omega)
          have HBM := HUE.out B hB
          have hE := HE.out
          rw [hB] at hE
          have hget : ((List.replicate i (-(k : Int)) ++ t.erases.drop i).map (Value.int .i64))[i]? = some (.int .i64 (t.erases.getD i 0)) := by
            rw [List.getElem?_map, List.getElem?_append_right (by simp), List.length_replicate, Nat.sub_self, List.getElem?_drop, Nat.add_zero, List.getElem?_eq_getElem hlt, List.getD_eq_getElem?_getD, List.getElem?_eq_getElem hlt]; rfl
          obtain ⟨ce, fe⟩ := owns_cell hE i _ hget
          have hBN := (owns_at hE B rfl).1
          have sb := SameBut.setCell B i (.int .i64 (-(k : Int))) wr
          have HSJ2 : Hid (SJ N M w1 v t qs k (wr.setCell ⟨B, i, none⟩ (.int .i64 (-(k : Int))))) := HSJ.out.kept HAP.out (L := [B]) ((KeptL.refl _ _).but sb (.inl (by simp))) (fun x hx => by rw [List.mem_singleton.1 hx]; exact ⟨.inl hB, hBN, HBM⟩)
          have HE2 : Hid ((wr.setCell ⟨B, i, none⟩ (.int .i64 (-(k : Int)))).ownsRow N 3 1 (.slice v.eo t.erases.length v.ec) t.erases.length ((List.replicate (i + 1) (-(k : Int)) ++ t.erases.drop (i + 1)).map (Value.int .i64))) := by
            have := owns_set hE hlt (.int .i64 (-(k : Int)))
            rw [hB, ← setTo_step1 t.erases (-(k : Int)) i hlt, List.map_set]
            exact this
          have HF2 : Hid ((wr.setCell ⟨B, i, none⟩ (.int .i64 (-(k : Int)))).ownsRow N 4 1 (.slice v.bo t.blown.length v.bc) t.blown.length (t.blown.map Value.bool)) := owns_kept HF.out fun b hb => sb.block b (fun e => HAP.out.eb B hB (by rw [← e]; exact hb))
          have HBV : Hid (v.eo = some ⟨B, 0, none⟩) := hB
          have wi : IntKind.i64.wrap ((i : Int) + 1) = (i : Int) + 1 := i64_in _ (by omega) (by omega)
          rw [hB]
          clear HSJ HE HF hE hB hget sb
          generalize t.erases.getD i 0 = EV at *
          go_wp2
          exact ⟨⟨i + 1, by omega, by go_num, HSJ2, by rw [← HBV.out]; exact HE2, HF2⟩, by simp [intOf]; omega⟩
        · obtain rfl : i = t.erases.length := by omega
          have z1 : ¬ (t.erases.length : Int) < (t.erases.length : Int) := by omega
          have HE1 : Hid (wr.ownsRow N 3 1 (.slice v.eo t.erases.length v.ec) t.erases.length ((List.replicate t.erases.length (-(k : Int))).map (Value.int .i64))) := by
            have := HE.out
            rw [List.drop_length, List.append_nil] at this
            exact this
          have HF1 : Hid (wr.ownsRow N 4 1 (.slice v.bo t.blown.length v.bc) t.blown.length ((List.replicate 0 (decide (k % 2 = 0)) ++ t.blown.drop 0).map Value.bool)) := by
            show World.ownsRow _ _ _ _ _ _ _
            simpa using HF.out
          clear HE HF
          obtain ⟨b0, hb0⟩ : ∃ b0, decide (k % 2 = 0) = b0 := ⟨_, rfl⟩
          have HBB : Hid (decide (k % 2 = 0) = b0) := hb0
          rw [hb0] at HF1
          have q1 : Int.tmod (k : Int) 2 = ((k % 2 : Nat) : Int) := rfl
          have q2 : (((k % 2 : Nat) : Int) == 0) = b0 := by rw [← hb0]; rcases hk with rfl | rfl | rfl <;> rfl
          have q3 : (k : Int) % 2 = ((k % 2 : Nat) : Int) := by omega
          have q4 : IntKind.i64.wrap ((k % 2 : Nat) : Int) = ((k % 2 : Nat) : Int) := i64_in _ (by omega) (by omega)
          clear hb0
          obtain ⟨K2, hK2⟩ : ∃ K2, k % 2 = K2 := ⟨_, rfl⟩
          rw [hK2] at q1 q2 q3 q4
          clear hK2
          go_wp2_with fail
          go_loopw [64] (fun iv wr => ∃ i : Nat, i ≤ t.blown.length ∧ iv = .int .i64 i ∧ Hid (SJ N M w1 v t qs k wr) ∧ Hid (wr.ownsRow N 3 1 (.slice v.eo t.erases.length v.ec) t.erases.length ((List.replicate t.erases.length (-(k : Int))).map (Value.int .i64))) ∧ Hid (wr.ownsRow N 4 1 (.slice v.bo t.blown.length v.bc) t.blown.length ((List.replicate i b0 ++ t.blown.drop i).map Value.bool))) (fun iv _ => t.blown.length - (intOf iv).toNat)
          case atStart => exact ⟨0, by omega, rfl, HSJ, HE1, HF1⟩
          case round =>
            clear HSJ HE1 HF1
            obtain ⟨i, hi, rfl, HSJ, HE, HF⟩ := hrel
            by_cases hlt : i < t.blown.length
            · have z0 : (0 : Int) ≤ (i : Int) := by omega
              have z1 : (i : Int) < (t.blown.length : Int) := by omega
              obtain ⟨B, hB⟩ := owns_form HF.out (by omega)
              have HBM := HUB.out B hB
              have hF := HF.out
              rw [hB] at hF
              have hget : ((List.replicate i b0 ++ t.blown.drop i).map Value.bool)[i]? = some (.bool (t.blown.getD i false)) := by
                rw [List.getElem?_map, List.getElem?_append_right (by simp), List.length_replicate, Nat.sub_self, List.getElem?_drop, Nat.add_zero, List.getElem?_eq_getElem hlt, List.getD_eq_getElem?_getD, List.getElem?_eq_getElem hlt]; rfl
              obtain ⟨ce, fe⟩ := owns_cell hF i _ hget
              have hBN := (owns_at hF B rfl).1
              have sb := SameBut.setCell B i (.bool b0) wr
              have HSJ2 : Hid (SJ N M w1 v t qs k (wr.setCell ⟨B, i, none⟩ (.bool b0))) := HSJ.out.kept HAP.out (L := [B]) ((KeptL.refl _ _).but sb (.inl (by simp))) (fun x hx => by rw [List.mem_singleton.1 hx]; exact ⟨.inr hB, hBN, HBM⟩)
              have HF2 : Hid ((wr.setCell ⟨B, i, none⟩ (.bool b0)).ownsRow N 4 1 (.slice v.bo t.blown.length v.bc) t.blown.length ((List.replicate (i + 1) b0 ++ t.blown.drop (i + 1)).map Value.bool)) := by
                have := owns_set hF hlt (.bool b0)
                rw [hB, ← setTo_step1 t.blown b0 i hlt, List.map_set]
                exact this
              have HE2 : Hid ((wr.setCell ⟨B, i, none⟩ (.bool b0)).ownsRow N 3 1 (.slice v.eo t.erases.length v.ec) t.erases.length ((List.replicate t.erases.length (-(k : Int))).map (Value.int .i64))) := owns_kept HE.out fun b hb => sb.block b (fun e => HAP.out.eb b hb (by rw [e]; exact hB))
              have HBV : Hid (v.bo = some ⟨B, 0, none⟩) := hB
              have wi : IntKind.i64.wrap ((i : Int) + 1) = (i : Int) + 1 := i64_in _ (by omega) (by omega)
              rw [hB]
              clear HSJ HE HF hF hB hget sb
              generalize t.blown.getD i false = EV at *
              go_wp2
              exact ⟨⟨i + 1, by omega, by go_num, HSJ2, HE2, by rw [← HBV.out]; exact HF2⟩, by simp [intOf]; omega⟩
            · obtain rfl : i = t.blown.length := by omega
              have z1 : ¬ (t.blown.length : Int) < (t.blown.length : Int) := by omega
              have HFo : Hid (wr.ownsRow N 4 1 (.slice v.bo t.blown.length v.bc) t.blown.length ((List.replicate t.blown.length b0).map Value.bool)) := by
                have := HF.out
                rw [List.drop_length, List.append_nil] at this
                exact this
              have HLE : Hid (v.eo = none ∨ ∃ B, v.eo = some ⟨B, 0, none⟩) := owns_form' HE.out
              have HLB : Hid (v.bo = none ∨ ∃ B, v.bo = some ⟨B, 0, none⟩) := owns_form' HFo.out
              have HUE2 : Hid (∀ B, v.eo = some ⟨B, 0, none⟩ → N ≤ B ∧ B < M) := fun B hB => ⟨(owns_at HE.out B hB).1, HUE.out B hB⟩
              have HUB2 : Hid (∀ B, v.bo = some ⟨B, 0, none⟩ → N ≤ B ∧ B < M) := fun B hB => ⟨(owns_at HFo.out B hB).1, HUB.out B hB⟩
              have HEo : Hid (wr.ownsRow 0 3 1 (.slice v.eo (t.erases.length + 0) v.ec) (t.erases.length + 0) ((List.replicate (t.erases.length + 0) (-(k : Int))).map (Value.int .i64))) := owns_base HE.out (Nat.zero_le _)
              have HFp : Hid (wr.ownsRow 0 4 1 (.slice v.bo (t.blown.length + 0) v.bc) (t.blown.length + 0) ((List.replicate (t.blown.length + 0) b0).map Value.bool)) := owns_base HFo.out (Nat.zero_le _)
              have HIE : Hid (IsL wr v.eo ((List.replicate t.erases.length (-(k : Int))).map (Value.int .i64))) := owns_isL HE.out
              have HIB : Hid (IsL wr v.bo ((List.replicate t.blown.length b0).map Value.bool)) := owns_isL HFo.out
              clear HE HF HFo
              go_wp2_with fail
              go_loopw [9, 10, 13] (fun ev bv kv wr => ∃ (x : Nat) (ae ab : Option Addr) (ce cb : Nat), x ≤ 9 ∧ kv = .int .i64 x ∧ ev = .slice ae (t.erases.length + x) ce ∧ bv = .slice ab (t.blown.length + x) cb ∧ Hid (SJ N M w1 v t qs k wr) ∧ Hid (wr.ownsRow 0 3 1 (.slice ae (t.erases.length + x) ce) (t.erases.length + x) ((List.replicate (t.erases.length + x) (-(k : Int))).map (Value.int .i64))) ∧ Hid (wr.ownsRow 0 4 1 (.slice ab (t.blown.length + x) cb) (t.blown.length + x) ((List.replicate (t.blown.length + x) b0).map Value.bool)) ∧ Hid (ae = v.eo ∨ ∃ g', ae = some ⟨g', 0, none⟩ ∧ w1.heap.size ≤ g') ∧ Hid (ab = v.bo ∨ ∃ g', ab = some ⟨g', 0, none⟩ ∧ w1.heap.size ≤ g') ∧ Hid (IsL wr v.eo ((List.replicate t.erases.length (-(k : Int))).map (Value.int .i64))) ∧ Hid (IsL wr v.bo ((List.replicate t.blown.length b0).map Value.bool))) (fun _ _ kv _ => 9 - (intOf kv).toNat)
              case atStart => exact ⟨0, v.eo, v.bo, v.ec, v.bc, by omega, rfl, rfl, rfl, HSJ, HEo, HFp, .inl rfl, .inl rfl, HIE, HIB⟩
              case round =>
                clear HSJ HEo HFp HIE HIB
                obtain ⟨x, ae, ab, ce, cb, hx, rfl, rfl, rfl, HSJ, HE, HF, HLe, HLb, HIE, HIB⟩ := hrel
                by_cases hx9 : x < 9
                · have z2 : (x : Int) < 9 := by omega
                  have wx : IntKind.i64.wrap ((x : Int) + 1) = (x : Int) + 1 := i64_in _ (by omega) (by omega)
                  go_wp2_with (first | (at_builtin; refine wpList_append_pre el_ints rfl (.tmp 78) (.tmp 81) rfl 3 ae (t.erases.length + x) ce _ [.int .i64 (-(k : Int))] rfl _ rfl rfl HE.out rfl (by intro u hu; simp at hu; subst hu; rfl) (by unfold maxLen; omega) (by omega) ?_; intro ae6 ce6 w6 hoe hape; have hF6 := owns_kept HF.out (fun b hb => hape.other b (owns_at HF.out b hb).2 (fun g hg e => types_apart HE.out HF.out (by decide) g hg (by rw [← e]; exact hb)))) | (at_builtin; refine wpList_append_pre el_bools rfl (.tmp 83) (.tmp 87) rfl 4 ab (t.blown.length + x) cb _ [.bool b0] rfl _ rfl rfl hF6 rfl (by intro u hu; simp at hu; subst hu; rfl) (by unfold maxLen; omega) (by omega) ?_; intro ab6 cb6 w7 hob hapb))
                  have hs1 : w1.heap.size ≤ wr.heap.size := HSJ.out.kr.size
                  have hneE : ∀ b, b < w1.heap.size → v.eo ≠ some ⟨b, 0, none⟩ → ∀ g, ae = some ⟨g, 0, none⟩ → b ≠ g := fun b hb h1 g hg e => by
                    subst e
                    rcases HLe.out with e | ⟨g', e, hg'⟩
                    · exact h1 (by rw [← e]; exact hg)
                    · rw [e] at hg; injection hg with hg; injection hg with hg; omega
                  have hneB : ∀ b, b < w1.heap.size → v.bo ≠ some ⟨b, 0, none⟩ → ∀ g, ab = some ⟨g, 0, none⟩ → b ≠ g := fun b hb h1 g hg e => by
                    subst e
                    rcases HLb.out with e | ⟨g', e, hg'⟩
                    · exact h1 (by rw [← e]; exact hg)
                    · rw [e] at hg; injection hg with hg; injection hg with hg; omega
                  have hsj6 : SJ N M w1 v t qs k w6 := HSJ.out.app HAP.out (by omega) hape.os hape.tape hape.output hape.size (fun b hb h1 h2 => hape.other b (by omega) (hneE b hb h1)) HUP.out HUE2.out HUB2.out HUQ.out
                  have hsj7 : SJ N M w1 v t qs k w7 := hsj6.app HAP.out (by omega) hapb.os hapb.tape hapb.output hapb.size (fun b hb h1 h2 => hapb.other b (by have := hape.size; omega) (hneB b hb h2)) HUP.out HUE2.out HUB2.out HUQ.out
                  have hoe7 := owns_kept hoe (fun b hb => hapb.other b (owns_at hoe b hb).2 (fun g hg e => types_apart hoe hF6 (by decide) b hb (by rw [e]; exact hg)))
                  have hie6 : IsL w6 v.eo ((List.replicate t.erases.length (-(k : Int))).map (Value.int .i64)) := by
                    rcases HLe.out with e | ⟨g', e, hg'⟩
                    · rcases HLE.out with e2 | ⟨B, e2⟩
                      · rcases HIE.out with h0 | ⟨B', off, e3, _⟩
                        · exact .inl h0
                        · rw [e2] at e3; cases e3
                      · rw [e2]
                        refine .inr ⟨B, 0, rfl, fun y u hu => ?_⟩
                        rw [Nat.zero_add]
                        refine hape.pre B (by rw [e]; exact e2) y u ?_
                        rw [← List.replicate_append_replicate, List.map_append, List.getElem?_append_left (List.getElem?_eq_some_iff.1 hu).1]
                        exact hu
                    · refine HIE.out.apart HLE.out (fun B hB hl => hape.other B hl (fun g hg e2 => ?_))
                      rw [e] at hg
                      injection hg with hg
                      injection hg with hg
                      have := (HUE2.out B hB).2
                      omega
                  have hie7 : IsL w7 v.eo ((List.replicate t.erases.length (-(k : Int))).map (Value.int .i64)) := hie6.apart HLE.out (fun B hB hl => hapb.other B hl (fun g hg e2 => hneB B (by have := (HUE2.out B hB).2; omega) (HAP.out.eb B hB) g hg e2))
                  have hib6 : IsL w6 v.bo ((List.replicate t.blown.length b0).map Value.bool) := HIB.out.apart HLB.out (fun B hB hl => hape.other B hl (fun g hg e2 => hneE B (by have := (HUB2.out B hB).2; omega) (fun e3 => HAP.out.eb B e3 hB) g hg e2))
                  have hib7 : IsL w7 v.bo ((List.replicate t.blown.length b0).map Value.bool) := by
                    rcases HLb.out with e | ⟨g', e, hg'⟩
                    · rcases HLB.out with e2 | ⟨B, e2⟩
                      · rcases hib6 with h0 | ⟨B', off, e3, _⟩
                        · exact .inl h0
                        · rw [e2] at e3; cases e3
                      · rw [e2]
                        refine .inr ⟨B, 0, rfl, fun y u hu => ?_⟩
                        rw [Nat.zero_add]
                        refine hapb.pre B (by rw [e]; exact e2) y u ?_
                        rw [← List.replicate_append_replicate, List.map_append, List.getElem?_append_left (List.getElem?_eq_some_iff.1 hu).1]
                        exact hu
                    · refine hib6.apart HLB.out (fun B hB hl => hapb.other B hl (fun g hg e2 => ?_))
                      rw [e] at hg
                      injection hg with hg
                      injection hg with hg
                      have := (HUB2.out B hB).2
                      omega
                  refine ⟨⟨x + 1, ae6, ab6, ce6, cb6, by omega, by go_num, by rw [Nat.add_assoc], by rw [Nat.add_assoc], hsj7, ?_, ?_, ?_, ?_, hie7, hib7⟩, by simp [intOf]; omega⟩
                  · rw [← Nat.add_assoc, List.replicate_succ', List.map_append]; exact hoe7
                  · rw [← Nat.add_assoc, List.replicate_succ', List.map_append]; exact hob
                  · rcases hape.loc with e | ⟨g', e, hg'⟩
                    · rw [e]; exact HLe.out
                    · exact .inr ⟨g', e, by omega⟩
                  · rcases hapb.loc with e | ⟨g', e, hg'⟩
                    · rw [e]; exact HLb.out
                    · exact .inr ⟨g', e, by have := hape.size; omega⟩
                · obtain rfl : x = 9 := by omega
                  have z2 : ¬ ((9 : Nat) : Int) < 9 := by omega
                  have HVW : Hid (Mkd N M wr v t qs k) := ⟨HSJ.out.pr, HSJ.out.dn, (by show IsL wr v.eo ((t.erases.map fun _ => -(k : Int)).map _); rw [map_const]; exact HIE.out), (by show IsL wr v.bo ((t.blown.map fun _ => decide (k % 2 = 0)).map _); rw [map_const, HBB.out]; exact HIB.out), fun i hi => by obtain ⟨G, c, h1, _⟩ := HQ.out i hi; exact ⟨G, c, h1⟩, HUQN.out, HLE.out.imp id (fun ⟨B, e⟩ => ⟨B, e, HUE2.out B e⟩), HLB.out.imp id (fun ⟨B, e⟩ => ⟨B, e, HUB2.out B e⟩), HUP.out⟩
                  have HKR : Hid (KeptR N M w wr) := (below_toR HB1.out (Nat.le_refl _)).trans HSJ.out.kr
                  clear HSJ HE HF HLe HLb HIE HIB
                  go_wp2
                  go_end0
                  exact ⟨rfl, HVW.out, HKR.out⟩
end Go.Proofs.YtgpnbiaghokjkaaDoor
