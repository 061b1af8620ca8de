
import Derived.Test.YtjooabgjkjnhhaaGreatDoorT24J
import Derived.Test.YtjooabgjkjnhhaaGreatDoorI11Inv
/-! The reference's token: Same, Few; the law's caveat. -/
namespace Go.Proofs.YtjooabgjkjnhhaaGreatDoor
open Go.RowKit
set_option linter.unusedVariables false
set_option linter.unusedSimpArgs false
set_option maxRecDepth 100000

theorem step_load_rng {ops : Array Oper} {op : Oper} {a : Act} {w : World} {K : Act → World → Prop} {Q : Exit → Act → World → Prop} {X : Prop} (hw : Region.wanted op (yielded ops a.tmps) = true) (ty : TypeId) (x : Operand) (ho : op.op = .load ty x)
    (g o : Nat) (cs : List Value) (hr : w.rangeAt g o cs) (hx : a.eval x = .pointer (some ⟨g, o, none⟩)) (d : TypeDesc) (hu : Tryz.prog.underlying ty = some d) (hd : d.isRow = true) (hi : (Tryz.prog.info? ty).map (·.size) = some cs.length)
    (h : K (a.put op.dst (.agg cs.toArray)) w) : if Region.wanted op (yielded ops a.tmps) = true then Oper.wp Tryz.prog op a w K Q else X := by
  rw [if_pos hw]
  exact wp_load_mid ty x ho g o hx _ d hr hu hd hi h
structure SM6 (W1 : World) (W0 : World) (sz B off B2 off2 m lc mc i0 : Nat) (D1 D2 : List Value) (q : Bool) (L : Nat → Bool) (x43 x44 x45 x46 x47 x48 x49 x50 x51 x52 x53 : Value) (W : World) : Prop where
  x : Dr W0 W
  p0 : L 0 = true → x43 = .pointer (some ⟨sz, 2, none⟩)
  p1 : L 1 = true → x44 = .slice (some ⟨B, off, none⟩) m lc
  p2 : L 2 = true → x45 = .int .i64 (i0 : Int)
  p3 : L 3 = true → x46 = .pointer (some ⟨B, off + i0 * 5, none⟩)
  p4 : L 4 = true → x47 = .agg D1.toArray
  p5 : L 5 = true → x48 = .pointer (some ⟨sz + 1, 2, none⟩)
  p6 : L 6 = true → x49 = .slice (some ⟨B2, off2, none⟩) m mc
  p7 : L 7 = true → x50 = .int .i64 (i0 : Int)
  p8 : L 8 = true → x51 = .pointer (some ⟨B2, off2 + i0 * 5, none⟩)
  p9 : L 9 = true → x52 = .agg D2.toArray
  p10 : L 10 = true → x53 = .bool (!q)
section
variable {W1 : World} {W0 : World} {sz B off B2 off2 m lc mc i0 : Nat} {D1 D2 : List Value} {q : Bool} {L : Nat → Bool} {x43 x44 x45 x46 x47 x48 x49 x50 x51 x52 x53 : Value} {W W2 : World}
theorem SM6.s0 (h : SM6 W1 W0 sz B off B2 off2 m lc mc i0 D1 D2 q L x43 x44 x45 x46 x47 x48 x49 x50 x51 x52 x53 W) : SM6 W1 W0 sz B off B2 off2 m lc mc i0 D1 D2 q (upd L 0) (.pointer (some ⟨sz, 2, none⟩)) x44 x45 x46 x47 x48 x49 x50 x51 x52 x53 W :=
  ⟨h.x, fun _ => rfl, h.p1, h.p2, h.p3, h.p4, h.p5, h.p6, h.p7, h.p8, h.p9, h.p10⟩
theorem SM6.s1 (h : SM6 W1 W0 sz B off B2 off2 m lc mc i0 D1 D2 q L x43 x44 x45 x46 x47 x48 x49 x50 x51 x52 x53 W) : SM6 W1 W0 sz B off B2 off2 m lc mc i0 D1 D2 q (upd L 1) x43 (.slice (some ⟨B, off, none⟩) m lc) x45 x46 x47 x48 x49 x50 x51 x52 x53 W :=
  ⟨h.x, h.p0, fun _ => rfl, h.p2, h.p3, h.p4, h.p5, h.p6, h.p7, h.p8, h.p9, h.p10⟩
end
@[reducible] def ISM6 (W1 : World) (W0 : World) (sz B off B2 off2 m lc mc i0 : Nat) (D1 D2 : List Value) (q : Bool) (y0 y1 y2 y3 y4 y5 y6 y7 y8 y9 y10 y11 y12 y13 y14 y15 y16 y17 y18 y19 y20 y21 y22 y23 y24 y25 y26 y27 y28 y29 y30 y31 y32 y33 y34 y35 y36 y37 y38 y39 y40 y41 y42 : Value) : (Nat → Bool) → Act → World → Prop := fun L a W => ∃ x43 x44 x45 x46 x47 x48 x49 x50 x51 x52 x53, a = ⟨#[y0, y1, y2, y3, y4, y5, y6, y7, y8, y9, y10, y11, y12, y13, y14, y15, y16, y17, y18, y19, y20, y21, y22, y23, y24, y25, y26, y27, y28, y29, y30, y31, y32, y33, y34, y35, y36, y37, y38, y39, y40, y41, y42, x43, x44, x45, x46, x47, x48, x49, x50, x51, x52, x53], []⟩ ∧ SM6 W1 W0 sz B off B2 off2 m lc mc i0 D1 D2 q L x43 x44 x45 x46 x47 x48 x49 x50 x51 x52 x53 W
theorem tk_eq {a b : Tk} (h1 : a.key = b.key) (h2 : a.id = b.id) (h3 : a.tag = b.tag) (h4 : a.cs = b.cs) : a = b := by cases a; cases b; simp_all
set_option maxHeartbeats 4000000 in
theorem r24Same_any (a b : Tk) (io : Option Addr) (ic : Nat) (lo : Option Addr) (lc : Nat) (jo : Option Addr) (jc : Nat) (mo : Option Addr) (mc : Nat) (w : World) (ha : TkV w a io ic lo lc) (hb : TkV w b jo jc mo mc) (hla : a.cs.length ≤ 140737488355328) (v : Bool) (hv : v = true ↔ a = b) :
    Calls Tryz.prog 12 #[.agg (tkCells a io ic lo lc).toArray, .agg (tkCells b jo jc mo mc).toArray] w fun e w' => e = .returned (.bool v) ∧ Below w.heap.size w w' := by
  have K1 : Hid True := trivial
  have K2 : Hid True := trivial
  obtain ⟨T1, hT1⟩ : ∃ T, T = tkCells a io ic lo lc := ⟨_, rfl⟩
  obtain ⟨T2, hT2⟩ : ∃ T, T = tkCells b jo jc mo mc := ⟨_, rfl⟩
  have g0 : T1[0]? = some (.int .i64 a.key) := by rw [hT1]; rfl
  have g1 : T1[1]? = some (.slice io a.id.length ic) := by rw [hT1]; rfl
  have g2 : T1[2]? = some (.slice lo a.cs.length lc) := by rw [hT1]; rfl
  have k0 : T2[0]? = some (.int .i64 b.key) := by rw [hT2]; rfl
  have k1 : T2[1]? = some (.slice jo b.id.length jc) := by rw [hT2]; rfl
  have k2 : T2[2]? = some (.slice mo b.cs.length mc) := by rw [hT2]; rfl
  have P1 : Hid ((T1.drop 3).take 32 = a.tag.map B8) := by rw [hT1]; exact tkC_tagpart _ _ _ _ _ _ _ _ ha.tag
  have P2 : Hid ((T2.drop 3).take 32 = b.tag.map B8) := by rw [hT2]; exact tkC_tagpart _ _ _ _ _ _ _ _ hb.tag
  rw [← hT1, ← hT2]
  obtain ⟨W1, hW1⟩ : ∃ W1, W1 = (w.alloc (.cells T1.toArray 28)).alloc (.cells T2.toArray 28) := ⟨_, rfl⟩
  have r1 : Row W1 w.heap.size 28 T1 := by rw [hW1]; exact (Row.at w _ _ _ _ rfl rfl).alloc _
  have r2 : Row W1 (w.heap.size + 1) 28 T2 := by rw [hW1]; exact Row.at _ _ _ _ _ (by simp) rfl
  have b1 : Below w.heap.size w W1 := by rw [hW1]; exact ((Below.refl _ _).alloc (Nat.le_refl _) _).alloc (by simp) _
  have HB : Hid (Below w.heap.size w W1) := b1
  have a0 := r1.cell 0 _ g0; have a1 := r1.cell 1 _ g1; have a2 := r1.cell 2 _ g2
  have c0 := r2.cell 0 _ k0; have c1 := r2.cell 1 _ k1; have c2 := r2.cell 2 _ k2
  have va := ha.keep b1
  have vb := hb.keep b1
  have cva := conv_bytes W1 io a.id.length ic a.id rfl va.id
  have cvb := conv_bytes W1 jo b.id.length jc b.id rfl vb.id
  have HT1 : Hid ((a.tag.map B8).length = 32) := by show _ = _; rw [List.length_map, ha.tag]
  have HT2 : Hid ((b.tag.map B8).length = 32) := by show _ = _; rw [List.length_map, hb.tag]
  have VA : Hid (TkV W1 a io ic lo lc) := va
  have VB : Hid (TkV W1 b jo jc mo mc) := vb
  have HV : Hid (v = true ↔ a = b) := hv
  have HLA : Hid (a.cs.length ≤ 140737488355328) := hla
  have QT := eq_any a.tag b.tag ha.tag hb.tag
  clear ha hb hT1 hT2 g0 g1 g2 k0 k1 k2 b1 va vb hv hla
  have NO : Hid (a ≠ b → v = false) := fun h => by
    cases v
    · rfl
    · exact absurd (HV.out.1 rfl) h
  by_cases h1 : a.key = b.key
  · by_cases h2 : a.id = b.id
    · by_cases h3 : a.tag = b.tag
      · by_cases h4 : a.cs.length = b.cs.length
        · -- the caveats, one by one
          have qt := fun W => QT true (by simp [h3]) W
          have HV2 : Hid (a.cs = b.cs → v = true) := fun h => HV.out.2 (tk_eq h1 h2 h3 h)
          have e1 : (a.key != b.key) = false := by rw [h1]; simp
          have e2 : ((strOf a.id).toList == (strOf b.id).toList) = true := by rw [h2]; simp
          have e4 : ((a.cs.length : Int) != (b.cs.length : Int)) = false := by rw [h4]; simp
          have e5 : (a.cs.length != b.cs.length) = false := by rw [h4]; simp
          have H4 : Hid (a.cs.length = b.cs.length) := h4
          have e1b : (a.key == b.key) = true := by rw [h1]; simp
          have e4b : (a.cs.length == b.cs.length) = true := by rw [h4]; simp
          have e4c : ((a.cs.length : Int) == (b.cs.length : Int)) = true := by rw [h4]; simp
          clear h1 h2 h3 h4 QT NO
          generalize a.key = ka at *
          generalize b.key = kb at *
          generalize strOf a.id = Sa at *
          generalize strOf b.id = Sb at *
          obtain ⟨m, hm⟩ : ∃ m, a.cs.length = m := ⟨_, rfl⟩
          have HM : Hid (a.cs.length = m) := hm
          rw [hm] at a2 e4 e5 e4b e4c
          have c2' : W1.cell? ⟨w.heap.size + 1, 2, none⟩ = some (.slice mo m mc) := by rw [c2, ← H4.out, hm]
          rw [← H4.out, hm] at e4 e5 e4b e4c
          clear c2 hm
          go_enter Tryz.func12, Tryz.ntmps12
          go_wp2_with (first
            | (rw [← hW1]; clear hW1)
            | (have hz := K1; clear hz; refine wpList_load_part_g ?_ 26 (.tmp 21) rfl w.heap.size 3 28 32 T1 r1 rfl _ (a.tag.map B8) P1.out HT1.out Tryz.underlying26 rfl (by kernel_rfl) ?_; (· rfl); clear K1)
            | (have hz := K2; clear hz; refine wpList_load_part_g ?_ 26 (.tmp 23) rfl (w.heap.size + 1) 3 28 32 T2 r2 rfl _ (b.tag.map B8) P2.out HT2.out Tryz.underlying26 rfl (by kernel_rfl) ?_; (· rfl); clear K2))
          clear qt cva cvb r1 r2
          go_loopw [5] (fun iv wr => ∃ i : Nat, i ≤ m ∧ iv = .int .i64 (i : Int) ∧ Hid (Dr W1 wr) ∧ Hid (a.cs.take i = b.cs.take i)) (fun iv _ => m - (intOf iv).toNat)
          case atStart => exact ⟨0, by omega, rfl, Dr.refl _, rfl⟩
          case round =>
            obtain ⟨i, hi, rfl, HD, HE⟩ := hrel
            obtain ⟨nd, rfl⟩ := HD.out
            have hz0 : ∀ p : Addr, (W1.drewN nd).cell? p = W1.cell? p := fun _ => rfl
            have x2 : (W1.drewN nd).cell? ⟨w.heap.size, 2, none⟩ = some (.slice lo m lc) := a2
            have x3 : (W1.drewN nd).cell? ⟨w.heap.size + 1, 2, none⟩ = some (.slice mo m mc) := c2'
            clear hz0
            by_cases hlt : i < m
            · have y0 : (0 : Int) ≤ (i : Int) := by omega
              have y1 : (i : Int) < (m : Int) := by omega
              have z1 : IntKind.i64.wrap ((i : Int) + 1) = (i : Int) + 1 := i64_in _ (by omega) (by have := HLA.out; have := HM.out; omega)
              obtain ⟨c, hc⟩ : ∃ c, a.cs[i]? = some c := ⟨_, List.getElem?_eq_getElem (by rw [HM.out]; exact hlt)⟩
              obtain ⟨d, hd⟩ : ∃ d, b.cs[i]? = some d := ⟨_, List.getElem?_eq_getElem (by rw [← H4.out, HM.out]; exact hlt)⟩
              obtain ⟨B, off, hlo, _, hr1⟩ := VA.out.cs i c hc
              obtain ⟨B2, off2, hmo, _, hr2⟩ := VB.out.cs i d hd
              subst hlo
              subst hmo
              have R1 : Hid (∀ k, (W1.drewN k).rangeAt B (off + i * 5) (cvC c)) := fun _ => hr1
              have R2 : Hid (∀ k, (W1.drewN k).rangeAt B2 (off2 + i * 5) (cvC d)) := fun _ => hr2
              have HLT : Hid (i < m) := hlt
              obtain ⟨q, hq⟩ : ∃ q : Bool, (q = true ↔ c = d) := by
                by_cases h : c = d
                · exact ⟨true, by simp [h]⟩
                · exact ⟨false, by simp [h]⟩
              have EQ : ∀ W, (Op.equalIn 10000 50 (.agg (cvC c).toArray) (.agg (cvC d).toArray)).run Tryz.prog W = .ok q W := fun W => eqC_any c d (VA.out.ok c (List.mem_of_getElem? hc)) (VB.out.ok d (List.mem_of_getElem? hd)) q hq W
              have HQ : Hid ((q = true → a.cs.take (i + 1) = b.cs.take (i + 1)) ∧ (q = false → v = false)) := by
                refine ⟨fun h => ?_, fun h => ?_⟩
                · rw [List.take_add_one, List.take_add_one, HE.out, hc, hd, hq.1 h]
                · cases v
                  · rfl
                  · exfalso
                    have h9 := HV.out.1 rfl
                    rw [h9] at hc
                    rw [hc] at hd
                    injection hd with hd
                    have := hq.2 hd
                    rw [h] at this
                    cases this
              have L1 : Hid ((cvC c).length = 5) := rfl
              have L2 : Hid ((cvC d).length = 5) := rfl
              clear hr1 hr2 hq hc hd HE
              generalize cvC c = D1 at *
              generalize cvC d = D2 at *
              have HA0 : Hid (∀ W, Dr W1 W → W.cell? ⟨w.heap.size, 2, none⟩ = some (.slice (some ⟨B, off, none⟩) m lc)) := fun W hW => by obtain ⟨k, rfl⟩ := hW; exact a2
              have HC0 : Hid (∀ W, Dr W1 W → W.cell? ⟨w.heap.size + 1, 2, none⟩ = some (.slice (some ⟨B2, off2, none⟩) m mc)) := fun W hW => by obtain ⟨k, rfl⟩ := hW; exact c2'
              have S1 : Hid (∀ W, Dr W1 W → W.rangeAt B (off + i * 5) D1) := fun W hW => by obtain ⟨k, rfl⟩ := hW; exact R1.out k
              have S2 : Hid (∀ W, Dr W1 W → W.rangeAt B2 (off2 + i * 5) D2) := fun W hW => by obtain ⟨k, rfl⟩ := hW; exact R2.out k
              have hwr : Dr W1 (W1.drewN nd) := ⟨_, rfl⟩
              generalize W1.drewN nd = W2 at *
              have HW2 : Hid (Dr W1 W2) := hwr
              clear hwr
              go_upto_region 6 with fail
              refine wp_region_inv (ISM6 W2 W1 w.heap.size B off B2 off2 m lc mc i D1 D2 q _ _ _ _ _ _ _ _ _ _ _ _ _ _ _ _ _ _ _ _ _ _ _ _ _ _ _ _ _ _ _ _ _ _ _ _ _ _ _ _ _ _ _) (by kernel_rfl) (by kernel_rfl) ⟨_, _, _, _, _, _, _, _, _, _, _, rfl, ⟨HW2.out.drewN 1, fun k => (by cases k), fun k => (by cases k), fun k => (by cases k), fun k => (by cases k), fun k => (by cases k), fun k => (by cases k), fun k => (by cases k), fun k => (by cases k), fun k => (by cases k), fun k => (by cases k), fun k => (by cases k)⟩⟩ ?_ ?_
              · refine .cons ?_ (.cons ?_ (.cons ?_ (.cons ?_ (.cons ?_ (.cons ?_ (.cons ?_ (.cons ?_ (.cons ?_ (.cons ?_ (.cons ?_ .nil))))))))))
                all_goals (rintro L _ W ⟨x43, x44, x45, x46, x47, x48, x49, x50, x51, x52, x53, rfl, hI⟩ hL hd K hK)
                · rw [if_pos (by rfl)]
                  go_simp
                  exact hK.out _ _ ⟨_, _, _, _, _, _, _, _, _, _, _, rfl, { hI with p0 := fun _ => rfl }⟩
                · obtain rfl := hI.p0 (hd 0 (by decide))
                  rw [if_pos (by rfl)]
                  have hc := HA0.out _ hI.x
                  go_simp
                  exact hK.out _ _ ⟨_, _, _, _, _, _, _, _, _, _, _, rfl, { hI with p1 := fun _ => rfl }⟩
                · rw [if_pos (by rfl)]
                  go_simp
                  exact hK.out _ _ ⟨_, _, _, _, _, _, _, _, _, _, _, rfl, { hI with p2 := fun _ => rfl }⟩
                · obtain rfl := hI.p1 (hd 1 (by decide))
                  obtain rfl := hI.p2 (hd 2 (by decide))
                  rw [if_pos (by rfl)]
                  go_simp
                  exact hK.out _ _ ⟨_, _, _, _, _, _, _, _, _, _, _, rfl, { hI with p3 := fun _ => rfl }⟩
                · obtain rfl := hI.p3 (hd 3 (by decide))
                  refine step_load_rng (by rfl) 50 _ rfl B (off + i * 5) D1 (S1.out _ hI.x) rfl _ Tryz.underlying50 rfl (by rw [L1.out]; kernel_rfl) ?_
                  exact hK.out _ _ ⟨_, _, _, _, _, _, _, _, _, _, _, rfl, { hI with p4 := fun _ => rfl }⟩
                · rw [if_pos (by rfl)]
                  go_simp
                  exact hK.out _ _ ⟨_, _, _, _, _, _, _, _, _, _, _, rfl, { hI with p5 := fun _ => rfl }⟩
                · obtain rfl := hI.p5 (hd 5 (by decide))
                  rw [if_pos (by rfl)]
                  have hc := HC0.out _ hI.x
                  go_simp
                  exact hK.out _ _ ⟨_, _, _, _, _, _, _, _, _, _, _, rfl, { hI with p6 := fun _ => rfl }⟩
                · rw [if_pos (by rfl)]
                  go_simp
                  exact hK.out _ _ ⟨_, _, _, _, _, _, _, _, _, _, _, rfl, { hI with p7 := fun _ => rfl }⟩
                · obtain rfl := hI.p6 (hd 6 (by decide))
                  obtain rfl := hI.p7 (hd 7 (by decide))
                  rw [if_pos (by rfl)]
                  go_simp
                  exact hK.out _ _ ⟨_, _, _, _, _, _, _, _, _, _, _, rfl, { hI with p8 := fun _ => rfl }⟩
                · obtain rfl := hI.p8 (hd 8 (by decide))
                  refine step_load_rng (by rfl) 50 _ rfl B2 (off2 + i * 5) D2 (S2.out _ hI.x) rfl _ Tryz.underlying50 rfl (by rw [L2.out]; kernel_rfl) ?_
                  exact hK.out _ _ ⟨_, _, _, _, _, _, _, _, _, _, _, rfl, { hI with p9 := fun _ => rfl }⟩
                · obtain rfl := hI.p4 (hd 4 (by decide))
                  obtain rfl := hI.p9 (hd 9 (by decide))
                  rw [if_pos (by rfl)]
                  have heq := EQ W
                  go_simp
                  exact hK.out _ _ ⟨_, _, _, _, _, _, _, _, _, _, _, rfl, { hI with p10 := fun _ => rfl }⟩
              · rintro L _ W hall ⟨x43, x44, x45, x46, x47, x48, x49, x50, x51, x52, x53, rfl, hI⟩
                obtain rfl := hI.p0 (hall 0 (by decide))
                obtain rfl := hI.p1 (hall 1 (by decide))
                obtain rfl := hI.p2 (hall 2 (by decide))
                obtain rfl := hI.p3 (hall 3 (by decide))
                obtain rfl := hI.p4 (hall 4 (by decide))
                obtain rfl := hI.p5 (hall 5 (by decide))
                obtain rfl := hI.p6 (hall 6 (by decide))
                obtain rfl := hI.p7 (hall 7 (by decide))
                obtain rfl := hI.p8 (hall 8 (by decide))
                obtain rfl := hI.p9 (hall 9 (by decide))
                obtain rfl := hI.p10 (hall 10 (by decide))
                have hXe := hI.x
                clear hI hall
                try dsimp only
                have HX6 : Hid (Dr W1 W) := hXe
                clear hXe
                cases q with
                | true =>
                  go_wp2
                  exact ⟨⟨i + 1, HLT.out, by go_num, HX6.out, HQ.out.1 rfl⟩, by have := HLT.out; simp [intOf]; omega⟩
                | false =>
                  go_wp2
                  go_ret
                  exact ⟨by rw [show v = false from (by first | exact HQ.out.2 rfl | exact HQ.out.2 trivial)]; rfl, Below_dr HB.out HX6.out⟩
            · obtain rfl : i = m := by omega
              have y1 : ¬ ((i : Nat) : Int) < (i : Int) := by omega
              have HV1 : Hid (v = true) := HV2.out (by
                have := HE.out
                rw [List.take_of_length_le (by rw [HM.out]; exact Nat.le_refl _), List.take_of_length_le (by rw [← H4.out, HM.out]; exact Nat.le_refl _)] at this
                exact this)
              clear HE
              go_wp2
              go_ret
              exact ⟨by rw [HV1.out]; rfl, Below_dr HB.out ⟨_, rfl⟩⟩
        · skip
          have e1 : (a.key != b.key) = false := by rw [h1]; simp
          have e1b : (a.key == b.key) = true := by rw [h1]; simp
          have e2 : ((strOf a.id).toList == (strOf b.id).toList) = true := by rw [h2]; simp
          have qt := fun W => QT true (by simp [h3]) W
          have e4 : ((a.cs.length : Int) != (b.cs.length : Int)) = true := by rw [bne_iff_ne]; omega
          have e5 : (a.cs.length != b.cs.length) = true := by rw [bne_iff_ne]; exact h4
          have e4b : (a.cs.length == b.cs.length) = false := by rw [beq_eq_false_iff_ne]; exact h4
          have e4c : ((a.cs.length : Int) == (b.cs.length : Int)) = false := by rw [beq_eq_false_iff_ne]; omega
          have HN : Hid (v = false) := NO.out (fun e => h4 (by rw [e]))
          clear NO HV VA VB QT h1 h2 h3 h4
          generalize a.key = ka at *
          generalize b.key = kb at *
          generalize strOf a.id = Sa at *
          generalize strOf b.id = Sb at *
          generalize a.cs.length = ma at *
          generalize b.cs.length = mb at *
          go_enter Tryz.func12, Tryz.ntmps12
          go_wp2_with (first
          | (rw [← hW1]; clear hW1)
          | (have hz := K1; clear hz; refine wpList_load_part_g ?_ 26 (.tmp 21) rfl w.heap.size 3 28 32 T1 r1 rfl _ (a.tag.map B8) P1.out HT1.out Tryz.underlying26 rfl (by kernel_rfl) ?_; (· rfl); clear K1)
          | (have hz := K2; clear hz; refine wpList_load_part_g ?_ 26 (.tmp 23) rfl (w.heap.size + 1) 3 28 32 T2 r2 rfl _ (b.tag.map B8) P2.out HT2.out Tryz.underlying26 rfl (by kernel_rfl) ?_; (· rfl); clear K2))
          go_ret
          exact ⟨by rw [HN.out]; rfl, HB.out⟩
      · skip
        have e1 : (a.key != b.key) = false := by rw [h1]; simp
        have e1b : (a.key == b.key) = true := by rw [h1]; simp
        have e2 : ((strOf a.id).toList == (strOf b.id).toList) = true := by rw [h2]; simp
        have qt := fun W => QT false (by simp [h3]) W
        have HN : Hid (v = false) := NO.out (fun e => h3 (by rw [e]))
        clear NO HV VA VB QT h1 h2 h3
        generalize a.key = ka at *
        generalize b.key = kb at *
        generalize strOf a.id = Sa at *
        generalize strOf b.id = Sb at *
        generalize a.cs.length = ma at *
        generalize b.cs.length = mb at *
        go_enter Tryz.func12, Tryz.ntmps12
        go_wp2_with (first
          | (rw [← hW1]; clear hW1)
          | (have hz := K1; clear hz; refine wpList_load_part_g ?_ 26 (.tmp 21) rfl w.heap.size 3 28 32 T1 r1 rfl _ (a.tag.map B8) P1.out HT1.out Tryz.underlying26 rfl (by kernel_rfl) ?_; (· rfl); clear K1)
          | (have hz := K2; clear hz; refine wpList_load_part_g ?_ 26 (.tmp 23) rfl (w.heap.size + 1) 3 28 32 T2 r2 rfl _ (b.tag.map B8) P2.out HT2.out Tryz.underlying26 rfl (by kernel_rfl) ?_; (· rfl); clear K2))
        go_ret
        exact ⟨by rw [HN.out]; rfl, HB.out⟩
    · skip
      have e1 : (a.key != b.key) = false := by rw [h1]; simp
      have e1b : (a.key == b.key) = true := by rw [h1]; simp
      have e2 : ((strOf a.id).toList == (strOf b.id).toList) = false := strOf_beq _ _ false (by simp [h2])
      have HN : Hid (v = false) := NO.out (fun e => h2 (by rw [e]))
      clear NO HV VA VB QT h1 h2
      generalize a.key = ka at *
      generalize b.key = kb at *
      generalize strOf a.id = Sa at *
      generalize strOf b.id = Sb at *
      generalize a.cs.length = ma at *
      generalize b.cs.length = mb at *
      go_enter Tryz.func12, Tryz.ntmps12
      go_wp2_with (first
          | (rw [← hW1]; clear hW1)
          | (have hz := K1; clear hz; refine wpList_load_part_g ?_ 26 (.tmp 21) rfl w.heap.size 3 28 32 T1 r1 rfl _ (a.tag.map B8) P1.out HT1.out Tryz.underlying26 rfl (by kernel_rfl) ?_; (· rfl); clear K1)
          | (have hz := K2; clear hz; refine wpList_load_part_g ?_ 26 (.tmp 23) rfl (w.heap.size + 1) 3 28 32 T2 r2 rfl _ (b.tag.map B8) P2.out HT2.out Tryz.underlying26 rfl (by kernel_rfl) ?_; (· rfl); clear K2))
      go_ret
      exact ⟨by rw [HN.out]; rfl, HB.out⟩
  · skip
    have e1 : (a.key != b.key) = true := by rw [bne_iff_ne]; exact h1
    have e1b : (a.key == b.key) = false := by rw [beq_eq_false_iff_ne]; exact h1
    have HN : Hid (v = false) := NO.out (fun e => h1 (by rw [e]))
    clear NO HV VA VB QT h1
    generalize a.key = ka at *
    generalize b.key = kb at *
    generalize strOf a.id = Sa at *
    generalize strOf b.id = Sb at *
    generalize a.cs.length = ma at *
    generalize b.cs.length = mb at *
    go_enter Tryz.func12, Tryz.ntmps12
    go_wp2_with (first
          | (rw [← hW1]; clear hW1)
          | (have hz := K1; clear hz; refine wpList_load_part_g ?_ 26 (.tmp 21) rfl w.heap.size 3 28 32 T1 r1 rfl _ (a.tag.map B8) P1.out HT1.out Tryz.underlying26 rfl (by kernel_rfl) ?_; (· rfl); clear K1)
          | (have hz := K2; clear hz; refine wpList_load_part_g ?_ 26 (.tmp 23) rfl (w.heap.size + 1) 3 28 32 T2 r2 rfl _ (b.tag.map B8) P2.out HT2.out Tryz.underlying26 rfl (by kernel_rfl) ?_; (· rfl); clear K2))
    go_ret
    exact ⟨by rw [HN.out]; rfl, HB.out⟩
end Go.Proofs.YtjooabgjkjnhhaaGreatDoor
