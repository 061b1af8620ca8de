import Derived.Test.YtkcbhikhcgobkaaPEnd
namespace Go.Proofs.Ytkcbhikhcgobkaa
open Go.RowKit

set_option maxHeartbeats 2000000 in
set_option maxRecDepth 100000 in
theorem pieces_any (a : Option Addr) (b off cap : Nat) (ops : List Sc) (w : World) (hcap : ops.length ≤ 140737488351232) (ha : 0 < ops.length → a = some ⟨b, off, none⟩) (hsc : ∀ i o, ops[i]? = some o → ScOk w b off i o) :
    Calls Try.prog 4 #[.slice a ops.length cap] w fun e w' => e = .returned (.bool true) ∧ Below w.heap.size w w' := by
  generalize hL : ops.length = L at *
  have HL : Hid (ops.length = L) := hL
  have HSC : Hid (∀ i o, ops[i]? = some o → ScOk w b off i o) := hsc
  have HA : Hid (0 < L → a = some ⟨b, off, none⟩) := ha
  clear hL hsc ha
  go_enter Try.func4, Try.ntmps4
  go_wp2
  go_loop [3, 4] (fun l i => ∃ k : Nat, k ≤ L ∧ i = .int .i64 k ∧ ∃ c : Int, Hid (c = 2147483647 - (cost ops k : Int)) ∧ l = .int .i64 c ∧ -140737488351234 ≤ c ∧ c ≤ 2147483647)
    (fun _ i => L - (intOf i).toNat)
  case atStart => exact ⟨0, by omega, rfl, 2147483647, rfl, rfl, by omega, by omega⟩
  case round =>
    obtain ⟨k, hk, rfl, c, hc, rfl, hc1, hc2⟩ := hrel
    by_cases hc0 : 0 ≤ c
    · have g2 : decide ((0 : Int) ≤ c) = true := by simpa using hc0
      have g3 : decide (c < 0) = false := by simpa using hc0
      by_cases hlt : k < L
      · obtain rfl : a = some ⟨b, off, none⟩ := HA.out (by omega)
        have g1 : decide ((k : Int) < (L : Int)) = true := by simp; omega
        obtain ⟨o, ho⟩ : ∃ o, ops[k]? = some o := ⟨ops[k]'(by rw [HL.out]; exact hlt), List.getElem?_eq_getElem _⟩
        obtain ⟨s1, s2, s3, s4, s5, s6, s7⟩ := HSC.out k o ho
        have i1 : (0 : Int) ≤ (k : Int) := by omega
        have i2 : (k : Int) < (L : Int) := by omega
        have HC : Hid (cost ops (k + 1) = cost ops k + (1 + o.bs.length)) := cost_succ ops k o ho
        clear s1 s2 s4 s5 ho
        go_wp2
        refine ⟨⟨k + 1, by omega, by go_num, _, ?_, rfl, by omega, by omega⟩, by simp [intOf]; omega⟩
        have h1 := hc.out
        have h2 := HC.out
        show _ = _
        omega
      · have g1 : decide ((k : Int) < (L : Int)) = false := by simp; omega
        obtain rfl : k = L := by omega
        have hcost : Hid (cost ops k ≤ 2147483647) := by have := hc.out; show _ ≤ _; omega
        have hk31 : k ≤ 2147483647 := by have := cost_le ops k (by rw [HL.out]; exact Nat.le_refl _); have := hcost.out; omega
        clear hlt hk
        go_wp2_with fail
        refine (new_any _).mono ?_
        rintro e w1 ⟨g, rfl, hg, rg, hb1⟩
        have dg : Dig w1 g [] := ⟨List.replicate 64 0, by simp, by simp, by simpa [hs] using rg⟩
        have hg2 := rg.lt
        have st := start_st hg hg2 dg
        have bl : ∀ o1 o2, Below w.heap.size w ((w1.alloc o1).alloc o2) := fun o1 o2 => (hb1.alloc hb1.size o1).alloc (by have := hb1.size; simp; omega) o2
        clear rg hb1
        go_wp2
        go_loopw [5, 6, 7] (fun lv av iv wr => PRel w.heap.size w ops k lv av iv wr) (fun _ _ iv _ => k + 1 - (intOf iv).toNat)
        case atStart =>
          refine ⟨0, 1, w1.heap.size, 1, w1.heap.size + 1, 1, [⟨g, [], none, 0, []⟩], by omega, rfl, rfl, rfl, rfl, by omega, by omega, ?_, ?_, bl _ _⟩
          · show PSt _ _ _ _ _ _ _ _ _
            simpa using st
          · intro t ht
            simp at ht
            subst ht
            exact ⟨rfl, by simp⟩
        case round =>
          clear st bl dg
          obtain ⟨i, n, gl, cl, ga, ca, items, hi, rfl, rfl, rfl, hn, hn0, hni, hst, hit, hbl⟩ := hrel
          have hlN := hn.out
          obtain ⟨gL, hgL⟩ : ∃ g, (items.map It.g)[n - 1]? = some g := ⟨(items.map It.g)[n - 1]'(by simp; omega), List.getElem?_eq_getElem _⟩
          have cL := hst.out.cellL (n - 1) gL hgL
          have i1 : (0 : Int) ≤ (n : Int) - 1 := by omega
          have i2 : (n : Int) - 1 < (n : Int) := by omega
          have i3 : ((n : Int) - 1).toNat = n - 1 := by omega
          have i4 : (i : Int) ≤ (k : Int) := by omega
          clear hgL hlN g1 g2 g3 hc hc1 hc2 hc0 hg hg2
          by_cases hik : i = k
          · obtain rfl : i = k := hik
            have e1 : (((i : Int) == (i : Int)) = true) := by simp
            have HIT : Hid (ItAt gl ga n wr) := ItAt.of hn.out hst.out hit.out hcost.out
            have HB : Hid (Below w.heap.size w wr) := hbl
            have hn31 : n ≤ 2147483648 := by omega
            go_wp2
            clear cL hst hit hn hni hn0 i1 i2 i3 i4 hbl e1
            go_loopw [12] (fun jv wz => ∃ p : Nat, p ≤ n ∧ jv = .int .i64 p ∧ Hid (ItAt gl ga n wz) ∧ Hid (Below w.heap.size w wz)) (fun jv _ => n - (intOf jv).toNat)
            case atStart => exact ⟨0, by omega, rfl, HIT, HB⟩
            case round =>
              clear HIT HB
              obtain ⟨p, hp, rfl, hI, hB⟩ := hrel
              by_cases hpn : p < n
              · obtain ⟨g5, ao5, m5, cap5, sm, hsl, l1, l2, c1, c2, SM, RF, OF⟩ := hI.out p hpn
                have hq1 := eq_self sm hsl
                have y0 : (0 : Int) ≤ (p : Int) := by omega
                have y2 : (p : Int) < (n : Int) := by omega
                go_wp2
                go_region_held3 (fun w' => w'.cell? ⟨gl, p, none⟩ = some (.pointer (some ⟨g5, 0, none⟩)) ∧ w'.cell? ⟨ga, p, none⟩ = some (.slice ao5 m5 cap5))
                  (first | exact ⟨c1, c2⟩ | exact ⟨(b6.cell (p := ⟨gl, p, none⟩) l1).trans c1, (b6.cell (p := ⟨ga, p, none⟩) l2).trans c2⟩ | exact ⟨(b5.cell (p := ⟨gl, p, none⟩) l1).trans c1, (b5.cell (p := ⟨ga, p, none⟩) l2).trans c2⟩ | exact ⟨(b4.cell (p := ⟨gl, p, none⟩) l1).trans c1, (b4.cell (p := ⟨ga, p, none⟩) l2).trans c2⟩ | exact ⟨(b3.cell (p := ⟨gl, p, none⟩) l1).trans c1, (b3.cell (p := ⟨ga, p, none⟩) l2).trans c2⟩)
                  (first
                    | (go_at_call 11; refine (SM.out _ b4).mono ?_; rintro e w5 ⟨rfl, hb5⟩; have b5 : Below wr.heap.size wr w5 := b4.trans (hb5.mono b4.size))
                    | (go_at_call 11; refine (SM.out _ (Below.refl _ _).drew).mono ?_; rintro e w3 ⟨rfl, hb3⟩; have b3 : Below wr.heap.size wr w3 := ((Below.refl _ _).drew).trans hb3)
                    | (go_at_call 6; refine (RF.out _ b3).mono ?_; rintro e w4 ⟨rfl, hb4⟩; have b4 : Below wr.heap.size wr w4 := b3.trans (hb4.mono b3.size))
                    | (go_at_call 5; refine (OF.out _ b5).mono ?_; rintro e w6 ⟨rfl, hb6⟩; have b6 : Below wr.heap.size wr w6 := b5.trans (hb6.mono b5.size)))
                clear hb3 hb4 hb5 hb6 b3 b4 b5 SM RF OF
                go_wp2
                exact ⟨⟨p + 1, by omega, by go_num, hI.out.below b6, hB.out.trans (b6.mono hB.out.size)⟩, by simp [intOf]; omega⟩
              · have y2 : ¬ (p : Int) < (n : Int) := by omega
                go_wp2_with fail
                refine (fixed_any _).mono ?_
                rintro e w3 ⟨rfl, hb3⟩
                go_wp2
                go_ret
                exact ⟨rfl, hB.out.trans (hb3.mono hB.out.size)⟩
          · obtain rfl : a = some ⟨b, off, none⟩ := HA.out (by omega)
            have e1 : (((i : Int) == (k : Int)) = false) := by rw [beq_eq_false_iff_ne]; omega
            obtain ⟨o, ho⟩ : ∃ o, ops[i]? = some o := ⟨ops[i]'(by rw [HL.out]; omega), List.getElem?_eq_getElem _⟩
            obtain ⟨s1, s2, s3, s4, s5, s6, s7⟩ := (HSC.out i o ho).below hbl
            have HC : Hid (cost ops (i + 1) = cost ops i + (1 + o.bs.length)) := cost_succ ops i o ho
            have hI : Hid (IsB wr o.ao o.bs) := s4
            have hNil : Hid (o.ao = none → o.cap = 0) := s5
            have HO : Hid (ops[i]? = some o) := ho
            clear s4 s5 ho
            obtain ⟨kk, hkk, hr⟩ : ∃ kk : Nat, kk < n ∧ ((0 ≤ o.on.tmod n ∧ o.on.tmod n = kk) ∨ (o.on.tmod n < 0 ∧ o.on.tmod n + n = kk)) := by
              have h1 := Int.tmod_lt_of_pos o.on (show (0 : Int) < (n : Int) by omega)
              have h2 := Int.lt_tmod_of_pos o.on (show (0 : Int) < (n : Int) by omega)
              by_cases h0 : 0 ≤ o.on.tmod n
              · exact ⟨(o.on.tmod n).toNat, by omega, .inl ⟨h0, by omega⟩⟩
              · exact ⟨(o.on.tmod n + n).toNat, by omega, .inr ⟨by omega, by omega⟩⟩
            obtain ⟨t, ht⟩ : ∃ t, items[kk]? = some t := ⟨items[kk]'(by have := hn.out; omega), List.getElem?_eq_getElem _⟩
            have HT : Hid (items[kk]? = some t) := ht
            have cl1 := hst.out.cellL kk t.g (by rw [List.getElem?_map, ht]; rfl)
            have ca1 := hst.out.cellA kk t ht
            have q1 : (0 : Int) ≤ (kk : Int) := by omega
            have q2 : (kk : Int) < (n : Int) := by omega
            have q3 : (0 : Int) ≤ (i : Int) := by omega
            have q4 : (i : Int) < (k : Int) := by omega
            obtain ⟨hDM, hMl⟩ := hit.out t (List.mem_of_getElem? ht)
            have hMl2 : t.M.length ≤ 2147483647 := by have := cost_mono ops i k hi; have := hcost.out; omega
            obtain ⟨sm, hsl, hSM, hRF, hOF⟩ := it_calls hst.out t (List.mem_of_getElem? ht) hDM hMl2
            have SM : Hid (∀ W, Below wr.heap.size wr W → Calls Try.prog 11 #[.pointer (some ⟨t.g, 0, none⟩)] W fun e w' => e = .returned (.agg (sm.map B8).toArray) ∧ Below W.heap.size W w') := hSM
            have RF : Hid (∀ W, Below wr.heap.size wr W → Calls Try.prog 6 #[.slice t.ao t.M.length t.cap] W fun e w' => e = .returned (.agg (sm.map B8).toArray) ∧ Below W.heap.size W w') := hRF
            have OF : Hid (∀ W, Below wr.heap.size wr W → Calls Try.prog 5 #[.slice t.ao t.M.length t.cap] W fun e w' => e = .returned (.agg (sm.map B8).toArray) ∧ Below W.heap.size W w') := hOF
            have hq1 := eq_self sm hsl
            have hgl := hst.out.ltl
            have hga := hst.out.lta
            clear ht hSM hRF hOF hDM hMl
            rcases hr with ⟨hr0, hr1⟩ | ⟨hr0, hr1⟩
            all_goals
              first
                | have e2 : decide (o.on.tmod n < 0) = false := by simpa using hr0
                | have e2 : decide (o.on.tmod n < 0) = true := by simpa using hr0
              by_cases k1 : o.kind = 1
              · have e3 : ((o.kind == 1) = true) := by rw [beq_iff_eq]; exact k1
                clear k1
                go_wp2_with fail
                refine (new_any _).mono ?_
                rintro e w2 ⟨g', rfl, hg', rg', hb2⟩
                have dg2 : Dig w2 g' [] := ⟨List.replicate 64 0, by simp, by simp, by simpa [hs] using rg'⟩
                have ps2 : Hid (PSt w.heap.size wr.heap.size w2 gl cl ga ca (items.map It.g) items) := hst.out.below hb2
                have hsz2 : Hid (g' < w2.heap.size) := rg'.lt
                have hgw : Hid (wr.heap.size ≤ g') := hg'
                have rl2 : Hid (w2.ownsRow w.heap.size 31 1 (.slice (some ⟨gl, 0, none⟩) n cl) n ((items.map It.g).map ptr)) := by
                  have := ps2.out.rowL; rw [List.length_map, ← hn.out] at this; exact this
                have ra2 : Hid (w2.ownsRow w.heap.size 22 1 (.slice (some ⟨ga, 0, none⟩) n ca) n (items.map It.sl)) := by
                  have := ps2.out.rowA; rw [← hn.out] at this; exact this
                have hN2 : w.heap.size ≤ w2.heap.size := Nat.le_trans hbl.size hb2.size
                clear rg' hg'
                go_wp2_with (first | (at_builtin; refine wpList_append_cell rfl (.tmp 87) (.tmp 89) 33 31 rfl (.pointer none) 8 Try.underlying33 Try.info31 rfl (by omega) w.heap.size _ gl n cl _ (ptr g') rfl _ rfl rfl rfl rl2.out hN2 (by omega) ?_; intro gl' cl' w3 ho3 hr3 ha3 hl3; have ra3 : Hid (w3.ownsRow w.heap.size 22 1 (.slice (some ⟨ga, 0, none⟩) n ca) n (items.map It.sl)) := owns_of_block ra2.out (grown_block hr3 ga (Nat.lt_of_lt_of_le hga hb2.size) hst.out.ne.symm); have hN3 : w.heap.size ≤ w3.heap.size := by have := hr3.size; simp at this; omega) | (at_builtin; refine wpList_append_cell rfl (.tmp 91) (.tmp 92) 34 22 rfl (.slice none 0 0) 24 Try.underlying34 Try.info22 rfl (by omega) w.heap.size _ ga n ca _ (.slice none 0 0) rfl _ rfl rfl rfl ra3.out hN3 (by omega) ?_; intro ga' ca' w4 ho4 hr4 ha4 hl4))
                have P := PSt.push (t := ⟨g', [], none, 0, []⟩) ps2.out hgw.out hsz2.out dg2 (fun _ => rfl) (by simp) (.inl rfl) hr3 ho3 (by rw [List.length_map, ← hn.out]) ha3 hl3 hr4 ho4 (by rw [← hn.out]) ha4 hl4
                have bb : Below w.heap.size w w4 := grown_below (grown_below (hbl.trans (hb2.mono hbl.size)) hN2 hr3 ps2.out.geL) hN3 hr4 ps2.out.geA
                exact ⟨PRel.push (t := ⟨g', [], none, 0, []⟩) rfl (by omega) hn.out hni P hit.out rfl (by simp) bb, by simp [intOf]; omega⟩
              by_cases k2 : o.kind = 2
              · have e3 : ((o.kind == 1) = false) := by rw [beq_eq_false_iff_ne]; exact k1
                have e4 : ((o.kind == 2) = true) := by rw [beq_iff_eq]; exact k2
                have hbl31 : o.bs.length ≤ 2147483647 := by have h1 := HC.out; have h2 := cost_mono ops (i + 1) k (by omega); have h3 := hcost.out; omega
                have hbw : Hid (b < wr.heap.size) := by show b < wr.heap.size; have := block_lt_of_cell s1; simpa using this
                clear k1 k2 SM RF OF
                go_wp2_with (first | (at_builtin; refine wpList_append_IsB rfl (.const _) (.tmp 100) rfl o.ao o.cap o.bs.length o.bs rfl rfl rfl hI.out hNil.out s7 ?_; intro v1 wa ho1 hb1) | (at_builtin; refine wpList_append_one rfl (.tmp 101) (.tmp 102) rfl wr.heap.size _ wr _ o.bs 119#8 _ rfl _ rfl rfl rfl ho1 hb1 o.bs.length rfl (by omega) ?_; intro g2 c2 wb ho2 hb2; have s3b := (hb2.cell (p := ⟨b, off + i * 3 + 2, none⟩) hbw.out).trans s3; have clb := (hb2.cell (p := ⟨gl, kk, none⟩) hgl).trans cl1; have hc2 : o.bs.length + 1 ≤ c2 := own_cap ho2))
                have ht0 := hst.out.it t (List.mem_of_getElem? HT.out)
                obtain ⟨hDM, hMl⟩ := hit.out t (List.mem_of_getElem? HT.out)
                have hg2 : wr.heap.size ≤ g2 ∧ g2 < wb.heap.size := ho2.1.lt g2 rfl
                have htg := ht0.lt
                have psb := hst.out.below hb2
                have dgb := (psb.it t (List.mem_of_getElem? HT.out)).dig
                have ow2 : wb.ownsRow wr.heap.size 5 1 (.slice (some ⟨g2, 0, none⟩) (o.bs.length + 1) c2) (o.bs.length + 1) ((o.bs ++ [119#8]).map B8) := by
                  have := ho2.1; rw [List.length_append] at this; exact this
                have cow : ∀ j v, o.bs[j]? = some v → wb.cell? ⟨g2, 0 + j, none⟩ = some (B8 v) := by
                  intro j v hj
                  have hjl : j < o.bs.length := (List.getElem?_eq_some_iff.1 hj).1
                  rw [Nat.zero_add, ow2.cellAt j (by omega), List.getElem?_map, List.getElem?_append_left hjl, hj]; rfl
                refine (write_any t.g t.D (some ⟨g2, 0, none⟩) c2 o.bs wb dgb (.inr ⟨g2, 0, rfl, fun j v hj => ⟨by omega, cow j v hj⟩⟩) (by omega) (by rw [hDM]; omega) (by omega)).mono ?_
                rintro e wc ⟨rfl, dgc, kc⟩
                have psc : Hid (PSt w.heap.size wr.heap.size wc gl cl ga ca (items.map It.g) (items.set kk { t with D := t.D ++ o.bs })) :=
                  psb.write kk t HT.out (t.D ++ o.bs) (fun j hj hne => kc.block j (by have := hb2.size; omega) hne) (by have := hb2.size; have := kc.size; omega) dgc
                have bwc : Below w.heap.size w wc := kc.toBelow (hbl.trans (hb2.mono hbl.size)) ht0.ge (by have := hb2.size; have := hbl.size; omega)
                obtain ⟨_, _, s3c, s4c, _, _, _⟩ := (HSC.out i o HO.out).below bwc
                have owc : Hid (wc.ownsRow wr.heap.size 5 1 (.slice (some ⟨g2, 0, none⟩) (o.bs.length + 1) c2) (o.bs.length + 1) ((o.bs ++ [119#8]).map B8)) := owns_of_block ow2 (kc.block g2 hg2.2 (by omega))
                have isc : Hid (IsB wc o.ao o.bs) := s4c
                have iso : IsB wc (some ⟨g2, 0, none⟩) o.bs := .inr ⟨g2, 0, rfl, fun j v hj => (World.cell?_of_block (w := wb) (kc.block g2 hg2.2 (by omega))).trans (cow j v hj)⟩
                have c119 : wc.cell? ⟨g2, o.bs.length, none⟩ = some (.int .u8 119) := by
                  rw [owc.out.cellAt o.bs.length (by omega), List.getElem?_map, List.getElem?_append_right (Nat.le_refl _)]; simp [B8]
                have hcv1 : ∀ nq, (convert 22 9 (.slice (some ⟨g2, 0, none⟩) o.bs.length c2)).run Try.prog (wc.drewN nq) = .ok (.string (strOf o.bs)) (wc.drewN nq) := fun nq => conv_bytes _ _ _ _ _ rfl iso
                have hcv2 : ∀ nq, (convert 22 9 (.slice o.ao o.bs.length o.cap)).run Try.prog (wc.drewN nq) = .ok (.string (strOf o.bs)) (wc.drewN nq) := fun nq => conv_bytes _ _ _ _ _ rfl isc.out
                generalize strOf o.bs = S at hcv1 hcv2
                have z1 : (0 : Int) ≤ (o.bs.length : Int) := by omega
                have z2 : (o.bs.length : Int) < ((o.bs.length + 1 : Nat) : Int) := by omega
                have hg2' := hg2.1
                have htge := ht0.ge
                have HKC : Hid (Kept t.g wb wc) := kc
                have fz : ∀ q, wc.frozen? ⟨g2, q, none⟩ = false := fun q => owc.out.frozenAt q
                have cz : ∀ q, q < o.bs.length → ∃ x : Int, wc.cell? ⟨g2, q, none⟩ = some (.int .u8 x) := by
                  intro q hq
                  refine ⟨((o.bs[q]).toNat : Int), ?_⟩
                  rw [owc.out.cellAt q (by omega), List.getElem?_map, List.getElem?_append_left hq, List.getElem?_eq_getElem hq]; rfl
                have HFZ : Hid (∀ q, wc.frozen? ⟨g2, q, none⟩ = false) := fz
                have HCZ : Hid (∀ q, q < o.bs.length → ∃ x : Int, wc.cell? ⟨g2, q, none⟩ = some (.int .u8 x)) := cz
                clear cow dgb psb ht0 iso s4c dgc kc hq1 hsl ow2 fz cz
                go_wp2
                go_quiet (fail)
                go_wp2
                go_loopw [11] (fun jv wz => ∃ j : Nat, j ≤ o.bs.length ∧ jv = .int .i64 j ∧ Hid (∀ q, q < o.bs.length → ∃ x : Int, wz.cell? ⟨g2, q, none⟩ = some (.int .u8 x)) ∧ Hid (∀ q, wz.frozen? ⟨g2, q, none⟩ = false) ∧ Below wr.heap.size wc wz)
                  (fun jv _ => o.bs.length - (intOf jv).toNat)
                case atStart => exact ⟨0, by omega, rfl, HCZ.out, HFZ.out, Below_drewN (Below.refl _ _) nq⟩
                case round =>
                  obtain ⟨j, hj, rfl, hz1, hz2, hz3⟩ := hrel
                  by_cases hjl : j < o.bs.length
                  · obtain ⟨x, hx⟩ := hz1.out j hjl
                    have hx2 := hz2.out j
                    have y1 : (0 : Int) ≤ (j : Int) := by omega
                    have y2 : (j : Int) < (o.bs.length : Int) := by omega
                    clear hcv1 hcv2 c119 s3b clb s3c s1 s2 s3 cl1 ca1
                    go_wp2
                    refine ⟨⟨j + 1, by omega, by go_num, ?_, ?_, hz3.setCell hg2' _⟩, by simp [intOf]; omega⟩
                    · intro q hq
                      by_cases hqj : q = j
                      · subst hqj
                        exact ⟨_, World.cell?_setCell_same _ _ _ hx⟩
                      · obtain ⟨y, hy⟩ := hz1.out q hq
                        exact ⟨y, (World.cell?_setCell_other _ _ _ _ (by intro e; injection e with e1 e2; omega)).trans hy⟩
                    · intro q
                      rw [World.frozen?_setCell]; exact hz2.out q
                  · have y2 : ¬ (j : Int) < (o.bs.length : Int) := by omega
                    clear hcv1 hcv2 c119 s3b clb s1 s2 s3
                    go_wp2
                    have pd := psc.out.below hz3
                    have hset : (items.set kk { t with D := t.D ++ o.bs })[kk]? = some { t with D := t.D ++ o.bs } := List.getElem?_set_self (by have := hn.out; omega)
                    have HSET : Hid (_ = _) := hset
                    have ca7 : wr.cell? ⟨ga, kk, none⟩ = some (.slice t.ao t.M.length t.cap) := pd.cellA kk { t with D := t.D ++ o.bs } hset
                    have hNw := pd.hH
                    obtain ⟨_, _, s3d, s4d, _, _, _⟩ := (HSC.out i o HO.out).below (bwc.trans (hz3.mono pd.hN))
                    have isd : Hid (IsB wr o.ao o.bs) := s4d
                    have ism : Hid (IsB wr t.ao t.M) := pd.isB { t with D := t.D ++ o.bs } (List.mem_of_getElem? hset)
                    have mnil : Hid (t.ao = none → t.cap = 0) := (hst.out.it t (List.mem_of_getElem? HT.out)).nil
                    clear pd s4d hset
                    go_region_law (first
                      | (refine step_append_more rfl (.const _) (.tmp 152) rfl _ wc none 0 0 [] rfl rfl (own_nil _ _ hNw) hz3.drew t.ao t.M.length t.cap t.M rfl rfl ism.out mnil.out (by omega) ?_; intro ao5 cap5 w5 ho5 hb5; rw [Nat.zero_add, List.nil_append] at ho5; obtain ⟨_, _, s3e, s4e, _, _, _⟩ := (HSC.out i o HO.out).below (bwc.trans (hb5.mono psc.out.hN)))
                      | (refine step_append_more rfl (.tmp 153) (.tmp 158) rfl _ wc ao5 t.M.length cap5 t.M rfl rfl ho5 hb5 o.ao o.bs.length o.cap o.bs rfl rfl s4e hNil.out (by omega) ?_; intro ao6 cap6 w6 ho6 hb6; have ca8 : w6.cell? ⟨ga, kk, none⟩ = some (.slice t.ao t.M.length t.cap) := (psc.out.below hb6).cellA kk { t with D := t.D ++ o.bs } HSET.out; have fa8 := (psc.out.below hb6).rowA.frozenAt kk))
                    all_goals
                      clear ca7 ca8 fa8 s3d s3e
                      go_wp2
                      exact ⟨PRel.store rfl (by omega) hn.out hn0 hni HT.out psc.out hit.out HC.out bwc hb6 ho6, by simp [intOf]; omega⟩
              by_cases k3 : o.kind = 3
              · have e3 : ((o.kind == 1) = false) := by rw [beq_eq_false_iff_ne]; exact k1
                have e4 : ((o.kind == 2) = false) := by rw [beq_eq_false_iff_ne]; exact k2
                have e5 : ((o.kind == 3) = true) := by rw [beq_iff_eq]; exact k3
                clear k1 k2 k3
                go_wp2_with fail
                refine (copy_any t.g t.D wr (hst.out.it t (List.mem_of_getElem? HT.out)).dig).mono ?_
                rintro e w2 ⟨rfl, dg2, hb2⟩
                have ps2 : Hid (PSt w.heap.size wr.heap.size w2 gl cl ga ca (items.map It.g) items) := hst.out.below hb2
                have hsz2 : Hid (wr.heap.size < w2.heap.size) := by obtain ⟨_, _, _, r⟩ := dg2; exact r.lt
                have rl2 : Hid (w2.ownsRow w.heap.size 31 1 (.slice (some ⟨gl, 0, none⟩) n cl) n ((items.map It.g).map ptr)) := by
                  have := ps2.out.rowL; rw [List.length_map, ← hn.out] at this; exact this
                have ra2 : Hid (w2.ownsRow w.heap.size 22 1 (.slice (some ⟨ga, 0, none⟩) n ca) n (items.map It.sl)) := by
                  have := ps2.out.rowA; rw [← hn.out] at this; exact this
                have hN2 : w.heap.size ≤ w2.heap.size := Nat.le_trans hbl.size hb2.size
                have ca2 := (hb2.cell (p := ⟨ga, kk, none⟩) hga).trans ca1
                go_wp2_with (first | (at_builtin; refine wpList_append_cell rfl (.tmp 163) (.tmp 169) 33 31 rfl (.pointer none) 8 Try.underlying33 Try.info31 rfl (by omega) w.heap.size _ gl n cl _ (ptr wr.heap.size) rfl _ rfl rfl rfl rl2.out hN2 (by omega) ?_; intro gl' cl' w3 ho3 hr3 ha3 hl3; have ca3 : w3.cell? ⟨ga, kk, none⟩ = some (.slice t.ao t.M.length t.cap) := (World.cell?_of_block (w := w2) (grown_block hr3 ga (Nat.lt_trans hga hsz2.out) hst.out.ne.symm)).trans ca2; have ra3 : Hid (w3.ownsRow w.heap.size 22 1 (.slice (some ⟨ga, 0, none⟩) n ca) n (items.map It.sl)) := owns_of_block ra2.out (grown_block hr3 ga (Nat.lt_trans hga hsz2.out) hst.out.ne.symm); have hN3 : w.heap.size ≤ w3.heap.size := by have := hr3.size; simp at this; omega) | (at_builtin; refine wpList_append_cell rfl (.tmp 171) (.tmp 176) 34 22 rfl (.slice none 0 0) 24 Try.underlying34 Try.info22 rfl (by omega) w.heap.size _ ga n ca _ (It.sl t) rfl _ rfl rfl rfl ra3.out hN3 (by omega) ?_; intro ga' ca' w4 ho4 hr4 ha4 hl4))
                have h0 := ps2.out.it t (List.mem_of_getElem? HT.out)
                have P := PSt.push (t := ⟨wr.heap.size, t.D, t.ao, t.cap, t.M⟩) ps2.out (Nat.le_refl _) hsz2.out dg2 h0.nil h0.cap h0.isb hr3 ho3 (by rw [List.length_map, ← hn.out]) ha3 hl3 hr4 ho4 (by rw [← hn.out]) ha4 hl4
                have bb : Below w.heap.size w w4 := grown_below (grown_below (hbl.trans (hb2.mono hbl.size)) hN2 hr3 ps2.out.geL) hN3 hr4 ps2.out.geA
                obtain ⟨hDM, hMl⟩ := hit.out t (List.mem_of_getElem? HT.out)
                exact ⟨PRel.push (t := ⟨wr.heap.size, t.D, t.ao, t.cap, t.M⟩) rfl (by omega) hn.out hni P hit.out hDM hMl bb, by simp [intOf]; omega⟩
              have e3 : ((o.kind == 1) = false) := by rw [beq_eq_false_iff_ne]; exact k1
              have e4 : ((o.kind == 2) = false) := by rw [beq_eq_false_iff_ne]; exact k2
              have e5 : ((o.kind == 3) = false) := by rw [beq_eq_false_iff_ne]; exact k3
              clear k1 k2 k3
              go_wp2
              go_region_held3 (fun w' => w'.cell? ⟨gl, kk, none⟩ = some (.pointer (some ⟨t.g, 0, none⟩)) ∧ w'.cell? ⟨ga, kk, none⟩ = some (.slice t.ao t.M.length t.cap))
                (first | exact ⟨cl1, ca1⟩ | exact ⟨(b4.cell (p := ⟨gl, kk, none⟩) hgl).trans cl1, (b4.cell (p := ⟨ga, kk, none⟩) hga).trans ca1⟩ | exact ⟨(b3.cell (p := ⟨gl, kk, none⟩) hgl).trans cl1, (b3.cell (p := ⟨ga, kk, none⟩) hga).trans ca1⟩)
                (first | (go_at_call 11; refine (SM.out _ (Below.refl _ _).drew).mono ?_; rintro e w3 ⟨rfl, hb3⟩; have b3 : Below wr.heap.size wr w3 := ((Below.refl _ _).drew).trans hb3) | (go_at_call 6; refine (RF.out _ b3).mono ?_; rintro e w4 ⟨rfl, hb4⟩; have b4 : Below wr.heap.size wr w4 := b3.trans (hb4.mono b3.size)))
              clear hb3 hb4 b3 SM RF OF
              go_wp2
              exact ⟨PRel.next rfl (by omega) hn.out hn0 hni hst.out hit.out hbl b4, by simp [intOf]; omega⟩
    · have g2 : decide ((0 : Int) ≤ c) = false := by simpa using hc0
      have g3 : decide (c < 0) = true := by simp; omega
      by_cases hlt : k < L
      all_goals
        first | have g1 : decide ((k : Int) < (L : Int)) = true := by simp; omega | have g1 : decide ((k : Int) < (L : Int)) = false := by simp; omega
        go_wp2_with fail
        refine (fixed_any _).mono ?_
        rintro e w3 ⟨rfl, hb3⟩
        go_wp2
        go_ret
        exact ⟨rfl, hb3⟩
end Go.Proofs.Ytkcbhikhcgobkaa
