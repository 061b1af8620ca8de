import Derived.Test.YtikakngpbahhgaaMStart
namespace Go.Proofs.Ytikakngpbahhgaa
open Go.RowKit

set_option maxHeartbeats 4000000 in
set_option maxRecDepth 100000 in
theorem mpieces_any (ka : Option Addr) (nk kcap : Nat) (key : List By) (hnk : key.length = nk) (a : Option Addr) (b off cap : Nat) (ops : List Sc) (w : World) (hkey : ScB w ⟨1, 0, ka, kcap, key⟩) (hcap : ops.length ≤ 140737488351232) (ha : 0 < ops.length → a = some ⟨b, off, none⟩) (hsc : ∀ i o, ops[i]? = some o → ScOk w b off i o) :
    Calls Try.prog 5 #[.slice ka nk kcap, .slice a ops.length cap] w fun e w' => e = .returned (.bool true) ∧ Below w.heap.size w w' := by
  have hnk1 : nk ≤ 140737488351232 := by rw [← hnk]; exact hkey.2.2.2
  obtain ⟨all, hall⟩ : ∃ all : List Sc, all = ⟨1, 0, ka, kcap, key⟩ :: ops := ⟨_, rfl⟩
  have HC0 : Hid (cost all 1 = 1 + nk) := by show _ = _; rw [hall, cost_cons, ← hnk]; simp [cost]
  have HCS : Hid (∀ k o, ops[k]? = some o → cost all (k + 2) = cost all (k + 1) + (1 + o.bs.length)) := by
    intro k o ho
    rw [hall, cost_succ _ (k + 1) o (by simpa using ho)]
  have HAL : Hid (all[0]? = some ⟨1, 0, ka, kcap, key⟩ ∧ ∀ k, all[k + 1]? = ops[k]?) := by rw [hall]; exact ⟨rfl, fun k => by simp⟩
  have HALL : Hid (all.length = ops.length + 1) := by show _ = _; rw [hall]; simp
  have HKEY : Hid (ScB w ⟨1, 0, ka, kcap, key⟩) := hkey
  have HNK : Hid (key.length = nk) := hnk
  generalize hL : ops.length = L at *
  have HL : Hid (ops.length = L) := hL
  have HSC : Hid (∀ i o, ops[i]? = some o → ScOk w b off i o) := hsc
  have HA : Hid (0 < L → a = some ⟨b, off, none⟩) := ha
  clear hL hsc ha hall hkey hnk
  have STS := start_st w
  go_enter Try.func5, Try.ntmps5
  go_wp2
  go_loop [5, 6] (fun l i => ∃ k : Nat, k ≤ L ∧ i = .int .i64 k ∧ ∃ c : Int, Hid (c = 2147483648 - (cost all (k + 1) : Int)) ∧ l = .int .i64 c ∧ -281474976710656 ≤ c ∧ c ≤ 2147483647)
    (fun _ i => L - (intOf i).toNat)
  case atStart => exact ⟨0, by omega, rfl, 2147483647 - (nk : Int), by have := HC0.out; show _ = _; simp only [Nat.zero_add]; omega, rfl, by omega, by omega⟩
  case round =>
    obtain ⟨k, hk, rfl, c, hc, rfl, hc1, hc2⟩ := hrel
    by_cases hc0 : 0 ≤ c
    · have g2 : decide ((0 : Int) ≤ c) = true := by simpa using hc0
      have g3 : decide (c < 0) = false := by simpa using hc0
      by_cases hlt : k < L
      · obtain rfl : a = some ⟨b, off, none⟩ := HA.out (by omega)
        have g1 : decide ((k : Int) < (L : Int)) = true := by simp; omega
        obtain ⟨o, ho⟩ : ∃ o, ops[k]? = some o := ⟨ops[k]'(by rw [HL.out]; exact hlt), List.getElem?_eq_getElem _⟩
        obtain ⟨s1, s2, s3, s4, s5, s6, s7⟩ := HSC.out k o ho
        have i1 : (0 : Int) ≤ (k : Int) := by omega
        have i2 : (k : Int) < (L : Int) := by omega
        have HC : Hid (cost all (k + 2) = cost all (k + 1) + (1 + o.bs.length)) := HCS.out k o ho
        clear s1 s2 s4 s5 ho
        go_wp2
        refine ⟨⟨k + 1, by omega, by go_num, _, ?_, rfl, by omega, by omega⟩, by simp [intOf]; omega⟩
        have h1 := hc.out
        have h2 := HC.out
        show _ = _
        rw [show k + 1 + 1 = k + 2 by omega]
        omega
      · have g1 : decide ((k : Int) < (L : Int)) = false := by simp; omega
        obtain rfl : k = L := by omega
        have hcost : Hid (cost all (k + 1) ≤ 2147483648) := by have := hc.out; show _ ≤ _; omega
        have hk31 : k ≤ 2147483648 := by have := cost_le all (k + 1) (by rw [HALL.out]; exact Nat.le_refl _); have := hcost.out; omega
        clear hlt hk hc hc0 hc1 hc2 HC0
        go_wp2
        go_loopw [7, 8, 9, 10] (fun kv lv av iv wr => PRel w.heap.size w all k kv lv av iv wr) (fun _ _ _ iv _ => k + 1 - (intOf iv + 1).toNat)
        case atStart =>
          refine ⟨0, 0, w.heap.size, 0, w.heap.size + 1, 0, w.heap.size + 2, 0, [], by omega, rfl, rfl, rfl, rfl, rfl, fun h => by omega, by omega, STS, fun t ht => by simp at ht, ((((Below.refl _ _).alloc (Nat.le_refl _) _).alloc (by simp) _).alloc (by simp; omega) _)⟩
        case round =>
          clear STS g1 g2 g3
          obtain ⟨i, n, gk, ck, gl, cl, ga, ca, items, hi, rfl, rfl, rfl, rfl, hn, hn0, hni, hst, hit, hbl⟩ := hrel
          by_cases hik : i ≤ k
          · have e0 : (i : Int) - 1 < (k : Int) := by omega
            obtain ⟨o, ho⟩ : ∃ o, all[i]? = some o := ⟨all[i]'(by rw [HALL.out]; omega), List.getElem?_eq_getElem _⟩
            have HO : Hid (all[i]? = some o) := ho
            have HC : Hid (cost all (i + 1) = cost all i + (1 + o.bs.length)) := cost_succ all i o ho
            have HSB : Hid (ScB w o) := by
              by_cases hi0 : i = 0
              · have h1 := HO.out
                rw [hi0, HAL.out.1] at h1
                injection h1 with h1
                rw [← h1]; exact HKEY.out
              · have h1 := HO.out
                rw [show i = (i - 1) + 1 by omega, HAL.out.2] at h1
                exact (HSC.out _ _ h1).2.2.2
            have hob : o.bs.length ≤ 2147483648 := by have h1 := HC.out; have h2 := cost_mono all (i + 1) (k + 1) (by omega); have h3 := hcost.out; omega
            clear ho
            go_upto_if 56 with fail
            go_cut [11] (fun s11 wx => ∃ G : Nat, s11 = .pointer (some ⟨G, 0, none⟩) ∧ wr.heap.size ≤ G ∧ Row wx G 35 [.int .i64 o.kind, .int .i64 o.on, .slice o.ao o.bs.length o.cap] ∧ Below wr.heap.size wr wx)
            case first =>
              have bx : ∀ o1, Below wr.heap.size wr (wr.alloc o1) := fun o1 => (Below.refl _ _).alloc (Nat.le_refl _) _
              have hNr := hbl.size
              by_cases hi0 : i = 0
              · have e1 : decide ((0 : Int) ≤ (i : Int) - 1) = false := by simp; omega
                have hoe : o = ⟨1, 0, ka, kcap, key⟩ := by
                  have h1 := HO.out
                  rw [hi0, HAL.out.1] at h1
                  injection h1 with h1
                  exact h1.symm
                go_wp2
                go_meet
                case rel =>
                  subst hoe
                  exact ⟨_, rfl, Nat.le_refl _, by rw [HNK.out]; exact Row.at _ _ _ _ _ rfl rfl, bx _⟩
              · have e1 : decide ((0 : Int) ≤ (i : Int) - 1) = true := by simp; omega
                obtain rfl : a = some ⟨b, off, none⟩ := HA.out (by omega)
                have hop : ops[i - 1]? = some o := by
                  have h1 := HO.out
                  rw [show i = (i - 1) + 1 by omega, HAL.out.2] at h1
                  exact h1
                obtain ⟨s1, s2, s3, _⟩ := ((HSC.out (i - 1) o hop).below hbl)
                have hbl1 : b < wr.heap.size := by have := block_lt_of_cell s1; simpa using this
                have i1 : (0 : Int) ≤ (i : Int) - 1 := by omega
                have i3 : ((i : Int) - 1).toNat = i - 1 := by omega
                replace s1 := fun o1 => ((bx o1).cell (p := ⟨b, off + (i - 1) * 3, none⟩) hbl1).trans s1
                replace s2 := fun o1 => ((bx o1).cell (p := ⟨b, off + (i - 1) * 3 + 1, none⟩) hbl1).trans s2
                replace s3 := fun o1 => ((bx o1).cell (p := ⟨b, off + (i - 1) * 3 + 2, none⟩) hbl1).trans s3
                clear hop
                go_wp2
                go_meet
                case rel => exact ⟨_, rfl, Nat.le_refl _, Row.at _ _ _ _ _ rfl rfl, bx _⟩
            case rest =>
              obtain ⟨G, rfl, hG, rG, bG⟩ := hcut
              obtain ⟨wd, hwd⟩ : ∃ wd, wd = wc := ⟨_, rfl⟩
              subst hwd
              have hGc := rG.lt
              have hNr := hbl.size
              have c0 := rG.cell 0 _ rfl
              have c1 := rG.cell 1 _ rfl
              have c2' := rG.cell 2 _ rfl
              have bwc : Below w.heap.size w wd := hbl.trans (bG.mono hNr)
              obtain ⟨hI, hNil, hco, s7⟩ := HSB.out.below bwc
              have HI : Hid (IsB wd o.ao o.bs) := hI
              have HNil : Hid (o.ao = none → o.cap = 0) := hNil
              clear hI hNil
              go_upto_block 4 with (first
                | (at_builtin; refine wpList_append_IsB rfl (.const _) (.tmp 62) rfl o.ao o.cap o.bs.length o.bs rfl rfl rfl HI.out HNil.out (by omega) ?_; intro v1 wa ho1 hb1)
                | (at_builtin; refine wpList_append_one rfl (.tmp 63) (.tmp 64) rfl wd.heap.size _ wd _ o.bs 119#8 _ rfl _ rfl rfl rfl ho1 hb1 o.bs.length rfl (by omega) ?_; intro g2 c2 wb ho2 hb2; have c0b := (hb2.cell (p := ⟨G, 0, none⟩) hGc).trans c0; have c1b := (hb2.cell (p := ⟨G, 1, none⟩) hGc).trans c1; have c2b := (hb2.cell (p := ⟨G, 2, none⟩) hGc).trans c2'; have hc2 : o.bs.length + 1 ≤ c2 := own_cap ho2))
              have hg2 : wd.heap.size ≤ g2 ∧ g2 < wb.heap.size := ho2.1.lt g2 rfl
              have ow2 : Hid (wb.ownsRow wd.heap.size 5 1 (.slice (some ⟨g2, 0, none⟩) (o.bs.length + 1) c2) (o.bs.length + 1) ((o.bs ++ [119#8]).map B8)) := by
                have := ho2.1; rw [List.length_append] at this; exact this
              have rGb : Hid (Row wb G 35 [.int .i64 o.kind, .int .i64 o.on, .slice o.ao o.bs.length o.cap]) := rG.below hb2 hGc
              have bwb : Below wr.heap.size wr wb := bG.trans (hb2.mono bG.size)
              have isb2 : Hid (IsB wb (some ⟨g2, 0, none⟩) o.bs) := by
                refine .inr ⟨g2, 0, rfl, fun j v hj => ?_⟩
                have hjl : j < o.bs.length := (List.getElem?_eq_some_iff.1 hj).1
                rw [Nat.zero_add, ow2.out.cellAt j (by omega), List.getElem?_map, List.getElem?_append_left hjl, hj]; rfl
              have hcr := bG.size
              clear c0 c1 c2' rG HI ho2 bG
              go_cut [7, 8, 9] (fun kv lv av wx => PMid w.heap.size w all i g2 kv lv av wx ∧ Row wx G 35 [.int .i64 o.kind, .int .i64 o.on, .slice o.ao o.bs.length o.cap] ∧ Hid (wx.ownsRow wd.heap.size 5 1 (.slice (some ⟨g2, 0, none⟩) (o.bs.length + 1) c2) (o.bs.length + 1) ((o.bs ++ [119#8]).map B8)))
              case first =>
                by_cases k1 : o.kind = 1
                · have e3 : ((o.kind == 1) = true) := by rw [beq_iff_eq]; exact k1
                  clear k1
                  go_wp2_with fail
                  refine (newMac_any (some ⟨g2, 0, none⟩) c2 o.bs.length o.bs rfl wb isb2.out (by omega) (by omega)).mono ?_
                  rintro e w1 ⟨g, rfl, hg, mc, hb1⟩
                  have st1 := hst.out.keep (S' := (· < wr.heap.size)) (w' := w1) (fun k hk => (bwb.trans (hb1.mono bwb.size)).block k hk) (fun _ h => h)
                  have hN1 : w.heap.size ≤ w1.heap.size := Nat.le_trans hNr (Nat.le_trans bwb.size hb1.size)
                  have hwr1 : wr.heap.size ≤ w1.heap.size := Nat.le_trans bwb.size hb1.size
                  have rl1 : Hid (w1.ownsRow w.heap.size 38 1 (.slice (some ⟨gl, 0, none⟩) n cl) n (items.map Mt.pt)) := by have := st1.rowL; rw [← hn.out] at this; exact this
                  have rk1 : Hid (w1.ownsRow w.heap.size 22 1 (.slice (some ⟨gk, 0, none⟩) n ck) n (items.map Mt.ks)) := by have := st1.rowK; rw [← hn.out] at this; exact this
                  have ra1 : Hid (w1.ownsRow w.heap.size 22 1 (.slice (some ⟨ga, 0, none⟩) n ca) n (items.map Mt.sl)) := by have := st1.rowA; rw [← hn.out] at this; exact this
                  have hgl : gl < wr.heap.size := hst.out.sl
                  have hgk : gk < wr.heap.size := hst.out.sk
                  have hga : ga < wr.heap.size := hst.out.sa
                  have nkl := hst.out.kl
                  have nka := hst.out.ka
                  have nla := hst.out.la
                  have hGb : G < wb.heap.size := rGb.out.lt
                  have c21 := (hb1.cell (p := ⟨G, 2, none⟩) hGb).trans c2b
                  have A1 : Hid (∀ (o2 : Obj) (w2 : World), (w1.alloc o2).grownBy w2 (some gl) → Hid (w2.ownsRow w.heap.size 22 1 (.slice (some ⟨gk, 0, none⟩) n ck) n (items.map Mt.ks)) ∧ Hid (w2.ownsRow w.heap.size 22 1 (.slice (some ⟨ga, 0, none⟩) n ca) n (items.map Mt.sl)) ∧ w2.cell? ⟨G, 2, none⟩ = some (.slice o.ao o.bs.length o.cap) ∧ w1.heap.size + 1 ≤ w2.heap.size ∧ w.heap.size ≤ w2.heap.size) := by
                    intro o2 w2 hr2
                    have hz2 : w1.heap.size + 1 ≤ w2.heap.size := by have := hr2.size; simpa using this
                    have hb1s := hb1.size
                    exact ⟨owns_of_block rk1.out (grown_block hr2 gk (by omega) nkl), owns_of_block ra1.out (grown_block hr2 ga (by omega) nla.symm), (World.cell?_of_block (w := w1) (grown_block hr2 G (by omega) (by omega))).trans c21, hz2, by omega⟩
                  have A2 : Hid (∀ (o3 : Obj) (w2 w3 : World), w1.heap.size + 1 ≤ w2.heap.size → Hid (w2.ownsRow w.heap.size 22 1 (.slice (some ⟨ga, 0, none⟩) n ca) n (items.map Mt.sl)) → (w2.alloc o3).grownBy w3 (some gk) → Hid (w3.ownsRow w.heap.size 22 1 (.slice (some ⟨ga, 0, none⟩) n ca) n (items.map Mt.sl)) ∧ w.heap.size ≤ w3.heap.size) := by
                    intro o3 w2 w3 hz2 ra2 hr3
                    have hz3 : w2.heap.size + 1 ≤ w3.heap.size := by have := hr3.size; simpa using this
                    exact ⟨owns_of_block ra2.out (grown_block hr3 ga (by omega) nka.symm), by omega⟩
                  clear c0b c1b st1
                  go_wp2_with (first
                    | (at_builtin; (refine wpList_append_cell rfl (.tmp 105) (.tmp 107) 37 38 rfl (.pointer none) 8 Try.underlying37 Try.info38 rfl (by omega) w.heap.size _ gl n cl _ (ptr g) rfl _ rfl rfl rfl rl1.out hN1 (by omega) ?_; intro gl' cl' w2 ho2 hr2 ha2 hl2; obtain ⟨rk2, ra2, c22, hz2, hN2⟩ := A1.out _ _ hr2))
                    | (at_builtin; (refine wpList_append_cell rfl (.tmp 109) (.tmp 112) 36 22 rfl (.slice none 0 0) 24 Try.underlying36 Try.info22 rfl (by omega) w.heap.size _ gk n ck _ (.slice o.ao o.bs.length o.cap) rfl _ rfl rfl rfl rk2.out hN2 (by omega) ?_; intro gk' ck' w3 ho3 hr3 ha3 hl3; obtain ⟨ra3, hN3⟩ := A2.out _ _ _ hz2 ra2 hr3))
                    | (at_builtin; (refine wpList_append_cell rfl (.tmp 114) (.tmp 115) 36 22 rfl (.slice none 0 0) 24 Try.underlying36 Try.info22 rfl (by omega) w.heap.size _ ga n ca _ (.slice none 0 0) rfl _ rfl rfl rfl ra3.out hN3 (by omega) ?_; intro ga' ca' w4 ho4 hr4 ha4 hl4)))
                  go_meet
                  case rel =>
                    have hb1s := hb1.size
                    have hz2' : w1.heap.size + 1 ≤ w2.heap.size := hz2
                    have hz3 : w2.heap.size + 1 ≤ w3.heap.size := by have := hr3.size; simpa using this
                    have hblk : ∀ X, X < w1.heap.size → wr.heap.size ≤ X → w4.heap[X]? = w1.heap[X]? := fun X hX hX' =>
                      ((grown_block hr4 X (by omega) (by omega)).trans (grown_block hr3 X (by omega) (by omega))).trans (grown_block hr2 X hX (by omega))
                    refine ⟨PMid.push hn.out hni hst.out hit.out hbl hNr (by omega) hg2.2 bwb hb1 hg mc HSB.out HC.out hr2 ho2 ha2 hl2 hr3 ho3 ha3 hl3 hr4 ho4 ha4 hl4, ?_, ?_⟩
                    · exact (hblk G (by omega) hG).trans (rGb.out.below hb1 hGb)
                    · exact owns_of_block ow2.out ((hblk g2 (by omega) (by omega)).trans (hb1.block g2 hg2.2))
                · have hi0 : i ≠ 0 := by
                    intro h0
                    have h1 := HO.out
                    rw [h0, HAL.out.1] at h1
                    injection h1 with h1
                    exact k1 (by rw [← h1])
                  have hn1 : 0 < n := hn0 (by omega)
                  have e3 : ((o.kind == 1) = false) := by rw [beq_eq_false_iff_ne]; exact k1
                  obtain ⟨kk, hkk, hr⟩ : ∃ kk : Nat, kk < n ∧ ((0 ≤ o.on.tmod n ∧ o.on.tmod n = kk) ∨ (o.on.tmod n < 0 ∧ o.on.tmod n + n = kk)) := by
                    have h1 := Int.tmod_lt_of_pos o.on (show (0 : Int) < (n : Int) by omega)
                    have h2 := Int.lt_tmod_of_pos o.on (show (0 : Int) < (n : Int) by omega)
                    by_cases h0 : 0 ≤ o.on.tmod n
                    · exact ⟨(o.on.tmod n).toNat, by omega, .inl ⟨h0, by omega⟩⟩
                    · exact ⟨(o.on.tmod n + n).toNat, by omega, .inr ⟨by omega, by omega⟩⟩
                  obtain ⟨t, ht⟩ : ∃ t, items[kk]? = some t := ⟨items[kk]'(by have := hn.out; omega), List.getElem?_eq_getElem _⟩
                  have HT : Hid (items[kk]? = some t) := ht
                  have stb := hst.out.keep (S' := (· < wr.heap.size)) (w' := wb) (fun k hk => bwb.block k hk) (fun _ h => h)
                  have cl1 := stb.cellL kk t ht
                  have ck1 := stb.cellK kk t ht
                  have ca1 := stb.cellA kk t ht
                  have hgl : gl < wr.heap.size := hst.out.sl
                  have hgk : gk < wr.heap.size := hst.out.sk
                  have hga : ga < wr.heap.size := hst.out.sa
                  have hwrb := bwb.size
                  have q1 : (0 : Int) ≤ (kk : Int) := by omega
                  have q2 : (kk : Int) < (n : Int) := by omega
                  have hGb : G < wb.heap.size := rGb.out.lt
                  have htm : t ∈ items := List.mem_of_getElem? ht
                  have hgt := hit.out t htm
                  have hci : cost all i ≤ 2147483648 := by have := cost_mono all i (k + 1) (by omega); have := hcost.out; omega
                  clear ht k1
                  by_cases k2 : o.kind = 2
                  · have e4 : ((o.kind == 2) = true) := by rw [beq_iff_eq]; exact k2
                    have mcb := (stb.it t htm).mac
                    have htg : t.g < wr.heap.size := (stb.it t htm).s
                    have mnil : Hid (t.ao = none → t.cap = 0) := (stb.it t htm).nil
                    have STB : Hid (PSt w.heap.size (· < wr.heap.size) wb gk ck gl cl ga ca items) := stb
                    have hMl : t.M.length ≤ 2147483648 := Nat.le_trans hgt.2.1 hci
                    have hDl : t.D.length ≤ 2147483648 := by rw [hgt.1]; exact hMl
                    have isbn : IsBn t.g wb (some ⟨g2, 0, none⟩) o.bs := by
                      rcases isb2.out with h | ⟨B, off', h, hc⟩
                      · exact .inl h
                      · refine .inr ⟨B, off', h, fun j v hj => ⟨?_, hc j v hj⟩⟩
                        injection h with h
                        injection h with h
                        omega
                    clear k2 stb
                    rcases hr with ⟨hr0, hr1⟩ | ⟨hr0, hr1⟩
                    all_goals
                      first
                        | have e2 : decide (o.on.tmod n < 0) = false := by simpa using hr0
                        | have e2 : decide (o.on.tmod n < 0) = true := by simpa using hr0
                      go_wp2_with fail
                      refine (macWrite_any t.g t.k t.D (some ⟨g2, 0, none⟩) o.bs.length c2 o.bs rfl wb mcb isbn (by omega) (by omega)).mono ?_
                      rintro e we ⟨rfl, mce, kc⟩
                      have hkcs := kc.size
                      have ste := STB.out.write kk t HT.out (t.D ++ o.bs) (fun j hj hne => kc.block j (by have : j < wr.heap.size := hj; omega) hne) mce
                      have hset : (items.set kk { t with D := t.D ++ o.bs })[kk]? = some { t with D := t.D ++ o.bs } := List.getElem?_set_self (by have := hn.out; omega)
                      have HSET : Hid (_ = _) := hset
                      have STE : Hid (PSt w.heap.size (· < wr.heap.size) we gk ck gl cl ga ca (items.set kk { t with D := t.D ++ o.bs })) := ste
                      have ca7 : we.cell? ⟨ga, kk, none⟩ = some (.slice t.ao t.M.length t.cap) := ste.cellA kk { t with D := t.D ++ o.bs } hset
                      have ism : Hid (IsB we t.ao t.M) := ste.isB { t with D := t.D ++ o.bs } (List.mem_of_getElem? hset)
                      have bwe : Below w.heap.size w we := kc.toBelow (hbl.trans (bwb.mono hNr)) (STB.out.it t htm).ge (by omega)
                      have rGe : Row we G 35 [.int .i64 o.kind, .int .i64 o.on, .slice o.ao o.bs.length o.cap] := rGb.out.kept kc (by omega)
                      have c2e := rGe.cell 2 _ rfl
                      have hGe := rGe.lt
                      have HCA : Hid (∀ w6, Below we.heap.size we w6 → w6.cell? ⟨ga, kk, none⟩ = some (.slice t.ao t.M.length t.cap) ∧ w6.frozen? ⟨ga, kk, none⟩ = false) := fun w6 h6 => by
                        have st6 := STE.out.keep (S' := (· < wr.heap.size)) (w' := w6) (fun k hk => h6.block k (by have : k < wr.heap.size := hk; omega)) (fun _ h => h)
                        exact ⟨st6.cellA kk { t with D := t.D ++ o.bs } HSET.out, st6.rowA.frozenAt kk⟩
                      have HIO : Hid (∀ w6, Below we.heap.size we w6 → IsB w6 o.ao o.bs ∧ w6.cell? ⟨G, 2, none⟩ = some (.slice o.ao o.bs.length o.cap)) := fun w6 h6 =>
                        ⟨(HSB.out.below (bwe.trans (h6.mono bwe.size))).1, (h6.cell (p := ⟨G, 2, none⟩) hGe).trans c2e⟩
                      clear ste hset mcb isbn c0b c1b c2b cl1 ck1 ca1
                      go_wp2
                      go_region_law (first
                        | (refine step_append_more rfl (.const _) (.tmp 143) rfl we.heap.size we none 0 0 [] rfl rfl (own_nil _ _ (by simp)) (Below.refl _ _).drew t.ao t.M.length t.cap t.M rfl rfl ism.out mnil.out (by omega) ?_; intro ao5 cap5 w5 ho5 hb5; rw [Nat.zero_add, List.nil_append] at ho5; obtain ⟨is5, c25⟩ := HIO.out _ hb5)
                        | (refine step_append_more rfl (.tmp 144) (.tmp 146) rfl we.heap.size we ao5 t.M.length cap5 t.M rfl rfl ho5 hb5 o.ao o.bs.length o.cap o.bs rfl rfl is5 HNil.out (by omega) ?_; intro ao6 cap6 w6 ho6 hb6; obtain ⟨ca8, fa8⟩ := HCA.out _ hb6))
                      all_goals
                        clear ca7 ca8 fa8
                        go_wp2
                        go_meet
                        case rel =>
                          have h6s := hb6.size
                          have sb := SameBut.setCell ga kk (.slice ao6 (t.M.length + o.bs.length) cap6) w6
                          refine ⟨PMid.store hn.out hn1 hni HT.out hst.out hit.out hbl hNr (by omega) bwb kc mce HC.out (by omega) hb6 ho6, ?_, ?_⟩
                          · exact (sb.block G (by omega)).trans (rGe.below hb6 hGe)
                          · exact owns_of_block ow2.out (((sb.block g2 (by omega)).trans (hb6.block g2 (by omega))).trans (kc.block g2 hg2.2 (by omega)))
                  · have e4 : ((o.kind == 2) = false) := by rw [beq_eq_false_iff_ne]; exact k2
                    obtain ⟨sm, hsl, hSM, hRF, hOF⟩ := it_calls stb (fun k hk => by have : k < wr.heap.size := hk; omega) rfl (hbl.trans (bwb.mono hNr)) t htm hgt hci
                    have SM : Hid (∀ W, Below wb.heap.size wb W → Calls Try.prog 16 #[.pointer (some ⟨t.g, 0, none⟩)] W fun e w' => e = .returned (.agg (sm.map B8).toArray) ∧ Below W.heap.size W w') := hSM
                    have RF : Hid (∀ W, Below wb.heap.size wb W → Calls Try.prog 8 #[.slice t.kao t.k.length t.kcap, .slice t.ao t.M.length t.cap] W fun e w' => e = .returned (.agg (sm.map B8).toArray) ∧ Below W.heap.size W w') := hRF
                    have hq1 := eq_self sm hsl
                    clear k2 stb hSM hRF hOF
                    rcases hr with ⟨hr0, hr1⟩ | ⟨hr0, hr1⟩
                    all_goals
                      first
                        | have e2 : decide (o.on.tmod n < 0) = false := by simpa using hr0
                        | have e2 : decide (o.on.tmod n < 0) = true := by simpa using hr0
                      go_wp2
                      go_region_held3 (fun w' => w'.cell? ⟨gl, kk, none⟩ = some (.pointer (some ⟨t.g, 0, none⟩)) ∧ w'.cell? ⟨gk, kk, none⟩ = some (.slice t.kao t.k.length t.kcap) ∧ w'.cell? ⟨ga, kk, none⟩ = some (.slice t.ao t.M.length t.cap))
                        (first | exact ⟨cl1, ck1, ca1⟩ | exact ⟨(b4.cell (p := ⟨gl, kk, none⟩) (Nat.lt_of_lt_of_le hgl hwrb)).trans cl1, (b4.cell (p := ⟨gk, kk, none⟩) (Nat.lt_of_lt_of_le hgk hwrb)).trans ck1, (b4.cell (p := ⟨ga, kk, none⟩) (Nat.lt_of_lt_of_le hga hwrb)).trans ca1⟩ | exact ⟨(b3.cell (p := ⟨gl, kk, none⟩) (Nat.lt_of_lt_of_le hgl hwrb)).trans cl1, (b3.cell (p := ⟨gk, kk, none⟩) (Nat.lt_of_lt_of_le hgk hwrb)).trans ck1, (b3.cell (p := ⟨ga, kk, none⟩) (Nat.lt_of_lt_of_le hga hwrb)).trans ca1⟩)
                        (first | (go_at_call 16; refine (SM.out _ (Below.refl _ _).drew).mono ?_; rintro e w3 ⟨rfl, hb3⟩; have b3 : Below wb.heap.size wb w3 := ((Below.refl _ _).drew).trans hb3) | (go_at_call 8; refine (RF.out _ b3).mono ?_; rintro e w4 ⟨rfl, hb4⟩; have b4 : Below wb.heap.size wb w4 := b3.trans (hb4.mono b3.size)))
                      go_wp2
                      go_meet
                      case rel =>
                        refine ⟨PMid.stay hn.out hn1 hni hst.out hit.out hbl (by omega) bwb b4 hNr, rGb.out.below b4 hGb, owns_of_block ow2.out (b4.block g2 hg2.2)⟩
              case rest =>
                obtain ⟨hmid, rGx, hox⟩ := hcut
                have HMID : Hid (PMid w.heap.size w all i g2 u7 u8 u9 wc) := hmid
                have c2x := rGx.cell 2 _ rfl
                have bwx : Below w.heap.size w wc := by obtain ⟨_, _, _, _, _, _, _, _, _, _, _, _, _, _, _, _, h⟩ := hmid; exact h
                have isx : IsB wc o.ao o.bs := (HSB.out.below bwx).1
                have isy : IsB wc (some ⟨g2, 0, none⟩) o.bs := by
                  refine .inr ⟨g2, 0, rfl, fun j v hj => ?_⟩
                  have hjl : j < o.bs.length := (List.getElem?_eq_some_iff.1 hj).1
                  rw [Nat.zero_add, hox.out.cellAt j (by omega), List.getElem?_map, List.getElem?_append_left hjl, hj]; rfl
                have hcv1 := conv_bytes wc (some ⟨g2, 0, none⟩) o.bs.length c2 o.bs rfl isy
                have hcv2 := conv_bytes wc o.ao o.bs.length o.cap o.bs rfl isx
                generalize strOf o.bs = S at hcv1 hcv2
                have c119 : wc.cell? ⟨g2, o.bs.length, none⟩ = some (.int .u8 119) := by
                  rw [hox.out.cellAt o.bs.length (by omega), List.getElem?_map, List.getElem?_append_right (Nat.le_refl _)]; simp [B8]
                have z1 : (0 : Int) ≤ (o.bs.length : Int) := by omega
                have z2 : (o.bs.length : Int) < ((o.bs.length + 1 : Nat) : Int) := by omega
                have HFZ : Hid (∀ q, wc.frozen? ⟨g2, q, none⟩ = false) := fun q => hox.out.frozenAt q
                have HCZ : Hid (∀ q, q < o.bs.length → ∃ x : Int, wc.cell? ⟨g2, q, none⟩ = some (.int .u8 x)) := by
                  intro q hq
                  refine ⟨((o.bs[q]).toNat : Int), ?_⟩
                  rw [hox.out.cellAt q (by omega), List.getElem?_map, List.getElem?_append_left hq, List.getElem?_eq_getElem hq]; rfl
                have hg2w : w.heap.size ≤ g2 := by omega
                clear hmid rGx isx isy bwx c0b c1b c2b
                go_wp2
                go_loopw [17] (fun jv wz => ∃ j : Nat, j ≤ o.bs.length ∧ jv = .int .i64 j ∧ Hid (∀ q, q < o.bs.length → ∃ x : Int, wz.cell? ⟨g2, q, none⟩ = some (.int .u8 x)) ∧ Hid (∀ q, wz.frozen? ⟨g2, q, none⟩ = false) ∧ SameBut g2 wc wz)
                  (fun jv _ => o.bs.length - (intOf jv).toNat)
                case atStart => exact ⟨0, by omega, rfl, HCZ.out, HFZ.out, SameBut.refl _ _⟩
                case round =>
                  obtain ⟨j, hj, rfl, hz1, hz2, hz3⟩ := hrel
                  by_cases hjl : j < o.bs.length
                  · obtain ⟨x, hx⟩ := hz1.out j hjl
                    have hx2 := hz2.out j
                    have y1 : (0 : Int) ≤ (j : Int) := by omega
                    have y2 : (j : Int) < (o.bs.length : Int) := by omega
                    clear hcv1 hcv2 c119 c2x
                    go_wp2
                    refine ⟨⟨j + 1, by omega, by go_num, ?_, ?_, hz3.trans (SameBut.setCell g2 j _ _)⟩, by simp [intOf]; omega⟩
                    · intro q hq
                      by_cases hqj : q = j
                      · subst hqj
                        exact ⟨_, World.cell?_setCell_same _ _ _ hx⟩
                      · obtain ⟨y, hy⟩ := hz1.out q hq
                        exact ⟨y, (World.cell?_setCell_other _ _ _ _ (by intro e; injection e with e1 e2; omega)).trans hy⟩
                    · intro q
                      rw [World.frozen?_setCell]; exact hz2.out q
                  · have y2 : ¬ (j : Int) < (o.bs.length : Int) := by omega
                    clear hcv1 hcv2 c119 c2x
                    go_wp2
                    exact ⟨HMID.out.next rfl hik hg2w hz3, by simp [intOf]; omega⟩
          · obtain rfl : i = k + 1 := by omega
            have e0 : ¬ ((k + 1 : Nat) : Int) - 1 < (k : Int) := by omega
            have HIT : Hid (ItAt gk gl ga n wr) := ItAt.of hn.out hst.out hbl hit.out hcost.out
            have HB : Hid (Below w.heap.size w wr) := hbl
            have hn31 : n ≤ 2147483649 := by omega
            clear hst hit hn hni hn0 hbl hik
            go_wp2
            go_loopw [18] (fun jv wz => ∃ p : Nat, p ≤ n ∧ jv = .int .i64 p ∧ Hid (ItAt gk gl ga n wz) ∧ Hid (Below w.heap.size w wz)) (fun jv _ => n - (intOf jv).toNat)
            case atStart => exact ⟨0, by omega, rfl, HIT, HB⟩
            case round =>
              clear HIT HB
              obtain ⟨p, hp, rfl, hI, hB⟩ := hrel
              by_cases hpn : p < n
              · obtain ⟨g5, ko5, mk5, kc5, ao5, m5, cap5, sm, hsl, l0, l1, l2, c0, c1, c2, SM, RF, OF⟩ := hI.out p hpn
                have hq1 := eq_self sm hsl
                have y0 : (0 : Int) ≤ (p : Int) := by omega
                have y2 : (p : Int) < (n : Int) := by omega
                go_wp2
                go_region_held3 (fun w' => w'.cell? ⟨gk, p, none⟩ = some (.slice ko5 mk5 kc5) ∧ w'.cell? ⟨gl, p, none⟩ = some (.pointer (some ⟨g5, 0, none⟩)) ∧ w'.cell? ⟨ga, p, none⟩ = some (.slice ao5 m5 cap5))
                  (first | exact ⟨c0, c1, c2⟩ | exact ⟨(b6.cell (p := ⟨gk, p, none⟩) l0).trans c0, (b6.cell (p := ⟨gl, p, none⟩) l1).trans c1, (b6.cell (p := ⟨ga, p, none⟩) l2).trans c2⟩ | exact ⟨(b5.cell (p := ⟨gk, p, none⟩) l0).trans c0, (b5.cell (p := ⟨gl, p, none⟩) l1).trans c1, (b5.cell (p := ⟨ga, p, none⟩) l2).trans c2⟩ | exact ⟨(b4.cell (p := ⟨gk, p, none⟩) l0).trans c0, (b4.cell (p := ⟨gl, p, none⟩) l1).trans c1, (b4.cell (p := ⟨ga, p, none⟩) l2).trans c2⟩ | exact ⟨(b3.cell (p := ⟨gk, p, none⟩) l0).trans c0, (b3.cell (p := ⟨gl, p, none⟩) l1).trans c1, (b3.cell (p := ⟨ga, p, none⟩) l2).trans c2⟩)
                  (first
                    | (go_at_call 16; refine (SM.out _ b4).mono ?_; rintro e w5 ⟨rfl, hb5⟩; have b5 : Below wr.heap.size wr w5 := b4.trans (hb5.mono b4.size))
                    | (go_at_call 16; refine (SM.out _ (Below.refl _ _).drew).mono ?_; rintro e w3 ⟨rfl, hb3⟩; have b3 : Below wr.heap.size wr w3 := ((Below.refl _ _).drew).trans hb3)
                    | (go_at_call 8; refine (RF.out _ b3).mono ?_; rintro e w4 ⟨rfl, hb4⟩; have b4 : Below wr.heap.size wr w4 := b3.trans (hb4.mono b3.size))
                    | (go_at_call 7; refine (OF.out _ b5).mono ?_; rintro e w6 ⟨rfl, hb6⟩; have b6 : Below wr.heap.size wr w6 := b5.trans (hb6.mono b5.size)))
                clear hb3 hb4 hb5 hb6 b3 b4 b5 SM RF OF
                go_wp2
                exact ⟨⟨p + 1, by omega, by go_num, hI.out.below b6, hB.out.trans (b6.mono hB.out.size)⟩, by simp [intOf]; omega⟩
              · have y2 : ¬ (p : Int) < (n : Int) := by omega
                go_wp2_with fail
                refine (fixed_any _).mono ?_
                rintro e w3 ⟨rfl, hb3⟩
                go_wp2
                go_ret
                exact ⟨rfl, hB.out.trans (hb3.mono hB.out.size)⟩
    · have g2 : decide ((0 : Int) ≤ c) = false := by simpa using hc0
      have g3 : decide (c < 0) = true := by simp; omega
      by_cases hlt : k < L
      all_goals
        first | have g1 : decide ((k : Int) < (L : Int)) = true := by simp; omega | have g1 : decide ((k : Int) < (L : Int)) = false := by simp; omega
        go_wp2_with fail
        refine (fixed_any _).mono ?_
        rintro e w3 ⟨rfl, hb3⟩
        go_wp2
        go_ret
        exact ⟨rfl, hb3⟩
end Go.Proofs.Ytikakngpbahhgaa
