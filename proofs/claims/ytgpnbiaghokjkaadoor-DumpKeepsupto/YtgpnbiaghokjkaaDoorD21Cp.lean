
import Derived.Test.YtgpnbiaghokjkaaDoorD21CpM
/-! Layer 21, the document's answer: Copy. (Printed by tools/gend21.py.) -/
namespace Go.Proofs.YtgpnbiaghokjkaaDoor
open Go.RowKit
set_option linter.unusedVariables false
set_option linter.unusedSimpArgs false
set_option maxRecDepth 100000

def CopyP (t : St) (w : World) (e : Ending) (w' : World) : Prop := ∃ v', e = .returned (.agg (SV.vals v' t).toArray) ∧ StV w' v' t ∧ Below w.heap.size w w'
structure Cp6 (W1 : World) (N D g1 S0 ci n PB poff np vpc qc pc : Nat) (flat qs : List Value) (po qo : Option Addr) (L : Nat → Bool) (x17 x18 x19 x20 x21 x22 x23 x24 x25 x26 x27 x28 : Value) (W : World) : Prop where
  x : CR N D g1 ci n flat qs po W1 (L 8) (L 9) (L 10) (L 12) x25 x26 x27 W
  p0 : L 0 = true → x17 = .pointer (some ⟨D, 0, none⟩)
  p1 : L 1 = true → x18 = .slice po ci pc
  p2 : L 2 = true → x19 = .slice (some ⟨g1, 0, none⟩) 0 0
  p3 : L 3 = true → x20 = .pointer (some ⟨S0, 0, none⟩)
  p4 : L 4 = true → x21 = .slice (some ⟨PB, poff, none⟩) np vpc
  p5 : L 5 = true → x22 = .int .i64 (ci : Int)
  p6 : L 6 = true → x23 = .pointer (some ⟨PB, poff + ci, none⟩)
  p7 : L 7 = true → x24 = .slice qo n qc
  p11 : L 11 = true → x28 = .pointer (some ⟨D, 0, none⟩)
  c10_1 : L 10 = true → L 1 = true
section
variable {W1 : World} {N D g1 S0 ci n PB poff np vpc qc pc : Nat} {flat qs : List Value} {po qo : Option Addr} {L : Nat → Bool} {x17 x18 x19 x20 x21 x22 x23 x24 x25 x26 x27 x28 : Value} {W W2 : World}
theorem Cp6.s12 (h : Cp6 W1 N D g1 S0 ci n PB poff np vpc qc pc flat qs po qo L x17 x18 x19 x20 x21 x22 x23 x24 x25 x26 x27 x28 W) (hX : CR N D g1 ci n flat qs po W1 ((upd L 12) 8) ((upd L 12) 9) ((upd L 12) 10) ((upd L 12) 12) x25 x26 x27 W2) : Cp6 W1 N D g1 S0 ci n PB poff np vpc qc pc flat qs po qo (upd L 12) x17 x18 x19 x20 x21 x22 x23 x24 x25 x26 x27 x28 W2 :=
  ⟨hX, h.p0, h.p1, h.p2, h.p3, h.p4, h.p5, h.p6, h.p7, h.p11, h.c10_1⟩
end
@[reducible] def ICp6 (W1 : World) (N D g1 S0 ci n PB poff np vpc qc pc : Nat) (flat qs : List Value) (po qo : Option Addr) (y0 y1 y2 y3 y4 y5 y6 y7 y8 y9 y10 y11 y12 y13 y14 y15 y16 y29 y30 y31 y32 y33 y34 y35 y36 y37 y38 y39 y40 y41 : Value) : (Nat → Bool) → Act → World → Prop := fun L a W => ∃ x17 x18 x19 x20 x21 x22 x23 x24 x25 x26 x27 x28, a = ⟨#[y0, y1, y2, y3, y4, y5, y6, y7, y8, y9, y10, y11, y12, y13, y14, y15, y16, x17, x18, x19, x20, x21, x22, x23, x24, x25, x26, x27, x28, y29, y30, y31, y32, y33, y34, y35, y36, y37, y38, y39, y40, y41], []⟩ ∧ Cp6 W1 N D g1 S0 ci n PB poff np vpc qc pc flat qs po qo L x17 x18 x19 x20 x21 x22 x23 x24 x25 x26 x27 x28 W
set_option maxHeartbeats 16000000 in
theorem r21copy_any (v : SV) (t : St) (w : World) (h : StV w v t) (hen : v.eo = none → v.ec = 0) (hbn : v.bo = none → v.bc = 0) (hpn : ∀ B off p k qc, v.po = some ⟨B, off, none⟩ → p < t.pages.length → w.cell? ⟨B, off + p, none⟩ = some (.slice none k qc) → qc = 0) (hs : Small t) :
    Calls Tryd.prog 17 #[.agg (v.vals t).toArray] w (CopyP t w) := by
  obtain ⟨l2, l3, l1, l4⟩ := hs
  have HPG : Hid (∀ i, i < t.pages.length → ∃ B off qo qc, v.po = some ⟨B, off, none⟩ ∧ (∀ W, Below w.heap.size w W → W.cell? ⟨B, off + i, none⟩ = some (.slice qo (t.pages.getD i []).length qc) ∧ IsL W qo ((t.pages.getD i []).flatten.map B8)) ∧ (qo = none → qc = 0) ∧ (t.pages.getD i []).length ≤ 131072 ∧ ∀ x ∈ t.pages.getD i [], x.length = 32) := fun i hi => by
    obtain ⟨B, off, qo, qc, e1, e2, e3, e4⟩ := h.page i hi
    refine ⟨B, off, qo, qc, e1, fun W hW => ⟨(hW.cell (p := ⟨B, off + i, none⟩) (World.block_lt_of_cell? _ _ e2)).trans e2, e3.below hW (Nat.le_refl _)⟩, fun e => hpn B off i _ qc e1 hi (by rw [← e]; exact e2), l4 _ ?_, e4⟩
    rw [List.getD_eq_getElem?_getD, List.getElem?_eq_getElem hi]; exact List.getElem_mem hi
  have HIE : Hid (∀ W, Below w.heap.size w W → IsL W v.eo (t.erases.map (Value.int .i64))) := fun W hW => h.er.below hW (Nat.le_refl _)
  have HIB : Hid (∀ W, Below w.heap.size w W → IsL W v.bo (t.blown.map Value.bool)) := fun W hW => h.bl.below hW (Nat.le_refl _)
  have HBY : Hid (∀ p ∈ t.pages, ∀ x ∈ p, x.length = 32) := h.by8
  have HTK : Hid (∀ i, i < t.pages.length → t.pages.take (i + 1) = t.pages.take i ++ [t.pages.getD i []]) := fun i hi => take_snoc t.pages i [] hi
  clear h hpn l4
  have HEX : Hid (v.vals t = [.slice v.po t.pages.length v.pc, .slice v.eo t.erases.length v.ec, .slice v.bo t.blown.length v.bc]) := rfl
  have lx : (v.vals t).length = 3 := rfl
  obtain ⟨XS, hXS⟩ : ∃ XS, v.vals t = XS := ⟨_, rfl⟩
  rw [hXS] at HEX lx ⊢
  clear hXS
  have HR0 : Hid (Row (((w.alloc (.cells XS.toArray 29)).alloc (.cells #[.slice none 0 0, .slice none 0 0, .slice none 0 0] 29)).alloc (.cells #[.slice none 0 0, .slice none 0 0, .slice none 0 0] 29)) w.heap.size 29 XS) := ((Row.at _ _ _ _ _ rfl rfl).alloc _).alloc _
  have HR1 : Hid (Row (((w.alloc (.cells XS.toArray 29)).alloc (.cells #[.slice none 0 0, .slice none 0 0, .slice none 0 0] 29)).alloc (.cells #[.slice none 0 0, .slice none 0 0, .slice none 0 0] 29)) (w.heap.size + 1) 29 [nilS, nilS, nilS]) := (Row.at _ _ _ _ _ (by simp) rfl).alloc _
  have HRD : Hid (Row (((w.alloc (.cells XS.toArray 29)).alloc (.cells #[.slice none 0 0, .slice none 0 0, .slice none 0 0] 29)).alloc (.cells #[.slice none 0 0, .slice none 0 0, .slice none 0 0] 29)) (w.heap.size + 1 + 1) 29 [nilS, nilS, nilS]) := Row.at _ _ _ _ _ (by simp) rfl
  have HB1 : Hid (Below w.heap.size w (((w.alloc (.cells XS.toArray 29)).alloc (.cells #[.slice none 0 0, .slice none 0 0, .slice none 0 0] 29)).alloc (.cells #[.slice none 0 0, .slice none 0 0, .slice none 0 0] 29))) := (((Below.refl _ _).alloc (Nat.le_refl _) _).alloc (by simp) _).alloc (by simp; omega) _
  go_enter Tryd.func17, Tryd.ntmps17
  go_wp2_with fail
  generalize ((w.alloc (.cells XS.toArray 29)).alloc (.cells #[.slice none 0 0, .slice none 0 0, .slice none 0 0] 29)).alloc (.cells #[.slice none 0 0, .slice none 0 0, .slice none 0 0] 29) = W1 at *
  have HPM0 : Hid (PM w.heap.size (w.heap.size + 1 + 1) nilS (t.pages.take 0) [] none 0 none 0 [] W1) := ⟨HRD.out, World.ownsRow_nil _ _ _ _, fun i v g hv => by simp at hv, World.ownsRow_nil _ _ _ _, HB1.out.size⟩
  obtain ⟨N, hN⟩ : ∃ N, w.heap.size = N := ⟨_, rfl⟩
  have HNE : Hid (w.heap.size = N) := hN
  rw [hN] at HPG HIE HIB HR0 HR1 HRD HB1 HPM0 ⊢
  clear hN HRD
  go_loopw [4] (fun iv wr => ∃ (i : Nat) (po : Option Addr) (pc : Nat) (qs : List Value), i ≤ t.pages.length ∧ iv = .int .i64 i ∧ Hid (PM N (N + 1 + 1) nilS (t.pages.take i) [] po pc none 0 qs wr) ∧ Hid (Below N w wr) ∧ Hid (Row wr N 29 XS) ∧ Hid (Row wr (N + 1) 29 [nilS, nilS, nilS])) (fun iv _ => t.pages.length - (intOf iv).toNat)
  case atStart => exact ⟨0, none, 0, [], by omega, rfl, HPM0, HB1, HR0, HR1⟩
  case round =>
    clear HPM0 HB1 HR0 HR1
    obtain ⟨i, po, pc, qs, hi, rfl, HPM, HB, HR0, HR1⟩ := hrel
    have x1 := HR0.out
    rw [HEX.out] at x1
    have c0 := x1.cell 0 _ rfl
    have c1 := x1.cell 1 _ rfl
    have c2 := x1.cell 2 _ rfl
    by_cases hlt : i < t.pages.length
    · have y0 : (0 : Int) ≤ (i : Int) := by omega
      have y1 : (i : Int) < (t.pages.length : Int) := by omega
      obtain ⟨PB, poff, qo, qc, hpo, hpg, hqn, hgl, h32⟩ := HPG.out i hlt
      have HTK1 := HTK.out i hlt
      have HTKH : Hid (t.pages.take (i + 1) = t.pages.take i ++ [t.pages.getD i []]) := HTK1
      clear HTK1
      obtain ⟨g, hg⟩ : ∃ g, t.pages.getD i [] = g := ⟨_, rfl⟩
      rw [hg] at hpg hgl h32 HTKH
      clear hg
      obtain ⟨n, hn⟩ : ∃ n, g.length = n := ⟨_, rfl⟩
      have HGN : Hid (g.length = n) := hn
      rw [hn] at hpg hgl
      clear hn
      have HPO : Hid (v.po = some ⟨PB, poff, none⟩) := hpo
      have hlen : (t.pages.take i).length = i := by rw [List.length_take]; omega
      rw [hpo] at c0
      -- the world behind the empty slice
      have bg : Below wr.heap.size wr (wr.alloc (.cells #[] 56)) := (Below.refl _ _).alloc (Nat.le_refl _) _
      have HPMg : Hid (PM N (N + 1 + 1) nilS (t.pages.take i) [] po pc none 0 qs (wr.alloc (.cells #[] 56))) := HPM.out.below bg
      have HGG : Hid ((wr.alloc (.cells #[] 56)).heap[wr.heap.size]? = some (.cells #[] 56)) := heap_alloc_new wr _
      have HBg : Hid (Below N w (wr.alloc (.cells #[] 56))) := HB.out.trans (bg.mono HPM.out.sz)
      have HR0g : Hid (Row (wr.alloc (.cells #[] 56)) N 29 XS) := HR0.out.alloc _
      have HR1g : Hid (Row (wr.alloc (.cells #[] 56)) (N + 1) 29 [nilS, nilS, nilS]) := HR1.out.alloc _
      have hgz : wr.heap.size < (wr.alloc (.cells #[] 56)).heap.size := by simp
      have hNg1 : N ≤ wr.heap.size := HPM.out.sz
      clear hpo x1 bg HPM HB HR0 HR1
      go_upto_region 6 with fail
      generalize wr.alloc (.cells #[] 56) = wg at *
      obtain ⟨g1, hg1⟩ : ∃ g1, wr.heap.size = g1 := ⟨_, rfl⟩
      rw [hg1] at HGG hgz hNg1 ⊢
      clear hg1
      have hNle : N ≤ wg.heap.size := HPMg.out.sz
      have hDlt : N + 1 + 1 < wg.heap.size := HPMg.out.out.lt
      have HPR : Hid (wg.ownsRow N 57 1 (.slice po i pc) i qs) := by have := HPMg.out.pr; rw [hlen] at this; exact this
      have hpoD : ∀ (b : Nat) (cs : List Value), Row wg b 29 cs → ∀ g', po = some ⟨g', 0, none⟩ → b ≠ g' := fun b cs hr g' hg' e => by
        obtain ⟨cur, hcur⟩ := owns_type HPR.out g' hg'
        rw [← e, hr] at hcur
        injection hcur with hcur
        injection hcur with _ hty _
        exact absurd hty (by decide)
      have HDP : Hid (∀ g', po = some ⟨g', 0, none⟩ → N + 1 + 1 ≠ g') := hpoD _ _ HPMg.out.out
      have HOD : Hid (Row wg (N + 1 + 1) 29 [.slice po i pc, nilS, nilS]) := by have := HPMg.out.out; rw [hlen] at this; exact this
      have HD0 : Hid (∀ W : World, W.heap[N + 1 + 1]? = wg.heap[N + 1 + 1]? → Row W (N + 1 + 1) 29 [.slice po i pc, nilS, nilS]) := fun W hW => hW.trans HOD.out
      have HS0 : Hid (∀ W : World, (∀ k, k < wg.heap.size → k ≠ N + 1 + 1 → (∀ g', po = some ⟨g', 0, none⟩ → k ≠ g') → W.heap[k]? = wg.heap[k]?) → W.cell? ⟨N, 0, none⟩ = some (.slice (some ⟨PB, poff, none⟩) t.pages.length v.pc)) := fun W hW => by
        have hr : Row W N 29 XS := (hW N HR0g.out.lt (by omega) (hpoD _ _ HR0g.out)).trans HR0g.out
        rw [HEX.out, HPO.out] at hr
        exact hr.cell 0 _ rfl
      have HPB : Hid (∀ W : World, Below N wg W → W.cell? ⟨PB, poff + i, none⟩ = some (.slice qo n qc) ∧ IsL W qo (g.flatten.map B8)) := fun W hW => hpg W (HBg.out.trans hW)
      have lfl : (g.flatten.map B8).length = n * 32 := by rw [List.length_map, flat_len32 g h32, HGN.out]
      have of1 : ∀ u ∈ g.flatten.map B8, Value.oneCell' u = true := B8_one _
      have HR0x : Hid (∀ W : World, (∀ k, k < wg.heap.size → k ≠ N + 1 + 1 → (∀ g', po = some ⟨g', 0, none⟩ → k ≠ g') → W.heap[k]? = wg.heap[k]?) → Row W N 29 XS ∧ Row W (N + 1) 29 [nilS, nilS, nilS]) := fun W hW => ⟨(hW N HR0g.out.lt (by omega) (hpoD _ _ HR0g.out)).trans HR0g.out, (hW (N + 1) HR1g.out.lt (by omega) (hpoD _ _ HR1g.out)).trans HR1g.out⟩
      clear hpoD hpg c0 c1 c2 HR0g HR1g
      obtain ⟨FL, hFL⟩ : ∃ FL, g.flatten.map B8 = FL := ⟨_, rfl⟩
      have HFL : Hid (g.flatten.map B8 = FL) := hFL
      rw [hFL] at HPB lfl of1
      clear hFL
      have hml : n ≤ maxLen := by unfold maxLen; omega
      have hm1 : i + 1 ≤ maxLen := by unfold maxLen; omega
      have hl24 : (i + 1) * 24 ≤ 140737488355328 := by omega
      have hl32 : n * 32 ≤ 140737488355328 := by omega
      refine wp_region_inv (ICp6 wg N (N + 1 + 1) g1 N i n PB poff t.pages.length v.pc qc pc FL qs po qo _ _ _ _ _ _ _ _ _ _ _ _ _ _ _ _ _ _ _ _ _ _ _ _ _ _ _ _ _ _) (by kernel_rfl) (by kernel_rfl) ⟨_, _, _, _, _, _, _, _, _, _, _, _, rfl, ⟨CR.zero hNle _ _ _, fun k => (by cases k), fun k => (by cases k), fun k => (by cases k), fun k => (by cases k), fun k => (by cases k), fun k => (by cases k), fun k => (by cases k), fun k => (by cases k), fun k => (by cases k), fun k => (by cases k)⟩⟩ ?_ ?_
      · refine .cons ?_ (.cons ?_ (.cons ?_ (.cons ?_ (.cons ?_ (.cons ?_ (.cons ?_ (.cons ?_ (.cons ?_ (.cons ?_ (.cons ?_ (.cons ?_ (.cons ?_ .nil))))))))))))
        all_goals (rintro L _ W ⟨x17, x18, x19, x20, x21, x22, x23, x24, x25, x26, x27, x28, rfl, hI⟩ hL hd K hK)
        · rw [if_pos (by rfl)]
          go_simp
          exact hK.out _ _ ⟨_, _, _, _, _, _, _, _, _, _, _, _, rfl, { hI with p0 := fun _ => rfl }⟩
        · obtain rfl := hI.p0 (hd 0 (by decide))
          rw [if_pos (by rfl)]
          have h10 : L 10 = false := ff hI.c10_1 hL
          have h12 := ff hI.x.o2 h10
          have hc := (HD0.out W (hI.x.b h12)).cell 0 _ rfl
          go_simp
          exact hK.out _ _ ⟨_, _, _, _, _, _, _, _, _, _, _, _, rfl, { hI with p1 := fun _ => rfl, c10_1 := fun _ => rfl }⟩
        · rw [if_pos (by rfl)]
          go_simp
          exact hK.out _ _ ⟨_, _, _, _, _, _, _, _, _, _, _, _, rfl, { hI with p2 := fun _ => rfl }⟩
        · rw [if_pos (by rfl)]
          go_simp
          exact hK.out _ _ ⟨_, _, _, _, _, _, _, _, _, _, _, _, rfl, { hI with p3 := fun _ => rfl }⟩
        · obtain rfl := hI.p3 (hd 3 (by decide))
          rw [if_pos (by rfl)]
          have hc := HS0.out W hI.x.oth
          go_simp
          exact hK.out _ _ ⟨_, _, _, _, _, _, _, _, _, _, _, _, rfl, { hI with p4 := fun _ => rfl }⟩
        · rw [if_pos (by rfl)]
          go_simp
          exact hK.out _ _ ⟨_, _, _, _, _, _, _, _, _, _, _, _, rfl, { hI with p5 := fun _ => rfl }⟩
        · obtain rfl := hI.p4 (hd 4 (by decide))
          obtain rfl := hI.p5 (hd 5 (by decide))
          rw [if_pos (by rfl)]
          go_simp
          exact hK.out _ _ ⟨_, _, _, _, _, _, _, _, _, _, _, _, rfl, { hI with p6 := fun _ => rfl }⟩
        · obtain rfl := hI.p6 (hd 6 (by decide))
          rw [if_pos (by rfl)]
          have hc := (HPB.out W hI.x.bel).1
          go_simp
          exact hK.out _ _ ⟨_, _, _, _, _, _, _, _, _, _, _, _, rfl, { hI with p7 := fun _ => rfl }⟩
        · obtain rfl := hI.p2 (hd 2 (by decide))
          obtain rfl := hI.p7 (hd 7 (by decide))
          refine step_append_fresh el_cells rfl (.tmp 19) (.tmp 24) rfl N g1 rfl (((hI.x.bel0 hL).block g1 hgz).trans HGG.out) hNg1 qo n qc FL rfl lfl (HPB.out W hI.x.bel).2 of1 hqn hml hl32 ?_
          intro g2 cc2 W2 ho2 hb2 hg2 _ _
          have hX := hI.x.s25 hL hNle hDlt ho2 hb2 hg2
          exact hK.out _ _ ⟨_, _, _, _, _, _, _, _, _, _, _, _, rfl, { hI with x := hX }⟩
        · rw [if_pos (by rfl)]
          have h25 := hd 8 (by decide)
          have hX := hI.x.s26 hL h25 hNle hDlt
          obtain ⟨gq, cq, e25, hgq, hoq⟩ := hI.x.r25 h25
          subst e25
          go_simp
          exact hK.out _ _ ⟨_, _, _, _, _, _, _, _, _, _, _, _, rfl, { hI with x := hX }⟩
        · obtain rfl := hI.p1 (hd 1 (by decide))
          have h26 := hd 9 (by decide)
          obtain ⟨gq, cq, e25, hgq, hoq⟩ := hI.x.r25 (hI.x.o0 h26)
          obtain ⟨M, e26, hM, rM⟩ := hI.x.r26 h26 hL
          refine step_append_gen el_pages rfl (.tmp 18) (.tmp 26) rfl N W po i pc qs rfl (owns_kept HPR.out (fun g hg => (hI.x.a hL).block g (owns_at HPR.out g hg).2)) (Nat.le_trans hNle hI.x.bel.size) (Below.refl _ _) (some ⟨M, 0, none⟩) 1 1 [x25] e26 rfl (.inr ⟨M, 0, rfl, fun j u hu => by rw [Nat.zero_add]; exact rM.cell j u hu⟩) (by intro u hu; rw [List.mem_singleton.1 hu, e25]; rfl) (fun e => by cases e) hm1 hl24 ?_
          intro ao7 c7 W2 ho7 hb7 hs7 hk7
          have hX := hI.x.s27 hL h26 hNle hDlt HDP.out pc HPR.out ho7 hb7 hs7 hk7
          exact hK.out _ _ ⟨_, _, _, _, _, _, _, _, _, _, _, _, rfl, { hI with x := hX, c10_1 := fun _ => (hd 1 (by decide)) }⟩
        · rw [if_pos (by rfl)]
          go_simp
          exact hK.out _ _ ⟨_, _, _, _, _, _, _, _, _, _, _, _, rfl, { hI with p11 := fun _ => rfl }⟩
        · obtain rfl := hI.p11 (hd 11 (by decide))
          have hL1 := (hI.c10_1 (hd 10 (by decide)))
          rw [if_pos (by rfl)]
          have h27 := hd 10 (by decide)
          obtain ⟨ao7, c7, e27, hr27⟩ := hI.x.r27 h27
          subst e27
          have hDW := HD0.out W (hI.x.b hL)
          have cD := hDW.cell 0 _ rfl
          have fD := hDW.frozen 0
          have hX := hI.x.s12 h27 (by omega) _ HOD.out (hDW.set 0 (.slice ao7 (i + 1) c7)) (SameBut.setCell _ 0 (.slice ao7 (i + 1) c7) W) hL
          go_simp
          exact hK.out _ _ ⟨_, _, _, _, _, _, _, _, _, _, _, _, rfl, { hI with x := hX }⟩
      · rintro L _ W hall ⟨x17, x18, x19, x20, x21, x22, x23, x24, x25, x26, x27, x28, rfl, hI⟩
        obtain rfl := hI.p0 (hall 0 (by decide))
        obtain rfl := hI.p1 (hall 1 (by decide))
        obtain rfl := hI.p2 (hall 2 (by decide))
        obtain rfl := hI.p3 (hall 3 (by decide))
        obtain rfl := hI.p4 (hall 4 (by decide))
        obtain rfl := hI.p5 (hall 5 (by decide))
        obtain rfl := hI.p6 (hall 6 (by decide))
        obtain rfl := hI.p7 (hall 7 (by decide))
        obtain rfl := hI.p11 (hall 11 (by decide))
        have hXe := hI.x
        rw [hall 8 (by decide)] at hXe
        rw [hall 9 (by decide)] at hXe
        rw [hall 10 (by decide)] at hXe
        rw [hall 12 (by decide)] at hXe
        clear hI hall
        try dsimp only
        have HCR : Hid (CR N (N + 1 + 1) g1 i n FL qs po wg true true true true x25 x26 x27 W) := hXe
        obtain ⟨po2, pc2, hpm2⟩ := CR.push (g := g) (by rw [HFL.out]; exact HCR.out) HPMg.out hlen HGN.out h32
        obtain ⟨hr0, hr1⟩ := HR0x.out W HCR.out.oth
        have HPM2 : Hid (PM N (N + 1 + 1) nilS (t.pages.take (i + 1)) [] po2 pc2 none 0 (qs ++ [x25]) W) := by rw [HTKH.out]; exact hpm2
        have HB2 : Hid (Below N w W) := HBg.out.trans HCR.out.bel
        have HR02 : Hid (Row W N 29 XS) := hr0
        have HR12 : Hid (Row W (N + 1) 29 [nilS, nilS, nilS]) := hr1
        have wi : IntKind.i64.wrap ((i : Int) + 1) = (i : Int) + 1 := i64_in _ (by omega) (by omega)
        clear hXe hpm2 hr0 hr1 HCR HPMg HBg
        go_wp2
        exact ⟨⟨i + 1, po2, pc2, qs ++ [x25], by omega, by go_num, HPM2, HB2, HR02, HR12⟩, by simp [intOf]; omega⟩
    · obtain rfl : i = t.pages.length := by omega
      have y1 : ¬ (t.pages.length : Int) < (t.pages.length : Int) := by omega
      have hlen : t.pages.take t.pages.length = t.pages := List.take_length
      rw [hlen] at HPM
      have hNw : N ≤ wr.heap.size := HPM.out.sz
      have hDw : N + 1 + 1 < wr.heap.size := HPM.out.out.lt
      have ba : Below wr.heap.size wr ((wr.alloc (.cells #[] 3)).alloc (.cells #[] 4)) := ((Below.refl _ _).alloc (Nat.le_refl _) _).alloc (by simp) _
      have hea : ((wr.alloc (.cells #[] 3)).alloc (.cells #[] 4)).heap[wr.heap.size]? = some (.cells #[] 3) := by
        rw [Below.heap_alloc _ _ _ (by simp)]; exact heap_alloc_new wr _
      have hba : ((wr.alloc (.cells #[] 3)).alloc (.cells #[] 4)).heap[wr.heap.size + 1]? = some (.cells #[] 4) := by
        have := heap_alloc_new (wr.alloc (.cells #[] 3)) (.cells #[] 4)
        simpa using this
      have hza : ((wr.alloc (.cells #[] 3)).alloc (.cells #[] 4)).heap.size = wr.heap.size + 1 + 1 := by simp
      go_upto_region 9 with fail
      generalize (wr.alloc (.cells #[] 3)).alloc (.cells #[] 4) = wb at *
      have HBA : Hid (Below wr.heap.size wr wb) := ba
      have hil := HIE.out wb (HB.out.trans (ba.mono hNw))
      have HRb : Hid (Row wb N 29 XS ∧ Row wb (N + 1) 29 [nilS, nilS, nilS]) := ⟨HR0.out.below ba HR0.out.lt, HR1.out.below ba HR1.out.lt⟩
      have rOb : Row wb (N + 1 + 1) 29 [.slice po t.pages.length pc, nilS, nilS] := HPM.out.out.below ba hDw
      have x2 := HRb.out.1
      rw [HEX.out] at x2
      have e1 := x2.cell 1 _ rfl
      clear c0 c1 c2 x1 x2 ba
      have HZA : Hid (wb.heap.size = wr.heap.size + 1 + 1) := hza
      have hE8 : t.erases.length * 8 ≤ 140737488355328 := by omega
      have hEm : t.erases.length ≤ maxLen := by unfold maxLen; omega
      have hBm : t.blown.length ≤ maxLen := by unfold maxLen; omega
      have hB8 : t.blown.length * 1 ≤ 140737488355328 := by omega
      have HIL : Hid (IsL wb v.eo (t.erases.map (Value.int .i64))) := hil
      clear hza hil
      go_upto_region 10 with (at_builtin; refine wpList_append_fresh el_ints rfl (.tmp 31) (.tmp 33) rfl N wr.heap.size rfl hea hNw v.eo t.erases.length v.ec (t.erases.map (Value.int .i64)) rfl (by rw [List.length_map, Nat.mul_one]) HIL.out (ints_one _) hen hEm hE8 ?_; intro ge ce wc hoe hbe hge; have rOc := rOb.below hbe rOb.lt; have cO := rOc.cell 1 _ rfl; have fO := rOc.frozen 1)
      have sb := SameBut.setCell (N + 1 + 1) 1 (.slice (some ⟨ge, 0, none⟩) t.erases.length ce) wc
      have HOd : Hid (Row (wc.setCell ⟨N + 1 + 1, 1, none⟩ (.slice (some ⟨ge, 0, none⟩) t.erases.length ce)) (N + 1 + 1) 29 [.slice po t.pages.length pc, .slice (some ⟨ge, 0, none⟩) t.erases.length ce, nilS]) := rOc.set 1 _
      have hgeD : ge ≠ N + 1 + 1 := by have := HZA.out; rcases hge with e | e <;> omega
      have HEd : Hid ((wc.setCell ⟨N + 1 + 1, 1, none⟩ (.slice (some ⟨ge, 0, none⟩) t.erases.length ce)).ownsRow N 3 1 (.slice (some ⟨ge, 0, none⟩) t.erases.length ce) t.erases.length (t.erases.map (Value.int .i64))) := owns_kept hoe fun b hb => sb.block b (fun e => by rw [e] at hb; injection hb with hb; injection hb with hb; exact hgeD hb)
      have HKd : Hid (KeptL [N + 1 + 1] wb (wc.setCell ⟨N + 1 + 1, 1, none⟩ (.slice (some ⟨ge, 0, none⟩) t.erases.length ce))) := ((KeptL.refl _ _).below hbe (Nat.le_refl _)).but sb (.inl (by simp))
      have HGE : Hid (ge = wr.heap.size ∨ wb.heap.size ≤ ge) := by rcases hge with e | e; exact .inl e; exact .inr (by omega)
      generalize wc.setCell ⟨N + 1 + 1, 1, none⟩ (.slice (some ⟨ge, 0, none⟩) t.erases.length ce) = wd at *
      clear hoe hbe hge rOc cO fO rOb sb hea e1 HIL
      have hkd := HKd.out
      have hbd : wd.heap[wr.heap.size + 1]? = some (.cells #[] 4) := (hkd.block _ (by have := HZA.out; omega) (by simp; omega)).trans hba
      have HBd : Hid (Below N w wd) := below_keptL (HB.out.trans (HBA.out.mono hNw)) hkd (fun b hb => by rw [List.mem_singleton.1 hb]; omega) (by have := HZA.out; omega)
      have HIL : Hid (IsL wd v.bo (t.blown.map Value.bool)) := HIB.out wd HBd.out
      have x2 := hkd.row HRb.out.1 (by simp; omega)
      rw [HEX.out] at x2
      have e2 := x2.cell 2 _ rfl
      have rOd := HOd.out
      clear hkd x2 hba
      go_upto_region 11 with (at_builtin; refine wpList_append_fresh el_bools rfl (.tmp 36) (.tmp 38) rfl N (wr.heap.size + 1) rfl hbd (by omega) v.bo t.blown.length v.bc (t.blown.map Value.bool) rfl (by rw [List.length_map, Nat.mul_one]) HIL.out (bools_one _) hbn hBm hB8 ?_; intro gb cb we hob hbb hgb; have rOe := rOd.below hbb rOd.lt; have cO := rOe.cell 2 _ rfl; have fO := rOe.frozen 2)
      have sb := SameBut.setCell (N + 1 + 1) 2 (.slice (some ⟨gb, 0, none⟩) t.blown.length cb) we
      have HOf : Hid (Row (we.setCell ⟨N + 1 + 1, 2, none⟩ (.slice (some ⟨gb, 0, none⟩) t.blown.length cb)) (N + 1 + 1) 29 [.slice po t.pages.length pc, .slice (some ⟨ge, 0, none⟩) t.erases.length ce, .slice (some ⟨gb, 0, none⟩) t.blown.length cb]) := rOe.set 2 _
      have hgbD : gb ≠ N + 1 + 1 := by have := HZA.out; have := HKd.out.size; rcases hgb with e | e <;> omega
      have HBf : Hid ((we.setCell ⟨N + 1 + 1, 2, none⟩ (.slice (some ⟨gb, 0, none⟩) t.blown.length cb)).ownsRow N 4 1 (.slice (some ⟨gb, 0, none⟩) t.blown.length cb) t.blown.length (t.blown.map Value.bool)) := owns_kept hob fun b hb => sb.block b (fun e => by rw [e] at hb; injection hb with hb; injection hb with hb; exact hgbD hb)
      have HEf : Hid ((we.setCell ⟨N + 1 + 1, 2, none⟩ (.slice (some ⟨gb, 0, none⟩) t.blown.length cb)).ownsRow N 3 1 (.slice (some ⟨ge, 0, none⟩) t.erases.length ce) t.erases.length (t.erases.map (Value.int .i64))) := owns_kept HEd.out fun b hb => (sb.block b (fun e => by rw [e] at hb; injection hb with hb; injection hb with hb; exact hgeD hb)).trans (hbb.block b (owns_at HEd.out b hb).2)
      have HKf : Hid (KeptL [N + 1 + 1] wb (we.setCell ⟨N + 1 + 1, 2, none⟩ (.slice (some ⟨gb, 0, none⟩) t.blown.length cb))) := HKd.out.trans (((KeptL.refl _ _).below hbb (Nat.le_refl _)).but sb (.inl (by simp)))
      generalize we.setCell ⟨N + 1 + 1, 2, none⟩ (.slice (some ⟨gb, 0, none⟩) t.blown.length cb) = wf at *
      clear hob hbb hgb rOe cO fO rOd sb hbd e2 HIL HOd HEd HKd HBd
      have HKw : Hid (KeptL [N + 1 + 1] wr wf) := ((KeptL.refl _ _).below HBA.out (Nat.le_refl _)).trans HKf.out
      have HPMf : Hid (PM N (N + 1 + 1) (.slice (some ⟨gb, 0, none⟩) t.blown.length cb) t.pages t.erases po pc (some ⟨ge, 0, none⟩) ce qs wf) := HPM.out.redo HKw.out (fun b hb => by rw [List.mem_singleton.1 hb]; exact ⟨_, HPM.out.out⟩) HOf.out HEf.out
      have r1f : Row wf (N + 1) 29 [nilS, nilS, nilS] := HKf.out.row HRb.out.2 (by simp)
      have HBw : Hid (Below N w wf) := below_keptL HB.out HKw.out (fun b hb => by rw [List.mem_singleton.1 hb]; omega) hNw
      have rDf := HOf.out
      have HR1f : Hid (Row wf (N + 1) 29 [nilS, nilS, nilS]) := r1f
      clear HPM HB HBA HKf HKw HRb HR0 HR1
      obtain ⟨YS, hYS⟩ : ∃ YS : List Value, YS = [.slice po t.pages.length pc, .slice (some ⟨ge, 0, none⟩) t.erases.length ce, .slice (some ⟨gb, 0, none⟩) t.blown.length cb] := ⟨_, rfl⟩
      have lY : YS.length = 3 := by rw [hYS]; rfl
      have oY : ∀ u ∈ YS, Value.oneCell' u = true := by rw [hYS]; intro u hu; simp at hu; rcases hu with rfl | rfl | rfl <;> rfl
      have HYS : Hid (YS = SV.vals ⟨po, pc, some ⟨ge, 0, none⟩, ce, some ⟨gb, 0, none⟩, cb⟩ t) := hYS
      rw [← hYS] at rDf
      clear hYS
      go_wp2_with (first | (refine wpList_load_Row rfl 29 _ rfl _ _ YS rDf rfl _ Tryd.underlying29 rfl (by rw [lY]; kernel_rfl) ?_) | (refine wpList_store_Row rfl 29 _ _ rfl (N + 1) 29 0 [nilS, nilS, nilS] YS r1f (by rw [lY]; decide) rfl rfl (by rw [lY]; kernel_rfl) oY ?_; intro wz hrz hsz))
      have rz := row_whole hrz (by rw [lY]; decide)
      refine bodyPost_ret_by (results_Row Tryd.results17 _ wz (N + 1) 29 _ _ rfl rz Tryd.underlying29 rfl (by rw [lY]; kernel_rfl)) rfl ?_
      refine ⟨⟨po, pc, some ⟨ge, 0, none⟩, ce, some ⟨gb, 0, none⟩, cb⟩, by rw [HYS.out], ?_, by rw [HNE.out]; exact hsz.below HBw.out (by omega)⟩
      have kz : KeptL [N + 1] wf wz := (KeptL.refl _ _).but hsz (.inl (by simp))
      have ty1 : ∀ (b : Nat) (cur : Array Value) (e : Nat), e ≠ 29 → wf.heap[b]? = some (.cells cur e (0, 0)) → b ≠ N + 1 := fun b cur e he hb hm => by
        rw [hm, HR1f.out] at hb
        injection hb with hb
        injection hb with _ hb _
        exact he hb.symm
      have pz := HPMf.out.redo kz (fun b hb => by rw [List.mem_singleton.1 hb]; exact ⟨_, HR1f.out⟩) (kz.row HOf.out (by simp)) (owns_kept HEf.out fun b hb => by
        obtain ⟨cur, hc⟩ := owns_type HEf.out b hb
        exact hsz.block b (ty1 b cur _ (by decide) hc))
      exact pz.view (owns_isL (owns_kept HBf.out fun b hb => by
        obtain ⟨cur, hc⟩ := owns_type HBf.out b hb
        exact hsz.block b (ty1 b cur _ (by decide) hc))) cb
end Go.Proofs.YtgpnbiaghokjkaaDoor
