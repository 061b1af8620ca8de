import Derived.Test.YtljjfhllpbcpeaaR5DoesS
/-! RailDoes: every call, of any bytes. (Its drawn region is printed by tools/gendoes5.py.) -/
namespace Go.Proofs.Ytljjfhllpbcpeaa
open Go.RowKit

theorem refGet_eq (ao : Option Addr) (n cap : Nat) (bs : List By) (hbs : bs.length = n) (k : Nat) (g : List By) (E : Int) (hg : gotB bs = g) (hk : g.length = k) (hE : gotE bs = E) (w : World) (hb : IsB w ao bs) (hn : n ≤ cap) (hnil : ao = none → cap = 0) (hl : n ≤ 140737488351232) :
    Calls Try.prog 10 #[.slice ao n cap] w fun e w' => GetPostE w k g E e w' := by
  subst hk hg hE; exact refGet_any ao n cap bs hbs w hb hn hnil hl

set_option maxHeartbeats 4000000 in
set_option maxRecDepth 100000 in
theorem does_any (ao bo : Option Addr) (n cap nb cb : Nat) (a b : List By) (ha : a.length = n) (hb : b.length = nb) (w : World) (ia : IsB w ao a) (ib : IsB w bo b) (hna : ao = none → cap = 0) (hcap : n ≤ cap) (hl : n ≤ 1048576) (hlb : nb ≤ 1048576) :
    Calls Try.prog 4 #[.slice ao n cap, .slice bo nb cb] w fun e w' => e = .returned (.bool true) ∧ Below w.heap.size w w' := by
  have HA : Hid (a.length = n) := ha
  have HB : Hid (b.length = nb) := hb
  have HNA : Hid (ao = none → cap = 0) := hna
  have JA : Hid (∀ w', Below w.heap.size w w' → IsB w' ao a) := fun w' h => ia.below h (Nat.le_refl _)
  have JB : Hid (∀ w', Below w.heap.size w w' → IsB w' bo b) := fun w' h => ib.below h (Nat.le_refl _)
  have HRA : Hid ((rail a).length = 2 * n) := by show _ = _; rw [rail_len, HA.out]
  clear ha hb hna ia ib
  obtain ⟨G, hG⟩ : ∃ G, gotB a = G := ⟨_, rfl⟩
  obtain ⟨k, hk⟩ : ∃ k, G.length = k := ⟨_, rfl⟩
  obtain ⟨E, hE⟩ : ∃ E, gotE a = E := ⟨_, rfl⟩
  obtain ⟨r, hr⟩ : ∃ r, rightB a = r := ⟨_, rfl⟩
  obtain ⟨q1, hq1⟩ : ∃ q, belowB a b = q := ⟨_, rfl⟩
  obtain ⟨q2, hq2⟩ : ∃ q, belowB b a = q := ⟨_, rfl⟩
  have GG : Hid (gotB a = G) := hG
  have HG : Hid (G.length = k) := hk
  have HE : Hid (gotE a = E) := hE
  have HR : Hid (rightB a = r) := hr
  have HQ1 : Hid (belowB a b = q1) := hq1
  have HQ2 : Hid (belowB b a = q2) := hq2
  clear hG hk hE hr hq1 hq2
  go_enter Try.func4, Try.ntmps4
  go_wp2_with fail
  refine (get_eq ao n cap a HA.out k G E GG.out HG.out HE.out w (JA.out _ (Below.refl _ _)) hcap (by omega)).mono ?_
  rintro e w1 ⟨aoX, cX, rfl, o1, b1⟩
  have B1 : Hid (Below w.heap.size w w1) := b1
  have O1 : Hid (∀ w', Below w1.heap.size w1 w' → IsB w' aoX G) := fun w' h => (own_IsB o1).below h (Nat.le_refl _)
  clear o1 b1
  go_wp2_with fail
  refine (refGet_eq ao n cap a HA.out k G E GG.out HG.out HE.out w1 (JA.out _ B1.out) hcap HNA.out (by omega)).mono ?_
  rintro e W1 ⟨aoY, cY, rfl, o2, b2⟩
  have B2 : Hid (Below w.heap.size w W1) := B1.out.trans (b2.mono B1.out.size)
  have IA : Hid (∀ w', Below W1.heap.size W1 w' → IsB w' ao a) := fun w' h => JA.out w' (B2.out.trans (h.mono B2.out.size))
  have IB : Hid (∀ w', Below W1.heap.size W1 w' → IsB w' bo b) := fun w' h => JB.out w' (B2.out.trans (h.mono B2.out.size))
  have IX : Hid (∀ w', Below W1.heap.size W1 w' → IsB w' aoX G) := fun w' h => O1.out w' (b2.trans (h.mono b2.size))
  have IY : Hid (∀ w', Below W1.heap.size W1 w' → IsB w' aoY G) := fun w' h => (own_IsB o2).below h (Nat.le_refl _)
  clear o2 b2 O1 B1 JA JB
  go_upto_region 3 with fail
  refine wp_region_inv (ID3 W1 ao bo aoX aoY n cap nb cb k cX cY a (strOf G) E r q1 q2 _ _ _ _ _ _ _ _ _ _ _ _ _ _ _ _ _ _) (by kernel_rfl) (by kernel_rfl) ⟨_, _, _, _, _, _, _, _, _, _, _, _, _, _, _, _, _, _, _, _, _, _, _, _, _, _, _, _, _, _, _, _, _, _, _, _, _, _, _, _, _, _, _, _, _, _, _, _, rfl, D3.zero W1 ao bo aoX aoY n cap nb cb k cX cY a (strOf G) E r q1 q2 _ _ _ _ _ _ _ _ _ _ _ _ _ _ _ _ _ _ _ _ _ _ _ _ _ _ _ _ _ _ _ _ _ _ _ _ _ _ _ _ _ _ _ _ _ _ _ _⟩ ?_ ?_
  · refine .cons ?_ (.cons ?_ (.cons ?_ (.cons ?_ (.cons ?_ (.cons ?_ (.cons ?_ (.cons ?_ (.cons ?_ (.cons ?_ (.cons ?_ (.cons ?_ (.cons ?_ (.cons ?_ (.cons ?_ (.cons ?_ (.cons ?_ (.cons ?_ (.cons ?_ (.cons ?_ (.cons ?_ (.cons ?_ (.cons ?_ (.cons ?_ (.cons ?_ (.cons ?_ (.cons ?_ (.cons ?_ (.cons ?_ (.cons ?_ (.cons ?_ (.cons ?_ (.cons ?_ (.cons ?_ (.cons ?_ (.cons ?_ (.cons ?_ (.cons ?_ (.cons ?_ (.cons ?_ (.cons ?_ (.cons ?_ (.cons ?_ (.cons ?_ (.cons ?_ (.cons ?_ (.cons ?_ (.cons ?_ .nil)))))))))))))))))))))))))))))))))))))))))))))))
    all_goals (refine D3.step ?_; intro x19 x20 x21 x22 x23 x24 x25 x26 x27 x28 x29 x30 x31 x32 x33 x34 x35 x36 x37 x38 x39 x40 x41 x42 x43 x44 x45 x46 x47 x48 x49 x50 x51 x52 x53 x54 x55 x56 x57 x58 x59 x60 x61 x62 x63 x64 x65 x4 L W hI hL hd K hK)
    · rw [if_pos (by rfl)]
      go_simp
      exact hK.out _ _ ⟨_, _, _, _, _, _, _, _, _, _, _, _, _, _, _, _, _, _, _, _, _, _, _, _, _, _, _, _, _, _, _, _, _, _, _, _, _, _, _, _, _, _, _, _, _, _, _, _, rfl, hI.s0⟩
    · have hx0 := hI.p0 (hd 0 (by decide))
      subst hx0
      rw [if_pos (by rfl)]
      go_simp
      refine (put_eq ao n cap a HA.out (2 * n) rfl (rail a) rfl W (IA.out W hI.bel) (by omega)).mono ?_
      rintro e W2 ⟨g3, rfl, ho3, hb3⟩
      have ho3 : ∃ ao c, Value.slice (some ⟨g3, 0, none⟩) (2 * n) (2 * n) = .slice ao (2 * n) c ∧ Own W1.heap.size W2 (.slice ao (2 * n) c) (rail a) := ⟨_, _, rfl, own_le ho3 hI.bel.size⟩
      exact hK.out _ _ ⟨_, _, _, _, _, _, _, _, _, _, _, _, _, _, _, _, _, _, _, _, _, _, _, _, _, _, _, _, _, _, _, _, _, _, _, _, _, _, _, _, _, _, _, _, _, _, _, _, rfl, (hI.mono hb3).s1 ho3⟩
    · obtain ⟨ao1, c1, hx1, ho1⟩ := hI.p1 (hd 1 (by decide))
      subst hx1
      rw [if_pos (by rfl)]
      have cv := conv_bytes W ao1 _ c1 _ HRA.out (own_IsB ho1)
      go_simp
      exact hK.out _ _ ⟨_, _, _, _, _, _, _, _, _, _, _, _, _, _, _, _, _, _, _, _, _, _, _, _, _, _, _, _, _, _, _, _, _, _, _, _, _, _, _, _, _, _, _, _, _, _, _, _, rfl, hI.s2⟩
    · rw [if_pos (by rfl)]
      go_simp
      exact hK.out _ _ ⟨_, _, _, _, _, _, _, _, _, _, _, _, _, _, _, _, _, _, _, _, _, _, _, _, _, _, _, _, _, _, _, _, _, _, _, _, _, _, _, _, _, _, _, _, _, _, _, _, rfl, hI.s3⟩
    · have hx3 := hI.p3 (hd 3 (by decide))
      subst hx3
      rw [if_pos (by rfl)]
      go_simp
      refine (refPut_any ao n cap a HA.out W (IA.out W hI.bel) HNA.out (by omega)).mono ?_
      rintro e W2 ⟨ao3, c3, rfl, ho3, hb3⟩
      have ho3 : ∃ ao c, Value.slice ao3 (2 * n) c3 = .slice ao (2 * n) c ∧ Own W1.heap.size W2 (.slice ao (2 * n) c) (rail a) := ⟨_, _, rfl, own_le ho3 hI.bel.size⟩
      exact hK.out _ _ ⟨_, _, _, _, _, _, _, _, _, _, _, _, _, _, _, _, _, _, _, _, _, _, _, _, _, _, _, _, _, _, _, _, _, _, _, _, _, _, _, _, _, _, _, _, _, _, _, _, rfl, (hI.mono hb3).s4 ho3⟩
    · obtain ⟨ao4, c4, hx4, ho4⟩ := hI.p4 (hd 4 (by decide))
      subst hx4
      rw [if_pos (by rfl)]
      have cv := conv_bytes W ao4 _ c4 _ HRA.out (own_IsB ho4)
      go_simp
      exact hK.out _ _ ⟨_, _, _, _, _, _, _, _, _, _, _, _, _, _, _, _, _, _, _, _, _, _, _, _, _, _, _, _, _, _, _, _, _, _, _, _, _, _, _, _, _, _, _, _, _, _, _, _, rfl, hI.s5⟩
    · have hx2 := hI.p2 (hd 2 (by decide))
      subst hx2
      have hx5 := hI.p5 (hd 5 (by decide))
      subst hx5
      rw [if_pos (by rfl)]
      go_simp
      exact hK.out _ _ ⟨_, _, _, _, _, _, _, _, _, _, _, _, _, _, _, _, _, _, _, _, _, _, _, _, _, _, _, _, _, _, _, _, _, _, _, _, _, _, _, _, _, _, _, _, _, _, _, _, rfl, hI.s6⟩
    · have hx6 := hI.p6 (hd 6 (by decide))
      subst hx6
      rw [if_pos (by rfl)]
      go_simp
      exact hK.out _ _ ⟨_, _, _, _, _, _, _, _, _, _, _, _, _, _, _, _, _, _, _, _, _, _, _, _, _, _, _, _, _, _, _, _, _, _, _, _, _, _, _, _, _, _, _, _, _, _, _, _, rfl, hI.s7⟩
    · have hx7 := hI.p7 (hd 7 (by decide))
      subst hx7
      rw [if_pos (by rfl)]
      go_simp
      exact hK.out _ _ ⟨_, _, _, _, _, _, _, _, _, _, _, _, _, _, _, _, _, _, _, _, _, _, _, _, _, _, _, _, _, _, _, _, _, _, _, _, _, _, _, _, _, _, _, _, _, _, _, _, rfl, hI.s8⟩
    · have hx8 := hI.p8 (hd 8 (by decide))
      subst hx8
      have hx7 := hI.p7 (hd 7 (by decide))
      subst hx7
      rw [if_pos (by rfl)]
      have cv := conv_bytes W aoX k cX G HG.out (IX.out W hI.bel)
      go_simp
      exact hK.out _ _ ⟨_, _, _, _, _, _, _, _, _, _, _, _, _, _, _, _, _, _, _, _, _, _, _, _, _, _, _, _, _, _, _, _, _, _, _, _, _, _, _, _, _, _, _, _, _, _, _, _, rfl, hI.s9⟩
    · have hx7 := hI.p7 (hd 7 (by decide))
      subst hx7
      rw [if_pos (by rfl)]
      go_simp
      exact hK.out _ _ ⟨_, _, _, _, _, _, _, _, _, _, _, _, _, _, _, _, _, _, _, _, _, _, _, _, _, _, _, _, _, _, _, _, _, _, _, _, _, _, _, _, _, _, _, _, _, _, _, _, rfl, hI.s10⟩
    · have hx10 := hI.p10 (hd 10 (by decide))
      subst hx10
      have hx7 := hI.p7 (hd 7 (by decide))
      subst hx7
      rw [if_pos (by rfl)]
      have cv := conv_bytes W aoY k cY G HG.out (IY.out W hI.bel)
      go_simp
      exact hK.out _ _ ⟨_, _, _, _, _, _, _, _, _, _, _, _, _, _, _, _, _, _, _, _, _, _, _, _, _, _, _, _, _, _, _, _, _, _, _, _, _, _, _, _, _, _, _, _, _, _, _, _, rfl, hI.s11⟩
    · have hx9 := hI.p9 (hd 9 (by decide))
      subst hx9
      have hx11 := hI.p11 (hd 11 (by decide))
      subst hx11
      have hx7 := hI.p7 (hd 7 (by decide))
      subst hx7
      rw [if_pos (by rfl)]
      go_simp
      exact hK.out _ _ ⟨_, _, _, _, _, _, _, _, _, _, _, _, _, _, _, _, _, _, _, _, _, _, _, _, _, _, _, _, _, _, _, _, _, _, _, _, _, _, _, _, _, _, _, _, _, _, _, _, rfl, hI.s12⟩
    · have hx7 := hI.p7 (hd 7 (by decide))
      subst hx7
      have hx12 := hI.p12 (hd 12 (by decide))
      subst hx12
      rw [if_pos (by rfl)]
      go_simp
      exact hK.out _ _ ⟨_, _, _, _, _, _, _, _, _, _, _, _, _, _, _, _, _, _, _, _, _, _, _, _, _, _, _, _, _, _, _, _, _, _, _, _, _, _, _, _, _, _, _, _, _, _, _, _, rfl, hI.s13⟩
    · have hx13 := hI.p13 (hd 13 (by decide))
      subst hx13
      rw [if_pos (by rfl)]
      go_simp
      exact hK.out _ _ ⟨_, _, _, _, _, _, _, _, _, _, _, _, _, _, _, _, _, _, _, _, _, _, _, _, _, _, _, _, _, _, _, _, _, _, _, _, _, _, _, _, _, _, _, _, _, _, _, _, rfl, hI.s14⟩
    · have hx14 := hI.p14 (hd 14 (by decide))
      subst hx14
      rw [if_pos (by rfl)]
      go_simp
      exact hK.out _ _ ⟨_, _, _, _, _, _, _, _, _, _, _, _, _, _, _, _, _, _, _, _, _, _, _, _, _, _, _, _, _, _, _, _, _, _, _, _, _, _, _, _, _, _, _, _, _, _, _, _, rfl, hI.s15⟩
    · have hx14 := hI.p14 (hd 14 (by decide))
      subst hx14
      rw [if_pos (by rfl)]
      go_simp
      exact hK.out _ _ ⟨_, _, _, _, _, _, _, _, _, _, _, _, _, _, _, _, _, _, _, _, _, _, _, _, _, _, _, _, _, _, _, _, _, _, _, _, _, _, _, _, _, _, _, _, _, _, _, _, rfl, hI.s16⟩
    · have hx15 := hI.p15 (hd 15 (by decide))
      subst hx15
      have hx16 := hI.p16 (hd 16 (by decide))
      subst hx16
      have hx14 := hI.p14 (hd 14 (by decide))
      subst hx14
      rw [if_pos (by rfl)]
      go_simp
      exact hK.out _ _ ⟨_, _, _, _, _, _, _, _, _, _, _, _, _, _, _, _, _, _, _, _, _, _, _, _, _, _, _, _, _, _, _, _, _, _, _, _, _, _, _, _, _, _, _, _, _, _, _, _, rfl, hI.s17⟩
    · have hx14 := hI.p14 (hd 14 (by decide))
      subst hx14
      have hx17 := hI.p17 (hd 17 (by decide))
      subst hx17
      rw [if_pos (by rfl)]
      go_simp
      exact hK.out _ _ ⟨_, _, _, _, _, _, _, _, _, _, _, _, _, _, _, _, _, _, _, _, _, _, _, _, _, _, _, _, _, _, _, _, _, _, _, _, _, _, _, _, _, _, _, _, _, _, _, _, rfl, hI.s18⟩
    · have hx18 := hI.p18 (hd 18 (by decide))
      subst hx18
      rw [if_pos (by rfl)]
      go_simp
      exact hK.out _ _ ⟨_, _, _, _, _, _, _, _, _, _, _, _, _, _, _, _, _, _, _, _, _, _, _, _, _, _, _, _, _, _, _, _, _, _, _, _, _, _, _, _, _, _, _, _, _, _, _, _, rfl, hI.s19⟩
    · have hx19 := hI.p19 (hd 19 (by decide))
      subst hx19
      rw [if_pos (by rfl)]
      go_simp
      exact hK.out _ _ ⟨_, _, _, _, _, _, _, _, _, _, _, _, _, _, _, _, _, _, _, _, _, _, _, _, _, _, _, _, _, _, _, _, _, _, _, _, _, _, _, _, _, _, _, _, _, _, _, _, rfl, hI.s20⟩
    · have hx20 := hI.p20 (hd 20 (by decide))
      subst hx20
      have hx19 := hI.p19 (hd 19 (by decide))
      subst hx19
      rw [if_pos (by rfl)]
      go_simp
      refine (right_eq ao n cap a HA.out r HR.out W (IA.out W hI.bel) hcap (by omega)).mono ?_
      rintro e W2 ⟨rfl, hb3⟩
      have hb3 := dr_below hb3
      exact hK.out _ _ ⟨_, _, _, _, _, _, _, _, _, _, _, _, _, _, _, _, _, _, _, _, _, _, _, _, _, _, _, _, _, _, _, _, _, _, _, _, _, _, _, _, _, _, _, _, _, _, _, _, rfl, (hI.mono hb3).s21⟩
    · have hx19 := hI.p19 (hd 19 (by decide))
      subst hx19
      rw [if_pos (by rfl)]
      go_simp
      exact hK.out _ _ ⟨_, _, _, _, _, _, _, _, _, _, _, _, _, _, _, _, _, _, _, _, _, _, _, _, _, _, _, _, _, _, _, _, _, _, _, _, _, _, _, _, _, _, _, _, _, _, _, _, rfl, hI.s22⟩
    · have hx22 := hI.p22 (hd 22 (by decide))
      subst hx22
      have hx19 := hI.p19 (hd 19 (by decide))
      subst hx19
      rw [if_pos (by rfl)]
      go_simp
      refine (refRight_eq ao n cap a HA.out r HR.out W (IA.out W hI.bel) (by omega)).mono ?_
      rintro e W2 ⟨rfl, hb3⟩
      have hb3 := dr_below hb3
      exact hK.out _ _ ⟨_, _, _, _, _, _, _, _, _, _, _, _, _, _, _, _, _, _, _, _, _, _, _, _, _, _, _, _, _, _, _, _, _, _, _, _, _, _, _, _, _, _, _, _, _, _, _, _, rfl, (hI.mono hb3).s23⟩
    · have hx21 := hI.p21 (hd 21 (by decide))
      subst hx21
      have hx23 := hI.p23 (hd 23 (by decide))
      subst hx23
      have hx19 := hI.p19 (hd 19 (by decide))
      subst hx19
      rw [if_pos (by rfl)]
      go_simp
      exact hK.out _ _ ⟨_, _, _, _, _, _, _, _, _, _, _, _, _, _, _, _, _, _, _, _, _, _, _, _, _, _, _, _, _, _, _, _, _, _, _, _, _, _, _, _, _, _, _, _, _, _, _, _, rfl, hI.s24⟩
    · have hx19 := hI.p19 (hd 19 (by decide))
      subst hx19
      have hx24 := hI.p24 (hd 24 (by decide))
      subst hx24
      rw [if_pos (by rfl)]
      go_simp
      exact hK.out _ _ ⟨_, _, _, _, _, _, _, _, _, _, _, _, _, _, _, _, _, _, _, _, _, _, _, _, _, _, _, _, _, _, _, _, _, _, _, _, _, _, _, _, _, _, _, _, _, _, _, _, rfl, hI.s25⟩
    · have hx25 := hI.p25 (hd 25 (by decide))
      subst hx25
      rw [if_pos (by rfl)]
      go_simp
      exact hK.out _ _ ⟨_, _, _, _, _, _, _, _, _, _, _, _, _, _, _, _, _, _, _, _, _, _, _, _, _, _, _, _, _, _, _, _, _, _, _, _, _, _, _, _, _, _, _, _, _, _, _, _, rfl, hI.s26⟩
    · have hx26 := hI.p26 (hd 26 (by decide))
      subst hx26
      rw [if_pos (by rfl)]
      go_simp
      exact hK.out _ _ ⟨_, _, _, _, _, _, _, _, _, _, _, _, _, _, _, _, _, _, _, _, _, _, _, _, _, _, _, _, _, _, _, _, _, _, _, _, _, _, _, _, _, _, _, _, _, _, _, _, rfl, hI.s27⟩
    · have hx26 := hI.p26 (hd 26 (by decide))
      subst hx26
      rw [if_pos (by rfl)]
      go_simp
      exact hK.out _ _ ⟨_, _, _, _, _, _, _, _, _, _, _, _, _, _, _, _, _, _, _, _, _, _, _, _, _, _, _, _, _, _, _, _, _, _, _, _, _, _, _, _, _, _, _, _, _, _, _, _, rfl, hI.s28⟩
    · have hx27 := hI.p27 (hd 27 (by decide))
      subst hx27
      have hx28 := hI.p28 (hd 28 (by decide))
      subst hx28
      have hx26 := hI.p26 (hd 26 (by decide))
      subst hx26
      rw [if_pos (by rfl)]
      go_simp
      refine (below_eq ao bo n nb cap cb a b HA.out HB.out q1 HQ1.out W (IA.out W hI.bel) (IB.out W hI.bel) (by omega)).mono ?_
      rintro e W2 ⟨rfl, hb3⟩
      have hb3 := dr_below hb3
      exact hK.out _ _ ⟨_, _, _, _, _, _, _, _, _, _, _, _, _, _, _, _, _, _, _, _, _, _, _, _, _, _, _, _, _, _, _, _, _, _, _, _, _, _, _, _, _, _, _, _, _, _, _, _, rfl, (hI.mono hb3).s29⟩
    · have hx26 := hI.p26 (hd 26 (by decide))
      subst hx26
      rw [if_pos (by rfl)]
      go_simp
      exact hK.out _ _ ⟨_, _, _, _, _, _, _, _, _, _, _, _, _, _, _, _, _, _, _, _, _, _, _, _, _, _, _, _, _, _, _, _, _, _, _, _, _, _, _, _, _, _, _, _, _, _, _, _, rfl, hI.s30⟩
    · have hx26 := hI.p26 (hd 26 (by decide))
      subst hx26
      rw [if_pos (by rfl)]
      go_simp
      exact hK.out _ _ ⟨_, _, _, _, _, _, _, _, _, _, _, _, _, _, _, _, _, _, _, _, _, _, _, _, _, _, _, _, _, _, _, _, _, _, _, _, _, _, _, _, _, _, _, _, _, _, _, _, rfl, hI.s31⟩
    · have hx30 := hI.p30 (hd 30 (by decide))
      subst hx30
      have hx31 := hI.p31 (hd 31 (by decide))
      subst hx31
      have hx26 := hI.p26 (hd 26 (by decide))
      subst hx26
      rw [if_pos (by rfl)]
      go_simp
      refine (refBelow_eq ao bo n nb cap cb a b HA.out HB.out q1 HQ1.out W (IA.out W hI.bel) (IB.out W hI.bel) (by omega)).mono ?_
      rintro e W2 ⟨rfl, hb3⟩
      have hb3 := dr_below hb3
      exact hK.out _ _ ⟨_, _, _, _, _, _, _, _, _, _, _, _, _, _, _, _, _, _, _, _, _, _, _, _, _, _, _, _, _, _, _, _, _, _, _, _, _, _, _, _, _, _, _, _, _, _, _, _, rfl, (hI.mono hb3).s32⟩
    · have hx29 := hI.p29 (hd 29 (by decide))
      subst hx29
      have hx32 := hI.p32 (hd 32 (by decide))
      subst hx32
      have hx26 := hI.p26 (hd 26 (by decide))
      subst hx26
      rw [if_pos (by rfl)]
      go_simp
      exact hK.out _ _ ⟨_, _, _, _, _, _, _, _, _, _, _, _, _, _, _, _, _, _, _, _, _, _, _, _, _, _, _, _, _, _, _, _, _, _, _, _, _, _, _, _, _, _, _, _, _, _, _, _, rfl, hI.s33⟩
    · have hx26 := hI.p26 (hd 26 (by decide))
      subst hx26
      have hx33 := hI.p33 (hd 33 (by decide))
      subst hx33
      rw [if_pos (by rfl)]
      go_simp
      exact hK.out _ _ ⟨_, _, _, _, _, _, _, _, _, _, _, _, _, _, _, _, _, _, _, _, _, _, _, _, _, _, _, _, _, _, _, _, _, _, _, _, _, _, _, _, _, _, _, _, _, _, _, _, rfl, hI.s34⟩
    · have hx34 := hI.p34 (hd 34 (by decide))
      subst hx34
      rw [if_pos (by rfl)]
      go_simp
      exact hK.out _ _ ⟨_, _, _, _, _, _, _, _, _, _, _, _, _, _, _, _, _, _, _, _, _, _, _, _, _, _, _, _, _, _, _, _, _, _, _, _, _, _, _, _, _, _, _, _, _, _, _, _, rfl, hI.s35⟩
    · have hx35 := hI.p35 (hd 35 (by decide))
      subst hx35
      rw [if_pos (by rfl)]
      go_simp
      exact hK.out _ _ ⟨_, _, _, _, _, _, _, _, _, _, _, _, _, _, _, _, _, _, _, _, _, _, _, _, _, _, _, _, _, _, _, _, _, _, _, _, _, _, _, _, _, _, _, _, _, _, _, _, rfl, hI.s36⟩
    · have hx35 := hI.p35 (hd 35 (by decide))
      subst hx35
      rw [if_pos (by rfl)]
      go_simp
      exact hK.out _ _ ⟨_, _, _, _, _, _, _, _, _, _, _, _, _, _, _, _, _, _, _, _, _, _, _, _, _, _, _, _, _, _, _, _, _, _, _, _, _, _, _, _, _, _, _, _, _, _, _, _, rfl, hI.s37⟩
    · have hx36 := hI.p36 (hd 36 (by decide))
      subst hx36
      have hx37 := hI.p37 (hd 37 (by decide))
      subst hx37
      have hx35 := hI.p35 (hd 35 (by decide))
      subst hx35
      rw [if_pos (by rfl)]
      go_simp
      refine (below_eq bo ao nb n cb cap b a HB.out HA.out q2 HQ2.out W (IB.out W hI.bel) (IA.out W hI.bel) (by omega)).mono ?_
      rintro e W2 ⟨rfl, hb3⟩
      have hb3 := dr_below hb3
      exact hK.out _ _ ⟨_, _, _, _, _, _, _, _, _, _, _, _, _, _, _, _, _, _, _, _, _, _, _, _, _, _, _, _, _, _, _, _, _, _, _, _, _, _, _, _, _, _, _, _, _, _, _, _, rfl, (hI.mono hb3).s38⟩
    · have hx35 := hI.p35 (hd 35 (by decide))
      subst hx35
      rw [if_pos (by rfl)]
      go_simp
      exact hK.out _ _ ⟨_, _, _, _, _, _, _, _, _, _, _, _, _, _, _, _, _, _, _, _, _, _, _, _, _, _, _, _, _, _, _, _, _, _, _, _, _, _, _, _, _, _, _, _, _, _, _, _, rfl, hI.s39⟩
    · have hx35 := hI.p35 (hd 35 (by decide))
      subst hx35
      rw [if_pos (by rfl)]
      go_simp
      exact hK.out _ _ ⟨_, _, _, _, _, _, _, _, _, _, _, _, _, _, _, _, _, _, _, _, _, _, _, _, _, _, _, _, _, _, _, _, _, _, _, _, _, _, _, _, _, _, _, _, _, _, _, _, rfl, hI.s40⟩
    · have hx39 := hI.p39 (hd 39 (by decide))
      subst hx39
      have hx40 := hI.p40 (hd 40 (by decide))
      subst hx40
      have hx35 := hI.p35 (hd 35 (by decide))
      subst hx35
      rw [if_pos (by rfl)]
      go_simp
      refine (refBelow_eq bo ao nb n cb cap b a HB.out HA.out q2 HQ2.out W (IB.out W hI.bel) (IA.out W hI.bel) (by omega)).mono ?_
      rintro e W2 ⟨rfl, hb3⟩
      have hb3 := dr_below hb3
      exact hK.out _ _ ⟨_, _, _, _, _, _, _, _, _, _, _, _, _, _, _, _, _, _, _, _, _, _, _, _, _, _, _, _, _, _, _, _, _, _, _, _, _, _, _, _, _, _, _, _, _, _, _, _, rfl, (hI.mono hb3).s41⟩
    · have hx38 := hI.p38 (hd 38 (by decide))
      subst hx38
      have hx41 := hI.p41 (hd 41 (by decide))
      subst hx41
      have hx35 := hI.p35 (hd 35 (by decide))
      subst hx35
      rw [if_pos (by rfl)]
      go_simp
      exact hK.out _ _ ⟨_, _, _, _, _, _, _, _, _, _, _, _, _, _, _, _, _, _, _, _, _, _, _, _, _, _, _, _, _, _, _, _, _, _, _, _, _, _, _, _, _, _, _, _, _, _, _, _, rfl, hI.s42⟩
    · have hx35 := hI.p35 (hd 35 (by decide))
      subst hx35
      have hx42 := hI.p42 (hd 42 (by decide))
      subst hx42
      rw [if_pos (by rfl)]
      go_simp
      exact hK.out _ _ ⟨_, _, _, _, _, _, _, _, _, _, _, _, _, _, _, _, _, _, _, _, _, _, _, _, _, _, _, _, _, _, _, _, _, _, _, _, _, _, _, _, _, _, _, _, _, _, _, _, rfl, hI.s43⟩
    · have hx43 := hI.p43 (hd 43 (by decide))
      subst hx43
      rw [if_pos (by rfl)]
      go_simp
      exact hK.out _ _ ⟨_, _, _, _, _, _, _, _, _, _, _, _, _, _, _, _, _, _, _, _, _, _, _, _, _, _, _, _, _, _, _, _, _, _, _, _, _, _, _, _, _, _, _, _, _, _, _, _, rfl, hI.s44⟩
    · have hx44 := hI.p44 (hd 44 (by decide))
      subst hx44
      rw [if_pos (by rfl)]
      go_simp
      refine (fixed_any W).mono ?_
      rintro e W2 ⟨rfl, hb3⟩
      exact hK.out _ _ ⟨_, _, _, _, _, _, _, _, _, _, _, _, _, _, _, _, _, _, _, _, _, _, _, _, _, _, _, _, _, _, _, _, _, _, _, _, _, _, _, _, _, _, _, _, _, _, _, _, rfl, (hI.mono hb3).s45⟩
    · have hx44 := hI.p44 (hd 44 (by decide))
      subst hx44
      have hx45 := hI.p45 (hd 45 (by decide))
      subst hx45
      rw [if_pos (by rfl)]
      go_simp
      exact hK.out _ _ ⟨_, _, _, _, _, _, _, _, _, _, _, _, _, _, _, _, _, _, _, _, _, _, _, _, _, _, _, _, _, _, _, _, _, _, _, _, _, _, _, _, _, _, _, _, _, _, _, _, rfl, hI.s46⟩
    · have hx46 := hI.p46 (hd 46 (by decide))
      subst hx46
      rw [if_pos (by rfl)]
      go_simp
      exact hK.out _ _ ⟨_, _, _, _, _, _, _, _, _, _, _, _, _, _, _, _, _, _, _, _, _, _, _, _, _, _, _, _, _, _, _, _, _, _, _, _, _, _, _, _, _, _, _, _, _, _, _, _, rfl, hI.s47⟩
  · refine D3.ends ?_; intro x19 x20 x21 x22 x23 x24 x25 x26 x27 x28 x29 x30 x31 x32 x33 x34 x35 x36 x37 x38 x39 x40 x41 x42 x43 x44 x45 x46 x47 x48 x49 x50 x51 x52 x53 x54 x55 x56 x57 x58 x59 x60 x61 x62 x63 x64 x65 x4 L W hall hI
    have hx0 := hI.p0 (hall 0 (by decide))
    subst hx0
    obtain ⟨ao1, c1, hx1, ho1⟩ := hI.p1 (hall 1 (by decide))
    subst hx1
    have hx2 := hI.p2 (hall 2 (by decide))
    subst hx2
    have hx3 := hI.p3 (hall 3 (by decide))
    subst hx3
    obtain ⟨ao4, c4, hx4, ho4⟩ := hI.p4 (hall 4 (by decide))
    subst hx4
    have hx5 := hI.p5 (hall 5 (by decide))
    subst hx5
    have hx6 := hI.p6 (hall 6 (by decide))
    subst hx6
    have hx7 := hI.p7 (hall 7 (by decide))
    subst hx7
    have hx8 := hI.p8 (hall 8 (by decide))
    subst hx8
    have hx9 := hI.p9 (hall 9 (by decide))
    subst hx9
    have hx10 := hI.p10 (hall 10 (by decide))
    subst hx10
    have hx11 := hI.p11 (hall 11 (by decide))
    subst hx11
    have hx12 := hI.p12 (hall 12 (by decide))
    subst hx12
    have hx13 := hI.p13 (hall 13 (by decide))
    subst hx13
    have hx14 := hI.p14 (hall 14 (by decide))
    subst hx14
    have hx15 := hI.p15 (hall 15 (by decide))
    subst hx15
    have hx16 := hI.p16 (hall 16 (by decide))
    subst hx16
    have hx17 := hI.p17 (hall 17 (by decide))
    subst hx17
    have hx18 := hI.p18 (hall 18 (by decide))
    subst hx18
    have hx19 := hI.p19 (hall 19 (by decide))
    subst hx19
    have hx20 := hI.p20 (hall 20 (by decide))
    subst hx20
    have hx21 := hI.p21 (hall 21 (by decide))
    subst hx21
    have hx22 := hI.p22 (hall 22 (by decide))
    subst hx22
    have hx23 := hI.p23 (hall 23 (by decide))
    subst hx23
    have hx24 := hI.p24 (hall 24 (by decide))
    subst hx24
    have hx25 := hI.p25 (hall 25 (by decide))
    subst hx25
    have hx26 := hI.p26 (hall 26 (by decide))
    subst hx26
    have hx27 := hI.p27 (hall 27 (by decide))
    subst hx27
    have hx28 := hI.p28 (hall 28 (by decide))
    subst hx28
    have hx29 := hI.p29 (hall 29 (by decide))
    subst hx29
    have hx30 := hI.p30 (hall 30 (by decide))
    subst hx30
    have hx31 := hI.p31 (hall 31 (by decide))
    subst hx31
    have hx32 := hI.p32 (hall 32 (by decide))
    subst hx32
    have hx33 := hI.p33 (hall 33 (by decide))
    subst hx33
    have hx34 := hI.p34 (hall 34 (by decide))
    subst hx34
    have hx35 := hI.p35 (hall 35 (by decide))
    subst hx35
    have hx36 := hI.p36 (hall 36 (by decide))
    subst hx36
    have hx37 := hI.p37 (hall 37 (by decide))
    subst hx37
    have hx38 := hI.p38 (hall 38 (by decide))
    subst hx38
    have hx39 := hI.p39 (hall 39 (by decide))
    subst hx39
    have hx40 := hI.p40 (hall 40 (by decide))
    subst hx40
    have hx41 := hI.p41 (hall 41 (by decide))
    subst hx41
    have hx42 := hI.p42 (hall 42 (by decide))
    subst hx42
    have hx43 := hI.p43 (hall 43 (by decide))
    subst hx43
    have hx44 := hI.p44 (hall 44 (by decide))
    subst hx44
    have hx45 := hI.p45 (hall 45 (by decide))
    subst hx45
    have hx46 := hI.p46 (hall 46 (by decide))
    subst hx46
    have hx47 := hI.p47 (hall 47 (by decide))
    subst hx47
    have hbel := hI.bel
    clear hI hall
    try dsimp only
    go_wp2
    go_ret
    exact ⟨rfl, B2.out.trans (hbel.mono B2.out.size)⟩
end Go.Proofs.Ytljjfhllpbcpeaa
