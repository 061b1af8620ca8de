import Derived.Test.YtljjfhllpbcpeaaR5Ref
import Derived.Deep.Cut
/-! RailBack: there and back. (Its drawn region is printed by tools/genback.py.) -/
namespace Go.Proofs.Ytljjfhllpbcpeaa
open Go.RowKit

theorem own_le {N N' : Nat} {w : World} {v : Value} {m : List By} (h : Own N w v m) (hN : N' ≤ N) : Own N' w v m := by
  refine ⟨⟨h.1.1, ?_⟩, Nat.le_trans hN h.2⟩
  rcases h.1.2 with h1 | ⟨g, c, cur, e, h2, h3⟩
  · exact .inl h1
  · exact .inr ⟨g, c, cur, e, Nat.le_trans hN h2, h3⟩

structure B7 (W1 : World) (ao aoy : Option Addr) (n cap hy cy : Nat) (bs : List By) (L : Nat → Bool) (x44 x45 x46 x47 x48 x49 x50 x51 x52 x53 x54 x55 x56 x2 : Value) (W : World) : Prop where
  bel : Below W1.heap.size W1 W
  p0 : L 0 = true → x44 = .slice ao n cap
  p1 : L 1 = true → x45 = .bool true
  p2 : L 2 = true → x46 = .bool true
  p3 : L 3 = true → x47 = .slice aoy hy cy
  p4 : L 4 = true → ∃ ao c, x48 = .slice ao (n) c ∧ Own W1.heap.size W (.slice ao (n) c) (bs)
  p5 : L 5 = true → x49 = .string (strOf bs)
  p6 : L 6 = true → x50 = .slice ao n cap
  p7 : L 7 = true → x51 = .string (strOf bs)
  p8 : L 8 = true → x52 = .bool true
  p9 : L 9 = true → x53 = .bool true
  p10 : L 10 = true → x54 = .bool true
  p11 : L 11 = true → x55 = .bool true
  p12 : L 12 = true → x56 = .bool true
  p13 : L 13 = true → x2 = .bool true
section
variable {W1 : World} {ao aoy : Option Addr} {n cap hy cy : Nat} {bs : List By} {L : Nat → Bool} {x44 x45 x46 x47 x48 x49 x50 x51 x52 x53 x54 x55 x56 x2 : Value} {W W2 : World}
theorem B7.zero (W1 : World) (ao aoy : Option Addr) (n cap hy cy : Nat) (bs : List By) (x44 x45 x46 x47 x48 x49 x50 x51 x52 x53 x54 x55 x56 x2 : Value) : B7 W1 ao aoy n cap hy cy bs (fun _ => false) x44 x45 x46 x47 x48 x49 x50 x51 x52 x53 x54 x55 x56 x2 W1.drew :=
  ⟨(Below.refl _ _).drew, fun k => (by cases k), fun k => (by cases k), fun k => (by cases k), fun k => (by cases k), fun k => (by cases k), fun k => (by cases k), fun k => (by cases k), fun k => (by cases k), fun k => (by cases k), fun k => (by cases k), fun k => (by cases k), fun k => (by cases k), fun k => (by cases k), fun k => (by cases k)⟩
theorem B7.mono (h : B7 W1 ao aoy n cap hy cy bs L x44 x45 x46 x47 x48 x49 x50 x51 x52 x53 x54 x55 x56 x2 W) (hb : Below W.heap.size W W2) : B7 W1 ao aoy n cap hy cy bs L x44 x45 x46 x47 x48 x49 x50 x51 x52 x53 x54 x55 x56 x2 W2 :=
  ⟨h.bel.trans (hb.mono h.bel.size), h.p0, h.p1, h.p2, h.p3, fun k => let ⟨ao, c, h1, h2⟩ := h.p4 k; ⟨ao, c, h1, h2.keep hb⟩, h.p5, h.p6, h.p7, h.p8, h.p9, h.p10, h.p11, h.p12, h.p13⟩
theorem B7.s0 (h : B7 W1 ao aoy n cap hy cy bs L x44 x45 x46 x47 x48 x49 x50 x51 x52 x53 x54 x55 x56 x2 W) : B7 W1 ao aoy n cap hy cy bs (upd L 0) (.slice ao n cap) x45 x46 x47 x48 x49 x50 x51 x52 x53 x54 x55 x56 x2 W :=
  ⟨h.bel, fun _ => rfl, h.p1, h.p2, h.p3, h.p4, h.p5, h.p6, h.p7, h.p8, h.p9, h.p10, h.p11, h.p12, h.p13⟩
theorem B7.s1 (h : B7 W1 ao aoy n cap hy cy bs L x44 x45 x46 x47 x48 x49 x50 x51 x52 x53 x54 x55 x56 x2 W) : B7 W1 ao aoy n cap hy cy bs (upd L 1) x44 (.bool true) x46 x47 x48 x49 x50 x51 x52 x53 x54 x55 x56 x2 W :=
  ⟨h.bel, h.p0, fun _ => rfl, h.p2, h.p3, h.p4, h.p5, h.p6, h.p7, h.p8, h.p9, h.p10, h.p11, h.p12, h.p13⟩
theorem B7.s2 (h : B7 W1 ao aoy n cap hy cy bs L x44 x45 x46 x47 x48 x49 x50 x51 x52 x53 x54 x55 x56 x2 W) : B7 W1 ao aoy n cap hy cy bs (upd L 2) x44 x45 (.bool true) x47 x48 x49 x50 x51 x52 x53 x54 x55 x56 x2 W :=
  ⟨h.bel, h.p0, h.p1, fun _ => rfl, h.p3, h.p4, h.p5, h.p6, h.p7, h.p8, h.p9, h.p10, h.p11, h.p12, h.p13⟩
theorem B7.s3 (h : B7 W1 ao aoy n cap hy cy bs L x44 x45 x46 x47 x48 x49 x50 x51 x52 x53 x54 x55 x56 x2 W) : B7 W1 ao aoy n cap hy cy bs (upd L 3) x44 x45 x46 (.slice aoy hy cy) x48 x49 x50 x51 x52 x53 x54 x55 x56 x2 W :=
  ⟨h.bel, h.p0, h.p1, h.p2, fun _ => rfl, h.p4, h.p5, h.p6, h.p7, h.p8, h.p9, h.p10, h.p11, h.p12, h.p13⟩
theorem B7.s4 (h : B7 W1 ao aoy n cap hy cy bs L x44 x45 x46 x47 x48 x49 x50 x51 x52 x53 x54 x55 x56 x2 W) {v : Value} (ho : ∃ ao c, v = .slice ao (n) c ∧ Own W1.heap.size W (.slice ao (n) c) (bs)) : B7 W1 ao aoy n cap hy cy bs (upd L 4) x44 x45 x46 x47 v x49 x50 x51 x52 x53 x54 x55 x56 x2 W :=
  ⟨h.bel, h.p0, h.p1, h.p2, h.p3, fun _ => ho, h.p5, h.p6, h.p7, h.p8, h.p9, h.p10, h.p11, h.p12, h.p13⟩
theorem B7.s5 (h : B7 W1 ao aoy n cap hy cy bs L x44 x45 x46 x47 x48 x49 x50 x51 x52 x53 x54 x55 x56 x2 W) : B7 W1 ao aoy n cap hy cy bs (upd L 5) x44 x45 x46 x47 x48 (.string (strOf bs)) x50 x51 x52 x53 x54 x55 x56 x2 W :=
  ⟨h.bel, h.p0, h.p1, h.p2, h.p3, h.p4, fun _ => rfl, h.p6, h.p7, h.p8, h.p9, h.p10, h.p11, h.p12, h.p13⟩
theorem B7.s6 (h : B7 W1 ao aoy n cap hy cy bs L x44 x45 x46 x47 x48 x49 x50 x51 x52 x53 x54 x55 x56 x2 W) : B7 W1 ao aoy n cap hy cy bs (upd L 6) x44 x45 x46 x47 x48 x49 (.slice ao n cap) x51 x52 x53 x54 x55 x56 x2 W :=
  ⟨h.bel, h.p0, h.p1, h.p2, h.p3, h.p4, h.p5, fun _ => rfl, h.p7, h.p8, h.p9, h.p10, h.p11, h.p12, h.p13⟩
theorem B7.s7 (h : B7 W1 ao aoy n cap hy cy bs L x44 x45 x46 x47 x48 x49 x50 x51 x52 x53 x54 x55 x56 x2 W) : B7 W1 ao aoy n cap hy cy bs (upd L 7) x44 x45 x46 x47 x48 x49 x50 (.string (strOf bs)) x52 x53 x54 x55 x56 x2 W :=
  ⟨h.bel, h.p0, h.p1, h.p2, h.p3, h.p4, h.p5, h.p6, fun _ => rfl, h.p8, h.p9, h.p10, h.p11, h.p12, h.p13⟩
theorem B7.s8 (h : B7 W1 ao aoy n cap hy cy bs L x44 x45 x46 x47 x48 x49 x50 x51 x52 x53 x54 x55 x56 x2 W) : B7 W1 ao aoy n cap hy cy bs (upd L 8) x44 x45 x46 x47 x48 x49 x50 x51 (.bool true) x53 x54 x55 x56 x2 W :=
  ⟨h.bel, h.p0, h.p1, h.p2, h.p3, h.p4, h.p5, h.p6, h.p7, fun _ => rfl, h.p9, h.p10, h.p11, h.p12, h.p13⟩
theorem B7.s9 (h : B7 W1 ao aoy n cap hy cy bs L x44 x45 x46 x47 x48 x49 x50 x51 x52 x53 x54 x55 x56 x2 W) : B7 W1 ao aoy n cap hy cy bs (upd L 9) x44 x45 x46 x47 x48 x49 x50 x51 x52 (.bool true) x54 x55 x56 x2 W :=
  ⟨h.bel, h.p0, h.p1, h.p2, h.p3, h.p4, h.p5, h.p6, h.p7, h.p8, fun _ => rfl, h.p10, h.p11, h.p12, h.p13⟩
theorem B7.s10 (h : B7 W1 ao aoy n cap hy cy bs L x44 x45 x46 x47 x48 x49 x50 x51 x52 x53 x54 x55 x56 x2 W) : B7 W1 ao aoy n cap hy cy bs (upd L 10) x44 x45 x46 x47 x48 x49 x50 x51 x52 x53 (.bool true) x55 x56 x2 W :=
  ⟨h.bel, h.p0, h.p1, h.p2, h.p3, h.p4, h.p5, h.p6, h.p7, h.p8, h.p9, fun _ => rfl, h.p11, h.p12, h.p13⟩
theorem B7.s11 (h : B7 W1 ao aoy n cap hy cy bs L x44 x45 x46 x47 x48 x49 x50 x51 x52 x53 x54 x55 x56 x2 W) : B7 W1 ao aoy n cap hy cy bs (upd L 11) x44 x45 x46 x47 x48 x49 x50 x51 x52 x53 x54 (.bool true) x56 x2 W :=
  ⟨h.bel, h.p0, h.p1, h.p2, h.p3, h.p4, h.p5, h.p6, h.p7, h.p8, h.p9, h.p10, fun _ => rfl, h.p12, h.p13⟩
theorem B7.s12 (h : B7 W1 ao aoy n cap hy cy bs L x44 x45 x46 x47 x48 x49 x50 x51 x52 x53 x54 x55 x56 x2 W) : B7 W1 ao aoy n cap hy cy bs (upd L 12) x44 x45 x46 x47 x48 x49 x50 x51 x52 x53 x54 x55 (.bool true) x2 W :=
  ⟨h.bel, h.p0, h.p1, h.p2, h.p3, h.p4, h.p5, h.p6, h.p7, h.p8, h.p9, h.p10, h.p11, fun _ => rfl, h.p13⟩
theorem B7.s13 (h : B7 W1 ao aoy n cap hy cy bs L x44 x45 x46 x47 x48 x49 x50 x51 x52 x53 x54 x55 x56 x2 W) : B7 W1 ao aoy n cap hy cy bs (upd L 13) x44 x45 x46 x47 x48 x49 x50 x51 x52 x53 x54 x55 x56 (.bool true) W :=
  ⟨h.bel, h.p0, h.p1, h.p2, h.p3, h.p4, h.p5, h.p6, h.p7, h.p8, h.p9, h.p10, h.p11, h.p12, fun _ => rfl⟩
end
@[reducible] def IB7 (W1 : World) (ao aoy : Option Addr) (n cap hy cy : Nat) (bs : List By) (y0 y1 y3 y4 y5 y6 y7 y8 y9 y10 y11 y12 y13 y14 y15 y16 y17 y18 y19 y20 y21 y22 y23 y24 y25 y26 y27 y28 y29 y30 y31 y32 y33 y34 y35 y36 y37 y38 y39 y40 y41 y42 y43 : Value) : (Nat → Bool) → Act → World → Prop := fun L a W => ∃ x44 x45 x46 x47 x48 x49 x50 x51 x52 x53 x54 x55 x56 x2, a = ⟨#[y0, y1, x2, y3, y4, y5, y6, y7, y8, y9, y10, y11, y12, y13, y14, y15, y16, y17, y18, y19, y20, y21, y22, y23, y24, y25, y26, y27, y28, y29, y30, y31, y32, y33, y34, y35, y36, y37, y38, y39, y40, y41, y42, y43, x44, x45, x46, x47, x48, x49, x50, x51, x52, x53, x54, x55, x56], []⟩ ∧ B7 W1 ao aoy n cap hy cy bs L x44 x45 x46 x47 x48 x49 x50 x51 x52 x53 x54 x55 x56 x2 W

set_option maxHeartbeats 1000000 in
set_option maxRecDepth 100000 in
theorem back_any (ao : Option Addr) (n cap : Nat) (bs : List By) (hbs : bs.length = n) (w : World) (hb : IsB w ao bs) (hcap : n ≤ cap) (hl0 : n ≤ 140737488351232) :
    Calls Try.prog 6 #[.slice ao n cap] w fun e w' => e = .returned (.bool true) ∧ Below w.heap.size w w' := by
  have hl : n ≤ 281474976710656 := by omega
  have HL : Hid (bs.length = n) := hbs
  have I0 : Hid (∀ w', Below w.heap.size w w' → IsB w' ao bs) := fun w' h => hb.below h (Nat.le_refl _)
  have G1 : Hid (gotB (rail bs) = bs) := by
    show _ = _
    unfold gotB; rw [if_pos (isRail_rail bs), rail_half]
  have E1 : Hid (gotE (rail bs) = 0) := by show _ = _; unfold gotE; rw [if_pos (isRail_rail bs)]
  have RL : Hid ((rail bs).length = 2 * n) := by show _ = _; rw [rail_len, HL.out]
  clear hbs hb
  go_enter Try.func6, Try.ntmps6
  go_wp2_with fail
  refine (put_eq ao n cap bs HL.out (2 * n) rfl (rail bs) rfl w (I0.out _ (Below.refl _ _)) (by omega)).mono ?_
  rintro e w1 ⟨g1, rfl, o1, b1⟩
  have O1 : Hid (IsB w1 (some ⟨g1, 0, none⟩) (rail bs)) := own_IsB o1
  have B1 : Hid (Below w.heap.size w w1) := b1
  clear o1 b1
  go_wp2_with fail
  refine (get_eq (some ⟨g1, 0, none⟩) (2 * n) (2 * n) (rail bs) RL.out n bs 0 G1.out HL.out E1.out w1 O1.out (Nat.le_refl _) (by omega)).mono ?_
  rintro e w2 ⟨ao2, c2, rfl, o2, b2⟩
  have B2 : Hid (Below w.heap.size w w2) := B1.out.trans (b2.mono B1.out.size)
  have cv1 := conv_bytes w2 ao2 n c2 bs HL.out (own_IsB o2)
  have cv2 := conv_bytes w2 ao n cap bs HL.out (I0.out w2 B2.out)
  clear o2 b2 B1 O1
  by_cases hr : isRail bs
  · have E3 : Hid (gotE bs = 0) := by show _ = _; unfold gotE; rw [if_pos hr]
    obtain ⟨h, hh⟩ : ∃ h, h = n / 2 := ⟨_, rfl⟩
    have G3 : Hid (gotB bs = bs.take h) := by show _ = _; unfold gotB; rw [if_pos hr, HL.out, hh]
    have HLT : Hid ((bs.take h).length = h) := by show _ = _; rw [List.length_take, HL.out]; omega
    have HN2 : Hid (2 * h = n) := by show _ = _; have := hr.1; rw [HL.out] at this; omega
    have HRT : Hid (rail (bs.take h) = bs) := by
      show _ = _
      have := rail_of_isRail hr
      rwa [HL.out, ← hh] at this
    have HR : Hid (rightB bs = true) := by show _ = _; unfold rightB; rw [decide_eq_true_iff]; exact hr
    clear hr hh
    go_wp2_with fail
    refine (get_eq ao n cap bs HL.out h (bs.take h) 0 G3.out HLT.out E3.out w2 (I0.out w2 B2.out) hcap hl).mono ?_
    rintro e W1 ⟨aoy, cy, rfl, o3, b3⟩
    have B3 : Hid (Below w.heap.size w W1) := B2.out.trans (b3.mono B2.out.size)
    have IB : Hid (∀ w', Below W1.heap.size W1 w' → IsB w' ao bs) := fun w' hq => I0.out w' (B3.out.trans (hq.mono B3.out.size))
    have IY : Hid (∀ w', Below W1.heap.size W1 w' → IsB w' aoy (bs.take h)) := fun w' hq => (own_IsB o3).below hq (Nat.le_refl _)
    clear o3 b3 cv1 cv2
    go_upto_region 7 with fail
    refine wp_region_inv (IB7 W1 ao aoy n cap h cy bs _ _ _ _ _ _ _ _ _ _ _ _ _ _ _ _ _ _ _ _ _ _ _ _ _ _ _ _ _ _ _ _ _ _ _ _ _ _ _ _ _ _ _) (by kernel_rfl) (by kernel_rfl) ⟨_, _, _, _, _, _, _, _, _, _, _, _, _, _, rfl, B7.zero W1 ao aoy n cap h cy bs _ _ _ _ _ _ _ _ _ _ _ _ _ _⟩ ?_ ?_
    · refine .cons ?_ (.cons ?_ (.cons ?_ (.cons ?_ (.cons ?_ (.cons ?_ (.cons ?_ (.cons ?_ (.cons ?_ (.cons ?_ (.cons ?_ (.cons ?_ (.cons ?_ (.cons ?_ .nil)))))))))))))
      all_goals (rintro L a W ⟨x44, x45, x46, x47, x48, x49, x50, x51, x52, x53, x54, x55, x56, x2, rfl, hI⟩ hL hd K hK)
      · rw [if_pos (by rfl)]
        go_simp
        exact hK.out _ _ ⟨_, _, _, _, _, _, _, _, _, _, _, _, _, _, rfl, hI.s0⟩
      · have hx0 := hI.p0 (hd 0 (by decide))
        subst hx0
        rw [if_pos (by rfl)]
        go_simp
        refine (right_eq ao n cap bs HL.out true HR.out W (IB.out W hI.bel) hcap hl).mono ?_
        rintro e W2 ⟨rfl, hb3⟩
        have hb3 := dr_below hb3
        exact hK.out _ _ ⟨_, _, _, _, _, _, _, _, _, _, _, _, _, _, rfl, (hI.mono hb3).s1⟩
      · have hx1 := hI.p1 (hd 1 (by decide))
        subst hx1
        rw [if_pos (by rfl)]
        go_simp
        exact hK.out _ _ ⟨_, _, _, _, _, _, _, _, _, _, _, _, _, _, rfl, hI.s2⟩
      · have hx2 := hI.p2 (hd 2 (by decide))
        subst hx2
        rw [if_pos (by rfl)]
        go_simp
        exact hK.out _ _ ⟨_, _, _, _, _, _, _, _, _, _, _, _, _, _, rfl, hI.s3⟩
      · have hx3 := hI.p3 (hd 3 (by decide))
        subst hx3
        have hx2 := hI.p2 (hd 2 (by decide))
        subst hx2
        rw [if_pos (by rfl)]
        go_simp
        refine (put_eq aoy h cy (bs.take h) HLT.out n HN2.out bs HRT.out W (IY.out W hI.bel) hl).mono ?_
        rintro e W2 ⟨g3, rfl, ho3, hb3⟩
        have ho3 : ∃ ao c, Value.slice (some ⟨g3, 0, none⟩) n n = .slice ao n c ∧ Own W1.heap.size W2 (.slice ao n c) bs := ⟨_, _, rfl, own_le ho3 hI.bel.size⟩
        exact hK.out _ _ ⟨_, _, _, _, _, _, _, _, _, _, _, _, _, _, rfl, (hI.mono hb3).s4 ho3⟩
      · obtain ⟨ao4, c4, hx4, ho4⟩ := hI.p4 (hd 4 (by decide))
        subst hx4
        have hx2 := hI.p2 (hd 2 (by decide))
        subst hx2
        rw [if_pos (by rfl)]
        have cv := conv_bytes W ao4 _ c4 _ HL.out (own_IsB ho4)
        go_simp
        exact hK.out _ _ ⟨_, _, _, _, _, _, _, _, _, _, _, _, _, _, rfl, hI.s5⟩
      · have hx2 := hI.p2 (hd 2 (by decide))
        subst hx2
        rw [if_pos (by rfl)]
        go_simp
        exact hK.out _ _ ⟨_, _, _, _, _, _, _, _, _, _, _, _, _, _, rfl, hI.s6⟩
      · have hx6 := hI.p6 (hd 6 (by decide))
        subst hx6
        have hx2 := hI.p2 (hd 2 (by decide))
        subst hx2
        rw [if_pos (by rfl)]
        have cv := conv_bytes W ao n cap bs HL.out (IB.out W hI.bel)
        go_simp
        exact hK.out _ _ ⟨_, _, _, _, _, _, _, _, _, _, _, _, _, _, rfl, hI.s7⟩
      · have hx5 := hI.p5 (hd 5 (by decide))
        subst hx5
        have hx7 := hI.p7 (hd 7 (by decide))
        subst hx7
        have hx2 := hI.p2 (hd 2 (by decide))
        subst hx2
        rw [if_pos (by rfl)]
        go_simp
        exact hK.out _ _ ⟨_, _, _, _, _, _, _, _, _, _, _, _, _, _, rfl, hI.s8⟩
      · have hx2 := hI.p2 (hd 2 (by decide))
        subst hx2
        have hx8 := hI.p8 (hd 8 (by decide))
        subst hx8
        rw [if_pos (by rfl)]
        go_simp
        exact hK.out _ _ ⟨_, _, _, _, _, _, _, _, _, _, _, _, _, _, rfl, hI.s9⟩
      · have hx9 := hI.p9 (hd 9 (by decide))
        subst hx9
        rw [if_pos (by rfl)]
        go_simp
        exact hK.out _ _ ⟨_, _, _, _, _, _, _, _, _, _, _, _, _, _, rfl, hI.s10⟩
      · have hx10 := hI.p10 (hd 10 (by decide))
        subst hx10
        rw [if_pos (by rfl)]
        go_simp
        refine (fixed_any W).mono ?_
        rintro e W2 ⟨rfl, hb3⟩
        exact hK.out _ _ ⟨_, _, _, _, _, _, _, _, _, _, _, _, _, _, rfl, (hI.mono hb3).s11⟩
      · have hx10 := hI.p10 (hd 10 (by decide))
        subst hx10
        have hx11 := hI.p11 (hd 11 (by decide))
        subst hx11
        rw [if_pos (by rfl)]
        go_simp
        exact hK.out _ _ ⟨_, _, _, _, _, _, _, _, _, _, _, _, _, _, rfl, hI.s12⟩
      · have hx12 := hI.p12 (hd 12 (by decide))
        subst hx12
        rw [if_pos (by rfl)]
        go_simp
        exact hK.out _ _ ⟨_, _, _, _, _, _, _, _, _, _, _, _, _, _, rfl, hI.s13⟩
    · rintro L a W hall ⟨x44, x45, x46, x47, x48, x49, x50, x51, x52, x53, x54, x55, x56, x2, rfl, hI⟩
      have hx0 := hI.p0 (hall 0 (by decide))
      subst hx0
      have hx1 := hI.p1 (hall 1 (by decide))
      subst hx1
      have hx2 := hI.p2 (hall 2 (by decide))
      subst hx2
      have hx3 := hI.p3 (hall 3 (by decide))
      subst hx3
      obtain ⟨ao4, c4, hx4, ho4⟩ := hI.p4 (hall 4 (by decide))
      subst hx4
      have hx5 := hI.p5 (hall 5 (by decide))
      subst hx5
      have hx6 := hI.p6 (hall 6 (by decide))
      subst hx6
      have hx7 := hI.p7 (hall 7 (by decide))
      subst hx7
      have hx8 := hI.p8 (hall 8 (by decide))
      subst hx8
      have hx9 := hI.p9 (hall 9 (by decide))
      subst hx9
      have hx10 := hI.p10 (hall 10 (by decide))
      subst hx10
      have hx11 := hI.p11 (hall 11 (by decide))
      subst hx11
      have hx12 := hI.p12 (hall 12 (by decide))
      subst hx12
      have hx13 := hI.p13 (hall 13 (by decide))
      subst hx13
      have hbel := hI.bel
      clear hI hall
      try dsimp only
      go_wp2
      go_ret
      exact ⟨rfl, B3.out.trans (hbel.mono B3.out.size)⟩
  · have E3 : Hid (gotE bs = 5) := by show _ = _; unfold gotE; rw [if_neg hr]
    have G3 : Hid (gotB bs = []) := by show _ = _; unfold gotB; rw [if_neg hr]
    have HR : Hid (rightB bs = false) := by show _ = _; unfold rightB; rw [decide_eq_false_iff_not]; exact hr
    clear hr
    go_wp2_with fail
    refine (get_eq ao n cap bs HL.out 0 [] 5 G3.out rfl E3.out w2 (I0.out w2 B2.out) hcap hl).mono ?_
    rintro e w3 ⟨aoy, cy, rfl, o3, b3⟩
    have B3 : Hid (Below w.heap.size w w3) := B2.out.trans (b3.mono B2.out.size)
    clear o3 b3 cv1 cv2
    go_wp2_with fail
    refine (right_eq ao n cap bs HL.out false HR.out w3 (I0.out w3 B3.out) hcap hl).mono ?_
    rintro e w4 ⟨rfl, d4⟩
    have B4 : Hid (Below w.heap.size w w4) := Below_dr B3.out d4
    clear d4
    go_wp2_with fail
    refine (fixed_any w4).mono ?_
    rintro e w5 ⟨rfl, b5⟩
    have B5 : Hid (Below w.heap.size w w5) := B4.out.trans (b5.mono B4.out.size)
    clear b5
    go_wp2
    go_ret
    exact ⟨rfl, B5.out⟩
end Go.Proofs.Ytljjfhllpbcpeaa
