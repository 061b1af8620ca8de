
import Derived.Test.YtjooabgjkjnhhaaDoorT24P
/-! The law's token: of, whole. (Printed by tools/gent24b.py.) -/
namespace Go.Proofs.YtjooabgjkjnhhaaDoor
open Go.RowKit
set_option linter.unusedVariables false
set_option linter.unusedSimpArgs false
set_option maxRecDepth 100000
structure OF1 (W1 : World) (S : Nat) (bo : Option Addr) (bc : Nat) (bs : List By) (L : Nat → Bool) (x7 x8 x9 x10 x11 x12 x13 x14 x3 : Value) (W : World) : Prop where
  x : BX W1 bs (L 4) (L 7) (L 8) x11 x14 x3 W
  p0 : L 0 = true → x7 = .pointer (some ⟨S, 1, none⟩)
  p1 : L 1 = true → x8 = .slice bo bs.length bc
  p2 : L 2 = true → x9 = .int .i64 (bs.length : Int)
  p3 : L 3 = true → x10 = .int .i64 ((bs.length : Int) + 3)
  p5 : L 5 = true → x12 = .pointer (some ⟨S, 1, none⟩)
  p6 : L 6 = true → x13 = .slice bo bs.length bc
section
variable {W1 : World} {S : Nat} {bo : Option Addr} {bc : Nat} {bs : List By} {L : Nat → Bool} {x7 x8 x9 x10 x11 x12 x13 x14 x3 : Value} {W W2 : World}
theorem OF1.s0 (h : OF1 W1 S bo bc bs L x7 x8 x9 x10 x11 x12 x13 x14 x3 W) : OF1 W1 S bo bc bs (upd L 0) (.pointer (some ⟨S, 1, none⟩)) x8 x9 x10 x11 x12 x13 x14 x3 W :=
  ⟨h.x, fun _ => rfl, h.p1, h.p2, h.p3, h.p5, h.p6⟩
theorem OF1.s1 (h : OF1 W1 S bo bc bs L x7 x8 x9 x10 x11 x12 x13 x14 x3 W) : OF1 W1 S bo bc bs (upd L 1) x7 (.slice bo bs.length bc) x9 x10 x11 x12 x13 x14 x3 W :=
  ⟨h.x, h.p0, fun _ => rfl, h.p2, h.p3, h.p5, h.p6⟩
theorem OF1.s2 (h : OF1 W1 S bo bc bs L x7 x8 x9 x10 x11 x12 x13 x14 x3 W) : OF1 W1 S bo bc bs (upd L 2) x7 x8 (.int .i64 (bs.length : Int)) x10 x11 x12 x13 x14 x3 W :=
  ⟨h.x, h.p0, h.p1, fun _ => rfl, h.p3, h.p5, h.p6⟩
theorem OF1.s3 (h : OF1 W1 S bo bc bs L x7 x8 x9 x10 x11 x12 x13 x14 x3 W) : OF1 W1 S bo bc bs (upd L 3) x7 x8 x9 (.int .i64 ((bs.length : Int) + 3)) x11 x12 x13 x14 x3 W :=
  ⟨h.x, h.p0, h.p1, h.p2, fun _ => rfl, h.p5, h.p6⟩
theorem OF1.s4 (h : OF1 W1 S bo bc bs L x7 x8 x9 x10 x11 x12 x13 x14 x3 W) {v : Value} (hX : BX W1 bs ((upd L 4) 4) ((upd L 4) 7) ((upd L 4) 8) v x14 x3 W2) : OF1 W1 S bo bc bs (upd L 4) x7 x8 x9 x10 v x12 x13 x14 x3 W2 :=
  ⟨hX, h.p0, h.p1, h.p2, h.p3, h.p5, h.p6⟩
theorem OF1.s5 (h : OF1 W1 S bo bc bs L x7 x8 x9 x10 x11 x12 x13 x14 x3 W) : OF1 W1 S bo bc bs (upd L 5) x7 x8 x9 x10 x11 (.pointer (some ⟨S, 1, none⟩)) x13 x14 x3 W :=
  ⟨h.x, h.p0, h.p1, h.p2, h.p3, fun _ => rfl, h.p6⟩
theorem OF1.s6 (h : OF1 W1 S bo bc bs L x7 x8 x9 x10 x11 x12 x13 x14 x3 W) : OF1 W1 S bo bc bs (upd L 6) x7 x8 x9 x10 x11 x12 (.slice bo bs.length bc) x14 x3 W :=
  ⟨h.x, h.p0, h.p1, h.p2, h.p3, h.p5, fun _ => rfl⟩
theorem OF1.s7 (h : OF1 W1 S bo bc bs L x7 x8 x9 x10 x11 x12 x13 x14 x3 W) {v : Value} (hX : BX W1 bs ((upd L 7) 4) ((upd L 7) 7) ((upd L 7) 8) x11 v x3 W2) : OF1 W1 S bo bc bs (upd L 7) x7 x8 x9 x10 x11 x12 x13 v x3 W2 :=
  ⟨hX, h.p0, h.p1, h.p2, h.p3, h.p5, h.p6⟩
theorem OF1.s8 (h : OF1 W1 S bo bc bs L x7 x8 x9 x10 x11 x12 x13 x14 x3 W) {v : Value} (hX : BX W1 bs ((upd L 8) 4) ((upd L 8) 7) ((upd L 8) 8) x11 x14 v W2) : OF1 W1 S bo bc bs (upd L 8) x7 x8 x9 x10 x11 x12 x13 x14 v W2 :=
  ⟨hX, h.p0, h.p1, h.p2, h.p3, h.p5, h.p6⟩
end
@[reducible] def IOF1 (W1 : World) (S : Nat) (bo : Option Addr) (bc : Nat) (bs : List By) (y0 y1 y2 y4 y5 y6 y15 y16 y17 y18 y19 y20 y21 y22 y23 y24 y25 y26 y27 y28 y29 y30 y31 y32 y33 y34 y35 y36 y37 y38 y39 y40 y41 y42 y43 y44 y45 : Value) : (Nat → Bool) → Act → World → Prop := fun L a W => ∃ x7 x8 x9 x10 x11 x12 x13 x14 x3, a = ⟨#[y0, y1, y2, x3, y4, y5, y6, x7, x8, x9, x10, x11, x12, x13, x14, y15, y16, y17, y18, y19, y20, y21, y22, y23, y24, y25, y26, y27, y28, y29, y30, y31, y32, y33, y34, y35, y36, y37, y38, y39, y40, y41, y42, y43, y44, y45], []⟩ ∧ OF1 W1 S bo bc bs L x7 x8 x9 x10 x11 x12 x13 x14 x3 W
theorem OF1.step {W1 : World} {S : Nat} {bo : Option Addr} {bc : Nat} {bs : List By} {y0 y1 y2 y4 y5 y6 y15 y16 y17 y18 y19 y20 y21 y22 y23 y24 y25 y26 y27 y28 y29 y30 y31 y32 y33 y34 y35 y36 y37 y38 y39 y40 y41 y42 y43 y44 y45 : Value} {P : Program} {ops : Array Oper} {Q : Exit → Act → World → Prop} {i : Nat} {o : Oper} (hq : ∀ x7 x8 x9 x10 x11 x12 x13 x14 x3 (L : Nat → Bool) (W : World), OF1 W1 S bo bc bs L x7 x8 x9 x10 x11 x12 x13 x14 x3 W → L i = false → (∀ j ∈ onesOf o, L j = true) → ∀ K : Act → World → Prop, Shut (∀ a' w', IOF1 W1 S bo bc bs y0 y1 y2 y4 y5 y6 y15 y16 y17 y18 y19 y20 y21 y22 y23 y24 y25 y26 y27 y28 y29 y30 y31 y32 y33 y34 y35 y36 y37 y38 y39 y40 y41 y42 y43 y44 y45 (upd L i) a' w' → K a' w') → if Region.wanted o (yielded ops (⟨#[y0, y1, y2, x3, y4, y5, y6, x7, x8, x9, x10, x11, x12, x13, x14, y15, y16, y17, y18, y19, y20, y21, y22, y23, y24, y25, y26, y27, y28, y29, y30, y31, y32, y33, y34, y35, y36, y37, y38, y39, y40, y41, y42, y43, y44, y45], []⟩ : Act).tmps) = true then Oper.wp P o ⟨#[y0, y1, y2, x3, y4, y5, y6, x7, x8, x9, x10, x11, x12, x13, x14, y15, y16, y17, y18, y19, y20, y21, y22, y23, y24, y25, y26, y27, y28, y29, y30, y31, y32, y33, y34, y35, y36, y37, y38, y39, y40, y41, y42, y43, y44, y45], []⟩ W K Q else K ((⟨#[y0, y1, y2, x3, y4, y5, y6, x7, x8, x9, x10, x11, x12, x13, x14, y15, y16, y17, y18, y19, y20, y21, y22, y23, y24, y25, y26, y27, y28, y29, y30, y31, y32, y33, y34, y35, y36, y37, y38, y39, y40, y41, y42, y43, y44, y45], []⟩ : Act).put o.dst undef) W) : StepI P ops (IOF1 W1 S bo bc bs y0 y1 y2 y4 y5 y6 y15 y16 y17 y18 y19 y20 y21 y22 y23 y24 y25 y26 y27 y28 y29 y30 y31 y32 y33 y34 y35 y36 y37 y38 y39 y40 y41 y42 y43 y44 y45) Q i o := by
  rintro L a W ⟨x7, x8, x9, x10, x11, x12, x13, x14, x3, rfl, h⟩
  exact hq _ _ _ _ _ _ _ _ _ _ _ h
theorem OF1.ends {W1 : World} {S : Nat} {bo : Option Addr} {bc : Nat} {bs : List By} {y0 y1 y2 y4 y5 y6 y15 y16 y17 y18 y19 y20 y21 y22 y23 y24 y25 y26 y27 y28 y29 y30 y31 y32 y33 y34 y35 y36 y37 y38 y39 y40 y41 y42 y43 y44 y45 : Value} {mm_ : Nat} {Q : Exit → Act → World → Prop} (hq : ∀ x7 x8 x9 x10 x11 x12 x13 x14 x3 (L : Nat → Bool) (W : World), (∀ j, j < mm_ → L j = true) → OF1 W1 S bo bc bs L x7 x8 x9 x10 x11 x12 x13 x14 x3 W → Q .normal ⟨#[y0, y1, y2, x3, y4, y5, y6, x7, x8, x9, x10, x11, x12, x13, x14, y15, y16, y17, y18, y19, y20, y21, y22, y23, y24, y25, y26, y27, y28, y29, y30, y31, y32, y33, y34, y35, y36, y37, y38, y39, y40, y41, y42, y43, y44, y45], []⟩ W) : ∀ L a' w', (∀ j, j < mm_ → L j = true) → IOF1 W1 S bo bc bs y0 y1 y2 y4 y5 y6 y15 y16 y17 y18 y19 y20 y21 y22 y23 y24 y25 y26 y27 y28 y29 y30 y31 y32 y33 y34 y35 y36 y37 y38 y39 y40 y41 y42 y43 y44 y45 L a' w' → Q .normal a' w' := by
  rintro L a W hall ⟨x7, x8, x9, x10, x11, x12, x13, x14, x3, rfl, h⟩
  exact hq _ _ _ _ _ _ _ _ _ _ _ hall h
set_option maxHeartbeats 2000000 in
theorem l24of_any (t : Tk) (io : Option Addr) (ic : Nat) (lo : Option Addr) (lc : Nat) (w : World) (hv : TkV w t io ic lo lc) (hm : t.cs.length ≤ 65536) : Calls Tryd.prog 9 #[.agg (tkCells t io ic lo lc).toArray] w (OfP t w) := by
  obtain ⟨T, hT⟩ : ∃ T, T = tkCells t io ic lo lc := ⟨_, rfl⟩
  obtain ⟨W1, hW1⟩ : ∃ W1, W1 = (w.alloc (.cells T.toArray 28)).alloc (.cells zTk.toArray 36) := ⟨_, rfl⟩
  have r1 : Row W1 w.heap.size 28 T := by rw [hW1]; exact (Row.at w _ _ _ _ rfl rfl).alloc _
  have r2 : Row W1 (w.heap.size + 1) 36 zTk := by rw [hW1]; exact Row.at _ _ _ _ _ (by simp) rfl
  have b1 : Below w.heap.size w W1 := by rw [hW1]; exact ((Below.refl _ _).alloc (Nat.le_refl _) _).alloc (by simp) _
  have s1 : W1.heap.size = w.heap.size + 2 := by rw [hW1]; simp
  have OW1 : Hid (OW w T W1) := ⟨b1, r1, r2⟩
  have G1 : T[1]? = some (.slice io t.id.length ic) := by rw [hT]; rfl
  have G2 : T[2]? = some (.slice lo t.cs.length lc) := by rw [hT]; rfl
  have HC : Hid (∀ W, Below W1.heap.size W1 W → W.cell? ⟨w.heap.size, 1, none⟩ = some (.slice io t.id.length ic)) := fun W h => (r1.below h r1.lt).cell 1 _ G1
  have HC2 : Hid (∀ W, Below W1.heap.size W1 W → W.cell? ⟨w.heap.size, 2, none⟩ = some (.slice lo t.cs.length lc)) := fun W h => (r1.below h r1.lt).cell 2 _ G2
  have HIB : Hid (∀ W, Below W1.heap.size W1 W → IsB W io t.id) := fun W h => (hv.keep (b1.trans (h.mono b1.size))).id
  have HNIL : Hid (io = none → ic = 0) := hv.inil
  have HBIG : Hid (t.id.length ≤ 140737488351232) := hv.big
  have HWR : Hid (IntKind.i64.wrap ((t.id.length : Int) + 3) = (t.id.length : Int) + 3) := i64_in _ (by omega) (by have := hv.big; omega)
  have NXT : Hid (∀ c0 c5 c6 c7 c8 c9 c10 c11 c12 c13 c14 c15 c16 c17 c18 c19 c20 c21 c22 c23 c24 c25 c26 c27 c28 c29 c30 c31 c32 c33 c34 c35 c36 c37 c38 c39 c40 c41 c42 c43 c44 c45 Wb ao c H, O3 w T ao c t.id t.cs H 0 Wb → Code.wp Tryd.prog (dropS 3 (Tryd.f9.body.getD .skip)) (bodyPost Tryd.prog Tryd.f9 (OfP t w)) ⟨#[c0, .pointer (some ⟨w.heap.size, 0, none⟩), .pointer (some ⟨w.heap.size + 1, 0, none⟩), .slice ao t.id.length c, .slice (some ⟨H, 0, none⟩) 0 (t.cs.length + 2), c5, c6, c7, c8, c9, c10, c11, c12, c13, c14, c15, c16, c17, c18, c19, c20, c21, c22, c23, c24, c25, c26, c27, c28, c29, c30, c31, c32, c33, c34, c35, c36, c37, c38, c39, c40, c41, c42, c43, c44, c45], []⟩ Wb) := fun c0 c5 c6 c7 c8 c9 c10 c11 c12 c13 c14 c15 c16 c17 c18 c19 c20 c21 c22 c23 c24 c25 c26 c27 c28 c29 c30 c31 c32 c33 c34 c35 c36 c37 c38 c39 c40 c41 c42 c43 c44 c45 Wb ao c H h => o3 c0 c5 c6 c7 c8 c9 c10 c11 c12 c13 c14 c15 c16 c17 c18 c19 c20 c21 c22 c23 c24 c25 c26 c27 c28 c29 c30 c31 c32 c33 c34 c35 c36 c37 c38 c39 c40 c41 c42 c43 c44 c45 w Wb t io ic lo lc ao c H hv hm (by rw [← hT]; exact h)
  have S1 : Hid (W1.heap.size = w.heap.size + 2) := s1
  have HM : Hid (t.cs.length ≤ 65536) := hm
  rw [← hT]
  clear hT hv hm r1 r2 b1 s1 G1 G2
  generalize hid : t.id = id at *
  generalize hcs : t.cs = cs at *
  go_enter Tryd.func9, Tryd.ntmps9
  refine wp_seq_k fun K hK => ?_
  have HKS : Hid _ := hK
  clear hK
  go_wp2
  refine HKS.out _ _ ?_
  clear HKS
  refine wp_at24 hW1 ?_
  clear hW1
  refine wp_seq_k fun K hK => ?_
  have HKS : Hid _ := hK
  clear hK
  refine wp_region_inv (IOF1 W1 w.heap.size io ic id _ _ _ _ _ _ _ _ _ _ _ _ _ _ _ _ _ _ _ _ _ _ _ _ _ _ _ _ _ _ _ _ _ _ _ _ _) (by kernel_rfl) (by kernel_rfl) ⟨_, _, _, _, _, _, _, _, _, rfl, ⟨BX.zero _ _ _ _ _, fun k => (by cases k), fun k => (by cases k), fun k => (by cases k), fun k => (by cases k), fun k => (by cases k), fun k => (by cases k)⟩⟩ ?_ ?_
  · refine .cons ?_ (.cons ?_ (.cons ?_ (.cons ?_ (.cons ?_ (.cons ?_ (.cons ?_ (.cons ?_ (.cons ?_ .nil))))))))
    all_goals (refine OF1.step ?_; intro x7 x8 x9 x10 x11 x12 x13 x14 x3 L W hI hL hd K hK)
    · rw [if_pos (by rfl)]
      go_simp
      exact hK.out _ _ ⟨_, _, _, _, _, _, _, _, _, rfl, hI.s0⟩
    · have hx0 := hI.p0 (hd 0 (by decide))
      subst hx0
      rw [if_pos (by rfl)]
      have hc := HC.out _ hI.x.bel
      go_simp
      exact hK.out _ _ ⟨_, _, _, _, _, _, _, _, _, rfl, hI.s1⟩
    · have hx1 := hI.p1 (hd 1 (by decide))
      subst hx1
      rw [if_pos (by rfl)]
      go_simp
      exact hK.out _ _ ⟨_, _, _, _, _, _, _, _, _, rfl, hI.s2⟩
    · have hx2 := hI.p2 (hd 2 (by decide))
      subst hx2
      rw [if_pos (by rfl)]
      have hw := HWR.out
      go_simp
      exact hK.out _ _ ⟨_, _, _, _, _, _, _, _, _, rfl, hI.s3⟩
    · have hx3 := hI.p3 (hd 3 (by decide))
      subst hx3
      refine step_make_room rfl _ (.tmp 10) rfl (id.length + 3) _ rfl rfl (by push_cast; rfl) (by have := HBIG.out; omega) ?_
      intro W2 ho4 hb4
      have hX := hI.x.s4 hL ho4 hb4
      exact hK.out _ _ ⟨_, _, _, _, _, _, _, _, _, rfl, hI.s4 hX⟩
    · rw [if_pos (by rfl)]
      go_simp
      exact hK.out _ _ ⟨_, _, _, _, _, _, _, _, _, rfl, hI.s5⟩
    · have hx5 := hI.p5 (hd 5 (by decide))
      subst hx5
      rw [if_pos (by rfl)]
      have hc := HC.out _ hI.x.bel
      go_simp
      exact hK.out _ _ ⟨_, _, _, _, _, _, _, _, _, rfl, hI.s6⟩
    · have hx6 := hI.p6 (hd 6 (by decide))
      subst hx6
      obtain ⟨ao4, c4, e4, ho4⟩ := hI.x.p4 (hd 4 (by decide)) hL
      have ob := HIB.out _ hI.x.bel
      refine step_append_more rfl (.tmp 11) (.tmp 13) rfl _ _ ao4 0 c4 [] e4 rfl ho4 hI.x.bel io id.length ic id rfl rfl ob HNIL.out (by have := HBIG.out; omega) ?_
      intro ao7 c7 W2 ho7 hb7
      rw [Nat.zero_add] at ho7
      rw [Nat.zero_add]
      rw [List.nil_append] at ho7
      have hX := hI.x.s7 (hd 4 (by decide)) hL ho7 hb7
      exact hK.out _ _ ⟨_, _, _, _, _, _, _, _, _, rfl, hI.s7 hX⟩
    · rw [if_pos (by rfl)]
      have hX := hI.x.s8 (hd 7 (by decide))
      go_simp
      exact hK.out _ _ ⟨_, _, _, _, _, _, _, _, _, rfl, hI.s8 hX⟩
  · refine OF1.ends ?_; intro x7 x8 x9 x10 x11 x12 x13 x14 x3 L W hall hI
    have hx0 := hI.p0 (hall 0 (by decide))
    subst hx0
    have hx1 := hI.p1 (hall 1 (by decide))
    subst hx1
    have hx2 := hI.p2 (hall 2 (by decide))
    subst hx2
    have hx3 := hI.p3 (hall 3 (by decide))
    subst hx3
    have hx5 := hI.p5 (hall 5 (by decide))
    subst hx5
    have hx6 := hI.p6 (hall 6 (by decide))
    subst hx6
    have hXe := hI.x
    rw [hall 4 (by decide)] at hXe
    rw [hall 7 (by decide)] at hXe
    rw [hall 8 (by decide)] at hXe
    clear hI hall
    try dsimp only
    obtain ⟨ao, c, hx14, ho⟩ := hXe.p7 rfl
    have hx3 := hXe.p8 rfl
    subst hx3
    subst hx14
    have HB2 : Hid (Below W1.heap.size W1 W) := hXe.bel
    have HO2 : Hid (Own W1.heap.size W (.slice ao id.length c) id) := ho
    clear hXe ho
    refine HKS.out _ _ ?_
    clear HKS
    refine wp_seq_k fun K hK => ?_
    have HKS : Hid _ := hK
    clear hK
    have x2 := HC2.out W HB2.out
    have z2 : IntKind.i64.wrap ((cs.length : Int) + 2) = (cs.length : Int) + 2 := i64_in _ (by omega) (by have := HM.out; omega)
    go_wp2_with (refine wpList_make_cvs rfl _ (.tmp 18) rfl (cs.length + 2) _ rfl rfl (by push_cast; rfl) (by have := HM.out; omega) ?_; intro w3 hr3 hb3 hs3; have HN : Hid (O3 w T ao c id cs W.heap.size 0 w3) := ⟨(OW1.out.keep HB2.out).keep hb3, own_le (HO2.out.keep hb3) (by rw [S1.out]; exact Nat.le_refl _), by have := HB2.out.size; have := S1.out; omega, hr3⟩; clear hr3 hb3 hs3)
    refine HKS.out _ _ ?_
    exact NXT.out _ _ _ _ _ _ _ _ _ _ _ _ _ _ _ _ _ _ _ _ _ _ _ _ _ _ _ _ _ _ _ _ _ _ _ _ _ _ _ _ _ _ _ ao c W.heap.size HN.out
end Go.Proofs.YtjooabgjkjnhhaaDoor
