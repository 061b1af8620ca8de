
import Derived.Test.YtjooabgjkjnhhaaDoorT24Q
import Derived.Test.YtjooabgjkjnhhaaDoorA11B
import Derived.Test.YtjooabgjkjnhhaaDoorI11Inv
/-! The law's token: told. (Printed by tools/gent24b.py.) -/
namespace Go.Proofs.YtjooabgjkjnhhaaDoor
open Go.RowKit
set_option linter.unusedVariables false
set_option linter.unusedSimpArgs false
set_option maxRecDepth 100000

structure To6 (w : World) (ge : Nat) (E At : Int) (q : Bool) (W : World) : Prop where
  bel : Below w.heap.size w W
  p : Row W (w.heap.size + 1) 82 [.pointer (some ⟨ge, 0, none⟩)]
  e : Row W ge 83 [.int .i64 E, .int .i64 At]
  r : Row W w.heap.size 44 (if q then [.int .i64 E, .int .i64 At] else [.int .i64 0, .int .i64 0])
theorem To6.drew {w W : World} {ge : Nat} {E At : Int} {q : Bool} (h : To6 w ge E At q W) : To6 w ge E At q W.drew := ⟨h.bel.drew, h.p.drew, h.e.drew, h.r.drew⟩
structure TO6 (W1 : World) (w : World) (ge : Nat) (E At : Int) (L : Nat → Bool) (x24 x25 x26 x27 x28 x29 x30 x31 x32 x3 : Value) (W : World) : Prop where
  x : To6 w ge E At (L 9) W
  p0 : L 0 = true → x24 = .pointer (some ⟨ge, 0, none⟩)
  p1 : L 1 = true → x25 = .pointer (some ⟨ge, 0, none⟩)
  p2 : L 2 = true → x26 = .pointer (some ⟨ge, 0, none⟩)
  p3 : L 3 = true → x27 = .int .i64 E
  p4 : L 4 = true → x28 = .pointer (some ⟨ge, 0, none⟩)
  p5 : L 5 = true → x29 = .pointer (some ⟨ge, 0, none⟩)
  p6 : L 6 = true → x30 = .pointer (some ⟨ge, 1, none⟩)
  p7 : L 7 = true → x31 = .int .i64 At
  p8 : L 8 = true → x32 = .agg #[.int .i64 E, .int .i64 At]
  p10 : L 10 = true → x3 = .bool true
section
variable {W1 : World} {w : World} {ge : Nat} {E At : Int} {L : Nat → Bool} {x24 x25 x26 x27 x28 x29 x30 x31 x32 x3 : Value} {W W2 : World}
theorem TO6.s0 (h : TO6 W1 w ge E At L x24 x25 x26 x27 x28 x29 x30 x31 x32 x3 W) : TO6 W1 w ge E At (upd L 0) (.pointer (some ⟨ge, 0, none⟩)) x25 x26 x27 x28 x29 x30 x31 x32 x3 W :=
  ⟨h.x, fun _ => rfl, h.p1, h.p2, h.p3, h.p4, h.p5, h.p6, h.p7, h.p8, h.p10⟩
theorem TO6.s1 (h : TO6 W1 w ge E At L x24 x25 x26 x27 x28 x29 x30 x31 x32 x3 W) : TO6 W1 w ge E At (upd L 1) x24 (.pointer (some ⟨ge, 0, none⟩)) x26 x27 x28 x29 x30 x31 x32 x3 W :=
  ⟨h.x, h.p0, fun _ => rfl, h.p2, h.p3, h.p4, h.p5, h.p6, h.p7, h.p8, h.p10⟩
theorem TO6.s2 (h : TO6 W1 w ge E At L x24 x25 x26 x27 x28 x29 x30 x31 x32 x3 W) : TO6 W1 w ge E At (upd L 2) x24 x25 (.pointer (some ⟨ge, 0, none⟩)) x27 x28 x29 x30 x31 x32 x3 W :=
  ⟨h.x, h.p0, h.p1, fun _ => rfl, h.p3, h.p4, h.p5, h.p6, h.p7, h.p8, h.p10⟩
theorem TO6.s3 (h : TO6 W1 w ge E At L x24 x25 x26 x27 x28 x29 x30 x31 x32 x3 W) : TO6 W1 w ge E At (upd L 3) x24 x25 x26 (.int .i64 E) x28 x29 x30 x31 x32 x3 W :=
  ⟨h.x, h.p0, h.p1, h.p2, fun _ => rfl, h.p4, h.p5, h.p6, h.p7, h.p8, h.p10⟩
theorem TO6.s4 (h : TO6 W1 w ge E At L x24 x25 x26 x27 x28 x29 x30 x31 x32 x3 W) : TO6 W1 w ge E At (upd L 4) x24 x25 x26 x27 (.pointer (some ⟨ge, 0, none⟩)) x29 x30 x31 x32 x3 W :=
  ⟨h.x, h.p0, h.p1, h.p2, h.p3, fun _ => rfl, h.p5, h.p6, h.p7, h.p8, h.p10⟩
theorem TO6.s5 (h : TO6 W1 w ge E At L x24 x25 x26 x27 x28 x29 x30 x31 x32 x3 W) : TO6 W1 w ge E At (upd L 5) x24 x25 x26 x27 x28 (.pointer (some ⟨ge, 0, none⟩)) x30 x31 x32 x3 W :=
  ⟨h.x, h.p0, h.p1, h.p2, h.p3, h.p4, fun _ => rfl, h.p6, h.p7, h.p8, h.p10⟩
theorem TO6.s6 (h : TO6 W1 w ge E At L x24 x25 x26 x27 x28 x29 x30 x31 x32 x3 W) : TO6 W1 w ge E At (upd L 6) x24 x25 x26 x27 x28 x29 (.pointer (some ⟨ge, 1, none⟩)) x31 x32 x3 W :=
  ⟨h.x, h.p0, h.p1, h.p2, h.p3, h.p4, h.p5, fun _ => rfl, h.p7, h.p8, h.p10⟩
theorem TO6.s7 (h : TO6 W1 w ge E At L x24 x25 x26 x27 x28 x29 x30 x31 x32 x3 W) : TO6 W1 w ge E At (upd L 7) x24 x25 x26 x27 x28 x29 x30 (.int .i64 At) x32 x3 W :=
  ⟨h.x, h.p0, h.p1, h.p2, h.p3, h.p4, h.p5, h.p6, fun _ => rfl, h.p8, h.p10⟩
theorem TO6.s8 (h : TO6 W1 w ge E At L x24 x25 x26 x27 x28 x29 x30 x31 x32 x3 W) : TO6 W1 w ge E At (upd L 8) x24 x25 x26 x27 x28 x29 x30 x31 (.agg #[.int .i64 E, .int .i64 At]) x3 W :=
  ⟨h.x, h.p0, h.p1, h.p2, h.p3, h.p4, h.p5, h.p6, h.p7, fun _ => rfl, h.p10⟩
theorem TO6.s9 (h : TO6 W1 w ge E At L x24 x25 x26 x27 x28 x29 x30 x31 x32 x3 W) (hX : To6 w ge E At ((upd L 9) 9) W2) : TO6 W1 w ge E At (upd L 9) x24 x25 x26 x27 x28 x29 x30 x31 x32 x3 W2 :=
  ⟨hX, h.p0, h.p1, h.p2, h.p3, h.p4, h.p5, h.p6, h.p7, h.p8, h.p10⟩
theorem TO6.s10 (h : TO6 W1 w ge E At L x24 x25 x26 x27 x28 x29 x30 x31 x32 x3 W) : TO6 W1 w ge E At (upd L 10) x24 x25 x26 x27 x28 x29 x30 x31 x32 (.bool true) W :=
  ⟨h.x, h.p0, h.p1, h.p2, h.p3, h.p4, h.p5, h.p6, h.p7, h.p8, fun _ => rfl⟩
end
@[reducible] def ITO6 (W1 : World) (w : World) (ge : Nat) (E At : Int) (y0 y1 y2 y4 y5 y6 y7 y8 y9 y10 y11 y12 y13 y14 y15 y16 y17 y18 y19 y20 y21 y22 y23 : Value) : (Nat → Bool) → Act → World → Prop := fun L a W => ∃ x24 x25 x26 x27 x28 x29 x30 x31 x32 x3, a = ⟨#[y0, y1, y2, x3, y4, y5, y6, y7, y8, y9, y10, y11, y12, y13, y14, y15, y16, y17, y18, y19, y20, y21, y22, y23, x24, x25, x26, x27, x28, x29, x30, x31, x32], []⟩ ∧ TO6 W1 w ge E At L x24 x25 x26 x27 x28 x29 x30 x31 x32 x3 W
theorem TO6.step {W1 : World} {w : World} {ge : Nat} {E At : Int} {y0 y1 y2 y4 y5 y6 y7 y8 y9 y10 y11 y12 y13 y14 y15 y16 y17 y18 y19 y20 y21 y22 y23 : Value} {P : Program} {ops : Array Oper} {Q : Exit → Act → World → Prop} {i : Nat} {o : Oper} (hq : ∀ x24 x25 x26 x27 x28 x29 x30 x31 x32 x3 (L : Nat → Bool) (W : World), TO6 W1 w ge E At L x24 x25 x26 x27 x28 x29 x30 x31 x32 x3 W → L i = false → (∀ j ∈ onesOf o, L j = true) → ∀ K : Act → World → Prop, Shut (∀ a' w', ITO6 W1 w ge E At y0 y1 y2 y4 y5 y6 y7 y8 y9 y10 y11 y12 y13 y14 y15 y16 y17 y18 y19 y20 y21 y22 y23 (upd L i) a' w' → K a' w') → if Region.wanted o (yielded ops (⟨#[y0, y1, y2, x3, y4, y5, y6, y7, y8, y9, y10, y11, y12, y13, y14, y15, y16, y17, y18, y19, y20, y21, y22, y23, x24, x25, x26, x27, x28, x29, x30, x31, x32], []⟩ : Act).tmps) = true then Oper.wp P o ⟨#[y0, y1, y2, x3, y4, y5, y6, y7, y8, y9, y10, y11, y12, y13, y14, y15, y16, y17, y18, y19, y20, y21, y22, y23, x24, x25, x26, x27, x28, x29, x30, x31, x32], []⟩ W K Q else K ((⟨#[y0, y1, y2, x3, y4, y5, y6, y7, y8, y9, y10, y11, y12, y13, y14, y15, y16, y17, y18, y19, y20, y21, y22, y23, x24, x25, x26, x27, x28, x29, x30, x31, x32], []⟩ : Act).put o.dst undef) W) : StepI P ops (ITO6 W1 w ge E At y0 y1 y2 y4 y5 y6 y7 y8 y9 y10 y11 y12 y13 y14 y15 y16 y17 y18 y19 y20 y21 y22 y23) Q i o := by
  rintro L a W ⟨x24, x25, x26, x27, x28, x29, x30, x31, x32, x3, rfl, h⟩
  exact hq _ _ _ _ _ _ _ _ _ _ _ _ h
theorem TO6.ends {W1 : World} {w : World} {ge : Nat} {E At : Int} {y0 y1 y2 y4 y5 y6 y7 y8 y9 y10 y11 y12 y13 y14 y15 y16 y17 y18 y19 y20 y21 y22 y23 : Value} {mm_ : Nat} {Q : Exit → Act → World → Prop} (hq : ∀ x24 x25 x26 x27 x28 x29 x30 x31 x32 x3 (L : Nat → Bool) (W : World), (∀ j, j < mm_ → L j = true) → TO6 W1 w ge E At L x24 x25 x26 x27 x28 x29 x30 x31 x32 x3 W → Q .normal ⟨#[y0, y1, y2, x3, y4, y5, y6, y7, y8, y9, y10, y11, y12, y13, y14, y15, y16, y17, y18, y19, y20, y21, y22, y23, x24, x25, x26, x27, x28, x29, x30, x31, x32], []⟩ W) : ∀ L a' w', (∀ j, j < mm_ → L j = true) → ITO6 W1 w ge E At y0 y1 y2 y4 y5 y6 y7 y8 y9 y10 y11 y12 y13 y14 y15 y16 y17 y18 y19 y20 y21 y22 y23 L a' w' → Q .normal a' w' := by
  rintro L a W hall ⟨x24, x25, x26, x27, x28, x29, x30, x31, x32, x3, rfl, h⟩
  exact hq _ _ _ _ _ _ _ _ _ _ _ _ hall h
set_option maxHeartbeats 1000000 in
theorem told24_nil (w : World) : Calls Tryd.prog 13 #[.nilIface] w fun e w' => e = .returned (.tuple #[.agg #[.int .i64 0, .int .i64 0], .bool true]) ∧ Below w.heap.size w w' := by
  have r0 : Row (w.alloc (.cells #[.int .i64 0, .int .i64 0] 44)) w.heap.size 44 [.int .i64 0, .int .i64 0] := Row.at w _ _ _ _ rfl rfl
  have b0 : Hid (Below w.heap.size w (w.alloc (.cells #[.int .i64 0, .int .i64 0] 44))) := (Below.refl _ _).alloc (Nat.le_refl _) _
  go_enter Tryd.func13, Tryd.ntmps13
  go_wp2_with (refine wpList_store_Row rfl 44 _ _ rfl w.heap.size 44 0 _ [.int .i64 0, .int .i64 0] r0 (Nat.le_refl _) rfl rfl (by kernel_rfl) (by simp [Value.oneCell']) ?_; intro w2 hr2 hs2)
  have q2 := row_whole hr2 (by simp)
  refine bodyPost_ret_by (results_rowtmp Tryd.results13 _ w2 w.heap.size 44 _ _ rfl q2 Tryd.underlying44 rfl (by kernel_rfl)) rfl ⟨rfl, ?_⟩
  exact hs2.below b0.out (Nat.le_refl _)
set_option maxHeartbeats 2000000 in
theorem told24_wrong (w : World) (ge : Nat) (E At : Int) (hE : E ≠ 0) (hg : HG w) (hr : Row w ge 83 [.int .i64 E, .int .i64 At]) : Calls Tryd.prog 13 #[.iface 82 (.pointer (some ⟨ge, 0, none⟩))] w fun e w' => e = .returned (.tuple #[.agg #[.int .i64 E, .int .i64 At], .bool true]) ∧ Below w.heap.size w w' := by
  obtain ⟨W1, hW1⟩ : ∃ W1, W1 = (w.alloc (.cells #[.int .i64 0, .int .i64 0] 44)).alloc (.cells #[.pointer none] 82) := ⟨_, rfl⟩
  have r0 : Row W1 w.heap.size 44 [.int .i64 0, .int .i64 0] := by rw [hW1]; exact (Row.at w _ _ _ _ rfl rfl).alloc _
  have r1 : Row W1 (w.heap.size + 1) 82 [.pointer none] := by rw [hW1]; exact Row.at _ _ _ _ _ (by simp) rfl
  have b1 : Below w.heap.size w W1 := by rw [hW1]; exact ((Below.refl _ _).alloc (Nat.le_refl _) _).alloc (by simp) _
  have s1 : W1.heap.size = w.heap.size + 2 := by rw [hW1]; simp
  have FA := as_wrong ⟨ge, 0, none⟩ ⟨w.heap.size + 1, 0, none⟩ (.pointer none) W1 (hg.below b1 hg.lt) (r1.cell 0 _ rfl) (r1.frozen 0)
  have FB : Calls Tryd.prog 32 #[.iface 82 (.pointer (some ⟨ge, 0, none⟩)), .iface 86 (.pointer (some ⟨w.heap.size + 1, 0, none⟩))] W1 fun ev w' => ev = .returned (.bool true) ∧ To6 w ge E At false w' := by
    refine FA.mono ?_
    rintro e w' ⟨rfl, rfl⟩
    refine ⟨rfl, ?_⟩
    have hz : ∀ o1 o2 o3 o4 : Obj, Below W1.heap.size W1 ((((W1.alloc o1).alloc o2).alloc o3).alloc o4) := fun o1 o2 o3 o4 => ((((Below.refl _ _).alloc (Nat.le_refl _) o1).alloc (by simp) o2).alloc (by simp; omega) o3).alloc (by simp; omega) o4
    have hb := hz (.cells #[.pointer (some ⟨w.heap.size + 1, 0, none⟩)] 86) (.cells #[.pointer (some ⟨1, 86, none⟩), .pointer (some ⟨W1.heap.size, 0, none⟩), .int .u64 150] 113) (.cells #[.pointer (some ⟨1, 86, none⟩), .pointer (some ⟨W1.heap.size, 0, none⟩), .int .u64 150] 113) (.cells #[.pointer (some ⟨ge, 0, none⟩)] 82)
    have sb := SameBut.setCell (w.heap.size + 1) 0 (.pointer (some ⟨ge, 0, none⟩)) ((((W1.alloc (.cells #[.pointer (some ⟨w.heap.size + 1, 0, none⟩)] 86)).alloc (.cells #[.pointer (some ⟨1, 86, none⟩), .pointer (some ⟨W1.heap.size, 0, none⟩), .int .u64 150] 113)).alloc (.cells #[.pointer (some ⟨1, 86, none⟩), .pointer (some ⟨W1.heap.size, 0, none⟩), .int .u64 150] 113)).alloc (.cells #[.pointer (some ⟨ge, 0, none⟩)] 82))
    have hlt := hr.lt
    exact ⟨sb.below (b1.trans (hb.mono b1.size)) (by omega), (r1.below hb r1.lt).set 0 _, ((hr.below b1 hr.lt).below hb (by omega)).but sb (by omega), (r0.below hb r0.lt).but sb (by omega)⟩
  have HGE : Hid (ge < w.heap.size) := hr.lt
  have hEb : (E == 0) = false := by rw [beq_eq_false_iff_ne]; exact hE
  clear FA hg hr r0 r1 b1 hE
  go_enter Tryd.func13, Tryd.ntmps13
  go_upto_region 6 with (first
    | (have hz := hW1; clear hz; rw [← hW1]; clear hW1)
    | (go_at_call 32; refine FB.mono ?_; clear FB; rintro e w3 ⟨rfl, h3⟩; have H3 : Hid (To6 w ge E At false w3) := h3; have c1 := h3.p.cell 0 _ rfl; have c2 := h3.e.cell 0 _ rfl; clear h3))
  refine wp_region_inv (ITO6 w3 w ge E At _ _ _ _ _ _ _ _ _ _ _ _ _ _ _ _ _ _ _ _ _ _ _) (by kernel_rfl) (by kernel_rfl) ⟨_, _, _, _, _, _, _, _, _, _, rfl, ⟨H3.out.drew, fun k => (by cases k), fun k => (by cases k), fun k => (by cases k), fun k => (by cases k), fun k => (by cases k), fun k => (by cases k), fun k => (by cases k), fun k => (by cases k), fun k => (by cases k), fun k => (by cases k)⟩⟩ ?_ ?_
  · refine .cons ?_ (.cons ?_ (.cons ?_ (.cons ?_ (.cons ?_ (.cons ?_ (.cons ?_ (.cons ?_ (.cons ?_ (.cons ?_ (.cons ?_ .nil))))))))))
    all_goals (refine TO6.step ?_; intro x24 x25 x26 x27 x28 x29 x30 x31 x32 x3 L W hI hL hd K hK)
    · rw [if_pos (by rfl)]
      have hc := hI.x.p.cell 0 _ rfl
      go_simp
      exact hK.out _ _ ⟨_, _, _, _, _, _, _, _, _, _, rfl, hI.s0⟩
    · have hx0 := hI.p0 (hd 0 (by decide))
      subst hx0
      rw [if_pos (by rfl)]
      go_simp
      exact hK.out _ _ ⟨_, _, _, _, _, _, _, _, _, _, rfl, hI.s1⟩
    · have hx1 := hI.p1 (hd 1 (by decide))
      subst hx1
      rw [if_pos (by rfl)]
      go_simp
      exact hK.out _ _ ⟨_, _, _, _, _, _, _, _, _, _, rfl, hI.s2⟩
    · have hx2 := hI.p2 (hd 2 (by decide))
      subst hx2
      rw [if_pos (by rfl)]
      have hc := hI.x.e.cell 0 _ rfl
      go_simp
      exact hK.out _ _ ⟨_, _, _, _, _, _, _, _, _, _, rfl, hI.s3⟩
    · rw [if_pos (by rfl)]
      have hc := hI.x.p.cell 0 _ rfl
      go_simp
      exact hK.out _ _ ⟨_, _, _, _, _, _, _, _, _, _, rfl, hI.s4⟩
    · have hx4 := hI.p4 (hd 4 (by decide))
      subst hx4
      rw [if_pos (by rfl)]
      go_simp
      exact hK.out _ _ ⟨_, _, _, _, _, _, _, _, _, _, rfl, hI.s5⟩
    · have hx5 := hI.p5 (hd 5 (by decide))
      subst hx5
      rw [if_pos (by rfl)]
      go_simp
      exact hK.out _ _ ⟨_, _, _, _, _, _, _, _, _, _, rfl, hI.s6⟩
    · have hx6 := hI.p6 (hd 6 (by decide))
      subst hx6
      rw [if_pos (by rfl)]
      have hc := hI.x.e.cell 1 _ rfl
      go_simp
      exact hK.out _ _ ⟨_, _, _, _, _, _, _, _, _, _, rfl, hI.s7⟩
    · have hx3 := hI.p3 (hd 3 (by decide))
      subst hx3
      have hx7 := hI.p7 (hd 7 (by decide))
      subst hx7
      rw [if_pos (by rfl)]
      go_simp
      exact hK.out _ _ ⟨_, _, _, _, _, _, _, _, _, _, rfl, hI.s8⟩
    · have hx8 := hI.p8 (hd 8 (by decide))
      subst hx8
      have hx0 := hI.x
      rw [hL] at hx0
      have hr0 : Row W w.heap.size 44 [.int .i64 0, .int .i64 0] := hx0.r
      refine step_store_Row rfl 44 _ _ rfl w.heap.size 44 _ [.int .i64 E, .int .i64 At] hr0 rfl rfl rfl (by kernel_rfl) (by simp [Value.oneCell']) ?_
      intro W2 hr2 hs2
      have hX : To6 w ge E At true W2 := ⟨hs2.below hx0.bel (Nat.le_refl _), hx0.p.but hs2 (by omega), hx0.e.but hs2 (by have := HGE.out; omega), hr2⟩
      exact hK.out _ _ ⟨_, _, _, _, _, _, _, _, _, _, rfl, hI.s9 hX⟩
    · rw [if_pos (by rfl)]
      go_simp
      exact hK.out _ _ ⟨_, _, _, _, _, _, _, _, _, _, rfl, hI.s10⟩
  · refine TO6.ends ?_; intro x24 x25 x26 x27 x28 x29 x30 x31 x32 x3 L W hall hI
    have hx0 := hI.p0 (hall 0 (by decide))
    subst hx0
    have hx1 := hI.p1 (hall 1 (by decide))
    subst hx1
    have hx2 := hI.p2 (hall 2 (by decide))
    subst hx2
    have hx3 := hI.p3 (hall 3 (by decide))
    subst hx3
    have hx4 := hI.p4 (hall 4 (by decide))
    subst hx4
    have hx5 := hI.p5 (hall 5 (by decide))
    subst hx5
    have hx6 := hI.p6 (hall 6 (by decide))
    subst hx6
    have hx7 := hI.p7 (hall 7 (by decide))
    subst hx7
    have hx8 := hI.p8 (hall 8 (by decide))
    subst hx8
    have hx10 := hI.p10 (hall 10 (by decide))
    subst hx10
    have hXe := hI.x
    rw [hall 9 (by decide)] at hXe
    clear hI hall
    try dsimp only
    have q2 : Row W w.heap.size 44 [.int .i64 E, .int .i64 At] := hXe.r
    have hb2 := hXe.bel
    clear hXe
    go_wp2
    refine bodyPost_ret_by (results_rowtmp Tryd.results13 _ W w.heap.size 44 _ _ rfl q2 Tryd.underlying44 rfl (by kernel_rfl)) rfl ⟨rfl, hb2⟩
end Go.Proofs.YtjooabgjkjnhhaaDoor
