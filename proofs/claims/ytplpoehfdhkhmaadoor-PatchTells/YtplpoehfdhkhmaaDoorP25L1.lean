import Derived.Test.YtplpoehfdhkhmaaDoorP25AB
import Derived.Test.YtplpoehfdhkhmaaDoorP25St
import Derived.Test.YtplpoehfdhkhmaaDoorOpenA
import Derived.BigRegion
import Derived.Test.YtplpoehfdhkhmaaDoorP25Rd
import Derived.Test.YtplpoehfdhkhmaaDoorP25Mo

/-! told: an error as the document has it. -/
namespace Go.Proofs.YtplpoehfdhkhmaaDoor
open Go.RowKit

structure ToldW (w : World) (ge : Nat) (E At : Int) (l1 l2 : Bool) (W : World) : Prop where
  bel : Below w.heap.size w W
  rr : Row W w.heap.size 37 [.int .i64 0, .int .i64 0]
  pw : ∃ x, Row W (w.heap.size + 1) 61 [x] /\ (l1 = true -> x = .pointer (some ⟨ge, 0, none⟩))
  pn : ∃ y, Row W (w.heap.size + 2) 35 [y] /\ (l2 = true -> y = .int .i64 E)
section
variable {w W : World} {ge : Nat} {E At : Int} {l1 l2 : Bool}
theorem ToldW.hit1 (h : ToldW w ge E At l1 l2 W) (o1 o2 o3 o4 : Obj) : ToldW w ge E At true l2 (((((W.alloc o1).alloc o2).alloc o3).alloc o4).setCell ⟨w.heap.size + 1, 0, none⟩ (.pointer (some ⟨ge, 0, none⟩))) := by
  obtain ⟨x, h1, _⟩ := h.pw
  obtain ⟨y, h2, h3⟩ := h.pn
  have hz := h.bel.size
  have sb := SameBut.setCell (w.heap.size + 1) 0 (.pointer (some ⟨ge, 0, none⟩)) ((((W.alloc o1).alloc o2).alloc o3).alloc o4)
  refine ⟨?_, (((((h.rr.alloc o1).alloc o2).alloc o3).alloc o4)).but sb (by omega), ⟨_, ((((h1.alloc o1).alloc o2).alloc o3).alloc o4).set 0 _, fun _ => rfl⟩, ⟨y, (((((h2.alloc o1).alloc o2).alloc o3).alloc o4)).but sb (by omega), h3⟩⟩
  exact sb.below ((((h.bel.alloc hz _).alloc (by simp; omega) _).alloc (by simp; omega) _).alloc (by simp; omega) _) (by omega)
theorem ToldW.hit2 (h : ToldW w ge E At l1 l2 W) (o1 o2 o3 o4 : Obj) : ToldW w ge E At l1 true (((((W.alloc o1).alloc o2).alloc o3).alloc o4).setCell ⟨w.heap.size + 2, 0, none⟩ (.int .i64 E)) := by
  obtain ⟨x, h1, h3⟩ := h.pw
  obtain ⟨y, h2, _⟩ := h.pn
  have hz := h.bel.size
  have sb := SameBut.setCell (w.heap.size + 2) 0 (.int .i64 E) ((((W.alloc o1).alloc o2).alloc o3).alloc o4)
  refine ⟨?_, (((((h.rr.alloc o1).alloc o2).alloc o3).alloc o4)).but sb (by omega), ⟨x, (((((h1.alloc o1).alloc o2).alloc o3).alloc o4)).but sb (by omega), h3⟩, ⟨_, ((((h2.alloc o1).alloc o2).alloc o3).alloc o4).set 0 _, fun _ => rfl⟩⟩
  exact sb.below ((((h.bel.alloc hz _).alloc (by simp; omega) _).alloc (by simp; omega) _).alloc (by simp; omega) _) (by omega)
theorem ToldW.cE (hr : Row w ge 68 [.int .i64 E, .int .i64 At]) (h : ToldW w ge E At l1 l2 W) : W.cell? ⟨ge, 0, none⟩ = some (.int .i64 E) := (hr.below h.bel hr.lt).cell 0 _ rfl
theorem ToldW.cA (hr : Row w ge 68 [.int .i64 E, .int .i64 At]) (h : ToldW w ge E At l1 l2 W) : W.cell? ⟨ge, 1, none⟩ = some (.int .i64 At) := (hr.below h.bel hr.lt).cell 1 _ rfl
theorem ToldW.cW (h : ToldW w ge E At l1 l2 W) (hl : l1 = true) : W.cell? ⟨w.heap.size + 1, 0, none⟩ = some (.pointer (some ⟨ge, 0, none⟩)) := by
  obtain ⟨x, h1, h2⟩ := h.pw
  have := h2 hl; subst this; exact h1.cell 0 _ rfl
theorem ToldW.cN (h : ToldW w ge E At l1 l2 W) (hl : l2 = true) : W.cell? ⟨w.heap.size + 2, 0, none⟩ = some (.int .i64 E) := by
  obtain ⟨x, h1, h2⟩ := h.pn
  have := h2 hl; subst this; exact h1.cell 0 _ rfl
end

structure T5 (W1 : World) (w : World) (ge : Nat) (E At : Int) (L : Nat -> Bool) (x9 x10 x11 x12 x13 x14 x15 x16 x17 x18 x19 x20 x21 x22 x23 x24 x25 x26 x27 x28 x29 x30 x31 x32 x33 x34 x35 x36 x37 : Value) (W : World) : Prop where
  x : ToldW w ge E At (L 2) (L 11) W
  p0 : L 0 = true -> x9 = .iface 61 (.pointer (some ⟨ge, 0, none⟩))
  p1 : L 1 = true -> x10 = .iface 102 (.pointer (some ⟨w.heap.size + 1, 0, none⟩))
  p2 : L 2 = true -> x11 = .bool true
  p3 : L 3 = true -> x12 = .bool false
  p4 : L 4 = true -> x13 = .bool false
  p5 : L 5 = true -> x14 = .pointer (some ⟨ge, 0, none⟩)
  p6 : L 6 = true -> x15 = .bool false
  p7 : L 7 = true -> x16 = .bool false
  p8 : L 8 = true -> x17 = .bool false
  p9 : L 9 = true -> x18 = .iface 61 (.pointer (some ⟨ge, 0, none⟩))
  p10 : L 10 = true -> x19 = .iface 103 (.pointer (some ⟨w.heap.size + 2, 0, none⟩))
  p11 : L 11 = true -> x20 = .bool true
  p12 : L 12 = true -> x21 = .bool false
  p13 : L 13 = true -> x22 = .bool false
  p14 : L 14 = true -> x23 = .bool false
  p15 : L 15 = true -> x24 = .int .i64 E
  p16 : L 16 = true -> x25 = .pointer (some ⟨ge, 0, none⟩)
  p17 : L 17 = true -> x26 = .pointer (some ⟨ge, 0, none⟩)
  p18 : L 18 = true -> x27 = .pointer (some ⟨ge, 0, none⟩)
  p19 : L 19 = true -> x28 = .int .i64 E
  p20 : L 20 = true -> x29 = .bool false
  p21 : L 21 = true -> x30 = .bool false
  p22 : L 22 = true -> x31 = .bool false
  p23 : L 23 = true -> x32 = .pointer (some ⟨ge, 0, none⟩)
  p24 : L 24 = true -> x33 = .pointer (some ⟨ge, 0, none⟩)
  p25 : L 25 = true -> x34 = .pointer (some ⟨ge, 0, none⟩)
  p26 : L 26 = true -> x35 = .int .i64 E
  p27 : L 27 = true -> x36 = .bool false
  p28 : L 28 = true -> x37 = .bool false
  c4_3 : L 4 = true -> L 3 = true
  c3_2 : L 3 = true -> L 2 = true
  c14_13 : L 14 = true -> L 13 = true
  c13_12 : L 13 = true -> L 12 = true
  c12_11 : L 12 = true -> L 11 = true
  c13_8 : L 13 = true -> L 8 = true
  c8_7 : L 8 = true -> L 7 = true
  c7_4 : L 7 = true -> L 4 = true
  c22_21 : L 22 = true -> L 21 = true
  c21_14 : L 21 = true -> L 14 = true
section
variable {W1 : World} {w : World} {ge : Nat} {E At : Int} {L : Nat -> Bool} {x9 x10 x11 x12 x13 x14 x15 x16 x17 x18 x19 x20 x21 x22 x23 x24 x25 x26 x27 x28 x29 x30 x31 x32 x33 x34 x35 x36 x37 : Value} {W W2 : World}
end
@[reducible] def IT5 (W1 : World) (w : World) (ge : Nat) (E At : Int) (y0 y1 y2 y3 y4 y5 y6 y7 y8 y38 y39 y40 y41 y42 y43 y44 y45 y46 y47 : Value) : (Nat -> Bool) -> Act -> World -> Prop := fun L a W => ∃ x9 x10 x11 x12 x13 x14 x15 x16 x17 x18 x19 x20 x21 x22 x23 x24 x25 x26 x27 x28 x29 x30 x31 x32 x33 x34 x35 x36 x37, a = ⟨#[y0, y1, y2, y3, y4, y5, y6, y7, y8, x9, x10, x11, x12, x13, x14, x15, x16, x17, x18, x19, x20, x21, x22, x23, x24, x25, x26, x27, x28, x29, x30, x31, x32, x33, x34, x35, x36, x37, y38, y39, y40, y41, y42, y43, y44, y45, y46, y47], []⟩ /\ T5 W1 w ge E At L x9 x10 x11 x12 x13 x14 x15 x16 x17 x18 x19 x20 x21 x22 x23 x24 x25 x26 x27 x28 x29 x30 x31 x32 x33 x34 x35 x36 x37 W
theorem T5.step {W1 : World} {w : World} {ge : Nat} {E At : Int} {y0 y1 y2 y3 y4 y5 y6 y7 y8 y38 y39 y40 y41 y42 y43 y44 y45 y46 y47 : Value} {P : Program} {ops : Array Oper} {Q : Exit -> Act -> World -> Prop} {i : Nat} {o : Oper} (hq : ∀ x9 x10 x11 x12 x13 x14 x15 x16 x17 x18 x19 x20 x21 x22 x23 x24 x25 x26 x27 x28 x29 x30 x31 x32 x33 x34 x35 x36 x37 (L : Nat -> Bool) (W : World), T5 W1 w ge E At L x9 x10 x11 x12 x13 x14 x15 x16 x17 x18 x19 x20 x21 x22 x23 x24 x25 x26 x27 x28 x29 x30 x31 x32 x33 x34 x35 x36 x37 W -> L i = false -> (∀ j ∈ onesOf o, L j = true) -> ∀ K : Act -> World -> Prop, Shut (∀ a' w', IT5 W1 w ge E At y0 y1 y2 y3 y4 y5 y6 y7 y8 y38 y39 y40 y41 y42 y43 y44 y45 y46 y47 (upd L i) a' w' -> K a' w') -> if Region.wanted o (yielded ops (⟨#[y0, y1, y2, y3, y4, y5, y6, y7, y8, x9, x10, x11, x12, x13, x14, x15, x16, x17, x18, x19, x20, x21, x22, x23, x24, x25, x26, x27, x28, x29, x30, x31, x32, x33, x34, x35, x36, x37, y38, y39, y40, y41, y42, y43, y44, y45, y46, y47], []⟩ : Act).tmps) = true then Oper.wp P o ⟨#[y0, y1, y2, y3, y4, y5, y6, y7, y8, x9, x10, x11, x12, x13, x14, x15, x16, x17, x18, x19, x20, x21, x22, x23, x24, x25, x26, x27, x28, x29, x30, x31, x32, x33, x34, x35, x36, x37, y38, y39, y40, y41, y42, y43, y44, y45, y46, y47], []⟩ W K Q else K ((⟨#[y0, y1, y2, y3, y4, y5, y6, y7, y8, x9, x10, x11, x12, x13, x14, x15, x16, x17, x18, x19, x20, x21, x22, x23, x24, x25, x26, x27, x28, x29, x30, x31, x32, x33, x34, x35, x36, x37, y38, y39, y40, y41, y42, y43, y44, y45, y46, y47], []⟩ : Act).put o.dst undef) W) : StepI P ops (IT5 W1 w ge E At y0 y1 y2 y3 y4 y5 y6 y7 y8 y38 y39 y40 y41 y42 y43 y44 y45 y46 y47) Q i o := by
  rintro L a W ⟨x9, x10, x11, x12, x13, x14, x15, x16, x17, x18, x19, x20, x21, x22, x23, x24, x25, x26, x27, x28, x29, x30, x31, x32, x33, x34, x35, x36, x37, rfl, h⟩
  exact hq _ _ _ _ _ _ _ _ _ _ _ _ _ _ _ _ _ _ _ _ _ _ _ _ _ _ _ _ _ _ _ h
set_option maxHeartbeats 1000000 in
set_option maxRecDepth 100000 in
/-- A *Wrong that wraps its number. -/
theorem told_wrong (ge : Nat) (E At : Int) (w : World) (hg : HG w) (hr : Row w ge 68 [.int .i64 E, .int .i64 At]) (hE : ¬ E = 0) :
    Calls Tryd.prog 26 #[.iface 61 (.pointer (some ⟨ge, 0, none⟩))] w fun e w' => e = .returned (.tuple #[.agg #[.int .i64 E, .int .i64 At], .bool true]) /\ Below w.heap.size w w' := by
  have HGW : Hid (HG w) := hg
  have hRE : Hid (Row w ge 68 [.int .i64 E, .int .i64 At]) := hr
  clear hg hr
  go_enter Tryd.func26, Tryd.ntmps26
  go_wp2_with fail
  have HZ : Hid (ToldW w ge E At false false (((w.alloc (.cells #[.int .i64 0, .int .i64 0] 37)).alloc (.cells #[.pointer none] 61)).alloc (.cells #[.int .i64 0] 35)).drew) := by
    have z0 := Row.at w 37 [.int .i64 0, .int .i64 0] _ _ rfl rfl
    have z1 : Row ((w.alloc (.cells #[.int .i64 0, .int .i64 0] 37)).alloc (.cells #[.pointer none] 61)) (w.heap.size + 1) 61 [.pointer none] := Row.at _ _ _ _ _ (by simp) rfl
    have z2 : Row (((w.alloc (.cells #[.int .i64 0, .int .i64 0] 37)).alloc (.cells #[.pointer none] 61)).alloc (.cells #[.int .i64 0] 35)) (w.heap.size + 2) 35 [.int .i64 0] := Row.at _ _ _ _ _ (by simp) rfl
    exact ⟨((((Below.refl _ _).alloc (Nat.le_refl _) _).alloc (by simp) _).alloc (by simp; omega) _).drew, ((z0.alloc _).alloc _), ⟨_, z1.alloc _, fun h => by cases h⟩, ⟨_, z2, fun h => by cases h⟩⟩
  generalize (((w.alloc (.cells #[.int .i64 0, .int .i64 0] 37)).alloc (.cells #[.pointer none] 61)).alloc (.cells #[.int .i64 0] 35)) = W1 at *
  refine wp_region_inv (IT5 W1 w ge E At _ _ _ _ _ _ _ _ _ _ _ _ _ _ _ _ _ _ _) (by kernel_rfl) (by kernel_rfl) ⟨_, _, _, _, _, _, _, _, _, _, _, _, _, _, _, _, _, _, _, _, _, _, _, _, _, _, _, _, _, rfl, ⟨HZ.out, fun k => (by cases k), fun k => (by cases k), fun k => (by cases k), fun k => (by cases k), fun k => (by cases k), fun k => (by cases k), fun k => (by cases k), fun k => (by cases k), fun k => (by cases k), fun k => (by cases k), fun k => (by cases k), fun k => (by cases k), fun k => (by cases k), fun k => (by cases k), fun k => (by cases k), fun k => (by cases k), fun k => (by cases k), fun k => (by cases k), fun k => (by cases k), fun k => (by cases k), fun k => (by cases k), fun k => (by cases k), fun k => (by cases k), fun k => (by cases k), fun k => (by cases k), fun k => (by cases k), fun k => (by cases k), fun k => (by cases k), fun k => (by cases k), fun k => (by cases k), fun k => (by cases k), fun k => (by cases k), fun k => (by cases k), fun k => (by cases k), fun k => (by cases k), fun k => (by cases k), fun k => (by cases k), fun k => (by cases k), fun k => (by cases k)⟩⟩ ?_ ?_
  · refine .cons ?_ (.cons ?_ (.cons ?_ (.cons ?_ (.cons ?_ (.cons ?_ (.cons ?_ (.cons ?_ (.cons ?_ (.cons ?_ (.cons ?_ (.cons ?_ (.cons ?_ (.cons ?_ (.cons ?_ (.cons ?_ (.cons ?_ (.cons ?_ (.cons ?_ (.cons ?_ (.cons ?_ (.cons ?_ (.cons ?_ (.cons ?_ (.cons ?_ (.cons ?_ (.cons ?_ (.cons ?_ (.cons ?_ .nil))))))))))))))))))))))))))))
    all_goals (refine T5.step ?_; intro x9 x10 x11 x12 x13 x14 x15 x16 x17 x18 x19 x20 x21 x22 x23 x24 x25 x26 x27 x28 x29 x30 x31 x32 x33 x34 x35 x36 x37 L W hI hL hd K hK)
    · rw [if_pos (by rfl)]
      go_simp
      exact hK.out _ _ ⟨_, _, _, _, _, _, _, _, _, _, _, _, _, _, _, _, _, _, _, _, _, _, _, _, _, _, _, _, _, rfl, { hI with p0 := fun _ => rfl }⟩
    · rw [if_pos (by rfl)]
      go_simp
      exact hK.out _ _ ⟨_, _, _, _, _, _, _, _, _, _, _, _, _, _, _, _, _, _, _, _, _, _, _, _, _, _, _, _, _, rfl, { hI with p1 := fun _ => rfl }⟩
    · obtain rfl := hI.p0 (hd 0 (by decide))
      obtain rfl := hI.p1 (hd 1 (by decide))
      rw [if_pos (by rfl)]
      go_simp
      obtain ⟨x, hr, _⟩ := hI.x.pw
      go_at_call 46
      refine (as_wrong ⟨ge, 0, none⟩ ⟨w.heap.size + 1, 0, none⟩ x W (HGW.out.below hI.x.bel HGW.out.lt) (hr.cell 0 x rfl) (hr.frozen _)).mono ?_
      rintro e W2 ⟨rfl, rfl⟩
      go_simp
      exact hK.out _ _ ⟨_, _, _, _, _, _, _, _, _, _, _, _, _, _, _, _, _, _, _, _, _, _, _, _, _, _, _, _, _, rfl, { hI with x := (hI.x.hit1 _ _ _ _), p2 := fun _ => rfl, c3_2 := fun _ => rfl }⟩
    · obtain rfl := hI.p2 (hd 2 (by decide))
      rw [if_pos (by rfl)]
      go_simp
      exact hK.out _ _ ⟨_, _, _, _, _, _, _, _, _, _, _, _, _, _, _, _, _, _, _, _, _, _, _, _, _, _, _, _, _, rfl, { hI with p3 := fun _ => rfl, c4_3 := fun _ => rfl, c3_2 := fun _ => (hd 2 (by decide)) }⟩
    · obtain rfl := hI.p3 (hd 3 (by decide))
      rw [if_pos (by rfl)]
      go_simp
      exact hK.out _ _ ⟨_, _, _, _, _, _, _, _, _, _, _, _, _, _, _, _, _, _, _, _, _, _, _, _, _, _, _, _, _, rfl, { hI with p4 := fun _ => rfl, c4_3 := fun _ => (hd 3 (by decide)), c7_4 := fun _ => rfl }⟩
    · obtain rfl := hI.p4 (hd 4 (by decide))
      have hL2 := (hI.c3_2 (hI.c4_3 (hd 4 (by decide))))
      rw [if_pos (by rfl)]
      have lw := hI.x.cW hL2
      go_simp
      exact hK.out _ _ ⟨_, _, _, _, _, _, _, _, _, _, _, _, _, _, _, _, _, _, _, _, _, _, _, _, _, _, _, _, _, rfl, { hI with p5 := fun _ => rfl }⟩
    · obtain rfl := hI.p5 (hd 5 (by decide))
      obtain rfl := hI.p4 (hd 4 (by decide))
      rw [if_pos (by rfl)]
      go_simp
      exact hK.out _ _ ⟨_, _, _, _, _, _, _, _, _, _, _, _, _, _, _, _, _, _, _, _, _, _, _, _, _, _, _, _, _, rfl, { hI with p6 := fun _ => rfl }⟩
    · obtain rfl := hI.p4 (hd 4 (by decide))
      obtain rfl := hI.p6 (hd 6 (by decide))
      rw [if_pos (by rfl)]
      go_simp
      exact hK.out _ _ ⟨_, _, _, _, _, _, _, _, _, _, _, _, _, _, _, _, _, _, _, _, _, _, _, _, _, _, _, _, _, rfl, { hI with p7 := fun _ => rfl, c8_7 := fun _ => rfl, c7_4 := fun _ => (hd 4 (by decide)) }⟩
    · obtain rfl := hI.p7 (hd 7 (by decide))
      rw [if_pos (by rfl)]
      go_simp
      exact hK.out _ _ ⟨_, _, _, _, _, _, _, _, _, _, _, _, _, _, _, _, _, _, _, _, _, _, _, _, _, _, _, _, _, rfl, { hI with p8 := fun _ => rfl, c13_8 := fun _ => rfl, c8_7 := fun _ => (hd 7 (by decide)) }⟩
    · obtain rfl := hI.p8 (hd 8 (by decide))
      rw [if_pos (by rfl)]
      go_simp
      exact hK.out _ _ ⟨_, _, _, _, _, _, _, _, _, _, _, _, _, _, _, _, _, _, _, _, _, _, _, _, _, _, _, _, _, rfl, { hI with p9 := fun _ => rfl }⟩
    · obtain rfl := hI.p8 (hd 8 (by decide))
      rw [if_pos (by rfl)]
      go_simp
      exact hK.out _ _ ⟨_, _, _, _, _, _, _, _, _, _, _, _, _, _, _, _, _, _, _, _, _, _, _, _, _, _, _, _, _, rfl, { hI with p10 := fun _ => rfl }⟩
    · obtain rfl := hI.p9 (hd 9 (by decide))
      obtain rfl := hI.p10 (hd 10 (by decide))
      obtain rfl := hI.p8 (hd 8 (by decide))
      rw [if_pos (by rfl)]
      go_simp
      obtain ⟨y, hr, _⟩ := hI.x.pn
      go_at_call 46
      refine (as_errno ⟨ge, 0, none⟩ ⟨w.heap.size + 2, 0, none⟩ E y W (HGW.out.below hI.x.bel HGW.out.lt) (hr.cell 0 y rfl) (hr.frozen _) (ToldW.cE hRE.out hI.x)).mono ?_
      rintro e W2 ⟨rfl, rfl⟩
      go_simp
      exact hK.out _ _ ⟨_, _, _, _, _, _, _, _, _, _, _, _, _, _, _, _, _, _, _, _, _, _, _, _, _, _, _, _, _, rfl, { hI with x := (hI.x.hit2 _ _ _ _), p11 := fun _ => rfl, c12_11 := fun _ => rfl }⟩
    · obtain rfl := hI.p11 (hd 11 (by decide))
      obtain rfl := hI.p8 (hd 8 (by decide))
      rw [if_pos (by rfl)]
      go_simp
      exact hK.out _ _ ⟨_, _, _, _, _, _, _, _, _, _, _, _, _, _, _, _, _, _, _, _, _, _, _, _, _, _, _, _, _, rfl, { hI with p12 := fun _ => rfl, c13_12 := fun _ => rfl, c12_11 := fun _ => (hd 11 (by decide)) }⟩
    · obtain rfl := hI.p8 (hd 8 (by decide))
      obtain rfl := hI.p12 (hd 12 (by decide))
      rw [if_pos (by rfl)]
      go_simp
      exact hK.out _ _ ⟨_, _, _, _, _, _, _, _, _, _, _, _, _, _, _, _, _, _, _, _, _, _, _, _, _, _, _, _, _, rfl, { hI with p13 := fun _ => rfl, c14_13 := fun _ => rfl, c13_12 := fun _ => (hd 12 (by decide)), c13_8 := fun _ => (hd 8 (by decide)) }⟩
    · obtain rfl := hI.p13 (hd 13 (by decide))
      rw [if_pos (by rfl)]
      go_simp
      exact hK.out _ _ ⟨_, _, _, _, _, _, _, _, _, _, _, _, _, _, _, _, _, _, _, _, _, _, _, _, _, _, _, _, _, rfl, { hI with p14 := fun _ => rfl, c14_13 := fun _ => (hd 13 (by decide)), c21_14 := fun _ => rfl }⟩
    · obtain rfl := hI.p14 (hd 14 (by decide))
      have hL11 := (hI.c12_11 (hI.c13_12 (hI.c14_13 (hd 14 (by decide)))))
      rw [if_pos (by rfl)]
      have ln := hI.x.cN hL11
      go_simp
      exact hK.out _ _ ⟨_, _, _, _, _, _, _, _, _, _, _, _, _, _, _, _, _, _, _, _, _, _, _, _, _, _, _, _, _, rfl, { hI with p15 := fun _ => rfl }⟩
    · obtain rfl := hI.p14 (hd 14 (by decide))
      have hL2 := (hI.c3_2 (hI.c4_3 (hI.c7_4 (hI.c8_7 (hI.c13_8 (hI.c14_13 (hd 14 (by decide))))))))
      rw [if_pos (by rfl)]
      have lw := hI.x.cW hL2
      go_simp
      exact hK.out _ _ ⟨_, _, _, _, _, _, _, _, _, _, _, _, _, _, _, _, _, _, _, _, _, _, _, _, _, _, _, _, _, rfl, { hI with p16 := fun _ => rfl }⟩
    · obtain rfl := hI.p16 (hd 16 (by decide))
      obtain rfl := hI.p14 (hd 14 (by decide))
      rw [if_pos (by rfl)]
      go_simp
      exact hK.out _ _ ⟨_, _, _, _, _, _, _, _, _, _, _, _, _, _, _, _, _, _, _, _, _, _, _, _, _, _, _, _, _, rfl, { hI with p17 := fun _ => rfl }⟩
    · obtain rfl := hI.p17 (hd 17 (by decide))
      obtain rfl := hI.p14 (hd 14 (by decide))
      rw [if_pos (by rfl)]
      go_simp
      exact hK.out _ _ ⟨_, _, _, _, _, _, _, _, _, _, _, _, _, _, _, _, _, _, _, _, _, _, _, _, _, _, _, _, _, rfl, { hI with p18 := fun _ => rfl }⟩
    · obtain rfl := hI.p18 (hd 18 (by decide))
      obtain rfl := hI.p14 (hd 14 (by decide))
      rw [if_pos (by rfl)]
      have le := ToldW.cE hRE.out hI.x
      go_simp
      exact hK.out _ _ ⟨_, _, _, _, _, _, _, _, _, _, _, _, _, _, _, _, _, _, _, _, _, _, _, _, _, _, _, _, _, rfl, { hI with p19 := fun _ => rfl }⟩
    · obtain rfl := hI.p15 (hd 15 (by decide))
      obtain rfl := hI.p19 (hd 19 (by decide))
      obtain rfl := hI.p14 (hd 14 (by decide))
      rw [if_pos (by rfl)]
      go_simp
      exact hK.out _ _ ⟨_, _, _, _, _, _, _, _, _, _, _, _, _, _, _, _, _, _, _, _, _, _, _, _, _, _, _, _, _, rfl, { hI with p20 := fun _ => rfl }⟩
    · obtain rfl := hI.p14 (hd 14 (by decide))
      obtain rfl := hI.p20 (hd 20 (by decide))
      rw [if_pos (by rfl)]
      go_simp
      exact hK.out _ _ ⟨_, _, _, _, _, _, _, _, _, _, _, _, _, _, _, _, _, _, _, _, _, _, _, _, _, _, _, _, _, rfl, { hI with p21 := fun _ => rfl, c22_21 := fun _ => rfl, c21_14 := fun _ => (hd 14 (by decide)) }⟩
    · obtain rfl := hI.p21 (hd 21 (by decide))
      rw [if_pos (by rfl)]
      go_simp
      exact hK.out _ _ ⟨_, _, _, _, _, _, _, _, _, _, _, _, _, _, _, _, _, _, _, _, _, _, _, _, _, _, _, _, _, rfl, { hI with p22 := fun _ => rfl, c22_21 := fun _ => (hd 21 (by decide)) }⟩
    · obtain rfl := hI.p22 (hd 22 (by decide))
      have hL2 := (hI.c3_2 (hI.c4_3 (hI.c7_4 (hI.c8_7 (hI.c13_8 (hI.c14_13 (hI.c21_14 (hI.c22_21 (hd 22 (by decide))))))))))
      rw [if_pos (by rfl)]
      have lw := hI.x.cW hL2
      go_simp
      exact hK.out _ _ ⟨_, _, _, _, _, _, _, _, _, _, _, _, _, _, _, _, _, _, _, _, _, _, _, _, _, _, _, _, _, rfl, { hI with p23 := fun _ => rfl }⟩
    · obtain rfl := hI.p23 (hd 23 (by decide))
      obtain rfl := hI.p22 (hd 22 (by decide))
      rw [if_pos (by rfl)]
      go_simp
      exact hK.out _ _ ⟨_, _, _, _, _, _, _, _, _, _, _, _, _, _, _, _, _, _, _, _, _, _, _, _, _, _, _, _, _, rfl, { hI with p24 := fun _ => rfl }⟩
    · obtain rfl := hI.p24 (hd 24 (by decide))
      obtain rfl := hI.p22 (hd 22 (by decide))
      rw [if_pos (by rfl)]
      go_simp
      exact hK.out _ _ ⟨_, _, _, _, _, _, _, _, _, _, _, _, _, _, _, _, _, _, _, _, _, _, _, _, _, _, _, _, _, rfl, { hI with p25 := fun _ => rfl }⟩
    · obtain rfl := hI.p25 (hd 25 (by decide))
      obtain rfl := hI.p22 (hd 22 (by decide))
      rw [if_pos (by rfl)]
      have le := ToldW.cE hRE.out hI.x
      go_simp
      exact hK.out _ _ ⟨_, _, _, _, _, _, _, _, _, _, _, _, _, _, _, _, _, _, _, _, _, _, _, _, _, _, _, _, _, rfl, { hI with p26 := fun _ => rfl }⟩
    · obtain rfl := hI.p26 (hd 26 (by decide))
      obtain rfl := hI.p22 (hd 22 (by decide))
      rw [if_pos (by rfl)]
      have hq : (E == 0) = false := by simpa using hE
      go_simp
      exact hK.out _ _ ⟨_, _, _, _, _, _, _, _, _, _, _, _, _, _, _, _, _, _, _, _, _, _, _, _, _, _, _, _, _, rfl, { hI with p27 := fun _ => rfl }⟩
    · obtain rfl := hI.p22 (hd 22 (by decide))
      obtain rfl := hI.p27 (hd 27 (by decide))
      rw [if_pos (by rfl)]
      go_simp
      exact hK.out _ _ ⟨_, _, _, _, _, _, _, _, _, _, _, _, _, _, _, _, _, _, _, _, _, _, _, _, _, _, _, _, _, rfl, { hI with p28 := fun _ => rfl }⟩
  · rintro L _ W hall ⟨x9, x10, x11, x12, x13, x14, x15, x16, x17, x18, x19, x20, x21, x22, x23, x24, x25, x26, x27, x28, x29, x30, x31, x32, x33, x34, x35, x36, x37, rfl, hI⟩
    obtain rfl := hI.p0 (hall 0 (by decide))
    obtain rfl := hI.p1 (hall 1 (by decide))
    obtain rfl := hI.p2 (hall 2 (by decide))
    obtain rfl := hI.p3 (hall 3 (by decide))
    obtain rfl := hI.p4 (hall 4 (by decide))
    obtain rfl := hI.p5 (hall 5 (by decide))
    obtain rfl := hI.p6 (hall 6 (by decide))
    obtain rfl := hI.p7 (hall 7 (by decide))
    obtain rfl := hI.p8 (hall 8 (by decide))
    obtain rfl := hI.p9 (hall 9 (by decide))
    obtain rfl := hI.p10 (hall 10 (by decide))
    obtain rfl := hI.p11 (hall 11 (by decide))
    obtain rfl := hI.p12 (hall 12 (by decide))
    obtain rfl := hI.p13 (hall 13 (by decide))
    obtain rfl := hI.p14 (hall 14 (by decide))
    obtain rfl := hI.p15 (hall 15 (by decide))
    obtain rfl := hI.p16 (hall 16 (by decide))
    obtain rfl := hI.p17 (hall 17 (by decide))
    obtain rfl := hI.p18 (hall 18 (by decide))
    obtain rfl := hI.p19 (hall 19 (by decide))
    obtain rfl := hI.p20 (hall 20 (by decide))
    obtain rfl := hI.p21 (hall 21 (by decide))
    obtain rfl := hI.p22 (hall 22 (by decide))
    obtain rfl := hI.p23 (hall 23 (by decide))
    obtain rfl := hI.p24 (hall 24 (by decide))
    obtain rfl := hI.p25 (hall 25 (by decide))
    obtain rfl := hI.p26 (hall 26 (by decide))
    obtain rfl := hI.p27 (hall 27 (by decide))
    obtain rfl := hI.p28 (hall 28 (by decide))
    have hXe := hI.x
    rw [hall 2 (by decide)] at hXe
    rw [hall 11 (by decide)] at hXe
    clear hI hall
    try dsimp only
    have c1 := hXe.cW rfl
    have c2 := ToldW.cE hRE.out hXe
    have c3 := ToldW.cA hRE.out hXe
    have r0 := hXe.rr
    have c4 := r0.cell 0 _ rfl
    have c5 := r0.cell 1 _ rfl
    have f4 := r0.frozen 0
    have f5 := r0.frozen 1
    have R0 : Hid (Row W w.heap.size 37 [.int .i64 0, .int .i64 0]) := r0
    have HB : Hid (Below w.heap.size w W) := hXe.bel
    clear r0 hXe HZ
    go_wp2_with fail
    go_region
    all_goals
      go_wp2
      have rz := ((R0.out.set 0 (.int .i64 E)).set 1 (.int .i64 At)).drew
      refine bodyPost_ret_by (results_rowtmp Tryd.results26 _ _ w.heap.size 37 _ _ rfl rz Tryd.underlying37 rfl (by kernel_rfl)) rfl ⟨rfl, ?_⟩
      exact ((SameBut.setCell w.heap.size 0 (.int .i64 E) W).trans (SameBut.setCell w.heap.size 1 (.int .i64 At) _)).below HB.out (Nat.le_refl _) |>.drew

set_option maxHeartbeats 1000000 in
/-- No error. -/
theorem told_nil (w : World) : Calls Tryd.prog 26 #[.nilIface] w fun e w' => e = .returned (.tuple #[.agg #[.int .i64 0, .int .i64 0], .bool true]) /\ Below w.heap.size w w' := by
  go_enter Tryd.func26, Tryd.ntmps26
  go_wp2
  have rz := Row.at w 37 [.int .i64 0, .int .i64 0] _ _ rfl rfl
  refine bodyPost_ret_by (results_rowtmp Tryd.results26 _ _ w.heap.size 37 _ _ rfl rz Tryd.underlying37 rfl (by kernel_rfl)) rfl ⟨rfl, ?_⟩
  exact (Below.refl _ _).alloc (Nat.le_refl _) _
end Go.Proofs.YtplpoehfdhkhmaaDoor


/-! The law of layer 25: what is asked of the code; is. -/
namespace Go.Proofs.YtplpoehfdhkhmaaDoor
open Go.RowKit
set_option linter.unusedVariables false

/-- What a patch says of itself, as the program has it. -/
def infoC (x : PX) : List Value := x.old.map B8 ++ x.new.map B8 ++ [.int .i64 (x.before : Int), .int .i64 (x.after : Int), .int .i64 (x.l.length : Int), .int .i64 (laidN x.l : Int)]
def zX : PX := ⟨z32b, z32b, 0, 0, []⟩
/-- An error in memory: an error's number, its place. -/
def ErrV (W : World) (k a : Nat) (v : Value) : Prop := ∃ g, v = .iface 61 (.pointer (some ⟨g, 0, none⟩)) /\ Row W g 68 [.int .i64 (k : Int), .int .i64 (a : Int)]
theorem ErrV.keep {W W2 : World} {k a : Nat} {v : Value} (h : ErrV W k a v) (hb : Below W.heap.size W W2) : ErrV W2 k a v := by
  obtain ⟨g, e, hr⟩ := h
  exact ⟨g, e, hr.below hb hr.lt⟩
/-- Bytes that can be read. -/
structure BV (W : World) (v : Value) (m : List By) : Prop where
  eq : ∃ ao c, v = .slice ao m.length c /\ IsB W ao m /\ (ao = none -> c = 0) /\ m.length <= c
theorem BV.keep {W W2 : World} {v : Value} {m : List By} (h : BV W v m) (hb : Below W.heap.size W W2) : BV W2 v m := by
  obtain ⟨ao, c, e, hi, h1, h2⟩ := h.eq
  exact ⟨ao, c, e, hi.below hb (Nat.le_refl _), h1, h2⟩
def CRd (w : World) (p : List By) (e : Ending) (w' : World) : Prop :=
  Below w.heap.size w w' /\ match readR p with
    | .error (k, a) => ∃ v, e = .returned (.tuple #[.agg (infoC zX).toArray, v]) /\ ErrV w' k a v
    | .ok x => e = .returned (.tuple #[.agg (infoC x).toArray, .nilIface])
def CAp (w : World) (old p : List By) (e : Ending) (w' : World) : Prop :=
  Below w.heap.size w w' /\ match applyR old p with
    | .error (k, a) => ∃ b v, e = .returned (.tuple #[b, v]) /\ BV w' b [] /\ ErrV w' k a v
    | .ok m => ∃ b, e = .returned (.tuple #[b, .nilIface]) /\ BV w' b m
def CMk (M : List By -> List By -> List By) (w : World) (old new : List By) (e : Ending) (w' : World) : Prop :=
  Below w.heap.size w w' /\ ∃ b, BV w' b (if old.length <= 524288 /\ new.length <= 524288 then M old new else []) /\ e = .returned (.tuple #[b, .int .i64 (if old.length <= 524288 /\ new.length <= 524288 then 0 else 4)])
def CJo (J : List By -> List By -> List By) (w : World) (p q : List By) (e : Ending) (w' : World) : Prop :=
  Below w.heap.size w w' /\ match joinsR p q with
    | .error (k, a) => ∃ b v, e = .returned (.tuple #[b, v]) /\ BV w' b [] /\ ErrV w' k a v
    | .ok (x, y) => ∃ b, e = .returned (.tuple #[b, .nilIface]) /\ BV w' b (J p q)
/-- The code's contracts: M what Make makes, J what Join joins. -/
structure Pch (M J : List By -> List By -> List By) : Prop where
  read : ∀ (w : World) (po : Option Addr) (n pc : Nat) (p : List By), HG w -> p.length = n -> n <= 140737488351232 -> n <= pc -> (po = none -> pc = 0) -> IsB w po p -> Calls Tryd.prog 10 #[.slice po n pc] w (CRd w p)
  apply : ∀ (w : World) (ao : Option Addr) (n c : Nat) (old : List By) (po : Option Addr) (pn pc : Nat) (p : List By), HG w -> old.length = n -> n <= 140737488351232 -> n <= c -> (ao = none -> c = 0) -> IsB w ao old -> p.length = pn -> pn <= 140737488351232 -> pn <= pc -> (po = none -> pc = 0) -> IsB w po p ->
    Calls Tryd.prog 12 #[.slice ao n c, .slice po pn pc] w (CAp w old p)
  make : ∀ (w : World) (ao : Option Addr) (n c : Nat) (old : List By) (po : Option Addr) (pn pc : Nat) (new : List By), HG w -> old.length = n -> n <= 140737488351232 -> n <= c -> (ao = none -> c = 0) -> IsB w ao old -> new.length = pn -> pn <= 140737488351232 -> pn <= pc -> (po = none -> pc = 0) -> IsB w po new ->
    Calls Tryd.prog 16 #[.slice ao n c, .slice po pn pc] w (CMk M w old new)
  join : ∀ (w : World) (ao : Option Addr) (n c : Nat) (p : List By) (po : Option Addr) (pn pc : Nat) (q : List By), HG w -> p.length = n -> n <= 140737488351232 -> n <= c -> (ao = none -> c = 0) -> IsB w ao p -> q.length = pn -> pn <= 140737488351232 -> pn <= pc -> (po = none -> pc = 0) -> IsB w po q ->
    Calls Tryd.prog 19 #[.slice ao n c, .slice po pn pc] w (CJo J w p q)
  made : ∀ old new, old.length <= 524288 -> new.length <= 524288 -> ∃ x, readR (M old new) = .ok x /\ x.before = old.length /\ x.after = new.length /\ x.old = sha old /\ x.new = sha new /\ tells x.l old = new /\ (M old new).length <= mostN old new
  joined : ∀ p q x y, joinsR p q = .ok (x, y) -> ∃ z, readR (J p q) = .ok z /\ z.old = x.old /\ z.before = x.before /\ z.new = y.new /\ z.after = y.after /\ (J p q).length <= 100000000 /\ ∀ old, old.length = x.before -> tells z.l old = tells y.l (tells x.l old)

set_option maxHeartbeats 1000000 in
set_option maxRecDepth 100000 in
theorem is_nil (w : World) : Calls Tryd.prog 14 #[.nilIface, .agg #[.int .i64 0, .int .i64 0]] w fun e w' => e = .returned (.bool true) /\ Below w.heap.size w w' := by
  obtain ⟨w1, hw1⟩ : ∃ w1, w1 = w.alloc (.cells #[.int .i64 0, .int .i64 0] 37) := ⟨_, rfl⟩
  have r1 : Row w1 w.heap.size 37 [.int .i64 0, .int .i64 0] := by rw [hw1]; exact Row.at w _ _ _ _ rfl rfl
  have b1 : Below w.heap.size w w1 := by rw [hw1]; exact (Below.refl _ _).alloc (Nat.le_refl _) _
  have TL := told_nil w1
  rw [hw1] at TL
  go_enter Tryd.func14, Tryd.ntmps14
  go_wp2_with fail
  refine TL.mono ?_
  rw [<- hw1]
  clear TL hw1
  rintro e w2 ⟨rfl, hb2⟩
  have r2 : Hid (Row (w2.alloc (.cells #[.int .i64 0, .int .i64 0] 37)) w.heap.size 37 [.int .i64 0, .int .i64 0]) := (r1.below hb2 r1.lt).alloc _
  have B2 : Hid (Below w.heap.size w w2) := b1.trans (hb2.mono b1.size)
  have hlt : w.heap.size < w2.heap.size := Nat.lt_of_lt_of_le r1.lt hb2.size
  dsimp only
  clear r1 b1 hb2
  go_wp2_with (refine wpList_store_Row rfl 37 (.tmp 5) (.tmp 10) rfl w2.heap.size 37 0 [.int .i64 0, .int .i64 0] [.int .i64 0, .int .i64 0] (Row.at w2 _ _ _ _ rfl rfl) (Nat.le_refl _) rfl rfl (by kernel_rfl) (wr2_one _ _) ?_; intro w3 hr3 hs3; have r5 := row_whole hr3 (Nat.le_refl _); have c50 := r5.cell 0 _ rfl; have c51 := r5.cell 1 _ rfl; have r3 := r2.out.but hs3 (by omega); have c30 := r3.cell 0 _ rfl; have c31 := r3.cell 1 _ rfl; have B3 : Hid (Below w.heap.size w w3) := hs3.below (B2.out.alloc B2.out.size _) B2.out.size; clear hr3 hs3 r5 r3 r2 B2)
  go_ret
  exact ⟨rfl, B3.out⟩

set_option maxHeartbeats 1000000 in
set_option maxRecDepth 100000 in
theorem is_wrong (w : World) (hg : HG w) (k a : Nat) (hk : k ≠ 0) (v : Value) (hv : ErrV w k a v) : Calls Tryd.prog 14 #[v, .agg #[.int .i64 (k : Int), .int .i64 (a : Int)]] w fun e w' => e = .returned (.bool true) /\ Below w.heap.size w w' := by
  obtain ⟨g, rfl, hr⟩ := hv
  obtain ⟨w1, hw1⟩ : ∃ w1, w1 = w.alloc (.cells #[.int .i64 (k : Int), .int .i64 (a : Int)] 37) := ⟨_, rfl⟩
  have r1 : Row w1 w.heap.size 37 [.int .i64 (k : Int), .int .i64 (a : Int)] := by rw [hw1]; exact Row.at w _ _ _ _ rfl rfl
  have b1 : Below w.heap.size w w1 := by rw [hw1]; exact (Below.refl _ _).alloc (Nat.le_refl _) _
  have TL := told_wrong g (k : Int) (a : Int) w1 (hg.below b1 hg.lt) (hr.below b1 hr.lt) (by omega)
  rw [hw1] at TL
  clear hr hg
  go_enter Tryd.func14, Tryd.ntmps14
  go_wp2_with fail
  refine TL.mono ?_
  rw [<- hw1]
  clear TL hw1
  rintro e w2 ⟨rfl, hb2⟩
  have r2 : Hid (Row (w2.alloc (.cells #[.int .i64 0, .int .i64 0] 37)) w.heap.size 37 [.int .i64 (k : Int), .int .i64 (a : Int)]) := (r1.below hb2 r1.lt).alloc _
  have B2 : Hid (Below w.heap.size w w2) := b1.trans (hb2.mono b1.size)
  have hlt : w.heap.size < w2.heap.size := Nat.lt_of_lt_of_le r1.lt hb2.size
  dsimp only
  clear r1 b1 hb2
  go_wp2_with (refine wpList_store_Row rfl 37 (.tmp 5) (.tmp 10) rfl w2.heap.size 37 0 [.int .i64 0, .int .i64 0] [.int .i64 (k : Int), .int .i64 (a : Int)] (Row.at w2 _ _ _ _ rfl rfl) (Nat.le_refl _) rfl rfl (by kernel_rfl) (wr2_one _ _) ?_; intro w3 hr3 hs3; have r5 := row_whole hr3 (Nat.le_refl _); have c50 := r5.cell 0 _ rfl; have c51 := r5.cell 1 _ rfl; have r3 := r2.out.but hs3 (by omega); have c30 := r3.cell 0 _ rfl; have c31 := r3.cell 1 _ rfl; have B3 : Hid (Below w.heap.size w w3) := hs3.below (B2.out.alloc B2.out.size _) B2.out.size; clear hr3 hs3 r5 r3 r2 B2)
  go_ret
  exact ⟨rfl, B3.out⟩
end Go.Proofs.YtplpoehfdhkhmaaDoor
