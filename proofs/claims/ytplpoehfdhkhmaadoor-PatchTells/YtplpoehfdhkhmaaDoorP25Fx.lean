import Derived.Test.YtplpoehfdhkhmaaDoorP25L1
import Derived.Test.YtplpoehfdhkhmaaDoorHashEq
import Derived.Lib.SlBytesConst

/-! The law of layer 25: same. (Printed by tools/genlw25.py.) -/
namespace Go.Proofs.YtplpoehfdhkhmaaDoor
open Go.RowKit
set_option linter.unusedVariables false

theorem infoC_len {x : PX} (ho : x.old.length = 32) (hn : x.new.length = 32) : (infoC x).length = 68 := by simp [infoC, ho, hn]
theorem infoC_one (x : PX) : ∀ v ∈ infoC x, v.oneCell' = true := by
  intro v hv
  simp only [infoC, List.mem_append, List.mem_cons, List.not_mem_nil, or_false] at hv
  rcases hv with (hv | hv) | rfl | rfl | rfl | rfl
  · exact B8_one x.old v hv
  · exact B8_one x.new v hv
  all_goals rfl
theorem infoC_at {x : PX} (ho : x.old.length = 32) (hn : x.new.length = 32) (k : Nat) : (infoC x)[64 + k]? = [Value.int .i64 (x.before : Int), .int .i64 (x.after : Int), .int .i64 (x.l.length : Int), .int .i64 (laidN x.l : Int)][k]? := by
  unfold infoC
  rw [List.getElem?_append_right (by simp [ho, hn])]
  simp [ho, hn]
theorem infoC_rngO {W : World} {G : Nat} {x : PX} (h : Row W G 27 (infoC x)) : W.rangeAt G 0 (x.old.map B8) := fun j v hv => by
  rw [Nat.zero_add]
  refine h.cell j v ?_
  have hj : j < (x.old.map B8).length := (List.getElem?_eq_some_iff.1 hv).1
  unfold infoC
  rw [List.append_assoc, List.getElem?_append_left hj]; exact hv
theorem infoC_rngN {W : World} {G : Nat} {x : PX} (h : Row W G 27 (infoC x)) (ho : x.old.length = 32) : W.rangeAt G 32 (x.new.map B8) := fun j v hv => by
  refine h.cell (32 + j) v ?_
  have hj : j < (x.new.map B8).length := (List.getElem?_eq_some_iff.1 hv).1
  unfold infoC
  rw [List.append_assoc, List.getElem?_append_right (by rw [List.length_map, ho]; omega), List.length_map, ho, Nat.add_sub_cancel_left, List.getElem?_append_left hj]; exact hv
theorem zX_ok : PXok zX := ⟨rfl, rfl, by decide, by decide, rfl, fun y h => (by cases h), fun y h => (by cases h), fun y h => (by cases h), fun y h => (by cases h)⟩
theorem zX_pxv (N : Nat) (W : World) : PxV N W zX zPx := ⟨zX_ok, none, 0, rfl, [], rfl, ⟨rfl, .inl ⟨rfl, rfl⟩⟩, fun i y v hi => (by cases hi)⟩

structure SM1 (W1 : World) (gi gp bf af ln lc ld : Nat) (lo : Option Addr) (OH NH C : List Value) (L : Nat -> Bool) (x5 x6 x7 x8 x9 x10 x11 x12 x13 x14 x15 x16 x17 x18 x19 x20 x21 x22 x23 x24 x25 x26 x27 x28 x29 x30 x31 x32 x33 x34 x35 x36 x37 x38 x39 x40 x41 x42 x43 x44 x45 x4 : Value) (W : World) : Prop where
  x : Below W1.heap.size W1 W
  p0 : L 0 = true -> x5 = .pointer (some ⟨gi, 0, none⟩)
  p1 : L 1 = true -> x6 = .agg OH.toArray
  p2 : L 2 = true -> x7 = .pointer (some ⟨gp, 0, none⟩)
  p3 : L 3 = true -> x8 = .agg OH.toArray
  p4 : L 4 = true -> x9 = .bool true
  p5 : L 5 = true -> x10 = .bool true
  p6 : L 6 = true -> x11 = .pointer (some ⟨gi, 32, none⟩)
  p7 : L 7 = true -> x12 = .agg NH.toArray
  p8 : L 8 = true -> x13 = .pointer (some ⟨gp, 32, none⟩)
  p9 : L 9 = true -> x14 = .agg NH.toArray
  p10 : L 10 = true -> x15 = .bool true
  p11 : L 11 = true -> x16 = .bool true
  p12 : L 12 = true -> x17 = .bool true
  p13 : L 13 = true -> x18 = .pointer (some ⟨gi, 64, none⟩)
  p14 : L 14 = true -> x19 = .int .i64 (bf : Int)
  p15 : L 15 = true -> x20 = .pointer (some ⟨gp, 64, none⟩)
  p16 : L 16 = true -> x21 = .int .i64 (bf : Int)
  p17 : L 17 = true -> x22 = .bool true
  p18 : L 18 = true -> x23 = .bool true
  p19 : L 19 = true -> x24 = .bool true
  p20 : L 20 = true -> x25 = .pointer (some ⟨gi, 65, none⟩)
  p21 : L 21 = true -> x26 = .int .i64 (af : Int)
  p22 : L 22 = true -> x27 = .pointer (some ⟨gp, 65, none⟩)
  p23 : L 23 = true -> x28 = .int .i64 (af : Int)
  p24 : L 24 = true -> x29 = .bool true
  p25 : L 25 = true -> x30 = .bool true
  p26 : L 26 = true -> x31 = .bool true
  p27 : L 27 = true -> x32 = .pointer (some ⟨gi, 66, none⟩)
  p28 : L 28 = true -> x33 = .int .i64 (ln : Int)
  p29 : L 29 = true -> x34 = .pointer (some ⟨gp, 66, none⟩)
  p30 : L 30 = true -> x35 = .slice lo ln lc
  p31 : L 31 = true -> x36 = .int .i64 (ln : Int)
  p32 : L 32 = true -> x37 = .bool true
  p33 : L 33 = true -> x38 = .bool true
  p34 : L 34 = true -> x39 = .bool true
  p35 : L 35 = true -> x40 = .pointer (some ⟨gi, 67, none⟩)
  p36 : L 36 = true -> x41 = .int .i64 (ld : Int)
  p37 : L 37 = true -> x42 = .agg C.toArray
  p38 : L 38 = true -> x43 = .int .i64 (ld : Int)
  p39 : L 39 = true -> x44 = .bool true
  p40 : L 40 = true -> x45 = .bool true
  p41 : L 41 = true -> x4 = .bool true
section
variable {W1 : World} {gi gp bf af ln lc ld : Nat} {lo : Option Addr} {OH NH C : List Value} {L : Nat -> Bool} {x5 x6 x7 x8 x9 x10 x11 x12 x13 x14 x15 x16 x17 x18 x19 x20 x21 x22 x23 x24 x25 x26 x27 x28 x29 x30 x31 x32 x33 x34 x35 x36 x37 x38 x39 x40 x41 x42 x43 x44 x45 x4 : Value} {W W2 : World}
end
@[reducible] def ISM1 (W1 : World) (gi gp bf af ln lc ld : Nat) (lo : Option Addr) (OH NH C : List Value) (y0 y1 y2 y3 : Value) : (Nat -> Bool) -> Act -> World -> Prop := fun L a W => ∃ x5 x6 x7 x8 x9 x10 x11 x12 x13 x14 x15 x16 x17 x18 x19 x20 x21 x22 x23 x24 x25 x26 x27 x28 x29 x30 x31 x32 x33 x34 x35 x36 x37 x38 x39 x40 x41 x42 x43 x44 x45 x4, a = ⟨#[y0, y1, y2, y3, x4, x5, x6, x7, x8, x9, x10, x11, x12, x13, x14, x15, x16, x17, x18, x19, x20, x21, x22, x23, x24, x25, x26, x27, x28, x29, x30, x31, x32, x33, x34, x35, x36, x37, x38, x39, x40, x41, x42, x43, x44, x45], []⟩ /\ SM1 W1 gi gp bf af ln lc ld lo OH NH C L x5 x6 x7 x8 x9 x10 x11 x12 x13 x14 x15 x16 x17 x18 x19 x20 x21 x22 x23 x24 x25 x26 x27 x28 x29 x30 x31 x32 x33 x34 x35 x36 x37 x38 x39 x40 x41 x42 x43 x44 x45 x4 W
theorem SM1.step {W1 : World} {gi gp bf af ln lc ld : Nat} {lo : Option Addr} {OH NH C : List Value} {y0 y1 y2 y3 : Value} {P : Program} {ops : Array Oper} {Q : Exit -> Act -> World -> Prop} {i : Nat} {o : Oper} (hq : ∀ x5 x6 x7 x8 x9 x10 x11 x12 x13 x14 x15 x16 x17 x18 x19 x20 x21 x22 x23 x24 x25 x26 x27 x28 x29 x30 x31 x32 x33 x34 x35 x36 x37 x38 x39 x40 x41 x42 x43 x44 x45 x4 (L : Nat -> Bool) (W : World), SM1 W1 gi gp bf af ln lc ld lo OH NH C L x5 x6 x7 x8 x9 x10 x11 x12 x13 x14 x15 x16 x17 x18 x19 x20 x21 x22 x23 x24 x25 x26 x27 x28 x29 x30 x31 x32 x33 x34 x35 x36 x37 x38 x39 x40 x41 x42 x43 x44 x45 x4 W -> L i = false -> (∀ j ∈ onesOf o, L j = true) -> ∀ K : Act -> World -> Prop, Shut (∀ a' w', ISM1 W1 gi gp bf af ln lc ld lo OH NH C y0 y1 y2 y3 (upd L i) a' w' -> K a' w') -> if Region.wanted o (yielded ops (⟨#[y0, y1, y2, y3, x4, x5, x6, x7, x8, x9, x10, x11, x12, x13, x14, x15, x16, x17, x18, x19, x20, x21, x22, x23, x24, x25, x26, x27, x28, x29, x30, x31, x32, x33, x34, x35, x36, x37, x38, x39, x40, x41, x42, x43, x44, x45], []⟩ : Act).tmps) = true then Oper.wp P o ⟨#[y0, y1, y2, y3, x4, x5, x6, x7, x8, x9, x10, x11, x12, x13, x14, x15, x16, x17, x18, x19, x20, x21, x22, x23, x24, x25, x26, x27, x28, x29, x30, x31, x32, x33, x34, x35, x36, x37, x38, x39, x40, x41, x42, x43, x44, x45], []⟩ W K Q else K ((⟨#[y0, y1, y2, y3, x4, x5, x6, x7, x8, x9, x10, x11, x12, x13, x14, x15, x16, x17, x18, x19, x20, x21, x22, x23, x24, x25, x26, x27, x28, x29, x30, x31, x32, x33, x34, x35, x36, x37, x38, x39, x40, x41, x42, x43, x44, x45], []⟩ : Act).put o.dst undef) W) : StepI P ops (ISM1 W1 gi gp bf af ln lc ld lo OH NH C y0 y1 y2 y3) Q i o := by
  rintro L a W ⟨x5, x6, x7, x8, x9, x10, x11, x12, x13, x14, x15, x16, x17, x18, x19, x20, x21, x22, x23, x24, x25, x26, x27, x28, x29, x30, x31, x32, x33, x34, x35, x36, x37, x38, x39, x40, x41, x42, x43, x44, x45, x4, rfl, h⟩
  exact hq _ _ _ _ _ _ _ _ _ _ _ _ _ _ _ _ _ _ _ _ _ _ _ _ _ _ _ _ _ _ _ _ _ _ _ _ _ _ _ _ _ _ _ _ h
set_option maxHeartbeats 4000000 in
set_option maxRecDepth 100000 in
theorem same25_any (N : Nat) (x : PX) (C : List Value) (w : World) (h : PxV N w x C) : Calls Tryd.prog 15 #[.agg (infoC x).toArray, .agg C.toArray] w fun e w' => e = .returned (.bool true) /\ Below w.heap.size w w' := by
  obtain ⟨IC, hIC⟩ : ∃ IC, IC = infoC x := ⟨_, rfl⟩
  obtain ⟨w1, hw1⟩ : ∃ w1, w1 = (w.alloc (.cells IC.toArray 27)).alloc (.cells C.toArray 34) := ⟨_, rfl⟩
  have ri : Row w1 w.heap.size 27 (infoC x) := by rw [hw1, hIC]; exact (Row.at w _ _ _ _ rfl rfl).alloc _
  have rx : Row w1 (w.heap.size + 1) 34 C := by rw [hw1]; exact Row.at _ _ _ _ _ (by simp) rfl
  have b1 : Below w.heap.size w w1 := by rw [hw1]; exact ((Below.refl _ _).alloc (Nat.le_refl _) _).alloc (by simp) _
  have lC := h.len
  have ok := h.ok
  obtain ⟨lo, lc, hC, hm⟩ := h.eq
  obtain ⟨OH, hOH⟩ : ∃ OH, OH = x.old.map B8 := ⟨_, rfl⟩
  obtain ⟨NH, hNH⟩ : ∃ NH, NH = x.new.map B8 := ⟨_, rfl⟩
  have lOH : OH.length = 32 := by rw [hOH, List.length_map, ok.lo]
  have lNH : NH.length = 32 := by rw [hNH, List.length_map, ok.ln]
  have qo : ∀ w, (Op.equalIn 10000 25 (.agg OH.toArray) (.agg OH.toArray)).run Tryd.prog w = .ok true w := by rw [hOH]; exact eq_any x.old x.old ok.lo ok.lo true (by simp)
  have qn : ∀ w, (Op.equalIn 10000 25 (.agg NH.toArray) (.agg NH.toArray)).run Tryd.prog w = .ok true w := by rw [hNH]; exact eq_any x.new x.new ok.ln ok.ln true (by simp)
  have KI : ∀ W, Below w1.heap.size w1 W -> Row W w.heap.size 27 (infoC x) := fun W hb => ri.below hb ri.lt
  have KX : ∀ W, Below w1.heap.size w1 W -> Row W (w.heap.size + 1) 34 C := fun W hb => rx.below hb rx.lt
  have IOh : Hid (∀ W, Below w1.heap.size w1 W -> W.rangeAt w.heap.size 0 OH) := fun W hb => by rw [hOH]; exact infoC_rngO (KI W hb)
  have IN : Hid (∀ W, Below w1.heap.size w1 W -> W.rangeAt w.heap.size 32 NH) := fun W hb => by rw [hNH]; exact infoC_rngN (KI W hb) ok.lo
  have XO : Hid (∀ W, Below w1.heap.size w1 W -> W.rangeAt (w.heap.size + 1) 0 OH) := fun W hb => by have := KX W hb; rw [hC] at this; rw [hOH]; exact pxC_rngO this ok.lo
  have XN : Hid (∀ W, Below w1.heap.size w1 W -> W.rangeAt (w.heap.size + 1) 32 NH) := fun W hb => by have := KX W hb; rw [hC] at this; rw [hNH]; exact pxC_rngN this ok.lo
  have XA : Hid (∀ W, Below w1.heap.size w1 W -> W.rangeAt (w.heap.size + 1) 0 C) := fun W hb => by
    have := (KX W hb).range 0 67
    rw [List.drop_zero, List.take_of_length_le (by rw [lC]; exact Nat.le_refl _)] at this
    exact this
  have I64 : Hid (∀ W, Below w1.heap.size w1 W -> W.cell? ⟨w.heap.size, 64, none⟩ = some (.int .i64 (x.before : Int))) := fun W hb => (KI W hb).cell 64 _ (infoC_at ok.lo ok.ln 0)
  have I65 : Hid (∀ W, Below w1.heap.size w1 W -> W.cell? ⟨w.heap.size, 65, none⟩ = some (.int .i64 (x.after : Int))) := fun W hb => (KI W hb).cell 65 _ (infoC_at ok.lo ok.ln 1)
  have I66 : Hid (∀ W, Below w1.heap.size w1 W -> W.cell? ⟨w.heap.size, 66, none⟩ = some (.int .i64 (x.l.length : Int))) := fun W hb => (KI W hb).cell 66 _ (infoC_at ok.lo ok.ln 2)
  have I67 : Hid (∀ W, Below w1.heap.size w1 W -> W.cell? ⟨w.heap.size, 67, none⟩ = some (.int .i64 (laidN x.l : Int))) := fun W hb => (KI W hb).cell 67 _ (infoC_at ok.lo ok.ln 3)
  have X64 : Hid (∀ W, Below w1.heap.size w1 W -> W.cell? ⟨w.heap.size + 1, 64, none⟩ = some (.int .i64 (x.before : Int))) := fun W hb => (KX W hb).cell 64 _ (by rw [hC]; exact pxC_bef ok.lo ok.ln)
  have X65 : Hid (∀ W, Below w1.heap.size w1 W -> W.cell? ⟨w.heap.size + 1, 65, none⟩ = some (.int .i64 (x.after : Int))) := fun W hb => (KX W hb).cell 65 _ (by rw [hC]; exact pxC_aft ok.lo ok.ln)
  have X66 : Hid (∀ W, Below w1.heap.size w1 W -> W.cell? ⟨w.heap.size + 1, 66, none⟩ = some (.slice lo x.l.length lc)) := fun W hb => (KX W hb).cell 66 _ (by rw [hC]; exact pxC_sl ok.lo ok.ln)
  have LD : Hid (∀ W, Below w1.heap.size w1 W -> Calls Tryd.prog 27 #[.agg C.toArray] W fun e w' => e = .returned (.int .i64 (laidN x.l : Int)) /\ Below W.heap.size W w') := fun W hb => r25Laid_any N x C W ((h.keep b1).keep hb)
  have HB1 : Hid (Below w.heap.size w w1) := b1
  rw [<- hIC]
  clear ri rx KI KX hOH hNH hIC hC hm h ok b1
  generalize x.before = bf at *
  generalize x.after = af at *
  generalize x.l.length = ln at *
  generalize laidN x.l = ld at *
  go_enter Tryd.func15, Tryd.ntmps15
  go_wp2_with (first | (rw [<- hw1]; clear hw1))
  refine wp_region_inv (ISM1 w1 w.heap.size (w.heap.size + 1) bf af ln lc ld lo OH NH C _ _ _ _) (by kernel_rfl) (by kernel_rfl) ⟨_, _, _, _, _, _, _, _, _, _, _, _, _, _, _, _, _, _, _, _, _, _, _, _, _, _, _, _, _, _, _, _, _, _, _, _, _, _, _, _, _, _, rfl, ⟨(Below.refl _ _).drew, fun k => (by cases k), fun k => (by cases k), fun k => (by cases k), fun k => (by cases k), fun k => (by cases k), fun k => (by cases k), fun k => (by cases k), fun k => (by cases k), fun k => (by cases k), fun k => (by cases k), fun k => (by cases k), fun k => (by cases k), fun k => (by cases k), fun k => (by cases k), fun k => (by cases k), fun k => (by cases k), fun k => (by cases k), fun k => (by cases k), fun k => (by cases k), fun k => (by cases k), fun k => (by cases k), fun k => (by cases k), fun k => (by cases k), fun k => (by cases k), fun k => (by cases k), fun k => (by cases k), fun k => (by cases k), fun k => (by cases k), fun k => (by cases k), fun k => (by cases k), fun k => (by cases k), fun k => (by cases k), fun k => (by cases k), fun k => (by cases k), fun k => (by cases k), fun k => (by cases k), fun k => (by cases k), fun k => (by cases k), fun k => (by cases k), fun k => (by cases k), fun k => (by cases k), fun k => (by cases k)⟩⟩ ?_ ?_
  · refine .cons ?_ (.cons ?_ (.cons ?_ (.cons ?_ (.cons ?_ (.cons ?_ (.cons ?_ (.cons ?_ (.cons ?_ (.cons ?_ (.cons ?_ (.cons ?_ (.cons ?_ (.cons ?_ (.cons ?_ (.cons ?_ (.cons ?_ (.cons ?_ (.cons ?_ (.cons ?_ (.cons ?_ (.cons ?_ (.cons ?_ (.cons ?_ (.cons ?_ (.cons ?_ (.cons ?_ (.cons ?_ (.cons ?_ (.cons ?_ (.cons ?_ (.cons ?_ (.cons ?_ (.cons ?_ (.cons ?_ (.cons ?_ (.cons ?_ (.cons ?_ (.cons ?_ (.cons ?_ (.cons ?_ (.cons ?_ .nil)))))))))))))))))))))))))))))))))))))))))
    all_goals (refine SM1.step ?_; intro x5 x6 x7 x8 x9 x10 x11 x12 x13 x14 x15 x16 x17 x18 x19 x20 x21 x22 x23 x24 x25 x26 x27 x28 x29 x30 x31 x32 x33 x34 x35 x36 x37 x38 x39 x40 x41 x42 x43 x44 x45 x4 L W hI hL hd K hK)
    · rw [if_pos (by rfl)]
      go_simp
      exact hK.out _ _ ⟨_, _, _, _, _, _, _, _, _, _, _, _, _, _, _, _, _, _, _, _, _, _, _, _, _, _, _, _, _, _, _, _, _, _, _, _, _, _, _, _, _, _, rfl, { hI with p0 := fun _ => rfl }⟩
    · obtain rfl := hI.p0 (hd 0 (by decide))
      refine step_load_rng25 (by rfl) 25 _ rfl w.heap.size 0 OH (IOh.out _ hI.x) rfl _ Tryd.underlying25 rfl (by rw [lOH]; kernel_rfl) ?_
      exact hK.out _ _ ⟨_, _, _, _, _, _, _, _, _, _, _, _, _, _, _, _, _, _, _, _, _, _, _, _, _, _, _, _, _, _, _, _, _, _, _, _, _, _, _, _, _, _, rfl, { hI with p1 := fun _ => rfl }⟩
    · rw [if_pos (by rfl)]
      go_simp
      exact hK.out _ _ ⟨_, _, _, _, _, _, _, _, _, _, _, _, _, _, _, _, _, _, _, _, _, _, _, _, _, _, _, _, _, _, _, _, _, _, _, _, _, _, _, _, _, _, rfl, { hI with p2 := fun _ => rfl }⟩
    · obtain rfl := hI.p2 (hd 2 (by decide))
      refine step_load_rng25 (by rfl) 25 _ rfl (w.heap.size + 1) 0 OH (XO.out _ hI.x) rfl _ Tryd.underlying25 rfl (by rw [lOH]; kernel_rfl) ?_
      exact hK.out _ _ ⟨_, _, _, _, _, _, _, _, _, _, _, _, _, _, _, _, _, _, _, _, _, _, _, _, _, _, _, _, _, _, _, _, _, _, _, _, _, _, _, _, _, _, rfl, { hI with p3 := fun _ => rfl }⟩
    · obtain rfl := hI.p1 (hd 1 (by decide))
      obtain rfl := hI.p3 (hd 3 (by decide))
      rw [if_pos (by rfl)]
      go_simp
      exact hK.out _ _ ⟨_, _, _, _, _, _, _, _, _, _, _, _, _, _, _, _, _, _, _, _, _, _, _, _, _, _, _, _, _, _, _, _, _, _, _, _, _, _, _, _, _, _, rfl, { hI with p4 := fun _ => rfl }⟩
    · obtain rfl := hI.p4 (hd 4 (by decide))
      rw [if_pos (by rfl)]
      go_simp
      exact hK.out _ _ ⟨_, _, _, _, _, _, _, _, _, _, _, _, _, _, _, _, _, _, _, _, _, _, _, _, _, _, _, _, _, _, _, _, _, _, _, _, _, _, _, _, _, _, rfl, { hI with p5 := fun _ => rfl }⟩
    · obtain rfl := hI.p5 (hd 5 (by decide))
      rw [if_pos (by rfl)]
      go_simp
      exact hK.out _ _ ⟨_, _, _, _, _, _, _, _, _, _, _, _, _, _, _, _, _, _, _, _, _, _, _, _, _, _, _, _, _, _, _, _, _, _, _, _, _, _, _, _, _, _, rfl, { hI with p6 := fun _ => rfl }⟩
    · obtain rfl := hI.p6 (hd 6 (by decide))
      obtain rfl := hI.p5 (hd 5 (by decide))
      refine step_load_rng25 (by rfl) 25 _ rfl w.heap.size 32 NH (IN.out _ hI.x) rfl _ Tryd.underlying25 rfl (by rw [lNH]; kernel_rfl) ?_
      exact hK.out _ _ ⟨_, _, _, _, _, _, _, _, _, _, _, _, _, _, _, _, _, _, _, _, _, _, _, _, _, _, _, _, _, _, _, _, _, _, _, _, _, _, _, _, _, _, rfl, { hI with p7 := fun _ => rfl }⟩
    · obtain rfl := hI.p5 (hd 5 (by decide))
      rw [if_pos (by rfl)]
      go_simp
      exact hK.out _ _ ⟨_, _, _, _, _, _, _, _, _, _, _, _, _, _, _, _, _, _, _, _, _, _, _, _, _, _, _, _, _, _, _, _, _, _, _, _, _, _, _, _, _, _, rfl, { hI with p8 := fun _ => rfl }⟩
    · obtain rfl := hI.p8 (hd 8 (by decide))
      obtain rfl := hI.p5 (hd 5 (by decide))
      refine step_load_rng25 (by rfl) 25 _ rfl (w.heap.size + 1) 32 NH (XN.out _ hI.x) rfl _ Tryd.underlying25 rfl (by rw [lNH]; kernel_rfl) ?_
      exact hK.out _ _ ⟨_, _, _, _, _, _, _, _, _, _, _, _, _, _, _, _, _, _, _, _, _, _, _, _, _, _, _, _, _, _, _, _, _, _, _, _, _, _, _, _, _, _, rfl, { hI with p9 := fun _ => rfl }⟩
    · obtain rfl := hI.p7 (hd 7 (by decide))
      obtain rfl := hI.p9 (hd 9 (by decide))
      obtain rfl := hI.p5 (hd 5 (by decide))
      rw [if_pos (by rfl)]
      go_simp
      exact hK.out _ _ ⟨_, _, _, _, _, _, _, _, _, _, _, _, _, _, _, _, _, _, _, _, _, _, _, _, _, _, _, _, _, _, _, _, _, _, _, _, _, _, _, _, _, _, rfl, { hI with p10 := fun _ => rfl }⟩
    · obtain rfl := hI.p5 (hd 5 (by decide))
      obtain rfl := hI.p10 (hd 10 (by decide))
      rw [if_pos (by rfl)]
      go_simp
      exact hK.out _ _ ⟨_, _, _, _, _, _, _, _, _, _, _, _, _, _, _, _, _, _, _, _, _, _, _, _, _, _, _, _, _, _, _, _, _, _, _, _, _, _, _, _, _, _, rfl, { hI with p11 := fun _ => rfl }⟩
    · obtain rfl := hI.p11 (hd 11 (by decide))
      rw [if_pos (by rfl)]
      go_simp
      exact hK.out _ _ ⟨_, _, _, _, _, _, _, _, _, _, _, _, _, _, _, _, _, _, _, _, _, _, _, _, _, _, _, _, _, _, _, _, _, _, _, _, _, _, _, _, _, _, rfl, { hI with p12 := fun _ => rfl }⟩
    · obtain rfl := hI.p12 (hd 12 (by decide))
      rw [if_pos (by rfl)]
      go_simp
      exact hK.out _ _ ⟨_, _, _, _, _, _, _, _, _, _, _, _, _, _, _, _, _, _, _, _, _, _, _, _, _, _, _, _, _, _, _, _, _, _, _, _, _, _, _, _, _, _, rfl, { hI with p13 := fun _ => rfl }⟩
    · obtain rfl := hI.p13 (hd 13 (by decide))
      obtain rfl := hI.p12 (hd 12 (by decide))
      rw [if_pos (by rfl)]
      have hc := I64.out _ hI.x
      go_simp
      exact hK.out _ _ ⟨_, _, _, _, _, _, _, _, _, _, _, _, _, _, _, _, _, _, _, _, _, _, _, _, _, _, _, _, _, _, _, _, _, _, _, _, _, _, _, _, _, _, rfl, { hI with p14 := fun _ => rfl }⟩
    · obtain rfl := hI.p12 (hd 12 (by decide))
      rw [if_pos (by rfl)]
      go_simp
      exact hK.out _ _ ⟨_, _, _, _, _, _, _, _, _, _, _, _, _, _, _, _, _, _, _, _, _, _, _, _, _, _, _, _, _, _, _, _, _, _, _, _, _, _, _, _, _, _, rfl, { hI with p15 := fun _ => rfl }⟩
    · obtain rfl := hI.p15 (hd 15 (by decide))
      obtain rfl := hI.p12 (hd 12 (by decide))
      rw [if_pos (by rfl)]
      have hc := X64.out _ hI.x
      go_simp
      exact hK.out _ _ ⟨_, _, _, _, _, _, _, _, _, _, _, _, _, _, _, _, _, _, _, _, _, _, _, _, _, _, _, _, _, _, _, _, _, _, _, _, _, _, _, _, _, _, rfl, { hI with p16 := fun _ => rfl }⟩
    · obtain rfl := hI.p14 (hd 14 (by decide))
      obtain rfl := hI.p16 (hd 16 (by decide))
      obtain rfl := hI.p12 (hd 12 (by decide))
      rw [if_pos (by rfl)]
      go_simp
      exact hK.out _ _ ⟨_, _, _, _, _, _, _, _, _, _, _, _, _, _, _, _, _, _, _, _, _, _, _, _, _, _, _, _, _, _, _, _, _, _, _, _, _, _, _, _, _, _, rfl, { hI with p17 := fun _ => rfl }⟩
    · obtain rfl := hI.p12 (hd 12 (by decide))
      obtain rfl := hI.p17 (hd 17 (by decide))
      rw [if_pos (by rfl)]
      go_simp
      exact hK.out _ _ ⟨_, _, _, _, _, _, _, _, _, _, _, _, _, _, _, _, _, _, _, _, _, _, _, _, _, _, _, _, _, _, _, _, _, _, _, _, _, _, _, _, _, _, rfl, { hI with p18 := fun _ => rfl }⟩
    · obtain rfl := hI.p18 (hd 18 (by decide))
      rw [if_pos (by rfl)]
      go_simp
      exact hK.out _ _ ⟨_, _, _, _, _, _, _, _, _, _, _, _, _, _, _, _, _, _, _, _, _, _, _, _, _, _, _, _, _, _, _, _, _, _, _, _, _, _, _, _, _, _, rfl, { hI with p19 := fun _ => rfl }⟩
    · obtain rfl := hI.p19 (hd 19 (by decide))
      rw [if_pos (by rfl)]
      go_simp
      exact hK.out _ _ ⟨_, _, _, _, _, _, _, _, _, _, _, _, _, _, _, _, _, _, _, _, _, _, _, _, _, _, _, _, _, _, _, _, _, _, _, _, _, _, _, _, _, _, rfl, { hI with p20 := fun _ => rfl }⟩
    · obtain rfl := hI.p20 (hd 20 (by decide))
      obtain rfl := hI.p19 (hd 19 (by decide))
      rw [if_pos (by rfl)]
      have hc := I65.out _ hI.x
      go_simp
      exact hK.out _ _ ⟨_, _, _, _, _, _, _, _, _, _, _, _, _, _, _, _, _, _, _, _, _, _, _, _, _, _, _, _, _, _, _, _, _, _, _, _, _, _, _, _, _, _, rfl, { hI with p21 := fun _ => rfl }⟩
    · obtain rfl := hI.p19 (hd 19 (by decide))
      rw [if_pos (by rfl)]
      go_simp
      exact hK.out _ _ ⟨_, _, _, _, _, _, _, _, _, _, _, _, _, _, _, _, _, _, _, _, _, _, _, _, _, _, _, _, _, _, _, _, _, _, _, _, _, _, _, _, _, _, rfl, { hI with p22 := fun _ => rfl }⟩
    · obtain rfl := hI.p22 (hd 22 (by decide))
      obtain rfl := hI.p19 (hd 19 (by decide))
      rw [if_pos (by rfl)]
      have hc := X65.out _ hI.x
      go_simp
      exact hK.out _ _ ⟨_, _, _, _, _, _, _, _, _, _, _, _, _, _, _, _, _, _, _, _, _, _, _, _, _, _, _, _, _, _, _, _, _, _, _, _, _, _, _, _, _, _, rfl, { hI with p23 := fun _ => rfl }⟩
    · obtain rfl := hI.p21 (hd 21 (by decide))
      obtain rfl := hI.p23 (hd 23 (by decide))
      obtain rfl := hI.p19 (hd 19 (by decide))
      rw [if_pos (by rfl)]
      go_simp
      exact hK.out _ _ ⟨_, _, _, _, _, _, _, _, _, _, _, _, _, _, _, _, _, _, _, _, _, _, _, _, _, _, _, _, _, _, _, _, _, _, _, _, _, _, _, _, _, _, rfl, { hI with p24 := fun _ => rfl }⟩
    · obtain rfl := hI.p19 (hd 19 (by decide))
      obtain rfl := hI.p24 (hd 24 (by decide))
      rw [if_pos (by rfl)]
      go_simp
      exact hK.out _ _ ⟨_, _, _, _, _, _, _, _, _, _, _, _, _, _, _, _, _, _, _, _, _, _, _, _, _, _, _, _, _, _, _, _, _, _, _, _, _, _, _, _, _, _, rfl, { hI with p25 := fun _ => rfl }⟩
    · obtain rfl := hI.p25 (hd 25 (by decide))
      rw [if_pos (by rfl)]
      go_simp
      exact hK.out _ _ ⟨_, _, _, _, _, _, _, _, _, _, _, _, _, _, _, _, _, _, _, _, _, _, _, _, _, _, _, _, _, _, _, _, _, _, _, _, _, _, _, _, _, _, rfl, { hI with p26 := fun _ => rfl }⟩
    · obtain rfl := hI.p26 (hd 26 (by decide))
      rw [if_pos (by rfl)]
      go_simp
      exact hK.out _ _ ⟨_, _, _, _, _, _, _, _, _, _, _, _, _, _, _, _, _, _, _, _, _, _, _, _, _, _, _, _, _, _, _, _, _, _, _, _, _, _, _, _, _, _, rfl, { hI with p27 := fun _ => rfl }⟩
    · obtain rfl := hI.p27 (hd 27 (by decide))
      obtain rfl := hI.p26 (hd 26 (by decide))
      rw [if_pos (by rfl)]
      have hc := I66.out _ hI.x
      go_simp
      exact hK.out _ _ ⟨_, _, _, _, _, _, _, _, _, _, _, _, _, _, _, _, _, _, _, _, _, _, _, _, _, _, _, _, _, _, _, _, _, _, _, _, _, _, _, _, _, _, rfl, { hI with p28 := fun _ => rfl }⟩
    · obtain rfl := hI.p26 (hd 26 (by decide))
      rw [if_pos (by rfl)]
      go_simp
      exact hK.out _ _ ⟨_, _, _, _, _, _, _, _, _, _, _, _, _, _, _, _, _, _, _, _, _, _, _, _, _, _, _, _, _, _, _, _, _, _, _, _, _, _, _, _, _, _, rfl, { hI with p29 := fun _ => rfl }⟩
    · obtain rfl := hI.p29 (hd 29 (by decide))
      obtain rfl := hI.p26 (hd 26 (by decide))
      rw [if_pos (by rfl)]
      have hc := X66.out _ hI.x
      go_simp
      exact hK.out _ _ ⟨_, _, _, _, _, _, _, _, _, _, _, _, _, _, _, _, _, _, _, _, _, _, _, _, _, _, _, _, _, _, _, _, _, _, _, _, _, _, _, _, _, _, rfl, { hI with p30 := fun _ => rfl }⟩
    · obtain rfl := hI.p30 (hd 30 (by decide))
      obtain rfl := hI.p26 (hd 26 (by decide))
      rw [if_pos (by rfl)]
      go_simp
      exact hK.out _ _ ⟨_, _, _, _, _, _, _, _, _, _, _, _, _, _, _, _, _, _, _, _, _, _, _, _, _, _, _, _, _, _, _, _, _, _, _, _, _, _, _, _, _, _, rfl, { hI with p31 := fun _ => rfl }⟩
    · obtain rfl := hI.p28 (hd 28 (by decide))
      obtain rfl := hI.p31 (hd 31 (by decide))
      obtain rfl := hI.p26 (hd 26 (by decide))
      rw [if_pos (by rfl)]
      go_simp
      exact hK.out _ _ ⟨_, _, _, _, _, _, _, _, _, _, _, _, _, _, _, _, _, _, _, _, _, _, _, _, _, _, _, _, _, _, _, _, _, _, _, _, _, _, _, _, _, _, rfl, { hI with p32 := fun _ => rfl }⟩
    · obtain rfl := hI.p26 (hd 26 (by decide))
      obtain rfl := hI.p32 (hd 32 (by decide))
      rw [if_pos (by rfl)]
      go_simp
      exact hK.out _ _ ⟨_, _, _, _, _, _, _, _, _, _, _, _, _, _, _, _, _, _, _, _, _, _, _, _, _, _, _, _, _, _, _, _, _, _, _, _, _, _, _, _, _, _, rfl, { hI with p33 := fun _ => rfl }⟩
    · obtain rfl := hI.p33 (hd 33 (by decide))
      rw [if_pos (by rfl)]
      go_simp
      exact hK.out _ _ ⟨_, _, _, _, _, _, _, _, _, _, _, _, _, _, _, _, _, _, _, _, _, _, _, _, _, _, _, _, _, _, _, _, _, _, _, _, _, _, _, _, _, _, rfl, { hI with p34 := fun _ => rfl }⟩
    · obtain rfl := hI.p34 (hd 34 (by decide))
      rw [if_pos (by rfl)]
      go_simp
      exact hK.out _ _ ⟨_, _, _, _, _, _, _, _, _, _, _, _, _, _, _, _, _, _, _, _, _, _, _, _, _, _, _, _, _, _, _, _, _, _, _, _, _, _, _, _, _, _, rfl, { hI with p35 := fun _ => rfl }⟩
    · obtain rfl := hI.p35 (hd 35 (by decide))
      obtain rfl := hI.p34 (hd 34 (by decide))
      rw [if_pos (by rfl)]
      have hc := I67.out _ hI.x
      go_simp
      exact hK.out _ _ ⟨_, _, _, _, _, _, _, _, _, _, _, _, _, _, _, _, _, _, _, _, _, _, _, _, _, _, _, _, _, _, _, _, _, _, _, _, _, _, _, _, _, _, rfl, { hI with p36 := fun _ => rfl }⟩
    · obtain rfl := hI.p34 (hd 34 (by decide))
      refine step_load_rng25 (by rfl) 34 _ rfl (w.heap.size + 1) 0 C (XA.out _ hI.x) rfl _ Tryd.underlying34 rfl (by rw [lC]; kernel_rfl) ?_
      exact hK.out _ _ ⟨_, _, _, _, _, _, _, _, _, _, _, _, _, _, _, _, _, _, _, _, _, _, _, _, _, _, _, _, _, _, _, _, _, _, _, _, _, _, _, _, _, _, rfl, { hI with p37 := fun _ => rfl }⟩
    · obtain rfl := hI.p37 (hd 37 (by decide))
      obtain rfl := hI.p34 (hd 34 (by decide))
      rw [if_pos (by rfl)]
      go_simp
      refine (LD.out _ hI.x).mono ?_
      rintro e W2 ⟨rfl, b2⟩
      go_simp
      have hX := hI.x.trans (b2.mono hI.x.size)
      exact hK.out _ _ ⟨_, _, _, _, _, _, _, _, _, _, _, _, _, _, _, _, _, _, _, _, _, _, _, _, _, _, _, _, _, _, _, _, _, _, _, _, _, _, _, _, _, _, rfl, { hI with x := hX, p38 := fun _ => rfl }⟩
    · obtain rfl := hI.p36 (hd 36 (by decide))
      obtain rfl := hI.p38 (hd 38 (by decide))
      obtain rfl := hI.p34 (hd 34 (by decide))
      rw [if_pos (by rfl)]
      go_simp
      exact hK.out _ _ ⟨_, _, _, _, _, _, _, _, _, _, _, _, _, _, _, _, _, _, _, _, _, _, _, _, _, _, _, _, _, _, _, _, _, _, _, _, _, _, _, _, _, _, rfl, { hI with p39 := fun _ => rfl }⟩
    · obtain rfl := hI.p34 (hd 34 (by decide))
      obtain rfl := hI.p39 (hd 39 (by decide))
      rw [if_pos (by rfl)]
      go_simp
      exact hK.out _ _ ⟨_, _, _, _, _, _, _, _, _, _, _, _, _, _, _, _, _, _, _, _, _, _, _, _, _, _, _, _, _, _, _, _, _, _, _, _, _, _, _, _, _, _, rfl, { hI with p40 := fun _ => rfl }⟩
    · obtain rfl := hI.p40 (hd 40 (by decide))
      rw [if_pos (by rfl)]
      go_simp
      exact hK.out _ _ ⟨_, _, _, _, _, _, _, _, _, _, _, _, _, _, _, _, _, _, _, _, _, _, _, _, _, _, _, _, _, _, _, _, _, _, _, _, _, _, _, _, _, _, rfl, { hI with p41 := fun _ => rfl }⟩
  · rintro L _ W hall ⟨x5, x6, x7, x8, x9, x10, x11, x12, x13, x14, x15, x16, x17, x18, x19, x20, x21, x22, x23, x24, x25, x26, x27, x28, x29, x30, x31, x32, x33, x34, x35, x36, x37, x38, x39, x40, x41, x42, x43, x44, x45, x4, rfl, hI⟩
    obtain rfl := hI.p0 (hall 0 (by decide))
    obtain rfl := hI.p1 (hall 1 (by decide))
    obtain rfl := hI.p2 (hall 2 (by decide))
    obtain rfl := hI.p3 (hall 3 (by decide))
    obtain rfl := hI.p4 (hall 4 (by decide))
    obtain rfl := hI.p5 (hall 5 (by decide))
    obtain rfl := hI.p6 (hall 6 (by decide))
    obtain rfl := hI.p7 (hall 7 (by decide))
    obtain rfl := hI.p8 (hall 8 (by decide))
    obtain rfl := hI.p9 (hall 9 (by decide))
    obtain rfl := hI.p10 (hall 10 (by decide))
    obtain rfl := hI.p11 (hall 11 (by decide))
    obtain rfl := hI.p12 (hall 12 (by decide))
    obtain rfl := hI.p13 (hall 13 (by decide))
    obtain rfl := hI.p14 (hall 14 (by decide))
    obtain rfl := hI.p15 (hall 15 (by decide))
    obtain rfl := hI.p16 (hall 16 (by decide))
    obtain rfl := hI.p17 (hall 17 (by decide))
    obtain rfl := hI.p18 (hall 18 (by decide))
    obtain rfl := hI.p19 (hall 19 (by decide))
    obtain rfl := hI.p20 (hall 20 (by decide))
    obtain rfl := hI.p21 (hall 21 (by decide))
    obtain rfl := hI.p22 (hall 22 (by decide))
    obtain rfl := hI.p23 (hall 23 (by decide))
    obtain rfl := hI.p24 (hall 24 (by decide))
    obtain rfl := hI.p25 (hall 25 (by decide))
    obtain rfl := hI.p26 (hall 26 (by decide))
    obtain rfl := hI.p27 (hall 27 (by decide))
    obtain rfl := hI.p28 (hall 28 (by decide))
    obtain rfl := hI.p29 (hall 29 (by decide))
    obtain rfl := hI.p30 (hall 30 (by decide))
    obtain rfl := hI.p31 (hall 31 (by decide))
    obtain rfl := hI.p32 (hall 32 (by decide))
    obtain rfl := hI.p33 (hall 33 (by decide))
    obtain rfl := hI.p34 (hall 34 (by decide))
    obtain rfl := hI.p35 (hall 35 (by decide))
    obtain rfl := hI.p36 (hall 36 (by decide))
    obtain rfl := hI.p37 (hall 37 (by decide))
    obtain rfl := hI.p38 (hall 38 (by decide))
    obtain rfl := hI.p39 (hall 39 (by decide))
    obtain rfl := hI.p40 (hall 40 (by decide))
    obtain rfl := hI.p41 (hall 41 (by decide))
    have hXe := hI.x
    clear hI hall
    try dsimp only
    go_wp2
    go_ret
    exact ⟨rfl, HB1.out.trans (hXe.mono HB1.out.size)⟩
end Go.Proofs.YtplpoehfdhkhmaaDoor


/-! The law of layer 25: fixed. -/
namespace Go.Proofs.YtplpoehfdhkhmaaDoor
open Go.RowKit
set_option linter.unusedVariables false

def abc : List By := [97#8, 98#8, 99#8]
def abd : List By := [97#8, 98#8, 100#8]
theorem sha_abc : sha abd ≠ sha abc := by decide +kernel
theorem most_abc : mostN abc abd = 85 := by decide +kernel
theorem read_nil : readR [] = .error (6, 0) := by rfl
/-- What Apply makes of a patch that was made. -/
theorem apply_made {M J : List By -> List By -> List By} (P : Pch M J) {old new : List By} (h1 : old.length <= 524288) (h2 : new.length <= 524288) : applyR old (M old new) = .ok new := by
  obtain ⟨x, hr, hb, ha, ho, hn, ht, _⟩ := P.made old new h1 h2
  unfold applyR
  rw [hr]
  dsimp only
  rw [if_neg (by rintro (h | h); exact h hb.symm; exact h ho.symm), ht, if_neg (by rw [hn]; exact fun h => h rfl)]
theorem apply_other {M J : List By -> List By -> List By} (P : Pch M J) {old new other : List By} (h1 : old.length <= 524288) (h2 : new.length <= 524288) (h : other.length ≠ old.length ∨ sha other ≠ sha old) : applyR other (M old new) = .error (11, 5) := by
  obtain ⟨x, hr, hb, ha, ho, hn, ht, _⟩ := P.made old new h1 h2
  unfold applyR
  rw [hr]
  dsimp only
  rw [if_pos (by rw [hb, ho]; exact h)]
abbrev zInf : List Value := z32b.map B8 ++ z32b.map B8 ++ [.int .i64 0, .int .i64 0, .int .i64 0, .int .i64 0]
theorem zInf_eq : infoC zX = zInf := rfl
theorem isb_mk25 {w : World} {g t : Nat} {fz : Nat × Nat} {l : List By} (h : w.heap[g]? = some (.cells (l.map B8).toArray t fz)) : IsB w (some ⟨g, 0, none⟩) l :=
  .inr ⟨g, 0, rfl, fun j v hj => by rw [Nat.zero_add, cell_of_row w g j _ t fz h]; simp [hj]⟩
theorem mk_abc {M J : List By -> List By -> List By} (P : Pch M J) : (M abc abd).length <= 85 := by
  obtain ⟨x, _, _, _, _, _, _, h⟩ := P.made abc abd (by decide) (by decide)
  rw [most_abc] at h
  exact h

set_option maxHeartbeats 4000000 in
set_option maxRecDepth 100000 in
theorem fixed25_any {M J : List By -> List By -> List By} (P : Pch M J) (w : World) (hg : HG w) : Calls Tryd.prog 9 #[] w fun e w' => e = .returned (.bool true) /\ Below w.heap.size w w' := by
  obtain ⟨w1, hw1⟩ : ∃ w1, w1 = (w.alloc (.cells (abc.map B8).toArray 5 (3, 4))).alloc (.cells (abd.map B8).toArray 5 (3, 4)) := ⟨_, rfl⟩
  have b1 : Below w.heap.size w w1 := by rw [hw1]; exact ((Below.refl _ _).alloc (Nat.le_refl _) _).alloc (by simp) _
  have ra : IsB w1 (some ⟨w.heap.size, 0, none⟩) abc := by rw [hw1]; exact isb_mk25 ((Below.heap_alloc _ _ _ (by simp)).trans (heap_alloc_new w _))
  have rb : IsB w1 (some ⟨w.heap.size + 1, 0, none⟩) abd := by rw [hw1]; exact isb_mk25 (by have := heap_alloc_new (w.alloc (.cells (abc.map B8).toArray 5 (3, 4))) (.cells (abd.map B8).toArray 5 (3, 4)); simpa using this)
  have KA : Hid (∀ W : World, _) := fun W => Lib.run_convert_bytes_const (P := Tryd.prog) W 23 5 #[.int .u8 97, .int .u8 98, .int .u8 99] 3 3 Tryd.underlying23 Tryd.underlying5
  have KB : Hid (∀ W : World, _) := fun W => Lib.run_convert_bytes_const (P := Tryd.prog) W 23 5 #[.int .u8 97, .int .u8 98, .int .u8 100] 3 3 Tryd.underlying23 Tryd.underlying5
  have kc1 := KA.out w
  have kc2 := fun o1 : Obj => KB.out (w.alloc o1)
  have hz : ∀ o1 : Obj, (w.alloc o1).heap.size = w.heap.size + 1 := fun o1 => by simp
  simp only [hz] at kc2
  have HGB : Hid (∀ W, Below w.heap.size w W -> HG W) := fun W h => hg.below h hg.lt
  have MK := P.make w1 (some ⟨w.heap.size, 0, none⟩) 3 3 abc (some ⟨w.heap.size + 1, 0, none⟩) 3 3 abd (HGB.out _ b1) rfl (by omega) (Nat.le_refl _) (fun h => by cases h) ra rfl (by omega) (Nat.le_refl _) (fun h => by cases h) rb
  rw [hw1] at MK
  have HP : Hid (Pch M J) := P
  have hl85 := mk_abc P
  clear ra rb hg P hz
  go_enter Tryd.func9, Tryd.ntmps9
  go_wp2_with fail
  refine MK.mono ?_
  rw [<- hw1]
  clear MK hw1 kc1 kc2
  rintro e w2 ⟨hb2, b, hbv, rfl⟩
  rw [if_pos (by decide)] at hbv
  rw [if_pos (by decide)]
  have B2 : Hid (Below w.heap.size w w2) := b1.trans (hb2.mono b1.size)
  obtain ⟨bo, bc, rfl, hbi, hbn, hbc⟩ := hbv.eq
  have HBI : Hid (∀ W, Below w2.heap.size w2 W -> IsB W bo (M abc abd)) := fun W h => hbi.below h (Nat.le_refl _)
  clear hb2 b1 hbv hbi
  dsimp only
  -- Apply of the old row
  have A1 := HP.out.apply (w2.alloc (.cells (abc.map B8).toArray 5 (3, 4))) (some ⟨w2.heap.size, 0, none⟩) 3 3 abc bo (M abc abd).length bc (M abc abd) (HGB.out _ (B2.out.alloc B2.out.size _)) rfl (by omega) (Nat.le_refl _) (fun h => by cases h) (isb_mk25 (heap_alloc_new w2 _)) rfl (by omega) hbc hbn (HBI.out _ ((Below.refl _ _).alloc (Nat.le_refl _) _))
  have kc3 := KA.out w2
  go_wp2_with fail
  refine A1.mono ?_
  clear A1 kc3
  rintro e w3 ⟨hb3, hm⟩
  rw [apply_made HP.out (by decide) (by decide)] at hm
  obtain ⟨v3, rfl, hv3⟩ := hm
  obtain ⟨ao3, c3, rfl, hi3, _, _⟩ := hv3.eq
  have l3 : abd.length = 3 := rfl
  rw [l3]
  have HI3 : Hid (∀ W, Below w3.heap.size w3 W -> IsB W ao3 abd) := fun W h => hi3.below h (Nat.le_refl _)
  clear hi3 hv3 l3
  have b23 : Below w2.heap.size w2 w3 := ((Below.refl _ _).alloc (Nat.le_refl _) _).trans (hb3.mono (by simp))
  have B3 : Hid (Below w.heap.size w w3) := B2.out.trans (b23.mono B2.out.size)
  have HB23 : Hid (Below w2.heap.size w2 w3) := b23
  clear hb3 b23
  dsimp only
  -- Apply of another one
  have A2 := HP.out.apply (w3.alloc (.cells (abd.map B8).toArray 5 (3, 4))) (some ⟨w3.heap.size, 0, none⟩) 3 3 abd bo (M abc abd).length bc (M abc abd) (HGB.out _ (B3.out.alloc B3.out.size _)) rfl (by omega) (Nat.le_refl _) (fun h => by cases h) (isb_mk25 (heap_alloc_new w3 _)) rfl (by omega) hbc hbn (HBI.out _ (HB23.out.alloc HB23.out.size _))
  have kc4 := KB.out w3
  go_wp2_with fail
  refine A2.mono ?_
  clear A2 kc4
  rintro e w4 ⟨hb4, hm⟩
  rw [apply_other HP.out (by decide) (by decide) (.inr sha_abc)] at hm
  obtain ⟨v4, e4, rfl, _, he4⟩ := hm
  have b34 : Below w3.heap.size w3 w4 := ((Below.refl _ _).alloc (Nat.le_refl _) _).trans (hb4.mono (by simp))
  have B4 : Hid (Below w.heap.size w w4) := B3.out.trans (b34.mono B3.out.size)
  have HI4 : Hid (∀ W, Below w4.heap.size w4 W -> IsB W ao3 abd) := fun W h => HI3.out W (b34.trans (h.mono b34.size))
  have HE4 : Hid (ErrV w4 11 5 e4) := he4
  clear hb4 b34 HI3 he4 B3 HB23 HBI
  dsimp only
  -- Read of nothing
  have R1 := HP.out.read w4 none 0 0 [] (HGB.out _ B4.out) rfl (by omega) (Nat.le_refl _) (fun _ => rfl) (.inl rfl)
  go_wp2_with fail
  refine R1.mono ?_
  clear R1
  rintro e w5 ⟨hb5, hm⟩
  rw [read_nil] at hm
  obtain ⟨e5, rfl, he5⟩ := hm
  have B5 : Hid (Below w.heap.size w w5) := B4.out.trans (hb5.mono B4.out.size)
  have HI5 : Hid (∀ W, Below w5.heap.size w5 W -> IsB W ao3 abd) := fun W h => HI4.out W (hb5.trans (h.mono hb5.size))
  have H45 : Hid (ErrV w5 11 5 e4) := HE4.out.keep hb5
  have HE5 : Hid (ErrV w5 6 0 e5) := he5
  obtain ⟨ZI, hZI⟩ : ∃ ZI : Array Value, ZI = (infoC zX).toArray := ⟨_, rfl⟩
  have HZI : Hid (ZI = (infoC zX).toArray) := hZI
  rw [<- hZI]
  dsimp only
  clear hb5 HI4 HE4 he5 hZI
  have y85 : ((M abc abd).length : Int) <= 85 := by omega
  generalize (M abc abd).length = ml at *
  go_wp2_with (first
    | (have hz := HI5; clear hz; refine wpList_store_Row rfl 27 (.tmp 7) (.tmp 33) rfl w5.heap.size 27 0 zInf zInf (Row.at w5 _ _ _ _ rfl rfl) (Nat.le_refl _) rfl (congrArg Value.agg (HZI.out.trans (congrArg List.toArray zInf_eq))) (by kernel_rfl) (infoC_one zX) ?_; intro w6 hr6 hs6; have b6 : Below w5.heap.size w5 w6 := hs6.below ((Below.refl _ _).alloc (Nat.le_refl _) _) (Nat.le_refl _); have B6 : Hid (Below w.heap.size w w6) := B5.out.trans (b6.mono B5.out.size); have cv := conv_bytes w6 ao3 3 c3 abd rfl (HI5.out _ b6); have H46 : Hid (ErrV w6 11 5 e4) := H45.out.keep b6; have H56 : Hid (ErrV w6 6 0 e5) := HE5.out.keep b6; have hS : strOf abd = { data := #[97, 98, 100] } := rfl; rw [hS] at cv; clear hr6 hs6 b6 HI5 H45 HE5 hS)
    | (have hz := H46; clear hz; go_at_call 14; refine (is_wrong _ (HGB.out _ B6.out) 11 5 (by omega) _ H46.out).mono ?_; rintro e w7 ⟨rfl, hb7⟩; have B7 : Hid (Below w.heap.size w w7) := B6.out.trans (hb7.mono B6.out.size); have H57 : Hid (ErrV w7 6 0 e5) := H56.out.keep hb7; clear hb7 H46 H56 B6 cv)
    | (have hz := H57; clear hz; go_at_call 14; refine (is_wrong _ (HGB.out _ B7.out) 6 0 (by omega) _ H57.out).mono ?_; rintro e w8 ⟨rfl, hb8⟩; have B8 : Hid (Below w.heap.size w w8) := B7.out.trans (hb8.mono B7.out.size); clear hb8 H57 B7))
  go_ret
  exact ⟨rfl, B8.out⟩
end Go.Proofs.YtplpoehfdhkhmaaDoor
