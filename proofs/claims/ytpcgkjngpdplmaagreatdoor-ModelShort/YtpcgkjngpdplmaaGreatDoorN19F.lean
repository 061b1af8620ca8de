
import Derived.Test.YtpcgkjngpdplmaaGreatDoorN19E
import Derived.Laws.Bits64b
/-! The code's model: isRevoked, revoke, revoked. (Printed by tools/genn19.py.) -/
namespace Go.Proofs.YtpcgkjngpdplmaaGreatDoor
open Go.RowKit Go.Maps
set_option linter.unusedVariables false
set_option linter.unusedSimpArgs false

theorem u64_nat {n : Nat} (h : n < 18446744073709551616) : IntKind.u64.wrap (n : Int) = (n : Int) := by
  simp only [IntKind.wrap, IntKind.signed, IntKind.bits]
  simp
  omega
theorem rev_bit {r k : Nat} (hr : r < 2 ^ 64) : (bits BinOp.and IntKind.u64 ((r : Int) / 2 ^ k) 1 == 1) = r.testBit k := by
  have e1 : ((r : Int) / 2 ^ k) = ((r / 2 ^ k : Nat) : Int) := by rw [Int.natCast_ediv, Int.natCast_pow]; rfl
  have hd : r / 2 ^ k < 18446744073709551616 := Nat.lt_of_le_of_lt (Nat.div_le_self _ _) hr
  have := bits_and_u64_nat (r / 2 ^ k) 1 hd (by omega)
  rw [e1, show (1 : Int) = ((1 : Nat) : Int) by rfl, this, Nat.and_one_is_mod, Nat.testBit_eq_decide_div_mod_eq]
  rw [Bool.eq_iff_iff, beq_iff_eq, decide_eq_true_iff]
  omega
set_option maxHeartbeats 2000000 in
set_option maxRecDepth 100000 in
theorem isRevoked_any (s : CS) (hs : s.Wf) (k : Nat) (hk : k < 64) (w : World) : Calls Tryz.prog 70 #[.agg (csC s).toArray, .int .i64 (k : Int)] w fun e w' => e = .returned (.bool (s.rev.testBit k)) ∧ Below w.heap.size w w' := by
  obtain ⟨w1, hw1⟩ : ∃ w1, w1 = w.alloc (.cells (csC s).toArray 67) := ⟨_, rfl⟩
  have r1 : Row w1 w.heap.size 67 (csC s) := by rw [hw1]; exact Row.at _ _ _ _ _ rfl rfl
  have c0 : w1.cell? ⟨w.heap.size, 8, none⟩ = some (.int .u64 (s.rev : Int)) := r1.cell 8 _ (csC_at hs.len 0)
  have HB : Hid (Below w.heap.size w w1) := by rw [hw1]; exact (Below.refl _ _).alloc (Nat.le_refl _) _
  have y0 : (0 : Int) ≤ (k : Int) := by omega
  have y1 : (k : Int) < 64 := by omega
  have hr := hs.rev
  clear hs
  go_enter Tryz.func70, Tryz.ntmps70
  go_wp2_with (first
    | (rw [← hw1]; have hz := hw1; clear hz hw1))
  rw [rev_bit hr]
  go_ret
  exact ⟨rfl, HB.out⟩

structure RV1 (W1 : World) (ab nb mb : Nat) (aa : AN) (n : Nat) (LL : List CS) (w : World) (N : Nat) (T : TL) (s : CS) (sb k : Nat) (X : Bool) (L : Nat → Bool) (x5 x6 x7 x8 x9 x10 x11 : Value) (W : World) : Prop where
  x : DW ab nb mb aa n LL w N T s (L 6) W
  p0 : L 0 = true → x5 = .func (.func 26) #[] #[.pointer (some ⟨ab, 0, none⟩), .pointer (some ⟨nb, 0, none⟩)]
  p1 : L 1 = true → x6 = .agg (csC s).toArray
  p2 : L 2 = true → x7 = .int .i64 (k : Int)
  p3 : L 3 = true → x8 = .bool X
  p4 : L 4 = true → x9 = .agg (anC ⟨0, 0, X, zH⟩ 0).toArray
  p5 : L 5 = true → x10 = .agg (csC s).toArray
  p6 : L 6 = true → x11 = .tuple #[]
section
variable {W1 : World} {ab nb mb : Nat} {aa : AN} {n : Nat} {LL : List CS} {w : World} {N : Nat} {T : TL} {s : CS} {sb k : Nat} {X : Bool} {L : Nat → Bool} {x5 x6 x7 x8 x9 x10 x11 : Value} {W W2 : World}
theorem RV1.s0 (h : RV1 W1 ab nb mb aa n LL w N T s sb k X L x5 x6 x7 x8 x9 x10 x11 W) : RV1 W1 ab nb mb aa n LL w N T s sb k X (upd L 0) (.func (.func 26) #[] #[.pointer (some ⟨ab, 0, none⟩), .pointer (some ⟨nb, 0, none⟩)]) x6 x7 x8 x9 x10 x11 W :=
  ⟨h.x, fun _ => rfl, h.p1, h.p2, h.p3, h.p4, h.p5, h.p6⟩
theorem RV1.s1 (h : RV1 W1 ab nb mb aa n LL w N T s sb k X L x5 x6 x7 x8 x9 x10 x11 W) : RV1 W1 ab nb mb aa n LL w N T s sb k X (upd L 1) x5 (.agg (csC s).toArray) x7 x8 x9 x10 x11 W :=
  ⟨h.x, h.p0, fun _ => rfl, h.p2, h.p3, h.p4, h.p5, h.p6⟩
theorem RV1.s2 (h : RV1 W1 ab nb mb aa n LL w N T s sb k X L x5 x6 x7 x8 x9 x10 x11 W) : RV1 W1 ab nb mb aa n LL w N T s sb k X (upd L 2) x5 x6 (.int .i64 (k : Int)) x8 x9 x10 x11 W :=
  ⟨h.x, h.p0, h.p1, fun _ => rfl, h.p3, h.p4, h.p5, h.p6⟩
theorem RV1.s3 (h : RV1 W1 ab nb mb aa n LL w N T s sb k X L x5 x6 x7 x8 x9 x10 x11 W) (hX : DW ab nb mb aa n LL w N T s ((upd L 3) 6) W2) : RV1 W1 ab nb mb aa n LL w N T s sb k X (upd L 3) x5 x6 x7 (.bool X) x9 x10 x11 W2 :=
  ⟨hX, h.p0, h.p1, h.p2, fun _ => rfl, h.p4, h.p5, h.p6⟩
theorem RV1.s4 (h : RV1 W1 ab nb mb aa n LL w N T s sb k X L x5 x6 x7 x8 x9 x10 x11 W) : RV1 W1 ab nb mb aa n LL w N T s sb k X (upd L 4) x5 x6 x7 x8 (.agg (anC ⟨0, 0, X, zH⟩ 0).toArray) x10 x11 W :=
  ⟨h.x, h.p0, h.p1, h.p2, h.p3, fun _ => rfl, h.p5, h.p6⟩
theorem RV1.s5 (h : RV1 W1 ab nb mb aa n LL w N T s sb k X L x5 x6 x7 x8 x9 x10 x11 W) : RV1 W1 ab nb mb aa n LL w N T s sb k X (upd L 5) x5 x6 x7 x8 x9 (.agg (csC s).toArray) x11 W :=
  ⟨h.x, h.p0, h.p1, h.p2, h.p3, h.p4, fun _ => rfl, h.p6⟩
theorem RV1.s6 (h : RV1 W1 ab nb mb aa n LL w N T s sb k X L x5 x6 x7 x8 x9 x10 x11 W) (hX : DW ab nb mb aa n LL w N T s ((upd L 6) 6) W2) : RV1 W1 ab nb mb aa n LL w N T s sb k X (upd L 6) x5 x6 x7 x8 x9 x10 (.tuple #[]) W2 :=
  ⟨hX, h.p0, h.p1, h.p2, h.p3, h.p4, h.p5, fun _ => rfl⟩
end
@[reducible] def IRV1 (W1 : World) (ab nb mb : Nat) (aa : AN) (n : Nat) (LL : List CS) (w : World) (N : Nat) (T : TL) (s : CS) (sb k : Nat) (X : Bool) (y0 y1 y2 y3 y4 : Value) : (Nat → Bool) → Act → World → Prop := fun L a W => ∃ x5 x6 x7 x8 x9 x10 x11, a = ⟨#[y0, y1, y2, y3, y4, x5, x6, x7, x8, x9, x10, x11], []⟩ ∧ RV1 W1 ab nb mb aa n LL w N T s sb k X L x5 x6 x7 x8 x9 x10 x11 W
theorem RV1.step {W1 : World} {ab nb mb : Nat} {aa : AN} {n : Nat} {LL : List CS} {w : World} {N : Nat} {T : TL} {s : CS} {sb k : Nat} {X : Bool} {y0 y1 y2 y3 y4 : Value} {P : Program} {ops : Array Oper} {Q : Exit → Act → World → Prop} {i : Nat} {o : Oper} (hq : ∀ x5 x6 x7 x8 x9 x10 x11 (L : Nat → Bool) (W : World), RV1 W1 ab nb mb aa n LL w N T s sb k X L x5 x6 x7 x8 x9 x10 x11 W → L i = false → (∀ j ∈ onesOf o, L j = true) → ∀ K : Act → World → Prop, Shut (∀ a' w', IRV1 W1 ab nb mb aa n LL w N T s sb k X y0 y1 y2 y3 y4 (upd L i) a' w' → K a' w') → if Region.wanted o (yielded ops (⟨#[y0, y1, y2, y3, y4, x5, x6, x7, x8, x9, x10, x11], []⟩ : Act).tmps) = true then Oper.wp P o ⟨#[y0, y1, y2, y3, y4, x5, x6, x7, x8, x9, x10, x11], []⟩ W K Q else K ((⟨#[y0, y1, y2, y3, y4, x5, x6, x7, x8, x9, x10, x11], []⟩ : Act).put o.dst undef) W) : StepI P ops (IRV1 W1 ab nb mb aa n LL w N T s sb k X y0 y1 y2 y3 y4) Q i o := by
  rintro L a W ⟨x5, x6, x7, x8, x9, x10, x11, rfl, h⟩
  exact hq _ _ _ _ _ _ _ _ _ h
theorem RV1.ends {W1 : World} {ab nb mb : Nat} {aa : AN} {n : Nat} {LL : List CS} {w : World} {N : Nat} {T : TL} {s : CS} {sb k : Nat} {X : Bool} {y0 y1 y2 y3 y4 : Value} {mm_ : Nat} {Q : Exit → Act → World → Prop} (hq : ∀ x5 x6 x7 x8 x9 x10 x11 (L : Nat → Bool) (W : World), (∀ j, j < mm_ → L j = true) → RV1 W1 ab nb mb aa n LL w N T s sb k X L x5 x6 x7 x8 x9 x10 x11 W → Q .normal ⟨#[y0, y1, y2, y3, y4, x5, x6, x7, x8, x9, x10, x11], []⟩ W) : ∀ L a' w', (∀ j, j < mm_ → L j = true) → IRV1 W1 ab nb mb aa n LL w N T s sb k X y0 y1 y2 y3 y4 L a' w' → Q .normal a' w' := by
  rintro L a W hall ⟨x5, x6, x7, x8, x9, x10, x11, rfl, h⟩
  exact hq _ _ _ _ _ _ _ _ _ hall h
set_option maxHeartbeats 2000000 in
set_option maxRecDepth 100000 in
theorem revoked_deed {c : Cfg} {g : Nat} {W0 : World} {sb k : Nat} (hr : Row W0 sb 3 [.int .i64 (k : Int)]) (hk : k < 64) : DeedIs c g W0 69 #[] #[.pointer (some ⟨sb, 0, none⟩)] fun s => [(⟨0, 0, s.rev.testBit k, zH⟩, s)] := by
  intro w hb ab nb mb aa n LL hm hT ha hn s ho hs
  have HS : Hid (DW ab nb mb aa n LL w W0.heap.size [(⟨0, 0, s.rev.testBit k, zH⟩, s)] s false (w.alloc (.cells (csC s).toArray 67))) := DW.start hb hm hT
  have CAP : Hid (∀ W, Below W0.heap.size w W → W.cell? ⟨sb, 0, none⟩ = some (.int .i64 (k : Int))) := fun W h => ((hr.below hb hr.lt).below h hr.lt).cell 0 _ rfl
  have TE : Hid (∀ W, TelQ ab nb mb aa n LL [] w W → _) := fun W h => tell_more h ha (by show n + 0 < _; omega) ⟨0, 0, s.rev.testBit k, zH⟩ ⟨by show _ ≤ (0 : Int) ∧ (0 : Int) ≤ _; omega, by show _ ≤ (0 : Int) ∧ (0 : Int) ≤ _; omega, by show (List.replicate 32 (0 : By)).length = 32; simp⟩ s hs
  have IR : Hid (∀ W, _) := fun W => isRevoked_any s hs k hk W
  have HCS : Hid (((csC s).drop 0).take 19 = csC s) := cs_all hs.len
  have LCS : Hid ((csC s).length = 19) := csC_len hs.len
  generalize hN0 : W0.heap.size = N at *
  clear hT ha hn hm hb hr ho hs hk hN0
  change Calls Tryz.prog 69 #[.agg (csC s).toArray, .func (.func 26) #[] #[.pointer (some ⟨ab, 0, none⟩), .pointer (some ⟨nb, 0, none⟩)], .pointer (some ⟨sb, 0, none⟩)] w fun e W' => e = .returned (.tuple #[]) ∧ TelQ ab nb mb aa n LL [(⟨0, 0, s.rev.testBit k, zH⟩, s)] w W'
  generalize s.rev.testBit k = X at *
  go_enter Tryz.func69, Tryz.ntmps69
  go_wp2
  refine wp_region_inv (IRV1 w ab nb mb aa n LL w N [(⟨0, 0, X, zH⟩, s)] s sb k X _ _ _ _ _) (by kernel_rfl) (by kernel_rfl) ⟨_, _, _, _, _, _, _, rfl, ⟨HS.out.drew, fun k => (by cases k), fun k => (by cases k), fun k => (by cases k), fun k => (by cases k), fun k => (by cases k), fun k => (by cases k), fun k => (by cases k)⟩⟩ ?_ ?_
  · refine .cons ?_ (.cons ?_ (.cons ?_ (.cons ?_ (.cons ?_ (.cons ?_ (.cons ?_ .nil))))))
    all_goals (refine RV1.step ?_; intro x5 x6 x7 x8 x9 x10 x11 L W hI hL hd K hK)
    · rw [if_pos (by rfl)]
      go_simp
      exact hK.out _ _ ⟨_, _, _, _, _, _, _, rfl, hI.s0⟩
    · refine step_load_part (by rfl) 67 _ rfl (w.heap.size) 0 67 19 (csC s) hI.x.st rfl _ (csC s) HCS.out LCS.out Tryz.underlying67 rfl (by kernel_rfl) ?_
      exact hK.out _ _ ⟨_, _, _, _, _, _, _, rfl, hI.s1⟩
    · rw [if_pos (by rfl)]
      have hc := CAP.out _ hI.x.bel
      go_simp
      exact hK.out _ _ ⟨_, _, _, _, _, _, _, rfl, hI.s2⟩
    · have hx1 := hI.p1 (hd 1 (by decide))
      subst hx1
      have hx2 := hI.p2 (hd 2 (by decide))
      subst hx2
      rw [if_pos (by rfl)]
      go_simp
      refine (IR.out _).mono ?_
      rintro e W2 ⟨rfl, hb3⟩
      go_simp
      have hX := hI.x.keep hb3
      exact hK.out _ _ ⟨_, _, _, _, _, _, _, rfl, hI.s3 hX⟩
    · have hx3 := hI.p3 (hd 3 (by decide))
      subst hx3
      rw [if_pos (by rfl)]
      go_simp
      exact hK.out _ _ ⟨_, _, _, _, _, _, _, rfl, hI.s4⟩
    · refine step_load_part (by rfl) 67 _ rfl (w.heap.size) 0 67 19 (csC s) hI.x.st rfl _ (csC s) HCS.out LCS.out Tryz.underlying67 rfl (by kernel_rfl) ?_
      exact hK.out _ _ ⟨_, _, _, _, _, _, _, rfl, hI.s5⟩
    · have hx0 := hI.p0 (hd 0 (by decide))
      subst hx0
      have hx4 := hI.p4 (hd 4 (by decide))
      subst hx4
      have hx5 := hI.p5 (hd 5 (by decide))
      subst hx5
      rw [if_pos (by rfl)]
      go_simp
      have hx0 := hI.x
      rw [hL] at hx0
      refine (TE.out _ hx0.tel).mono ?_
      rintro e W2 ⟨rfl, hq, hg⟩
      go_simp
      have hX := hx0.told hq hg
      exact hK.out _ _ ⟨_, _, _, _, _, _, _, rfl, hI.s6 hX⟩
  · refine RV1.ends ?_; intro x5 x6 x7 x8 x9 x10 x11 L W hall hI
    have hx0 := hI.p0 (hall 0 (by decide))
    subst hx0
    have hx1 := hI.p1 (hall 1 (by decide))
    subst hx1
    have hx2 := hI.p2 (hall 2 (by decide))
    subst hx2
    have hx3 := hI.p3 (hall 3 (by decide))
    subst hx3
    have hx4 := hI.p4 (hall 4 (by decide))
    subst hx4
    have hx5 := hI.p5 (hall 5 (by decide))
    subst hx5
    have hx6 := hI.p6 (hall 6 (by decide))
    subst hx6
    have hXe := hI.x
    rw [hall 6 (by decide)] at hXe
    clear hI hall
    try dsimp only
    try go_wp2
    go_end0
    exact ⟨rfl, hXe.tel⟩

/-- Two states beside each other; the second is another one as soon as q. -/
structure DV (ab nb mb : Nat) (aa : AN) (n : Nat) (LL : List CS) (w : World) (N : Nat) (s t : CS) (q : Bool) (W : World) : Prop where
  tel : TelQ ab nb mb aa n LL [] w W
  st : Row W w.heap.size 67 (csC s)
  nd : Row W (w.heap.size + 1) 67 (csC (if q then t else s))
  bel : Below N w W
  hN : N ≤ mb
section
variable {ab nb mb : Nat} {aa : AN} {n : Nat} {LL : List CS} {w W W2 : World} {N : Nat} {s t : CS} {q : Bool}
theorem DV.drew (h : DV ab nb mb aa n LL w N s t q W) : DV ab nb mb aa n LL w N s t q W.drew := ⟨h.tel.keep ⟨rfl, rfl, rfl, Nat.le_refl _, fun _ _ => rfl⟩, h.st.drew, h.nd.drew, h.bel.drew, h.hN⟩
theorem DV.set (h : DV ab nb mb aa n LL w N s t false W) (i : Nat) (v : Value) (e : (csC s).set i v = csC t) : DV ab nb mb aa n LL w N s t true (W.setCell ⟨w.heap.size + 1, i, none⟩ v) :=
  have hs := SameBut.setCell (w.heap.size + 1) i v W
  have hm := h.tel.lm
  have hN := h.hN
  ⟨h.tel.but hs (by omega), h.st.but hs (by omega), by have := h.nd.set i v; rw [if_neg (by decide), e] at this; exact this, hs.below h.bel (by omega), h.hN⟩
theorem DV.start {w2 : World} (h : DW ab nb mb aa n LL w N [] s false W) (hw : Row w2 (w.heap.size + 1) 67 (csC s)) (hs : SameBut (w.heap.size + 1) (W.alloc (.cells #[.int .i64 0, .int .i64 0, .int .i64 0, .int .i64 0, .int .i64 0, .int .i64 0, .int .i64 0, .int .i64 0, .int .u64 0, .int .i64 0, .int .i64 0, .bool false, .int .i64 0, .int .i64 0, .int .i16 0, .int .i8 0, .int .i8 0, .bool false, .bool false] 67)) w2) : DV ab nb mb aa n LL w N s t false w2 :=
  have hm := h.tel.lm
  have hN := h.hN
  ⟨(h.tel.alloc _).but hs (by omega), (h.st.alloc _).but hs (by omega), hw, hs.below (h.bel.alloc (by have := h.bel.size; omega) _) (by omega), h.hN⟩
end
structure RK2 (W1 : World) (ab nb mb : Nat) (aa : AN) (n : Nat) (LL : List CS) (w : World) (N : Nat) (s t : CS) (sb k RV RR : Nat) (L : Nat → Bool) (x7 x8 x9 x10 x11 x12 : Value) (W : World) : Prop where
  x : DV ab nb mb aa n LL w N s t (L 6) W
  p0 : L 0 = true → x7 = .pointer (some ⟨w.heap.size + 1, 8, none⟩)
  p1 : L 1 = true → x8 = .int .u64 (RV : Int)
  p2 : L 2 = true → x9 = .int .i64 (k : Int)
  p3 : L 3 = true → x10 = .int .u64 ((2 : Int) ^ k)
  p4 : L 4 = true → x11 = .int .u64 (RR : Int)
  p5 : L 5 = true → x12 = .pointer (some ⟨w.heap.size + 1, 8, none⟩)
  c6_4 : L 6 = true → L 4 = true
  c4_1 : L 4 = true → L 1 = true
section
variable {W1 : World} {ab nb mb : Nat} {aa : AN} {n : Nat} {LL : List CS} {w : World} {N : Nat} {s t : CS} {sb k RV RR : Nat} {L : Nat → Bool} {x7 x8 x9 x10 x11 x12 : Value} {W W2 : World}
theorem RK2.s0 (h : RK2 W1 ab nb mb aa n LL w N s t sb k RV RR L x7 x8 x9 x10 x11 x12 W) : RK2 W1 ab nb mb aa n LL w N s t sb k RV RR (upd L 0) (.pointer (some ⟨w.heap.size + 1, 8, none⟩)) x8 x9 x10 x11 x12 W :=
  ⟨h.x, fun _ => rfl, h.p1, h.p2, h.p3, h.p4, h.p5, h.c6_4, h.c4_1⟩
theorem RK2.s1 (h : RK2 W1 ab nb mb aa n LL w N s t sb k RV RR L x7 x8 x9 x10 x11 x12 W) : RK2 W1 ab nb mb aa n LL w N s t sb k RV RR (upd L 1) x7 (.int .u64 (RV : Int)) x9 x10 x11 x12 W :=
  ⟨h.x, h.p0, fun _ => rfl, h.p2, h.p3, h.p4, h.p5, h.c6_4, fun _ => rfl⟩
theorem RK2.s2 (h : RK2 W1 ab nb mb aa n LL w N s t sb k RV RR L x7 x8 x9 x10 x11 x12 W) : RK2 W1 ab nb mb aa n LL w N s t sb k RV RR (upd L 2) x7 x8 (.int .i64 (k : Int)) x10 x11 x12 W :=
  ⟨h.x, h.p0, h.p1, fun _ => rfl, h.p3, h.p4, h.p5, h.c6_4, h.c4_1⟩
theorem RK2.s3 (h : RK2 W1 ab nb mb aa n LL w N s t sb k RV RR L x7 x8 x9 x10 x11 x12 W) : RK2 W1 ab nb mb aa n LL w N s t sb k RV RR (upd L 3) x7 x8 x9 (.int .u64 ((2 : Int) ^ k)) x11 x12 W :=
  ⟨h.x, h.p0, h.p1, h.p2, fun _ => rfl, h.p4, h.p5, h.c6_4, h.c4_1⟩
theorem RK2.s4 (h : RK2 W1 ab nb mb aa n LL w N s t sb k RV RR L x7 x8 x9 x10 x11 x12 W) (hc1 : L 1 = true) : RK2 W1 ab nb mb aa n LL w N s t sb k RV RR (upd L 4) x7 x8 x9 x10 (.int .u64 (RR : Int)) x12 W :=
  ⟨h.x, h.p0, h.p1, h.p2, h.p3, fun _ => rfl, h.p5, fun _ => rfl, fun _ => hc1⟩
theorem RK2.s5 (h : RK2 W1 ab nb mb aa n LL w N s t sb k RV RR L x7 x8 x9 x10 x11 x12 W) : RK2 W1 ab nb mb aa n LL w N s t sb k RV RR (upd L 5) x7 x8 x9 x10 x11 (.pointer (some ⟨w.heap.size + 1, 8, none⟩)) W :=
  ⟨h.x, h.p0, h.p1, h.p2, h.p3, h.p4, fun _ => rfl, h.c6_4, h.c4_1⟩
theorem RK2.s6 (h : RK2 W1 ab nb mb aa n LL w N s t sb k RV RR L x7 x8 x9 x10 x11 x12 W) (hX : DV ab nb mb aa n LL w N s t ((upd L 6) 6) W2) (hc4 : L 4 = true) : RK2 W1 ab nb mb aa n LL w N s t sb k RV RR (upd L 6) x7 x8 x9 x10 x11 x12 W2 :=
  ⟨hX, h.p0, h.p1, h.p2, h.p3, h.p4, h.p5, fun _ => hc4, h.c4_1⟩
end
@[reducible] def IRK2 (W1 : World) (ab nb mb : Nat) (aa : AN) (n : Nat) (LL : List CS) (w : World) (N : Nat) (s t : CS) (sb k RV RR : Nat) (y0 y1 y2 y3 y4 y5 y6 y13 y14 y15 y16 y17 y18 y19 y20 y21 y22 y23 : Value) : (Nat → Bool) → Act → World → Prop := fun L a W => ∃ x7 x8 x9 x10 x11 x12, a = ⟨#[y0, y1, y2, y3, y4, y5, y6, x7, x8, x9, x10, x11, x12, y13, y14, y15, y16, y17, y18, y19, y20, y21, y22, y23], []⟩ ∧ RK2 W1 ab nb mb aa n LL w N s t sb k RV RR L x7 x8 x9 x10 x11 x12 W
theorem RK2.step {W1 : World} {ab nb mb : Nat} {aa : AN} {n : Nat} {LL : List CS} {w : World} {N : Nat} {s t : CS} {sb k RV RR : Nat} {y0 y1 y2 y3 y4 y5 y6 y13 y14 y15 y16 y17 y18 y19 y20 y21 y22 y23 : Value} {P : Program} {ops : Array Oper} {Q : Exit → Act → World → Prop} {i : Nat} {o : Oper} (hq : ∀ x7 x8 x9 x10 x11 x12 (L : Nat → Bool) (W : World), RK2 W1 ab nb mb aa n LL w N s t sb k RV RR L x7 x8 x9 x10 x11 x12 W → L i = false → (∀ j ∈ onesOf o, L j = true) → ∀ K : Act → World → Prop, Shut (∀ a' w', IRK2 W1 ab nb mb aa n LL w N s t sb k RV RR y0 y1 y2 y3 y4 y5 y6 y13 y14 y15 y16 y17 y18 y19 y20 y21 y22 y23 (upd L i) a' w' → K a' w') → if Region.wanted o (yielded ops (⟨#[y0, y1, y2, y3, y4, y5, y6, x7, x8, x9, x10, x11, x12, y13, y14, y15, y16, y17, y18, y19, y20, y21, y22, y23], []⟩ : Act).tmps) = true then Oper.wp P o ⟨#[y0, y1, y2, y3, y4, y5, y6, x7, x8, x9, x10, x11, x12, y13, y14, y15, y16, y17, y18, y19, y20, y21, y22, y23], []⟩ W K Q else K ((⟨#[y0, y1, y2, y3, y4, y5, y6, x7, x8, x9, x10, x11, x12, y13, y14, y15, y16, y17, y18, y19, y20, y21, y22, y23], []⟩ : Act).put o.dst undef) W) : StepI P ops (IRK2 W1 ab nb mb aa n LL w N s t sb k RV RR y0 y1 y2 y3 y4 y5 y6 y13 y14 y15 y16 y17 y18 y19 y20 y21 y22 y23) Q i o := by
  rintro L a W ⟨x7, x8, x9, x10, x11, x12, rfl, h⟩
  exact hq _ _ _ _ _ _ _ _ h
theorem RK2.ends {W1 : World} {ab nb mb : Nat} {aa : AN} {n : Nat} {LL : List CS} {w : World} {N : Nat} {s t : CS} {sb k RV RR : Nat} {y0 y1 y2 y3 y4 y5 y6 y13 y14 y15 y16 y17 y18 y19 y20 y21 y22 y23 : Value} {mm_ : Nat} {Q : Exit → Act → World → Prop} (hq : ∀ x7 x8 x9 x10 x11 x12 (L : Nat → Bool) (W : World), (∀ j, j < mm_ → L j = true) → RK2 W1 ab nb mb aa n LL w N s t sb k RV RR L x7 x8 x9 x10 x11 x12 W → Q .normal ⟨#[y0, y1, y2, y3, y4, y5, y6, x7, x8, x9, x10, x11, x12, y13, y14, y15, y16, y17, y18, y19, y20, y21, y22, y23], []⟩ W) : ∀ L a' w', (∀ j, j < mm_ → L j = true) → IRK2 W1 ab nb mb aa n LL w N s t sb k RV RR y0 y1 y2 y3 y4 y5 y6 y13 y14 y15 y16 y17 y18 y19 y20 y21 y22 y23 L a' w' → Q .normal a' w' := by
  rintro L a W hall ⟨x7, x8, x9, x10, x11, x12, rfl, h⟩
  exact hq _ _ _ _ _ _ _ _ hall h
set_option maxHeartbeats 4000000 in
set_option maxRecDepth 100000 in
theorem revoke_deed {c : Cfg} {g : Nat} {W0 : World} {sb k : Nat} (hr : Row W0 sb 3 [.int .i64 (k : Int)]) (hk : k < 64) : DeedIs c g W0 67 #[] #[.pointer (some ⟨sb, 0, none⟩)] (revokeC k) := by
  intro w hb ab nb mb aa n LL hm hT ha hn s ho hs
  obtain ⟨w1, hw1⟩ : ∃ w1, w1 = w.alloc (.cells (csC s).toArray 67) := ⟨_, rfl⟩
  have hz1 : w1.heap.size = w.heap.size + 1 := by rw [hw1]; simp
  have D1 : DW ab nb mb aa n LL w W0.heap.size [] s false w1 := by rw [hw1]; exact DW.start hb hm hT
  obtain ⟨w2, hw2⟩ : ∃ w2, w2 = w1.alloc (.cells #[.int .i64 0, .int .i64 0, .int .i64 0, .int .i64 0, .int .i64 0, .int .i64 0, .int .i64 0, .int .i64 0, .int .u64 0, .int .i64 0, .int .i64 0, .bool false, .int .i64 0, .int .i64 0, .int .i16 0, .int .i8 0, .int .i8 0, .bool false, .bool false] 67) := ⟨_, rfl⟩
  have r2 : Row w2 (w.heap.size + 1) 67 (csC zCS) := by rw [hw2]; exact Row.at w1 67 (csC zCS) _ _ hz1.symm rfl
  have CAP : Hid (∀ W, Below W0.heap.size w W → W.cell? ⟨sb, 0, none⟩ = some (.int .i64 (k : Int))) := fun W h => ((hr.below hb hr.lt).below h hr.lt).cell 0 _ rfl
  have HCS : Hid (((csC s).drop 0).take 19 = csC s) := cs_all hs.len
  have LCS : Hid ((csC s).length = 19) := csC_len hs.len
  have hr64 : s.rev ||| 2 ^ k < 2 ^ 64 := Nat.or_lt_two_pow hs.rev (Nat.pow_lt_pow_right (by omega) hk)
  have ht : CS.Wf { s with rev := s.rev ||| 2 ^ k } := ⟨hs.len, hs.num, hr64, hs.l0, hs.l1, hs.slot, hs.ver, hs.ev, hs.cuts, hs.first⟩
  have es : Hid ((csC s).set 8 (.int .u64 ((s.rev ||| 2 ^ k : Nat) : Int)) = csC { s with rev := s.rev ||| 2 ^ k }) := csC_setRev hs.len _
  have LCT : Hid ((csC { s with rev := s.rev ||| 2 ^ k }).length = 19) := csC_len hs.len
  have KR : Hid ((csC s)[8]? = some (.int .u64 (s.rev : Int))) := csC_at hs.len 0
  have ON : Hid (∀ W, TelQ ab nb mb aa n LL [] w W → _) := fun W h => only_more h ha (by show n + 0 < _; omega) 0 (by omega) { s with rev := s.rev ||| 2 ^ k } ht
  have GO : Hid (∀ W, TelQ ab nb mb aa n LL [(an0 0, { s with rev := s.rev ||| 2 ^ k })] w W → ∀ g, Row W g 67 ([s, { s with rev := s.rev ||| 2 ^ k }].flatMap csC) → _) := fun W hW g hg => goes_more hW ha [s, { s with rev := s.rev ||| 2 ^ k }] (by show n + 1 + 2 < _; omega) (by simp only [List.mem_cons, List.not_mem_nil, or_false]; rintro u (rfl | rfl) <;> assumption) g hg 2 2 rfl
  have eqt : ∀ W, (Op.equalIn 10000 67 (.agg (csC { s with rev := s.rev ||| 2 ^ k }).toArray) (.agg (csC s).toArray)).run Tryz.prog W = .ok (s.rev.testBit k) W := fun W => eqCS_any _ _ ht hs _ ⟨fun h => by
    have : s.rev ||| 2 ^ k = s.rev := by
      apply Nat.eq_of_testBit_eq
      intro i
      rw [Nat.testBit_or, Nat.testBit_two_pow]
      by_cases hi : k = i
      · subst hi; rw [h]; rfl
      · simp [hi]
    rw [this], fun h => by
    have h2 : s.rev ||| 2 ^ k = s.rev := congrArg CS.rev h
    rw [← h2, Nat.testBit_or, Nat.testBit_two_pow_self, Bool.or_true]⟩ W
  have HEQ : Hid (s.rev.testBit k = true → ({ s with rev := s.rev ||| 2 ^ k } : CS) = s) := fun h => by
    have : s.rev ||| 2 ^ k = s.rev := by
      apply Nat.eq_of_testBit_eq
      intro i
      rw [Nat.testBit_or, Nat.testBit_two_pow]
      by_cases hi : k = i
      · subst hi; rw [h]; rfl
      · simp [hi]
    rw [this]
  have l1 : Hid (s.num.length = 8) := hs.len
  have l2 : Hid (({ s with rev := s.rev ||| 2 ^ k } : CS).num.length = 8) := hs.len
  have orf : bits BinOp.or IntKind.u64 (s.rev : Int) ((2 ^ k : Nat) : Int) = ((s.rev ||| 2 ^ k : Nat) : Int) := bits_or_u64_nat _ _ hs.rev (Nat.pow_lt_pow_right (by omega) hk)
  have y0 : (0 : Int) ≤ (k : Int) := by omega
  have h264 : (2 : Nat) ^ k < 18446744073709551616 := Nat.pow_lt_pow_right (show 1 < 2 by omega) hk
  have e2k : ((2 ^ k : Nat) : Int) = (2 : Int) ^ k := by rw [Int.natCast_pow]; rfl
  have hz := u64_nat h264
  rw [e2k] at hz orf
  clear e2k h264
  have y1 : (k : Int) < 64 := by omega
  unfold revokeC
  have HD1 : Hid (DW ab nb mb aa n LL w W0.heap.size [] s false w1) := D1
  have r1 := D1.st
  generalize hN0 : W0.heap.size = N at *
  clear hT ha hn hm hb hr ho hs hk hN0 D1 ht hr64
  change Calls Tryz.prog 67 #[.agg (csC s).toArray, .func (.func 26) #[] #[.pointer (some ⟨ab, 0, none⟩), .pointer (some ⟨nb, 0, none⟩)], .pointer (some ⟨sb, 0, none⟩)] w _
  generalize hR : s.rev ||| 2 ^ k = R at *
  clear hR
  generalize hTS : CS.mk s.num R s.l0 s.l1 s.is s.slot s.ver s.ev s.cuts s.first s.rom s.pow = t at *
  clear hTS
  generalize s.rev.testBit k = B at *
  generalize s.rev = RV at *
  go_enter Tryz.func67, Tryz.ntmps67
  go_wp2_with (first
    | (rw [← hw1]; have hq := hw1; clear hq hw1)
    | (refine wpList_load_whole_g ?_ 67 (.tmp 3) rfl w.heap.size 67 19 (csC s) r1 rfl _ LCS.out Tryz.underlying67 rfl (by kernel_rfl) ?_; · rfl)
    | (refine wpList_store_Row rfl 67 (.tmp 5) (.tmp 6) rfl (w.heap.size + 1) 67 0 (csC zCS) (csC s) r2 (by rw [LCS.out]; decide) rfl rfl (by rw [LCS.out]; kernel_rfl) (csC_one _) ?_; intro w3 hr3 hs3; rw [hw2] at hs3; have HS : Hid (DV ab nb mb aa n LL w N s t false w3) := DV.start HD1.out (row_whole hr3 (by rw [LCS.out]; decide)) hs3; clear hr3 hs3 HD1 r2 r1)
    | (rw [← hw2]; have hq := hw2; clear hq))
  refine wp_region_inv (IRK2 w ab nb mb aa n LL w N s t sb k RV R _ _ _ _ _ _ _ _ _ _ _ _ _ _ _ _ _ _) (by kernel_rfl) (by kernel_rfl) ⟨_, _, _, _, _, _, rfl, ⟨HS.out.drew, fun k => (by cases k), fun k => (by cases k), fun k => (by cases k), fun k => (by cases k), fun k => (by cases k), fun k => (by cases k), fun k => (by cases k), fun k => (by cases k)⟩⟩ ?_ ?_
  · refine .cons ?_ (.cons ?_ (.cons ?_ (.cons ?_ (.cons ?_ (.cons ?_ (.cons ?_ .nil))))))
    all_goals (refine RK2.step ?_; intro x7 x8 x9 x10 x11 x12 L W hI hL hd K hK)
    · rw [if_pos (by rfl)]
      go_simp
      exact hK.out _ _ ⟨_, _, _, _, _, _, rfl, hI.s0⟩
    · have hx0 := hI.p0 (hd 0 (by decide))
      subst hx0
      rw [if_pos (by rfl)]
      have hx0 := hI.x
      have h6 : L 6 = false := Bool.eq_false_iff.2 (fun e => (by have h7 := hI.c4_1 (hI.c6_4 e); rw [hL] at h7; exact Bool.noConfusion h7))
      rw [h6] at hx0
      have hc : W.cell? ⟨w.heap.size + 1, 8, none⟩ = some (.int .u64 (RV : Int)) := hx0.nd.cell 8 _ KR.out
      go_simp
      exact hK.out _ _ ⟨_, _, _, _, _, _, rfl, hI.s1⟩
    · rw [if_pos (by rfl)]
      have hc := CAP.out _ hI.x.bel
      go_simp
      exact hK.out _ _ ⟨_, _, _, _, _, _, rfl, hI.s2⟩
    · have hx2 := hI.p2 (hd 2 (by decide))
      subst hx2
      rw [if_pos (by rfl)]
      go_simp
      exact hK.out _ _ ⟨_, _, _, _, _, _, rfl, hI.s3⟩
    · have hx1 := hI.p1 (hd 1 (by decide))
      subst hx1
      have hx3 := hI.p3 (hd 3 (by decide))
      subst hx3
      rw [if_pos (by rfl)]
      go_simp
      exact hK.out _ _ ⟨_, _, _, _, _, _, rfl, hI.s4 (hd 1 (by decide))⟩
    · rw [if_pos (by rfl)]
      go_simp
      exact hK.out _ _ ⟨_, _, _, _, _, _, rfl, hI.s5⟩
    · have hx5 := hI.p5 (hd 5 (by decide))
      subst hx5
      have hx4 := hI.p4 (hd 4 (by decide))
      subst hx4
      have hx0 := hI.x
      rw [hL] at hx0
      have hc : W.cell? ⟨w.heap.size + 1, 8, none⟩ = some (.int .u64 (RV : Int)) := hx0.nd.cell 8 _ KR.out
      have hf : W.frozen? ⟨w.heap.size + 1, 8, none⟩ = false := hx0.nd.frozen 8
      rw [if_pos (by rfl)]
      go_simp
      have hX := hx0.set 8 _ es.out
      exact hK.out _ _ ⟨_, _, _, _, _, _, rfl, hI.s6 hX (hd 4 (by decide))⟩
  · refine RK2.ends ?_; intro x7 x8 x9 x10 x11 x12 L W hall hI
    have hx0 := hI.p0 (hall 0 (by decide))
    subst hx0
    have hx1 := hI.p1 (hall 1 (by decide))
    subst hx1
    have hx2 := hI.p2 (hall 2 (by decide))
    subst hx2
    have hx3 := hI.p3 (hall 3 (by decide))
    subst hx3
    have hx4 := hI.p4 (hall 4 (by decide))
    subst hx4
    have hx5 := hI.p5 (hall 5 (by decide))
    subst hx5
    have hXe := hI.x
    rw [hall 6 (by decide)] at hXe
    clear hI hall
    try dsimp only
    have nd : Row W (w.heap.size + 1) 67 (csC t) := hXe.nd
    have sd : Row W w.heap.size 67 (csC s) := hXe.st
    have HQ : Hid (TelQ ab nb mb aa n LL [] w W) := hXe.tel
    clear hXe HS
    go_wp2_with (refine wpList_load_whole_g ?_ 67 (.tmp 5) rfl (w.heap.size+1) 67 19 (csC t) nd rfl _ LCT.out Tryz.underlying67 rfl (by kernel_rfl) ?_; · rfl)
    refine (ON.out _ HQ.out).mono ?_
    rintro e w5 ⟨rfl, h5, g5⟩
    dsimp only
    have hm := HQ.out.lm
    have nd5 := nd.grown g5 (by omega)
    have sd5 := sd.grown g5 (by omega)
    have HQ5 : Hid (TelQ ab nb mb aa n LL [(an0 0, t)] w w5) := h5
    clear h5 g5 HQ ON nd sd hm
    cases B with
    | true =>
      go_wp2_with (first
        | (refine wpList_load_whole_g ?_ 67 (.tmp 5) rfl (w.heap.size+1) 67 19 (csC t) nd5 rfl _ LCT.out Tryz.underlying67 rfl (by kernel_rfl) ?_; · rfl)
        | (refine wpList_load_whole_g ?_ 67 (.tmp 3) rfl w.heap.size 67 19 (csC s) sd5 rfl _ LCS.out Tryz.underlying67 rfl (by kernel_rfl) ?_; · rfl))
      go_end0
      have hq := HQ5.out
      rw [HEQ.out (by trivial)] at hq
      exact ⟨rfl, hq⟩
    | false =>
      go_wp2_with (first
        | (refine wpList_load_whole_g ?_ 67 (.tmp 5) rfl (w.heap.size+1) 67 19 (csC t) nd5 rfl _ LCT.out Tryz.underlying67 rfl (by kernel_rfl) ?_; · rfl)
        | (refine wpList_load_whole_g ?_ 67 (.tmp 3) rfl w.heap.size 67 19 (csC s) sd5 rfl _ LCS.out Tryz.underlying67 rfl (by kernel_rfl) ?_; · rfl)
        | (refine wpList_buildC2 rfl (.tmp 20) (.tmp 21) rfl s t l1.out l2.out rfl rfl ?_))
      refine (GO.out _ (HQ5.out.alloc _) w5.heap.size (Row.at w5 67 ([s, t].flatMap csC) (csC s ++ csC t).toArray _ rfl (by simp))).mono ?_
      rintro e w7 ⟨rfl, h7, g7⟩
      dsimp only
      go_wp2
      go_end0
      exact ⟨rfl, h7⟩
end Go.Proofs.YtpcgkjngpdplmaaGreatDoor
