import Derived.Test.YthegfkcegmeklaaH16C1
import Derived.Test.YthegfkcegmeklaaH16Rows
import Derived.Test.YthegfkcegmeklaaMOf

/-! The code's chain: Measure, Extend. (Printed by tools/gencode16.py.) -/
namespace Go.Proofs.Ythegfkcegmeklaa
open Go.RowKit
set_option linter.unusedVariables false

theorem z32_len : z32.length = 32 := rfl
theorem z32_one : ∀ v ∈ z32, v.oneCell' = true := B8_one _
/-- While a hash is made: what stands beside it, the answer's block, the bytes that it is made of. -/
structure MW (I : World → Prop) (w : World) (o : Nat) (MC : List Value) (k : Nat) (EB : List By) (l5 l6 l7 : Bool) (x8 : Value) (W : World) : Prop where
  inv : I W
  res : Row W (w.heap.size + o) 32 (if l7 = true then MC else z32)
  bel : Below w.heap.size w W
  c : l7 = true → l6 = true
  own : l5 = true → l7 = false → ∃ ao c, x8 = .slice ao k c ∧ Own w.heap.size W (.slice ao k c) EB
section
variable {I : World → Prop} {w : World} {o : Nat} {MC : List Value} {k : Nat} {EB : List By} {l5 l6 l7 : Bool} {x8 : Value} {W W2 : World}
theorem MW.made (h : MW I w o MC k EB l5 l6 l7 x8 W) (hI : ∀ W W2, I W → Below W.heap.size W W2 → I W2) (hb : Below W.heap.size W W2) {ao : Option Addr} {c : Nat} (ho : Own W.heap.size W2 (.slice ao k c) EB) : MW I w o MC k EB true l6 l7 (.slice ao k c) W2 :=
  ⟨hI _ _ h.inv hb, h.res.below hb h.res.lt, h.bel.trans (hb.mono h.bel.size), h.c, fun _ _ => ⟨ao, c, rfl, own_le ho h.bel.size⟩⟩
theorem MW.hash (h : MW I w o MC k EB l5 l6 l7 x8 W) (hI : ∀ W W2, I W → Below W.heap.size W W2 → I W2) (hb : Below W.heap.size W W2) : MW I w o MC k EB l5 true l7 x8 W2 :=
  ⟨hI _ _ h.inv hb, h.res.below hb h.res.lt, h.bel.trans (hb.mono h.bel.size), fun _ => rfl, fun h1 h2 => let ⟨ao, c, e, r⟩ := h.own h1 h2; ⟨ao, c, e, r.keep hb⟩⟩
theorem MW.no (h : MW I w o MC k EB l5 l6 l7 x8 W) (hl : l7 = false) : Row W (w.heap.size + o) 32 z32 := by
  have := h.res
  subst hl
  exact this
theorem MW.set (h : MW I w o MC k EB l5 l6 l7 x8 W) (h6 : l6 = true) (hI : I W2) (hr : Row W2 (w.heap.size + o) 32 MC) (hs : SameBut (w.heap.size + o) W W2) : MW I w o MC k EB l5 l6 true x8 W2 :=
  ⟨hI, hr, hs.below h.bel (by omega), fun _ => h6, fun _ h => by cases h⟩
end

structure M1 (W1 : World) (AC MC : List Value) (EB : List By) (U : Nat) (xe : Int) (L : Nat → Bool) (x3 x4 x5 x6 x7 x8 x9 : Value) (W : World) : Prop where
  x : MW (fun W => Row W W1.heap.size 35 AC) W1 1 MC 40 EB (L 5) (L 6) (L 7) x8 W
  p0 : L 0 = true → x3 = .pointer (some ⟨W1.heap.size, 0, none⟩)
  p1 : L 1 = true → x4 = .slice (some ⟨W1.heap.size, 0, none⟩) 32 32
  p2 : L 2 = true → x5 = .pointer (some ⟨W1.heap.size, 32, none⟩)
  p3 : L 3 = true → x6 = .int .i64 xe
  p4 : L 4 = true → x7 = .int .u64 (U : Int)
  p6 : L 6 = true → x9 = .agg MC.toArray
section
variable {W1 : World} {AC MC : List Value} {EB : List By} {U : Nat} {xe : Int} {L : Nat → Bool} {x3 x4 x5 x6 x7 x8 x9 : Value} {W W2 : World}
theorem M1.s0 (h : M1 W1 AC MC EB U xe L x3 x4 x5 x6 x7 x8 x9 W) : M1 W1 AC MC EB U xe (upd L 0) (.pointer (some ⟨W1.heap.size, 0, none⟩)) x4 x5 x6 x7 x8 x9 W :=
  ⟨h.x, fun _ => rfl, h.p1, h.p2, h.p3, h.p4, h.p6⟩
theorem M1.s1 (h : M1 W1 AC MC EB U xe L x3 x4 x5 x6 x7 x8 x9 W) : M1 W1 AC MC EB U xe (upd L 1) x3 (.slice (some ⟨W1.heap.size, 0, none⟩) 32 32) x5 x6 x7 x8 x9 W :=
  ⟨h.x, h.p0, fun _ => rfl, h.p2, h.p3, h.p4, h.p6⟩
theorem M1.s2 (h : M1 W1 AC MC EB U xe L x3 x4 x5 x6 x7 x8 x9 W) : M1 W1 AC MC EB U xe (upd L 2) x3 x4 (.pointer (some ⟨W1.heap.size, 32, none⟩)) x6 x7 x8 x9 W :=
  ⟨h.x, h.p0, h.p1, fun _ => rfl, h.p3, h.p4, h.p6⟩
theorem M1.s3 (h : M1 W1 AC MC EB U xe L x3 x4 x5 x6 x7 x8 x9 W) : M1 W1 AC MC EB U xe (upd L 3) x3 x4 x5 (.int .i64 xe) x7 x8 x9 W :=
  ⟨h.x, h.p0, h.p1, h.p2, fun _ => rfl, h.p4, h.p6⟩
theorem M1.s4 (h : M1 W1 AC MC EB U xe L x3 x4 x5 x6 x7 x8 x9 W) : M1 W1 AC MC EB U xe (upd L 4) x3 x4 x5 x6 (.int .u64 (U : Int)) x8 x9 W :=
  ⟨h.x, h.p0, h.p1, h.p2, h.p3, fun _ => rfl, h.p6⟩
theorem M1.s5 (h : M1 W1 AC MC EB U xe L x3 x4 x5 x6 x7 x8 x9 W) {v : Value} (hX : MW (fun W => Row W W1.heap.size 35 AC) W1 1 MC 40 EB ((upd L 5) 5) ((upd L 5) 6) ((upd L 5) 7) v W2) : M1 W1 AC MC EB U xe (upd L 5) x3 x4 x5 x6 x7 v x9 W2 :=
  ⟨hX, h.p0, h.p1, h.p2, h.p3, h.p4, h.p6⟩
theorem M1.s6 (h : M1 W1 AC MC EB U xe L x3 x4 x5 x6 x7 x8 x9 W) (hX : MW (fun W => Row W W1.heap.size 35 AC) W1 1 MC 40 EB ((upd L 6) 5) ((upd L 6) 6) ((upd L 6) 7) x8 W2) : M1 W1 AC MC EB U xe (upd L 6) x3 x4 x5 x6 x7 x8 (.agg MC.toArray) W2 :=
  ⟨hX, h.p0, h.p1, h.p2, h.p3, h.p4, fun _ => rfl⟩
theorem M1.s7 (h : M1 W1 AC MC EB U xe L x3 x4 x5 x6 x7 x8 x9 W) (hX : MW (fun W => Row W W1.heap.size 35 AC) W1 1 MC 40 EB ((upd L 7) 5) ((upd L 7) 6) ((upd L 7) 7) x8 W2) : M1 W1 AC MC EB U xe (upd L 7) x3 x4 x5 x6 x7 x8 x9 W2 :=
  ⟨hX, h.p0, h.p1, h.p2, h.p3, h.p4, h.p6⟩
end
@[reducible] def IM1 (W1 : World) (AC MC : List Value) (EB : List By) (U : Nat) (xe : Int) (y0 y1 y2 : Value) : (Nat → Bool) → Act → World → Prop := fun L a W => ∃ x3 x4 x5 x6 x7 x8 x9, a = ⟨#[y0, y1, y2, x3, x4, x5, x6, x7, x8, x9], []⟩ ∧ M1 W1 AC MC EB U xe L x3 x4 x5 x6 x7 x8 x9 W
theorem M1.step {W1 : World} {AC MC : List Value} {EB : List By} {U : Nat} {xe : Int} {y0 y1 y2 : Value} {P : Program} {ops : Array Oper} {Q : Exit → Act → World → Prop} {i : Nat} {o : Oper} (hq : ∀ x3 x4 x5 x6 x7 x8 x9 (L : Nat → Bool) (W : World), M1 W1 AC MC EB U xe L x3 x4 x5 x6 x7 x8 x9 W → L i = false → (∀ j ∈ onesOf o, L j = true) → ∀ K : Act → World → Prop, Shut (∀ a' w', IM1 W1 AC MC EB U xe y0 y1 y2 (upd L i) a' w' → K a' w') → if Region.wanted o (yielded ops (⟨#[y0, y1, y2, x3, x4, x5, x6, x7, x8, x9], []⟩ : Act).tmps) = true then Oper.wp P o ⟨#[y0, y1, y2, x3, x4, x5, x6, x7, x8, x9], []⟩ W K Q else K ((⟨#[y0, y1, y2, x3, x4, x5, x6, x7, x8, x9], []⟩ : Act).put o.dst undef) W) : StepI P ops (IM1 W1 AC MC EB U xe y0 y1 y2) Q i o := by
  rintro L a W ⟨x3, x4, x5, x6, x7, x8, x9, rfl, h⟩
  exact hq _ _ _ _ _ _ _ _ _ h
theorem M1.ends {W1 : World} {AC MC : List Value} {EB : List By} {U : Nat} {xe : Int} {y0 y1 y2 : Value} {mm_ : Nat} {Q : Exit → Act → World → Prop} (hq : ∀ x3 x4 x5 x6 x7 x8 x9 (L : Nat → Bool) (W : World), (∀ j, j < mm_ → L j = true) → M1 W1 AC MC EB U xe L x3 x4 x5 x6 x7 x8 x9 W → Q .normal ⟨#[y0, y1, y2, x3, x4, x5, x6, x7, x8, x9], []⟩ W) : ∀ L a' w', (∀ j, j < mm_ → L j = true) → IM1 W1 AC MC EB U xe y0 y1 y2 L a' w' → Q .normal a' w' := by
  rintro L a W hall ⟨x3, x4, x5, x6, x7, x8, x9, rfl, h⟩
  exact hq _ _ _ _ _ _ _ _ _ hall h
set_option maxHeartbeats 1000000 in
set_option maxRecDepth 100000 in
theorem cmeasure_any (x : EvV) (hx : EvOk x) (w : World) :
    Calls Try.prog 19 #[.agg (evC x).toArray] w fun e w' => e = .returned (.agg ((measure x).map B8).toArray) ∧ Below w.heap.size w w' := by
  have hl := evC_len hx
  have hbl : Hid ((evB x).length = 40) := evB_len hx
  have HSH : Hid (sha (evB x) = measure x) := rfl
  have hml : (measure x).length = 32 := shaLen _
  have hlt := u64_lt x.e
  have c32 : (evC x)[32]? = some (.int .i64 x.e) := by
    unfold evC
    rw [List.getElem?_append_right (by rw [List.length_map, hx.1]; omega), List.length_map, hx.1]; rfl
  have hwr : IntKind.u64.wrap x.e = ((u64 x.e : Nat) : Int) := by
    rw [IntKind.wrap_u64]
    unfold u64
    omega
  have IB : Hid (∀ W, Row W w.heap.size 35 (evC x) → IsB W (some ⟨w.heap.size, 0, none⟩) x.d) := fun W r0 => by
    refine .inr ⟨_, 0, rfl, fun j v hj => ?_⟩
    rw [Nat.zero_add]
    refine r0.cell j _ ?_
    unfold evC
    rw [List.getElem?_append_left (by rw [List.length_map]; exact (List.getElem?_eq_some_iff.1 hj).1), List.getElem?_map, hj]; rfl
  have HD : Hid (x.d.length = 32) := hx.1
  have CN : Hid (∀ W, Row W w.heap.size 35 (evC x) → Calls Try.prog 35 #[.slice (some ⟨w.heap.size, 0, none⟩) 32 32, .int .u64 (u64 x.e : Nat), .int .i64 8] W fun e w' => ∃ ao' c', e = .returned (.slice ao' 40 c') ∧ Own W.heap.size w' (.slice ao' 40 c') (evB x) ∧ Below W.heap.size W w') := fun W h =>
    cnum_any W.heap.size W (some ⟨w.heap.size, 0, none⟩) 32 32 x.d (.inr ⟨Nat.le_refl _, HD.out, _, rfl, rfl, IB.out W h⟩) (u64 x.e) 8 hlt (by omega) (by omega) (by omega)
  have C32 : Hid ((evC x)[32]? = some (.int .i64 x.e)) := c32
  obtain ⟨MC, hMC⟩ : ∃ MC, MC = (measure x).map B8 := ⟨_, rfl⟩
  have lM : MC.length = 32 := by rw [hMC, List.length_map, hml]
  have oM : Hid (∀ v ∈ MC, v.oneCell' = true) := by rw [hMC]; exact B8_one _
  have OF : Hid (∀ W ao c, Own w.heap.size W (.slice ao 40 c) (evB x) → Calls Try.prog 31 #[.slice ao 40 c] W fun e w' => e = .returned (.agg MC.toArray) ∧ Below W.heap.size W w') := fun W ao c h => by
    rw [hMC]
    exact of_n ao c 40 (evB x) hbl.out (measure x) HSH.out W (own_IsB h) (own_cap h) (by omega)
  have HMC : Hid (MC = (measure x).map B8) := hMC
  clear c32 IB HD hMC hml HSH hbl
  generalize evB x = EB at *
  generalize hAC : evC x = AC at *
  clear hAC
  obtain ⟨U, hU⟩ : ∃ U, U = u64 x.e := ⟨_, rfl⟩
  rw [← hU] at hwr CN
  clear hU hlt
  generalize x.e = xe at *
  have M0 : Hid (∀ x8, MW (fun W => Row W w.heap.size 35 AC) w 1 MC 40 EB false false false x8 ((w.alloc (.cells AC.toArray 35)).alloc (.cells z32.toArray 32)).drew) :=
    fun x8 => ⟨(Row.at w _ _ _ _ rfl rfl).alloc _, Row.at _ _ _ _ _ (by simp) rfl, (((Below.refl _ _).alloc (Nat.le_refl _) _).alloc (by simp) _).drew, fun h => (by cases h), fun h => (by cases h)⟩
  have IK : Hid (∀ W W2, Row W w.heap.size 35 AC → Below W.heap.size W W2 → Row W2 w.heap.size 35 AC) := fun W W2 h hb => h.below hb h.lt
  go_enter Try.func19, Try.ntmps19
  go_wp2_with fail
  refine wp_region_inv (IM1 w AC MC EB U xe _ _ _) (by kernel_rfl) (by kernel_rfl) ⟨_, _, _, _, _, _, _, rfl, ⟨M0.out _, fun k => (by cases k), fun k => (by cases k), fun k => (by cases k), fun k => (by cases k), fun k => (by cases k), fun k => (by cases k)⟩⟩ ?_ ?_
  · refine .cons ?_ (.cons ?_ (.cons ?_ (.cons ?_ (.cons ?_ (.cons ?_ (.cons ?_ (.cons ?_ .nil)))))))
    all_goals (refine M1.step ?_; intro x3 x4 x5 x6 x7 x8 x9 L W hI hL hd K hK)
    · rw [if_pos (by rfl)]
      go_simp
      exact hK.out _ _ ⟨_, _, _, _, _, _, _, rfl, hI.s0⟩
    · have hx0 := hI.p0 (hd 0 (by decide))
      subst hx0
      rw [if_pos (by rfl)]
      go_simp
      exact hK.out _ _ ⟨_, _, _, _, _, _, _, rfl, hI.s1⟩
    · rw [if_pos (by rfl)]
      go_simp
      exact hK.out _ _ ⟨_, _, _, _, _, _, _, rfl, hI.s2⟩
    · have hx2 := hI.p2 (hd 2 (by decide))
      subst hx2
      rw [if_pos (by rfl)]
      have hc := hI.x.inv.cell 32 _ C32.out
      go_simp
      exact hK.out _ _ ⟨_, _, _, _, _, _, _, rfl, hI.s3⟩
    · have hx3 := hI.p3 (hd 3 (by decide))
      subst hx3
      rw [if_pos (by rfl)]
      go_simp
      exact hK.out _ _ ⟨_, _, _, _, _, _, _, rfl, hI.s4⟩
    · have hx1 := hI.p1 (hd 1 (by decide))
      subst hx1
      have hx4 := hI.p4 (hd 4 (by decide))
      subst hx4
      rw [if_pos (by rfl)]
      go_simp
      refine (CN.out _ hI.x.inv).mono ?_
      rintro e W2 ⟨ao8, c8, rfl, ho8, hb3⟩
      go_simp
      have hX := hI.x.made IK.out hb3 ho8
      exact hK.out _ _ ⟨_, _, _, _, _, _, _, rfl, hI.s5 hX⟩
    · rw [if_pos (by rfl)]
      go_simp
      obtain ⟨ao8, c8, rfl, ho8⟩ := hI.x.own (hd 5 (by decide)) (ff hI.x.c hL)
      refine (OF.out _ _ _ ho8).mono ?_
      rintro e W2 ⟨rfl, hb3⟩
      go_simp
      have hX := hI.x.hash IK.out hb3
      exact hK.out _ _ ⟨_, _, _, _, _, _, _, rfl, hI.s6 hX⟩
    · have hx6 := hI.p6 (hd 6 (by decide))
      subst hx6
      refine step_store_Row rfl 32 _ _ rfl (w.heap.size + 1) 32 z32 MC (hI.x.no hL) (by rw [lM]; rfl) rfl rfl (by rw [lM]; kernel_rfl) oM.out ?_
      intro W2 hr2 hs2
      have hX := hI.x.set (hd 6 (by decide)) (hI.x.inv.but hs2 (by omega)) hr2 hs2
      exact hK.out _ _ ⟨_, _, _, _, _, _, _, rfl, hI.s7 hX⟩
  · refine M1.ends ?_; intro x3 x4 x5 x6 x7 x8 x9 L W hall hI
    have hx0 := hI.p0 (hall 0 (by decide))
    subst hx0
    have hx1 := hI.p1 (hall 1 (by decide))
    subst hx1
    have hx2 := hI.p2 (hall 2 (by decide))
    subst hx2
    have hx3 := hI.p3 (hall 3 (by decide))
    subst hx3
    have hx4 := hI.p4 (hall 4 (by decide))
    subst hx4
    have hx6 := hI.p6 (hall 6 (by decide))
    subst hx6
    have hXe := hI.x
    rw [hall 5 (by decide)] at hXe
    rw [hall 6 (by decide)] at hXe
    rw [hall 7 (by decide)] at hXe
    clear hI hall
    try dsimp only
    have hr := hXe.res
    rw [if_pos rfl] at hr
    have HB : Hid (Below w.heap.size w W) := hXe.bel
    clear hXe
    go_wp2
    refine bodyPost_ret_by (results_Row Try.results19 _ W (w.heap.size + 1) 32 _ _ rfl hr Try.underlying32 rfl (by rw [lM]; kernel_rfl)) rfl ⟨by rw [← HMC.out], HB.out⟩
end Go.Proofs.Ythegfkcegmeklaa


/-! slices.Grow of nil, slices.Concat of rows of 32 bytes. -/
namespace Go.Proofs.Ythegfkcegmeklaa
open Go.RowKit
set_option linter.unusedVariables false

/-- Rows of bytes, one behind the other. -/
def cat (bs : Nat → List By) (n : Nat) : List By := (List.range n).flatMap bs
theorem cat_succ (bs : Nat → List By) (n : Nat) : cat bs (n + 1) = cat bs n ++ bs n := by simp [cat, List.range_succ, List.flatMap_append]
theorem cat_len {bs : Nat → List By} : ∀ {n : Nat}, (∀ i, i < n → (bs i).length = 32) → (cat bs n).length = 32 * n
  | 0, _ => rfl
  | n + 1, h => by rw [cat_succ, List.length_append, cat_len fun i hi => h i (by omega), h n (by omega)]; omega

set_option maxHeartbeats 1000000 in
set_option maxRecDepth 100000 in
theorem cgrow_any (n : Nat) (hn0 : 0 < n) (hn : n ≤ 1000000) (w : World) :
    Calls Try.prog 46 #[.slice none 0 0, .int .i64 n] w fun e w' => ∃ ao c, e = .returned (.slice ao 0 c) ∧ Own w.heap.size w' (.slice ao 0 c) [] ∧ Below w.heap.size w w' := by
  obtain ⟨i0, hi, hz0, hz1, hz2⟩ := info_parts Try.info5
  have hr := fun ty => Lib.run_append_nil_zeros (P := Try.prog) w 36 3 ty 5 i0 (.int .u8 0) .i64 .i64 Try.underlying36 Try.underlying3 hi hz0 n hn0 (by rw [hz1]; omega) (by omega) (by rw [hz2]; omega)
  have hge := grownCap_ge w n 0 5
  have hcm : grownCap w n 0 5 ≤ maxLen := grownCap_le_maxLen w n 0 5 (by unfold maxLen; omega)
  have y0 : ¬ ((n : Nat) : Int) < 0 := by omega
  have y1 : (0 : Int) < (n : Int) := by omega
  have z1 : IntKind.i64.wrap (n : Int) = (n : Int) := i64_in _ (by omega) (by omega)
  obtain ⟨CP, hCP⟩ : ∃ CP, CP = grownCap w n 0 5 := ⟨_, rfl⟩
  rw [← hCP] at hr hge hcm
  clear hCP
  obtain ⟨ZC, hZC⟩ : ∃ ZC, ZC = Builtin.zeroCells (Value.int IntKind.u8 0).cells n ++ Builtin.zeroCells (Value.int IntKind.u8 0).cells (CP - n) := ⟨_, rfl⟩
  have hsz : ZC.size = CP := by
    rw [hZC]
    simp only [Array.size_append, size_zeroCells]
    have : (Value.int IntKind.u8 0).cells.size = 1 := rfl
    rw [this]; omega
  rw [← hZC] at hr
  clear hZC
  have HO : Hid (Own w.heap.size (w.drew.alloc (.cells ZC 5)) (.slice (some ⟨w.heap.size, 0, none⟩) 0 CP) []) :=
    ⟨⟨by simp, .inr ⟨w.heap.size, _, _, rfl, Nat.le_refl _, heap_alloc_new w.drew _, by simp, hcm, by rw [hsz]; simp, by simp⟩⟩, by simp⟩
  have HB : Hid (Below w.heap.size w (w.drew.alloc (.cells ZC 5))) := ((Below.refl _ _).drew).alloc (Nat.le_refl _) _
  have HR : Hid (∀ ty, (Builtin.append_ #[36, 3] ty #[.slice none 0 0, .int .i64 n]).run Try.prog w = .ok (.slice (some ⟨w.heap.size, 0, none⟩) n CP) (w.drew.alloc (.cells ZC 5))) := hr
  clear hr hi hz0 hz1 hz2
  have c0 : (0 : Int) ≤ (CP : Int) := by omega
  go_enter Try.func46, Try.ntmps46
  go_wp2_with (at_builtin; refine Lib.wpList_append_run _ rfl _ _ _ _ rfl _ _ rfl rfl _ _ (HR.out _) ?_)
  go_ret
  exact ⟨_, _, rfl, HO.out, HB.out⟩

set_option maxHeartbeats 1000000 in
set_option maxRecDepth 100000 in
theorem cconcat_any (w : World) (S G n c : Nat) (bs : Nat → List By) (hn0 : 0 < n) (hn : n ≤ 1000) (hS : ∀ i, i < n → w.cell? ⟨S, i, none⟩ = some (.slice (some ⟨G + i, 0, none⟩) 32 32)) (hB : ∀ i, i < n → (bs i).length = 32 ∧ IsB w (some ⟨G + i, 0, none⟩) (bs i)) :
    Calls Try.prog 32 #[.slice (some ⟨S, 0, none⟩) n c] w fun e w' => ∃ ao c', e = .returned (.slice ao (32 * n) c') ∧ Own w.heap.size w' (.slice ao (32 * n) c') (cat bs n) ∧ Below w.heap.size w w' := by
  have HF : Hid (∀ W, Below w.heap.size w W → ∀ i, i < n → W.cell? ⟨S, i, none⟩ = some (.slice (some ⟨G + i, 0, none⟩) 32 32) ∧ (bs i).length = 32 ∧ IsB W (some ⟨G + i, 0, none⟩) (bs i)) := fun W h i hi =>
    ⟨(h.cell (cell_lt (hS i hi))).trans (hS i hi), (hB i hi).1, (hB i hi).2.below h (Nat.le_refl _)⟩
  clear hS hB
  go_enter Try.func32, Try.ntmps32
  go_wp2
  go_loopw [3, 11] (fun sv iv wr => ∃ i : Nat, i ≤ n ∧ sv = .int .i64 (32 * i : Nat) ∧ iv = .int .i64 i ∧ w = wr) (fun _ iv _ => n - (intOf iv).toNat)
  case atStart => exact ⟨0, by omega, rfl, rfl, rfl⟩
  case round =>
    obtain ⟨i, hi, rfl, rfl, rfl⟩ := hrel
    by_cases hlt : i < n
    · have y0 : (0 : Int) ≤ (i : Int) := by omega
      have y1 : (i : Int) < (n : Int) := by omega
      have hc := (HF.out _ (Below.refl _ _) i hlt).1
      have z1 : IntKind.i64.wrap (((32 * i : Nat) : Int) + 32) = ((32 * (i + 1) : Nat) : Int) := by rw [i64_in _ (by omega) (by omega)]; omega
      have z2 : ¬ ((32 * (i + 1) : Nat) : Int) < 0 := by omega
      go_wp2
      exact ⟨⟨i + 1, by omega, rfl, by go_num, by first | rfl | trivial⟩, by simp [intOf]; omega⟩
    · obtain rfl : i = n := by omega
      have y1 : ¬ ((i : Nat) : Int) < (i : Int) := by omega
      go_wp2_with fail
      refine (cgrow_any (32 * i) (by omega) (by omega) w).mono ?_
      rintro e w2 ⟨ao2, c2, rfl, ho2, hb2⟩
      dsimp only
      have H2 : Hid (Own w.heap.size w2 (.slice ao2 0 c2) (cat bs 0) ∧ Below w.heap.size w w2) := ⟨ho2, hb2⟩
      clear ho2 hb2
      go_wp2
      go_loopw [6, 27] (fun sv iv W => ∃ (k : Nat) (bo : Option Addr) (bc : Nat), k ≤ i ∧ sv = .slice bo (32 * k) bc ∧ iv = .int .i64 k ∧ Hid (Own w.heap.size W (.slice bo (32 * k) bc) (cat bs k) ∧ Below w.heap.size w W)) (fun _ iv _ => i - (intOf iv).toNat)
      case atStart => exact ⟨0, ao2, c2, by omega, rfl, rfl, H2.out⟩
      case round =>
        clear H2
        obtain ⟨k, bo, bc, hk, rfl, rfl, HI⟩ := hrel
        by_cases hkl : k < i
        · have q0 : (0 : Int) ≤ (k : Int) := by omega
          have q1 : (k : Int) < (i : Int) := by omega
          obtain ⟨hc, hbl, hib⟩ := HF.out _ HI.out.2 k hkl
          have HIB : Hid ((bs k).length = 32 ∧ IsB _ (some ⟨G + k, 0, none⟩) (bs k)) := ⟨hbl, hib⟩
          clear hbl hib
          have HL : Hid ((cat bs k).length = 32 * k) := HI.out.1.len
          go_wp2_with (at_builtin; refine wpList_append_more rfl (.tmp 31) (.tmp 32) rfl w.heap.size w bo (32 * k) bc (cat bs k) rfl HL.out HI.out.1 HI.out.2 (some ⟨G + k, 0, none⟩) 32 32 (bs k) rfl HIB.out.1 HIB.out.2 (fun h => by cases h) (by omega) ?_; intro ao5 c5 w5 ho5 hb5)
          exact ⟨⟨k + 1, ao5, c5, by omega, rfl, by go_num, ⟨by rw [cat_succ]; exact ho5, hb5⟩⟩, by simp [intOf]; omega⟩
        · obtain rfl : k = i := by omega
          have q1 : ¬ ((k : Nat) : Int) < (k : Int) := by omega
          go_wp2
          go_ret
          exact ⟨bo, bc, rfl, HI.out.1, HI.out.2⟩
end Go.Proofs.Ythegfkcegmeklaa


/-! The code's chain: Extend. (Printed by tools/gencode16.py.) -/
namespace Go.Proofs.Ythegfkcegmeklaa
open Go.RowKit
set_option linter.unusedVariables false

/-- While two hashes are made one: their blocks, the row of both, their bytes, the answer's block. -/
structure EW (w : World) (RC XC MC : List Value) (EB : List By) (l2 l3 l4 l5 : Bool) (x7 x8 : Value) (W : World) : Prop where
  r : Row W w.heap.size 32 RC
  x : Row W (w.heap.size + 1) 32 XC
  res : Row W (w.heap.size + 2) 32 (if l5 = true then MC else z32)
  bel : Below w.heap.size w W
  c : l5 = true → l4 = true
  row : l2 = true → ∃ S, x7 = .slice (some ⟨S, 0, none⟩) 2 2 ∧ Row W S 36 [.slice (some ⟨w.heap.size, 0, none⟩) 32 32, .slice (some ⟨w.heap.size + 1, 0, none⟩) 32 32]
  own : l3 = true → l5 = false → ∃ ao c, x8 = .slice ao 64 c ∧ Own w.heap.size W (.slice ao 64 c) EB
section
variable {w : World} {RC XC MC : List Value} {EB : List By} {l2 l3 l4 l5 : Bool} {x7 x8 : Value} {W W2 : World}
theorem EW.mk2 (h : EW w RC XC MC EB l2 l3 l4 l5 x7 x8 W) : EW w RC XC MC EB true l3 l4 l5 (.slice (some ⟨W.heap.size, 0, none⟩) 2 2) x8 (W.alloc (.cells #[.slice (some ⟨w.heap.size, 0, none⟩) 32 32, .slice (some ⟨w.heap.size + 1, 0, none⟩) 32 32] 36)) :=
  ⟨h.r.alloc _, h.x.alloc _, h.res.alloc _, h.bel.alloc h.bel.size _, h.c, fun _ => ⟨_, rfl, Row.at W _ _ _ _ rfl rfl⟩, fun h1 h2 => let ⟨ao, c, e, r⟩ := h.own h1 h2; ⟨ao, c, e, r.keep ((Below.refl _ _).alloc (Nat.le_refl _) _)⟩⟩
theorem EW.kept (h : EW w RC XC MC EB l2 l3 l4 l5 x7 x8 W) (hb : Below W.heap.size W W2) : EW w RC XC MC EB l2 l3 l4 l5 x7 x8 W2 :=
  ⟨h.r.below hb h.r.lt, h.x.below hb h.x.lt, h.res.below hb h.res.lt, h.bel.trans (hb.mono h.bel.size), h.c, fun h1 => let ⟨S, e, r⟩ := h.row h1; ⟨S, e, r.below hb r.lt⟩, fun h1 h2 => let ⟨ao, c, e, r⟩ := h.own h1 h2; ⟨ao, c, e, r.keep hb⟩⟩
theorem EW.made (h : EW w RC XC MC EB l2 l3 l4 l5 x7 x8 W) (hb : Below W.heap.size W W2) {ao : Option Addr} {c : Nat} (ho : Own W.heap.size W2 (.slice ao 64 c) EB) : EW w RC XC MC EB l2 true l4 l5 x7 (.slice ao 64 c) W2 :=
  let k := h.kept hb
  ⟨k.r, k.x, k.res, k.bel, k.c, k.row, fun _ _ => ⟨ao, c, rfl, own_le ho h.bel.size⟩⟩
theorem EW.hash (h : EW w RC XC MC EB l2 l3 l4 l5 x7 x8 W) (hb : Below W.heap.size W W2) : EW w RC XC MC EB l2 l3 true l5 x7 x8 W2 :=
  let k := h.kept hb
  ⟨k.r, k.x, k.res, k.bel, fun _ => rfl, k.row, k.own⟩
theorem EW.no (h : EW w RC XC MC EB l2 l3 l4 l5 x7 x8 W) (hl : l5 = false) : Row W (w.heap.size + 2) 32 z32 := by
  have := h.res
  subst hl
  exact this
theorem EW.set (h : EW w RC XC MC EB l2 l3 l4 l5 x7 x8 W) (h4 : l4 = true) (hr : Row W2 (w.heap.size + 2) 32 MC) (hs : SameBut (w.heap.size + 2) W W2) : EW w RC XC MC EB l2 l3 l4 true x7 x8 W2 :=
  ⟨h.r.but hs (by omega), h.x.but hs (by omega), hr, hs.below h.bel (by omega), fun _ => h4, fun h1 => let ⟨S, e, r⟩ := h.row h1; ⟨S, e, r.but hs fun e => by
    have h1 := h.res
    rw [← e] at h1
    unfold Row at r h1
    rw [r] at h1
    injection h1 with h1
    injection h1 with _ h1
    cases h1⟩, fun _ h => by cases h⟩
end

structure E1 (W1 : World) (RC XC MC : List Value) (EB : List By) (L : Nat → Bool) (x5 x6 x7 x8 x9 : Value) (W : World) : Prop where
  x : EW W1 RC XC MC EB (L 2) (L 3) (L 4) (L 5) x7 x8 W
  p0 : L 0 = true → x5 = .slice (some ⟨W1.heap.size, 0, none⟩) 32 32
  p1 : L 1 = true → x6 = .slice (some ⟨W1.heap.size + 1, 0, none⟩) 32 32
  p4 : L 4 = true → x9 = .agg MC.toArray
section
variable {W1 : World} {RC XC MC : List Value} {EB : List By} {L : Nat → Bool} {x5 x6 x7 x8 x9 : Value} {W W2 : World}
theorem E1.s0 (h : E1 W1 RC XC MC EB L x5 x6 x7 x8 x9 W) : E1 W1 RC XC MC EB (upd L 0) (.slice (some ⟨W1.heap.size, 0, none⟩) 32 32) x6 x7 x8 x9 W :=
  ⟨h.x, fun _ => rfl, h.p1, h.p4⟩
theorem E1.s1 (h : E1 W1 RC XC MC EB L x5 x6 x7 x8 x9 W) : E1 W1 RC XC MC EB (upd L 1) x5 (.slice (some ⟨W1.heap.size + 1, 0, none⟩) 32 32) x7 x8 x9 W :=
  ⟨h.x, h.p0, fun _ => rfl, h.p4⟩
theorem E1.s2 (h : E1 W1 RC XC MC EB L x5 x6 x7 x8 x9 W) {v : Value} (hX : EW W1 RC XC MC EB ((upd L 2) 2) ((upd L 2) 3) ((upd L 2) 4) ((upd L 2) 5) v x8 W2) : E1 W1 RC XC MC EB (upd L 2) x5 x6 v x8 x9 W2 :=
  ⟨hX, h.p0, h.p1, h.p4⟩
theorem E1.s3 (h : E1 W1 RC XC MC EB L x5 x6 x7 x8 x9 W) {v : Value} (hX : EW W1 RC XC MC EB ((upd L 3) 2) ((upd L 3) 3) ((upd L 3) 4) ((upd L 3) 5) x7 v W2) : E1 W1 RC XC MC EB (upd L 3) x5 x6 x7 v x9 W2 :=
  ⟨hX, h.p0, h.p1, h.p4⟩
theorem E1.s4 (h : E1 W1 RC XC MC EB L x5 x6 x7 x8 x9 W) (hX : EW W1 RC XC MC EB ((upd L 4) 2) ((upd L 4) 3) ((upd L 4) 4) ((upd L 4) 5) x7 x8 W2) : E1 W1 RC XC MC EB (upd L 4) x5 x6 x7 x8 (.agg MC.toArray) W2 :=
  ⟨hX, h.p0, h.p1, fun _ => rfl⟩
theorem E1.s5 (h : E1 W1 RC XC MC EB L x5 x6 x7 x8 x9 W) (hX : EW W1 RC XC MC EB ((upd L 5) 2) ((upd L 5) 3) ((upd L 5) 4) ((upd L 5) 5) x7 x8 W2) : E1 W1 RC XC MC EB (upd L 5) x5 x6 x7 x8 x9 W2 :=
  ⟨hX, h.p0, h.p1, h.p4⟩
end
@[reducible] def IE1 (W1 : World) (RC XC MC : List Value) (EB : List By) (y0 y1 y2 y3 y4 : Value) : (Nat → Bool) → Act → World → Prop := fun L a W => ∃ x5 x6 x7 x8 x9, a = ⟨#[y0, y1, y2, y3, y4, x5, x6, x7, x8, x9], []⟩ ∧ E1 W1 RC XC MC EB L x5 x6 x7 x8 x9 W
theorem E1.step {W1 : World} {RC XC MC : List Value} {EB : List By} {y0 y1 y2 y3 y4 : Value} {P : Program} {ops : Array Oper} {Q : Exit → Act → World → Prop} {i : Nat} {o : Oper} (hq : ∀ x5 x6 x7 x8 x9 (L : Nat → Bool) (W : World), E1 W1 RC XC MC EB L x5 x6 x7 x8 x9 W → L i = false → (∀ j ∈ onesOf o, L j = true) → ∀ K : Act → World → Prop, Shut (∀ a' w', IE1 W1 RC XC MC EB y0 y1 y2 y3 y4 (upd L i) a' w' → K a' w') → if Region.wanted o (yielded ops (⟨#[y0, y1, y2, y3, y4, x5, x6, x7, x8, x9], []⟩ : Act).tmps) = true then Oper.wp P o ⟨#[y0, y1, y2, y3, y4, x5, x6, x7, x8, x9], []⟩ W K Q else K ((⟨#[y0, y1, y2, y3, y4, x5, x6, x7, x8, x9], []⟩ : Act).put o.dst undef) W) : StepI P ops (IE1 W1 RC XC MC EB y0 y1 y2 y3 y4) Q i o := by
  rintro L a W ⟨x5, x6, x7, x8, x9, rfl, h⟩
  exact hq _ _ _ _ _ _ _ h
theorem E1.ends {W1 : World} {RC XC MC : List Value} {EB : List By} {y0 y1 y2 y3 y4 : Value} {mm_ : Nat} {Q : Exit → Act → World → Prop} (hq : ∀ x5 x6 x7 x8 x9 (L : Nat → Bool) (W : World), (∀ j, j < mm_ → L j = true) → E1 W1 RC XC MC EB L x5 x6 x7 x8 x9 W → Q .normal ⟨#[y0, y1, y2, y3, y4, x5, x6, x7, x8, x9], []⟩ W) : ∀ L a' w', (∀ j, j < mm_ → L j = true) → IE1 W1 RC XC MC EB y0 y1 y2 y3 y4 L a' w' → Q .normal a' w' := by
  rintro L a W hall ⟨x5, x6, x7, x8, x9, rfl, h⟩
  exact hq _ _ _ _ _ _ _ hall h
set_option maxHeartbeats 1000000 in
set_option maxRecDepth 100000 in
theorem cextend_any (r x : List By) (hr : r.length = 32) (hx : x.length = 32) (w : World) :
    Calls Try.prog 17 #[.agg (r.map B8).toArray, .agg (x.map B8).toArray] w fun e w' => e = .returned (.agg ((extend r x).map B8).toArray) ∧ Below w.heap.size w w' := by
  have lR : (r.map B8).length = 32 := by rw [List.length_map, hr]
  have lX : (x.map B8).length = 32 := by rw [List.length_map, hx]
  have CC : Hid (∀ W S, Row W w.heap.size 32 (r.map B8) → Row W (w.heap.size + 1) 32 (x.map B8) → Row W S 36 [.slice (some ⟨w.heap.size, 0, none⟩) 32 32, .slice (some ⟨w.heap.size + 1, 0, none⟩) 32 32] → Calls Try.prog 32 #[.slice (some ⟨S, 0, none⟩) 2 2] W fun e w' => ∃ ao c', e = .returned (.slice ao 64 c') ∧ Own W.heap.size w' (.slice ao 64 c') (r ++ x) ∧ Below W.heap.size W w') := fun W S h1 h2 h3 => by
    have hcat : cat (fun i => if i = 0 then r else x) 2 = r ++ x := by simp [cat, List.range_succ]
    have h := cconcat_any W S w.heap.size 2 2 (fun i => if i = 0 then r else x) (by omega) (by omega) (fun i hi => ?_) (fun i hi => ?_)
    · rw [hcat] at h; exact h
    · rcases (by omega : i = 0 ∨ i = 1) with rfl | rfl
      · exact h3.cell 0 _ rfl
      · exact h3.cell 1 _ rfl
    · rcases (by omega : i = 0 ∨ i = 1) with rfl | rfl
      · exact ⟨hr, row_isb h1⟩
      · exact ⟨hx, row_isb h2⟩
  have hbl : Hid ((r ++ x).length = 64) := by show _ = _; rw [List.length_append, hr, hx]
  obtain ⟨MC, hMC⟩ : ∃ MC, MC = (extend r x).map B8 := ⟨_, rfl⟩
  have lM : MC.length = 32 := by rw [hMC, List.length_map]; exact shaLen _
  have oM : Hid (∀ v ∈ MC, v.oneCell' = true) := by rw [hMC]; exact B8_one _
  have OF : Hid (∀ W ao c, Own w.heap.size W (.slice ao 64 c) (r ++ x) → Calls Try.prog 31 #[.slice ao 64 c] W fun e w' => e = .returned (.agg MC.toArray) ∧ Below W.heap.size W w') := fun W ao c h => by
    rw [hMC]
    exact of_n ao c 64 (r ++ x) hbl.out (extend r x) rfl W (own_IsB h) (own_cap h) (by omega)
  have HMC : Hid (MC = (extend r x).map B8) := hMC
  clear hMC hbl hr hx
  generalize r ++ x = EB at *
  generalize hRC : r.map B8 = RC at *
  generalize hXC : x.map B8 = XC at *
  clear hRC hXC
  have M0 : Hid (∀ x7 x8, EW w RC XC MC EB false false false false x7 x8 (((w.alloc (.cells RC.toArray 32)).alloc (.cells XC.toArray 32)).alloc (.cells z32.toArray 32)).drew) :=
    fun x7 x8 => ⟨((Row.at w _ _ _ _ rfl rfl).alloc _).alloc _, (Row.at _ _ _ _ _ (by simp) rfl).alloc _, Row.at _ _ _ _ _ (by simp) rfl, ((((Below.refl _ _).alloc (Nat.le_refl _) _).alloc (by simp) _).alloc (by simp; omega) _).drew, fun h => (by cases h), fun h => (by cases h), fun h => (by cases h)⟩
  go_enter Try.func17, Try.ntmps17
  go_wp2_with fail
  refine wp_region_inv (IE1 w RC XC MC EB _ _ _ _ _) (by kernel_rfl) (by kernel_rfl) ⟨_, _, _, _, _, rfl, ⟨M0.out _ _, fun k => (by cases k), fun k => (by cases k), fun k => (by cases k)⟩⟩ ?_ ?_
  · refine .cons ?_ (.cons ?_ (.cons ?_ (.cons ?_ (.cons ?_ (.cons ?_ .nil)))))
    all_goals (refine E1.step ?_; intro x5 x6 x7 x8 x9 L W hI hL hd K hK)
    · rw [if_pos (by rfl)]
      go_simp
      exact hK.out _ _ ⟨_, _, _, _, _, rfl, hI.s0⟩
    · rw [if_pos (by rfl)]
      go_simp
      exact hK.out _ _ ⟨_, _, _, _, _, rfl, hI.s1⟩
    · have hx0 := hI.p0 (hd 0 (by decide))
      subst hx0
      have hx1 := hI.p1 (hd 1 (by decide))
      subst hx1
      rw [if_pos (by rfl)]
      have hX := hI.x.mk2
      go_simp
      exact hK.out _ _ ⟨_, _, _, _, _, rfl, hI.s2 hX⟩
    · rw [if_pos (by rfl)]
      go_simp
      obtain ⟨S7, rfl, r7⟩ := hI.x.row (hd 2 (by decide))
      refine (CC.out _ _ hI.x.r hI.x.x r7).mono ?_
      rintro e W2 ⟨ao8, c8, rfl, ho8, hb3⟩
      go_simp
      have hX := hI.x.made hb3 ho8
      exact hK.out _ _ ⟨_, _, _, _, _, rfl, hI.s3 hX⟩
    · rw [if_pos (by rfl)]
      go_simp
      obtain ⟨ao8, c8, rfl, ho8⟩ := hI.x.own (hd 3 (by decide)) (ff hI.x.c hL)
      refine (OF.out _ _ _ ho8).mono ?_
      rintro e W2 ⟨rfl, hb3⟩
      go_simp
      have hX := hI.x.hash hb3
      exact hK.out _ _ ⟨_, _, _, _, _, rfl, hI.s4 hX⟩
    · have hx4 := hI.p4 (hd 4 (by decide))
      subst hx4
      refine step_store_Row rfl 32 _ _ rfl (w.heap.size + 2) 32 z32 MC (hI.x.no hL) (by rw [lM]; rfl) rfl rfl (by rw [lM]; kernel_rfl) oM.out ?_
      intro W2 hr2 hs2
      have hX := hI.x.set (hd 4 (by decide)) hr2 hs2
      exact hK.out _ _ ⟨_, _, _, _, _, rfl, hI.s5 hX⟩
  · refine E1.ends ?_; intro x5 x6 x7 x8 x9 L W hall hI
    have hx0 := hI.p0 (hall 0 (by decide))
    subst hx0
    have hx1 := hI.p1 (hall 1 (by decide))
    subst hx1
    have hx4 := hI.p4 (hall 4 (by decide))
    subst hx4
    have hXe := hI.x
    rw [hall 2 (by decide)] at hXe
    rw [hall 3 (by decide)] at hXe
    rw [hall 4 (by decide)] at hXe
    rw [hall 5 (by decide)] at hXe
    clear hI hall
    try dsimp only
    have hr := hXe.res
    rw [if_pos rfl] at hr
    have HB : Hid (Below w.heap.size w W) := hXe.bel
    clear hXe
    go_wp2
    refine bodyPost_ret_by (results_Row Try.results17 _ W (w.heap.size + 2) 32 _ _ rfl hr Try.underlying32 rfl (by rw [lM]; kernel_rfl)) rfl ⟨by rw [← HMC.out], HB.out⟩
end Go.Proofs.Ythegfkcegmeklaa
