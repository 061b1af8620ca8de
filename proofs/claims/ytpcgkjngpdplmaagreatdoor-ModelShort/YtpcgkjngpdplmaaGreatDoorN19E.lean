
import Derived.Test.YtpcgkjngpdplmaaGreatDoorN19D
import Derived.Test.YtpcgkjngpdplmaaGreatDoorSched
/-! The code's model: read, bump, bumpTo, confirm. (Printed by tools/genn19.py.) -/
namespace Go.Proofs.YtpcgkjngpdplmaaGreatDoor
open Go.RowKit Go.Maps
set_option linter.unusedVariables false
set_option linter.unusedSimpArgs false

/-- A deed at work: its state in memory; T is told, or not yet. -/
structure DW (ab nb mb : Nat) (aa : AN) (n : Nat) (LL : List CS) (w : World) (N : Nat) (T : TL) (s : CS) (q : Bool) (W : World) : Prop where
  tel : TelQ ab nb mb aa n LL (if q then T else []) w W
  st : Row W w.heap.size 67 (csC s)
  bel : Below N w W
  hN : N ≤ mb
section
variable {ab nb mb : Nat} {aa : AN} {n : Nat} {LL : List CS} {w W W2 : World} {N : Nat} {T : TL} {s : CS} {q : Bool}
theorem DW.drew (h : DW ab nb mb aa n LL w N T s q W) : DW ab nb mb aa n LL w N T s q W.drew := ⟨h.tel.keep ⟨rfl, rfl, rfl, Nat.le_refl _, fun _ _ => rfl⟩, h.st.drew, h.bel.drew, h.hN⟩
theorem DW.keep (h : DW ab nb mb aa n LL w N T s q W) (hb : Below W.heap.size W W2) : DW ab nb mb aa n LL w N T s q W2 := ⟨h.tel.keep hb, h.st.below hb h.st.lt, h.bel.trans (hb.mono (by have := h.tel.lm; have := h.bel.size; have := h.hN; omega)), h.hN⟩
theorem DW.told (h : DW ab nb mb aa n LL w N T s false W) (hq : TelQ ab nb mb aa n LL ([] ++ T) w W2) (hg : W.grownBy W2 (some mb)) : DW ab nb mb aa n LL w N T s true W2 :=
  ⟨hq, h.st.grown hg (by have := h.tel.lm; omega), hq.below h.hN, h.hN⟩
theorem DW.start {W0 : World} (hb : Below W0.heap.size W0 w) (hm : W0.heap.size ≤ mb) (h : Tel ab nb mb aa n LL w) : DW ab nb mb aa n LL w W0.heap.size T s false (w.alloc (.cells (csC s).toArray 67)) :=
  ⟨(TelQ.nil h).alloc _, Row.at _ _ _ _ _ rfl rfl, (Below.refl _ _).alloc hb.size _, hm⟩
end
theorem cs_all {s : CS} (h : s.num.length = 8) : ((csC s).drop 0).take 19 = csC s := by rw [List.drop_zero, List.take_of_length_le (by rw [csC_len h]; omega)]
structure RD1 (W1 : World) (ab nb mb : Nat) (aa : AN) (n : Nat) (LL : List CS) (w : World) (N : Nat) (T : TL) (s : CS) (sb k : Nat) (X : Int) (L : Nat → Bool) (x5 x6 x7 x8 x9 x10 x11 x12 : Value) (W : World) : Prop where
  x : DW ab nb mb aa n LL w N T s (L 7) W
  p0 : L 0 = true → x5 = .func (.func 26) #[] #[.pointer (some ⟨ab, 0, none⟩), .pointer (some ⟨nb, 0, none⟩)]
  p1 : L 1 = true → x6 = .int .i64 (k : Int)
  p2 : L 2 = true → x7 = .pointer (some ⟨w.heap.size, 0, none⟩)
  p3 : L 3 = true → x8 = .pointer (some ⟨w.heap.size, k, none⟩)
  p4 : L 4 = true → x9 = .int .i64 X
  p5 : L 5 = true → x10 = .agg (anC ⟨0, X, false, zH⟩ 0).toArray
  p6 : L 6 = true → x11 = .agg (csC s).toArray
  p7 : L 7 = true → x12 = .tuple #[]
section
variable {W1 : World} {ab nb mb : Nat} {aa : AN} {n : Nat} {LL : List CS} {w : World} {N : Nat} {T : TL} {s : CS} {sb k : Nat} {X : Int} {L : Nat → Bool} {x5 x6 x7 x8 x9 x10 x11 x12 : Value} {W W2 : World}
theorem RD1.s0 (h : RD1 W1 ab nb mb aa n LL w N T s sb k X L x5 x6 x7 x8 x9 x10 x11 x12 W) : RD1 W1 ab nb mb aa n LL w N T s sb k X (upd L 0) (.func (.func 26) #[] #[.pointer (some ⟨ab, 0, none⟩), .pointer (some ⟨nb, 0, none⟩)]) x6 x7 x8 x9 x10 x11 x12 W :=
  ⟨h.x, fun _ => rfl, h.p1, h.p2, h.p3, h.p4, h.p5, h.p6, h.p7⟩
theorem RD1.s1 (h : RD1 W1 ab nb mb aa n LL w N T s sb k X L x5 x6 x7 x8 x9 x10 x11 x12 W) : RD1 W1 ab nb mb aa n LL w N T s sb k X (upd L 1) x5 (.int .i64 (k : Int)) x7 x8 x9 x10 x11 x12 W :=
  ⟨h.x, h.p0, fun _ => rfl, h.p2, h.p3, h.p4, h.p5, h.p6, h.p7⟩
theorem RD1.s2 (h : RD1 W1 ab nb mb aa n LL w N T s sb k X L x5 x6 x7 x8 x9 x10 x11 x12 W) : RD1 W1 ab nb mb aa n LL w N T s sb k X (upd L 2) x5 x6 (.pointer (some ⟨w.heap.size, 0, none⟩)) x8 x9 x10 x11 x12 W :=
  ⟨h.x, h.p0, h.p1, fun _ => rfl, h.p3, h.p4, h.p5, h.p6, h.p7⟩
theorem RD1.s3 (h : RD1 W1 ab nb mb aa n LL w N T s sb k X L x5 x6 x7 x8 x9 x10 x11 x12 W) : RD1 W1 ab nb mb aa n LL w N T s sb k X (upd L 3) x5 x6 x7 (.pointer (some ⟨w.heap.size, k, none⟩)) x9 x10 x11 x12 W :=
  ⟨h.x, h.p0, h.p1, h.p2, fun _ => rfl, h.p4, h.p5, h.p6, h.p7⟩
theorem RD1.s4 (h : RD1 W1 ab nb mb aa n LL w N T s sb k X L x5 x6 x7 x8 x9 x10 x11 x12 W) : RD1 W1 ab nb mb aa n LL w N T s sb k X (upd L 4) x5 x6 x7 x8 (.int .i64 X) x10 x11 x12 W :=
  ⟨h.x, h.p0, h.p1, h.p2, h.p3, fun _ => rfl, h.p5, h.p6, h.p7⟩
theorem RD1.s5 (h : RD1 W1 ab nb mb aa n LL w N T s sb k X L x5 x6 x7 x8 x9 x10 x11 x12 W) : RD1 W1 ab nb mb aa n LL w N T s sb k X (upd L 5) x5 x6 x7 x8 x9 (.agg (anC ⟨0, X, false, zH⟩ 0).toArray) x11 x12 W :=
  ⟨h.x, h.p0, h.p1, h.p2, h.p3, h.p4, fun _ => rfl, h.p6, h.p7⟩
theorem RD1.s6 (h : RD1 W1 ab nb mb aa n LL w N T s sb k X L x5 x6 x7 x8 x9 x10 x11 x12 W) : RD1 W1 ab nb mb aa n LL w N T s sb k X (upd L 6) x5 x6 x7 x8 x9 x10 (.agg (csC s).toArray) x12 W :=
  ⟨h.x, h.p0, h.p1, h.p2, h.p3, h.p4, h.p5, fun _ => rfl, h.p7⟩
theorem RD1.s7 (h : RD1 W1 ab nb mb aa n LL w N T s sb k X L x5 x6 x7 x8 x9 x10 x11 x12 W) (hX : DW ab nb mb aa n LL w N T s ((upd L 7) 7) W2) : RD1 W1 ab nb mb aa n LL w N T s sb k X (upd L 7) x5 x6 x7 x8 x9 x10 x11 (.tuple #[]) W2 :=
  ⟨hX, h.p0, h.p1, h.p2, h.p3, h.p4, h.p5, h.p6, fun _ => rfl⟩
end
@[reducible] def IRD1 (W1 : World) (ab nb mb : Nat) (aa : AN) (n : Nat) (LL : List CS) (w : World) (N : Nat) (T : TL) (s : CS) (sb k : Nat) (X : Int) (y0 y1 y2 y3 y4 : Value) : (Nat → Bool) → Act → World → Prop := fun L a W => ∃ x5 x6 x7 x8 x9 x10 x11 x12, a = ⟨#[y0, y1, y2, y3, y4, x5, x6, x7, x8, x9, x10, x11, x12], []⟩ ∧ RD1 W1 ab nb mb aa n LL w N T s sb k X L x5 x6 x7 x8 x9 x10 x11 x12 W
theorem RD1.step {W1 : World} {ab nb mb : Nat} {aa : AN} {n : Nat} {LL : List CS} {w : World} {N : Nat} {T : TL} {s : CS} {sb k : Nat} {X : Int} {y0 y1 y2 y3 y4 : Value} {P : Program} {ops : Array Oper} {Q : Exit → Act → World → Prop} {i : Nat} {o : Oper} (hq : ∀ x5 x6 x7 x8 x9 x10 x11 x12 (L : Nat → Bool) (W : World), RD1 W1 ab nb mb aa n LL w N T s sb k X L x5 x6 x7 x8 x9 x10 x11 x12 W → L i = false → (∀ j ∈ onesOf o, L j = true) → ∀ K : Act → World → Prop, Shut (∀ a' w', IRD1 W1 ab nb mb aa n LL w N T s sb k X y0 y1 y2 y3 y4 (upd L i) a' w' → K a' w') → if Region.wanted o (yielded ops (⟨#[y0, y1, y2, y3, y4, x5, x6, x7, x8, x9, x10, x11, x12], []⟩ : Act).tmps) = true then Oper.wp P o ⟨#[y0, y1, y2, y3, y4, x5, x6, x7, x8, x9, x10, x11, x12], []⟩ W K Q else K ((⟨#[y0, y1, y2, y3, y4, x5, x6, x7, x8, x9, x10, x11, x12], []⟩ : Act).put o.dst undef) W) : StepI P ops (IRD1 W1 ab nb mb aa n LL w N T s sb k X y0 y1 y2 y3 y4) Q i o := by
  rintro L a W ⟨x5, x6, x7, x8, x9, x10, x11, x12, rfl, h⟩
  exact hq _ _ _ _ _ _ _ _ _ _ h
theorem RD1.ends {W1 : World} {ab nb mb : Nat} {aa : AN} {n : Nat} {LL : List CS} {w : World} {N : Nat} {T : TL} {s : CS} {sb k : Nat} {X : Int} {y0 y1 y2 y3 y4 : Value} {mm_ : Nat} {Q : Exit → Act → World → Prop} (hq : ∀ x5 x6 x7 x8 x9 x10 x11 x12 (L : Nat → Bool) (W : World), (∀ j, j < mm_ → L j = true) → RD1 W1 ab nb mb aa n LL w N T s sb k X L x5 x6 x7 x8 x9 x10 x11 x12 W → Q .normal ⟨#[y0, y1, y2, y3, y4, x5, x6, x7, x8, x9, x10, x11, x12], []⟩ W) : ∀ L a' w', (∀ j, j < mm_ → L j = true) → IRD1 W1 ab nb mb aa n LL w N T s sb k X y0 y1 y2 y3 y4 L a' w' → Q .normal a' w' := by
  rintro L a W hall ⟨x5, x6, x7, x8, x9, x10, x11, x12, rfl, h⟩
  exact hq _ _ _ _ _ _ _ _ _ _ hall h
set_option maxHeartbeats 2000000 in
set_option maxRecDepth 100000 in
theorem read_deed {c : Cfg} {g : Nat} {W0 : World} {sb k : Nat} (hr : Row W0 sb 3 [.int .i64 (k : Int)]) (hk : k < 8) : DeedIs c g W0 62 #[] #[.pointer (some ⟨sb, 0, none⟩)] fun s => [(⟨0, s.num.getD k 0, false, zH⟩, s)] := by
  intro w hb ab nb mb aa n LL hm hT ha hn s ho hs
  have HS : Hid (DW ab nb mb aa n LL w W0.heap.size [(⟨0, s.num.getD k 0, false, zH⟩, s)] s false (w.alloc (.cells (csC s).toArray 67))) := DW.start hb hm hT
  have CAP : Hid (∀ W, Below W0.heap.size w W → W.cell? ⟨sb, 0, none⟩ = some (.int .i64 (k : Int))) := fun W h => ((hr.below hb hr.lt).below h hr.lt).cell 0 _ rfl
  have TE : Hid (∀ W, TelQ ab nb mb aa n LL [] w W → _) := fun W h => tell_more h ha (by show n + 0 < _; omega) ⟨0, s.num.getD k 0, false, zH⟩ ⟨by show _ ≤ (0 : Int) ∧ (0 : Int) ≤ _; omega, hs.num k hk, by show (List.replicate 32 (0 : By)).length = 32; simp⟩ s hs
  have KX : Hid ((csC s)[k]? = some (.int .i64 (s.num.getD k 0))) := csC_num hs.len k hk
  have HCS : Hid (((csC s).drop 0).take 19 = csC s) := cs_all hs.len
  have LCS : Hid ((csC s).length = 19) := csC_len hs.len
  have y0 : (0 : Int) ≤ (k : Int) := by omega
  have y1 : (k : Int) < 8 := by omega
  generalize hN0 : W0.heap.size = N at *
  clear hT ha hn hm hb hr ho hs hk hN0
  change Calls Tryz.prog 62 #[.agg (csC s).toArray, .func (.func 26) #[] #[.pointer (some ⟨ab, 0, none⟩), .pointer (some ⟨nb, 0, none⟩)], .pointer (some ⟨sb, 0, none⟩)] w fun e W' => e = .returned (.tuple #[]) ∧ TelQ ab nb mb aa n LL [(⟨0, s.num.getD k 0, false, zH⟩, s)] w W'
  generalize s.num.getD k 0 = X at *
  go_enter Tryz.func62, Tryz.ntmps62
  go_wp2
  refine wp_region_inv (IRD1 w ab nb mb aa n LL w N [(⟨0, X, false, zH⟩, s)] s sb k X _ _ _ _ _) (by kernel_rfl) (by kernel_rfl) ⟨_, _, _, _, _, _, _, _, rfl, ⟨HS.out.drew, fun k => (by cases k), fun k => (by cases k), fun k => (by cases k), fun k => (by cases k), fun k => (by cases k), fun k => (by cases k), fun k => (by cases k), fun k => (by cases k)⟩⟩ ?_ ?_
  · refine .cons ?_ (.cons ?_ (.cons ?_ (.cons ?_ (.cons ?_ (.cons ?_ (.cons ?_ (.cons ?_ .nil)))))))
    all_goals (refine RD1.step ?_; intro x5 x6 x7 x8 x9 x10 x11 x12 L W hI hL hd K hK)
    · rw [if_pos (by rfl)]
      go_simp
      exact hK.out _ _ ⟨_, _, _, _, _, _, _, _, rfl, hI.s0⟩
    · rw [if_pos (by rfl)]
      have hc := CAP.out _ hI.x.bel
      go_simp
      exact hK.out _ _ ⟨_, _, _, _, _, _, _, _, rfl, hI.s1⟩
    · rw [if_pos (by rfl)]
      go_simp
      exact hK.out _ _ ⟨_, _, _, _, _, _, _, _, rfl, hI.s2⟩
    · have hx2 := hI.p2 (hd 2 (by decide))
      subst hx2
      have hx1 := hI.p1 (hd 1 (by decide))
      subst hx1
      rw [if_pos (by rfl)]
      go_simp
      exact hK.out _ _ ⟨_, _, _, _, _, _, _, _, rfl, hI.s3⟩
    · have hx3 := hI.p3 (hd 3 (by decide))
      subst hx3
      rw [if_pos (by rfl)]
      have hc := hI.x.st.cell k _ KX.out
      go_simp
      exact hK.out _ _ ⟨_, _, _, _, _, _, _, _, rfl, hI.s4⟩
    · have hx4 := hI.p4 (hd 4 (by decide))
      subst hx4
      rw [if_pos (by rfl)]
      go_simp
      exact hK.out _ _ ⟨_, _, _, _, _, _, _, _, rfl, hI.s5⟩
    · refine step_load_part (by rfl) 67 _ rfl (w.heap.size) 0 67 19 (csC s) hI.x.st rfl _ (csC s) HCS.out LCS.out Tryz.underlying67 rfl (by kernel_rfl) ?_
      exact hK.out _ _ ⟨_, _, _, _, _, _, _, _, rfl, hI.s6⟩
    · have hx0 := hI.p0 (hd 0 (by decide))
      subst hx0
      have hx5 := hI.p5 (hd 5 (by decide))
      subst hx5
      have hx6 := hI.p6 (hd 6 (by decide))
      subst hx6
      rw [if_pos (by rfl)]
      go_simp
      have hx0 := hI.x
      rw [hL] at hx0
      refine (TE.out _ hx0.tel).mono ?_
      rintro e W2 ⟨rfl, hq, hg⟩
      go_simp
      have hX := hx0.told hq hg
      exact hK.out _ _ ⟨_, _, _, _, _, _, _, _, rfl, hI.s7 hX⟩
  · refine RD1.ends ?_; intro x5 x6 x7 x8 x9 x10 x11 x12 L W hall hI
    have hx0 := hI.p0 (hall 0 (by decide))
    subst hx0
    have hx1 := hI.p1 (hall 1 (by decide))
    subst hx1
    have hx2 := hI.p2 (hall 2 (by decide))
    subst hx2
    have hx3 := hI.p3 (hall 3 (by decide))
    subst hx3
    have hx4 := hI.p4 (hall 4 (by decide))
    subst hx4
    have hx5 := hI.p5 (hall 5 (by decide))
    subst hx5
    have hx6 := hI.p6 (hall 6 (by decide))
    subst hx6
    have hx7 := hI.p7 (hall 7 (by decide))
    subst hx7
    have hXe := hI.x
    rw [hall 7 (by decide)] at hXe
    clear hI hall
    try dsimp only
    try go_wp2
    go_end0
    exact ⟨rfl, hXe.tel⟩

set_option maxHeartbeats 2000000 in
set_option maxRecDepth 100000 in
theorem bump_deed {c : Cfg} {g : Nat} {W0 : World} {sb pb mg k : Nat} (hr : Row W0 sb 3 [.int .i64 (k : Int)]) (hp : Row W0 pb 59 [.pointer (some ⟨mg, 0, none⟩)]) (hl : W0.cell? ⟨mg, 8, none⟩ = some (.int .i64 c.last)) (hc : c.last ≤ 1000000000) (hk : k < 8) : DeedIs c g W0 63 #[] #[.pointer (some ⟨sb, 0, none⟩), .pointer (some ⟨pb, 0, none⟩)] fun s => raiseC c k (s.num.getD k 0 + 1) ⟨0, s.num.getD k 0 + 1, false, zH⟩ s := by
  intro w hb ab nb mb aa n LL hm hT ha hn s ho hs
  obtain ⟨w1, hw1⟩ : ∃ w1, w1 = w.alloc (.cells (csC s).toArray 67) := ⟨_, rfl⟩
  have hb1 : Below W0.heap.size W0 w1 := by rw [hw1]; exact hb.alloc hb.size _
  have r1 : Row w1 w.heap.size 67 (csC s) := by rw [hw1]; exact Row.at _ _ _ _ _ rfl rfl
  have c0 : w1.cell? ⟨sb, 0, none⟩ = some (.int .i64 (k : Int)) := (hr.below hb1 hr.lt).cell 0 _ rfl
  have c1 : w1.cell? ⟨pb, 0, none⟩ = some (.pointer (some ⟨mg, 0, none⟩)) := (hp.below hb1 hp.lt).cell 0 _ rfl
  have cn : w1.cell? ⟨w.heap.size, k, none⟩ = some (.int .i64 (s.num.getD k 0)) := r1.cell k _ (csC_num hs.len k hk)
  have hv := ho.val k hk
  have HB : Hid (Below w.heap.size w w1) := by rw [hw1]; exact (Below.refl _ _).alloc (Nat.le_refl _) _
  have F1 : TelQ ab nb mb aa n LL [] w w1 := (TelQ.nil hT).keep HB.out
  have RA := raise_any F1.tel ha hn c g mg ((hb1.cell (cell_lt hl)).trans hl) (by omega) k hk (s.num.getD k 0 + 1) ⟨0, s.num.getD k 0 + 1, false, zH⟩ ⟨by show _ ≤ (0 : Int) ∧ (0 : Int) ≤ _; omega, by show _ ≤ s.num.getD k 0 + 1 ∧ s.num.getD k 0 + 1 ≤ _; omega, by show (List.replicate 32 (0 : By)).length = 32; simp⟩ s ho hs
  have lc : Hid ((csC s).length = 19) := csC_len hs.len
  have HF : Hid (TelQ ab nb mb aa n LL [] w w1) := F1
  have y0 : (0 : Int) ≤ (k : Int) := by omega
  have y1 : (k : Int) < 8 := by omega
  have z1 : IntKind.i64.wrap (s.num.getD k 0 + 1) = s.num.getD k 0 + 1 := i64_in _ (by omega) (by omega)
  clear hT ha hn hm hb hr hp hl ho hs hk hb1 F1 hv hc
  change Calls Tryz.prog 63 #[.agg (csC s).toArray, .func (.func 26) #[] #[.pointer (some ⟨ab, 0, none⟩), .pointer (some ⟨nb, 0, none⟩)], .pointer (some ⟨sb, 0, none⟩), .pointer (some ⟨pb, 0, none⟩)] w fun e W' => e = .returned (.tuple #[]) ∧ TelQ ab nb mb aa n LL (raiseC c k (s.num.getD k 0 + 1) ⟨0, s.num.getD k 0 + 1, false, zH⟩ s) w W'
  generalize hT2 : raiseC c k (s.num.getD k 0 + 1) ⟨0, s.num.getD k 0 + 1, false, zH⟩ s = T2 at *
  clear hT2
  generalize s.num.getD k 0 = X at *
  go_enter Tryz.func63, Tryz.ntmps63
  go_wp2_with (first
    | (rw [← hw1]; have hz := hw1; clear hz hw1)
    | (refine wpList_load_whole_g ?_ 67 (.tmp 4) rfl w.heap.size 67 19 (csC s) r1 rfl _ lc.out Tryz.underlying67 rfl (by kernel_rfl) ?_; · rfl))
  refine RA.mono ?_
  rintro e w2 ⟨rfl, ht⟩
  dsimp only
  go_wp2
  go_end0
  exact ⟨rfl, by have := HF.out.more (U := T2) (by simpa [hit_nil] using ht); simpa using this⟩

set_option maxHeartbeats 2000000 in
set_option maxRecDepth 100000 in
theorem bumpTo_deed {c : Cfg} {g : Nat} {W0 : World} {sb vb pb mg k : Nat} {v : Int} (hr : Row W0 sb 3 [.int .i64 (k : Int)]) (hv : Row W0 vb 2 [.int .i64 v]) (hp : Row W0 pb 59 [.pointer (some ⟨mg, 0, none⟩)]) (hl : W0.cell? ⟨mg, 8, none⟩ = some (.int .i64 c.last)) (hc : c.last ≤ 1000000000) (hk : k < 8) : DeedIs c g W0 65 #[] #[.pointer (some ⟨pb, 0, none⟩), .pointer (some ⟨sb, 0, none⟩), .pointer (some ⟨vb, 0, none⟩)] fun s => raiseC c k v (an0 0) s := by
  intro w hb ab nb mb aa n LL hm hT ha hn s ho hs
  obtain ⟨w1, hw1⟩ : ∃ w1, w1 = w.alloc (.cells (csC s).toArray 67) := ⟨_, rfl⟩
  have hb1 : Below W0.heap.size W0 w1 := by rw [hw1]; exact hb.alloc hb.size _
  have r1 : Row w1 w.heap.size 67 (csC s) := by rw [hw1]; exact Row.at _ _ _ _ _ rfl rfl
  have c0 : w1.cell? ⟨sb, 0, none⟩ = some (.int .i64 (k : Int)) := (hr.below hb1 hr.lt).cell 0 _ rfl
  have c2 : w1.cell? ⟨vb, 0, none⟩ = some (.int .i64 v) := (hv.below hb1 hv.lt).cell 0 _ rfl
  have c1 : w1.cell? ⟨pb, 0, none⟩ = some (.pointer (some ⟨mg, 0, none⟩)) := (hp.below hb1 hp.lt).cell 0 _ rfl
  have HB : Hid (Below w.heap.size w w1) := by rw [hw1]; exact (Below.refl _ _).alloc (Nat.le_refl _) _
  have F1 : TelQ ab nb mb aa n LL [] w w1 := (TelQ.nil hT).keep HB.out
  have RA := raise_any F1.tel ha hn c g mg ((hb1.cell (cell_lt hl)).trans hl) (by omega) k hk v (an0 0) (an0_wf (by omega)) s ho hs
  have lc : Hid ((csC s).length = 19) := csC_len hs.len
  have HF : Hid (TelQ ab nb mb aa n LL [] w w1) := F1
  clear hT ha hn hm hb hr hp hl ho hs hk hb1 F1 hv hc
  change Calls Tryz.prog 65 #[.agg (csC s).toArray, .func (.func 26) #[] #[.pointer (some ⟨ab, 0, none⟩), .pointer (some ⟨nb, 0, none⟩)], .pointer (some ⟨pb, 0, none⟩), .pointer (some ⟨sb, 0, none⟩), .pointer (some ⟨vb, 0, none⟩)] w fun e W' => e = .returned (.tuple #[]) ∧ TelQ ab nb mb aa n LL (raiseC c k v (an0 0) s) w W'
  generalize raiseC c k v (an0 0) s = T2 at *
  go_enter Tryz.func65, Tryz.ntmps65
  go_wp2_with (first
    | (rw [← hw1]; have hz := hw1; clear hz hw1)
    | (refine wpList_load_whole_g ?_ 67 (.tmp 5) rfl w.heap.size 67 19 (csC s) r1 rfl _ lc.out Tryz.underlying67 rfl (by kernel_rfl) ?_; · rfl))
  refine RA.mono ?_
  rintro e w2 ⟨rfl, ht⟩
  dsimp only
  go_wp2
  go_end0
  exact ⟨rfl, by have := HF.out.more (U := T2) (by simpa [hit_nil] using ht); simpa using this⟩

set_option maxHeartbeats 2000000 in
set_option maxRecDepth 100000 in
theorem confirm_deed {c : Cfg} {g : Nat} {W0 : World} {mg : Nat} (hl : W0.cell? ⟨mg, 8, none⟩ = some (.int .i64 c.last)) (hc : c.last ≤ 1000000000) : DeedIs c g W0 50 #[.pointer (some ⟨mg, 0, none⟩)] #[] (confirmC c) := by
  intro w hb ab nb mb aa n LL hm hT ha hn s ho hs
  obtain ⟨w1, hw1⟩ : ∃ w1, w1 = w.alloc (.cells (csC s).toArray 67) := ⟨_, rfl⟩
  have hb1 : Below W0.heap.size W0 w1 := by rw [hw1]; exact hb.alloc hb.size _
  have r1 : Row w1 w.heap.size 67 (csC s) := by rw [hw1]; exact Row.at _ _ _ _ _ rfl rfl
  have c0 : w1.cell? ⟨w.heap.size, 11, none⟩ = some (.bool s.is) := r1.cell 11 _ (csC_at hs.len 3)
  have c1 : w1.cell? ⟨w.heap.size, 12, none⟩ = some (.int .i64 (s.slot : Int)) := r1.cell 12 _ (csC_at hs.len 4)
  have c2 : w1.cell? ⟨w.heap.size, 13, none⟩ = some (.int .i64 (s.ver : Int)) := r1.cell 13 _ (csC_at hs.len 5)
  have HB : Hid (Below w.heap.size w w1) := by rw [hw1]; exact (Below.refl _ _).alloc (Nat.le_refl _) _
  have F1 : TelQ ab nb mb aa n LL [] w w1 := (TelQ.nil hT).keep HB.out
  have RA := raise_any F1.tel ha hn c g mg ((hb1.cell (cell_lt hl)).trans hl) (by omega) s.slot hs.slot (s.ver : Int) (an0 0) (an0_wf (by omega)) s ho hs
  have ON := only_more F1 ha (by show n + 0 < _; omega) 11 (by omega) s hs
  have lc : Hid ((csC s).length = 19) := csC_len hs.len
  have HF : Hid (TelQ ab nb mb aa n LL [] w w1) := F1
  unfold confirmC
  clear hT ha hn hm hb hl ho hs hb1 F1 hc
  change Calls Tryz.prog 50 #[.pointer (some ⟨mg, 0, none⟩), .agg (csC s).toArray, .func (.func 26) #[] #[.pointer (some ⟨ab, 0, none⟩), .pointer (some ⟨nb, 0, none⟩)]] w _
  generalize raiseC c s.slot (s.ver : Int) (an0 0) s = T2 at *
  cases hq : s.is with
  | false =>
    rw [hq] at c0
    rw [if_neg (by decide)]
    clear hq
    go_enter Tryz.func50, Tryz.ntmps50
    go_wp2_with (first
      | (rw [← hw1]; have hz := hw1; clear hz hw1)
      | (refine wpList_load_whole_g ?_ 67 (.tmp 4) rfl w.heap.size 67 19 (csC s) r1 rfl _ lc.out Tryz.underlying67 rfl (by kernel_rfl) ?_; · rfl))
    refine ON.mono ?_
    rintro e w2 ⟨rfl, ht, _⟩
    dsimp only
    go_wp2
    refine bodyPost_ret (results_none rfl _ _ _) rfl ?_
    exact ⟨rfl, ht⟩
  | true =>
    rw [hq] at c0
    rw [if_pos rfl]
    clear hq
    go_enter Tryz.func50, Tryz.ntmps50
    go_wp2_with (first
      | (rw [← hw1]; have hz := hw1; clear hz hw1)
      | (refine wpList_load_whole_g ?_ 67 (.tmp 4) rfl w.heap.size 67 19 (csC s) r1 rfl _ lc.out Tryz.underlying67 rfl (by kernel_rfl) ?_; · rfl))
    refine RA.mono ?_
    rintro e w2 ⟨rfl, ht⟩
    dsimp only
    go_wp2
    go_end0
    exact ⟨rfl, by have := HF.out.more (U := T2) (by simpa [hit_nil] using ht); simpa using this⟩
end Go.Proofs.YtpcgkjngpdplmaaGreatDoor
