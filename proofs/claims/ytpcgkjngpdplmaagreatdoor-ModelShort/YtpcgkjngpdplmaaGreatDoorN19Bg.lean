
import Derived.Test.YtpcgkjngpdplmaaGreatDoorC4May
/-! The code's model: begin. (Printed by tools/genn19.py.) -/
namespace Go.Proofs.YtpcgkjngpdplmaaGreatDoor
open Go.RowKit Go.Maps
set_option linter.unusedVariables false
set_option linter.unusedSimpArgs false

/-- What a config and secrets are that may be. -/
structure CkOk (c : Cfg) (l : Secs) : Prop where
  st0 : 1 ≤ c.step
  st1 : c.step ≤ 65536
  fu0 : 1 ≤ c.fuses
  fu1 : c.fuses ≤ 64
  sl0 : 1 ≤ c.slots
  sl1 : c.slots ≤ 8
  ke0 : 1 ≤ c.keys
  ke1 : c.keys ≤ 64
  ar0 : 0 ≤ c.area
  ar1 : c.area ≤ 64
  ce0 : 0 ≤ c.cells
  ce1 : c.cells ≤ 256
  l64 : l.length ≤ 64
  l256 : ∀ i, i < l.length → (l.getD i (0, [])).2.length ≤ 256
theorem ckok_of {c : Cfg} {l : Secs} (hm : c.may = 0) (hl : newE l = none) : CkOk c l := by
  have hab : c.a = true ∧ c.b = true := by
    unfold Cfg.may at hm
    split at hm
    · rename_i h; simpa using h
    · omega
  have h1 := hab.1
  have h2 := hab.2
  unfold Cfg.a at h1
  unfold Cfg.b at h2
  simp only [Bool.and_eq_true, decide_eq_true_eq] at h1 h2
  obtain ⟨hn, hs⟩ := newE_none hl
  refine ⟨by omega, by omega, by omega, by omega, by omega, by omega, by omega, by omega, by omega, by omega, by omega, by omega, hn, fun i hi => ?_⟩
  have := hs i hi
  unfold secE at this
  split at this
  · cases this
  · split at this
    · cases this
    · omega
theorem area_le {c : Cfg} {l : Secs} (h : CkOk c l) : 0 ≤ c.area * c.cells ∧ c.area * c.cells ≤ 16384 := by
  have h1 := h.ar0; have h2 := h.ar1; have h3 := h.ce0; have h4 := h.ce1
  refine ⟨Int.mul_nonneg h1 h3, ?_⟩
  have := Int.mul_le_mul h2 h4 h3 (by omega)
  omega
theorem last_le {c : Cfg} {l : Secs} (h : CkOk c l) : 0 ≤ c.step * c.fuses ∧ c.step * c.fuses ≤ 4194304 ∧ 0 ≤ c.last ∧ c.last ≤ 1000000000 := by
  have h1 := h.st0; have h2 := h.st1; have h3 := h.fu0; have h4 := h.fu1
  have e0 : 0 ≤ c.step * c.fuses := Int.mul_nonneg (by omega) (by omega)
  have e1 : c.step * c.fuses ≤ 65536 * 64 := Int.mul_le_mul h2 h4 (by omega) (by omega)
  unfold Cfg.last
  omega
set_option maxHeartbeats 1000000 in
set_option maxRecDepth 100000 in
theorem size19_any (c : Cfg) (l : Secs) (hc : CkOk c l) (hm : c.may = 0) (w : World) : Calls Tryz.prog 25 #[.agg c.vals.toArray] w fun e w' => e = .returned (.int .i64 c.size19) ∧ Below w.heap.size w w' := by
  have r0 := Row.at w 23 c.vals _ _ rfl rfl
  have M := cmay_any c (w.alloc (.cells c.vals.toArray 23))
  have b1 : Below w.heap.size w (w.alloc (.cells c.vals.toArray 23)) := (Below.refl _ _).alloc (Nat.le_refl _) _
  have hz : (w.alloc (.cells c.vals.toArray 23)).heap.size = w.heap.size + 1 := by simp
  have HR : Hid (∀ W, Below (w.heap.size + 1) (w.alloc (.cells c.vals.toArray 23)) W → Row W w.heap.size 23 c.vals) := fun W h => r0.below h (by omega)
  have hl : c.vals.length = 7 := rfl
  have HV0 : Hid (c.vals[0]? = some (.int .i64 c.cells)) := rfl
  have HV6 : Hid (c.vals[6]? = some (.int .i64 c.area)) := rfl
  have hA := area_le hc
  rw [hm] at M
  unfold Cfg.size19
  have y1 : IntKind.i64.wrap (c.area * c.cells) = c.area * c.cells := i64_in _ (by omega) (by omega)
  have y2 : IntKind.i64.wrap (c.area * c.cells * 32) = c.area * c.cells * 32 := i64_in _ (by omega) (by omega)
  clear hm hA hc
  generalize c.vals = CV at *
  generalize c.area = AR at *
  generalize c.cells = CE at *
  go_enter Tryz.func25, Tryz.ntmps25
  go_wp2_with (refine wpList_load_Row rfl 23 _ rfl _ _ CV r0 rfl _ Tryz.underlying23 rfl (by rw [hl]; kernel_rfl) ?_)
  refine M.mono ?_
  rintro e w2 ⟨rfl, hb2⟩
  rw [hz] at hb2
  have r2 := HR.out _ hb2
  have c0 := r2.cell 0 _ HV0.out
  have c6 := r2.cell 6 _ HV6.out
  dsimp only
  go_wp2
  go_ret
  exact ⟨rfl, b1.trans (hb2.mono (by omega))⟩
theorem step_build6 {ops : Array Oper} {o : Oper} {a : Act} {w : World} {K : Act → World → Prop} {Q : Exit → Act → World → Prop} {X : Prop} (hw : Region.wanted o (yielded ops a.tmps) = true) (t : TypeId) (x0 x1 x2 x3 x4 x5 : Operand) (ho : o.op = .build t #[(0, x0), (1, x1), (2, x2), (3, x3), (4, x4), (5, x5)])
    (v0 v1 v2 v3 v4 v5 v : Value) (h0 : a.eval x0 = v0) (h1 : a.eval x1 = v1) (h2 : a.eval x2 = v2) (h3 : a.eval x3 = v3) (h4 : a.eval x4 = v4) (h5 : a.eval x5 = v5) (hrun : (Instr.build t #[(0, v0), (1, v1), (2, v2), (3, v3), (4, v4), (5, v5)]).run Tryz.prog w = .ok v w) (h : K (a.put o.dst v) w) : if Region.wanted o (yielded ops a.tmps) = true then Oper.wp Tryz.prog o a w K Q else X := by
  subst h0; subst h1; subst h2; subst h3; subst h4; subst h5
  rw [if_pos hw]
  unfold Oper.wp execOp
  simp only [ho, List.map_toArray, List.map_cons, List.map_nil, Sem.run_bind, Sem.run_pure, hrun, Result.andThen_ok]
  exact h
/-- While the model is made. -/
structure GB (w : World) (c : Cfg) (rg : Nat) (q15 q16 q17 q18 q19 : Bool) (x20 x21 x22 x23 x4 : Value) (W : World) : Prop where
  bel : Below w.heap.size w W
  cf : Row W w.heap.size 23 c.vals
  n20 : q15 = true → ∃ so, x20 = .slice (some ⟨so, 0, none⟩) 1 1 ∧ w.heap.size < so ∧ Row W so 91 (flS c [] [])
  n21 : q16 = true → ∃ nb, x21 = .map (some nb) ∧ w.heap.size < nb ∧ MsAt W nb []
  n22 : q17 = true → ∃ so nb, x20 = .slice (some ⟨so, 0, none⟩) 1 1 ∧ x21 = .map (some nb) ∧ x22 = .agg (mdC c rg (.slice (some ⟨so, 0, none⟩) 1 1) nb).toArray
  n23 : q18 = true → ∃ so nb mg, x20 = .slice (some ⟨so, 0, none⟩) 1 1 ∧ x21 = .map (some nb) ∧ x23 = .pointer (some ⟨mg, 0, none⟩) ∧ w.heap.size < mg ∧ Row W mg 95 (mdC c rg (.slice (some ⟨so, 0, none⟩) 1 1) nb)
  n4 : q19 = true → x4 = x23
section
variable {w W W2 : World} {c : Cfg} {rg : Nat} {q15 q16 q17 q18 q19 : Bool} {x20 x21 x22 x23 x4 : Value}
theorem GB.keep (h : GB w c rg q15 q16 q17 q18 q19 x20 x21 x22 x23 x4 W) (hb : Below W.heap.size W W2) : GB w c rg q15 q16 q17 q18 q19 x20 x21 x22 x23 x4 W2 :=
  ⟨h.bel.trans (hb.mono h.bel.size), h.cf.below hb h.cf.lt, fun e => let ⟨s, a, b, d⟩ := h.n20 e; ⟨s, a, b, d.below hb d.lt⟩, fun e => let ⟨s, a, b, d⟩ := h.n21 e; ⟨s, a, b, d.of_block (hb.block s d.lt)⟩, h.n22, fun e => let ⟨s, n, m, a, b, d, f, r⟩ := h.n23 e; ⟨s, n, m, a, b, d, f, r.below hb r.lt⟩, h.n4⟩
theorem GB.drew (h : GB w c rg q15 q16 q17 q18 q19 x20 x21 x22 x23 x4 W) : GB w c rg q15 q16 q17 q18 q19 x20 x21 x22 x23 x4 W.drew := h.keep ⟨rfl, rfl, rfl, Nat.le_refl _, fun _ _ => rfl⟩
theorem al_below (W : World) (o : Obj) : Below W.heap.size W (W.alloc o) := (Below.refl _ _).alloc (Nat.le_refl _) _
end
structure BG1 (W1 : World) (w : World) (c : Cfg) (rg : Nat) (L : Nat → Bool) (x5 x6 x7 x8 x9 x10 x11 x12 x13 x14 x15 x16 x17 x18 x19 x20 x21 x22 x23 x4 : Value) (W : World) : Prop where
  x : GB w c rg (L 15) (L 16) (L 17) (L 18) (L 19) x20 x21 x22 x23 x4 W
  p0 : L 0 = true → x5 = .agg c.vals.toArray
  p1 : L 1 = true → x6 = .pointer (some ⟨rg, 0, none⟩)
  p2 : L 2 = true → x7 = .pointer (some ⟨w.heap.size, 3, none⟩)
  p3 : L 3 = true → x8 = .int .i64 c.step
  p4 : L 4 = true → x9 = .pointer (some ⟨w.heap.size, 2, none⟩)
  p5 : L 5 = true → x10 = .int .i64 c.fuses
  p6 : L 6 = true → x11 = .int .i64 (c.step * c.fuses)
  p7 : L 7 = true → x12 = .pointer (some ⟨w.heap.size, 3, none⟩)
  p8 : L 8 = true → x13 = .int .i64 c.step
  p9 : L 9 = true → x14 = .int .i64 (c.step * c.fuses + c.step)
  p10 : L 10 = true → x15 = .int .i64 (c.step * c.fuses + c.step - 1)
  p11 : L 11 = true → x16 = .agg c.vals.toArray
  p12 : L 12 = true → x17 = .int .i64 c.size19
  p13 : L 13 = true → x18 = .agg (fdC ⟨5, false, 0, 0, 0⟩).toArray
  p14 : L 14 = true → x19 = .agg (flS c [] []).toArray
  c17_15 : L 17 = true → L 15 = true
  c17_16 : L 17 = true → L 16 = true
  c18_17 : L 18 = true → L 17 = true
  c19_18 : L 19 = true → L 18 = true
section
variable {W1 : World} {w : World} {c : Cfg} {rg : Nat} {L : Nat → Bool} {x5 x6 x7 x8 x9 x10 x11 x12 x13 x14 x15 x16 x17 x18 x19 x20 x21 x22 x23 x4 : Value} {W W2 : World}
theorem BG1.s0 (h : BG1 W1 w c rg L x5 x6 x7 x8 x9 x10 x11 x12 x13 x14 x15 x16 x17 x18 x19 x20 x21 x22 x23 x4 W) : BG1 W1 w c rg (upd L 0) (.agg c.vals.toArray) x6 x7 x8 x9 x10 x11 x12 x13 x14 x15 x16 x17 x18 x19 x20 x21 x22 x23 x4 W :=
  ⟨h.x, fun _ => rfl, h.p1, h.p2, h.p3, h.p4, h.p5, h.p6, h.p7, h.p8, h.p9, h.p10, h.p11, h.p12, h.p13, h.p14, h.c17_15, h.c17_16, h.c18_17, h.c19_18⟩
theorem BG1.s1 (h : BG1 W1 w c rg L x5 x6 x7 x8 x9 x10 x11 x12 x13 x14 x15 x16 x17 x18 x19 x20 x21 x22 x23 x4 W) : BG1 W1 w c rg (upd L 1) x5 (.pointer (some ⟨rg, 0, none⟩)) x7 x8 x9 x10 x11 x12 x13 x14 x15 x16 x17 x18 x19 x20 x21 x22 x23 x4 W :=
  ⟨h.x, h.p0, fun _ => rfl, h.p2, h.p3, h.p4, h.p5, h.p6, h.p7, h.p8, h.p9, h.p10, h.p11, h.p12, h.p13, h.p14, h.c17_15, h.c17_16, h.c18_17, h.c19_18⟩
theorem BG1.s2 (h : BG1 W1 w c rg L x5 x6 x7 x8 x9 x10 x11 x12 x13 x14 x15 x16 x17 x18 x19 x20 x21 x22 x23 x4 W) : BG1 W1 w c rg (upd L 2) x5 x6 (.pointer (some ⟨w.heap.size, 3, none⟩)) x8 x9 x10 x11 x12 x13 x14 x15 x16 x17 x18 x19 x20 x21 x22 x23 x4 W :=
  ⟨h.x, h.p0, h.p1, fun _ => rfl, h.p3, h.p4, h.p5, h.p6, h.p7, h.p8, h.p9, h.p10, h.p11, h.p12, h.p13, h.p14, h.c17_15, h.c17_16, h.c18_17, h.c19_18⟩
theorem BG1.s3 (h : BG1 W1 w c rg L x5 x6 x7 x8 x9 x10 x11 x12 x13 x14 x15 x16 x17 x18 x19 x20 x21 x22 x23 x4 W) : BG1 W1 w c rg (upd L 3) x5 x6 x7 (.int .i64 c.step) x9 x10 x11 x12 x13 x14 x15 x16 x17 x18 x19 x20 x21 x22 x23 x4 W :=
  ⟨h.x, h.p0, h.p1, h.p2, fun _ => rfl, h.p4, h.p5, h.p6, h.p7, h.p8, h.p9, h.p10, h.p11, h.p12, h.p13, h.p14, h.c17_15, h.c17_16, h.c18_17, h.c19_18⟩
theorem BG1.s4 (h : BG1 W1 w c rg L x5 x6 x7 x8 x9 x10 x11 x12 x13 x14 x15 x16 x17 x18 x19 x20 x21 x22 x23 x4 W) : BG1 W1 w c rg (upd L 4) x5 x6 x7 x8 (.pointer (some ⟨w.heap.size, 2, none⟩)) x10 x11 x12 x13 x14 x15 x16 x17 x18 x19 x20 x21 x22 x23 x4 W :=
  ⟨h.x, h.p0, h.p1, h.p2, h.p3, fun _ => rfl, h.p5, h.p6, h.p7, h.p8, h.p9, h.p10, h.p11, h.p12, h.p13, h.p14, h.c17_15, h.c17_16, h.c18_17, h.c19_18⟩
theorem BG1.s5 (h : BG1 W1 w c rg L x5 x6 x7 x8 x9 x10 x11 x12 x13 x14 x15 x16 x17 x18 x19 x20 x21 x22 x23 x4 W) : BG1 W1 w c rg (upd L 5) x5 x6 x7 x8 x9 (.int .i64 c.fuses) x11 x12 x13 x14 x15 x16 x17 x18 x19 x20 x21 x22 x23 x4 W :=
  ⟨h.x, h.p0, h.p1, h.p2, h.p3, h.p4, fun _ => rfl, h.p6, h.p7, h.p8, h.p9, h.p10, h.p11, h.p12, h.p13, h.p14, h.c17_15, h.c17_16, h.c18_17, h.c19_18⟩
theorem BG1.s6 (h : BG1 W1 w c rg L x5 x6 x7 x8 x9 x10 x11 x12 x13 x14 x15 x16 x17 x18 x19 x20 x21 x22 x23 x4 W) : BG1 W1 w c rg (upd L 6) x5 x6 x7 x8 x9 x10 (.int .i64 (c.step * c.fuses)) x12 x13 x14 x15 x16 x17 x18 x19 x20 x21 x22 x23 x4 W :=
  ⟨h.x, h.p0, h.p1, h.p2, h.p3, h.p4, h.p5, fun _ => rfl, h.p7, h.p8, h.p9, h.p10, h.p11, h.p12, h.p13, h.p14, h.c17_15, h.c17_16, h.c18_17, h.c19_18⟩
theorem BG1.s7 (h : BG1 W1 w c rg L x5 x6 x7 x8 x9 x10 x11 x12 x13 x14 x15 x16 x17 x18 x19 x20 x21 x22 x23 x4 W) : BG1 W1 w c rg (upd L 7) x5 x6 x7 x8 x9 x10 x11 (.pointer (some ⟨w.heap.size, 3, none⟩)) x13 x14 x15 x16 x17 x18 x19 x20 x21 x22 x23 x4 W :=
  ⟨h.x, h.p0, h.p1, h.p2, h.p3, h.p4, h.p5, h.p6, fun _ => rfl, h.p8, h.p9, h.p10, h.p11, h.p12, h.p13, h.p14, h.c17_15, h.c17_16, h.c18_17, h.c19_18⟩
theorem BG1.s8 (h : BG1 W1 w c rg L x5 x6 x7 x8 x9 x10 x11 x12 x13 x14 x15 x16 x17 x18 x19 x20 x21 x22 x23 x4 W) : BG1 W1 w c rg (upd L 8) x5 x6 x7 x8 x9 x10 x11 x12 (.int .i64 c.step) x14 x15 x16 x17 x18 x19 x20 x21 x22 x23 x4 W :=
  ⟨h.x, h.p0, h.p1, h.p2, h.p3, h.p4, h.p5, h.p6, h.p7, fun _ => rfl, h.p9, h.p10, h.p11, h.p12, h.p13, h.p14, h.c17_15, h.c17_16, h.c18_17, h.c19_18⟩
theorem BG1.s9 (h : BG1 W1 w c rg L x5 x6 x7 x8 x9 x10 x11 x12 x13 x14 x15 x16 x17 x18 x19 x20 x21 x22 x23 x4 W) : BG1 W1 w c rg (upd L 9) x5 x6 x7 x8 x9 x10 x11 x12 x13 (.int .i64 (c.step * c.fuses + c.step)) x15 x16 x17 x18 x19 x20 x21 x22 x23 x4 W :=
  ⟨h.x, h.p0, h.p1, h.p2, h.p3, h.p4, h.p5, h.p6, h.p7, h.p8, fun _ => rfl, h.p10, h.p11, h.p12, h.p13, h.p14, h.c17_15, h.c17_16, h.c18_17, h.c19_18⟩
theorem BG1.s10 (h : BG1 W1 w c rg L x5 x6 x7 x8 x9 x10 x11 x12 x13 x14 x15 x16 x17 x18 x19 x20 x21 x22 x23 x4 W) : BG1 W1 w c rg (upd L 10) x5 x6 x7 x8 x9 x10 x11 x12 x13 x14 (.int .i64 (c.step * c.fuses + c.step - 1)) x16 x17 x18 x19 x20 x21 x22 x23 x4 W :=
  ⟨h.x, h.p0, h.p1, h.p2, h.p3, h.p4, h.p5, h.p6, h.p7, h.p8, h.p9, fun _ => rfl, h.p11, h.p12, h.p13, h.p14, h.c17_15, h.c17_16, h.c18_17, h.c19_18⟩
theorem BG1.s11 (h : BG1 W1 w c rg L x5 x6 x7 x8 x9 x10 x11 x12 x13 x14 x15 x16 x17 x18 x19 x20 x21 x22 x23 x4 W) : BG1 W1 w c rg (upd L 11) x5 x6 x7 x8 x9 x10 x11 x12 x13 x14 x15 (.agg c.vals.toArray) x17 x18 x19 x20 x21 x22 x23 x4 W :=
  ⟨h.x, h.p0, h.p1, h.p2, h.p3, h.p4, h.p5, h.p6, h.p7, h.p8, h.p9, h.p10, fun _ => rfl, h.p12, h.p13, h.p14, h.c17_15, h.c17_16, h.c18_17, h.c19_18⟩
theorem BG1.s12 (h : BG1 W1 w c rg L x5 x6 x7 x8 x9 x10 x11 x12 x13 x14 x15 x16 x17 x18 x19 x20 x21 x22 x23 x4 W) (hX : GB w c rg ((upd L 12) 15) ((upd L 12) 16) ((upd L 12) 17) ((upd L 12) 18) ((upd L 12) 19) x20 x21 x22 x23 x4 W2) : BG1 W1 w c rg (upd L 12) x5 x6 x7 x8 x9 x10 x11 x12 x13 x14 x15 x16 (.int .i64 c.size19) x18 x19 x20 x21 x22 x23 x4 W2 :=
  ⟨hX, h.p0, h.p1, h.p2, h.p3, h.p4, h.p5, h.p6, h.p7, h.p8, h.p9, h.p10, h.p11, fun _ => rfl, h.p13, h.p14, h.c17_15, h.c17_16, h.c18_17, h.c19_18⟩
theorem BG1.s13 (h : BG1 W1 w c rg L x5 x6 x7 x8 x9 x10 x11 x12 x13 x14 x15 x16 x17 x18 x19 x20 x21 x22 x23 x4 W) : BG1 W1 w c rg (upd L 13) x5 x6 x7 x8 x9 x10 x11 x12 x13 x14 x15 x16 x17 (.agg (fdC ⟨5, false, 0, 0, 0⟩).toArray) x19 x20 x21 x22 x23 x4 W :=
  ⟨h.x, h.p0, h.p1, h.p2, h.p3, h.p4, h.p5, h.p6, h.p7, h.p8, h.p9, h.p10, h.p11, h.p12, fun _ => rfl, h.p14, h.c17_15, h.c17_16, h.c18_17, h.c19_18⟩
theorem BG1.s14 (h : BG1 W1 w c rg L x5 x6 x7 x8 x9 x10 x11 x12 x13 x14 x15 x16 x17 x18 x19 x20 x21 x22 x23 x4 W) : BG1 W1 w c rg (upd L 14) x5 x6 x7 x8 x9 x10 x11 x12 x13 x14 x15 x16 x17 x18 (.agg (flS c [] []).toArray) x20 x21 x22 x23 x4 W :=
  ⟨h.x, h.p0, h.p1, h.p2, h.p3, h.p4, h.p5, h.p6, h.p7, h.p8, h.p9, h.p10, h.p11, h.p12, h.p13, fun _ => rfl, h.c17_15, h.c17_16, h.c18_17, h.c19_18⟩
theorem BG1.s15 (h : BG1 W1 w c rg L x5 x6 x7 x8 x9 x10 x11 x12 x13 x14 x15 x16 x17 x18 x19 x20 x21 x22 x23 x4 W) {v : Value} (hX : GB w c rg ((upd L 15) 15) ((upd L 15) 16) ((upd L 15) 17) ((upd L 15) 18) ((upd L 15) 19) v x21 x22 x23 x4 W2) : BG1 W1 w c rg (upd L 15) x5 x6 x7 x8 x9 x10 x11 x12 x13 x14 x15 x16 x17 x18 x19 v x21 x22 x23 x4 W2 :=
  ⟨hX, h.p0, h.p1, h.p2, h.p3, h.p4, h.p5, h.p6, h.p7, h.p8, h.p9, h.p10, h.p11, h.p12, h.p13, h.p14, fun _ => rfl, h.c17_16, h.c18_17, h.c19_18⟩
theorem BG1.s16 (h : BG1 W1 w c rg L x5 x6 x7 x8 x9 x10 x11 x12 x13 x14 x15 x16 x17 x18 x19 x20 x21 x22 x23 x4 W) {v : Value} (hX : GB w c rg ((upd L 16) 15) ((upd L 16) 16) ((upd L 16) 17) ((upd L 16) 18) ((upd L 16) 19) x20 v x22 x23 x4 W2) : BG1 W1 w c rg (upd L 16) x5 x6 x7 x8 x9 x10 x11 x12 x13 x14 x15 x16 x17 x18 x19 x20 v x22 x23 x4 W2 :=
  ⟨hX, h.p0, h.p1, h.p2, h.p3, h.p4, h.p5, h.p6, h.p7, h.p8, h.p9, h.p10, h.p11, h.p12, h.p13, h.p14, h.c17_15, fun _ => rfl, h.c18_17, h.c19_18⟩
theorem BG1.s17 (h : BG1 W1 w c rg L x5 x6 x7 x8 x9 x10 x11 x12 x13 x14 x15 x16 x17 x18 x19 x20 x21 x22 x23 x4 W) {v : Value} (hX : GB w c rg ((upd L 17) 15) ((upd L 17) 16) ((upd L 17) 17) ((upd L 17) 18) ((upd L 17) 19) x20 x21 v x23 x4 W2) (hc15 : L 15 = true) (hc16 : L 16 = true) : BG1 W1 w c rg (upd L 17) x5 x6 x7 x8 x9 x10 x11 x12 x13 x14 x15 x16 x17 x18 x19 x20 x21 v x23 x4 W2 :=
  ⟨hX, h.p0, h.p1, h.p2, h.p3, h.p4, h.p5, h.p6, h.p7, h.p8, h.p9, h.p10, h.p11, h.p12, h.p13, h.p14, fun _ => hc15, fun _ => hc16, fun _ => rfl, h.c19_18⟩
theorem BG1.s18 (h : BG1 W1 w c rg L x5 x6 x7 x8 x9 x10 x11 x12 x13 x14 x15 x16 x17 x18 x19 x20 x21 x22 x23 x4 W) {v : Value} (hX : GB w c rg ((upd L 18) 15) ((upd L 18) 16) ((upd L 18) 17) ((upd L 18) 18) ((upd L 18) 19) x20 x21 x22 v x4 W2) (hc17 : L 17 = true) : BG1 W1 w c rg (upd L 18) x5 x6 x7 x8 x9 x10 x11 x12 x13 x14 x15 x16 x17 x18 x19 x20 x21 x22 v x4 W2 :=
  ⟨hX, h.p0, h.p1, h.p2, h.p3, h.p4, h.p5, h.p6, h.p7, h.p8, h.p9, h.p10, h.p11, h.p12, h.p13, h.p14, h.c17_15, h.c17_16, fun _ => hc17, fun _ => rfl⟩
theorem BG1.s19 (h : BG1 W1 w c rg L x5 x6 x7 x8 x9 x10 x11 x12 x13 x14 x15 x16 x17 x18 x19 x20 x21 x22 x23 x4 W) {v : Value} (hX : GB w c rg ((upd L 19) 15) ((upd L 19) 16) ((upd L 19) 17) ((upd L 19) 18) ((upd L 19) 19) x20 x21 x22 x23 v W2) (hc18 : L 18 = true) : BG1 W1 w c rg (upd L 19) x5 x6 x7 x8 x9 x10 x11 x12 x13 x14 x15 x16 x17 x18 x19 x20 x21 x22 x23 v W2 :=
  ⟨hX, h.p0, h.p1, h.p2, h.p3, h.p4, h.p5, h.p6, h.p7, h.p8, h.p9, h.p10, h.p11, h.p12, h.p13, h.p14, h.c17_15, h.c17_16, h.c18_17, fun _ => hc18⟩
end
@[reducible] def IBG1 (W1 : World) (w : World) (c : Cfg) (rg : Nat) (y0 y1 y2 y3 : Value) : (Nat → Bool) → Act → World → Prop := fun L a W => ∃ x5 x6 x7 x8 x9 x10 x11 x12 x13 x14 x15 x16 x17 x18 x19 x20 x21 x22 x23 x4, a = ⟨#[y0, y1, y2, y3, x4, x5, x6, x7, x8, x9, x10, x11, x12, x13, x14, x15, x16, x17, x18, x19, x20, x21, x22, x23], []⟩ ∧ BG1 W1 w c rg L x5 x6 x7 x8 x9 x10 x11 x12 x13 x14 x15 x16 x17 x18 x19 x20 x21 x22 x23 x4 W
theorem BG1.step {W1 : World} {w : World} {c : Cfg} {rg : Nat} {y0 y1 y2 y3 : Value} {P : Program} {ops : Array Oper} {Q : Exit → Act → World → Prop} {i : Nat} {o : Oper} (hq : ∀ x5 x6 x7 x8 x9 x10 x11 x12 x13 x14 x15 x16 x17 x18 x19 x20 x21 x22 x23 x4 (L : Nat → Bool) (W : World), BG1 W1 w c rg L x5 x6 x7 x8 x9 x10 x11 x12 x13 x14 x15 x16 x17 x18 x19 x20 x21 x22 x23 x4 W → L i = false → (∀ j ∈ onesOf o, L j = true) → ∀ K : Act → World → Prop, Shut (∀ a' w', IBG1 W1 w c rg y0 y1 y2 y3 (upd L i) a' w' → K a' w') → if Region.wanted o (yielded ops (⟨#[y0, y1, y2, y3, x4, x5, x6, x7, x8, x9, x10, x11, x12, x13, x14, x15, x16, x17, x18, x19, x20, x21, x22, x23], []⟩ : Act).tmps) = true then Oper.wp P o ⟨#[y0, y1, y2, y3, x4, x5, x6, x7, x8, x9, x10, x11, x12, x13, x14, x15, x16, x17, x18, x19, x20, x21, x22, x23], []⟩ W K Q else K ((⟨#[y0, y1, y2, y3, x4, x5, x6, x7, x8, x9, x10, x11, x12, x13, x14, x15, x16, x17, x18, x19, x20, x21, x22, x23], []⟩ : Act).put o.dst undef) W) : StepI P ops (IBG1 W1 w c rg y0 y1 y2 y3) Q i o := by
  rintro L a W ⟨x5, x6, x7, x8, x9, x10, x11, x12, x13, x14, x15, x16, x17, x18, x19, x20, x21, x22, x23, x4, rfl, h⟩
  exact hq _ _ _ _ _ _ _ _ _ _ _ _ _ _ _ _ _ _ _ _ _ _ h
theorem BG1.ends {W1 : World} {w : World} {c : Cfg} {rg : Nat} {y0 y1 y2 y3 : Value} {mm_ : Nat} {Q : Exit → Act → World → Prop} (hq : ∀ x5 x6 x7 x8 x9 x10 x11 x12 x13 x14 x15 x16 x17 x18 x19 x20 x21 x22 x23 x4 (L : Nat → Bool) (W : World), (∀ j, j < mm_ → L j = true) → BG1 W1 w c rg L x5 x6 x7 x8 x9 x10 x11 x12 x13 x14 x15 x16 x17 x18 x19 x20 x21 x22 x23 x4 W → Q .normal ⟨#[y0, y1, y2, y3, x4, x5, x6, x7, x8, x9, x10, x11, x12, x13, x14, x15, x16, x17, x18, x19, x20, x21, x22, x23], []⟩ W) : ∀ L a' w', (∀ j, j < mm_ → L j = true) → IBG1 W1 w c rg y0 y1 y2 y3 L a' w' → Q .normal a' w' := by
  rintro L a W hall ⟨x5, x6, x7, x8, x9, x10, x11, x12, x13, x14, x15, x16, x17, x18, x19, x20, x21, x22, x23, x4, rfl, h⟩
  exact hq _ _ _ _ _ _ _ _ _ _ _ _ _ _ _ _ _ _ _ _ _ _ hall h
set_option maxHeartbeats 4000000 in
set_option maxRecDepth 100000 in
theorem begin_any (c : Cfg) (l : Secs) (hc : CkOk c l) (hm : c.may = 0) (rg : Nat) (w : World) (hring : ∃ K b0 vs, KgO K w.heap.size w rg b0 vs l) :
    Calls Tryz.prog 15 #[.agg c.vals.toArray, .pointer (some ⟨rg, 0, none⟩)] w fun e w' => ∃ mg nb so, e = .returned (.pointer (some ⟨mg, 0, none⟩)) ∧ MdM w.heap.size w' mg rg nb so 1 c l [] ∧ Below w.heap.size w w' := by
  obtain ⟨w1, hw1⟩ : ∃ w1, w1 = w.alloc (.cells c.vals.toArray 23) := ⟨_, rfl⟩
  have HS : Hid (GB w c rg false false false false false undef undef undef undef (.pointer none) w1) := by
    rw [hw1]
    exact ⟨al_below _ _, Row.at _ _ _ _ _ rfl rfl, (fun e => by cases e), (fun e => by cases e), (fun e => by cases e), (fun e => by cases e), (fun e => by cases e)⟩
  have SZ : Hid (∀ W, _) := fun W => size19_any c l hc hm W
  obtain ⟨z1, z2, z3, z4⟩ := last_le hc
  have y1 : IntKind.i64.wrap (c.step * c.fuses) = c.step * c.fuses := i64_in _ (by omega) (by omega)
  have h65 := hc.st1
  have h60 := hc.st0
  have y2 : IntKind.i64.wrap (c.step * c.fuses + c.step) = c.step * c.fuses + c.step := i64_in _ (by omega) (by omega)
  have y3 : IntKind.i64.wrap (c.step * c.fuses + c.step - 1) = c.step * c.fuses + c.step - 1 := i64_in _ (by omega) (by omega)
  have FIN : Hid (∀ W x20 x21 x22 x23 x4, GB w c rg true true true true true x20 x21 x22 x23 x4 W → ∃ mg nb so, x4 = .pointer (some ⟨mg, 0, none⟩) ∧ MdM w.heap.size W mg rg nb so 1 c l [] ∧ Below w.heap.size w W) := fun W x20 x21 x22 x23 x4 hG => by
    obtain ⟨so, nb, mg, e20, e21, e23, hmg, hrow⟩ := hG.n23 rfl
    obtain ⟨so2, f20, hso, hr20⟩ := hG.n20 rfl
    obtain ⟨nb2, f21, hnb, hms⟩ := hG.n21 rfl
    rw [e20] at f20
    injection f20 with f20 _ _
    injection f20 with f20
    injection f20 with f20
    subst f20
    rw [e21] at f21
    injection f21 with f21
    injection f21 with f21
    subst f21
    refine ⟨mg, nb, so, (hG.n4 rfl).trans e23, ⟨hrow, ?_, hc.l256, ⟨flS_len c l [], .inr ⟨so, 1, (flS c l []).toArray, rfl, by omega, ?_, Nat.le_refl _, by unfold maxLen; omega, ?_, ?_⟩⟩, hms, ⟨by omega, by omega⟩⟩, hG.bel⟩
    · obtain ⟨K, b0, vs, k⟩ := hring
      exact ⟨K, b0, vs, k.below hG.bel⟩
    · exact hr20
    · rfl
    · rfl
  have LC : Hid (c.vals.length = 7) := rfl
  have HC7 : Hid ((c.vals.drop 0).take 7 = c.vals) := rfl
  have K2 : Hid (c.vals[2]? = some (.int .i64 c.fuses)) := rfl
  have K3 : Hid (c.vals[3]? = some (.int .i64 c.step)) := rfl
  have BM : Hid (∀ (so nb : Nat) (W : World), (Instr.build 95 #[(0, .agg c.vals.toArray), (1, .pointer (some ⟨rg, 0, none⟩)), (2, .int .i64 (c.step * c.fuses + c.step - 1)), (3, .int .i64 c.size19), (4, .slice (some ⟨so, 0, none⟩) 1 1), (5, .map (some nb))]).run Tryz.prog W = .ok (.agg (mdC c rg (.slice (some ⟨so, 0, none⟩) 1 1) nb).toArray) W) := fun so nb W => by kernel_rfl
  clear hring z1 z2 z3 z4 h65 h60
  go_enter Tryz.func15, Tryz.ntmps15
  go_wp2_with (rw [← hw1]; have hz := hw1; clear hz hw1)
  refine wp_region_inv (IBG1 w w c rg _ _ _ _) (by kernel_rfl) (by kernel_rfl) ⟨_, _, _, _, _, _, _, _, _, _, _, _, _, _, _, _, _, _, _, _, rfl, ⟨HS.out.drew, fun k => (by cases k), fun k => (by cases k), fun k => (by cases k), fun k => (by cases k), fun k => (by cases k), fun k => (by cases k), fun k => (by cases k), fun k => (by cases k), fun k => (by cases k), fun k => (by cases k), fun k => (by cases k), fun k => (by cases k), fun k => (by cases k), fun k => (by cases k), fun k => (by cases k), fun k => (by cases k), fun k => (by cases k), fun k => (by cases k), fun k => (by cases k)⟩⟩ ?_ ?_
  · refine .cons ?_ (.cons ?_ (.cons ?_ (.cons ?_ (.cons ?_ (.cons ?_ (.cons ?_ (.cons ?_ (.cons ?_ (.cons ?_ (.cons ?_ (.cons ?_ (.cons ?_ (.cons ?_ (.cons ?_ (.cons ?_ (.cons ?_ (.cons ?_ (.cons ?_ (.cons ?_ .nil)))))))))))))))))))
    all_goals (refine BG1.step ?_; intro x5 x6 x7 x8 x9 x10 x11 x12 x13 x14 x15 x16 x17 x18 x19 x20 x21 x22 x23 x4 L W hI hL hd K hK)
    · refine step_load_part (by rfl) 23 _ rfl w.heap.size 0 23 7 c.vals hI.x.cf rfl _ c.vals HC7.out LC.out Tryz.underlying23 rfl (by kernel_rfl) ?_
      exact hK.out _ _ ⟨_, _, _, _, _, _, _, _, _, _, _, _, _, _, _, _, _, _, _, _, rfl, hI.s0⟩
    · rw [if_pos (by rfl)]
      go_simp
      exact hK.out _ _ ⟨_, _, _, _, _, _, _, _, _, _, _, _, _, _, _, _, _, _, _, _, rfl, hI.s1⟩
    · rw [if_pos (by rfl)]
      go_simp
      exact hK.out _ _ ⟨_, _, _, _, _, _, _, _, _, _, _, _, _, _, _, _, _, _, _, _, rfl, hI.s2⟩
    · have hx2 := hI.p2 (hd 2 (by decide))
      subst hx2
      rw [if_pos (by rfl)]
      have hc := hI.x.cf.cell 3 _ K3.out
      go_simp
      exact hK.out _ _ ⟨_, _, _, _, _, _, _, _, _, _, _, _, _, _, _, _, _, _, _, _, rfl, hI.s3⟩
    · rw [if_pos (by rfl)]
      go_simp
      exact hK.out _ _ ⟨_, _, _, _, _, _, _, _, _, _, _, _, _, _, _, _, _, _, _, _, rfl, hI.s4⟩
    · have hx4 := hI.p4 (hd 4 (by decide))
      subst hx4
      rw [if_pos (by rfl)]
      have hc := hI.x.cf.cell 2 _ K2.out
      go_simp
      exact hK.out _ _ ⟨_, _, _, _, _, _, _, _, _, _, _, _, _, _, _, _, _, _, _, _, rfl, hI.s5⟩
    · have hx3 := hI.p3 (hd 3 (by decide))
      subst hx3
      have hx5 := hI.p5 (hd 5 (by decide))
      subst hx5
      rw [if_pos (by rfl)]
      go_simp
      exact hK.out _ _ ⟨_, _, _, _, _, _, _, _, _, _, _, _, _, _, _, _, _, _, _, _, rfl, hI.s6⟩
    · rw [if_pos (by rfl)]
      go_simp
      exact hK.out _ _ ⟨_, _, _, _, _, _, _, _, _, _, _, _, _, _, _, _, _, _, _, _, rfl, hI.s7⟩
    · have hx7 := hI.p7 (hd 7 (by decide))
      subst hx7
      rw [if_pos (by rfl)]
      have hc := hI.x.cf.cell 3 _ K3.out
      go_simp
      exact hK.out _ _ ⟨_, _, _, _, _, _, _, _, _, _, _, _, _, _, _, _, _, _, _, _, rfl, hI.s8⟩
    · have hx6 := hI.p6 (hd 6 (by decide))
      subst hx6
      have hx8 := hI.p8 (hd 8 (by decide))
      subst hx8
      rw [if_pos (by rfl)]
      go_simp
      exact hK.out _ _ ⟨_, _, _, _, _, _, _, _, _, _, _, _, _, _, _, _, _, _, _, _, rfl, hI.s9⟩
    · have hx9 := hI.p9 (hd 9 (by decide))
      subst hx9
      rw [if_pos (by rfl)]
      go_simp
      exact hK.out _ _ ⟨_, _, _, _, _, _, _, _, _, _, _, _, _, _, _, _, _, _, _, _, rfl, hI.s10⟩
    · refine step_load_part (by rfl) 23 _ rfl w.heap.size 0 23 7 c.vals hI.x.cf rfl _ c.vals HC7.out LC.out Tryz.underlying23 rfl (by kernel_rfl) ?_
      exact hK.out _ _ ⟨_, _, _, _, _, _, _, _, _, _, _, _, _, _, _, _, _, _, _, _, rfl, hI.s11⟩
    · have hx11 := hI.p11 (hd 11 (by decide))
      subst hx11
      rw [if_pos (by rfl)]
      go_simp
      refine (SZ.out _).mono ?_
      rintro e W2 ⟨rfl, hb3⟩
      go_simp
      have hX := hI.x.keep hb3
      exact hK.out _ _ ⟨_, _, _, _, _, _, _, _, _, _, _, _, _, _, _, _, _, _, _, _, rfl, hI.s12 hX⟩
    · rw [if_pos (by rfl)]
      go_simp
      exact hK.out _ _ ⟨_, _, _, _, _, _, _, _, _, _, _, _, _, _, _, _, _, _, _, _, rfl, hI.s13⟩
    · have hx13 := hI.p13 (hd 13 (by decide))
      subst hx13
      rw [if_pos (by rfl)]
      go_simp
      exact hK.out _ _ ⟨_, _, _, _, _, _, _, _, _, _, _, _, _, _, _, _, _, _, _, _, rfl, hI.s14⟩
    · have hx14 := hI.p14 (hd 14 (by decide))
      subst hx14
      have hn17 : L 17 = false := Bool.eq_false_iff.2 (fun e => (by have h7 := hI.c17_15 e; rw [hL] at h7; exact Bool.noConfusion h7))
      have hn18 : L 18 = false := Bool.eq_false_iff.2 (fun e => (by have h7 := hI.c17_15 (hI.c18_17 e); rw [hL] at h7; exact Bool.noConfusion h7))
      refine step_build_stg (by rfl) _ rfl (flS c [] []) rfl rfl ?_
      have k := hI.x.keep (al_below W (.cells (flS c [] []).toArray 91))
      have hX : GB w c rg true (L 16) (L 17) (L 18) (L 19) (.slice (some ⟨W.heap.size, 0, none⟩) 1 1) x21 x22 x23 x4 (W.alloc (.cells (flS c [] []).toArray 91)) := ⟨k.bel, k.cf, fun _ => ⟨_, rfl, hI.x.cf.lt, Row.at _ _ _ _ _ rfl rfl⟩, k.n21, fun e => (by rw [hn17] at e; cases e), fun e => (by rw [hn18] at e; cases e), k.n4⟩
      exact hK.out _ _ ⟨_, _, _, _, _, _, _, _, _, _, _, _, _, _, _, _, _, _, _, _, rfl, hI.s15 hX⟩
    · have hn17 : L 17 = false := Bool.eq_false_iff.2 (fun e => (by have h7 := hI.c17_16 e; rw [hL] at h7; exact Bool.noConfusion h7))
      have hn18 : L 18 = false := Bool.eq_false_iff.2 (fun e => (by have h7 := hI.c17_16 (hI.c18_17 e); rw [hL] at h7; exact Bool.noConfusion h7))
      rw [if_pos (by rfl)]
      go_simp
      have k := hI.x.keep (al_below W (.map #[] 0))
      have hX : GB w c rg (L 15) true (L 17) (L 18) (L 19) x20 (.map (some W.heap.size)) x22 x23 x4 (W.alloc (.map #[] 0)) := ⟨k.bel, k.cf, k.n20, fun _ => ⟨_, rfl, hI.x.cf.lt, MsAt.new W⟩, fun e => (by rw [hn17] at e; cases e), fun e => (by rw [hn18] at e; cases e), k.n4⟩
      exact hK.out _ _ ⟨_, _, _, _, _, _, _, _, _, _, _, _, _, _, _, _, _, _, _, _, rfl, hI.s16 hX⟩
    · have hx0 := hI.p0 (hd 0 (by decide))
      subst hx0
      have hx1 := hI.p1 (hd 1 (by decide))
      subst hx1
      have hx10 := hI.p10 (hd 10 (by decide))
      subst hx10
      have hx12 := hI.p12 (hd 12 (by decide))
      subst hx12
      have hn18 : L 18 = false := Bool.eq_false_iff.2 (fun e => (by have h7 := hI.c18_17 e; rw [hL] at h7; exact Bool.noConfusion h7))
      obtain ⟨so, hx20, _, _⟩ := hI.x.n20 (hd 15 (by decide))
      obtain ⟨nb, hx21, _, _⟩ := hI.x.n21 (hd 16 (by decide))
      subst hx20
      subst hx21
      refine step_build6 (by rfl) 95 (.tmp 5) (.tmp 6) (.tmp 15) (.tmp 17) (.tmp 20) (.tmp 21) rfl _ _ _ _ _ _ _ rfl rfl rfl rfl rfl rfl (BM.out so nb W) ?_
      have k := hI.x
      have hX : GB w c rg (L 15) (L 16) true (L 18) (L 19) (.slice (some ⟨so, 0, none⟩) 1 1) (.map (some nb)) (.agg (mdC c rg (.slice (some ⟨so, 0, none⟩) 1 1) nb).toArray) x23 x4 W := ⟨k.bel, k.cf, k.n20, k.n21, fun _ => ⟨so, nb, rfl, rfl, rfl⟩, k.n23, k.n4⟩
      exact hK.out _ _ ⟨_, _, _, _, _, _, _, _, _, _, _, _, _, _, _, _, _, _, _, _, rfl, hI.s17 hX (hd 15 (by decide)) (hd 16 (by decide))⟩
    · have hn19 : L 19 = false := Bool.eq_false_iff.2 (fun e => (by have h7 := hI.c19_18 e; rw [hL] at h7; exact Bool.noConfusion h7))
      obtain ⟨so, nb, hx20, hx21, hx22⟩ := hI.x.n22 (hd 17 (by decide))
      subst hx20
      subst hx21
      subst hx22
      rw [if_pos (by rfl)]
      go_simp
      have k := hI.x.keep (al_below W (.cells (mdC c rg (.slice (some ⟨so, 0, none⟩) 1 1) nb).toArray 95))
      have hX : GB w c rg (L 15) (L 16) (L 17) true (L 19) (.slice (some ⟨so, 0, none⟩) 1 1) (.map (some nb)) (.agg (mdC c rg (.slice (some ⟨so, 0, none⟩) 1 1) nb).toArray) (.pointer (some ⟨W.heap.size, 0, none⟩)) x4 (W.alloc (.cells (mdC c rg (.slice (some ⟨so, 0, none⟩) 1 1) nb).toArray 95)) := ⟨k.bel, k.cf, k.n20, k.n21, k.n22, fun _ => ⟨so, nb, _, rfl, rfl, rfl, hI.x.cf.lt, Row.at _ _ _ _ _ rfl rfl⟩, fun e => (by rw [hn19] at e; cases e)⟩
      exact hK.out _ _ ⟨_, _, _, _, _, _, _, _, _, _, _, _, _, _, _, _, _, _, _, _, rfl, hI.s18 hX (hd 17 (by decide))⟩
    · rw [if_pos (by rfl)]
      go_simp
      have k := hI.x
      have hX : GB w c rg (L 15) (L 16) (L 17) (L 18) true x20 x21 x22 x23 x23 W := ⟨k.bel, k.cf, k.n20, k.n21, k.n22, k.n23, fun _ => rfl⟩
      exact hK.out _ _ ⟨_, _, _, _, _, _, _, _, _, _, _, _, _, _, _, _, _, _, _, _, rfl, hI.s19 hX (hd 18 (by decide))⟩
  · refine BG1.ends ?_; intro x5 x6 x7 x8 x9 x10 x11 x12 x13 x14 x15 x16 x17 x18 x19 x20 x21 x22 x23 x4 L W hall hI
    have hx0 := hI.p0 (hall 0 (by decide))
    subst hx0
    have hx1 := hI.p1 (hall 1 (by decide))
    subst hx1
    have hx2 := hI.p2 (hall 2 (by decide))
    subst hx2
    have hx3 := hI.p3 (hall 3 (by decide))
    subst hx3
    have hx4 := hI.p4 (hall 4 (by decide))
    subst hx4
    have hx5 := hI.p5 (hall 5 (by decide))
    subst hx5
    have hx6 := hI.p6 (hall 6 (by decide))
    subst hx6
    have hx7 := hI.p7 (hall 7 (by decide))
    subst hx7
    have hx8 := hI.p8 (hall 8 (by decide))
    subst hx8
    have hx9 := hI.p9 (hall 9 (by decide))
    subst hx9
    have hx10 := hI.p10 (hall 10 (by decide))
    subst hx10
    have hx11 := hI.p11 (hall 11 (by decide))
    subst hx11
    have hx12 := hI.p12 (hall 12 (by decide))
    subst hx12
    have hx13 := hI.p13 (hall 13 (by decide))
    subst hx13
    have hx14 := hI.p14 (hall 14 (by decide))
    subst hx14
    have hXe := hI.x
    rw [hall 15 (by decide)] at hXe
    rw [hall 16 (by decide)] at hXe
    rw [hall 17 (by decide)] at hXe
    rw [hall 18 (by decide)] at hXe
    rw [hall 19 (by decide)] at hXe
    clear hI hall
    try dsimp only
    obtain ⟨mg, nb, so, hx, hM, hb⟩ := FIN.out _ _ _ _ _ _ hXe
    subst hx
    go_wp2
    go_ret
    exact ⟨mg, nb, so, rfl, hM, hb⟩
end Go.Proofs.YtpcgkjngpdplmaaGreatDoor
