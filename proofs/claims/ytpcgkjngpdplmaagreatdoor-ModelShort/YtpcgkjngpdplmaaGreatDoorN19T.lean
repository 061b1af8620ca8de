
import Derived.Test.YtpcgkjngpdplmaaGreatDoorN19Aw
/-! The law of layer 19: ModelShort. (Printed by tools/genn19.py.) -/
namespace Go.Proofs.YtpcgkjngpdplmaaGreatDoor
open Go.RowKit
set_option linter.unusedVariables false
set_option linter.unusedSimpArgs false

theorem In19.cut {w : World} {l : Secs} {S : List SP} {A : List AN} {lo : Option Addr} {lc : Nat} {so : Option Addr} {sc : Nat} {no : Option Addr} {nc : Nat} (h : In19 w l S A lo lc so sc no nc) (k : Nat) (h1 : k ≤ S.length) (h2 : k ≤ A.length) : In19 w l (S.take k) (A.take k) lo lc so k no k := by
  have e1 : (S.take k).length = k := by rw [List.length_take]; omega
  have e2 : (A.take k).length = k := by rw [List.length_take]; omega
  refine ⟨h.sec, fun i hi => ?_, fun i hi => ?_, h.lnil, fun e => ?_, fun e => ?_, h.lle, by omega, by omega, by have := h.slen; omega, by have := h.alen; omega, fun o ho => h.blen o (List.mem_of_mem_take ho)⟩
  · have := h.stp i (by omega)
    rw [List.getElem_take]
    exact this
  · have := h.ans i (by omega)
    rw [List.getElem_take]
    exact this
  · have := h.snil e; have := h.sle; omega
  · have := h.nnil e; have := h.nle; omega
theorem In19.none {w : World} {l : Secs} {S : List SP} {A : List AN} {lo : Option Addr} {lc : Nat} {so : Option Addr} {sc : Nat} {no : Option Addr} {nc : Nat} (h : In19 w l S A lo lc so sc no nc) : In19 w l [] [] lo lc none 0 none 0 :=
  ⟨h.sec, fun i hi => absurd hi (by simp), fun i hi => absurd hi (by simp), h.lnil, fun _ => rfl, fun _ => rfl, h.lle, by simp, by simp, by simp, by simp, by simp⟩
theorem step_load_rng19 {ops : Array Oper} {o : Oper} {a : Act} {w : World} {K : Act → World → Prop} {Q : Exit → Act → World → Prop} {X : Prop} (hw : Region.wanted o (yielded ops a.tmps) = true) (ty : TypeId) (x : Operand) (ho : o.op = .load ty x)
    (g off : Nat) (cs : List Value) (hr : w.rangeAt g off cs) (hx : a.eval x = .pointer (some ⟨g, off, none⟩)) (d : TypeDesc) (hu : Tryz.prog.underlying ty = some d) (hd : d.isRow = true) (hi : (Tryz.prog.info? ty).map (·.size) = some cs.length)
    (h : K (a.put o.dst (.agg cs.toArray)) w) : if Region.wanted o (yielded ops a.tmps) = true then Oper.wp Tryz.prog o a w K Q else X := by
  rw [if_pos hw]
  have hl := run_loadVar_mid (P := Tryz.prog) w g off ty cs d hr hu hd hi
  unfold Oper.wp execOp
  simp only [ho, hx, Instr.loadAt, Instr.sureAddr, Sem.run_bind, Sem.run_pure, Result.andThen_ok, hl]
  exact h
theorem sliced19 (so : Option Addr) (k s : Nat) : sliced so 0 k k s = .slice so k k := by
  unfold sliced
  cases so with
  | none => simp
  | some a =>
    simp only [Nat.zero_mul, Nat.sub_zero, Option.map_some]
    split
    · rfl
    · simp [Addr.add]
theorem step_slice19 {ops : Array Oper} {o : Oper} {a : Act} {w : World} {K : Act → World → Prop} {Q : Exit → Act → World → Prop} {X : Prop} (hw : Region.wanted o (yielded ops a.tmps) = true) (ty : TypeId) (x y z : Operand) (ho : o.op = .slice ty x none (some y) (some z))
    (ht : Tryz.prog.underlying ty = some (.slice (Tryz.prog.elem ty))) (so : Option Addr) (n c k : Nat) (hx : a.eval x = .slice so n c) (hy : a.eval y = .int .i64 (k : Int)) (hz : a.eval z = .int .i64 (k : Int)) (hk : k ≤ c) (s : Nat) (hs : (Tryz.prog.info? (Tryz.prog.elem ty)).map (·.size) = some s)
    (h : K (a.put o.dst (.slice so k k)) w) : if Region.wanted o (yielded ops a.tmps) = true then Oper.wp Tryz.prog o a w K Q else X := by
  rw [if_pos hw]
  have h1 := run_slice_hm (P := Tryz.prog) w ty so n c ht .i64 .i64 (k : Int) (k : Int) (by omega) (Int.le_refl _) (by omega)
  obtain ⟨i, hi, _⟩ := Option.map_eq_some_iff.1 hs
  rw [run_sizeOf _ hi] at h1
  simp only [Result.andThen_ok, Int.toNat_natCast, sliced19] at h1
  have h3 := run_sliceAt_slice (P := Tryz.prog) w ty (.slice so n c) none (some (.int .i64 (k : Int))) (some (.int .i64 (k : Int))) ht
  unfold Oper.wp execOp
  simp only [ho, hx, hy, hz, Option.map_some, Option.map_none, Sem.run_bind, Sem.run_pure, Result.andThen_ok, h3, h1]
  exact h
structure SH10 (W1 : World) (wo : World) (lo so no : Option Addr) (ln lc sn sc an nc kk : Nat) (b1 : Bool) (k1 : Nat) (CV : List Value) (gc : Nat) (L : Nat → Bool) (x57 x58 x59 x60 x61 x62 x63 x64 x65 x66 x67 x56 x68 x69 x14 x15 : Value) (W : World) : Prop where
  x : Below wo.heap.size wo W
  p0 : L 0 = true → x57 = .agg CV.toArray
  p1 : L 1 = true → x58 = .slice lo ln lc
  p2 : L 2 = true → x59 = .slice so sn sc
  p3 : L 3 = true → x60 = .int .i64 (kk : Int)
  p4 : L 4 = true → x61 = .int .i64 (kk : Int)
  p5 : L 5 = true → x62 = .slice so (kk) (kk)
  p6 : L 6 = true → x63 = .slice no an nc
  p7 : L 7 = true → x64 = .int .i64 (kk : Int)
  p8 : L 8 = true → x65 = .int .i64 (kk : Int)
  p9 : L 9 = true → x66 = .slice no (kk) (kk)
  p10 : L 10 = true → x67 = .tuple #[.bool b1, .int .i64 (k1 : Int)]
  p11 : L 11 = true → x56 = .tuple #[.bool b1, .int .i64 (k1 : Int)]
  p12 : L 12 = true → x68 = .bool b1
  p13 : L 13 = true → x69 = .int .i64 (k1 : Int)
  p14 : L 14 = true → x14 = .bool b1
  p15 : L 15 = true → x15 = .int .i64 (k1 : Int)
section
variable {W1 : World} {wo : World} {lo so no : Option Addr} {ln lc sn sc an nc kk : Nat} {b1 : Bool} {k1 : Nat} {CV : List Value} {gc : Nat} {L : Nat → Bool} {x57 x58 x59 x60 x61 x62 x63 x64 x65 x66 x67 x56 x68 x69 x14 x15 : Value} {W W2 : World}
theorem SH10.s0 (h : SH10 W1 wo lo so no ln lc sn sc an nc kk b1 k1 CV gc L x57 x58 x59 x60 x61 x62 x63 x64 x65 x66 x67 x56 x68 x69 x14 x15 W) : SH10 W1 wo lo so no ln lc sn sc an nc kk b1 k1 CV gc (upd L 0) (.agg CV.toArray) x58 x59 x60 x61 x62 x63 x64 x65 x66 x67 x56 x68 x69 x14 x15 W :=
  ⟨h.x, fun _ => rfl, h.p1, h.p2, h.p3, h.p4, h.p5, h.p6, h.p7, h.p8, h.p9, h.p10, h.p11, h.p12, h.p13, h.p14, h.p15⟩
theorem SH10.s1 (h : SH10 W1 wo lo so no ln lc sn sc an nc kk b1 k1 CV gc L x57 x58 x59 x60 x61 x62 x63 x64 x65 x66 x67 x56 x68 x69 x14 x15 W) : SH10 W1 wo lo so no ln lc sn sc an nc kk b1 k1 CV gc (upd L 1) x57 (.slice lo ln lc) x59 x60 x61 x62 x63 x64 x65 x66 x67 x56 x68 x69 x14 x15 W :=
  ⟨h.x, h.p0, fun _ => rfl, h.p2, h.p3, h.p4, h.p5, h.p6, h.p7, h.p8, h.p9, h.p10, h.p11, h.p12, h.p13, h.p14, h.p15⟩
theorem SH10.s2 (h : SH10 W1 wo lo so no ln lc sn sc an nc kk b1 k1 CV gc L x57 x58 x59 x60 x61 x62 x63 x64 x65 x66 x67 x56 x68 x69 x14 x15 W) : SH10 W1 wo lo so no ln lc sn sc an nc kk b1 k1 CV gc (upd L 2) x57 x58 (.slice so sn sc) x60 x61 x62 x63 x64 x65 x66 x67 x56 x68 x69 x14 x15 W :=
  ⟨h.x, h.p0, h.p1, fun _ => rfl, h.p3, h.p4, h.p5, h.p6, h.p7, h.p8, h.p9, h.p10, h.p11, h.p12, h.p13, h.p14, h.p15⟩
theorem SH10.s3 (h : SH10 W1 wo lo so no ln lc sn sc an nc kk b1 k1 CV gc L x57 x58 x59 x60 x61 x62 x63 x64 x65 x66 x67 x56 x68 x69 x14 x15 W) : SH10 W1 wo lo so no ln lc sn sc an nc kk b1 k1 CV gc (upd L 3) x57 x58 x59 (.int .i64 (kk : Int)) x61 x62 x63 x64 x65 x66 x67 x56 x68 x69 x14 x15 W :=
  ⟨h.x, h.p0, h.p1, h.p2, fun _ => rfl, h.p4, h.p5, h.p6, h.p7, h.p8, h.p9, h.p10, h.p11, h.p12, h.p13, h.p14, h.p15⟩
theorem SH10.s4 (h : SH10 W1 wo lo so no ln lc sn sc an nc kk b1 k1 CV gc L x57 x58 x59 x60 x61 x62 x63 x64 x65 x66 x67 x56 x68 x69 x14 x15 W) : SH10 W1 wo lo so no ln lc sn sc an nc kk b1 k1 CV gc (upd L 4) x57 x58 x59 x60 (.int .i64 (kk : Int)) x62 x63 x64 x65 x66 x67 x56 x68 x69 x14 x15 W :=
  ⟨h.x, h.p0, h.p1, h.p2, h.p3, fun _ => rfl, h.p5, h.p6, h.p7, h.p8, h.p9, h.p10, h.p11, h.p12, h.p13, h.p14, h.p15⟩
theorem SH10.s5 (h : SH10 W1 wo lo so no ln lc sn sc an nc kk b1 k1 CV gc L x57 x58 x59 x60 x61 x62 x63 x64 x65 x66 x67 x56 x68 x69 x14 x15 W) : SH10 W1 wo lo so no ln lc sn sc an nc kk b1 k1 CV gc (upd L 5) x57 x58 x59 x60 x61 (.slice so (kk) (kk)) x63 x64 x65 x66 x67 x56 x68 x69 x14 x15 W :=
  ⟨h.x, h.p0, h.p1, h.p2, h.p3, h.p4, fun _ => rfl, h.p6, h.p7, h.p8, h.p9, h.p10, h.p11, h.p12, h.p13, h.p14, h.p15⟩
theorem SH10.s6 (h : SH10 W1 wo lo so no ln lc sn sc an nc kk b1 k1 CV gc L x57 x58 x59 x60 x61 x62 x63 x64 x65 x66 x67 x56 x68 x69 x14 x15 W) : SH10 W1 wo lo so no ln lc sn sc an nc kk b1 k1 CV gc (upd L 6) x57 x58 x59 x60 x61 x62 (.slice no an nc) x64 x65 x66 x67 x56 x68 x69 x14 x15 W :=
  ⟨h.x, h.p0, h.p1, h.p2, h.p3, h.p4, h.p5, fun _ => rfl, h.p7, h.p8, h.p9, h.p10, h.p11, h.p12, h.p13, h.p14, h.p15⟩
theorem SH10.s7 (h : SH10 W1 wo lo so no ln lc sn sc an nc kk b1 k1 CV gc L x57 x58 x59 x60 x61 x62 x63 x64 x65 x66 x67 x56 x68 x69 x14 x15 W) : SH10 W1 wo lo so no ln lc sn sc an nc kk b1 k1 CV gc (upd L 7) x57 x58 x59 x60 x61 x62 x63 (.int .i64 (kk : Int)) x65 x66 x67 x56 x68 x69 x14 x15 W :=
  ⟨h.x, h.p0, h.p1, h.p2, h.p3, h.p4, h.p5, h.p6, fun _ => rfl, h.p8, h.p9, h.p10, h.p11, h.p12, h.p13, h.p14, h.p15⟩
theorem SH10.s8 (h : SH10 W1 wo lo so no ln lc sn sc an nc kk b1 k1 CV gc L x57 x58 x59 x60 x61 x62 x63 x64 x65 x66 x67 x56 x68 x69 x14 x15 W) : SH10 W1 wo lo so no ln lc sn sc an nc kk b1 k1 CV gc (upd L 8) x57 x58 x59 x60 x61 x62 x63 x64 (.int .i64 (kk : Int)) x66 x67 x56 x68 x69 x14 x15 W :=
  ⟨h.x, h.p0, h.p1, h.p2, h.p3, h.p4, h.p5, h.p6, h.p7, fun _ => rfl, h.p9, h.p10, h.p11, h.p12, h.p13, h.p14, h.p15⟩
theorem SH10.s9 (h : SH10 W1 wo lo so no ln lc sn sc an nc kk b1 k1 CV gc L x57 x58 x59 x60 x61 x62 x63 x64 x65 x66 x67 x56 x68 x69 x14 x15 W) : SH10 W1 wo lo so no ln lc sn sc an nc kk b1 k1 CV gc (upd L 9) x57 x58 x59 x60 x61 x62 x63 x64 x65 (.slice no (kk) (kk)) x67 x56 x68 x69 x14 x15 W :=
  ⟨h.x, h.p0, h.p1, h.p2, h.p3, h.p4, h.p5, h.p6, h.p7, h.p8, fun _ => rfl, h.p10, h.p11, h.p12, h.p13, h.p14, h.p15⟩
theorem SH10.s10 (h : SH10 W1 wo lo so no ln lc sn sc an nc kk b1 k1 CV gc L x57 x58 x59 x60 x61 x62 x63 x64 x65 x66 x67 x56 x68 x69 x14 x15 W) (hX : Below wo.heap.size wo W2) : SH10 W1 wo lo so no ln lc sn sc an nc kk b1 k1 CV gc (upd L 10) x57 x58 x59 x60 x61 x62 x63 x64 x65 x66 (.tuple #[.bool b1, .int .i64 (k1 : Int)]) x56 x68 x69 x14 x15 W2 :=
  ⟨hX, h.p0, h.p1, h.p2, h.p3, h.p4, h.p5, h.p6, h.p7, h.p8, h.p9, fun _ => rfl, h.p11, h.p12, h.p13, h.p14, h.p15⟩
theorem SH10.s11 (h : SH10 W1 wo lo so no ln lc sn sc an nc kk b1 k1 CV gc L x57 x58 x59 x60 x61 x62 x63 x64 x65 x66 x67 x56 x68 x69 x14 x15 W) : SH10 W1 wo lo so no ln lc sn sc an nc kk b1 k1 CV gc (upd L 11) x57 x58 x59 x60 x61 x62 x63 x64 x65 x66 x67 (.tuple #[.bool b1, .int .i64 (k1 : Int)]) x68 x69 x14 x15 W :=
  ⟨h.x, h.p0, h.p1, h.p2, h.p3, h.p4, h.p5, h.p6, h.p7, h.p8, h.p9, h.p10, fun _ => rfl, h.p12, h.p13, h.p14, h.p15⟩
theorem SH10.s12 (h : SH10 W1 wo lo so no ln lc sn sc an nc kk b1 k1 CV gc L x57 x58 x59 x60 x61 x62 x63 x64 x65 x66 x67 x56 x68 x69 x14 x15 W) : SH10 W1 wo lo so no ln lc sn sc an nc kk b1 k1 CV gc (upd L 12) x57 x58 x59 x60 x61 x62 x63 x64 x65 x66 x67 x56 (.bool b1) x69 x14 x15 W :=
  ⟨h.x, h.p0, h.p1, h.p2, h.p3, h.p4, h.p5, h.p6, h.p7, h.p8, h.p9, h.p10, h.p11, fun _ => rfl, h.p13, h.p14, h.p15⟩
theorem SH10.s13 (h : SH10 W1 wo lo so no ln lc sn sc an nc kk b1 k1 CV gc L x57 x58 x59 x60 x61 x62 x63 x64 x65 x66 x67 x56 x68 x69 x14 x15 W) : SH10 W1 wo lo so no ln lc sn sc an nc kk b1 k1 CV gc (upd L 13) x57 x58 x59 x60 x61 x62 x63 x64 x65 x66 x67 x56 x68 (.int .i64 (k1 : Int)) x14 x15 W :=
  ⟨h.x, h.p0, h.p1, h.p2, h.p3, h.p4, h.p5, h.p6, h.p7, h.p8, h.p9, h.p10, h.p11, h.p12, fun _ => rfl, h.p14, h.p15⟩
theorem SH10.s14 (h : SH10 W1 wo lo so no ln lc sn sc an nc kk b1 k1 CV gc L x57 x58 x59 x60 x61 x62 x63 x64 x65 x66 x67 x56 x68 x69 x14 x15 W) : SH10 W1 wo lo so no ln lc sn sc an nc kk b1 k1 CV gc (upd L 14) x57 x58 x59 x60 x61 x62 x63 x64 x65 x66 x67 x56 x68 x69 (.bool b1) x15 W :=
  ⟨h.x, h.p0, h.p1, h.p2, h.p3, h.p4, h.p5, h.p6, h.p7, h.p8, h.p9, h.p10, h.p11, h.p12, h.p13, fun _ => rfl, h.p15⟩
theorem SH10.s15 (h : SH10 W1 wo lo so no ln lc sn sc an nc kk b1 k1 CV gc L x57 x58 x59 x60 x61 x62 x63 x64 x65 x66 x67 x56 x68 x69 x14 x15 W) : SH10 W1 wo lo so no ln lc sn sc an nc kk b1 k1 CV gc (upd L 15) x57 x58 x59 x60 x61 x62 x63 x64 x65 x66 x67 x56 x68 x69 x14 (.int .i64 (k1 : Int)) W :=
  ⟨h.x, h.p0, h.p1, h.p2, h.p3, h.p4, h.p5, h.p6, h.p7, h.p8, h.p9, h.p10, h.p11, h.p12, h.p13, h.p14, fun _ => rfl⟩
end
@[reducible] def ISH10 (W1 : World) (wo : World) (lo so no : Option Addr) (ln lc sn sc an nc kk : Nat) (b1 : Bool) (k1 : Nat) (CV : List Value) (gc : Nat) (y0 y1 y2 y3 y4 y5 y6 y7 y8 y9 y10 y11 y12 y13 y16 y17 y18 y19 y20 y21 y22 y23 y24 y25 y26 y27 y28 y29 y30 y31 y32 y33 y34 y35 y36 y37 y38 y39 y40 y41 y42 y43 y44 y45 y46 y47 y48 y49 y50 y51 y52 y53 y54 y55 y70 y71 y72 y73 y74 y75 y76 y77 y78 y79 y80 y81 y82 y83 y84 y85 y86 y87 y88 y89 y90 y91 y92 y93 y94 y95 y96 y97 y98 y99 y100 y101 y102 y103 y104 y105 y106 y107 y108 y109 y110 y111 y112 y113 y114 y115 y116 y117 y118 y119 y120 y121 y122 y123 y124 y125 y126 y127 y128 y129 y130 y131 y132 y133 y134 y135 y136 y137 y138 y139 : Value) : (Nat → Bool) → Act → World → Prop := fun L a W => ∃ x57 x58 x59 x60 x61 x62 x63 x64 x65 x66 x67 x56 x68 x69 x14 x15, a = ⟨#[y0, y1, y2, y3, y4, y5, y6, y7, y8, y9, y10, y11, y12, y13, x14, x15, y16, y17, y18, y19, y20, y21, y22, y23, y24, y25, y26, y27, y28, y29, y30, y31, y32, y33, y34, y35, y36, y37, y38, y39, y40, y41, y42, y43, y44, y45, y46, y47, y48, y49, y50, y51, y52, y53, y54, y55, x56, x57, x58, x59, x60, x61, x62, x63, x64, x65, x66, x67, x68, x69, y70, y71, y72, y73, y74, y75, y76, y77, y78, y79, y80, y81, y82, y83, y84, y85, y86, y87, y88, y89, y90, y91, y92, y93, y94, y95, y96, y97, y98, y99, y100, y101, y102, y103, y104, y105, y106, y107, y108, y109, y110, y111, y112, y113, y114, y115, y116, y117, y118, y119, y120, y121, y122, y123, y124, y125, y126, y127, y128, y129, y130, y131, y132, y133, y134, y135, y136, y137, y138, y139], []⟩ ∧ SH10 W1 wo lo so no ln lc sn sc an nc kk b1 k1 CV gc L x57 x58 x59 x60 x61 x62 x63 x64 x65 x66 x67 x56 x68 x69 x14 x15 W
theorem SH10.step {W1 : World} {wo : World} {lo so no : Option Addr} {ln lc sn sc an nc kk : Nat} {b1 : Bool} {k1 : Nat} {CV : List Value} {gc : Nat} {y0 y1 y2 y3 y4 y5 y6 y7 y8 y9 y10 y11 y12 y13 y16 y17 y18 y19 y20 y21 y22 y23 y24 y25 y26 y27 y28 y29 y30 y31 y32 y33 y34 y35 y36 y37 y38 y39 y40 y41 y42 y43 y44 y45 y46 y47 y48 y49 y50 y51 y52 y53 y54 y55 y70 y71 y72 y73 y74 y75 y76 y77 y78 y79 y80 y81 y82 y83 y84 y85 y86 y87 y88 y89 y90 y91 y92 y93 y94 y95 y96 y97 y98 y99 y100 y101 y102 y103 y104 y105 y106 y107 y108 y109 y110 y111 y112 y113 y114 y115 y116 y117 y118 y119 y120 y121 y122 y123 y124 y125 y126 y127 y128 y129 y130 y131 y132 y133 y134 y135 y136 y137 y138 y139 : Value} {P : Program} {ops : Array Oper} {Q : Exit → Act → World → Prop} {i : Nat} {o : Oper} (hq : ∀ x57 x58 x59 x60 x61 x62 x63 x64 x65 x66 x67 x56 x68 x69 x14 x15 (L : Nat → Bool) (W : World), SH10 W1 wo lo so no ln lc sn sc an nc kk b1 k1 CV gc L x57 x58 x59 x60 x61 x62 x63 x64 x65 x66 x67 x56 x68 x69 x14 x15 W → L i = false → (∀ j ∈ onesOf o, L j = true) → ∀ K : Act → World → Prop, Shut (∀ a' w', ISH10 W1 wo lo so no ln lc sn sc an nc kk b1 k1 CV gc y0 y1 y2 y3 y4 y5 y6 y7 y8 y9 y10 y11 y12 y13 y16 y17 y18 y19 y20 y21 y22 y23 y24 y25 y26 y27 y28 y29 y30 y31 y32 y33 y34 y35 y36 y37 y38 y39 y40 y41 y42 y43 y44 y45 y46 y47 y48 y49 y50 y51 y52 y53 y54 y55 y70 y71 y72 y73 y74 y75 y76 y77 y78 y79 y80 y81 y82 y83 y84 y85 y86 y87 y88 y89 y90 y91 y92 y93 y94 y95 y96 y97 y98 y99 y100 y101 y102 y103 y104 y105 y106 y107 y108 y109 y110 y111 y112 y113 y114 y115 y116 y117 y118 y119 y120 y121 y122 y123 y124 y125 y126 y127 y128 y129 y130 y131 y132 y133 y134 y135 y136 y137 y138 y139 (upd L i) a' w' → K a' w') → if Region.wanted o (yielded ops (⟨#[y0, y1, y2, y3, y4, y5, y6, y7, y8, y9, y10, y11, y12, y13, x14, x15, y16, y17, y18, y19, y20, y21, y22, y23, y24, y25, y26, y27, y28, y29, y30, y31, y32, y33, y34, y35, y36, y37, y38, y39, y40, y41, y42, y43, y44, y45, y46, y47, y48, y49, y50, y51, y52, y53, y54, y55, x56, x57, x58, x59, x60, x61, x62, x63, x64, x65, x66, x67, x68, x69, y70, y71, y72, y73, y74, y75, y76, y77, y78, y79, y80, y81, y82, y83, y84, y85, y86, y87, y88, y89, y90, y91, y92, y93, y94, y95, y96, y97, y98, y99, y100, y101, y102, y103, y104, y105, y106, y107, y108, y109, y110, y111, y112, y113, y114, y115, y116, y117, y118, y119, y120, y121, y122, y123, y124, y125, y126, y127, y128, y129, y130, y131, y132, y133, y134, y135, y136, y137, y138, y139], []⟩ : Act).tmps) = true then Oper.wp P o ⟨#[y0, y1, y2, y3, y4, y5, y6, y7, y8, y9, y10, y11, y12, y13, x14, x15, y16, y17, y18, y19, y20, y21, y22, y23, y24, y25, y26, y27, y28, y29, y30, y31, y32, y33, y34, y35, y36, y37, y38, y39, y40, y41, y42, y43, y44, y45, y46, y47, y48, y49, y50, y51, y52, y53, y54, y55, x56, x57, x58, x59, x60, x61, x62, x63, x64, x65, x66, x67, x68, x69, y70, y71, y72, y73, y74, y75, y76, y77, y78, y79, y80, y81, y82, y83, y84, y85, y86, y87, y88, y89, y90, y91, y92, y93, y94, y95, y96, y97, y98, y99, y100, y101, y102, y103, y104, y105, y106, y107, y108, y109, y110, y111, y112, y113, y114, y115, y116, y117, y118, y119, y120, y121, y122, y123, y124, y125, y126, y127, y128, y129, y130, y131, y132, y133, y134, y135, y136, y137, y138, y139], []⟩ W K Q else K ((⟨#[y0, y1, y2, y3, y4, y5, y6, y7, y8, y9, y10, y11, y12, y13, x14, x15, y16, y17, y18, y19, y20, y21, y22, y23, y24, y25, y26, y27, y28, y29, y30, y31, y32, y33, y34, y35, y36, y37, y38, y39, y40, y41, y42, y43, y44, y45, y46, y47, y48, y49, y50, y51, y52, y53, y54, y55, x56, x57, x58, x59, x60, x61, x62, x63, x64, x65, x66, x67, x68, x69, y70, y71, y72, y73, y74, y75, y76, y77, y78, y79, y80, y81, y82, y83, y84, y85, y86, y87, y88, y89, y90, y91, y92, y93, y94, y95, y96, y97, y98, y99, y100, y101, y102, y103, y104, y105, y106, y107, y108, y109, y110, y111, y112, y113, y114, y115, y116, y117, y118, y119, y120, y121, y122, y123, y124, y125, y126, y127, y128, y129, y130, y131, y132, y133, y134, y135, y136, y137, y138, y139], []⟩ : Act).put o.dst undef) W) : StepI P ops (ISH10 W1 wo lo so no ln lc sn sc an nc kk b1 k1 CV gc y0 y1 y2 y3 y4 y5 y6 y7 y8 y9 y10 y11 y12 y13 y16 y17 y18 y19 y20 y21 y22 y23 y24 y25 y26 y27 y28 y29 y30 y31 y32 y33 y34 y35 y36 y37 y38 y39 y40 y41 y42 y43 y44 y45 y46 y47 y48 y49 y50 y51 y52 y53 y54 y55 y70 y71 y72 y73 y74 y75 y76 y77 y78 y79 y80 y81 y82 y83 y84 y85 y86 y87 y88 y89 y90 y91 y92 y93 y94 y95 y96 y97 y98 y99 y100 y101 y102 y103 y104 y105 y106 y107 y108 y109 y110 y111 y112 y113 y114 y115 y116 y117 y118 y119 y120 y121 y122 y123 y124 y125 y126 y127 y128 y129 y130 y131 y132 y133 y134 y135 y136 y137 y138 y139) Q i o := by
  rintro L a W ⟨x57, x58, x59, x60, x61, x62, x63, x64, x65, x66, x67, x56, x68, x69, x14, x15, rfl, h⟩
  exact hq _ _ _ _ _ _ _ _ _ _ _ _ _ _ _ _ _ _ h
theorem SH10.ends {W1 : World} {wo : World} {lo so no : Option Addr} {ln lc sn sc an nc kk : Nat} {b1 : Bool} {k1 : Nat} {CV : List Value} {gc : Nat} {y0 y1 y2 y3 y4 y5 y6 y7 y8 y9 y10 y11 y12 y13 y16 y17 y18 y19 y20 y21 y22 y23 y24 y25 y26 y27 y28 y29 y30 y31 y32 y33 y34 y35 y36 y37 y38 y39 y40 y41 y42 y43 y44 y45 y46 y47 y48 y49 y50 y51 y52 y53 y54 y55 y70 y71 y72 y73 y74 y75 y76 y77 y78 y79 y80 y81 y82 y83 y84 y85 y86 y87 y88 y89 y90 y91 y92 y93 y94 y95 y96 y97 y98 y99 y100 y101 y102 y103 y104 y105 y106 y107 y108 y109 y110 y111 y112 y113 y114 y115 y116 y117 y118 y119 y120 y121 y122 y123 y124 y125 y126 y127 y128 y129 y130 y131 y132 y133 y134 y135 y136 y137 y138 y139 : Value} {mm_ : Nat} {Q : Exit → Act → World → Prop} (hq : ∀ x57 x58 x59 x60 x61 x62 x63 x64 x65 x66 x67 x56 x68 x69 x14 x15 (L : Nat → Bool) (W : World), (∀ j, j < mm_ → L j = true) → SH10 W1 wo lo so no ln lc sn sc an nc kk b1 k1 CV gc L x57 x58 x59 x60 x61 x62 x63 x64 x65 x66 x67 x56 x68 x69 x14 x15 W → Q .normal ⟨#[y0, y1, y2, y3, y4, y5, y6, y7, y8, y9, y10, y11, y12, y13, x14, x15, y16, y17, y18, y19, y20, y21, y22, y23, y24, y25, y26, y27, y28, y29, y30, y31, y32, y33, y34, y35, y36, y37, y38, y39, y40, y41, y42, y43, y44, y45, y46, y47, y48, y49, y50, y51, y52, y53, y54, y55, x56, x57, x58, x59, x60, x61, x62, x63, x64, x65, x66, x67, x68, x69, y70, y71, y72, y73, y74, y75, y76, y77, y78, y79, y80, y81, y82, y83, y84, y85, y86, y87, y88, y89, y90, y91, y92, y93, y94, y95, y96, y97, y98, y99, y100, y101, y102, y103, y104, y105, y106, y107, y108, y109, y110, y111, y112, y113, y114, y115, y116, y117, y118, y119, y120, y121, y122, y123, y124, y125, y126, y127, y128, y129, y130, y131, y132, y133, y134, y135, y136, y137, y138, y139], []⟩ W) : ∀ L a' w', (∀ j, j < mm_ → L j = true) → ISH10 W1 wo lo so no ln lc sn sc an nc kk b1 k1 CV gc y0 y1 y2 y3 y4 y5 y6 y7 y8 y9 y10 y11 y12 y13 y16 y17 y18 y19 y20 y21 y22 y23 y24 y25 y26 y27 y28 y29 y30 y31 y32 y33 y34 y35 y36 y37 y38 y39 y40 y41 y42 y43 y44 y45 y46 y47 y48 y49 y50 y51 y52 y53 y54 y55 y70 y71 y72 y73 y74 y75 y76 y77 y78 y79 y80 y81 y82 y83 y84 y85 y86 y87 y88 y89 y90 y91 y92 y93 y94 y95 y96 y97 y98 y99 y100 y101 y102 y103 y104 y105 y106 y107 y108 y109 y110 y111 y112 y113 y114 y115 y116 y117 y118 y119 y120 y121 y122 y123 y124 y125 y126 y127 y128 y129 y130 y131 y132 y133 y134 y135 y136 y137 y138 y139 L a' w' → Q .normal a' w' := by
  rintro L a W hall ⟨x57, x58, x59, x60, x61, x62, x63, x64, x65, x66, x67, x56, x68, x69, x14, x15, rfl, h⟩
  exact hq _ _ _ _ _ _ _ _ _ _ _ _ _ _ _ _ _ _ hall h
structure SH17 (W1 : World) (wo : World) (lo so no : Option Addr) (ln lc sn sc an nc kk : Nat) (b1 : Bool) (k1 : Nat) (CV : List Value) (gc : Nat) (L : Nat → Bool) (x99 x100 x101 x102 x103 x104 x105 x106 x107 x108 x109 x98 x110 x111 x18 x19 : Value) (W : World) : Prop where
  x : Below wo.heap.size wo W
  p0 : L 0 = true → x99 = .agg CV.toArray
  p1 : L 1 = true → x100 = .slice lo ln lc
  p2 : L 2 = true → x101 = .slice so sn sc
  p3 : L 3 = true → x102 = .int .i64 (kk : Int)
  p4 : L 4 = true → x103 = .int .i64 (kk : Int)
  p5 : L 5 = true → x104 = .slice so (kk) (kk)
  p6 : L 6 = true → x105 = .slice no an nc
  p7 : L 7 = true → x106 = .int .i64 (kk : Int)
  p8 : L 8 = true → x107 = .int .i64 (kk : Int)
  p9 : L 9 = true → x108 = .slice no (kk) (kk)
  p10 : L 10 = true → x109 = .tuple #[.bool b1, .int .i64 (k1 : Int)]
  p11 : L 11 = true → x98 = .tuple #[.bool b1, .int .i64 (k1 : Int)]
  p12 : L 12 = true → x110 = .bool b1
  p13 : L 13 = true → x111 = .int .i64 (k1 : Int)
  p14 : L 14 = true → x18 = .bool b1
  p15 : L 15 = true → x19 = .int .i64 (k1 : Int)
section
variable {W1 : World} {wo : World} {lo so no : Option Addr} {ln lc sn sc an nc kk : Nat} {b1 : Bool} {k1 : Nat} {CV : List Value} {gc : Nat} {L : Nat → Bool} {x99 x100 x101 x102 x103 x104 x105 x106 x107 x108 x109 x98 x110 x111 x18 x19 : Value} {W W2 : World}
theorem SH17.s0 (h : SH17 W1 wo lo so no ln lc sn sc an nc kk b1 k1 CV gc L x99 x100 x101 x102 x103 x104 x105 x106 x107 x108 x109 x98 x110 x111 x18 x19 W) : SH17 W1 wo lo so no ln lc sn sc an nc kk b1 k1 CV gc (upd L 0) (.agg CV.toArray) x100 x101 x102 x103 x104 x105 x106 x107 x108 x109 x98 x110 x111 x18 x19 W :=
  ⟨h.x, fun _ => rfl, h.p1, h.p2, h.p3, h.p4, h.p5, h.p6, h.p7, h.p8, h.p9, h.p10, h.p11, h.p12, h.p13, h.p14, h.p15⟩
theorem SH17.s1 (h : SH17 W1 wo lo so no ln lc sn sc an nc kk b1 k1 CV gc L x99 x100 x101 x102 x103 x104 x105 x106 x107 x108 x109 x98 x110 x111 x18 x19 W) : SH17 W1 wo lo so no ln lc sn sc an nc kk b1 k1 CV gc (upd L 1) x99 (.slice lo ln lc) x101 x102 x103 x104 x105 x106 x107 x108 x109 x98 x110 x111 x18 x19 W :=
  ⟨h.x, h.p0, fun _ => rfl, h.p2, h.p3, h.p4, h.p5, h.p6, h.p7, h.p8, h.p9, h.p10, h.p11, h.p12, h.p13, h.p14, h.p15⟩
theorem SH17.s2 (h : SH17 W1 wo lo so no ln lc sn sc an nc kk b1 k1 CV gc L x99 x100 x101 x102 x103 x104 x105 x106 x107 x108 x109 x98 x110 x111 x18 x19 W) : SH17 W1 wo lo so no ln lc sn sc an nc kk b1 k1 CV gc (upd L 2) x99 x100 (.slice so sn sc) x102 x103 x104 x105 x106 x107 x108 x109 x98 x110 x111 x18 x19 W :=
  ⟨h.x, h.p0, h.p1, fun _ => rfl, h.p3, h.p4, h.p5, h.p6, h.p7, h.p8, h.p9, h.p10, h.p11, h.p12, h.p13, h.p14, h.p15⟩
theorem SH17.s3 (h : SH17 W1 wo lo so no ln lc sn sc an nc kk b1 k1 CV gc L x99 x100 x101 x102 x103 x104 x105 x106 x107 x108 x109 x98 x110 x111 x18 x19 W) : SH17 W1 wo lo so no ln lc sn sc an nc kk b1 k1 CV gc (upd L 3) x99 x100 x101 (.int .i64 (kk : Int)) x103 x104 x105 x106 x107 x108 x109 x98 x110 x111 x18 x19 W :=
  ⟨h.x, h.p0, h.p1, h.p2, fun _ => rfl, h.p4, h.p5, h.p6, h.p7, h.p8, h.p9, h.p10, h.p11, h.p12, h.p13, h.p14, h.p15⟩
theorem SH17.s4 (h : SH17 W1 wo lo so no ln lc sn sc an nc kk b1 k1 CV gc L x99 x100 x101 x102 x103 x104 x105 x106 x107 x108 x109 x98 x110 x111 x18 x19 W) : SH17 W1 wo lo so no ln lc sn sc an nc kk b1 k1 CV gc (upd L 4) x99 x100 x101 x102 (.int .i64 (kk : Int)) x104 x105 x106 x107 x108 x109 x98 x110 x111 x18 x19 W :=
  ⟨h.x, h.p0, h.p1, h.p2, h.p3, fun _ => rfl, h.p5, h.p6, h.p7, h.p8, h.p9, h.p10, h.p11, h.p12, h.p13, h.p14, h.p15⟩
theorem SH17.s5 (h : SH17 W1 wo lo so no ln lc sn sc an nc kk b1 k1 CV gc L x99 x100 x101 x102 x103 x104 x105 x106 x107 x108 x109 x98 x110 x111 x18 x19 W) : SH17 W1 wo lo so no ln lc sn sc an nc kk b1 k1 CV gc (upd L 5) x99 x100 x101 x102 x103 (.slice so (kk) (kk)) x105 x106 x107 x108 x109 x98 x110 x111 x18 x19 W :=
  ⟨h.x, h.p0, h.p1, h.p2, h.p3, h.p4, fun _ => rfl, h.p6, h.p7, h.p8, h.p9, h.p10, h.p11, h.p12, h.p13, h.p14, h.p15⟩
theorem SH17.s6 (h : SH17 W1 wo lo so no ln lc sn sc an nc kk b1 k1 CV gc L x99 x100 x101 x102 x103 x104 x105 x106 x107 x108 x109 x98 x110 x111 x18 x19 W) : SH17 W1 wo lo so no ln lc sn sc an nc kk b1 k1 CV gc (upd L 6) x99 x100 x101 x102 x103 x104 (.slice no an nc) x106 x107 x108 x109 x98 x110 x111 x18 x19 W :=
  ⟨h.x, h.p0, h.p1, h.p2, h.p3, h.p4, h.p5, fun _ => rfl, h.p7, h.p8, h.p9, h.p10, h.p11, h.p12, h.p13, h.p14, h.p15⟩
theorem SH17.s7 (h : SH17 W1 wo lo so no ln lc sn sc an nc kk b1 k1 CV gc L x99 x100 x101 x102 x103 x104 x105 x106 x107 x108 x109 x98 x110 x111 x18 x19 W) : SH17 W1 wo lo so no ln lc sn sc an nc kk b1 k1 CV gc (upd L 7) x99 x100 x101 x102 x103 x104 x105 (.int .i64 (kk : Int)) x107 x108 x109 x98 x110 x111 x18 x19 W :=
  ⟨h.x, h.p0, h.p1, h.p2, h.p3, h.p4, h.p5, h.p6, fun _ => rfl, h.p8, h.p9, h.p10, h.p11, h.p12, h.p13, h.p14, h.p15⟩
theorem SH17.s8 (h : SH17 W1 wo lo so no ln lc sn sc an nc kk b1 k1 CV gc L x99 x100 x101 x102 x103 x104 x105 x106 x107 x108 x109 x98 x110 x111 x18 x19 W) : SH17 W1 wo lo so no ln lc sn sc an nc kk b1 k1 CV gc (upd L 8) x99 x100 x101 x102 x103 x104 x105 x106 (.int .i64 (kk : Int)) x108 x109 x98 x110 x111 x18 x19 W :=
  ⟨h.x, h.p0, h.p1, h.p2, h.p3, h.p4, h.p5, h.p6, h.p7, fun _ => rfl, h.p9, h.p10, h.p11, h.p12, h.p13, h.p14, h.p15⟩
theorem SH17.s9 (h : SH17 W1 wo lo so no ln lc sn sc an nc kk b1 k1 CV gc L x99 x100 x101 x102 x103 x104 x105 x106 x107 x108 x109 x98 x110 x111 x18 x19 W) : SH17 W1 wo lo so no ln lc sn sc an nc kk b1 k1 CV gc (upd L 9) x99 x100 x101 x102 x103 x104 x105 x106 x107 (.slice no (kk) (kk)) x109 x98 x110 x111 x18 x19 W :=
  ⟨h.x, h.p0, h.p1, h.p2, h.p3, h.p4, h.p5, h.p6, h.p7, h.p8, fun _ => rfl, h.p10, h.p11, h.p12, h.p13, h.p14, h.p15⟩
theorem SH17.s10 (h : SH17 W1 wo lo so no ln lc sn sc an nc kk b1 k1 CV gc L x99 x100 x101 x102 x103 x104 x105 x106 x107 x108 x109 x98 x110 x111 x18 x19 W) (hX : Below wo.heap.size wo W2) : SH17 W1 wo lo so no ln lc sn sc an nc kk b1 k1 CV gc (upd L 10) x99 x100 x101 x102 x103 x104 x105 x106 x107 x108 (.tuple #[.bool b1, .int .i64 (k1 : Int)]) x98 x110 x111 x18 x19 W2 :=
  ⟨hX, h.p0, h.p1, h.p2, h.p3, h.p4, h.p5, h.p6, h.p7, h.p8, h.p9, fun _ => rfl, h.p11, h.p12, h.p13, h.p14, h.p15⟩
theorem SH17.s11 (h : SH17 W1 wo lo so no ln lc sn sc an nc kk b1 k1 CV gc L x99 x100 x101 x102 x103 x104 x105 x106 x107 x108 x109 x98 x110 x111 x18 x19 W) : SH17 W1 wo lo so no ln lc sn sc an nc kk b1 k1 CV gc (upd L 11) x99 x100 x101 x102 x103 x104 x105 x106 x107 x108 x109 (.tuple #[.bool b1, .int .i64 (k1 : Int)]) x110 x111 x18 x19 W :=
  ⟨h.x, h.p0, h.p1, h.p2, h.p3, h.p4, h.p5, h.p6, h.p7, h.p8, h.p9, h.p10, fun _ => rfl, h.p12, h.p13, h.p14, h.p15⟩
theorem SH17.s12 (h : SH17 W1 wo lo so no ln lc sn sc an nc kk b1 k1 CV gc L x99 x100 x101 x102 x103 x104 x105 x106 x107 x108 x109 x98 x110 x111 x18 x19 W) : SH17 W1 wo lo so no ln lc sn sc an nc kk b1 k1 CV gc (upd L 12) x99 x100 x101 x102 x103 x104 x105 x106 x107 x108 x109 x98 (.bool b1) x111 x18 x19 W :=
  ⟨h.x, h.p0, h.p1, h.p2, h.p3, h.p4, h.p5, h.p6, h.p7, h.p8, h.p9, h.p10, h.p11, fun _ => rfl, h.p13, h.p14, h.p15⟩
theorem SH17.s13 (h : SH17 W1 wo lo so no ln lc sn sc an nc kk b1 k1 CV gc L x99 x100 x101 x102 x103 x104 x105 x106 x107 x108 x109 x98 x110 x111 x18 x19 W) : SH17 W1 wo lo so no ln lc sn sc an nc kk b1 k1 CV gc (upd L 13) x99 x100 x101 x102 x103 x104 x105 x106 x107 x108 x109 x98 x110 (.int .i64 (k1 : Int)) x18 x19 W :=
  ⟨h.x, h.p0, h.p1, h.p2, h.p3, h.p4, h.p5, h.p6, h.p7, h.p8, h.p9, h.p10, h.p11, h.p12, fun _ => rfl, h.p14, h.p15⟩
theorem SH17.s14 (h : SH17 W1 wo lo so no ln lc sn sc an nc kk b1 k1 CV gc L x99 x100 x101 x102 x103 x104 x105 x106 x107 x108 x109 x98 x110 x111 x18 x19 W) : SH17 W1 wo lo so no ln lc sn sc an nc kk b1 k1 CV gc (upd L 14) x99 x100 x101 x102 x103 x104 x105 x106 x107 x108 x109 x98 x110 x111 (.bool b1) x19 W :=
  ⟨h.x, h.p0, h.p1, h.p2, h.p3, h.p4, h.p5, h.p6, h.p7, h.p8, h.p9, h.p10, h.p11, h.p12, h.p13, fun _ => rfl, h.p15⟩
theorem SH17.s15 (h : SH17 W1 wo lo so no ln lc sn sc an nc kk b1 k1 CV gc L x99 x100 x101 x102 x103 x104 x105 x106 x107 x108 x109 x98 x110 x111 x18 x19 W) : SH17 W1 wo lo so no ln lc sn sc an nc kk b1 k1 CV gc (upd L 15) x99 x100 x101 x102 x103 x104 x105 x106 x107 x108 x109 x98 x110 x111 x18 (.int .i64 (k1 : Int)) W :=
  ⟨h.x, h.p0, h.p1, h.p2, h.p3, h.p4, h.p5, h.p6, h.p7, h.p8, h.p9, h.p10, h.p11, h.p12, h.p13, h.p14, fun _ => rfl⟩
end
@[reducible] def ISH17 (W1 : World) (wo : World) (lo so no : Option Addr) (ln lc sn sc an nc kk : Nat) (b1 : Bool) (k1 : Nat) (CV : List Value) (gc : Nat) (y0 y1 y2 y3 y4 y5 y6 y7 y8 y9 y10 y11 y12 y13 y14 y15 y16 y17 y20 y21 y22 y23 y24 y25 y26 y27 y28 y29 y30 y31 y32 y33 y34 y35 y36 y37 y38 y39 y40 y41 y42 y43 y44 y45 y46 y47 y48 y49 y50 y51 y52 y53 y54 y55 y56 y57 y58 y59 y60 y61 y62 y63 y64 y65 y66 y67 y68 y69 y70 y71 y72 y73 y74 y75 y76 y77 y78 y79 y80 y81 y82 y83 y84 y85 y86 y87 y88 y89 y90 y91 y92 y93 y94 y95 y96 y97 y112 y113 y114 y115 y116 y117 y118 y119 y120 y121 y122 y123 y124 y125 y126 y127 y128 y129 y130 y131 y132 y133 y134 y135 y136 y137 y138 y139 : Value) : (Nat → Bool) → Act → World → Prop := fun L a W => ∃ x99 x100 x101 x102 x103 x104 x105 x106 x107 x108 x109 x98 x110 x111 x18 x19, a = ⟨#[y0, y1, y2, y3, y4, y5, y6, y7, y8, y9, y10, y11, y12, y13, y14, y15, y16, y17, x18, x19, y20, y21, y22, y23, y24, y25, y26, y27, y28, y29, y30, y31, y32, y33, y34, y35, y36, y37, y38, y39, y40, y41, y42, y43, y44, y45, y46, y47, y48, y49, y50, y51, y52, y53, y54, y55, y56, y57, y58, y59, y60, y61, y62, y63, y64, y65, y66, y67, y68, y69, y70, y71, y72, y73, y74, y75, y76, y77, y78, y79, y80, y81, y82, y83, y84, y85, y86, y87, y88, y89, y90, y91, y92, y93, y94, y95, y96, y97, x98, x99, x100, x101, x102, x103, x104, x105, x106, x107, x108, x109, x110, x111, y112, y113, y114, y115, y116, y117, y118, y119, y120, y121, y122, y123, y124, y125, y126, y127, y128, y129, y130, y131, y132, y133, y134, y135, y136, y137, y138, y139], []⟩ ∧ SH17 W1 wo lo so no ln lc sn sc an nc kk b1 k1 CV gc L x99 x100 x101 x102 x103 x104 x105 x106 x107 x108 x109 x98 x110 x111 x18 x19 W
theorem SH17.step {W1 : World} {wo : World} {lo so no : Option Addr} {ln lc sn sc an nc kk : Nat} {b1 : Bool} {k1 : Nat} {CV : List Value} {gc : Nat} {y0 y1 y2 y3 y4 y5 y6 y7 y8 y9 y10 y11 y12 y13 y14 y15 y16 y17 y20 y21 y22 y23 y24 y25 y26 y27 y28 y29 y30 y31 y32 y33 y34 y35 y36 y37 y38 y39 y40 y41 y42 y43 y44 y45 y46 y47 y48 y49 y50 y51 y52 y53 y54 y55 y56 y57 y58 y59 y60 y61 y62 y63 y64 y65 y66 y67 y68 y69 y70 y71 y72 y73 y74 y75 y76 y77 y78 y79 y80 y81 y82 y83 y84 y85 y86 y87 y88 y89 y90 y91 y92 y93 y94 y95 y96 y97 y112 y113 y114 y115 y116 y117 y118 y119 y120 y121 y122 y123 y124 y125 y126 y127 y128 y129 y130 y131 y132 y133 y134 y135 y136 y137 y138 y139 : Value} {P : Program} {ops : Array Oper} {Q : Exit → Act → World → Prop} {i : Nat} {o : Oper} (hq : ∀ x99 x100 x101 x102 x103 x104 x105 x106 x107 x108 x109 x98 x110 x111 x18 x19 (L : Nat → Bool) (W : World), SH17 W1 wo lo so no ln lc sn sc an nc kk b1 k1 CV gc L x99 x100 x101 x102 x103 x104 x105 x106 x107 x108 x109 x98 x110 x111 x18 x19 W → L i = false → (∀ j ∈ onesOf o, L j = true) → ∀ K : Act → World → Prop, Shut (∀ a' w', ISH17 W1 wo lo so no ln lc sn sc an nc kk b1 k1 CV gc y0 y1 y2 y3 y4 y5 y6 y7 y8 y9 y10 y11 y12 y13 y14 y15 y16 y17 y20 y21 y22 y23 y24 y25 y26 y27 y28 y29 y30 y31 y32 y33 y34 y35 y36 y37 y38 y39 y40 y41 y42 y43 y44 y45 y46 y47 y48 y49 y50 y51 y52 y53 y54 y55 y56 y57 y58 y59 y60 y61 y62 y63 y64 y65 y66 y67 y68 y69 y70 y71 y72 y73 y74 y75 y76 y77 y78 y79 y80 y81 y82 y83 y84 y85 y86 y87 y88 y89 y90 y91 y92 y93 y94 y95 y96 y97 y112 y113 y114 y115 y116 y117 y118 y119 y120 y121 y122 y123 y124 y125 y126 y127 y128 y129 y130 y131 y132 y133 y134 y135 y136 y137 y138 y139 (upd L i) a' w' → K a' w') → if Region.wanted o (yielded ops (⟨#[y0, y1, y2, y3, y4, y5, y6, y7, y8, y9, y10, y11, y12, y13, y14, y15, y16, y17, x18, x19, y20, y21, y22, y23, y24, y25, y26, y27, y28, y29, y30, y31, y32, y33, y34, y35, y36, y37, y38, y39, y40, y41, y42, y43, y44, y45, y46, y47, y48, y49, y50, y51, y52, y53, y54, y55, y56, y57, y58, y59, y60, y61, y62, y63, y64, y65, y66, y67, y68, y69, y70, y71, y72, y73, y74, y75, y76, y77, y78, y79, y80, y81, y82, y83, y84, y85, y86, y87, y88, y89, y90, y91, y92, y93, y94, y95, y96, y97, x98, x99, x100, x101, x102, x103, x104, x105, x106, x107, x108, x109, x110, x111, y112, y113, y114, y115, y116, y117, y118, y119, y120, y121, y122, y123, y124, y125, y126, y127, y128, y129, y130, y131, y132, y133, y134, y135, y136, y137, y138, y139], []⟩ : Act).tmps) = true then Oper.wp P o ⟨#[y0, y1, y2, y3, y4, y5, y6, y7, y8, y9, y10, y11, y12, y13, y14, y15, y16, y17, x18, x19, y20, y21, y22, y23, y24, y25, y26, y27, y28, y29, y30, y31, y32, y33, y34, y35, y36, y37, y38, y39, y40, y41, y42, y43, y44, y45, y46, y47, y48, y49, y50, y51, y52, y53, y54, y55, y56, y57, y58, y59, y60, y61, y62, y63, y64, y65, y66, y67, y68, y69, y70, y71, y72, y73, y74, y75, y76, y77, y78, y79, y80, y81, y82, y83, y84, y85, y86, y87, y88, y89, y90, y91, y92, y93, y94, y95, y96, y97, x98, x99, x100, x101, x102, x103, x104, x105, x106, x107, x108, x109, x110, x111, y112, y113, y114, y115, y116, y117, y118, y119, y120, y121, y122, y123, y124, y125, y126, y127, y128, y129, y130, y131, y132, y133, y134, y135, y136, y137, y138, y139], []⟩ W K Q else K ((⟨#[y0, y1, y2, y3, y4, y5, y6, y7, y8, y9, y10, y11, y12, y13, y14, y15, y16, y17, x18, x19, y20, y21, y22, y23, y24, y25, y26, y27, y28, y29, y30, y31, y32, y33, y34, y35, y36, y37, y38, y39, y40, y41, y42, y43, y44, y45, y46, y47, y48, y49, y50, y51, y52, y53, y54, y55, y56, y57, y58, y59, y60, y61, y62, y63, y64, y65, y66, y67, y68, y69, y70, y71, y72, y73, y74, y75, y76, y77, y78, y79, y80, y81, y82, y83, y84, y85, y86, y87, y88, y89, y90, y91, y92, y93, y94, y95, y96, y97, x98, x99, x100, x101, x102, x103, x104, x105, x106, x107, x108, x109, x110, x111, y112, y113, y114, y115, y116, y117, y118, y119, y120, y121, y122, y123, y124, y125, y126, y127, y128, y129, y130, y131, y132, y133, y134, y135, y136, y137, y138, y139], []⟩ : Act).put o.dst undef) W) : StepI P ops (ISH17 W1 wo lo so no ln lc sn sc an nc kk b1 k1 CV gc y0 y1 y2 y3 y4 y5 y6 y7 y8 y9 y10 y11 y12 y13 y14 y15 y16 y17 y20 y21 y22 y23 y24 y25 y26 y27 y28 y29 y30 y31 y32 y33 y34 y35 y36 y37 y38 y39 y40 y41 y42 y43 y44 y45 y46 y47 y48 y49 y50 y51 y52 y53 y54 y55 y56 y57 y58 y59 y60 y61 y62 y63 y64 y65 y66 y67 y68 y69 y70 y71 y72 y73 y74 y75 y76 y77 y78 y79 y80 y81 y82 y83 y84 y85 y86 y87 y88 y89 y90 y91 y92 y93 y94 y95 y96 y97 y112 y113 y114 y115 y116 y117 y118 y119 y120 y121 y122 y123 y124 y125 y126 y127 y128 y129 y130 y131 y132 y133 y134 y135 y136 y137 y138 y139) Q i o := by
  rintro L a W ⟨x99, x100, x101, x102, x103, x104, x105, x106, x107, x108, x109, x98, x110, x111, x18, x19, rfl, h⟩
  exact hq _ _ _ _ _ _ _ _ _ _ _ _ _ _ _ _ _ _ h
theorem SH17.ends {W1 : World} {wo : World} {lo so no : Option Addr} {ln lc sn sc an nc kk : Nat} {b1 : Bool} {k1 : Nat} {CV : List Value} {gc : Nat} {y0 y1 y2 y3 y4 y5 y6 y7 y8 y9 y10 y11 y12 y13 y14 y15 y16 y17 y20 y21 y22 y23 y24 y25 y26 y27 y28 y29 y30 y31 y32 y33 y34 y35 y36 y37 y38 y39 y40 y41 y42 y43 y44 y45 y46 y47 y48 y49 y50 y51 y52 y53 y54 y55 y56 y57 y58 y59 y60 y61 y62 y63 y64 y65 y66 y67 y68 y69 y70 y71 y72 y73 y74 y75 y76 y77 y78 y79 y80 y81 y82 y83 y84 y85 y86 y87 y88 y89 y90 y91 y92 y93 y94 y95 y96 y97 y112 y113 y114 y115 y116 y117 y118 y119 y120 y121 y122 y123 y124 y125 y126 y127 y128 y129 y130 y131 y132 y133 y134 y135 y136 y137 y138 y139 : Value} {mm_ : Nat} {Q : Exit → Act → World → Prop} (hq : ∀ x99 x100 x101 x102 x103 x104 x105 x106 x107 x108 x109 x98 x110 x111 x18 x19 (L : Nat → Bool) (W : World), (∀ j, j < mm_ → L j = true) → SH17 W1 wo lo so no ln lc sn sc an nc kk b1 k1 CV gc L x99 x100 x101 x102 x103 x104 x105 x106 x107 x108 x109 x98 x110 x111 x18 x19 W → Q .normal ⟨#[y0, y1, y2, y3, y4, y5, y6, y7, y8, y9, y10, y11, y12, y13, y14, y15, y16, y17, x18, x19, y20, y21, y22, y23, y24, y25, y26, y27, y28, y29, y30, y31, y32, y33, y34, y35, y36, y37, y38, y39, y40, y41, y42, y43, y44, y45, y46, y47, y48, y49, y50, y51, y52, y53, y54, y55, y56, y57, y58, y59, y60, y61, y62, y63, y64, y65, y66, y67, y68, y69, y70, y71, y72, y73, y74, y75, y76, y77, y78, y79, y80, y81, y82, y83, y84, y85, y86, y87, y88, y89, y90, y91, y92, y93, y94, y95, y96, y97, x98, x99, x100, x101, x102, x103, x104, x105, x106, x107, x108, x109, x110, x111, y112, y113, y114, y115, y116, y117, y118, y119, y120, y121, y122, y123, y124, y125, y126, y127, y128, y129, y130, y131, y132, y133, y134, y135, y136, y137, y138, y139], []⟩ W) : ∀ L a' w', (∀ j, j < mm_ → L j = true) → ISH17 W1 wo lo so no ln lc sn sc an nc kk b1 k1 CV gc y0 y1 y2 y3 y4 y5 y6 y7 y8 y9 y10 y11 y12 y13 y14 y15 y16 y17 y20 y21 y22 y23 y24 y25 y26 y27 y28 y29 y30 y31 y32 y33 y34 y35 y36 y37 y38 y39 y40 y41 y42 y43 y44 y45 y46 y47 y48 y49 y50 y51 y52 y53 y54 y55 y56 y57 y58 y59 y60 y61 y62 y63 y64 y65 y66 y67 y68 y69 y70 y71 y72 y73 y74 y75 y76 y77 y78 y79 y80 y81 y82 y83 y84 y85 y86 y87 y88 y89 y90 y91 y92 y93 y94 y95 y96 y97 y112 y113 y114 y115 y116 y117 y118 y119 y120 y121 y122 y123 y124 y125 y126 y127 y128 y129 y130 y131 y132 y133 y134 y135 y136 y137 y138 y139 L a' w' → Q .normal a' w' := by
  rintro L a W hall ⟨x99, x100, x101, x102, x103, x104, x105, x106, x107, x108, x109, x98, x110, x111, x18, x19, rfl, h⟩
  exact hq _ _ _ _ _ _ _ _ _ _ _ _ _ _ _ _ _ _ hall h
structure SH18 (W1 : World) (wo : World) (lo so no : Option Addr) (ln lc sn sc an nc kk : Nat) (b1 : Bool) (k1 : Nat) (CV : List Value) (gc : Nat) (L : Nat → Bool) (x113 x114 x115 x116 x117 x118 x119 x120 x121 x122 x123 x124 x125 x126 x127 x112 x128 x129 x20 x21 : Value) (W : World) : Prop where
  x : Below wo.heap.size wo W
  p0 : L 0 = true → x113 = .agg CV.toArray
  p1 : L 1 = true → x114 = .slice lo ln lc
  p2 : L 2 = true → x115 = .slice so sn sc
  p3 : L 3 = true → x116 = .int .i64 (kk : Int)
  p4 : L 4 = true → x117 = .int .i64 ((kk + 1 : Nat) : Int)
  p5 : L 5 = true → x118 = .int .i64 (kk : Int)
  p6 : L 6 = true → x119 = .int .i64 ((kk + 1 : Nat) : Int)
  p7 : L 7 = true → x120 = .slice so (kk + 1) (kk + 1)
  p8 : L 8 = true → x121 = .slice no an nc
  p9 : L 9 = true → x122 = .int .i64 (kk : Int)
  p10 : L 10 = true → x123 = .int .i64 ((kk + 1 : Nat) : Int)
  p11 : L 11 = true → x124 = .int .i64 (kk : Int)
  p12 : L 12 = true → x125 = .int .i64 ((kk + 1 : Nat) : Int)
  p13 : L 13 = true → x126 = .slice no (kk + 1) (kk + 1)
  p14 : L 14 = true → x127 = .tuple #[.bool b1, .int .i64 (k1 : Int)]
  p15 : L 15 = true → x112 = .tuple #[.bool b1, .int .i64 (k1 : Int)]
  p16 : L 16 = true → x128 = .bool b1
  p17 : L 17 = true → x129 = .int .i64 (k1 : Int)
  p18 : L 18 = true → x20 = .bool b1
  p19 : L 19 = true → x21 = .int .i64 (k1 : Int)
section
variable {W1 : World} {wo : World} {lo so no : Option Addr} {ln lc sn sc an nc kk : Nat} {b1 : Bool} {k1 : Nat} {CV : List Value} {gc : Nat} {L : Nat → Bool} {x113 x114 x115 x116 x117 x118 x119 x120 x121 x122 x123 x124 x125 x126 x127 x112 x128 x129 x20 x21 : Value} {W W2 : World}
theorem SH18.s0 (h : SH18 W1 wo lo so no ln lc sn sc an nc kk b1 k1 CV gc L x113 x114 x115 x116 x117 x118 x119 x120 x121 x122 x123 x124 x125 x126 x127 x112 x128 x129 x20 x21 W) : SH18 W1 wo lo so no ln lc sn sc an nc kk b1 k1 CV gc (upd L 0) (.agg CV.toArray) x114 x115 x116 x117 x118 x119 x120 x121 x122 x123 x124 x125 x126 x127 x112 x128 x129 x20 x21 W :=
  ⟨h.x, fun _ => rfl, h.p1, h.p2, h.p3, h.p4, h.p5, h.p6, h.p7, h.p8, h.p9, h.p10, h.p11, h.p12, h.p13, h.p14, h.p15, h.p16, h.p17, h.p18, h.p19⟩
theorem SH18.s1 (h : SH18 W1 wo lo so no ln lc sn sc an nc kk b1 k1 CV gc L x113 x114 x115 x116 x117 x118 x119 x120 x121 x122 x123 x124 x125 x126 x127 x112 x128 x129 x20 x21 W) : SH18 W1 wo lo so no ln lc sn sc an nc kk b1 k1 CV gc (upd L 1) x113 (.slice lo ln lc) x115 x116 x117 x118 x119 x120 x121 x122 x123 x124 x125 x126 x127 x112 x128 x129 x20 x21 W :=
  ⟨h.x, h.p0, fun _ => rfl, h.p2, h.p3, h.p4, h.p5, h.p6, h.p7, h.p8, h.p9, h.p10, h.p11, h.p12, h.p13, h.p14, h.p15, h.p16, h.p17, h.p18, h.p19⟩
theorem SH18.s2 (h : SH18 W1 wo lo so no ln lc sn sc an nc kk b1 k1 CV gc L x113 x114 x115 x116 x117 x118 x119 x120 x121 x122 x123 x124 x125 x126 x127 x112 x128 x129 x20 x21 W) : SH18 W1 wo lo so no ln lc sn sc an nc kk b1 k1 CV gc (upd L 2) x113 x114 (.slice so sn sc) x116 x117 x118 x119 x120 x121 x122 x123 x124 x125 x126 x127 x112 x128 x129 x20 x21 W :=
  ⟨h.x, h.p0, h.p1, fun _ => rfl, h.p3, h.p4, h.p5, h.p6, h.p7, h.p8, h.p9, h.p10, h.p11, h.p12, h.p13, h.p14, h.p15, h.p16, h.p17, h.p18, h.p19⟩
theorem SH18.s3 (h : SH18 W1 wo lo so no ln lc sn sc an nc kk b1 k1 CV gc L x113 x114 x115 x116 x117 x118 x119 x120 x121 x122 x123 x124 x125 x126 x127 x112 x128 x129 x20 x21 W) : SH18 W1 wo lo so no ln lc sn sc an nc kk b1 k1 CV gc (upd L 3) x113 x114 x115 (.int .i64 (kk : Int)) x117 x118 x119 x120 x121 x122 x123 x124 x125 x126 x127 x112 x128 x129 x20 x21 W :=
  ⟨h.x, h.p0, h.p1, h.p2, fun _ => rfl, h.p4, h.p5, h.p6, h.p7, h.p8, h.p9, h.p10, h.p11, h.p12, h.p13, h.p14, h.p15, h.p16, h.p17, h.p18, h.p19⟩
theorem SH18.s4 (h : SH18 W1 wo lo so no ln lc sn sc an nc kk b1 k1 CV gc L x113 x114 x115 x116 x117 x118 x119 x120 x121 x122 x123 x124 x125 x126 x127 x112 x128 x129 x20 x21 W) : SH18 W1 wo lo so no ln lc sn sc an nc kk b1 k1 CV gc (upd L 4) x113 x114 x115 x116 (.int .i64 ((kk + 1 : Nat) : Int)) x118 x119 x120 x121 x122 x123 x124 x125 x126 x127 x112 x128 x129 x20 x21 W :=
  ⟨h.x, h.p0, h.p1, h.p2, h.p3, fun _ => rfl, h.p5, h.p6, h.p7, h.p8, h.p9, h.p10, h.p11, h.p12, h.p13, h.p14, h.p15, h.p16, h.p17, h.p18, h.p19⟩
theorem SH18.s5 (h : SH18 W1 wo lo so no ln lc sn sc an nc kk b1 k1 CV gc L x113 x114 x115 x116 x117 x118 x119 x120 x121 x122 x123 x124 x125 x126 x127 x112 x128 x129 x20 x21 W) : SH18 W1 wo lo so no ln lc sn sc an nc kk b1 k1 CV gc (upd L 5) x113 x114 x115 x116 x117 (.int .i64 (kk : Int)) x119 x120 x121 x122 x123 x124 x125 x126 x127 x112 x128 x129 x20 x21 W :=
  ⟨h.x, h.p0, h.p1, h.p2, h.p3, h.p4, fun _ => rfl, h.p6, h.p7, h.p8, h.p9, h.p10, h.p11, h.p12, h.p13, h.p14, h.p15, h.p16, h.p17, h.p18, h.p19⟩
theorem SH18.s6 (h : SH18 W1 wo lo so no ln lc sn sc an nc kk b1 k1 CV gc L x113 x114 x115 x116 x117 x118 x119 x120 x121 x122 x123 x124 x125 x126 x127 x112 x128 x129 x20 x21 W) : SH18 W1 wo lo so no ln lc sn sc an nc kk b1 k1 CV gc (upd L 6) x113 x114 x115 x116 x117 x118 (.int .i64 ((kk + 1 : Nat) : Int)) x120 x121 x122 x123 x124 x125 x126 x127 x112 x128 x129 x20 x21 W :=
  ⟨h.x, h.p0, h.p1, h.p2, h.p3, h.p4, h.p5, fun _ => rfl, h.p7, h.p8, h.p9, h.p10, h.p11, h.p12, h.p13, h.p14, h.p15, h.p16, h.p17, h.p18, h.p19⟩
theorem SH18.s7 (h : SH18 W1 wo lo so no ln lc sn sc an nc kk b1 k1 CV gc L x113 x114 x115 x116 x117 x118 x119 x120 x121 x122 x123 x124 x125 x126 x127 x112 x128 x129 x20 x21 W) : SH18 W1 wo lo so no ln lc sn sc an nc kk b1 k1 CV gc (upd L 7) x113 x114 x115 x116 x117 x118 x119 (.slice so (kk + 1) (kk + 1)) x121 x122 x123 x124 x125 x126 x127 x112 x128 x129 x20 x21 W :=
  ⟨h.x, h.p0, h.p1, h.p2, h.p3, h.p4, h.p5, h.p6, fun _ => rfl, h.p8, h.p9, h.p10, h.p11, h.p12, h.p13, h.p14, h.p15, h.p16, h.p17, h.p18, h.p19⟩
theorem SH18.s8 (h : SH18 W1 wo lo so no ln lc sn sc an nc kk b1 k1 CV gc L x113 x114 x115 x116 x117 x118 x119 x120 x121 x122 x123 x124 x125 x126 x127 x112 x128 x129 x20 x21 W) : SH18 W1 wo lo so no ln lc sn sc an nc kk b1 k1 CV gc (upd L 8) x113 x114 x115 x116 x117 x118 x119 x120 (.slice no an nc) x122 x123 x124 x125 x126 x127 x112 x128 x129 x20 x21 W :=
  ⟨h.x, h.p0, h.p1, h.p2, h.p3, h.p4, h.p5, h.p6, h.p7, fun _ => rfl, h.p9, h.p10, h.p11, h.p12, h.p13, h.p14, h.p15, h.p16, h.p17, h.p18, h.p19⟩
theorem SH18.s9 (h : SH18 W1 wo lo so no ln lc sn sc an nc kk b1 k1 CV gc L x113 x114 x115 x116 x117 x118 x119 x120 x121 x122 x123 x124 x125 x126 x127 x112 x128 x129 x20 x21 W) : SH18 W1 wo lo so no ln lc sn sc an nc kk b1 k1 CV gc (upd L 9) x113 x114 x115 x116 x117 x118 x119 x120 x121 (.int .i64 (kk : Int)) x123 x124 x125 x126 x127 x112 x128 x129 x20 x21 W :=
  ⟨h.x, h.p0, h.p1, h.p2, h.p3, h.p4, h.p5, h.p6, h.p7, h.p8, fun _ => rfl, h.p10, h.p11, h.p12, h.p13, h.p14, h.p15, h.p16, h.p17, h.p18, h.p19⟩
theorem SH18.s10 (h : SH18 W1 wo lo so no ln lc sn sc an nc kk b1 k1 CV gc L x113 x114 x115 x116 x117 x118 x119 x120 x121 x122 x123 x124 x125 x126 x127 x112 x128 x129 x20 x21 W) : SH18 W1 wo lo so no ln lc sn sc an nc kk b1 k1 CV gc (upd L 10) x113 x114 x115 x116 x117 x118 x119 x120 x121 x122 (.int .i64 ((kk + 1 : Nat) : Int)) x124 x125 x126 x127 x112 x128 x129 x20 x21 W :=
  ⟨h.x, h.p0, h.p1, h.p2, h.p3, h.p4, h.p5, h.p6, h.p7, h.p8, h.p9, fun _ => rfl, h.p11, h.p12, h.p13, h.p14, h.p15, h.p16, h.p17, h.p18, h.p19⟩
theorem SH18.s11 (h : SH18 W1 wo lo so no ln lc sn sc an nc kk b1 k1 CV gc L x113 x114 x115 x116 x117 x118 x119 x120 x121 x122 x123 x124 x125 x126 x127 x112 x128 x129 x20 x21 W) : SH18 W1 wo lo so no ln lc sn sc an nc kk b1 k1 CV gc (upd L 11) x113 x114 x115 x116 x117 x118 x119 x120 x121 x122 x123 (.int .i64 (kk : Int)) x125 x126 x127 x112 x128 x129 x20 x21 W :=
  ⟨h.x, h.p0, h.p1, h.p2, h.p3, h.p4, h.p5, h.p6, h.p7, h.p8, h.p9, h.p10, fun _ => rfl, h.p12, h.p13, h.p14, h.p15, h.p16, h.p17, h.p18, h.p19⟩
theorem SH18.s12 (h : SH18 W1 wo lo so no ln lc sn sc an nc kk b1 k1 CV gc L x113 x114 x115 x116 x117 x118 x119 x120 x121 x122 x123 x124 x125 x126 x127 x112 x128 x129 x20 x21 W) : SH18 W1 wo lo so no ln lc sn sc an nc kk b1 k1 CV gc (upd L 12) x113 x114 x115 x116 x117 x118 x119 x120 x121 x122 x123 x124 (.int .i64 ((kk + 1 : Nat) : Int)) x126 x127 x112 x128 x129 x20 x21 W :=
  ⟨h.x, h.p0, h.p1, h.p2, h.p3, h.p4, h.p5, h.p6, h.p7, h.p8, h.p9, h.p10, h.p11, fun _ => rfl, h.p13, h.p14, h.p15, h.p16, h.p17, h.p18, h.p19⟩
theorem SH18.s13 (h : SH18 W1 wo lo so no ln lc sn sc an nc kk b1 k1 CV gc L x113 x114 x115 x116 x117 x118 x119 x120 x121 x122 x123 x124 x125 x126 x127 x112 x128 x129 x20 x21 W) : SH18 W1 wo lo so no ln lc sn sc an nc kk b1 k1 CV gc (upd L 13) x113 x114 x115 x116 x117 x118 x119 x120 x121 x122 x123 x124 x125 (.slice no (kk + 1) (kk + 1)) x127 x112 x128 x129 x20 x21 W :=
  ⟨h.x, h.p0, h.p1, h.p2, h.p3, h.p4, h.p5, h.p6, h.p7, h.p8, h.p9, h.p10, h.p11, h.p12, fun _ => rfl, h.p14, h.p15, h.p16, h.p17, h.p18, h.p19⟩
theorem SH18.s14 (h : SH18 W1 wo lo so no ln lc sn sc an nc kk b1 k1 CV gc L x113 x114 x115 x116 x117 x118 x119 x120 x121 x122 x123 x124 x125 x126 x127 x112 x128 x129 x20 x21 W) (hX : Below wo.heap.size wo W2) : SH18 W1 wo lo so no ln lc sn sc an nc kk b1 k1 CV gc (upd L 14) x113 x114 x115 x116 x117 x118 x119 x120 x121 x122 x123 x124 x125 x126 (.tuple #[.bool b1, .int .i64 (k1 : Int)]) x112 x128 x129 x20 x21 W2 :=
  ⟨hX, h.p0, h.p1, h.p2, h.p3, h.p4, h.p5, h.p6, h.p7, h.p8, h.p9, h.p10, h.p11, h.p12, h.p13, fun _ => rfl, h.p15, h.p16, h.p17, h.p18, h.p19⟩
theorem SH18.s15 (h : SH18 W1 wo lo so no ln lc sn sc an nc kk b1 k1 CV gc L x113 x114 x115 x116 x117 x118 x119 x120 x121 x122 x123 x124 x125 x126 x127 x112 x128 x129 x20 x21 W) : SH18 W1 wo lo so no ln lc sn sc an nc kk b1 k1 CV gc (upd L 15) x113 x114 x115 x116 x117 x118 x119 x120 x121 x122 x123 x124 x125 x126 x127 (.tuple #[.bool b1, .int .i64 (k1 : Int)]) x128 x129 x20 x21 W :=
  ⟨h.x, h.p0, h.p1, h.p2, h.p3, h.p4, h.p5, h.p6, h.p7, h.p8, h.p9, h.p10, h.p11, h.p12, h.p13, h.p14, fun _ => rfl, h.p16, h.p17, h.p18, h.p19⟩
theorem SH18.s16 (h : SH18 W1 wo lo so no ln lc sn sc an nc kk b1 k1 CV gc L x113 x114 x115 x116 x117 x118 x119 x120 x121 x122 x123 x124 x125 x126 x127 x112 x128 x129 x20 x21 W) : SH18 W1 wo lo so no ln lc sn sc an nc kk b1 k1 CV gc (upd L 16) x113 x114 x115 x116 x117 x118 x119 x120 x121 x122 x123 x124 x125 x126 x127 x112 (.bool b1) x129 x20 x21 W :=
  ⟨h.x, h.p0, h.p1, h.p2, h.p3, h.p4, h.p5, h.p6, h.p7, h.p8, h.p9, h.p10, h.p11, h.p12, h.p13, h.p14, h.p15, fun _ => rfl, h.p17, h.p18, h.p19⟩
theorem SH18.s17 (h : SH18 W1 wo lo so no ln lc sn sc an nc kk b1 k1 CV gc L x113 x114 x115 x116 x117 x118 x119 x120 x121 x122 x123 x124 x125 x126 x127 x112 x128 x129 x20 x21 W) : SH18 W1 wo lo so no ln lc sn sc an nc kk b1 k1 CV gc (upd L 17) x113 x114 x115 x116 x117 x118 x119 x120 x121 x122 x123 x124 x125 x126 x127 x112 x128 (.int .i64 (k1 : Int)) x20 x21 W :=
  ⟨h.x, h.p0, h.p1, h.p2, h.p3, h.p4, h.p5, h.p6, h.p7, h.p8, h.p9, h.p10, h.p11, h.p12, h.p13, h.p14, h.p15, h.p16, fun _ => rfl, h.p18, h.p19⟩
theorem SH18.s18 (h : SH18 W1 wo lo so no ln lc sn sc an nc kk b1 k1 CV gc L x113 x114 x115 x116 x117 x118 x119 x120 x121 x122 x123 x124 x125 x126 x127 x112 x128 x129 x20 x21 W) : SH18 W1 wo lo so no ln lc sn sc an nc kk b1 k1 CV gc (upd L 18) x113 x114 x115 x116 x117 x118 x119 x120 x121 x122 x123 x124 x125 x126 x127 x112 x128 x129 (.bool b1) x21 W :=
  ⟨h.x, h.p0, h.p1, h.p2, h.p3, h.p4, h.p5, h.p6, h.p7, h.p8, h.p9, h.p10, h.p11, h.p12, h.p13, h.p14, h.p15, h.p16, h.p17, fun _ => rfl, h.p19⟩
theorem SH18.s19 (h : SH18 W1 wo lo so no ln lc sn sc an nc kk b1 k1 CV gc L x113 x114 x115 x116 x117 x118 x119 x120 x121 x122 x123 x124 x125 x126 x127 x112 x128 x129 x20 x21 W) : SH18 W1 wo lo so no ln lc sn sc an nc kk b1 k1 CV gc (upd L 19) x113 x114 x115 x116 x117 x118 x119 x120 x121 x122 x123 x124 x125 x126 x127 x112 x128 x129 x20 (.int .i64 (k1 : Int)) W :=
  ⟨h.x, h.p0, h.p1, h.p2, h.p3, h.p4, h.p5, h.p6, h.p7, h.p8, h.p9, h.p10, h.p11, h.p12, h.p13, h.p14, h.p15, h.p16, h.p17, h.p18, fun _ => rfl⟩
end
@[reducible] def ISH18 (W1 : World) (wo : World) (lo so no : Option Addr) (ln lc sn sc an nc kk : Nat) (b1 : Bool) (k1 : Nat) (CV : List Value) (gc : Nat) (y0 y1 y2 y3 y4 y5 y6 y7 y8 y9 y10 y11 y12 y13 y14 y15 y16 y17 y18 y19 y22 y23 y24 y25 y26 y27 y28 y29 y30 y31 y32 y33 y34 y35 y36 y37 y38 y39 y40 y41 y42 y43 y44 y45 y46 y47 y48 y49 y50 y51 y52 y53 y54 y55 y56 y57 y58 y59 y60 y61 y62 y63 y64 y65 y66 y67 y68 y69 y70 y71 y72 y73 y74 y75 y76 y77 y78 y79 y80 y81 y82 y83 y84 y85 y86 y87 y88 y89 y90 y91 y92 y93 y94 y95 y96 y97 y98 y99 y100 y101 y102 y103 y104 y105 y106 y107 y108 y109 y110 y111 y130 y131 y132 y133 y134 y135 y136 y137 y138 y139 : Value) : (Nat → Bool) → Act → World → Prop := fun L a W => ∃ x113 x114 x115 x116 x117 x118 x119 x120 x121 x122 x123 x124 x125 x126 x127 x112 x128 x129 x20 x21, a = ⟨#[y0, y1, y2, y3, y4, y5, y6, y7, y8, y9, y10, y11, y12, y13, y14, y15, y16, y17, y18, y19, x20, x21, y22, y23, y24, y25, y26, y27, y28, y29, y30, y31, y32, y33, y34, y35, y36, y37, y38, y39, y40, y41, y42, y43, y44, y45, y46, y47, y48, y49, y50, y51, y52, y53, y54, y55, y56, y57, y58, y59, y60, y61, y62, y63, y64, y65, y66, y67, y68, y69, y70, y71, y72, y73, y74, y75, y76, y77, y78, y79, y80, y81, y82, y83, y84, y85, y86, y87, y88, y89, y90, y91, y92, y93, y94, y95, y96, y97, y98, y99, y100, y101, y102, y103, y104, y105, y106, y107, y108, y109, y110, y111, x112, x113, x114, x115, x116, x117, x118, x119, x120, x121, x122, x123, x124, x125, x126, x127, x128, x129, y130, y131, y132, y133, y134, y135, y136, y137, y138, y139], []⟩ ∧ SH18 W1 wo lo so no ln lc sn sc an nc kk b1 k1 CV gc L x113 x114 x115 x116 x117 x118 x119 x120 x121 x122 x123 x124 x125 x126 x127 x112 x128 x129 x20 x21 W
theorem SH18.step {W1 : World} {wo : World} {lo so no : Option Addr} {ln lc sn sc an nc kk : Nat} {b1 : Bool} {k1 : Nat} {CV : List Value} {gc : Nat} {y0 y1 y2 y3 y4 y5 y6 y7 y8 y9 y10 y11 y12 y13 y14 y15 y16 y17 y18 y19 y22 y23 y24 y25 y26 y27 y28 y29 y30 y31 y32 y33 y34 y35 y36 y37 y38 y39 y40 y41 y42 y43 y44 y45 y46 y47 y48 y49 y50 y51 y52 y53 y54 y55 y56 y57 y58 y59 y60 y61 y62 y63 y64 y65 y66 y67 y68 y69 y70 y71 y72 y73 y74 y75 y76 y77 y78 y79 y80 y81 y82 y83 y84 y85 y86 y87 y88 y89 y90 y91 y92 y93 y94 y95 y96 y97 y98 y99 y100 y101 y102 y103 y104 y105 y106 y107 y108 y109 y110 y111 y130 y131 y132 y133 y134 y135 y136 y137 y138 y139 : Value} {P : Program} {ops : Array Oper} {Q : Exit → Act → World → Prop} {i : Nat} {o : Oper} (hq : ∀ x113 x114 x115 x116 x117 x118 x119 x120 x121 x122 x123 x124 x125 x126 x127 x112 x128 x129 x20 x21 (L : Nat → Bool) (W : World), SH18 W1 wo lo so no ln lc sn sc an nc kk b1 k1 CV gc L x113 x114 x115 x116 x117 x118 x119 x120 x121 x122 x123 x124 x125 x126 x127 x112 x128 x129 x20 x21 W → L i = false → (∀ j ∈ onesOf o, L j = true) → ∀ K : Act → World → Prop, Shut (∀ a' w', ISH18 W1 wo lo so no ln lc sn sc an nc kk b1 k1 CV gc y0 y1 y2 y3 y4 y5 y6 y7 y8 y9 y10 y11 y12 y13 y14 y15 y16 y17 y18 y19 y22 y23 y24 y25 y26 y27 y28 y29 y30 y31 y32 y33 y34 y35 y36 y37 y38 y39 y40 y41 y42 y43 y44 y45 y46 y47 y48 y49 y50 y51 y52 y53 y54 y55 y56 y57 y58 y59 y60 y61 y62 y63 y64 y65 y66 y67 y68 y69 y70 y71 y72 y73 y74 y75 y76 y77 y78 y79 y80 y81 y82 y83 y84 y85 y86 y87 y88 y89 y90 y91 y92 y93 y94 y95 y96 y97 y98 y99 y100 y101 y102 y103 y104 y105 y106 y107 y108 y109 y110 y111 y130 y131 y132 y133 y134 y135 y136 y137 y138 y139 (upd L i) a' w' → K a' w') → if Region.wanted o (yielded ops (⟨#[y0, y1, y2, y3, y4, y5, y6, y7, y8, y9, y10, y11, y12, y13, y14, y15, y16, y17, y18, y19, x20, x21, y22, y23, y24, y25, y26, y27, y28, y29, y30, y31, y32, y33, y34, y35, y36, y37, y38, y39, y40, y41, y42, y43, y44, y45, y46, y47, y48, y49, y50, y51, y52, y53, y54, y55, y56, y57, y58, y59, y60, y61, y62, y63, y64, y65, y66, y67, y68, y69, y70, y71, y72, y73, y74, y75, y76, y77, y78, y79, y80, y81, y82, y83, y84, y85, y86, y87, y88, y89, y90, y91, y92, y93, y94, y95, y96, y97, y98, y99, y100, y101, y102, y103, y104, y105, y106, y107, y108, y109, y110, y111, x112, x113, x114, x115, x116, x117, x118, x119, x120, x121, x122, x123, x124, x125, x126, x127, x128, x129, y130, y131, y132, y133, y134, y135, y136, y137, y138, y139], []⟩ : Act).tmps) = true then Oper.wp P o ⟨#[y0, y1, y2, y3, y4, y5, y6, y7, y8, y9, y10, y11, y12, y13, y14, y15, y16, y17, y18, y19, x20, x21, y22, y23, y24, y25, y26, y27, y28, y29, y30, y31, y32, y33, y34, y35, y36, y37, y38, y39, y40, y41, y42, y43, y44, y45, y46, y47, y48, y49, y50, y51, y52, y53, y54, y55, y56, y57, y58, y59, y60, y61, y62, y63, y64, y65, y66, y67, y68, y69, y70, y71, y72, y73, y74, y75, y76, y77, y78, y79, y80, y81, y82, y83, y84, y85, y86, y87, y88, y89, y90, y91, y92, y93, y94, y95, y96, y97, y98, y99, y100, y101, y102, y103, y104, y105, y106, y107, y108, y109, y110, y111, x112, x113, x114, x115, x116, x117, x118, x119, x120, x121, x122, x123, x124, x125, x126, x127, x128, x129, y130, y131, y132, y133, y134, y135, y136, y137, y138, y139], []⟩ W K Q else K ((⟨#[y0, y1, y2, y3, y4, y5, y6, y7, y8, y9, y10, y11, y12, y13, y14, y15, y16, y17, y18, y19, x20, x21, y22, y23, y24, y25, y26, y27, y28, y29, y30, y31, y32, y33, y34, y35, y36, y37, y38, y39, y40, y41, y42, y43, y44, y45, y46, y47, y48, y49, y50, y51, y52, y53, y54, y55, y56, y57, y58, y59, y60, y61, y62, y63, y64, y65, y66, y67, y68, y69, y70, y71, y72, y73, y74, y75, y76, y77, y78, y79, y80, y81, y82, y83, y84, y85, y86, y87, y88, y89, y90, y91, y92, y93, y94, y95, y96, y97, y98, y99, y100, y101, y102, y103, y104, y105, y106, y107, y108, y109, y110, y111, x112, x113, x114, x115, x116, x117, x118, x119, x120, x121, x122, x123, x124, x125, x126, x127, x128, x129, y130, y131, y132, y133, y134, y135, y136, y137, y138, y139], []⟩ : Act).put o.dst undef) W) : StepI P ops (ISH18 W1 wo lo so no ln lc sn sc an nc kk b1 k1 CV gc y0 y1 y2 y3 y4 y5 y6 y7 y8 y9 y10 y11 y12 y13 y14 y15 y16 y17 y18 y19 y22 y23 y24 y25 y26 y27 y28 y29 y30 y31 y32 y33 y34 y35 y36 y37 y38 y39 y40 y41 y42 y43 y44 y45 y46 y47 y48 y49 y50 y51 y52 y53 y54 y55 y56 y57 y58 y59 y60 y61 y62 y63 y64 y65 y66 y67 y68 y69 y70 y71 y72 y73 y74 y75 y76 y77 y78 y79 y80 y81 y82 y83 y84 y85 y86 y87 y88 y89 y90 y91 y92 y93 y94 y95 y96 y97 y98 y99 y100 y101 y102 y103 y104 y105 y106 y107 y108 y109 y110 y111 y130 y131 y132 y133 y134 y135 y136 y137 y138 y139) Q i o := by
  rintro L a W ⟨x113, x114, x115, x116, x117, x118, x119, x120, x121, x122, x123, x124, x125, x126, x127, x112, x128, x129, x20, x21, rfl, h⟩
  exact hq _ _ _ _ _ _ _ _ _ _ _ _ _ _ _ _ _ _ _ _ _ _ h
theorem SH18.ends {W1 : World} {wo : World} {lo so no : Option Addr} {ln lc sn sc an nc kk : Nat} {b1 : Bool} {k1 : Nat} {CV : List Value} {gc : Nat} {y0 y1 y2 y3 y4 y5 y6 y7 y8 y9 y10 y11 y12 y13 y14 y15 y16 y17 y18 y19 y22 y23 y24 y25 y26 y27 y28 y29 y30 y31 y32 y33 y34 y35 y36 y37 y38 y39 y40 y41 y42 y43 y44 y45 y46 y47 y48 y49 y50 y51 y52 y53 y54 y55 y56 y57 y58 y59 y60 y61 y62 y63 y64 y65 y66 y67 y68 y69 y70 y71 y72 y73 y74 y75 y76 y77 y78 y79 y80 y81 y82 y83 y84 y85 y86 y87 y88 y89 y90 y91 y92 y93 y94 y95 y96 y97 y98 y99 y100 y101 y102 y103 y104 y105 y106 y107 y108 y109 y110 y111 y130 y131 y132 y133 y134 y135 y136 y137 y138 y139 : Value} {mm_ : Nat} {Q : Exit → Act → World → Prop} (hq : ∀ x113 x114 x115 x116 x117 x118 x119 x120 x121 x122 x123 x124 x125 x126 x127 x112 x128 x129 x20 x21 (L : Nat → Bool) (W : World), (∀ j, j < mm_ → L j = true) → SH18 W1 wo lo so no ln lc sn sc an nc kk b1 k1 CV gc L x113 x114 x115 x116 x117 x118 x119 x120 x121 x122 x123 x124 x125 x126 x127 x112 x128 x129 x20 x21 W → Q .normal ⟨#[y0, y1, y2, y3, y4, y5, y6, y7, y8, y9, y10, y11, y12, y13, y14, y15, y16, y17, y18, y19, x20, x21, y22, y23, y24, y25, y26, y27, y28, y29, y30, y31, y32, y33, y34, y35, y36, y37, y38, y39, y40, y41, y42, y43, y44, y45, y46, y47, y48, y49, y50, y51, y52, y53, y54, y55, y56, y57, y58, y59, y60, y61, y62, y63, y64, y65, y66, y67, y68, y69, y70, y71, y72, y73, y74, y75, y76, y77, y78, y79, y80, y81, y82, y83, y84, y85, y86, y87, y88, y89, y90, y91, y92, y93, y94, y95, y96, y97, y98, y99, y100, y101, y102, y103, y104, y105, y106, y107, y108, y109, y110, y111, x112, x113, x114, x115, x116, x117, x118, x119, x120, x121, x122, x123, x124, x125, x126, x127, x128, x129, y130, y131, y132, y133, y134, y135, y136, y137, y138, y139], []⟩ W) : ∀ L a' w', (∀ j, j < mm_ → L j = true) → ISH18 W1 wo lo so no ln lc sn sc an nc kk b1 k1 CV gc y0 y1 y2 y3 y4 y5 y6 y7 y8 y9 y10 y11 y12 y13 y14 y15 y16 y17 y18 y19 y22 y23 y24 y25 y26 y27 y28 y29 y30 y31 y32 y33 y34 y35 y36 y37 y38 y39 y40 y41 y42 y43 y44 y45 y46 y47 y48 y49 y50 y51 y52 y53 y54 y55 y56 y57 y58 y59 y60 y61 y62 y63 y64 y65 y66 y67 y68 y69 y70 y71 y72 y73 y74 y75 y76 y77 y78 y79 y80 y81 y82 y83 y84 y85 y86 y87 y88 y89 y90 y91 y92 y93 y94 y95 y96 y97 y98 y99 y100 y101 y102 y103 y104 y105 y106 y107 y108 y109 y110 y111 y130 y131 y132 y133 y134 y135 y136 y137 y138 y139 L a' w' → Q .normal a' w' := by
  rintro L a W hall ⟨x113, x114, x115, x116, x117, x118, x119, x120, x121, x122, x123, x124, x125, x126, x127, x112, x128, x129, x20, x21, rfl, h⟩
  exact hq _ _ _ _ _ _ _ _ _ _ _ _ _ _ _ _ _ _ _ _ _ _ hall h
theorem short_rem {n : Int} {L : Nat} : -(L : Int) ≤ Int.tmod n ((L : Int) + 1) ∧ Int.tmod n ((L : Int) + 1) ≤ L := by
  have h1 := Int.natAbs_tmod n ((L : Int) + 1)
  have h2 : n.natAbs % ((L : Int) + 1).natAbs < ((L : Int) + 1).natAbs := Nat.mod_lt _ (by omega)
  omega

set_option maxHeartbeats 4000000 in
set_option maxRecDepth 100000 in
theorem mshort_any (c : Cfg) (l : Secs) (S : List SP) (A : List AN) (nn : Int) (w : World) (hg : HG w) (lo : Option Addr) (lc : Nat) (so : Option Addr) (sc : Nat) (no : Option Addr) (nc : Nat) (h : In19 w l S A lo lc so sc no nc) :
    Calls Tryz.prog 4 #[.agg c.vals.toArray, .slice lo l.length lc, .slice so S.length sc, .slice no A.length nc, .int .i64 nn] w fun en w' => en = .returned (.bool true) ∧ Below w.heap.size w w' := by
  obtain ⟨w1, hw1⟩ : ∃ w1, w1 = w.alloc (.cells c.vals.toArray 23) := ⟨_, rfl⟩
  have r1 : Row w1 w.heap.size 23 c.vals := by rw [hw1]; exact Row.at w 23 _ _ _ rfl rfl
  have HB1 : Hid (Below w.heap.size w w1) := by rw [hw1]; exact (Below.refl _ _).alloc (Nat.le_refl _) _
  have CX : Hid (∀ W, Below w.heap.size w W → Calls Tryz.prog 7 #[.agg c.vals.toArray, .slice lo l.length lc, .slice so S.length sc, .slice no A.length nc] W fun en w' => en = .returned (explV (explC c l S A)) ∧ Below W.heap.size W w') := fun W hb => expl_any c l S A W (hg.below hb hg.lt) lo lc so sc no nc (h.keep hb)
  have CN : Hid (∀ W, Below w.heap.size w W → Calls Tryz.prog 7 #[.agg c.vals.toArray, .slice lo l.length lc, .slice none 0 0, .slice none 0 0] W fun en w' => en = .returned (explV (explC c l [] [])) ∧ Below W.heap.size W w') := fun W hb => expl_any c l [] [] W (hg.below hb hg.lt) lo lc none 0 none 0 (h.none.keep hb)
  have CK : Hid (∀ k, k ≤ S.length → k ≤ A.length → ∀ W, Below w.heap.size w W → Calls Tryz.prog 7 #[.agg c.vals.toArray, .slice lo l.length lc, .slice so k k, .slice no k k] W fun en w' => en = .returned (explV (explC c l (S.take k) (A.take k))) ∧ Below W.heap.size W w') := fun k h1 h2 W hb => by
    have := expl_any c l (S.take k) (A.take k) W (hg.below hb hg.lt) lo lc so k no k ((h.cut k h1 h2).keep hb)
    rw [List.length_take, List.length_take, Nat.min_eq_left h1, Nat.min_eq_left h2] at this
    exact this
  have AW' : Hid (∀ W, Below w.heap.size w W → Calls Tryz.prog 5 #[] W fun en w' => en = .returned (.bool true) ∧ Below W.heap.size W w') := fun W hb => awake19_any W (hg.below hb hg.lt)
  have lv : Hid (c.vals.length = 7) := rfl
  have hsc := h.sle
  have hnc := h.nle
  have hS := h.slen
  have HNE : Hid (S.length ≠ A.length → explC c l S A = (false, 0)) := fun hne => by unfold explC; rw [if_pos (.inr (.inr hne))]
  have HSH : Hid (S.length = A.length → _) := fun e => explC_short c l S A e
  clear h hg
  generalize c.vals = V at *
  go_enter Tryz.func4, Tryz.ntmps4
  go_wp2_with (first | (rw [← hw1]; clear hw1))
  refine (AW'.out _ HB1.out).mono ?_
  rintro en w2 ⟨rfl, hb2⟩
  dsimp only
  have r2 := r1.below hb2 r1.lt
  have HB2 : Hid (Below w.heap.size w w2) := HB1.out.trans (hb2.mono HB1.out.size)
  clear hb2 r1 HB1 AW'
  go_wp2_with (refine wpList_load_whole_g ?_ 23 (.tmp 5) rfl w.heap.size 23 7 V r2 rfl _ lv.out Tryz.underlying23 rfl (by kernel_rfl) ?_; · rfl)
  refine (CX.out _ HB2.out).mono ?_
  rintro en w3 ⟨rfl, hb3⟩
  have RG : Hid (∀ W, Below w3.heap.size w3 W → Row W w.heap.size 23 V) := fun W hb => (r2.below hb3 r2.lt).below hb (Nat.lt_of_lt_of_le r2.lt hb3.size)
  have r3 : Hid (Row w3 w.heap.size 23 V) := r2.below hb3 r2.lt
  have HB3 : Hid (Below w.heap.size w w3) := HB2.out.trans (hb3.mono HB2.out.size)
  clear hb3 r2 HB2 CX
  by_cases hlen : S.length = A.length
  · have hcases := HSH.out hlen
    rw [← hlen]
    have HLE : Hid (S.length = A.length) := hlen
    have hnc2 : S.length ≤ nc := by omega
    clear HSH HNE hlen hnc
    rcases hcases with ⟨e1, e2⟩ | ⟨e1, e2⟩ | ⟨e1, at_, hat, e2, e3, e4⟩
    · rw [e1]
      unfold explV
      dsimp only
      have hr := short_rem (n := nn) (L := S.length)
      have CT : Hid (∀ k, k ≤ S.length → ∀ W, Below w3.heap.size w3 W → Calls Tryz.prog 7 #[.agg V.toArray, .slice lo l.length lc, .slice so k k, .slice no k k] W fun en w' => en = .returned (.tuple #[.bool true, .int .i64 0]) ∧ Below W.heap.size W w') := fun k hk W hb => by
        have := CK.out k hk (by have := HLE.out; omega) W (HB3.out.trans (hb.mono HB3.out.size))
        rw [e2 k hk] at this
        exact this
      clear e1 e2 CK CN
      have RGX : Hid (∀ W, Below w3.heap.size w3 W → W.rangeAt w.heap.size 0 V) := fun W hb => by
        have := (RG.out W hb).range 0 7
        rw [List.drop_zero, List.take_of_length_le (by rw [lv.out]; exact Nat.le_refl _)] at this
        exact this
      clear RG
      have RG := RGX
      clear RGX
      obtain ⟨rr, hrr⟩ : ∃ rr, Int.tmod nn ((S.length : Int) + 1) = rr := ⟨_, rfl⟩
      rw [hrr] at hr
      have z1 : IntKind.i64.wrap ((S.length : Int) + 1) = (S.length : Int) + 1 := i64_in _ (by omega) (by omega)
      have nz : ¬ ((S.length : Int) + 1) = 0 := by omega
      have z2 : IntKind.i64.wrap rr = rr := i64_in _ (by omega) (by omega)
      by_cases hneg : rr < 0
      · have z3 : IntKind.i64.wrap (rr + ((S.length : Int) + 1)) = rr + ((S.length : Int) + 1) := i64_in _ (by omega) (by omega)
        obtain ⟨kk, hkk⟩ : ∃ kk : Nat, rr + ((S.length : Int) + 1) = (kk : Int) := ⟨(rr + ((S.length : Int) + 1)).toNat, by omega⟩
        have hks : kk ≤ S.length := by omega
        rw [hkk] at z3
        have CT2 : Hid (∀ W, Below w3.heap.size w3 W → _) := CT.out kk hks
        clear CT
        have CT := CT2
        clear CT2 hr
        go_wp2
        refine wp_region_inv (ISH10 w3 w3 lo so no l.length lc S.length sc S.length nc kk true 0 V w.heap.size _ _ _ _ _ _ _ _ _ _ _ _ _ _ _ _ _ _ _ _ _ _ _ _ _ _ _ _ _ _ _ _ _ _ _ _ _ _ _ _ _ _ _ _ _ _ _ _ _ _ _ _ _ _ _ _ _ _ _ _ _ _ _ _ _ _ _ _ _ _ _ _ _ _ _ _ _ _ _ _ _ _ _ _ _ _ _ _ _ _ _ _ _ _ _ _ _ _ _ _ _ _ _ _ _ _ _ _ _ _ _ _ _ _ _ _ _ _ _ _ _ _ _ _) (by kernel_rfl) (by kernel_rfl) ⟨_, _, _, _, _, _, _, _, _, _, _, _, _, _, _, _, rfl, ⟨(Below.refl _ _).drew, fun k => (by cases k), fun k => (by cases k), fun k => (by cases k), fun k => (by cases k), fun k => (by cases k), fun k => (by cases k), fun k => (by cases k), fun k => (by cases k), fun k => (by cases k), fun k => (by cases k), fun k => (by cases k), fun k => (by cases k), fun k => (by cases k), fun k => (by cases k), fun k => (by cases k), fun k => (by cases k)⟩⟩ ?_ ?_
        · refine .cons ?_ (.cons ?_ (.cons ?_ (.cons ?_ (.cons ?_ (.cons ?_ (.cons ?_ (.cons ?_ (.cons ?_ (.cons ?_ (.cons ?_ (.cons ?_ (.cons ?_ (.cons ?_ (.cons ?_ (.cons ?_ .nil)))))))))))))))
          all_goals (refine SH10.step ?_; intro x57 x58 x59 x60 x61 x62 x63 x64 x65 x66 x67 x56 x68 x69 x14 x15 L W hI hL hd K hK)
          · refine step_load_rng19 (by rfl) 23 _ rfl w.heap.size 0 V (RG.out _ hI.x) rfl _ Tryz.underlying23 rfl (by rw [lv.out]; kernel_rfl) ?_
            exact hK.out _ _ ⟨_, _, _, _, _, _, _, _, _, _, _, _, _, _, _, _, rfl, hI.s0⟩
          · rw [if_pos (by rfl)]
            go_simp
            exact hK.out _ _ ⟨_, _, _, _, _, _, _, _, _, _, _, _, _, _, _, _, rfl, hI.s1⟩
          · rw [if_pos (by rfl)]
            go_simp
            exact hK.out _ _ ⟨_, _, _, _, _, _, _, _, _, _, _, _, _, _, _, _, rfl, hI.s2⟩
          · rw [if_pos (by rfl)]
            go_simp
            exact hK.out _ _ ⟨_, _, _, _, _, _, _, _, _, _, _, _, _, _, _, _, rfl, hI.s3⟩
          · rw [if_pos (by rfl)]
            go_simp
            exact hK.out _ _ ⟨_, _, _, _, _, _, _, _, _, _, _, _, _, _, _, _, rfl, hI.s4⟩
          · have hx2 := hI.p2 (hd 2 (by decide))
            subst hx2
            have hx3 := hI.p3 (hd 3 (by decide))
            subst hx3
            have hx4 := hI.p4 (hd 4 (by decide))
            subst hx4
            refine step_slice19 (by rfl) 25 _ _ _ rfl (by kernel_rfl) so _ sc kk rfl rfl rfl (by omega) 4 (by kernel_rfl) ?_
            exact hK.out _ _ ⟨_, _, _, _, _, _, _, _, _, _, _, _, _, _, _, _, rfl, hI.s5⟩
          · rw [if_pos (by rfl)]
            go_simp
            exact hK.out _ _ ⟨_, _, _, _, _, _, _, _, _, _, _, _, _, _, _, _, rfl, hI.s6⟩
          · rw [if_pos (by rfl)]
            go_simp
            exact hK.out _ _ ⟨_, _, _, _, _, _, _, _, _, _, _, _, _, _, _, _, rfl, hI.s7⟩
          · rw [if_pos (by rfl)]
            go_simp
            exact hK.out _ _ ⟨_, _, _, _, _, _, _, _, _, _, _, _, _, _, _, _, rfl, hI.s8⟩
          · have hx6 := hI.p6 (hd 6 (by decide))
            subst hx6
            have hx7 := hI.p7 (hd 7 (by decide))
            subst hx7
            have hx8 := hI.p8 (hd 8 (by decide))
            subst hx8
            refine step_slice19 (by rfl) 26 _ _ _ rfl (by kernel_rfl) no _ nc kk rfl rfl rfl (by omega) 36 (by kernel_rfl) ?_
            exact hK.out _ _ ⟨_, _, _, _, _, _, _, _, _, _, _, _, _, _, _, _, rfl, hI.s9⟩
          · have hx0 := hI.p0 (hd 0 (by decide))
            subst hx0
            have hx1 := hI.p1 (hd 1 (by decide))
            subst hx1
            have hx5 := hI.p5 (hd 5 (by decide))
            subst hx5
            have hx9 := hI.p9 (hd 9 (by decide))
            subst hx9
            rw [if_pos (by rfl)]
            go_simp
            refine (CT.out _ hI.x).mono ?_
            rintro e W2 ⟨rfl, hb3⟩
            go_simp
            have hX := hI.x.trans (hb3.mono hI.x.size)
            exact hK.out _ _ ⟨_, _, _, _, _, _, _, _, _, _, _, _, _, _, _, _, rfl, hI.s10 hX⟩
          · have hx10 := hI.p10 (hd 10 (by decide))
            subst hx10
            rw [if_pos (by rfl)]
            go_simp
            exact hK.out _ _ ⟨_, _, _, _, _, _, _, _, _, _, _, _, _, _, _, _, rfl, hI.s11⟩
          · have hx11 := hI.p11 (hd 11 (by decide))
            subst hx11
            rw [if_pos (by rfl)]
            go_simp
            exact hK.out _ _ ⟨_, _, _, _, _, _, _, _, _, _, _, _, _, _, _, _, rfl, hI.s12⟩
          · have hx11 := hI.p11 (hd 11 (by decide))
            subst hx11
            rw [if_pos (by rfl)]
            go_simp
            exact hK.out _ _ ⟨_, _, _, _, _, _, _, _, _, _, _, _, _, _, _, _, rfl, hI.s13⟩
          · have hx12 := hI.p12 (hd 12 (by decide))
            subst hx12
            rw [if_pos (by rfl)]
            go_simp
            exact hK.out _ _ ⟨_, _, _, _, _, _, _, _, _, _, _, _, _, _, _, _, rfl, hI.s14⟩
          · have hx13 := hI.p13 (hd 13 (by decide))
            subst hx13
            rw [if_pos (by rfl)]
            go_simp
            exact hK.out _ _ ⟨_, _, _, _, _, _, _, _, _, _, _, _, _, _, _, _, rfl, hI.s15⟩
        · refine SH10.ends ?_; intro x57 x58 x59 x60 x61 x62 x63 x64 x65 x66 x67 x56 x68 x69 x14 x15 L W hall hI
          have hx0 := hI.p0 (hall 0 (by decide))
          subst hx0
          have hx1 := hI.p1 (hall 1 (by decide))
          subst hx1
          have hx2 := hI.p2 (hall 2 (by decide))
          subst hx2
          have hx3 := hI.p3 (hall 3 (by decide))
          subst hx3
          have hx4 := hI.p4 (hall 4 (by decide))
          subst hx4
          have hx5 := hI.p5 (hall 5 (by decide))
          subst hx5
          have hx6 := hI.p6 (hall 6 (by decide))
          subst hx6
          have hx7 := hI.p7 (hall 7 (by decide))
          subst hx7
          have hx8 := hI.p8 (hall 8 (by decide))
          subst hx8
          have hx9 := hI.p9 (hall 9 (by decide))
          subst hx9
          have hx10 := hI.p10 (hall 10 (by decide))
          subst hx10
          have hx11 := hI.p11 (hall 11 (by decide))
          subst hx11
          have hx12 := hI.p12 (hall 12 (by decide))
          subst hx12
          have hx13 := hI.p13 (hall 13 (by decide))
          subst hx13
          have hx14 := hI.p14 (hall 14 (by decide))
          subst hx14
          have hx15 := hI.p15 (hall 15 (by decide))
          subst hx15
          have hXe := hI.x
          clear hI hall
          try dsimp only
          go_wp2
          go_ret
          exact ⟨rfl, HB3.out.trans (hXe.mono HB3.out.size)⟩
      · obtain ⟨kk, hkk⟩ : ∃ kk : Nat, rr = (kk : Int) := ⟨rr.toNat, by omega⟩
        subst hkk
        have hks : kk ≤ S.length := by omega
        have CT2 : Hid (∀ W, Below w3.heap.size w3 W → _) := CT.out kk hks
        clear CT
        have CT := CT2
        clear CT2 hr
        go_wp2
        refine wp_region_inv (ISH10 w3 w3 lo so no l.length lc S.length sc S.length nc kk true 0 V w.heap.size _ _ _ _ _ _ _ _ _ _ _ _ _ _ _ _ _ _ _ _ _ _ _ _ _ _ _ _ _ _ _ _ _ _ _ _ _ _ _ _ _ _ _ _ _ _ _ _ _ _ _ _ _ _ _ _ _ _ _ _ _ _ _ _ _ _ _ _ _ _ _ _ _ _ _ _ _ _ _ _ _ _ _ _ _ _ _ _ _ _ _ _ _ _ _ _ _ _ _ _ _ _ _ _ _ _ _ _ _ _ _ _ _ _ _ _ _ _ _ _ _ _ _ _) (by kernel_rfl) (by kernel_rfl) ⟨_, _, _, _, _, _, _, _, _, _, _, _, _, _, _, _, rfl, ⟨(Below.refl _ _).drew, fun k => (by cases k), fun k => (by cases k), fun k => (by cases k), fun k => (by cases k), fun k => (by cases k), fun k => (by cases k), fun k => (by cases k), fun k => (by cases k), fun k => (by cases k), fun k => (by cases k), fun k => (by cases k), fun k => (by cases k), fun k => (by cases k), fun k => (by cases k), fun k => (by cases k), fun k => (by cases k)⟩⟩ ?_ ?_
        · refine .cons ?_ (.cons ?_ (.cons ?_ (.cons ?_ (.cons ?_ (.cons ?_ (.cons ?_ (.cons ?_ (.cons ?_ (.cons ?_ (.cons ?_ (.cons ?_ (.cons ?_ (.cons ?_ (.cons ?_ (.cons ?_ .nil)))))))))))))))
          all_goals (refine SH10.step ?_; intro x57 x58 x59 x60 x61 x62 x63 x64 x65 x66 x67 x56 x68 x69 x14 x15 L W hI hL hd K hK)
          · refine step_load_rng19 (by rfl) 23 _ rfl w.heap.size 0 V (RG.out _ hI.x) rfl _ Tryz.underlying23 rfl (by rw [lv.out]; kernel_rfl) ?_
            exact hK.out _ _ ⟨_, _, _, _, _, _, _, _, _, _, _, _, _, _, _, _, rfl, hI.s0⟩
          · rw [if_pos (by rfl)]
            go_simp
            exact hK.out _ _ ⟨_, _, _, _, _, _, _, _, _, _, _, _, _, _, _, _, rfl, hI.s1⟩
          · rw [if_pos (by rfl)]
            go_simp
            exact hK.out _ _ ⟨_, _, _, _, _, _, _, _, _, _, _, _, _, _, _, _, rfl, hI.s2⟩
          · rw [if_pos (by rfl)]
            go_simp
            exact hK.out _ _ ⟨_, _, _, _, _, _, _, _, _, _, _, _, _, _, _, _, rfl, hI.s3⟩
          · rw [if_pos (by rfl)]
            go_simp
            exact hK.out _ _ ⟨_, _, _, _, _, _, _, _, _, _, _, _, _, _, _, _, rfl, hI.s4⟩
          · have hx2 := hI.p2 (hd 2 (by decide))
            subst hx2
            have hx3 := hI.p3 (hd 3 (by decide))
            subst hx3
            have hx4 := hI.p4 (hd 4 (by decide))
            subst hx4
            refine step_slice19 (by rfl) 25 _ _ _ rfl (by kernel_rfl) so _ sc kk rfl rfl rfl (by omega) 4 (by kernel_rfl) ?_
            exact hK.out _ _ ⟨_, _, _, _, _, _, _, _, _, _, _, _, _, _, _, _, rfl, hI.s5⟩
          · rw [if_pos (by rfl)]
            go_simp
            exact hK.out _ _ ⟨_, _, _, _, _, _, _, _, _, _, _, _, _, _, _, _, rfl, hI.s6⟩
          · rw [if_pos (by rfl)]
            go_simp
            exact hK.out _ _ ⟨_, _, _, _, _, _, _, _, _, _, _, _, _, _, _, _, rfl, hI.s7⟩
          · rw [if_pos (by rfl)]
            go_simp
            exact hK.out _ _ ⟨_, _, _, _, _, _, _, _, _, _, _, _, _, _, _, _, rfl, hI.s8⟩
          · have hx6 := hI.p6 (hd 6 (by decide))
            subst hx6
            have hx7 := hI.p7 (hd 7 (by decide))
            subst hx7
            have hx8 := hI.p8 (hd 8 (by decide))
            subst hx8
            refine step_slice19 (by rfl) 26 _ _ _ rfl (by kernel_rfl) no _ nc kk rfl rfl rfl (by omega) 36 (by kernel_rfl) ?_
            exact hK.out _ _ ⟨_, _, _, _, _, _, _, _, _, _, _, _, _, _, _, _, rfl, hI.s9⟩
          · have hx0 := hI.p0 (hd 0 (by decide))
            subst hx0
            have hx1 := hI.p1 (hd 1 (by decide))
            subst hx1
            have hx5 := hI.p5 (hd 5 (by decide))
            subst hx5
            have hx9 := hI.p9 (hd 9 (by decide))
            subst hx9
            rw [if_pos (by rfl)]
            go_simp
            refine (CT.out _ hI.x).mono ?_
            rintro e W2 ⟨rfl, hb3⟩
            go_simp
            have hX := hI.x.trans (hb3.mono hI.x.size)
            exact hK.out _ _ ⟨_, _, _, _, _, _, _, _, _, _, _, _, _, _, _, _, rfl, hI.s10 hX⟩
          · have hx10 := hI.p10 (hd 10 (by decide))
            subst hx10
            rw [if_pos (by rfl)]
            go_simp
            exact hK.out _ _ ⟨_, _, _, _, _, _, _, _, _, _, _, _, _, _, _, _, rfl, hI.s11⟩
          · have hx11 := hI.p11 (hd 11 (by decide))
            subst hx11
            rw [if_pos (by rfl)]
            go_simp
            exact hK.out _ _ ⟨_, _, _, _, _, _, _, _, _, _, _, _, _, _, _, _, rfl, hI.s12⟩
          · have hx11 := hI.p11 (hd 11 (by decide))
            subst hx11
            rw [if_pos (by rfl)]
            go_simp
            exact hK.out _ _ ⟨_, _, _, _, _, _, _, _, _, _, _, _, _, _, _, _, rfl, hI.s13⟩
          · have hx12 := hI.p12 (hd 12 (by decide))
            subst hx12
            rw [if_pos (by rfl)]
            go_simp
            exact hK.out _ _ ⟨_, _, _, _, _, _, _, _, _, _, _, _, _, _, _, _, rfl, hI.s14⟩
          · have hx13 := hI.p13 (hd 13 (by decide))
            subst hx13
            rw [if_pos (by rfl)]
            go_simp
            exact hK.out _ _ ⟨_, _, _, _, _, _, _, _, _, _, _, _, _, _, _, _, rfl, hI.s15⟩
        · refine SH10.ends ?_; intro x57 x58 x59 x60 x61 x62 x63 x64 x65 x66 x67 x56 x68 x69 x14 x15 L W hall hI
          have hx0 := hI.p0 (hall 0 (by decide))
          subst hx0
          have hx1 := hI.p1 (hall 1 (by decide))
          subst hx1
          have hx2 := hI.p2 (hall 2 (by decide))
          subst hx2
          have hx3 := hI.p3 (hall 3 (by decide))
          subst hx3
          have hx4 := hI.p4 (hall 4 (by decide))
          subst hx4
          have hx5 := hI.p5 (hall 5 (by decide))
          subst hx5
          have hx6 := hI.p6 (hall 6 (by decide))
          subst hx6
          have hx7 := hI.p7 (hall 7 (by decide))
          subst hx7
          have hx8 := hI.p8 (hall 8 (by decide))
          subst hx8
          have hx9 := hI.p9 (hall 9 (by decide))
          subst hx9
          have hx10 := hI.p10 (hall 10 (by decide))
          subst hx10
          have hx11 := hI.p11 (hall 11 (by decide))
          subst hx11
          have hx12 := hI.p12 (hall 12 (by decide))
          subst hx12
          have hx13 := hI.p13 (hall 13 (by decide))
          subst hx13
          have hx14 := hI.p14 (hall 14 (by decide))
          subst hx14
          have hx15 := hI.p15 (hall 15 (by decide))
          subst hx15
          have hXe := hI.x
          clear hI hall
          try dsimp only
          go_wp2
          go_ret
          exact ⟨rfl, HB3.out.trans (hXe.mono HB3.out.size)⟩
    · rw [e2]
      unfold explV
      rw [e1] at CN
      unfold explV at CN
      dsimp only at CN ⊢
      clear e1 e2 CK
      go_wp2_with (first | (refine wpList_load_whole_g ?_ 23 (.tmp 5) rfl w.heap.size 23 7 V r3.out rfl _ lv.out Tryz.underlying23 rfl (by kernel_rfl) ?_; · rfl))
      refine (CN.out _ HB3.out).mono ?_
      rintro en w4 ⟨rfl, hb4⟩
      dsimp only
      have HB4 : Hid (Below w.heap.size w w4) := HB3.out.trans (hb4.mono HB3.out.size)
      clear hb4
      go_wp2
      go_ret
      exact ⟨rfl, HB4.out⟩
    · rw [e2]
      rw [e1] at CN
      unfold explV at CN ⊢
      dsimp only at CN ⊢
      have CT3 : Hid (∀ W, Below w.heap.size w W → Calls Tryz.prog 7 #[.agg V.toArray, .slice lo l.length lc, .slice so at_ at_, .slice no at_ at_] W fun en w' => en = .returned (.tuple #[.bool true, .int .i64 ((0 : Nat) : Int)]) ∧ Below W.heap.size W w') := fun W hb => by
        have := CK.out at_ (by omega) (by have := HLE.out; omega) W hb
        rw [e3] at this
        exact this
      have CT4 : Hid (∀ W, Below w.heap.size w W → Calls Tryz.prog 7 #[.agg V.toArray, .slice lo l.length lc, .slice so (at_ + 1) (at_ + 1), .slice no (at_ + 1) (at_ + 1)] W fun en w' => en = .returned (.tuple #[.bool false, .int .i64 (at_ : Int)]) ∧ Below W.heap.size W w') := fun W hb => by
        have := CK.out (at_ + 1) (by omega) (by have := HLE.out; omega) W hb
        rw [e4] at this
        exact this
      clear e1 e2 e3 e4 CK
      have y0 : ¬ (at_ : Int) < 0 := by omega
      have y1 : decide ((at_ : Int) < 0) = false := by rw [decide_eq_false_iff_not]; exact y0
      have y2 : ¬ (S.length : Int) ≤ (at_ : Int) := by omega
      have y3 : decide (S.length ≤ at_) = false := by rw [decide_eq_false_iff_not]; omega
      clear y2
      have y4 : ((S.length : Int) == 0) = false := by rw [beq_eq_false_iff_ne]; omega
      have z1 : IntKind.i64.wrap ((at_ : Int) + 1) = ((at_ + 1 : Nat) : Int) := by rw [i64_in _ (by omega) (by omega)]; rfl
      go_wp2_with (first | (refine wpList_load_whole_g ?_ 23 (.tmp 5) rfl w.heap.size 23 7 V r3.out rfl _ lv.out Tryz.underlying23 rfl (by kernel_rfl) ?_; · rfl))
      refine (CN.out _ HB3.out).mono ?_
      rintro en w4 ⟨rfl, hb4⟩
      dsimp only
      have HB4 : Hid (Below w.heap.size w w4) := HB3.out.trans (hb4.mono HB3.out.size)
      have RG4 : Hid (∀ W, Below w4.heap.size w4 W → W.rangeAt w.heap.size 0 V) := fun W hb => by
        have := (RG.out W (hb4.trans (hb.mono hb4.size))).range 0 7
        rw [List.drop_zero, List.take_of_length_le (by rw [lv.out]; exact Nat.le_refl _)] at this
        exact this
      have CT : Hid (∀ W, Below w4.heap.size w4 W → _) := fun W hb => CT3.out W (HB4.out.trans (hb.mono HB4.out.size))
      clear hb4 RG r3 CT3 CN HB3
      have RG := RG4
      clear RG4
      go_wp2
      refine wp_region_inv (ISH17 w4 w4 lo so no l.length lc S.length sc S.length nc at_ true 0 V w.heap.size _ _ _ _ _ _ _ _ _ _ _ _ _ _ _ _ _ _ _ _ _ _ _ _ _ _ _ _ _ _ _ _ _ _ _ _ _ _ _ _ _ _ _ _ _ _ _ _ _ _ _ _ _ _ _ _ _ _ _ _ _ _ _ _ _ _ _ _ _ _ _ _ _ _ _ _ _ _ _ _ _ _ _ _ _ _ _ _ _ _ _ _ _ _ _ _ _ _ _ _ _ _ _ _ _ _ _ _ _ _ _ _ _ _ _ _ _ _ _ _ _ _ _ _) (by kernel_rfl) (by kernel_rfl) ⟨_, _, _, _, _, _, _, _, _, _, _, _, _, _, _, _, rfl, ⟨(Below.refl _ _).drew, fun k => (by cases k), fun k => (by cases k), fun k => (by cases k), fun k => (by cases k), fun k => (by cases k), fun k => (by cases k), fun k => (by cases k), fun k => (by cases k), fun k => (by cases k), fun k => (by cases k), fun k => (by cases k), fun k => (by cases k), fun k => (by cases k), fun k => (by cases k), fun k => (by cases k), fun k => (by cases k)⟩⟩ ?_ ?_
      · refine .cons ?_ (.cons ?_ (.cons ?_ (.cons ?_ (.cons ?_ (.cons ?_ (.cons ?_ (.cons ?_ (.cons ?_ (.cons ?_ (.cons ?_ (.cons ?_ (.cons ?_ (.cons ?_ (.cons ?_ (.cons ?_ .nil)))))))))))))))
        all_goals (refine SH17.step ?_; intro x99 x100 x101 x102 x103 x104 x105 x106 x107 x108 x109 x98 x110 x111 x18 x19 L W hI hL hd K hK)
        · refine step_load_rng19 (by rfl) 23 _ rfl w.heap.size 0 V (RG.out _ hI.x) rfl _ Tryz.underlying23 rfl (by rw [lv.out]; kernel_rfl) ?_
          exact hK.out _ _ ⟨_, _, _, _, _, _, _, _, _, _, _, _, _, _, _, _, rfl, hI.s0⟩
        · rw [if_pos (by rfl)]
          go_simp
          exact hK.out _ _ ⟨_, _, _, _, _, _, _, _, _, _, _, _, _, _, _, _, rfl, hI.s1⟩
        · rw [if_pos (by rfl)]
          go_simp
          exact hK.out _ _ ⟨_, _, _, _, _, _, _, _, _, _, _, _, _, _, _, _, rfl, hI.s2⟩
        · rw [if_pos (by rfl)]
          go_simp
          exact hK.out _ _ ⟨_, _, _, _, _, _, _, _, _, _, _, _, _, _, _, _, rfl, hI.s3⟩
        · rw [if_pos (by rfl)]
          go_simp
          exact hK.out _ _ ⟨_, _, _, _, _, _, _, _, _, _, _, _, _, _, _, _, rfl, hI.s4⟩
        · have hx2 := hI.p2 (hd 2 (by decide))
          subst hx2
          have hx3 := hI.p3 (hd 3 (by decide))
          subst hx3
          have hx4 := hI.p4 (hd 4 (by decide))
          subst hx4
          refine step_slice19 (by rfl) 25 _ _ _ rfl (by kernel_rfl) so _ sc at_ rfl rfl rfl (by omega) 4 (by kernel_rfl) ?_
          exact hK.out _ _ ⟨_, _, _, _, _, _, _, _, _, _, _, _, _, _, _, _, rfl, hI.s5⟩
        · rw [if_pos (by rfl)]
          go_simp
          exact hK.out _ _ ⟨_, _, _, _, _, _, _, _, _, _, _, _, _, _, _, _, rfl, hI.s6⟩
        · rw [if_pos (by rfl)]
          go_simp
          exact hK.out _ _ ⟨_, _, _, _, _, _, _, _, _, _, _, _, _, _, _, _, rfl, hI.s7⟩
        · rw [if_pos (by rfl)]
          go_simp
          exact hK.out _ _ ⟨_, _, _, _, _, _, _, _, _, _, _, _, _, _, _, _, rfl, hI.s8⟩
        · have hx6 := hI.p6 (hd 6 (by decide))
          subst hx6
          have hx7 := hI.p7 (hd 7 (by decide))
          subst hx7
          have hx8 := hI.p8 (hd 8 (by decide))
          subst hx8
          refine step_slice19 (by rfl) 26 _ _ _ rfl (by kernel_rfl) no _ nc at_ rfl rfl rfl (by omega) 36 (by kernel_rfl) ?_
          exact hK.out _ _ ⟨_, _, _, _, _, _, _, _, _, _, _, _, _, _, _, _, rfl, hI.s9⟩
        · have hx0 := hI.p0 (hd 0 (by decide))
          subst hx0
          have hx1 := hI.p1 (hd 1 (by decide))
          subst hx1
          have hx5 := hI.p5 (hd 5 (by decide))
          subst hx5
          have hx9 := hI.p9 (hd 9 (by decide))
          subst hx9
          rw [if_pos (by rfl)]
          go_simp
          refine (CT.out _ hI.x).mono ?_
          rintro e W2 ⟨rfl, hb3⟩
          go_simp
          have hX := hI.x.trans (hb3.mono hI.x.size)
          exact hK.out _ _ ⟨_, _, _, _, _, _, _, _, _, _, _, _, _, _, _, _, rfl, hI.s10 hX⟩
        · have hx10 := hI.p10 (hd 10 (by decide))
          subst hx10
          rw [if_pos (by rfl)]
          go_simp
          exact hK.out _ _ ⟨_, _, _, _, _, _, _, _, _, _, _, _, _, _, _, _, rfl, hI.s11⟩
        · have hx11 := hI.p11 (hd 11 (by decide))
          subst hx11
          rw [if_pos (by rfl)]
          go_simp
          exact hK.out _ _ ⟨_, _, _, _, _, _, _, _, _, _, _, _, _, _, _, _, rfl, hI.s12⟩
        · have hx11 := hI.p11 (hd 11 (by decide))
          subst hx11
          rw [if_pos (by rfl)]
          go_simp
          exact hK.out _ _ ⟨_, _, _, _, _, _, _, _, _, _, _, _, _, _, _, _, rfl, hI.s13⟩
        · have hx12 := hI.p12 (hd 12 (by decide))
          subst hx12
          rw [if_pos (by rfl)]
          go_simp
          exact hK.out _ _ ⟨_, _, _, _, _, _, _, _, _, _, _, _, _, _, _, _, rfl, hI.s14⟩
        · have hx13 := hI.p13 (hd 13 (by decide))
          subst hx13
          rw [if_pos (by rfl)]
          go_simp
          exact hK.out _ _ ⟨_, _, _, _, _, _, _, _, _, _, _, _, _, _, _, _, rfl, hI.s15⟩
      · refine SH17.ends ?_; intro x99 x100 x101 x102 x103 x104 x105 x106 x107 x108 x109 x98 x110 x111 x18 x19 L W hall hI
        have hx0 := hI.p0 (hall 0 (by decide))
        subst hx0
        have hx1 := hI.p1 (hall 1 (by decide))
        subst hx1
        have hx2 := hI.p2 (hall 2 (by decide))
        subst hx2
        have hx3 := hI.p3 (hall 3 (by decide))
        subst hx3
        have hx4 := hI.p4 (hall 4 (by decide))
        subst hx4
        have hx5 := hI.p5 (hall 5 (by decide))
        subst hx5
        have hx6 := hI.p6 (hall 6 (by decide))
        subst hx6
        have hx7 := hI.p7 (hall 7 (by decide))
        subst hx7
        have hx8 := hI.p8 (hall 8 (by decide))
        subst hx8
        have hx9 := hI.p9 (hall 9 (by decide))
        subst hx9
        have hx10 := hI.p10 (hall 10 (by decide))
        subst hx10
        have hx11 := hI.p11 (hall 11 (by decide))
        subst hx11
        have hx12 := hI.p12 (hall 12 (by decide))
        subst hx12
        have hx13 := hI.p13 (hall 13 (by decide))
        subst hx13
        have hx14 := hI.p14 (hall 14 (by decide))
        subst hx14
        have hx15 := hI.p15 (hall 15 (by decide))
        subst hx15
        have hXe := hI.x
        clear hI hall
        try dsimp only
        generalize hW5 : W = w5 at *
        clear hW5
        have HB5 : Hid (Below w.heap.size w w5) := HB4.out.trans (hXe.mono HB4.out.size)
        have RG5 : Hid (∀ W, Below w5.heap.size w5 W → W.rangeAt w.heap.size 0 V) := fun W hb => RG.out W (hXe.trans (hb.mono hXe.size))
        clear CT RG HB4 hXe
        have RG := RG5
        have CT : Hid (∀ W, Below w5.heap.size w5 W → _) := fun W hb => CT4.out W (HB5.out.trans (hb.mono HB5.out.size))
        clear RG5 CT4
        go_wp2
        refine wp_region_inv (ISH18 w5 w5 lo so no l.length lc S.length sc S.length nc at_ false at_ V w.heap.size _ _ _ _ _ _ _ _ _ _ _ _ _ _ _ _ _ _ _ _ _ _ _ _ _ _ _ _ _ _ _ _ _ _ _ _ _ _ _ _ _ _ _ _ _ _ _ _ _ _ _ _ _ _ _ _ _ _ _ _ _ _ _ _ _ _ _ _ _ _ _ _ _ _ _ _ _ _ _ _ _ _ _ _ _ _ _ _ _ _ _ _ _ _ _ _ _ _ _ _ _ _ _ _ _ _ _ _ _ _ _ _ _ _ _ _ _ _ _ _) (by kernel_rfl) (by kernel_rfl) ⟨_, _, _, _, _, _, _, _, _, _, _, _, _, _, _, _, _, _, _, _, rfl, ⟨(Below.refl _ _).drew, fun k => (by cases k), fun k => (by cases k), fun k => (by cases k), fun k => (by cases k), fun k => (by cases k), fun k => (by cases k), fun k => (by cases k), fun k => (by cases k), fun k => (by cases k), fun k => (by cases k), fun k => (by cases k), fun k => (by cases k), fun k => (by cases k), fun k => (by cases k), fun k => (by cases k), fun k => (by cases k), fun k => (by cases k), fun k => (by cases k), fun k => (by cases k), fun k => (by cases k)⟩⟩ ?_ ?_
        · refine .cons ?_ (.cons ?_ (.cons ?_ (.cons ?_ (.cons ?_ (.cons ?_ (.cons ?_ (.cons ?_ (.cons ?_ (.cons ?_ (.cons ?_ (.cons ?_ (.cons ?_ (.cons ?_ (.cons ?_ (.cons ?_ (.cons ?_ (.cons ?_ (.cons ?_ (.cons ?_ .nil)))))))))))))))))))
          all_goals (refine SH18.step ?_; intro x113 x114 x115 x116 x117 x118 x119 x120 x121 x122 x123 x124 x125 x126 x127 x112 x128 x129 x20 x21 L W hI hL hd K hK)
          · refine step_load_rng19 (by rfl) 23 _ rfl w.heap.size 0 V (RG.out _ hI.x) rfl _ Tryz.underlying23 rfl (by rw [lv.out]; kernel_rfl) ?_
            exact hK.out _ _ ⟨_, _, _, _, _, _, _, _, _, _, _, _, _, _, _, _, _, _, _, _, rfl, hI.s0⟩
          · rw [if_pos (by rfl)]
            go_simp
            exact hK.out _ _ ⟨_, _, _, _, _, _, _, _, _, _, _, _, _, _, _, _, _, _, _, _, rfl, hI.s1⟩
          · rw [if_pos (by rfl)]
            go_simp
            exact hK.out _ _ ⟨_, _, _, _, _, _, _, _, _, _, _, _, _, _, _, _, _, _, _, _, rfl, hI.s2⟩
          · rw [if_pos (by rfl)]
            go_simp
            exact hK.out _ _ ⟨_, _, _, _, _, _, _, _, _, _, _, _, _, _, _, _, _, _, _, _, rfl, hI.s3⟩
          · have hx3 := hI.p3 (hd 3 (by decide))
            subst hx3
            rw [if_pos (by rfl)]
            go_simp
            exact hK.out _ _ ⟨_, _, _, _, _, _, _, _, _, _, _, _, _, _, _, _, _, _, _, _, rfl, hI.s4⟩
          · rw [if_pos (by rfl)]
            go_simp
            exact hK.out _ _ ⟨_, _, _, _, _, _, _, _, _, _, _, _, _, _, _, _, _, _, _, _, rfl, hI.s5⟩
          · have hx5 := hI.p5 (hd 5 (by decide))
            subst hx5
            rw [if_pos (by rfl)]
            go_simp
            exact hK.out _ _ ⟨_, _, _, _, _, _, _, _, _, _, _, _, _, _, _, _, _, _, _, _, rfl, hI.s6⟩
          · have hx2 := hI.p2 (hd 2 (by decide))
            subst hx2
            have hx4 := hI.p4 (hd 4 (by decide))
            subst hx4
            have hx6 := hI.p6 (hd 6 (by decide))
            subst hx6
            refine step_slice19 (by rfl) 25 _ _ _ rfl (by kernel_rfl) so _ sc (at_ + 1) rfl rfl rfl (by omega) 4 (by kernel_rfl) ?_
            exact hK.out _ _ ⟨_, _, _, _, _, _, _, _, _, _, _, _, _, _, _, _, _, _, _, _, rfl, hI.s7⟩
          · rw [if_pos (by rfl)]
            go_simp
            exact hK.out _ _ ⟨_, _, _, _, _, _, _, _, _, _, _, _, _, _, _, _, _, _, _, _, rfl, hI.s8⟩
          · rw [if_pos (by rfl)]
            go_simp
            exact hK.out _ _ ⟨_, _, _, _, _, _, _, _, _, _, _, _, _, _, _, _, _, _, _, _, rfl, hI.s9⟩
          · have hx9 := hI.p9 (hd 9 (by decide))
            subst hx9
            rw [if_pos (by rfl)]
            go_simp
            exact hK.out _ _ ⟨_, _, _, _, _, _, _, _, _, _, _, _, _, _, _, _, _, _, _, _, rfl, hI.s10⟩
          · rw [if_pos (by rfl)]
            go_simp
            exact hK.out _ _ ⟨_, _, _, _, _, _, _, _, _, _, _, _, _, _, _, _, _, _, _, _, rfl, hI.s11⟩
          · have hx11 := hI.p11 (hd 11 (by decide))
            subst hx11
            rw [if_pos (by rfl)]
            go_simp
            exact hK.out _ _ ⟨_, _, _, _, _, _, _, _, _, _, _, _, _, _, _, _, _, _, _, _, rfl, hI.s12⟩
          · have hx8 := hI.p8 (hd 8 (by decide))
            subst hx8
            have hx10 := hI.p10 (hd 10 (by decide))
            subst hx10
            have hx12 := hI.p12 (hd 12 (by decide))
            subst hx12
            refine step_slice19 (by rfl) 26 _ _ _ rfl (by kernel_rfl) no _ nc (at_ + 1) rfl rfl rfl (by omega) 36 (by kernel_rfl) ?_
            exact hK.out _ _ ⟨_, _, _, _, _, _, _, _, _, _, _, _, _, _, _, _, _, _, _, _, rfl, hI.s13⟩
          · have hx0 := hI.p0 (hd 0 (by decide))
            subst hx0
            have hx1 := hI.p1 (hd 1 (by decide))
            subst hx1
            have hx7 := hI.p7 (hd 7 (by decide))
            subst hx7
            have hx13 := hI.p13 (hd 13 (by decide))
            subst hx13
            rw [if_pos (by rfl)]
            go_simp
            refine (CT.out _ hI.x).mono ?_
            rintro e W2 ⟨rfl, hb3⟩
            go_simp
            have hX := hI.x.trans (hb3.mono hI.x.size)
            exact hK.out _ _ ⟨_, _, _, _, _, _, _, _, _, _, _, _, _, _, _, _, _, _, _, _, rfl, hI.s14 hX⟩
          · have hx14 := hI.p14 (hd 14 (by decide))
            subst hx14
            rw [if_pos (by rfl)]
            go_simp
            exact hK.out _ _ ⟨_, _, _, _, _, _, _, _, _, _, _, _, _, _, _, _, _, _, _, _, rfl, hI.s15⟩
          · have hx15 := hI.p15 (hd 15 (by decide))
            subst hx15
            rw [if_pos (by rfl)]
            go_simp
            exact hK.out _ _ ⟨_, _, _, _, _, _, _, _, _, _, _, _, _, _, _, _, _, _, _, _, rfl, hI.s16⟩
          · have hx15 := hI.p15 (hd 15 (by decide))
            subst hx15
            rw [if_pos (by rfl)]
            go_simp
            exact hK.out _ _ ⟨_, _, _, _, _, _, _, _, _, _, _, _, _, _, _, _, _, _, _, _, rfl, hI.s17⟩
          · have hx16 := hI.p16 (hd 16 (by decide))
            subst hx16
            rw [if_pos (by rfl)]
            go_simp
            exact hK.out _ _ ⟨_, _, _, _, _, _, _, _, _, _, _, _, _, _, _, _, _, _, _, _, rfl, hI.s18⟩
          · have hx17 := hI.p17 (hd 17 (by decide))
            subst hx17
            rw [if_pos (by rfl)]
            go_simp
            exact hK.out _ _ ⟨_, _, _, _, _, _, _, _, _, _, _, _, _, _, _, _, _, _, _, _, rfl, hI.s19⟩
        · refine SH18.ends ?_; intro x113 x114 x115 x116 x117 x118 x119 x120 x121 x122 x123 x124 x125 x126 x127 x112 x128 x129 x20 x21 L W hall hI
          have hx0 := hI.p0 (hall 0 (by decide))
          subst hx0
          have hx1 := hI.p1 (hall 1 (by decide))
          subst hx1
          have hx2 := hI.p2 (hall 2 (by decide))
          subst hx2
          have hx3 := hI.p3 (hall 3 (by decide))
          subst hx3
          have hx4 := hI.p4 (hall 4 (by decide))
          subst hx4
          have hx5 := hI.p5 (hall 5 (by decide))
          subst hx5
          have hx6 := hI.p6 (hall 6 (by decide))
          subst hx6
          have hx7 := hI.p7 (hall 7 (by decide))
          subst hx7
          have hx8 := hI.p8 (hall 8 (by decide))
          subst hx8
          have hx9 := hI.p9 (hall 9 (by decide))
          subst hx9
          have hx10 := hI.p10 (hall 10 (by decide))
          subst hx10
          have hx11 := hI.p11 (hall 11 (by decide))
          subst hx11
          have hx12 := hI.p12 (hall 12 (by decide))
          subst hx12
          have hx13 := hI.p13 (hall 13 (by decide))
          subst hx13
          have hx14 := hI.p14 (hall 14 (by decide))
          subst hx14
          have hx15 := hI.p15 (hall 15 (by decide))
          subst hx15
          have hx16 := hI.p16 (hall 16 (by decide))
          subst hx16
          have hx17 := hI.p17 (hall 17 (by decide))
          subst hx17
          have hx18 := hI.p18 (hall 18 (by decide))
          subst hx18
          have hx19 := hI.p19 (hall 19 (by decide))
          subst hx19
          have hXe := hI.x
          clear hI hall
          try dsimp only
          go_wp2
          go_ret
          exact ⟨rfl, HB5.out.trans (hXe.mono HB5.out.size)⟩
  · rw [HNE.out hlen]
    have yl : ((S.length : Int) == (A.length : Int)) = false := by rw [beq_eq_false_iff_ne]; omega
    unfold explV
    dsimp only
    go_wp2
    go_ret
    exact ⟨rfl, HB3.out⟩
end Go.Proofs.YtpcgkjngpdplmaaGreatDoor
