
import Derived.Test.YtpcgkjngpdplmaaGreatDoorN19Er
/-! The code's model: Explains. (Printed by tools/genn19.py.) -/
namespace Go.Proofs.YtpcgkjngpdplmaaGreatDoor
open Go.RowKit Go.Maps
set_option linter.unusedVariables false
set_option linter.unusedSimpArgs false

theorem KgO.more {N M M' : Nat} {w : World} {g b : Nat} {vs : List Value} {l : Secs} (h : KgO N M w g b vs l) (h1 : M ≤ M') (h2 : M' ≤ w.heap.size) : KgO N M' w g b vs l :=
  ⟨h.row, h.mp, h.len, ⟨h.lo.1, by have := h.lo.2.1; omega, h.lo.2.2.1, by have := h.lo.2.2.2; omega⟩, h2, fun i hi => by
    obtain ⟨q, c, e, a1, a2, a3, a4⟩ := h.bytes i hi
    exact ⟨q, c, e, a1, a2, a3, by omega⟩⟩
theorem mk_map0 (w : World) : (Instr.makeMap 70 none).run Tryz.prog w = .ok (.map (some w.heap.size)) (w.alloc (.map #[] 0)) := by
  simp [Instr.makeMap, run_underlying Tryz.underlying70, asInt, Result.andThen]
theorem firstC_wf : firstC.Wf := by
  have h : firstC.Ok ⟨4, 1, 1, 1, 1, 1, 0⟩ 1 := firstC_ok (l := []) (ckok_of (by decide) (by decide))
  exact h.wf (by decide) (by decide)
theorem build_first (w : World) : (Instr.build 67 #[(7, .bool true), (8, .bool true)]).run Tryz.prog w = .ok (csV firstC) w := by kernel_rfl
theorem look_wf {o : SP} {a : AN} (h : a.Wf) : (lookC o a).Wf := by
  unfold lookC
  split
  · exact ⟨h.e, h.v, by simp⟩
  · exact h
structure EX9 (W1 : World) (N : Nat) (w : World) (mg rg nb sg cap sb cb : Nat) (c : Cfg) (l : Secs) (B : List (List By)) (oo : SP) (bo : Option Addr) (bc : Nat) (an : AN) (acts : Int) (C : List CS) (ab aof al ac ii : Nat) (L : Nat → Bool) (x51 x52 x53 x54 x55 x56 x57 x58 x59 x60 x61 x14 : Value) (W : World) : Prop where
  x : XB N w mg rg nb sg cap cb c l B oo an C (L 3) (L 10) (L 11) x54 x61 x14 W
  p0 : L 0 = true → x51 = .map (some cb)
  p1 : L 1 = true → x52 = .pointer (some ⟨mg, 0, none⟩)
  p2 : L 2 = true → x53 = .agg (spC oo bo bc).toArray
  p4 : L 4 = true → x55 = .agg (spC oo bo bc).toArray
  p5 : L 5 = true → x56 = .slice (some ⟨ab, aof, none⟩) al ac
  p6 : L 6 = true → x57 = .int .i64 (ii : Int)
  p7 : L 7 = true → x58 = .pointer (some ⟨ab, aof + ii * 36, none⟩)
  p8 : L 8 = true → x59 = .agg (anC an acts).toArray
  p9 : L 9 = true → x60 = .agg (anC (lookC oo an) 0).toArray
  c11_10 : L 11 = true → L 10 = true
  c10_0 : L 10 = true → L 0 = true
  c10_3 : L 10 = true → L 3 = true
section
variable {W1 : World} {N : Nat} {w : World} {mg rg nb sg cap sb cb : Nat} {c : Cfg} {l : Secs} {B : List (List By)} {oo : SP} {bo : Option Addr} {bc : Nat} {an : AN} {acts : Int} {C : List CS} {ab aof al ac ii : Nat} {L : Nat → Bool} {x51 x52 x53 x54 x55 x56 x57 x58 x59 x60 x61 x14 : Value} {W W2 : World}
theorem EX9.s0 (h : EX9 W1 N w mg rg nb sg cap sb cb c l B oo bo bc an acts C ab aof al ac ii L x51 x52 x53 x54 x55 x56 x57 x58 x59 x60 x61 x14 W) : EX9 W1 N w mg rg nb sg cap sb cb c l B oo bo bc an acts C ab aof al ac ii (upd L 0) (.map (some cb)) x52 x53 x54 x55 x56 x57 x58 x59 x60 x61 x14 W :=
  ⟨h.x, fun _ => rfl, h.p1, h.p2, h.p4, h.p5, h.p6, h.p7, h.p8, h.p9, h.c11_10, fun _ => rfl, h.c10_3⟩
theorem EX9.s1 (h : EX9 W1 N w mg rg nb sg cap sb cb c l B oo bo bc an acts C ab aof al ac ii L x51 x52 x53 x54 x55 x56 x57 x58 x59 x60 x61 x14 W) : EX9 W1 N w mg rg nb sg cap sb cb c l B oo bo bc an acts C ab aof al ac ii (upd L 1) x51 (.pointer (some ⟨mg, 0, none⟩)) x53 x54 x55 x56 x57 x58 x59 x60 x61 x14 W :=
  ⟨h.x, h.p0, fun _ => rfl, h.p2, h.p4, h.p5, h.p6, h.p7, h.p8, h.p9, h.c11_10, h.c10_0, h.c10_3⟩
theorem EX9.s2 (h : EX9 W1 N w mg rg nb sg cap sb cb c l B oo bo bc an acts C ab aof al ac ii L x51 x52 x53 x54 x55 x56 x57 x58 x59 x60 x61 x14 W) : EX9 W1 N w mg rg nb sg cap sb cb c l B oo bo bc an acts C ab aof al ac ii (upd L 2) x51 x52 (.agg (spC oo bo bc).toArray) x54 x55 x56 x57 x58 x59 x60 x61 x14 W :=
  ⟨h.x, h.p0, h.p1, fun _ => rfl, h.p4, h.p5, h.p6, h.p7, h.p8, h.p9, h.c11_10, h.c10_0, h.c10_3⟩
theorem EX9.s3 (h : EX9 W1 N w mg rg nb sg cap sb cb c l B oo bo bc an acts C ab aof al ac ii L x51 x52 x53 x54 x55 x56 x57 x58 x59 x60 x61 x14 W) {v : Value} (hX : XB N w mg rg nb sg cap cb c l B oo an C ((upd L 3) 3) ((upd L 3) 10) ((upd L 3) 11) v x61 x14 W2) : EX9 W1 N w mg rg nb sg cap sb cb c l B oo bo bc an acts C ab aof al ac ii (upd L 3) x51 x52 x53 v x55 x56 x57 x58 x59 x60 x61 x14 W2 :=
  ⟨hX, h.p0, h.p1, h.p2, h.p4, h.p5, h.p6, h.p7, h.p8, h.p9, h.c11_10, h.c10_0, fun _ => rfl⟩
theorem EX9.s4 (h : EX9 W1 N w mg rg nb sg cap sb cb c l B oo bo bc an acts C ab aof al ac ii L x51 x52 x53 x54 x55 x56 x57 x58 x59 x60 x61 x14 W) : EX9 W1 N w mg rg nb sg cap sb cb c l B oo bo bc an acts C ab aof al ac ii (upd L 4) x51 x52 x53 x54 (.agg (spC oo bo bc).toArray) x56 x57 x58 x59 x60 x61 x14 W :=
  ⟨h.x, h.p0, h.p1, h.p2, fun _ => rfl, h.p5, h.p6, h.p7, h.p8, h.p9, h.c11_10, h.c10_0, h.c10_3⟩
theorem EX9.s5 (h : EX9 W1 N w mg rg nb sg cap sb cb c l B oo bo bc an acts C ab aof al ac ii L x51 x52 x53 x54 x55 x56 x57 x58 x59 x60 x61 x14 W) : EX9 W1 N w mg rg nb sg cap sb cb c l B oo bo bc an acts C ab aof al ac ii (upd L 5) x51 x52 x53 x54 x55 (.slice (some ⟨ab, aof, none⟩) al ac) x57 x58 x59 x60 x61 x14 W :=
  ⟨h.x, h.p0, h.p1, h.p2, h.p4, fun _ => rfl, h.p6, h.p7, h.p8, h.p9, h.c11_10, h.c10_0, h.c10_3⟩
theorem EX9.s6 (h : EX9 W1 N w mg rg nb sg cap sb cb c l B oo bo bc an acts C ab aof al ac ii L x51 x52 x53 x54 x55 x56 x57 x58 x59 x60 x61 x14 W) : EX9 W1 N w mg rg nb sg cap sb cb c l B oo bo bc an acts C ab aof al ac ii (upd L 6) x51 x52 x53 x54 x55 x56 (.int .i64 (ii : Int)) x58 x59 x60 x61 x14 W :=
  ⟨h.x, h.p0, h.p1, h.p2, h.p4, h.p5, fun _ => rfl, h.p7, h.p8, h.p9, h.c11_10, h.c10_0, h.c10_3⟩
theorem EX9.s7 (h : EX9 W1 N w mg rg nb sg cap sb cb c l B oo bo bc an acts C ab aof al ac ii L x51 x52 x53 x54 x55 x56 x57 x58 x59 x60 x61 x14 W) : EX9 W1 N w mg rg nb sg cap sb cb c l B oo bo bc an acts C ab aof al ac ii (upd L 7) x51 x52 x53 x54 x55 x56 x57 (.pointer (some ⟨ab, aof + ii * 36, none⟩)) x59 x60 x61 x14 W :=
  ⟨h.x, h.p0, h.p1, h.p2, h.p4, h.p5, h.p6, fun _ => rfl, h.p8, h.p9, h.c11_10, h.c10_0, h.c10_3⟩
theorem EX9.s8 (h : EX9 W1 N w mg rg nb sg cap sb cb c l B oo bo bc an acts C ab aof al ac ii L x51 x52 x53 x54 x55 x56 x57 x58 x59 x60 x61 x14 W) : EX9 W1 N w mg rg nb sg cap sb cb c l B oo bo bc an acts C ab aof al ac ii (upd L 8) x51 x52 x53 x54 x55 x56 x57 x58 (.agg (anC an acts).toArray) x60 x61 x14 W :=
  ⟨h.x, h.p0, h.p1, h.p2, h.p4, h.p5, h.p6, h.p7, fun _ => rfl, h.p9, h.c11_10, h.c10_0, h.c10_3⟩
theorem EX9.s9 (h : EX9 W1 N w mg rg nb sg cap sb cb c l B oo bo bc an acts C ab aof al ac ii L x51 x52 x53 x54 x55 x56 x57 x58 x59 x60 x61 x14 W) (hX : XB N w mg rg nb sg cap cb c l B oo an C ((upd L 9) 3) ((upd L 9) 10) ((upd L 9) 11) x54 x61 x14 W2) : EX9 W1 N w mg rg nb sg cap sb cb c l B oo bo bc an acts C ab aof al ac ii (upd L 9) x51 x52 x53 x54 x55 x56 x57 x58 x59 (.agg (anC (lookC oo an) 0).toArray) x61 x14 W2 :=
  ⟨hX, h.p0, h.p1, h.p2, h.p4, h.p5, h.p6, h.p7, h.p8, fun _ => rfl, h.c11_10, h.c10_0, h.c10_3⟩
theorem EX9.s10 (h : EX9 W1 N w mg rg nb sg cap sb cb c l B oo bo bc an acts C ab aof al ac ii L x51 x52 x53 x54 x55 x56 x57 x58 x59 x60 x61 x14 W) {v : Value} (hX : XB N w mg rg nb sg cap cb c l B oo an C ((upd L 10) 3) ((upd L 10) 10) ((upd L 10) 11) x54 v x14 W2) (hc0 : L 0 = true) (hc3 : L 3 = true) : EX9 W1 N w mg rg nb sg cap sb cb c l B oo bo bc an acts C ab aof al ac ii (upd L 10) x51 x52 x53 x54 x55 x56 x57 x58 x59 x60 v x14 W2 :=
  ⟨hX, h.p0, h.p1, h.p2, h.p4, h.p5, h.p6, h.p7, h.p8, h.p9, fun _ => rfl, fun _ => hc0, fun _ => hc3⟩
theorem EX9.s11 (h : EX9 W1 N w mg rg nb sg cap sb cb c l B oo bo bc an acts C ab aof al ac ii L x51 x52 x53 x54 x55 x56 x57 x58 x59 x60 x61 x14 W) {v : Value} (hX : XB N w mg rg nb sg cap cb c l B oo an C ((upd L 11) 3) ((upd L 11) 10) ((upd L 11) 11) x54 x61 v W2) (hc10 : L 10 = true) : EX9 W1 N w mg rg nb sg cap sb cb c l B oo bo bc an acts C ab aof al ac ii (upd L 11) x51 x52 x53 x54 x55 x56 x57 x58 x59 x60 x61 v W2 :=
  ⟨hX, h.p0, h.p1, h.p2, h.p4, h.p5, h.p6, h.p7, h.p8, h.p9, fun _ => hc10, h.c10_0, h.c10_3⟩
end
@[reducible] def IEX9 (W1 : World) (N : Nat) (w : World) (mg rg nb sg cap sb cb : Nat) (c : Cfg) (l : Secs) (B : List (List By)) (oo : SP) (bo : Option Addr) (bc : Nat) (an : AN) (acts : Int) (C : List CS) (ab aof al ac ii : Nat) (y0 y1 y2 y3 y4 y5 y6 y7 y8 y9 y10 y11 y12 y13 y15 y16 y17 y18 y19 y20 y21 y22 y23 y24 y25 y26 y27 y28 y29 y30 y31 y32 y33 y34 y35 y36 y37 y38 y39 y40 y41 y42 y43 y44 y45 y46 y47 y48 y49 y50 y62 y63 y64 y65 y66 : Value) : (Nat → Bool) → Act → World → Prop := fun L a W => ∃ x51 x52 x53 x54 x55 x56 x57 x58 x59 x60 x61 x14, a = ⟨#[y0, y1, y2, y3, y4, y5, y6, y7, y8, y9, y10, y11, y12, y13, x14, y15, y16, y17, y18, y19, y20, y21, y22, y23, y24, y25, y26, y27, y28, y29, y30, y31, y32, y33, y34, y35, y36, y37, y38, y39, y40, y41, y42, y43, y44, y45, y46, y47, y48, y49, y50, x51, x52, x53, x54, x55, x56, x57, x58, x59, x60, x61, y62, y63, y64, y65, y66], []⟩ ∧ EX9 W1 N w mg rg nb sg cap sb cb c l B oo bo bc an acts C ab aof al ac ii L x51 x52 x53 x54 x55 x56 x57 x58 x59 x60 x61 x14 W
theorem EX9.step {W1 : World} {N : Nat} {w : World} {mg rg nb sg cap sb cb : Nat} {c : Cfg} {l : Secs} {B : List (List By)} {oo : SP} {bo : Option Addr} {bc : Nat} {an : AN} {acts : Int} {C : List CS} {ab aof al ac ii : Nat} {y0 y1 y2 y3 y4 y5 y6 y7 y8 y9 y10 y11 y12 y13 y15 y16 y17 y18 y19 y20 y21 y22 y23 y24 y25 y26 y27 y28 y29 y30 y31 y32 y33 y34 y35 y36 y37 y38 y39 y40 y41 y42 y43 y44 y45 y46 y47 y48 y49 y50 y62 y63 y64 y65 y66 : Value} {P : Program} {ops : Array Oper} {Q : Exit → Act → World → Prop} {i : Nat} {o : Oper} (hq : ∀ x51 x52 x53 x54 x55 x56 x57 x58 x59 x60 x61 x14 (L : Nat → Bool) (W : World), EX9 W1 N w mg rg nb sg cap sb cb c l B oo bo bc an acts C ab aof al ac ii L x51 x52 x53 x54 x55 x56 x57 x58 x59 x60 x61 x14 W → L i = false → (∀ j ∈ onesOf o, L j = true) → ∀ K : Act → World → Prop, Shut (∀ a' w', IEX9 W1 N w mg rg nb sg cap sb cb c l B oo bo bc an acts C ab aof al ac ii y0 y1 y2 y3 y4 y5 y6 y7 y8 y9 y10 y11 y12 y13 y15 y16 y17 y18 y19 y20 y21 y22 y23 y24 y25 y26 y27 y28 y29 y30 y31 y32 y33 y34 y35 y36 y37 y38 y39 y40 y41 y42 y43 y44 y45 y46 y47 y48 y49 y50 y62 y63 y64 y65 y66 (upd L i) a' w' → K a' w') → if Region.wanted o (yielded ops (⟨#[y0, y1, y2, y3, y4, y5, y6, y7, y8, y9, y10, y11, y12, y13, x14, y15, y16, y17, y18, y19, y20, y21, y22, y23, y24, y25, y26, y27, y28, y29, y30, y31, y32, y33, y34, y35, y36, y37, y38, y39, y40, y41, y42, y43, y44, y45, y46, y47, y48, y49, y50, x51, x52, x53, x54, x55, x56, x57, x58, x59, x60, x61, y62, y63, y64, y65, y66], []⟩ : Act).tmps) = true then Oper.wp P o ⟨#[y0, y1, y2, y3, y4, y5, y6, y7, y8, y9, y10, y11, y12, y13, x14, y15, y16, y17, y18, y19, y20, y21, y22, y23, y24, y25, y26, y27, y28, y29, y30, y31, y32, y33, y34, y35, y36, y37, y38, y39, y40, y41, y42, y43, y44, y45, y46, y47, y48, y49, y50, x51, x52, x53, x54, x55, x56, x57, x58, x59, x60, x61, y62, y63, y64, y65, y66], []⟩ W K Q else K ((⟨#[y0, y1, y2, y3, y4, y5, y6, y7, y8, y9, y10, y11, y12, y13, x14, y15, y16, y17, y18, y19, y20, y21, y22, y23, y24, y25, y26, y27, y28, y29, y30, y31, y32, y33, y34, y35, y36, y37, y38, y39, y40, y41, y42, y43, y44, y45, y46, y47, y48, y49, y50, x51, x52, x53, x54, x55, x56, x57, x58, x59, x60, x61, y62, y63, y64, y65, y66], []⟩ : Act).put o.dst undef) W) : StepI P ops (IEX9 W1 N w mg rg nb sg cap sb cb c l B oo bo bc an acts C ab aof al ac ii y0 y1 y2 y3 y4 y5 y6 y7 y8 y9 y10 y11 y12 y13 y15 y16 y17 y18 y19 y20 y21 y22 y23 y24 y25 y26 y27 y28 y29 y30 y31 y32 y33 y34 y35 y36 y37 y38 y39 y40 y41 y42 y43 y44 y45 y46 y47 y48 y49 y50 y62 y63 y64 y65 y66) Q i o := by
  rintro L a W ⟨x51, x52, x53, x54, x55, x56, x57, x58, x59, x60, x61, x14, rfl, h⟩
  exact hq _ _ _ _ _ _ _ _ _ _ _ _ _ _ h
theorem EX9.ends {W1 : World} {N : Nat} {w : World} {mg rg nb sg cap sb cb : Nat} {c : Cfg} {l : Secs} {B : List (List By)} {oo : SP} {bo : Option Addr} {bc : Nat} {an : AN} {acts : Int} {C : List CS} {ab aof al ac ii : Nat} {y0 y1 y2 y3 y4 y5 y6 y7 y8 y9 y10 y11 y12 y13 y15 y16 y17 y18 y19 y20 y21 y22 y23 y24 y25 y26 y27 y28 y29 y30 y31 y32 y33 y34 y35 y36 y37 y38 y39 y40 y41 y42 y43 y44 y45 y46 y47 y48 y49 y50 y62 y63 y64 y65 y66 : Value} {mm_ : Nat} {Q : Exit → Act → World → Prop} (hq : ∀ x51 x52 x53 x54 x55 x56 x57 x58 x59 x60 x61 x14 (L : Nat → Bool) (W : World), (∀ j, j < mm_ → L j = true) → EX9 W1 N w mg rg nb sg cap sb cb c l B oo bo bc an acts C ab aof al ac ii L x51 x52 x53 x54 x55 x56 x57 x58 x59 x60 x61 x14 W → Q .normal ⟨#[y0, y1, y2, y3, y4, y5, y6, y7, y8, y9, y10, y11, y12, y13, x14, y15, y16, y17, y18, y19, y20, y21, y22, y23, y24, y25, y26, y27, y28, y29, y30, y31, y32, y33, y34, y35, y36, y37, y38, y39, y40, y41, y42, y43, y44, y45, y46, y47, y48, y49, y50, x51, x52, x53, x54, x55, x56, x57, x58, x59, x60, x61, y62, y63, y64, y65, y66], []⟩ W) : ∀ L a' w', (∀ j, j < mm_ → L j = true) → IEX9 W1 N w mg rg nb sg cap sb cb c l B oo bo bc an acts C ab aof al ac ii y0 y1 y2 y3 y4 y5 y6 y7 y8 y9 y10 y11 y12 y13 y15 y16 y17 y18 y19 y20 y21 y22 y23 y24 y25 y26 y27 y28 y29 y30 y31 y32 y33 y34 y35 y36 y37 y38 y39 y40 y41 y42 y43 y44 y45 y46 y47 y48 y49 y50 y62 y63 y64 y65 y66 L a' w' → Q .normal a' w' := by
  rintro L a W hall ⟨x51, x52, x53, x54, x55, x56, x57, x58, x59, x60, x61, x14, rfl, h⟩
  exact hq _ _ _ _ _ _ _ _ _ _ _ _ _ _ hall h
set_option maxHeartbeats 8000000 in
set_option maxRecDepth 100000 in
theorem expl_any (c : Cfg) (l : Secs) (S : List SP) (A : List AN) (w : World) (hg : HG w) (lo : Option Addr) (lc : Nat) (so : Option Addr) (sc : Nat) (no : Option Addr) (nc : Nat) (h : In19 w l S A lo lc so sc no nc) :
    Calls Tryz.prog 7 #[.agg c.vals.toArray, .slice lo l.length lc, .slice so S.length sc, .slice no A.length nc] w fun en w' => en = .returned (explV (explC c l S A)) ∧ Below w.heap.size w w' := by
  obtain ⟨w1, hw1⟩ : ∃ w1, w1 = w.alloc (.cells #[.int .i64 c.cells, .int .i64 c.slots, .int .i64 c.fuses, .int .i64 c.step, .int .i64 c.keys, .int .i64 c.erases, .int .i64 c.area] 23) := ⟨_, rfl⟩
  have r1 : Row w1 w.heap.size 23 c.vals := by rw [hw1]; exact Row.at w 23 _ _ _ rfl rfl
  have HB1 : Hid (Below w.heap.size w w1) := by rw [hw1]; exact (Below.refl _ _).alloc (Nat.le_refl _) _
  obtain ⟨B0, off0, vs0, hlo, hin⟩ := h.sec
  have NW := cnew_any w1 lo l.length lc B0 off0 vs0 l rfl hlo (hin.keep HB1.out)
  have MY : Hid (∀ W, Calls Tryz.prog 14 #[.agg c.vals.toArray] W fun e w' => e = .returned (.int .i64 c.may) ∧ Below W.heap.size W w') := fun W => cmay_any c W
  obtain ⟨R, HR⟩ : ∃ R, Hid (R = explC c l S A) := ⟨_, rfl⟩
  rw [← HR.out]
  unfold explC at HR
  unfold explV
  have HI0 : Hid (In19 w l S A lo lc so sc no nc ∧ HG w) := ⟨h, hg⟩
  clear hlo hin h hg
  change Calls Tryz.prog 7 #[.agg #[.int .i64 c.cells, .int .i64 c.slots, .int .i64 c.fuses, .int .i64 c.step, .int .i64 c.keys, .int .i64 c.erases, .int .i64 c.area], .slice lo l.length lc, .slice so S.length sc, .slice no A.length nc] w _
  go_enter Tryz.func7, Tryz.ntmps7
  go_wp2_with (first | (rw [← hw1]; clear hw1))
  refine NW.mono ?_
  clear NW
  rintro en w2 ⟨hb2, hpost⟩
  have r2 := r1.below hb2 r1.lt
  have HB2 : Hid (Below w.heap.size w w2) := HB1.out.trans (hb2.mono HB1.out.size)
  clear hb2 r1 HB1
  have HR2 : Hid (Row w2 w.heap.size 23 c.vals) := r2
  clear r2
  have lv : Hid (c.vals.length = 7) := rfl
  rcases hpost with ⟨er, i, he, rfl⟩ | ⟨hnone, rg, b0, vs', rfl, hring⟩
  · have hne := newE_ne he
    have hne2 : (er == 0) = false := by rw [beq_eq_false_iff_ne]; exact hne
    have HR3 : Hid (R = (false, 0)) := by show _ = _; rw [HR.out, if_pos (.inr (.inl (by rw [he]; exact fun h => by cases h)))]
    dsimp only
    go_wp2_with (first | (refine wpList_load_whole_g ?_ 23 (.tmp 4) rfl w.heap.size 23 7 c.vals HR2.out rfl _ lv.out Tryz.underlying23 rfl (by kernel_rfl) ?_; · rfl))
    refine (MY.out _).mono ?_
    rintro en w3 ⟨rfl, hb3⟩
    dsimp only
    have HB3 : Hid (Below w.heap.size w w3) := HB2.out.trans (hb3.mono HB2.out.size)
    clear hb3 HR2 HB2 MY he HR HI0
    rcases may01 c with hm | hm <;> rw [hm]
    · go_wp2
      go_ret2
      exact ⟨by rw [HR3.out]; rfl, HB3.out⟩
    · go_wp2
      go_ret2
      exact ⟨by rw [HR3.out]; rfl, HB3.out⟩
  · dsimp only
    go_wp2_with (first | (refine wpList_load_whole_g ?_ 23 (.tmp 4) rfl w.heap.size 23 7 c.vals HR2.out rfl _ lv.out Tryz.underlying23 rfl (by kernel_rfl) ?_; · rfl))
    refine (MY.out _).mono ?_
    rintro en w3 ⟨rfl, hb3⟩
    dsimp only
    have HB3 : Hid (Below w.heap.size w w3) := HB2.out.trans (hb3.mono HB2.out.size)
    have HR3 : Hid (Row w3 w.heap.size 23 c.vals) := HR2.out.below hb3 HR2.out.lt
    have HRG : Hid (∃ K b0 vs, KgO K w3.heap.size w3 rg b0 vs l) := ⟨_, _, _, (hring.below hb3).more hb3.size (Nat.le_refl _)⟩
    rcases may01 c with hm | hm
    · by_cases hlen : S.length = A.length
      · have HC : Hid (CkOk c l) := ckok_of hm hnone
        have HR4 : Hid (R = runC c l 0 [] [firstC] S A) := by show _ = _; rw [HR.out, if_neg (by rintro (h | h | h); exact h hm; exact h hnone; exact h hlen)]
        have hl2 : (A.length : Int) = (S.length : Int) := by omega
        have HLN : Hid (S.length = A.length) := hlen
        have BG : Hid (∀ W, W = w3 → Calls Tryz.prog 15 #[.agg c.vals.toArray, .pointer (some ⟨rg, 0, none⟩)] W fun e w' => ∃ mg nb so, e = .returned (.pointer (some ⟨mg, 0, none⟩)) ∧ MdM w3.heap.size w' mg rg nb so 1 c l [] ∧ Below w3.heap.size w3 w') := fun W e => by subst e; exact begin_any c l HC.out hm rg _ HRG.out
        rw [hm]
        clear hb3 HR2 HB2 MY hnone hring HR hm hlen HRG
        go_wp2_with (first | (refine wpList_load_whole_g ?_ 23 (.tmp 4) rfl w.heap.size 23 7 c.vals HR3.out rfl _ lv.out Tryz.underlying23 rfl (by kernel_rfl) ?_; · rfl))
        refine (BG.out _ rfl).mono ?_
        clear BG
        rintro en w4 ⟨mg, nb, sg, rfl, hM4, hb4⟩
        dsimp only
        have HI3 : Hid (In19 w3 l S A lo lc so sc no nc ∧ HG w3) := ⟨HI0.out.1.keep HB3.out, HI0.out.2.below HB3.out HI0.out.2.lt⟩
        have HM4 : Hid (MdM w3.heap.size w4 mg rg nb sg 1 c l [] ∧ Below w3.heap.size w3 w4) := ⟨hM4, hb4⟩
        have MK0 : (Instr.makeMap 70 none).run Tryz.prog w4 = .ok (.map (some w4.heap.size)) (w4.alloc (.map #[] 0)) := mk_map0 w4
        have HS0 : Hid (KSet Tryz.prog 67 csV unitElem (w4.alloc (.map #[] 0)) w4.heap.size 0 []) := KSet.made w4
        obtain ⟨kl, hkl⟩ := cs_keyOf firstC_wf
        have BF := build_first
        clear hM4 hb4 HR3 HI0 lv
        go_wp2_with (first
          | (refine wpList_lit_KSet (P := Tryz.prog) (k := 67) (f := csV) (R := unitElem) rfl (.tmp 40) (.tmp 41) (.tmp 42) 70 rfl 68 cs_keyed Tryz.underlying70 w4.heap.size 0 [] rfl HS0.out (by decide) firstC rfl kl hkl (.agg #[]) rfl (.agg []) [] unitElem_mk ?_; intro w5 hk5 hg5))
        have hcb5 : Below w4.heap.size w4 w5 := ((Below.refl _ _).alloc (Nat.le_refl _) _).trans (below_of_grown hg5 (Nat.le_refl _) (by simp))
        obtain ⟨N, HN⟩ : ∃ N, Hid (N = w3.heap.size) := ⟨_, rfl⟩
        have E0 : Hid (EI N mg rg nb c l S A R w3 0 sg 1 w4.heap.size 1 [] [firstC] w5) := by
          show EI _ _ _ _ _ _ _ _ _ _ _ _ _ _ _ _ _ _
          rw [HN.out]
          exact ⟨HM4.out.1.keep hcb5, hk5, ⟨by have := HM4.out.2.size; omega, by have := HM4.out.1.num.lt; omega⟩, HM4.out.2.trans (hcb5.mono HM4.out.2.size), (fun s hs => by rw [List.mem_singleton.1 hs]; exact ⟨firstC_ok HC.out, firstC_wf⟩), (by decide), (by omega), Nat.zero_le _, (by rw [HR4.out, List.drop_zero, List.drop_zero])⟩
        generalize w4.heap.size = cb0 at *
        clear HR4 hk5 hg5 hcb5 HM4 MK0 HS0 hkl BF
        go_loopw [46, 14] (fun iv mv wr => ∃ (ii cb n sg cap : Nat) (B : List (List By)) (C : List CS), ii ≤ S.length ∧ iv = .int .i64 ii ∧ mv = .map (some cb) ∧ Hid (EI N mg rg nb c l S A R w3 ii sg cap cb n B C wr)) (fun iv _ _ => S.length - (intOf iv).toNat)
        case atStart => exact ⟨0, cb0, 1, sg, 1, [], [firstC], by omega, rfl, rfl, E0⟩
        case round =>
          clear E0
          obtain ⟨ii, cb, n, sg, cap, B, C, hin, rfl, rfl, HE⟩ := hrel
          by_cases hlt : ii < S.length
          · have hltA : ii < A.length := by have := HLN.out; omega
            obtain ⟨sB, sof, bo, bc, rfl, s0, s1, s2, s3, s4, s5, s6⟩ := HI3.out.1.stp ii hlt
            obtain ⟨ab, aof, acts, rfl, hrng, hwf⟩ := HI3.out.1.ans ii hltA
            have hsl : S.length ≤ 2932031007402 := HI3.out.1.slen
            have hN3 : N = w3.heap.size := HN.out
            have hw3 : Below N w3 wr := HE.out.bel
            have hNr : N ≤ wr.heap.size := HE.out.md.ne.2.2.2.2
            have hob : S[ii].b.length ≤ 140737488351232 := HI3.out.1.blen _ (List.getElem_mem hlt)
            have NX : Hid (∀ (so' cap' cb' n' : Nat) (W' : World), MdM N W' mg rg nb so' cap' c l (staC c l B S[ii]) → KSet Tryz.prog 67 csV unitElem W' cb' n' (behC (deedC c l B S[ii]) (lookC S[ii] A[ii]) C) → (N ≤ cb' ∧ cb' ≠ nb) → n' ≤ wtL C → Below N wr W' →
                (behC (deedC c l B S[ii]) (lookC S[ii] A[ii]) C = [] → R = (false, ii)) ∧ (¬ behC (deedC c l B S[ii]) (lookC S[ii] A[ii]) C = [] → EI N mg rg nb c l S A R w3 (ii + 1) so' cap' cb' n' (staC c l B S[ii]) (behC (deedC c l B S[ii]) (lookC S[ii] A[ii]) C) W')) := fun so' cap' cb' n' W' hM hK hcb hn hb => HE.out.next HC.out hlt HLN.out hsl hM hK hcb hn hb
            have hdok := deed_dok (l := l) HC.out.sl1 HC.out.ke1 B S[ii]
            generalize S[ii] = oo at *
            generalize A[ii] = an at *
            have hrs : Hid (wr.rangeAt sB (sof + ii * 4) (spC oo bo bc)) := by
              have hB : sB < N := by have h9 : sB < w3.heap.size := cell_lt s0; omega
              intro j v hv
              match j with
              | 0 => injection hv with hv; subst hv; exact (hw3.cell (p := ⟨sB, sof + ii * 4, none⟩) hB).trans s0
              | 1 => injection hv with hv; subst hv; exact (hw3.cell (p := ⟨sB, sof + ii * 4 + 1, none⟩) hB).trans s1
              | 2 => injection hv with hv; subst hv; exact (hw3.cell (p := ⟨sB, sof + ii * 4 + 2, none⟩) hB).trans s2
              | 3 => injection hv with hv; subst hv; exact (hw3.cell (p := ⟨sB, sof + ii * 4 + 3, none⟩) hB).trans s3
              | j + 4 => cases hv
            obtain ⟨w6, hw6⟩ : ∃ w6, w6 = wr.alloc (.cells #[.int .i64 0, .int .i64 0, .int .i64 0, .slice none 0 0] 34) := ⟨_, rfl⟩
            have r6 : Row w6 wr.heap.size 34 [.int .i64 0, .int .i64 0, .int .i64 0, .slice none 0 0] := by rw [hw6]; exact Row.at wr 34 _ _ _ rfl rfl
            have hb6 : Below wr.heap.size wr w6 := by rw [hw6]; exact (Below.refl _ _).alloc (Nat.le_refl _) _
            obtain ⟨sb, hsb⟩ : ∃ sb, sb = wr.heap.size := ⟨_, rfl⟩
            have X7 : Hid (∀ w7, Row w7 sb 34 (spC oo bo bc) → SameBut sb w6 w7 → X0 N w7 mg rg nb sg cap sb cb n c l B oo bo bc C ∧ Below wr.heap.size wr w7 ∧ sb ≠ sg ∧ sb ≠ mg) := fun w7 hr7 hs7 => by
              have hb7 : Below wr.heap.size wr w7 := hs7.below hb6 (by omega)
              have hmd := HE.out.md.keep hb7
              obtain ⟨cs, hrs2, _⟩ := own_at HE.out.md.own
              have e1 := hrs2.lt
              have e2 := HE.out.md.row.lt
              have hl3 := last_le HC.out
              have hbl := HE.out.blen
              refine ⟨⟨⟨hmd, HI3.out.2.below (hw3.trans (hb7.mono hNr)) (by rw [hN3]; exact HI3.out.2.lt), by rw [hN3]; exact HI3.out.2.lt, HC.out.sl1, HC.out.ke1, hl3.2.2.2, by omega, fun W hW => ?_, s6, s5, hob⟩, hr7, HE.out.set.below hb7 HE.out.set.lt, HE.out.cbn.2⟩, hb7, by omega, by omega⟩
              exact s4.below ((hw3.trans (hb7.mono hNr)).trans hW) (by omega)
            have AR0 : Hid (∀ W, Below N w3 W → W.rangeAt ab (aof + ii * 36) (anC an acts)) := fun W hb => by
              have h0 := hrng 0 _ (rfl : (anC an acts)[0]? = some _)
              exact fun j v hv => (hb.cell (p := ⟨ab, aof + ii * 36 + j, none⟩) (by show ab < N; have h9 : ab < w3.heap.size := cell_lt h0; omega)).trans (hrng j v hv)
            have LAN : Hid ((anC an acts).length = 36) := anC_len hwf.h
            have HWF : Hid (an.Wf ∧ DOk c (B.length + 1) ((staC c l B oo).length + 1) (deedC c l B oo)) := ⟨hwf, hdok⟩
            have HSP : Hid (((spC oo bo bc).drop 0).take 4 = spC oo bo bc) := rfl
            have LSP : Hid ((spC oo bo bc).length = 4) := rfl
            have y0 : (0 : Int) ≤ (ii : Int) := by omega
            have y1 : (ii : Int) < (S.length : Int) := by omega
            have y2 : (ii : Int) < (A.length : Int) := by omega
            have zn : IntKind.i64.wrap ((ii : Int) + 1) = (ii : Int) + 1 := i64_in _ (by omega) (by omega)
            have HNR : Hid (N ≤ wr.heap.size ∧ Below N w3 wr) := ⟨hNr, hw3⟩
            have HLT : Hid (ii < S.length) := hlt
            rw [← hsb] at r6
            have hsb2 : wr.heap.size = sb := hsb.symm
            clear s0 s1 s2 s3 s4 s5 s6 hrng hwf hdok hsl hN3 hw3 hNr hob hb6 hltA hlt hin hl2 hsb
            go_wp2_with (first
              | (refine wpList_load_at_g ?_ 34 (.tmp 49) rfl sB (sof + ii * 4) 4 (spC oo bo bc) hrs.out rfl _ rfl Tryz.underlying34 rfl (by kernel_rfl) ?_; · rfl)
              | (rw [← hw6]; have hz := hw6; clear hz hw6)
              | (refine wpList_store_Row rfl 34 (.tmp 16) (.tmp 50) rfl sb 34 0 [.int .i64 0, .int .i64 0, .int .i64 0, .slice none 0 0] (spC oo bo bc) r6 (by rw [LSP.out]; decide) rfl rfl (by rw [LSP.out]; kernel_rfl) (by intro v hv; simp [spC] at hv; rcases hv with rfl | rfl | rfl | rfl <;> rfl) ?_; intro w7 hr7 hs7; have q7 := X7.out w7 (row_whole hr7 (by rw [LSP.out]; decide)) hs7; clear hr7 hs7))
            obtain ⟨qx, qb, qs, qm⟩ := q7
            have hNE := qx.ne qs qm
            have lsb := qx.box.lt
            have lcb := qx.set.lt
            have HS : Hid (∀ x y, XB N w7 mg rg nb sg cap cb c l B oo an C false false false x y (.map (some cb)) w7) := fun x y => ⟨LyB.refl _, fun _ => Below.refl _ _, (fun e => by cases e), fun _ => rfl, (fun e => by cases e), (fun e => by cases e)⟩
            have BX : Hid (∀ W, LyB (fun i => i = nb ∨ i = sg ∨ i = mg) w7 W → Row W sb 34 (spC oo bo bc)) := fun W hl => (hl.block sb lsb hNE.1).trans qx.box
            have DD : Hid (∀ W, Below w7.heap.size w7 W → Calls Tryz.prog 17 #[.pointer (some ⟨mg, 0, none⟩), .agg (spC oo bo bc).toArray] W (DeedM N mg rg nb sg c l (staC c l B oo) (deedC c l B oo) W)) := fun W hb => deed_any (qx.ask.keep hb)
            have LK : Hid (∀ W, Calls Tryz.prog 18 #[.agg (spC oo bo bc).toArray, .agg (anC an acts).toArray] W fun e w' => e = .returned (.agg (anC (lookC oo an) 0).toArray) ∧ Below W.heap.size W w') := fun W => looked_any oo bo bc an acts HWF.out.1.h W
            have LOW : Hid (∀ W, LyB (fun i => i = nb ∨ i = sg ∨ i = mg) w7 W → Below N w7 W) := fun W hl => hl.below (Nat.le_trans HNR.out.1 qb.size) (fun i hi => by
              have e1 := qx.ask.md.lo
              have e2 := qx.ask.md.ne.2.2.2.1
              omega)
            have AR : Hid (∀ W, LyB (fun i => i = nb ∨ i = sg ∨ i = mg) w7 W → W.rangeAt ab (aof + ii * 36) (anC an acts)) := fun W hl => AR0.out W (HNR.out.2.trans ((qb.mono HNR.out.1).trans (LOW.out W hl)))
            have BEH : Hid (∀ W k fs bs, LyB (fun i => i = nb ∨ i = sg ∨ i = mg) w7 W → Ent k → DeedIs c (B.length + 1) W k fs bs (deedC c l B oo) → Calls Tryz.prog 16 #[.map (some cb), .func (.func k) fs bs, .agg (anC (lookC oo an) 0).toArray] W fun e w' => ∃ mb n', e = .returned (.map (some mb)) ∧ KSet Tryz.prog 67 csV unitElem w' mb n' (behC (deedC c l B oo) (lookC oo an) C) ∧ n' ≤ wtL C ∧ Below W.heap.size W w' ∧ W.heap.size ≤ mb) := fun W k fs bs hl hk hD => by
              obtain ⟨D, ⟨es, clock, h1, h3⟩, h2⟩ := qx.set
              have e1 := HE.out.wt
              have e2 := HE.out.nle
              exact behind_any (g' := 0) hD HWF.out.2.wt hk cb n C HE.out.ok (by omega) (by omega) (lookC oo an) (look_wf HWF.out.1) W (Below.refl _ _) ⟨D, ⟨es, clock, (hl.block cb lcb hNE.2).trans h1, h3⟩, h2⟩
            have FIN : Hid (∀ W x54 x61 x14, XB N w7 mg rg nb sg cap cb c l B oo an C true true true x54 x61 x14 W → ∃ mb n' so' cap', x14 = .map (some mb) ∧ KSet Tryz.prog 67 csV unitElem W mb n' (behC (deedC c l B oo) (lookC oo an) C) ∧ Below N wr W ∧ (behC (deedC c l B oo) (lookC oo an) C = [] → R = (false, ii)) ∧ (¬ behC (deedC c l B oo) (lookC oo an) C = [] → EI N mg rg nb c l S A R w3 (ii + 1) so' cap' mb n' (staC c l B oo) (behC (deedC c l B oo) (lookC oo an) C) W)) := fun W x54 x61 x14 hx => by
              obtain ⟨k_, fs_, bs_, so', cap', _, _, _, hM⟩ := hx.md rfl
              obtain ⟨mb, n', e1, hK, hn, hmb⟩ := hx.n10 rfl
              have hbw : Below N wr W := (qb.mono HNR.out.1).trans (LOW.out W hx.ly)
              have hnb := qx.ask.md.num.lt
              have hz := qb.size
              have hN0 := HNR.out.1
              exact ⟨mb, n', so', cap', (hx.n11 rfl).trans e1, hK, hbw, NX.out so' cap' mb n' W hM hK ⟨by omega, by omega⟩ hn hbw⟩
            clear NX HE hrs X7 AR0 HWF hNE lsb lcb LOW qx qb qs qm hsb2 r6
            refine wp_region_inv (IEX9 w7 N w7 mg rg nb sg cap sb cb c l B oo bo bc an acts C ab aof A.length nc ii _ _ _ _ _ _ _ _ _ _ _ _ _ _ _ _ _ _ _ _ _ _ _ _ _ _ _ _ _ _ _ _ _ _ _ _ _ _ _ _ _ _ _ _ _ _ _ _ _ _ _ _ _ _ _) (by kernel_rfl) (by kernel_rfl) ⟨_, _, _, _, _, _, _, _, _, _, _, _, rfl, ⟨(HS.out _ _).drew, fun k => (by cases k), fun k => (by cases k), fun k => (by cases k), fun k => (by cases k), fun k => (by cases k), fun k => (by cases k), fun k => (by cases k), fun k => (by cases k), fun k => (by cases k), fun k => (by cases k), fun k => (by cases k), fun k => (by cases k)⟩⟩ ?_ ?_
            · refine .cons ?_ (.cons ?_ (.cons ?_ (.cons ?_ (.cons ?_ (.cons ?_ (.cons ?_ (.cons ?_ (.cons ?_ (.cons ?_ (.cons ?_ (.cons ?_ .nil)))))))))))
              all_goals (refine EX9.step ?_; intro x51 x52 x53 x54 x55 x56 x57 x58 x59 x60 x61 x14 L W hI hL hd K hK)
              · rw [if_pos (by rfl)]
                have hn11 : L 11 = false := Bool.eq_false_iff.2 (fun e => (by have h7 := hI.c10_0 (hI.c11_10 e); rw [hL] at h7; exact Bool.noConfusion h7))
                have hx14 := hI.x.m0 hn11
                subst hx14
                go_simp
                exact hK.out _ _ ⟨_, _, _, _, _, _, _, _, _, _, _, _, rfl, hI.s0⟩
              · rw [if_pos (by rfl)]
                go_simp
                exact hK.out _ _ ⟨_, _, _, _, _, _, _, _, _, _, _, _, rfl, hI.s1⟩
              · refine step_load_part (by rfl) 34 _ rfl sb 0 34 4 (spC oo bo bc) (BX.out _ hI.x.ly) rfl _ (spC oo bo bc) HSP.out LSP.out Tryz.underlying34 rfl (by kernel_rfl) ?_
                exact hK.out _ _ ⟨_, _, _, _, _, _, _, _, _, _, _, _, rfl, hI.s2⟩
              · have hx1 := hI.p1 (hd 1 (by decide))
                subst hx1
                have hx2 := hI.p2 (hd 2 (by decide))
                subst hx2
                rw [if_pos (by rfl)]
                go_simp
                have hn10 : L 10 = false := Bool.eq_false_iff.2 (fun e => (by have h7 := hI.c10_3 e; rw [hL] at h7; exact Bool.noConfusion h7))
                have hn11 : L 11 = false := Bool.eq_false_iff.2 (fun e => (by have h7 := hI.c10_3 (hI.c11_10 e); rw [hL] at h7; exact Bool.noConfusion h7))
                have hx0 := hI.x
                rw [hL, hn10, hn11] at hx0
                refine (DD.out _ (hx0.n3 rfl)).mono ?_
                rintro e W2 ⟨k_, fs_, bs_, so_, cap_, rfl, hd_⟩
                go_simp
                have hX : XB N w7 mg rg nb sg cap cb c l B oo an C true (L 10) (L 11) (.func (.func k_) fs_ bs_) x61 x14 W2 := (by rw [hn10, hn11]; exact hx0.deed ⟨k_, fs_, bs_, so_, cap_, rfl, hd_⟩)
                exact hK.out _ _ ⟨_, _, _, _, _, _, _, _, _, _, _, _, rfl, hI.s3 hX⟩
              · refine step_load_part (by rfl) 34 _ rfl sb 0 34 4 (spC oo bo bc) (BX.out _ hI.x.ly) rfl _ (spC oo bo bc) HSP.out LSP.out Tryz.underlying34 rfl (by kernel_rfl) ?_
                exact hK.out _ _ ⟨_, _, _, _, _, _, _, _, _, _, _, _, rfl, hI.s4⟩
              · rw [if_pos (by rfl)]
                go_simp
                exact hK.out _ _ ⟨_, _, _, _, _, _, _, _, _, _, _, _, rfl, hI.s5⟩
              · rw [if_pos (by rfl)]
                go_simp
                exact hK.out _ _ ⟨_, _, _, _, _, _, _, _, _, _, _, _, rfl, hI.s6⟩
              · have hx5 := hI.p5 (hd 5 (by decide))
                subst hx5
                have hx6 := hI.p6 (hd 6 (by decide))
                subst hx6
                rw [if_pos (by rfl)]
                go_simp
                exact hK.out _ _ ⟨_, _, _, _, _, _, _, _, _, _, _, _, rfl, hI.s7⟩
              · have hx7 := hI.p7 (hd 7 (by decide))
                subst hx7
                refine step_load_rng (by rfl) 39 _ rfl ab (aof + ii * 36) 36 (anC an acts) (AR.out _ hI.x.ly) rfl _ LAN.out Tryz.underlying39 rfl (by kernel_rfl) ?_
                exact hK.out _ _ ⟨_, _, _, _, _, _, _, _, _, _, _, _, rfl, hI.s8⟩
              · have hx4 := hI.p4 (hd 4 (by decide))
                subst hx4
                have hx8 := hI.p8 (hd 8 (by decide))
                subst hx8
                rw [if_pos (by rfl)]
                go_simp
                refine (LK.out _).mono ?_
                rintro e W2 ⟨rfl, hb3⟩
                go_simp
                have hX := hI.x.keep hb3
                exact hK.out _ _ ⟨_, _, _, _, _, _, _, _, _, _, _, _, rfl, hI.s9 hX⟩
              · have hx0 := hI.p0 (hd 0 (by decide))
                subst hx0
                have hx9 := hI.p9 (hd 9 (by decide))
                subst hx9
                rw [if_pos (by rfl)]
                go_simp
                have hn11 : L 11 = false := Bool.eq_false_iff.2 (fun e => (by have h7 := hI.c11_10 e; rw [hL] at h7; exact Bool.noConfusion h7))
                have h3 := hd 3 (by decide)
                have hx0 := hI.x
                rw [h3, hL, hn11] at hx0
                obtain ⟨k_, fs_, bs_, so_, cap_, hx, hk_, hD_, hM_⟩ := hx0.md rfl
                subst hx
                refine (BEH.out _ k_ fs_ bs_ hx0.ly hk_ hD_).mono ?_
                rintro e W2 ⟨mb, n2, rfl, hs2, hn2, hb2, hm2⟩
                go_simp
                have hX : XB N w7 mg rg nb sg cap cb c l B oo an C (L 3) true (L 11) (.func (.func k_) fs_ bs_) (.map (some mb)) x14 W2 := (by rw [h3, hn11]; exact hx0.beh hb2 hs2 hn2 hm2)
                exact hK.out _ _ ⟨_, _, _, _, _, _, _, _, _, _, _, _, rfl, hI.s10 hX (hd 0 (by decide)) (hd 3 (by decide))⟩
              · have h10 := hd 10 (by decide)
                have h3 := hI.c10_3 h10
                have hx0 := hI.x
                rw [h3, h10, hL] at hx0
                rw [if_pos (by rfl)]
                go_simp
                have hX : XB N w7 mg rg nb sg cap cb c l B oo an C (L 3) (L 10) true x54 x61 x61 W := (by rw [h3, h10]; exact hx0.put)
                exact hK.out _ _ ⟨_, _, _, _, _, _, _, _, _, _, _, _, rfl, hI.s11 hX (hd 10 (by decide))⟩
            · refine EX9.ends ?_; intro x51 x52 x53 x54 x55 x56 x57 x58 x59 x60 x61 x14 L W hall hI
              have hx0 := hI.p0 (hall 0 (by decide))
              subst hx0
              have hx1 := hI.p1 (hall 1 (by decide))
              subst hx1
              have hx2 := hI.p2 (hall 2 (by decide))
              subst hx2
              have hx4 := hI.p4 (hall 4 (by decide))
              subst hx4
              have hx5 := hI.p5 (hall 5 (by decide))
              subst hx5
              have hx6 := hI.p6 (hall 6 (by decide))
              subst hx6
              have hx7 := hI.p7 (hall 7 (by decide))
              subst hx7
              have hx8 := hI.p8 (hall 8 (by decide))
              subst hx8
              have hx9 := hI.p9 (hall 9 (by decide))
              subst hx9
              have hXe := hI.x
              rw [hall 3 (by decide)] at hXe
              rw [hall 10 (by decide)] at hXe
              rw [hall 11 (by decide)] at hXe
              clear hI hall
              try dsimp only
              obtain ⟨mb, n', so', cap', hx, hK, hbw, hemp, hnon⟩ := FIN.out _ _ _ _ hXe
              subst hx
              have HK : Hid (KSet Tryz.prog 67 csV unitElem W mb n' (behC (deedC c l B oo) (lookC oo an) C)) := hK
              have HBW : Hid (Below w.heap.size w W) := HB3.out.trans (((HNR.out.2).trans hbw).mono (by rw [HN.out]; exact HB3.out.size))
              by_cases hbe : behC (deedC c l B oo) (lookC oo an) C = []
              · have HRE : Hid (R = (false, ii)) := hemp hbe
                have HBE : Hid (behC (deedC c l B oo) (lookC oo an) C = []) := hbe
                clear hemp hnon hbe hK hbw FIN BEH DD AR BX LK HS
                go_wp2_with (first
                  | (refine wpList_len_KSet (P := Tryz.prog) (k := 67) (f := csV) (R := unitElem) rfl (.tmp 62) 70 rfl 68 cs_keyed Tryz.underlying70 mb n' _ rfl HK.out ?_; intro cl hc1 hc2; have hcl : (cl : Int) = 0 := (by have := hc1.2 HBE.out; omega); clear hc1 hc2))
                go_ret2
                exact ⟨by rw [HRE.out]; rfl, HBW.out⟩
              · have HEI := hnon hbe
                have HBE : Hid (¬ behC (deedC c l B oo) (lookC oo an) C = []) := hbe
                have HEE : Hid (EI N mg rg nb c l S A R w3 (ii + 1) so' cap' mb n' (staC c l B oo) (behC (deedC c l B oo) (lookC oo an) C) W) := HEI
                clear hemp hnon hbe hK hbw FIN BEH DD AR BX LK HS HEI
                go_wp2_with (first
                  | (refine wpList_len_KSet (P := Tryz.prog) (k := 67) (f := csV) (R := unitElem) rfl (.tmp 62) 70 rfl 68 cs_keyed Tryz.underlying70 mb n' _ rfl HK.out ?_; intro cl hc1 hc2; have hcl : ¬ (cl : Int) = 0 := (by intro h9; exact HBE.out (hc1.1 (by omega))); have hcl2 : ((cl : Int) == 0) = false := (by rw [beq_eq_false_iff_ne]; exact hcl); clear hc1 hc2))
                have h9 := HLT.out
                exact ⟨⟨ii + 1, mb, n', so', cap', staC c l B oo, _, by omega, by simp, rfl, HEE⟩, by simp [intOf]; omega⟩
          · have HRT : Hid (R = (true, 0)) := by
              show _ = _
              rw [HE.out.run, List.drop_of_length_le (by omega : S.length ≤ ii)]
              unfold runC
              rfl
            have y1 : ¬ (ii : Int) < (S.length : Int) := by omega
            have HBW : Hid (Below w.heap.size w wr) := HB3.out.trans (HE.out.bel.mono (by rw [HN.out]; exact HB3.out.size))
            clear HE hlt hin HI3 HN
            go_wp2
            go_ret2
            exact ⟨by rw [HRT.out]; rfl, HBW.out⟩
      · have HRF : Hid (R = (false, 0)) := by show _ = _; rw [HR.out, if_pos (.inr (.inr hlen))]
        have hl2 : ¬ (A.length : Int) = (S.length : Int) := by omega
        have hl3 : ((A.length : Int) == (S.length : Int)) = false := by rw [beq_eq_false_iff_ne]; exact hl2
        rw [hm]
        clear hb3 HR2 HB2 MY hnone hring HR hm hlen HRG HI0 HR3
        go_wp2
        go_ret2
        exact ⟨by rw [HRF.out]; rfl, HB3.out⟩
    · have HRF : Hid (R = (false, 0)) := by show _ = _; rw [HR.out, if_pos (.inl (by omega))]
      rw [hm]
      clear hb3 HR2 HB2 MY hnone hring HR hm HRG HI0 HR3
      go_wp2
      go_ret2
      exact ⟨by rw [HRF.out]; rfl, HB3.out⟩
end Go.Proofs.YtpcgkjngpdplmaaGreatDoor
