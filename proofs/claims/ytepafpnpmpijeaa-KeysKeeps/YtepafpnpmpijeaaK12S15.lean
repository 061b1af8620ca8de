import Derived.Test.YtepafpnpmpijeaaK12Cut
import Derived.Test.YtepafpnpmpijeaaI11Inv
import Derived.Laws.MakeOwn
import Derived.Test.YtepafpnpmpijeaaK12S16

/-! Bytes copied into memory of the call's own, with marked room behind them, at drawn regions. -/
namespace Go.Proofs.Ytepafpnpmpijeaa
open Go.RowKit
set_option linter.unusedVariables false
set_option maxRecDepth 100000

/-- A slice without elements, with room, at a step of a drawn region. -/
theorem step_make_room {ops : Array Oper} {o : Oper} {a : Act} {w : World} {K : Act → World → Prop} {Q : Exit → Act → World → Prop} {X : Prop} (hg : o.guard = none) (l c : Operand) (hop : o.op = Op.makeSlice 36 l c)
    (m : Nat) (C : Int) (hl : a.eval l = .int .i64 0) (hc : a.eval c = .int .i64 C) (hC : C = (m : Int)) (hm : m ≤ 140737488355328)
    (h : ∀ w', Own w.heap.size w' (.slice (some ⟨w.heap.size, 0, none⟩) 0 m) [] → Below w.heap.size w w' → K (a.put o.dst (.slice (some ⟨w.heap.size, 0, none⟩) 0 m)) w') :
    if Region.wanted o (yielded ops a.tmps) = true then Oper.wp Try.prog o a w K Q else X := by
  have hw : Region.wanted o (yielded ops a.tmps) = true := by simp [Region.wanted, hg]
  rw [if_pos hw]
  obtain ⟨i0, hi, hz0, hz1, hz2⟩ := info_parts Try.info5
  subst hC
  have hrun := run_make (P := Try.prog) w 36 5 i0 (.int .u8 0) Try.underlying36 hi hz0 .i64 .i64 (0 : Int) (m : Int) (by omega) (by omega) (by rw [hz2]; omega) (by omega)
  unfold Oper.wp
  simp [execOp, hop, hl, hc, hrun, Result.andThen]
  refine h _ ?_ ?_
  · refine ⟨⟨by simp, .inr ⟨w.heap.size, m, _, rfl, Nat.le_refl _, heap_alloc_new w _, by simp, by unfold maxLen; omega, ?_, by simp⟩⟩, by simp⟩
    rw [hz1, Nat.mul_one]
    have : (madeCells #[Value.int .u8 0] m).toList = (List.replicate m (0 : By)).map B8 := by
      rw [toList_madeCells_one]; simp [B8]
    have h2 : (madeCells #[Value.int .u8 0] m).size = m := by
      rw [← Array.length_toList, this]; simp
    simpa [Value.cells] using h2
  · exact (Below.refl _ _).alloc (Nat.le_refl _) _

/-- While bytes are copied: made (4), appended (7), assigned (8). -/
structure BX (W1 : World) (bs : List By) (l4 l7 l8 : Bool) (x4 x7 x8 : Value) (W : World) : Prop where
  c8 : l8 = true → l7 = true
  c7 : l7 = true → l4 = true
  bel : Below W1.heap.size W1 W
  p4 : l4 = true → l7 = false → ∃ ao c, x4 = .slice ao 0 c ∧ Own W1.heap.size W (.slice ao 0 c) []
  p7 : l7 = true → ∃ ao c, x7 = .slice ao bs.length c ∧ Own W1.heap.size W (.slice ao bs.length c) bs
  p8 : l8 = true → x8 = x7
section
variable {W1 : World} {bs : List By} {l4 l7 l8 : Bool} {x4 x7 x8 : Value} {W W2 : World}
theorem BX.zero (W1 : World) (bs : List By) (x4 x7 x8 : Value) : BX W1 bs false false false x4 x7 x8 W1.drew :=
  ⟨fun h => (by cases h), fun h => (by cases h), (Below.refl _ _).drew, fun h => (by cases h), fun h => (by cases h), fun h => (by cases h)⟩
theorem BX.s4 (h : BX W1 bs l4 l7 l8 x4 x7 x8 W) (h4 : l4 = false) {ao : Option Addr} {m : Nat} (ho : Own W.heap.size W2 (.slice ao 0 m) []) (hb : Below W.heap.size W W2) : BX W1 bs true l7 l8 (.slice ao 0 m) x7 x8 W2 := by
  have h7 := ff h.c7 h4
  have h8 := ff h.c8 h7
  subst h7 h8
  exact ⟨fun h => (by cases h), fun h => (by cases h), h.bel.trans (hb.mono h.bel.size), fun _ _ => ⟨ao, m, rfl, own_le ho h.bel.size⟩, fun h => (by cases h), fun h => (by cases h)⟩
theorem BX.s7 (h : BX W1 bs l4 l7 l8 x4 x7 x8 W) (h4 : l4 = true) (h7 : l7 = false) {ao : Option Addr} {c : Nat} (ho : Own W1.heap.size W2 (.slice ao bs.length c) bs) (hb : Below W1.heap.size W1 W2) : BX W1 bs l4 true l8 x4 (.slice ao bs.length c) x8 W2 := by
  have h8 := ff h.c8 h7
  subst h4 h8
  exact ⟨fun h => (by cases h), fun _ => rfl, hb, fun _ h => (by cases h), fun _ => ⟨ao, c, rfl, ho⟩, fun h => (by cases h)⟩
theorem BX.s8 (h : BX W1 bs l4 l7 l8 x4 x7 x8 W) (h7 : l7 = true) : BX W1 bs l4 l7 true x4 x7 x7 W :=
  ⟨fun _ => h7, h.c7, h.bel, h.p4, h.p7, fun _ => rfl⟩
end

/-- While marks are put behind them: made (1), appended (2), cut off again (6), assigned (7). -/
structure BY (N0 : Nat) (W1 : World) (ao : Option Addr) (c : Nat) (bs mk : List By) (l1 l2 l6 l7 : Bool) (x1 x2 x6 x7 : Value) (W : World) : Prop where
  c7 : l7 = true → l6 = true
  c6 : l6 = true → l2 = true
  c2 : l2 = true → l1 = true
  bel : Below N0 W1 W
  p0 : l7 = false → x7 = .slice ao bs.length c
  own : l2 = false → Own N0 W (.slice ao bs.length c) bs
  p1 : l1 = true → l2 = false → ∃ M, x1 = .slice (some ⟨M, 0, none⟩) mk.length mk.length ∧ Row W M 5 (mk.map B8)
  p2 : l2 = true → ∃ q c', x2 = .slice (some ⟨q, 0, none⟩) (bs.length + mk.length) c' ∧ Own N0 W (.slice (some ⟨q, 0, none⟩) (bs.length + mk.length) c') (bs ++ mk) ∧ (l6 = true → x6 = .slice (some ⟨q, 0, none⟩) bs.length c') ∧ (l7 = true → x7 = .slice (some ⟨q, 0, none⟩) bs.length c')
section
variable {N0 : Nat} {W1 : World} {ao : Option Addr} {c : Nat} {bs mk : List By} {l1 l2 l6 l7 : Bool} {x1 x2 x6 x7 : Value} {W W2 : World}
theorem BY.zero (N0 : Nat) (W1 : World) (ao : Option Addr) (c : Nat) (bs mk : List By) (ho : Own N0 W1 (.slice ao bs.length c) bs) (x1 x2 x6 : Value) : BY N0 W1 ao c bs mk false false false false x1 x2 x6 (.slice ao bs.length c) W1.drew :=
  ⟨fun h => (by cases h), fun h => (by cases h), fun h => (by cases h), (Below.refl _ _).drew, fun _ => rfl, fun _ => ho, fun h => (by cases h), fun h => (by cases h)⟩
theorem BY.s1 (h : BY N0 W1 ao c bs mk l1 l2 l6 l7 x1 x2 x6 x7 W) (h1 : l1 = false) (hN : N0 ≤ W1.heap.size) : BY N0 W1 ao c bs mk true l2 l6 l7 (.slice (some ⟨W.heap.size, 0, none⟩) mk.length mk.length) x2 x6 x7 (W.alloc (.cells (mk.map B8).toArray 5)) := by
  have h2 := ff h.c2 h1
  have h6 := ff h.c6 h2
  have h7 := ff h.c7 h6
  subst h2 h6 h7
  have hb : Below W.heap.size W (W.alloc (.cells (mk.map B8).toArray 5)) := (Below.refl _ _).alloc (Nat.le_refl _) _
  exact ⟨fun h => (by cases h), fun h => (by cases h), fun h => (by cases h), h.bel.trans (hb.mono (Nat.le_trans hN h.bel.size)), h.p0, fun _ => (h.own rfl).keep hb, fun _ _ => ⟨_, rfl, Row.at W 5 (mk.map B8) _ _ rfl rfl⟩, fun h => (by cases h)⟩
theorem BY.s2 (h : BY N0 W1 ao c bs mk l1 l2 l6 l7 x1 x2 x6 x7 W) (h1 : l1 = true) (h2 : l2 = false) {q c' : Nat} (ho : Own N0 W2 (.slice (some ⟨q, 0, none⟩) (bs.length + mk.length) c') (bs ++ mk)) (hb : Below N0 W1 W2) : BY N0 W1 ao c bs mk l1 true l6 l7 x1 (.slice (some ⟨q, 0, none⟩) (bs.length + mk.length) c') x6 x7 W2 := by
  have h6 := ff h.c6 h2
  have h7 := ff h.c7 h6
  subst h1 h6 h7
  exact ⟨fun h => (by cases h), fun h => (by cases h), fun _ => rfl, hb, h.p0, fun h => (by cases h), fun _ h => (by cases h), fun _ => ⟨q, c', rfl, ho, fun h => (by cases h), fun h => (by cases h)⟩⟩
theorem BY.s6 (h : BY N0 W1 ao c bs mk l1 l2 l6 l7 x1 x2 x6 x7 W) (h2 : l2 = true) (h6 : l6 = false) {q c' : Nat} (e : x2 = .slice (some ⟨q, 0, none⟩) (bs.length + mk.length) c') : BY N0 W1 ao c bs mk l1 l2 true l7 x1 x2 (.slice (some ⟨q, 0, none⟩) bs.length c') x7 W := by
  have h7 := ff h.c7 h6
  subst h7
  obtain ⟨q2, c2, e2, ho, _, _⟩ := h.p2 h2
  rw [e] at e2
  injection e2 with e2 _ e3
  injection e2 with e2
  injection e2 with e2
  subst e2 e3
  exact ⟨fun h => (by cases h), fun _ => h2, h.c2, h.bel, h.p0, h.own, h.p1, fun _ => ⟨q, c', e, ho, fun _ => rfl, fun h => (by cases h)⟩⟩
theorem BY.s7 (h : BY N0 W1 ao c bs mk l1 l2 l6 l7 x1 x2 x6 x7 W) (h6 : l6 = true) : BY N0 W1 ao c bs mk l1 l2 l6 true x1 x2 x6 x6 W := by
  obtain ⟨q2, c2, e2, ho, h6', _⟩ := h.p2 (h.c6 h6)
  exact ⟨fun _ => h6, h.c6, h.c2, h.bel, fun h => (by cases h), h.own, h.p1, fun _ => ⟨q2, c2, e2, ho, h6', fun _ => h6' h6⟩⟩
end
theorem isB_pre {w : World} {ao : Option Addr} {a b : List By} (h : IsB w ao (a ++ b)) : IsB w ao a := by
  rcases h with h | ⟨B, off, e, h⟩
  · exact .inl (List.append_eq_nil_iff.1 h).1
  · exact .inr ⟨B, off, e, fun j v hj => h j v (by rw [List.getElem?_append_left (List.getElem?_eq_some_iff.1 hj).1]; exact hj)⟩
theorem isB_suf {w : World} {g : Nat} {a b : List By} (h : IsB w (some ⟨g, 0, none⟩) (a ++ b)) : IsB w (some ⟨g, a.length, none⟩) b := by
  rcases h with h | ⟨B, off, e, h⟩
  · exact .inl (List.append_eq_nil_iff.1 h).2
  · injection e with e
    injection e with e1 e2
    subst e1 e2
    refine .inr ⟨g, a.length, rfl, fun j v hj => ?_⟩
    have := h (a.length + j) v (by rw [List.getElem?_append_right (by omega), Nat.add_sub_cancel_left]; exact hj)
    rw [Nat.zero_add] at this
    exact this
end Go.Proofs.Ytepafpnpmpijeaa


/-! KeysKeeps: the questions. (Printed by tools/genst15.py.) -/
namespace Go.Proofs.Ytepafpnpmpijeaa
open Go.RowKit
set_option linter.unusedVariables false

structure E66 (W1 : World) (S : Nat) (bo : Option Addr) (bc : Nat) (bs : List By) (L : Nat → Bool) (x256 x257 x258 x259 x260 x261 x262 x263 x32 : Value) (W : World) : Prop where
  x : BX W1 bs (L 4) (L 7) (L 8) x260 x263 x32 W
  p0 : L 0 = true → x256 = .pointer (some ⟨S, 1, none⟩)
  p1 : L 1 = true → x257 = .slice bo bs.length bc
  p2 : L 2 = true → x258 = .int .i64 (bs.length : Int)
  p3 : L 3 = true → x259 = .int .i64 ((bs.length : Int) + 2)
  p5 : L 5 = true → x261 = .pointer (some ⟨S, 1, none⟩)
  p6 : L 6 = true → x262 = .slice bo bs.length bc
section
variable {W1 : World} {S : Nat} {bo : Option Addr} {bc : Nat} {bs : List By} {L : Nat → Bool} {x256 x257 x258 x259 x260 x261 x262 x263 x32 : Value} {W W2 : World}
theorem E66.s0 (h : E66 W1 S bo bc bs L x256 x257 x258 x259 x260 x261 x262 x263 x32 W) : E66 W1 S bo bc bs (upd L 0) (.pointer (some ⟨S, 1, none⟩)) x257 x258 x259 x260 x261 x262 x263 x32 W :=
  ⟨h.x, fun _ => rfl, h.p1, h.p2, h.p3, h.p5, h.p6⟩
theorem E66.s1 (h : E66 W1 S bo bc bs L x256 x257 x258 x259 x260 x261 x262 x263 x32 W) : E66 W1 S bo bc bs (upd L 1) x256 (.slice bo bs.length bc) x258 x259 x260 x261 x262 x263 x32 W :=
  ⟨h.x, h.p0, fun _ => rfl, h.p2, h.p3, h.p5, h.p6⟩
theorem E66.s2 (h : E66 W1 S bo bc bs L x256 x257 x258 x259 x260 x261 x262 x263 x32 W) : E66 W1 S bo bc bs (upd L 2) x256 x257 (.int .i64 (bs.length : Int)) x259 x260 x261 x262 x263 x32 W :=
  ⟨h.x, h.p0, h.p1, fun _ => rfl, h.p3, h.p5, h.p6⟩
theorem E66.s3 (h : E66 W1 S bo bc bs L x256 x257 x258 x259 x260 x261 x262 x263 x32 W) : E66 W1 S bo bc bs (upd L 3) x256 x257 x258 (.int .i64 ((bs.length : Int) + 2)) x260 x261 x262 x263 x32 W :=
  ⟨h.x, h.p0, h.p1, h.p2, fun _ => rfl, h.p5, h.p6⟩
theorem E66.s4 (h : E66 W1 S bo bc bs L x256 x257 x258 x259 x260 x261 x262 x263 x32 W) {v : Value} (hX : BX W1 bs ((upd L 4) 4) ((upd L 4) 7) ((upd L 4) 8) v x263 x32 W2) : E66 W1 S bo bc bs (upd L 4) x256 x257 x258 x259 v x261 x262 x263 x32 W2 :=
  ⟨hX, h.p0, h.p1, h.p2, h.p3, h.p5, h.p6⟩
theorem E66.s5 (h : E66 W1 S bo bc bs L x256 x257 x258 x259 x260 x261 x262 x263 x32 W) : E66 W1 S bo bc bs (upd L 5) x256 x257 x258 x259 x260 (.pointer (some ⟨S, 1, none⟩)) x262 x263 x32 W :=
  ⟨h.x, h.p0, h.p1, h.p2, h.p3, fun _ => rfl, h.p6⟩
theorem E66.s6 (h : E66 W1 S bo bc bs L x256 x257 x258 x259 x260 x261 x262 x263 x32 W) : E66 W1 S bo bc bs (upd L 6) x256 x257 x258 x259 x260 x261 (.slice bo bs.length bc) x263 x32 W :=
  ⟨h.x, h.p0, h.p1, h.p2, h.p3, h.p5, fun _ => rfl⟩
theorem E66.s7 (h : E66 W1 S bo bc bs L x256 x257 x258 x259 x260 x261 x262 x263 x32 W) {v : Value} (hX : BX W1 bs ((upd L 7) 4) ((upd L 7) 7) ((upd L 7) 8) x260 v x32 W2) : E66 W1 S bo bc bs (upd L 7) x256 x257 x258 x259 x260 x261 x262 v x32 W2 :=
  ⟨hX, h.p0, h.p1, h.p2, h.p3, h.p5, h.p6⟩
theorem E66.s8 (h : E66 W1 S bo bc bs L x256 x257 x258 x259 x260 x261 x262 x263 x32 W) {v : Value} (hX : BX W1 bs ((upd L 8) 4) ((upd L 8) 7) ((upd L 8) 8) x260 x263 v W2) : E66 W1 S bo bc bs (upd L 8) x256 x257 x258 x259 x260 x261 x262 x263 v W2 :=
  ⟨hX, h.p0, h.p1, h.p2, h.p3, h.p5, h.p6⟩
end
@[reducible] def IE66 (W1 : World) (S : Nat) (bo : Option Addr) (bc : Nat) (bs : List By) (y0 y1 y2 y3 y4 y5 y6 y7 y8 y9 y10 y11 y12 y13 y14 y15 y16 y17 y18 y19 y20 y21 y22 y23 y24 y25 y26 y27 y28 y29 y30 y31 y33 y34 y35 y36 y37 y38 y39 y40 y41 y42 y43 y44 y45 y46 y47 y48 y49 y50 y51 y52 y53 y54 y55 y56 y57 y58 y59 y60 y61 y62 y63 y64 y65 y66 y67 y68 y69 y70 y71 y72 y73 y74 y75 y76 y77 y78 y79 y80 y81 y82 y83 y84 y85 y86 y87 y88 y89 y90 y91 y92 y93 y94 y95 y96 y97 y98 y99 y100 y101 y102 y103 y104 y105 y106 y107 y108 y109 y110 y111 y112 y113 y114 y115 y116 y117 y118 y119 y120 y121 y122 y123 y124 y125 y126 y127 y128 y129 y130 y131 y132 y133 y134 y135 y136 y137 y138 y139 y140 y141 y142 y143 y144 y145 y146 y147 y148 y149 y150 y151 y152 y153 y154 y155 y156 y157 y158 y159 y160 y161 y162 y163 y164 y165 y166 y167 y168 y169 y170 y171 y172 y173 y174 y175 y176 y177 y178 y179 y180 y181 y182 y183 y184 y185 y186 y187 y188 y189 y190 y191 y192 y193 y194 y195 y196 y197 y198 y199 y200 y201 y202 y203 y204 y205 y206 y207 y208 y209 y210 y211 y212 y213 y214 y215 y216 y217 y218 y219 y220 y221 y222 y223 y224 y225 y226 y227 y228 y229 y230 y231 y232 y233 y234 y235 y236 y237 y238 y239 y240 y241 y242 y243 y244 y245 y246 y247 y248 y249 y250 y251 y252 y253 y254 y255 y264 y265 y266 y267 y268 y269 y270 y271 y272 y273 y274 y275 y276 y277 y278 y279 y280 y281 y282 y283 y284 y285 y286 y287 y288 y289 y290 y291 y292 y293 y294 y295 y296 y297 y298 y299 y300 y301 y302 y303 y304 y305 : Value) : (Nat → Bool) → Act → World → Prop := fun L a W => ∃ x256 x257 x258 x259 x260 x261 x262 x263 x32, a = ⟨#[y0, y1, y2, y3, y4, y5, y6, y7, y8, y9, y10, y11, y12, y13, y14, y15, y16, y17, y18, y19, y20, y21, y22, y23, y24, y25, y26, y27, y28, y29, y30, y31, x32, y33, y34, y35, y36, y37, y38, y39, y40, y41, y42, y43, y44, y45, y46, y47, y48, y49, y50, y51, y52, y53, y54, y55, y56, y57, y58, y59, y60, y61, y62, y63, y64, y65, y66, y67, y68, y69, y70, y71, y72, y73, y74, y75, y76, y77, y78, y79, y80, y81, y82, y83, y84, y85, y86, y87, y88, y89, y90, y91, y92, y93, y94, y95, y96, y97, y98, y99, y100, y101, y102, y103, y104, y105, y106, y107, y108, y109, y110, y111, y112, y113, y114, y115, y116, y117, y118, y119, y120, y121, y122, y123, y124, y125, y126, y127, y128, y129, y130, y131, y132, y133, y134, y135, y136, y137, y138, y139, y140, y141, y142, y143, y144, y145, y146, y147, y148, y149, y150, y151, y152, y153, y154, y155, y156, y157, y158, y159, y160, y161, y162, y163, y164, y165, y166, y167, y168, y169, y170, y171, y172, y173, y174, y175, y176, y177, y178, y179, y180, y181, y182, y183, y184, y185, y186, y187, y188, y189, y190, y191, y192, y193, y194, y195, y196, y197, y198, y199, y200, y201, y202, y203, y204, y205, y206, y207, y208, y209, y210, y211, y212, y213, y214, y215, y216, y217, y218, y219, y220, y221, y222, y223, y224, y225, y226, y227, y228, y229, y230, y231, y232, y233, y234, y235, y236, y237, y238, y239, y240, y241, y242, y243, y244, y245, y246, y247, y248, y249, y250, y251, y252, y253, y254, y255, x256, x257, x258, x259, x260, x261, x262, x263, y264, y265, y266, y267, y268, y269, y270, y271, y272, y273, y274, y275, y276, y277, y278, y279, y280, y281, y282, y283, y284, y285, y286, y287, y288, y289, y290, y291, y292, y293, y294, y295, y296, y297, y298, y299, y300, y301, y302, y303, y304, y305], []⟩ ∧ E66 W1 S bo bc bs L x256 x257 x258 x259 x260 x261 x262 x263 x32 W
theorem E66.step {W1 : World} {S : Nat} {bo : Option Addr} {bc : Nat} {bs : List By} {y0 y1 y2 y3 y4 y5 y6 y7 y8 y9 y10 y11 y12 y13 y14 y15 y16 y17 y18 y19 y20 y21 y22 y23 y24 y25 y26 y27 y28 y29 y30 y31 y33 y34 y35 y36 y37 y38 y39 y40 y41 y42 y43 y44 y45 y46 y47 y48 y49 y50 y51 y52 y53 y54 y55 y56 y57 y58 y59 y60 y61 y62 y63 y64 y65 y66 y67 y68 y69 y70 y71 y72 y73 y74 y75 y76 y77 y78 y79 y80 y81 y82 y83 y84 y85 y86 y87 y88 y89 y90 y91 y92 y93 y94 y95 y96 y97 y98 y99 y100 y101 y102 y103 y104 y105 y106 y107 y108 y109 y110 y111 y112 y113 y114 y115 y116 y117 y118 y119 y120 y121 y122 y123 y124 y125 y126 y127 y128 y129 y130 y131 y132 y133 y134 y135 y136 y137 y138 y139 y140 y141 y142 y143 y144 y145 y146 y147 y148 y149 y150 y151 y152 y153 y154 y155 y156 y157 y158 y159 y160 y161 y162 y163 y164 y165 y166 y167 y168 y169 y170 y171 y172 y173 y174 y175 y176 y177 y178 y179 y180 y181 y182 y183 y184 y185 y186 y187 y188 y189 y190 y191 y192 y193 y194 y195 y196 y197 y198 y199 y200 y201 y202 y203 y204 y205 y206 y207 y208 y209 y210 y211 y212 y213 y214 y215 y216 y217 y218 y219 y220 y221 y222 y223 y224 y225 y226 y227 y228 y229 y230 y231 y232 y233 y234 y235 y236 y237 y238 y239 y240 y241 y242 y243 y244 y245 y246 y247 y248 y249 y250 y251 y252 y253 y254 y255 y264 y265 y266 y267 y268 y269 y270 y271 y272 y273 y274 y275 y276 y277 y278 y279 y280 y281 y282 y283 y284 y285 y286 y287 y288 y289 y290 y291 y292 y293 y294 y295 y296 y297 y298 y299 y300 y301 y302 y303 y304 y305 : Value} {P : Program} {ops : Array Oper} {Q : Exit → Act → World → Prop} {i : Nat} {o : Oper} (hq : ∀ x256 x257 x258 x259 x260 x261 x262 x263 x32 (L : Nat → Bool) (W : World), E66 W1 S bo bc bs L x256 x257 x258 x259 x260 x261 x262 x263 x32 W → L i = false → (∀ j ∈ onesOf o, L j = true) → ∀ K : Act → World → Prop, Shut (∀ a' w', IE66 W1 S bo bc bs y0 y1 y2 y3 y4 y5 y6 y7 y8 y9 y10 y11 y12 y13 y14 y15 y16 y17 y18 y19 y20 y21 y22 y23 y24 y25 y26 y27 y28 y29 y30 y31 y33 y34 y35 y36 y37 y38 y39 y40 y41 y42 y43 y44 y45 y46 y47 y48 y49 y50 y51 y52 y53 y54 y55 y56 y57 y58 y59 y60 y61 y62 y63 y64 y65 y66 y67 y68 y69 y70 y71 y72 y73 y74 y75 y76 y77 y78 y79 y80 y81 y82 y83 y84 y85 y86 y87 y88 y89 y90 y91 y92 y93 y94 y95 y96 y97 y98 y99 y100 y101 y102 y103 y104 y105 y106 y107 y108 y109 y110 y111 y112 y113 y114 y115 y116 y117 y118 y119 y120 y121 y122 y123 y124 y125 y126 y127 y128 y129 y130 y131 y132 y133 y134 y135 y136 y137 y138 y139 y140 y141 y142 y143 y144 y145 y146 y147 y148 y149 y150 y151 y152 y153 y154 y155 y156 y157 y158 y159 y160 y161 y162 y163 y164 y165 y166 y167 y168 y169 y170 y171 y172 y173 y174 y175 y176 y177 y178 y179 y180 y181 y182 y183 y184 y185 y186 y187 y188 y189 y190 y191 y192 y193 y194 y195 y196 y197 y198 y199 y200 y201 y202 y203 y204 y205 y206 y207 y208 y209 y210 y211 y212 y213 y214 y215 y216 y217 y218 y219 y220 y221 y222 y223 y224 y225 y226 y227 y228 y229 y230 y231 y232 y233 y234 y235 y236 y237 y238 y239 y240 y241 y242 y243 y244 y245 y246 y247 y248 y249 y250 y251 y252 y253 y254 y255 y264 y265 y266 y267 y268 y269 y270 y271 y272 y273 y274 y275 y276 y277 y278 y279 y280 y281 y282 y283 y284 y285 y286 y287 y288 y289 y290 y291 y292 y293 y294 y295 y296 y297 y298 y299 y300 y301 y302 y303 y304 y305 (upd L i) a' w' → K a' w') → if Region.wanted o (yielded ops (⟨#[y0, y1, y2, y3, y4, y5, y6, y7, y8, y9, y10, y11, y12, y13, y14, y15, y16, y17, y18, y19, y20, y21, y22, y23, y24, y25, y26, y27, y28, y29, y30, y31, x32, y33, y34, y35, y36, y37, y38, y39, y40, y41, y42, y43, y44, y45, y46, y47, y48, y49, y50, y51, y52, y53, y54, y55, y56, y57, y58, y59, y60, y61, y62, y63, y64, y65, y66, y67, y68, y69, y70, y71, y72, y73, y74, y75, y76, y77, y78, y79, y80, y81, y82, y83, y84, y85, y86, y87, y88, y89, y90, y91, y92, y93, y94, y95, y96, y97, y98, y99, y100, y101, y102, y103, y104, y105, y106, y107, y108, y109, y110, y111, y112, y113, y114, y115, y116, y117, y118, y119, y120, y121, y122, y123, y124, y125, y126, y127, y128, y129, y130, y131, y132, y133, y134, y135, y136, y137, y138, y139, y140, y141, y142, y143, y144, y145, y146, y147, y148, y149, y150, y151, y152, y153, y154, y155, y156, y157, y158, y159, y160, y161, y162, y163, y164, y165, y166, y167, y168, y169, y170, y171, y172, y173, y174, y175, y176, y177, y178, y179, y180, y181, y182, y183, y184, y185, y186, y187, y188, y189, y190, y191, y192, y193, y194, y195, y196, y197, y198, y199, y200, y201, y202, y203, y204, y205, y206, y207, y208, y209, y210, y211, y212, y213, y214, y215, y216, y217, y218, y219, y220, y221, y222, y223, y224, y225, y226, y227, y228, y229, y230, y231, y232, y233, y234, y235, y236, y237, y238, y239, y240, y241, y242, y243, y244, y245, y246, y247, y248, y249, y250, y251, y252, y253, y254, y255, x256, x257, x258, x259, x260, x261, x262, x263, y264, y265, y266, y267, y268, y269, y270, y271, y272, y273, y274, y275, y276, y277, y278, y279, y280, y281, y282, y283, y284, y285, y286, y287, y288, y289, y290, y291, y292, y293, y294, y295, y296, y297, y298, y299, y300, y301, y302, y303, y304, y305], []⟩ : Act).tmps) = true then Oper.wp P o ⟨#[y0, y1, y2, y3, y4, y5, y6, y7, y8, y9, y10, y11, y12, y13, y14, y15, y16, y17, y18, y19, y20, y21, y22, y23, y24, y25, y26, y27, y28, y29, y30, y31, x32, y33, y34, y35, y36, y37, y38, y39, y40, y41, y42, y43, y44, y45, y46, y47, y48, y49, y50, y51, y52, y53, y54, y55, y56, y57, y58, y59, y60, y61, y62, y63, y64, y65, y66, y67, y68, y69, y70, y71, y72, y73, y74, y75, y76, y77, y78, y79, y80, y81, y82, y83, y84, y85, y86, y87, y88, y89, y90, y91, y92, y93, y94, y95, y96, y97, y98, y99, y100, y101, y102, y103, y104, y105, y106, y107, y108, y109, y110, y111, y112, y113, y114, y115, y116, y117, y118, y119, y120, y121, y122, y123, y124, y125, y126, y127, y128, y129, y130, y131, y132, y133, y134, y135, y136, y137, y138, y139, y140, y141, y142, y143, y144, y145, y146, y147, y148, y149, y150, y151, y152, y153, y154, y155, y156, y157, y158, y159, y160, y161, y162, y163, y164, y165, y166, y167, y168, y169, y170, y171, y172, y173, y174, y175, y176, y177, y178, y179, y180, y181, y182, y183, y184, y185, y186, y187, y188, y189, y190, y191, y192, y193, y194, y195, y196, y197, y198, y199, y200, y201, y202, y203, y204, y205, y206, y207, y208, y209, y210, y211, y212, y213, y214, y215, y216, y217, y218, y219, y220, y221, y222, y223, y224, y225, y226, y227, y228, y229, y230, y231, y232, y233, y234, y235, y236, y237, y238, y239, y240, y241, y242, y243, y244, y245, y246, y247, y248, y249, y250, y251, y252, y253, y254, y255, x256, x257, x258, x259, x260, x261, x262, x263, y264, y265, y266, y267, y268, y269, y270, y271, y272, y273, y274, y275, y276, y277, y278, y279, y280, y281, y282, y283, y284, y285, y286, y287, y288, y289, y290, y291, y292, y293, y294, y295, y296, y297, y298, y299, y300, y301, y302, y303, y304, y305], []⟩ W K Q else K ((⟨#[y0, y1, y2, y3, y4, y5, y6, y7, y8, y9, y10, y11, y12, y13, y14, y15, y16, y17, y18, y19, y20, y21, y22, y23, y24, y25, y26, y27, y28, y29, y30, y31, x32, y33, y34, y35, y36, y37, y38, y39, y40, y41, y42, y43, y44, y45, y46, y47, y48, y49, y50, y51, y52, y53, y54, y55, y56, y57, y58, y59, y60, y61, y62, y63, y64, y65, y66, y67, y68, y69, y70, y71, y72, y73, y74, y75, y76, y77, y78, y79, y80, y81, y82, y83, y84, y85, y86, y87, y88, y89, y90, y91, y92, y93, y94, y95, y96, y97, y98, y99, y100, y101, y102, y103, y104, y105, y106, y107, y108, y109, y110, y111, y112, y113, y114, y115, y116, y117, y118, y119, y120, y121, y122, y123, y124, y125, y126, y127, y128, y129, y130, y131, y132, y133, y134, y135, y136, y137, y138, y139, y140, y141, y142, y143, y144, y145, y146, y147, y148, y149, y150, y151, y152, y153, y154, y155, y156, y157, y158, y159, y160, y161, y162, y163, y164, y165, y166, y167, y168, y169, y170, y171, y172, y173, y174, y175, y176, y177, y178, y179, y180, y181, y182, y183, y184, y185, y186, y187, y188, y189, y190, y191, y192, y193, y194, y195, y196, y197, y198, y199, y200, y201, y202, y203, y204, y205, y206, y207, y208, y209, y210, y211, y212, y213, y214, y215, y216, y217, y218, y219, y220, y221, y222, y223, y224, y225, y226, y227, y228, y229, y230, y231, y232, y233, y234, y235, y236, y237, y238, y239, y240, y241, y242, y243, y244, y245, y246, y247, y248, y249, y250, y251, y252, y253, y254, y255, x256, x257, x258, x259, x260, x261, x262, x263, y264, y265, y266, y267, y268, y269, y270, y271, y272, y273, y274, y275, y276, y277, y278, y279, y280, y281, y282, y283, y284, y285, y286, y287, y288, y289, y290, y291, y292, y293, y294, y295, y296, y297, y298, y299, y300, y301, y302, y303, y304, y305], []⟩ : Act).put o.dst undef) W) : StepI P ops (IE66 W1 S bo bc bs y0 y1 y2 y3 y4 y5 y6 y7 y8 y9 y10 y11 y12 y13 y14 y15 y16 y17 y18 y19 y20 y21 y22 y23 y24 y25 y26 y27 y28 y29 y30 y31 y33 y34 y35 y36 y37 y38 y39 y40 y41 y42 y43 y44 y45 y46 y47 y48 y49 y50 y51 y52 y53 y54 y55 y56 y57 y58 y59 y60 y61 y62 y63 y64 y65 y66 y67 y68 y69 y70 y71 y72 y73 y74 y75 y76 y77 y78 y79 y80 y81 y82 y83 y84 y85 y86 y87 y88 y89 y90 y91 y92 y93 y94 y95 y96 y97 y98 y99 y100 y101 y102 y103 y104 y105 y106 y107 y108 y109 y110 y111 y112 y113 y114 y115 y116 y117 y118 y119 y120 y121 y122 y123 y124 y125 y126 y127 y128 y129 y130 y131 y132 y133 y134 y135 y136 y137 y138 y139 y140 y141 y142 y143 y144 y145 y146 y147 y148 y149 y150 y151 y152 y153 y154 y155 y156 y157 y158 y159 y160 y161 y162 y163 y164 y165 y166 y167 y168 y169 y170 y171 y172 y173 y174 y175 y176 y177 y178 y179 y180 y181 y182 y183 y184 y185 y186 y187 y188 y189 y190 y191 y192 y193 y194 y195 y196 y197 y198 y199 y200 y201 y202 y203 y204 y205 y206 y207 y208 y209 y210 y211 y212 y213 y214 y215 y216 y217 y218 y219 y220 y221 y222 y223 y224 y225 y226 y227 y228 y229 y230 y231 y232 y233 y234 y235 y236 y237 y238 y239 y240 y241 y242 y243 y244 y245 y246 y247 y248 y249 y250 y251 y252 y253 y254 y255 y264 y265 y266 y267 y268 y269 y270 y271 y272 y273 y274 y275 y276 y277 y278 y279 y280 y281 y282 y283 y284 y285 y286 y287 y288 y289 y290 y291 y292 y293 y294 y295 y296 y297 y298 y299 y300 y301 y302 y303 y304 y305) Q i o := by
  rintro L a W ⟨x256, x257, x258, x259, x260, x261, x262, x263, x32, rfl, h⟩
  exact hq _ _ _ _ _ _ _ _ _ _ _ h
theorem E66.ends {W1 : World} {S : Nat} {bo : Option Addr} {bc : Nat} {bs : List By} {y0 y1 y2 y3 y4 y5 y6 y7 y8 y9 y10 y11 y12 y13 y14 y15 y16 y17 y18 y19 y20 y21 y22 y23 y24 y25 y26 y27 y28 y29 y30 y31 y33 y34 y35 y36 y37 y38 y39 y40 y41 y42 y43 y44 y45 y46 y47 y48 y49 y50 y51 y52 y53 y54 y55 y56 y57 y58 y59 y60 y61 y62 y63 y64 y65 y66 y67 y68 y69 y70 y71 y72 y73 y74 y75 y76 y77 y78 y79 y80 y81 y82 y83 y84 y85 y86 y87 y88 y89 y90 y91 y92 y93 y94 y95 y96 y97 y98 y99 y100 y101 y102 y103 y104 y105 y106 y107 y108 y109 y110 y111 y112 y113 y114 y115 y116 y117 y118 y119 y120 y121 y122 y123 y124 y125 y126 y127 y128 y129 y130 y131 y132 y133 y134 y135 y136 y137 y138 y139 y140 y141 y142 y143 y144 y145 y146 y147 y148 y149 y150 y151 y152 y153 y154 y155 y156 y157 y158 y159 y160 y161 y162 y163 y164 y165 y166 y167 y168 y169 y170 y171 y172 y173 y174 y175 y176 y177 y178 y179 y180 y181 y182 y183 y184 y185 y186 y187 y188 y189 y190 y191 y192 y193 y194 y195 y196 y197 y198 y199 y200 y201 y202 y203 y204 y205 y206 y207 y208 y209 y210 y211 y212 y213 y214 y215 y216 y217 y218 y219 y220 y221 y222 y223 y224 y225 y226 y227 y228 y229 y230 y231 y232 y233 y234 y235 y236 y237 y238 y239 y240 y241 y242 y243 y244 y245 y246 y247 y248 y249 y250 y251 y252 y253 y254 y255 y264 y265 y266 y267 y268 y269 y270 y271 y272 y273 y274 y275 y276 y277 y278 y279 y280 y281 y282 y283 y284 y285 y286 y287 y288 y289 y290 y291 y292 y293 y294 y295 y296 y297 y298 y299 y300 y301 y302 y303 y304 y305 : Value} {mm_ : Nat} {Q : Exit → Act → World → Prop} (hq : ∀ x256 x257 x258 x259 x260 x261 x262 x263 x32 (L : Nat → Bool) (W : World), (∀ j, j < mm_ → L j = true) → E66 W1 S bo bc bs L x256 x257 x258 x259 x260 x261 x262 x263 x32 W → Q .normal ⟨#[y0, y1, y2, y3, y4, y5, y6, y7, y8, y9, y10, y11, y12, y13, y14, y15, y16, y17, y18, y19, y20, y21, y22, y23, y24, y25, y26, y27, y28, y29, y30, y31, x32, y33, y34, y35, y36, y37, y38, y39, y40, y41, y42, y43, y44, y45, y46, y47, y48, y49, y50, y51, y52, y53, y54, y55, y56, y57, y58, y59, y60, y61, y62, y63, y64, y65, y66, y67, y68, y69, y70, y71, y72, y73, y74, y75, y76, y77, y78, y79, y80, y81, y82, y83, y84, y85, y86, y87, y88, y89, y90, y91, y92, y93, y94, y95, y96, y97, y98, y99, y100, y101, y102, y103, y104, y105, y106, y107, y108, y109, y110, y111, y112, y113, y114, y115, y116, y117, y118, y119, y120, y121, y122, y123, y124, y125, y126, y127, y128, y129, y130, y131, y132, y133, y134, y135, y136, y137, y138, y139, y140, y141, y142, y143, y144, y145, y146, y147, y148, y149, y150, y151, y152, y153, y154, y155, y156, y157, y158, y159, y160, y161, y162, y163, y164, y165, y166, y167, y168, y169, y170, y171, y172, y173, y174, y175, y176, y177, y178, y179, y180, y181, y182, y183, y184, y185, y186, y187, y188, y189, y190, y191, y192, y193, y194, y195, y196, y197, y198, y199, y200, y201, y202, y203, y204, y205, y206, y207, y208, y209, y210, y211, y212, y213, y214, y215, y216, y217, y218, y219, y220, y221, y222, y223, y224, y225, y226, y227, y228, y229, y230, y231, y232, y233, y234, y235, y236, y237, y238, y239, y240, y241, y242, y243, y244, y245, y246, y247, y248, y249, y250, y251, y252, y253, y254, y255, x256, x257, x258, x259, x260, x261, x262, x263, y264, y265, y266, y267, y268, y269, y270, y271, y272, y273, y274, y275, y276, y277, y278, y279, y280, y281, y282, y283, y284, y285, y286, y287, y288, y289, y290, y291, y292, y293, y294, y295, y296, y297, y298, y299, y300, y301, y302, y303, y304, y305], []⟩ W) : ∀ L a' w', (∀ j, j < mm_ → L j = true) → IE66 W1 S bo bc bs y0 y1 y2 y3 y4 y5 y6 y7 y8 y9 y10 y11 y12 y13 y14 y15 y16 y17 y18 y19 y20 y21 y22 y23 y24 y25 y26 y27 y28 y29 y30 y31 y33 y34 y35 y36 y37 y38 y39 y40 y41 y42 y43 y44 y45 y46 y47 y48 y49 y50 y51 y52 y53 y54 y55 y56 y57 y58 y59 y60 y61 y62 y63 y64 y65 y66 y67 y68 y69 y70 y71 y72 y73 y74 y75 y76 y77 y78 y79 y80 y81 y82 y83 y84 y85 y86 y87 y88 y89 y90 y91 y92 y93 y94 y95 y96 y97 y98 y99 y100 y101 y102 y103 y104 y105 y106 y107 y108 y109 y110 y111 y112 y113 y114 y115 y116 y117 y118 y119 y120 y121 y122 y123 y124 y125 y126 y127 y128 y129 y130 y131 y132 y133 y134 y135 y136 y137 y138 y139 y140 y141 y142 y143 y144 y145 y146 y147 y148 y149 y150 y151 y152 y153 y154 y155 y156 y157 y158 y159 y160 y161 y162 y163 y164 y165 y166 y167 y168 y169 y170 y171 y172 y173 y174 y175 y176 y177 y178 y179 y180 y181 y182 y183 y184 y185 y186 y187 y188 y189 y190 y191 y192 y193 y194 y195 y196 y197 y198 y199 y200 y201 y202 y203 y204 y205 y206 y207 y208 y209 y210 y211 y212 y213 y214 y215 y216 y217 y218 y219 y220 y221 y222 y223 y224 y225 y226 y227 y228 y229 y230 y231 y232 y233 y234 y235 y236 y237 y238 y239 y240 y241 y242 y243 y244 y245 y246 y247 y248 y249 y250 y251 y252 y253 y254 y255 y264 y265 y266 y267 y268 y269 y270 y271 y272 y273 y274 y275 y276 y277 y278 y279 y280 y281 y282 y283 y284 y285 y286 y287 y288 y289 y290 y291 y292 y293 y294 y295 y296 y297 y298 y299 y300 y301 y302 y303 y304 y305 L a' w' → Q .normal a' w' := by
  rintro L a W hall ⟨x256, x257, x258, x259, x260, x261, x262, x263, x32, rfl, h⟩
  exact hq _ _ _ _ _ _ _ _ _ _ _ hall h
structure E67 (W1 : World) (N0 : Nat) (ao : Option Addr) (c S : Nat) (bo : Option Addr) (bc : Nat) (bs : List By) (L : Nat → Bool) (x264 x265 x266 x267 x268 x269 x270 x32 : Value) (W : World) : Prop where
  x : BY N0 W1 ao c bs [177#8, 178#8] (L 1) (L 2) (L 6) (L 7) x265 x266 x270 x32 W
  p0 : L 0 = true → x264 = .slice ao bs.length c
  p3 : L 3 = true → x267 = .pointer (some ⟨S, 1, none⟩)
  p4 : L 4 = true → x268 = .slice bo bs.length bc
  p5 : L 5 = true → x269 = .int .i64 (bs.length : Int)
  c6_2 : L 6 = true → L 2 = true
  c2_0 : L 2 = true → L 0 = true
section
variable {W1 : World} {N0 : Nat} {ao : Option Addr} {c S : Nat} {bo : Option Addr} {bc : Nat} {bs : List By} {L : Nat → Bool} {x264 x265 x266 x267 x268 x269 x270 x32 : Value} {W W2 : World}
theorem E67.s0 (h : E67 W1 N0 ao c S bo bc bs L x264 x265 x266 x267 x268 x269 x270 x32 W) : E67 W1 N0 ao c S bo bc bs (upd L 0) (.slice ao bs.length c) x265 x266 x267 x268 x269 x270 x32 W :=
  ⟨h.x, fun _ => rfl, h.p3, h.p4, h.p5, h.c6_2, fun _ => rfl⟩
theorem E67.s1 (h : E67 W1 N0 ao c S bo bc bs L x264 x265 x266 x267 x268 x269 x270 x32 W) {v : Value} (hX : BY N0 W1 ao c bs [177#8, 178#8] ((upd L 1) 1) ((upd L 1) 2) ((upd L 1) 6) ((upd L 1) 7) v x266 x270 x32 W2) : E67 W1 N0 ao c S bo bc bs (upd L 1) x264 v x266 x267 x268 x269 x270 x32 W2 :=
  ⟨hX, h.p0, h.p3, h.p4, h.p5, h.c6_2, h.c2_0⟩
theorem E67.s2 (h : E67 W1 N0 ao c S bo bc bs L x264 x265 x266 x267 x268 x269 x270 x32 W) {v : Value} (hX : BY N0 W1 ao c bs [177#8, 178#8] ((upd L 2) 1) ((upd L 2) 2) ((upd L 2) 6) ((upd L 2) 7) x265 v x270 x32 W2) (hc0 : L 0 = true) : E67 W1 N0 ao c S bo bc bs (upd L 2) x264 x265 v x267 x268 x269 x270 x32 W2 :=
  ⟨hX, h.p0, h.p3, h.p4, h.p5, fun _ => rfl, fun _ => hc0⟩
theorem E67.s3 (h : E67 W1 N0 ao c S bo bc bs L x264 x265 x266 x267 x268 x269 x270 x32 W) : E67 W1 N0 ao c S bo bc bs (upd L 3) x264 x265 x266 (.pointer (some ⟨S, 1, none⟩)) x268 x269 x270 x32 W :=
  ⟨h.x, h.p0, fun _ => rfl, h.p4, h.p5, h.c6_2, h.c2_0⟩
theorem E67.s4 (h : E67 W1 N0 ao c S bo bc bs L x264 x265 x266 x267 x268 x269 x270 x32 W) : E67 W1 N0 ao c S bo bc bs (upd L 4) x264 x265 x266 x267 (.slice bo bs.length bc) x269 x270 x32 W :=
  ⟨h.x, h.p0, h.p3, fun _ => rfl, h.p5, h.c6_2, h.c2_0⟩
theorem E67.s5 (h : E67 W1 N0 ao c S bo bc bs L x264 x265 x266 x267 x268 x269 x270 x32 W) : E67 W1 N0 ao c S bo bc bs (upd L 5) x264 x265 x266 x267 x268 (.int .i64 (bs.length : Int)) x270 x32 W :=
  ⟨h.x, h.p0, h.p3, h.p4, fun _ => rfl, h.c6_2, h.c2_0⟩
theorem E67.s6 (h : E67 W1 N0 ao c S bo bc bs L x264 x265 x266 x267 x268 x269 x270 x32 W) {v : Value} (hX : BY N0 W1 ao c bs [177#8, 178#8] ((upd L 6) 1) ((upd L 6) 2) ((upd L 6) 6) ((upd L 6) 7) x265 x266 v x32 W2) (hc2 : L 2 = true) : E67 W1 N0 ao c S bo bc bs (upd L 6) x264 x265 x266 x267 x268 x269 v x32 W2 :=
  ⟨hX, h.p0, h.p3, h.p4, h.p5, fun _ => hc2, h.c2_0⟩
theorem E67.s7 (h : E67 W1 N0 ao c S bo bc bs L x264 x265 x266 x267 x268 x269 x270 x32 W) {v : Value} (hX : BY N0 W1 ao c bs [177#8, 178#8] ((upd L 7) 1) ((upd L 7) 2) ((upd L 7) 6) ((upd L 7) 7) x265 x266 x270 v W2) : E67 W1 N0 ao c S bo bc bs (upd L 7) x264 x265 x266 x267 x268 x269 x270 v W2 :=
  ⟨hX, h.p0, h.p3, h.p4, h.p5, h.c6_2, h.c2_0⟩
end
@[reducible] def IE67 (W1 : World) (N0 : Nat) (ao : Option Addr) (c S : Nat) (bo : Option Addr) (bc : Nat) (bs : List By) (y0 y1 y2 y3 y4 y5 y6 y7 y8 y9 y10 y11 y12 y13 y14 y15 y16 y17 y18 y19 y20 y21 y22 y23 y24 y25 y26 y27 y28 y29 y30 y31 y33 y34 y35 y36 y37 y38 y39 y40 y41 y42 y43 y44 y45 y46 y47 y48 y49 y50 y51 y52 y53 y54 y55 y56 y57 y58 y59 y60 y61 y62 y63 y64 y65 y66 y67 y68 y69 y70 y71 y72 y73 y74 y75 y76 y77 y78 y79 y80 y81 y82 y83 y84 y85 y86 y87 y88 y89 y90 y91 y92 y93 y94 y95 y96 y97 y98 y99 y100 y101 y102 y103 y104 y105 y106 y107 y108 y109 y110 y111 y112 y113 y114 y115 y116 y117 y118 y119 y120 y121 y122 y123 y124 y125 y126 y127 y128 y129 y130 y131 y132 y133 y134 y135 y136 y137 y138 y139 y140 y141 y142 y143 y144 y145 y146 y147 y148 y149 y150 y151 y152 y153 y154 y155 y156 y157 y158 y159 y160 y161 y162 y163 y164 y165 y166 y167 y168 y169 y170 y171 y172 y173 y174 y175 y176 y177 y178 y179 y180 y181 y182 y183 y184 y185 y186 y187 y188 y189 y190 y191 y192 y193 y194 y195 y196 y197 y198 y199 y200 y201 y202 y203 y204 y205 y206 y207 y208 y209 y210 y211 y212 y213 y214 y215 y216 y217 y218 y219 y220 y221 y222 y223 y224 y225 y226 y227 y228 y229 y230 y231 y232 y233 y234 y235 y236 y237 y238 y239 y240 y241 y242 y243 y244 y245 y246 y247 y248 y249 y250 y251 y252 y253 y254 y255 y256 y257 y258 y259 y260 y261 y262 y263 y271 y272 y273 y274 y275 y276 y277 y278 y279 y280 y281 y282 y283 y284 y285 y286 y287 y288 y289 y290 y291 y292 y293 y294 y295 y296 y297 y298 y299 y300 y301 y302 y303 y304 y305 : Value) : (Nat → Bool) → Act → World → Prop := fun L a W => ∃ x264 x265 x266 x267 x268 x269 x270 x32, a = ⟨#[y0, y1, y2, y3, y4, y5, y6, y7, y8, y9, y10, y11, y12, y13, y14, y15, y16, y17, y18, y19, y20, y21, y22, y23, y24, y25, y26, y27, y28, y29, y30, y31, x32, y33, y34, y35, y36, y37, y38, y39, y40, y41, y42, y43, y44, y45, y46, y47, y48, y49, y50, y51, y52, y53, y54, y55, y56, y57, y58, y59, y60, y61, y62, y63, y64, y65, y66, y67, y68, y69, y70, y71, y72, y73, y74, y75, y76, y77, y78, y79, y80, y81, y82, y83, y84, y85, y86, y87, y88, y89, y90, y91, y92, y93, y94, y95, y96, y97, y98, y99, y100, y101, y102, y103, y104, y105, y106, y107, y108, y109, y110, y111, y112, y113, y114, y115, y116, y117, y118, y119, y120, y121, y122, y123, y124, y125, y126, y127, y128, y129, y130, y131, y132, y133, y134, y135, y136, y137, y138, y139, y140, y141, y142, y143, y144, y145, y146, y147, y148, y149, y150, y151, y152, y153, y154, y155, y156, y157, y158, y159, y160, y161, y162, y163, y164, y165, y166, y167, y168, y169, y170, y171, y172, y173, y174, y175, y176, y177, y178, y179, y180, y181, y182, y183, y184, y185, y186, y187, y188, y189, y190, y191, y192, y193, y194, y195, y196, y197, y198, y199, y200, y201, y202, y203, y204, y205, y206, y207, y208, y209, y210, y211, y212, y213, y214, y215, y216, y217, y218, y219, y220, y221, y222, y223, y224, y225, y226, y227, y228, y229, y230, y231, y232, y233, y234, y235, y236, y237, y238, y239, y240, y241, y242, y243, y244, y245, y246, y247, y248, y249, y250, y251, y252, y253, y254, y255, y256, y257, y258, y259, y260, y261, y262, y263, x264, x265, x266, x267, x268, x269, x270, y271, y272, y273, y274, y275, y276, y277, y278, y279, y280, y281, y282, y283, y284, y285, y286, y287, y288, y289, y290, y291, y292, y293, y294, y295, y296, y297, y298, y299, y300, y301, y302, y303, y304, y305], []⟩ ∧ E67 W1 N0 ao c S bo bc bs L x264 x265 x266 x267 x268 x269 x270 x32 W
theorem E67.step {W1 : World} {N0 : Nat} {ao : Option Addr} {c S : Nat} {bo : Option Addr} {bc : Nat} {bs : List By} {y0 y1 y2 y3 y4 y5 y6 y7 y8 y9 y10 y11 y12 y13 y14 y15 y16 y17 y18 y19 y20 y21 y22 y23 y24 y25 y26 y27 y28 y29 y30 y31 y33 y34 y35 y36 y37 y38 y39 y40 y41 y42 y43 y44 y45 y46 y47 y48 y49 y50 y51 y52 y53 y54 y55 y56 y57 y58 y59 y60 y61 y62 y63 y64 y65 y66 y67 y68 y69 y70 y71 y72 y73 y74 y75 y76 y77 y78 y79 y80 y81 y82 y83 y84 y85 y86 y87 y88 y89 y90 y91 y92 y93 y94 y95 y96 y97 y98 y99 y100 y101 y102 y103 y104 y105 y106 y107 y108 y109 y110 y111 y112 y113 y114 y115 y116 y117 y118 y119 y120 y121 y122 y123 y124 y125 y126 y127 y128 y129 y130 y131 y132 y133 y134 y135 y136 y137 y138 y139 y140 y141 y142 y143 y144 y145 y146 y147 y148 y149 y150 y151 y152 y153 y154 y155 y156 y157 y158 y159 y160 y161 y162 y163 y164 y165 y166 y167 y168 y169 y170 y171 y172 y173 y174 y175 y176 y177 y178 y179 y180 y181 y182 y183 y184 y185 y186 y187 y188 y189 y190 y191 y192 y193 y194 y195 y196 y197 y198 y199 y200 y201 y202 y203 y204 y205 y206 y207 y208 y209 y210 y211 y212 y213 y214 y215 y216 y217 y218 y219 y220 y221 y222 y223 y224 y225 y226 y227 y228 y229 y230 y231 y232 y233 y234 y235 y236 y237 y238 y239 y240 y241 y242 y243 y244 y245 y246 y247 y248 y249 y250 y251 y252 y253 y254 y255 y256 y257 y258 y259 y260 y261 y262 y263 y271 y272 y273 y274 y275 y276 y277 y278 y279 y280 y281 y282 y283 y284 y285 y286 y287 y288 y289 y290 y291 y292 y293 y294 y295 y296 y297 y298 y299 y300 y301 y302 y303 y304 y305 : Value} {P : Program} {ops : Array Oper} {Q : Exit → Act → World → Prop} {i : Nat} {o : Oper} (hq : ∀ x264 x265 x266 x267 x268 x269 x270 x32 (L : Nat → Bool) (W : World), E67 W1 N0 ao c S bo bc bs L x264 x265 x266 x267 x268 x269 x270 x32 W → L i = false → (∀ j ∈ onesOf o, L j = true) → ∀ K : Act → World → Prop, Shut (∀ a' w', IE67 W1 N0 ao c S bo bc bs y0 y1 y2 y3 y4 y5 y6 y7 y8 y9 y10 y11 y12 y13 y14 y15 y16 y17 y18 y19 y20 y21 y22 y23 y24 y25 y26 y27 y28 y29 y30 y31 y33 y34 y35 y36 y37 y38 y39 y40 y41 y42 y43 y44 y45 y46 y47 y48 y49 y50 y51 y52 y53 y54 y55 y56 y57 y58 y59 y60 y61 y62 y63 y64 y65 y66 y67 y68 y69 y70 y71 y72 y73 y74 y75 y76 y77 y78 y79 y80 y81 y82 y83 y84 y85 y86 y87 y88 y89 y90 y91 y92 y93 y94 y95 y96 y97 y98 y99 y100 y101 y102 y103 y104 y105 y106 y107 y108 y109 y110 y111 y112 y113 y114 y115 y116 y117 y118 y119 y120 y121 y122 y123 y124 y125 y126 y127 y128 y129 y130 y131 y132 y133 y134 y135 y136 y137 y138 y139 y140 y141 y142 y143 y144 y145 y146 y147 y148 y149 y150 y151 y152 y153 y154 y155 y156 y157 y158 y159 y160 y161 y162 y163 y164 y165 y166 y167 y168 y169 y170 y171 y172 y173 y174 y175 y176 y177 y178 y179 y180 y181 y182 y183 y184 y185 y186 y187 y188 y189 y190 y191 y192 y193 y194 y195 y196 y197 y198 y199 y200 y201 y202 y203 y204 y205 y206 y207 y208 y209 y210 y211 y212 y213 y214 y215 y216 y217 y218 y219 y220 y221 y222 y223 y224 y225 y226 y227 y228 y229 y230 y231 y232 y233 y234 y235 y236 y237 y238 y239 y240 y241 y242 y243 y244 y245 y246 y247 y248 y249 y250 y251 y252 y253 y254 y255 y256 y257 y258 y259 y260 y261 y262 y263 y271 y272 y273 y274 y275 y276 y277 y278 y279 y280 y281 y282 y283 y284 y285 y286 y287 y288 y289 y290 y291 y292 y293 y294 y295 y296 y297 y298 y299 y300 y301 y302 y303 y304 y305 (upd L i) a' w' → K a' w') → if Region.wanted o (yielded ops (⟨#[y0, y1, y2, y3, y4, y5, y6, y7, y8, y9, y10, y11, y12, y13, y14, y15, y16, y17, y18, y19, y20, y21, y22, y23, y24, y25, y26, y27, y28, y29, y30, y31, x32, y33, y34, y35, y36, y37, y38, y39, y40, y41, y42, y43, y44, y45, y46, y47, y48, y49, y50, y51, y52, y53, y54, y55, y56, y57, y58, y59, y60, y61, y62, y63, y64, y65, y66, y67, y68, y69, y70, y71, y72, y73, y74, y75, y76, y77, y78, y79, y80, y81, y82, y83, y84, y85, y86, y87, y88, y89, y90, y91, y92, y93, y94, y95, y96, y97, y98, y99, y100, y101, y102, y103, y104, y105, y106, y107, y108, y109, y110, y111, y112, y113, y114, y115, y116, y117, y118, y119, y120, y121, y122, y123, y124, y125, y126, y127, y128, y129, y130, y131, y132, y133, y134, y135, y136, y137, y138, y139, y140, y141, y142, y143, y144, y145, y146, y147, y148, y149, y150, y151, y152, y153, y154, y155, y156, y157, y158, y159, y160, y161, y162, y163, y164, y165, y166, y167, y168, y169, y170, y171, y172, y173, y174, y175, y176, y177, y178, y179, y180, y181, y182, y183, y184, y185, y186, y187, y188, y189, y190, y191, y192, y193, y194, y195, y196, y197, y198, y199, y200, y201, y202, y203, y204, y205, y206, y207, y208, y209, y210, y211, y212, y213, y214, y215, y216, y217, y218, y219, y220, y221, y222, y223, y224, y225, y226, y227, y228, y229, y230, y231, y232, y233, y234, y235, y236, y237, y238, y239, y240, y241, y242, y243, y244, y245, y246, y247, y248, y249, y250, y251, y252, y253, y254, y255, y256, y257, y258, y259, y260, y261, y262, y263, x264, x265, x266, x267, x268, x269, x270, y271, y272, y273, y274, y275, y276, y277, y278, y279, y280, y281, y282, y283, y284, y285, y286, y287, y288, y289, y290, y291, y292, y293, y294, y295, y296, y297, y298, y299, y300, y301, y302, y303, y304, y305], []⟩ : Act).tmps) = true then Oper.wp P o ⟨#[y0, y1, y2, y3, y4, y5, y6, y7, y8, y9, y10, y11, y12, y13, y14, y15, y16, y17, y18, y19, y20, y21, y22, y23, y24, y25, y26, y27, y28, y29, y30, y31, x32, y33, y34, y35, y36, y37, y38, y39, y40, y41, y42, y43, y44, y45, y46, y47, y48, y49, y50, y51, y52, y53, y54, y55, y56, y57, y58, y59, y60, y61, y62, y63, y64, y65, y66, y67, y68, y69, y70, y71, y72, y73, y74, y75, y76, y77, y78, y79, y80, y81, y82, y83, y84, y85, y86, y87, y88, y89, y90, y91, y92, y93, y94, y95, y96, y97, y98, y99, y100, y101, y102, y103, y104, y105, y106, y107, y108, y109, y110, y111, y112, y113, y114, y115, y116, y117, y118, y119, y120, y121, y122, y123, y124, y125, y126, y127, y128, y129, y130, y131, y132, y133, y134, y135, y136, y137, y138, y139, y140, y141, y142, y143, y144, y145, y146, y147, y148, y149, y150, y151, y152, y153, y154, y155, y156, y157, y158, y159, y160, y161, y162, y163, y164, y165, y166, y167, y168, y169, y170, y171, y172, y173, y174, y175, y176, y177, y178, y179, y180, y181, y182, y183, y184, y185, y186, y187, y188, y189, y190, y191, y192, y193, y194, y195, y196, y197, y198, y199, y200, y201, y202, y203, y204, y205, y206, y207, y208, y209, y210, y211, y212, y213, y214, y215, y216, y217, y218, y219, y220, y221, y222, y223, y224, y225, y226, y227, y228, y229, y230, y231, y232, y233, y234, y235, y236, y237, y238, y239, y240, y241, y242, y243, y244, y245, y246, y247, y248, y249, y250, y251, y252, y253, y254, y255, y256, y257, y258, y259, y260, y261, y262, y263, x264, x265, x266, x267, x268, x269, x270, y271, y272, y273, y274, y275, y276, y277, y278, y279, y280, y281, y282, y283, y284, y285, y286, y287, y288, y289, y290, y291, y292, y293, y294, y295, y296, y297, y298, y299, y300, y301, y302, y303, y304, y305], []⟩ W K Q else K ((⟨#[y0, y1, y2, y3, y4, y5, y6, y7, y8, y9, y10, y11, y12, y13, y14, y15, y16, y17, y18, y19, y20, y21, y22, y23, y24, y25, y26, y27, y28, y29, y30, y31, x32, y33, y34, y35, y36, y37, y38, y39, y40, y41, y42, y43, y44, y45, y46, y47, y48, y49, y50, y51, y52, y53, y54, y55, y56, y57, y58, y59, y60, y61, y62, y63, y64, y65, y66, y67, y68, y69, y70, y71, y72, y73, y74, y75, y76, y77, y78, y79, y80, y81, y82, y83, y84, y85, y86, y87, y88, y89, y90, y91, y92, y93, y94, y95, y96, y97, y98, y99, y100, y101, y102, y103, y104, y105, y106, y107, y108, y109, y110, y111, y112, y113, y114, y115, y116, y117, y118, y119, y120, y121, y122, y123, y124, y125, y126, y127, y128, y129, y130, y131, y132, y133, y134, y135, y136, y137, y138, y139, y140, y141, y142, y143, y144, y145, y146, y147, y148, y149, y150, y151, y152, y153, y154, y155, y156, y157, y158, y159, y160, y161, y162, y163, y164, y165, y166, y167, y168, y169, y170, y171, y172, y173, y174, y175, y176, y177, y178, y179, y180, y181, y182, y183, y184, y185, y186, y187, y188, y189, y190, y191, y192, y193, y194, y195, y196, y197, y198, y199, y200, y201, y202, y203, y204, y205, y206, y207, y208, y209, y210, y211, y212, y213, y214, y215, y216, y217, y218, y219, y220, y221, y222, y223, y224, y225, y226, y227, y228, y229, y230, y231, y232, y233, y234, y235, y236, y237, y238, y239, y240, y241, y242, y243, y244, y245, y246, y247, y248, y249, y250, y251, y252, y253, y254, y255, y256, y257, y258, y259, y260, y261, y262, y263, x264, x265, x266, x267, x268, x269, x270, y271, y272, y273, y274, y275, y276, y277, y278, y279, y280, y281, y282, y283, y284, y285, y286, y287, y288, y289, y290, y291, y292, y293, y294, y295, y296, y297, y298, y299, y300, y301, y302, y303, y304, y305], []⟩ : Act).put o.dst undef) W) : StepI P ops (IE67 W1 N0 ao c S bo bc bs y0 y1 y2 y3 y4 y5 y6 y7 y8 y9 y10 y11 y12 y13 y14 y15 y16 y17 y18 y19 y20 y21 y22 y23 y24 y25 y26 y27 y28 y29 y30 y31 y33 y34 y35 y36 y37 y38 y39 y40 y41 y42 y43 y44 y45 y46 y47 y48 y49 y50 y51 y52 y53 y54 y55 y56 y57 y58 y59 y60 y61 y62 y63 y64 y65 y66 y67 y68 y69 y70 y71 y72 y73 y74 y75 y76 y77 y78 y79 y80 y81 y82 y83 y84 y85 y86 y87 y88 y89 y90 y91 y92 y93 y94 y95 y96 y97 y98 y99 y100 y101 y102 y103 y104 y105 y106 y107 y108 y109 y110 y111 y112 y113 y114 y115 y116 y117 y118 y119 y120 y121 y122 y123 y124 y125 y126 y127 y128 y129 y130 y131 y132 y133 y134 y135 y136 y137 y138 y139 y140 y141 y142 y143 y144 y145 y146 y147 y148 y149 y150 y151 y152 y153 y154 y155 y156 y157 y158 y159 y160 y161 y162 y163 y164 y165 y166 y167 y168 y169 y170 y171 y172 y173 y174 y175 y176 y177 y178 y179 y180 y181 y182 y183 y184 y185 y186 y187 y188 y189 y190 y191 y192 y193 y194 y195 y196 y197 y198 y199 y200 y201 y202 y203 y204 y205 y206 y207 y208 y209 y210 y211 y212 y213 y214 y215 y216 y217 y218 y219 y220 y221 y222 y223 y224 y225 y226 y227 y228 y229 y230 y231 y232 y233 y234 y235 y236 y237 y238 y239 y240 y241 y242 y243 y244 y245 y246 y247 y248 y249 y250 y251 y252 y253 y254 y255 y256 y257 y258 y259 y260 y261 y262 y263 y271 y272 y273 y274 y275 y276 y277 y278 y279 y280 y281 y282 y283 y284 y285 y286 y287 y288 y289 y290 y291 y292 y293 y294 y295 y296 y297 y298 y299 y300 y301 y302 y303 y304 y305) Q i o := by
  rintro L a W ⟨x264, x265, x266, x267, x268, x269, x270, x32, rfl, h⟩
  exact hq _ _ _ _ _ _ _ _ _ _ h
theorem E67.ends {W1 : World} {N0 : Nat} {ao : Option Addr} {c S : Nat} {bo : Option Addr} {bc : Nat} {bs : List By} {y0 y1 y2 y3 y4 y5 y6 y7 y8 y9 y10 y11 y12 y13 y14 y15 y16 y17 y18 y19 y20 y21 y22 y23 y24 y25 y26 y27 y28 y29 y30 y31 y33 y34 y35 y36 y37 y38 y39 y40 y41 y42 y43 y44 y45 y46 y47 y48 y49 y50 y51 y52 y53 y54 y55 y56 y57 y58 y59 y60 y61 y62 y63 y64 y65 y66 y67 y68 y69 y70 y71 y72 y73 y74 y75 y76 y77 y78 y79 y80 y81 y82 y83 y84 y85 y86 y87 y88 y89 y90 y91 y92 y93 y94 y95 y96 y97 y98 y99 y100 y101 y102 y103 y104 y105 y106 y107 y108 y109 y110 y111 y112 y113 y114 y115 y116 y117 y118 y119 y120 y121 y122 y123 y124 y125 y126 y127 y128 y129 y130 y131 y132 y133 y134 y135 y136 y137 y138 y139 y140 y141 y142 y143 y144 y145 y146 y147 y148 y149 y150 y151 y152 y153 y154 y155 y156 y157 y158 y159 y160 y161 y162 y163 y164 y165 y166 y167 y168 y169 y170 y171 y172 y173 y174 y175 y176 y177 y178 y179 y180 y181 y182 y183 y184 y185 y186 y187 y188 y189 y190 y191 y192 y193 y194 y195 y196 y197 y198 y199 y200 y201 y202 y203 y204 y205 y206 y207 y208 y209 y210 y211 y212 y213 y214 y215 y216 y217 y218 y219 y220 y221 y222 y223 y224 y225 y226 y227 y228 y229 y230 y231 y232 y233 y234 y235 y236 y237 y238 y239 y240 y241 y242 y243 y244 y245 y246 y247 y248 y249 y250 y251 y252 y253 y254 y255 y256 y257 y258 y259 y260 y261 y262 y263 y271 y272 y273 y274 y275 y276 y277 y278 y279 y280 y281 y282 y283 y284 y285 y286 y287 y288 y289 y290 y291 y292 y293 y294 y295 y296 y297 y298 y299 y300 y301 y302 y303 y304 y305 : Value} {mm_ : Nat} {Q : Exit → Act → World → Prop} (hq : ∀ x264 x265 x266 x267 x268 x269 x270 x32 (L : Nat → Bool) (W : World), (∀ j, j < mm_ → L j = true) → E67 W1 N0 ao c S bo bc bs L x264 x265 x266 x267 x268 x269 x270 x32 W → Q .normal ⟨#[y0, y1, y2, y3, y4, y5, y6, y7, y8, y9, y10, y11, y12, y13, y14, y15, y16, y17, y18, y19, y20, y21, y22, y23, y24, y25, y26, y27, y28, y29, y30, y31, x32, y33, y34, y35, y36, y37, y38, y39, y40, y41, y42, y43, y44, y45, y46, y47, y48, y49, y50, y51, y52, y53, y54, y55, y56, y57, y58, y59, y60, y61, y62, y63, y64, y65, y66, y67, y68, y69, y70, y71, y72, y73, y74, y75, y76, y77, y78, y79, y80, y81, y82, y83, y84, y85, y86, y87, y88, y89, y90, y91, y92, y93, y94, y95, y96, y97, y98, y99, y100, y101, y102, y103, y104, y105, y106, y107, y108, y109, y110, y111, y112, y113, y114, y115, y116, y117, y118, y119, y120, y121, y122, y123, y124, y125, y126, y127, y128, y129, y130, y131, y132, y133, y134, y135, y136, y137, y138, y139, y140, y141, y142, y143, y144, y145, y146, y147, y148, y149, y150, y151, y152, y153, y154, y155, y156, y157, y158, y159, y160, y161, y162, y163, y164, y165, y166, y167, y168, y169, y170, y171, y172, y173, y174, y175, y176, y177, y178, y179, y180, y181, y182, y183, y184, y185, y186, y187, y188, y189, y190, y191, y192, y193, y194, y195, y196, y197, y198, y199, y200, y201, y202, y203, y204, y205, y206, y207, y208, y209, y210, y211, y212, y213, y214, y215, y216, y217, y218, y219, y220, y221, y222, y223, y224, y225, y226, y227, y228, y229, y230, y231, y232, y233, y234, y235, y236, y237, y238, y239, y240, y241, y242, y243, y244, y245, y246, y247, y248, y249, y250, y251, y252, y253, y254, y255, y256, y257, y258, y259, y260, y261, y262, y263, x264, x265, x266, x267, x268, x269, x270, y271, y272, y273, y274, y275, y276, y277, y278, y279, y280, y281, y282, y283, y284, y285, y286, y287, y288, y289, y290, y291, y292, y293, y294, y295, y296, y297, y298, y299, y300, y301, y302, y303, y304, y305], []⟩ W) : ∀ L a' w', (∀ j, j < mm_ → L j = true) → IE67 W1 N0 ao c S bo bc bs y0 y1 y2 y3 y4 y5 y6 y7 y8 y9 y10 y11 y12 y13 y14 y15 y16 y17 y18 y19 y20 y21 y22 y23 y24 y25 y26 y27 y28 y29 y30 y31 y33 y34 y35 y36 y37 y38 y39 y40 y41 y42 y43 y44 y45 y46 y47 y48 y49 y50 y51 y52 y53 y54 y55 y56 y57 y58 y59 y60 y61 y62 y63 y64 y65 y66 y67 y68 y69 y70 y71 y72 y73 y74 y75 y76 y77 y78 y79 y80 y81 y82 y83 y84 y85 y86 y87 y88 y89 y90 y91 y92 y93 y94 y95 y96 y97 y98 y99 y100 y101 y102 y103 y104 y105 y106 y107 y108 y109 y110 y111 y112 y113 y114 y115 y116 y117 y118 y119 y120 y121 y122 y123 y124 y125 y126 y127 y128 y129 y130 y131 y132 y133 y134 y135 y136 y137 y138 y139 y140 y141 y142 y143 y144 y145 y146 y147 y148 y149 y150 y151 y152 y153 y154 y155 y156 y157 y158 y159 y160 y161 y162 y163 y164 y165 y166 y167 y168 y169 y170 y171 y172 y173 y174 y175 y176 y177 y178 y179 y180 y181 y182 y183 y184 y185 y186 y187 y188 y189 y190 y191 y192 y193 y194 y195 y196 y197 y198 y199 y200 y201 y202 y203 y204 y205 y206 y207 y208 y209 y210 y211 y212 y213 y214 y215 y216 y217 y218 y219 y220 y221 y222 y223 y224 y225 y226 y227 y228 y229 y230 y231 y232 y233 y234 y235 y236 y237 y238 y239 y240 y241 y242 y243 y244 y245 y246 y247 y248 y249 y250 y251 y252 y253 y254 y255 y256 y257 y258 y259 y260 y261 y262 y263 y271 y272 y273 y274 y275 y276 y277 y278 y279 y280 y281 y282 y283 y284 y285 y286 y287 y288 y289 y290 y291 y292 y293 y294 y295 y296 y297 y298 y299 y300 y301 y302 y303 y304 y305 L a' w' → Q .normal a' w' := by
  rintro L a W hall ⟨x264, x265, x266, x267, x268, x269, x270, x32, rfl, h⟩
  exact hq _ _ _ _ _ _ _ _ _ _ hall h
set_option maxHeartbeats 4000000 in
set_option maxRecDepth 1000000 in
theorem st15 (c2 c3 c4 c5 c6 c7 c8 c10 c11 c13 c14 c15 c16 c17 c18 c19 c20 c21 c22 c23 c24 c25 c26 c27 c28 c29 c30 c31 c32 c33 c34 c35 c36 c37 c38 c39 c40 c41 c42 c43 c44 c45 c46 c47 c48 c49 c50 c51 c52 c53 c54 c55 c56 c57 c58 c59 c60 c61 c62 c63 c64 c65 c66 c67 c68 c69 c70 c71 c72 c73 c74 c75 c76 c77 c78 c79 c80 c81 c82 c83 c84 c85 c86 c87 c88 c89 c90 c91 c92 c93 c94 c95 c96 c97 c98 c99 c100 c101 c102 c103 c104 c105 c106 c107 c108 c109 c110 c111 c112 c113 c114 c115 c116 c117 c118 c119 c120 c121 c122 c123 c124 c125 c126 c127 c128 c129 c130 c131 c132 c133 c134 c135 c136 c137 c138 c139 c140 c141 c142 c143 c144 c145 c146 c147 c148 c149 c150 c151 c152 c153 c154 c155 c156 c157 c158 c159 c160 c161 c162 c163 c164 c165 c166 c167 c168 c169 c170 c171 c172 c173 c174 c175 c176 c177 c178 c179 c180 c181 c182 c183 c184 c185 c186 c187 c188 c189 c190 c191 c192 c193 c194 c195 c196 c197 c198 c199 c200 c201 c202 c203 c204 c205 c206 c207 c208 c209 c210 c211 c212 c213 c214 c215 c216 c217 c218 c219 c220 c221 c222 c223 c224 c225 c226 c227 c228 c229 c230 c231 c232 c233 c234 c235 c236 c237 c238 c239 c240 c241 c242 c243 c244 c245 c246 c247 c248 c249 c250 c251 c252 c253 c254 c255 c256 c257 c258 c259 c260 c261 c262 c263 c264 c265 c266 c267 c268 c269 c270 c271 c272 c273 c274 c275 c276 c277 c278 c279 c280 c281 c282 c283 c284 c285 c286 c287 c288 c289 c290 c291 c292 c293 c294 c295 c296 c297 c298 c299 c300 c301 c302 c303 c304 c305 : Value) (w Wa : World) (hbw : Below w.heap.size w Wa) (ao : Option Addr) (n cap : Nat) {N M : Nat} {g b : Nat} {vs : List Value} {l : Secs} (hk : KgO N M Wa g b vs l) {g2 : Nat} {ao2 : Option Addr} {cap2 : Nat} {vs2 : List Value} (hr : RgAt Wa g2 ao2 cap2 vs2 l) (hl : l.length ≤ 64) (hb256 : ∀ i, i < l.length → (l.getD i (0, [])).2.length ≤ 256)
    (qo : Option Addr) (m qc D dff : Nat) (xs : List AskV) (hm : xs.length = m) (hm47 : m ≤ 140737488355328) (hqo : 0 < m → qo = some ⟨D, dff, none⟩) (has : AskIn Wa D dff xs) (hbig : ∀ (i : Nat) (a : AskV), xs[i]? = some a → a.b.length ≤ 140737488351232) :
    Code.wp Try.prog (dropS 15 (Try.f6.body.getD .skip)) (bodyPost Try.prog Try.f6 (KP w)) ⟨#[.slice ao n cap, .slice qo m qc, c2, c3, c4, c5, c6, c7, c8, .pointer (some ⟨g, 0, none⟩), c10, c11, .pointer (some ⟨g2, 0, none⟩), c13, c14, c15, c16, c17, c18, c19, c20, c21, c22, c23, c24, c25, c26, c27, c28, c29, c30, c31, c32, c33, c34, c35, c36, c37, c38, c39, c40, c41, c42, c43, c44, c45, c46, c47, c48, c49, c50, c51, c52, c53, c54, c55, c56, c57, c58, c59, c60, c61, c62, c63, c64, c65, c66, c67, c68, c69, c70, c71, c72, c73, c74, c75, c76, c77, c78, c79, c80, c81, c82, c83, c84, c85, c86, c87, c88, c89, c90, c91, c92, c93, c94, c95, c96, c97, c98, c99, c100, c101, c102, c103, c104, c105, c106, c107, c108, c109, c110, c111, c112, c113, c114, c115, c116, c117, c118, c119, c120, c121, c122, c123, c124, c125, c126, c127, c128, c129, c130, c131, c132, c133, c134, c135, c136, c137, c138, c139, c140, c141, c142, c143, c144, c145, c146, c147, c148, c149, c150, c151, c152, c153, c154, c155, c156, c157, c158, c159, c160, c161, c162, c163, c164, c165, c166, c167, c168, c169, c170, c171, c172, c173, c174, c175, c176, c177, c178, c179, c180, c181, c182, c183, c184, c185, c186, c187, c188, c189, c190, c191, c192, c193, c194, c195, c196, c197, c198, c199, c200, c201, c202, c203, c204, c205, c206, c207, c208, c209, c210, c211, c212, c213, c214, c215, c216, c217, c218, c219, c220, c221, c222, c223, c224, c225, c226, c227, c228, c229, c230, c231, c232, c233, c234, c235, c236, c237, c238, c239, c240, c241, c242, c243, c244, c245, c246, c247, c248, c249, c250, c251, c252, c253, c254, c255, c256, c257, c258, c259, c260, c261, c262, c263, c264, c265, c266, c267, c268, c269, c270, c271, c272, c273, c274, c275, c276, c277, c278, c279, c280, c281, c282, c283, c284, c285, c286, c287, c288, c289, c290, c291, c292, c293, c294, c295, c296, c297, c298, c299, c300, c301, c302, c303, c304, c305], []⟩ Wa := by
  have HK : Hid (∀ Wa', Below Wa.heap.size Wa Wa' → KgO N M Wa' g b vs l) := fun Wa' h => hk.below h
  have HR : Hid (∀ Wa', Below Wa.heap.size Wa Wa' → RgAt Wa' g2 ao2 cap2 vs2 l) := fun Wa' h => hr.keep h
  have HI : Hid (∀ Wa', Below Wa.heap.size Wa Wa' → AskIn Wa' D dff xs) := fun Wa' h => has.keep h
  have HL : Hid (l.length ≤ 64) := hl
  have HB : Hid (∀ i, i < l.length → (l.getD i (0, [])).2.length ≤ 256) := hb256
  have HX : Hid (xs.length = m) := hm
  have HQO : Hid (0 < m → qo = some ⟨D, dff, none⟩) := hqo
  have HBW : Hid (Below w.heap.size w Wa) := hbw
  have HBG : Hid (∀ (i : Nat) (a : AskV), xs[i]? = some a → a.b.length ≤ 140737488351232) := hbig
  clear hk hr has hl hb256 hm hqo hbw hbig
  conv => arg 2; whnf
  refine wp_seq_k fun K hK => ?_
  have HKK : Hid _ := hK
  clear hK
  go_wp2
  go_loopw [252] (fun iv wr => ∃ k : Nat, k ≤ m ∧ iv = .int .i64 k ∧ Hid (Below Wa.heap.size Wa wr)) (fun iv _ => m - (intOf iv).toNat)
  case atStart => exact ⟨0, by omega, rfl, Below.refl _ _⟩
  case round =>
    obtain ⟨k, hk, rfl, bk⟩ := hrel
    by_cases hlt : k < m
    · obtain rfl := HQO.out (by omega)
      have y0 : (0 : Int) ≤ (k : Int) := by omega
      have y1 : (k : Int) < (m : Int) := by omega
      obtain ⟨a, ha⟩ : ∃ a, xs[k]? = some a := ⟨_, List.getElem?_eq_getElem (by rw [HX.out]; exact hlt)⟩
      have hrg := (HI.out _ bk.out).cells k a ha
      have HA : Hid (∀ Wa', Below Wa.heap.size Wa Wa' → AskOk Wa' a) := fun Wa' h => (HI.out Wa' h).ok k a ha
      have HBIG : Hid (a.b.length ≤ 140737488351232) := HBG.out k a ha
      have htl : a.t.length = 32 := (HA.out _ bk.out).tl
      have HNIL : Hid (a.bo = none → a.cb = 0) := (HA.out _ bk.out).nil
      have HCAP : Hid (a.b.length ≤ a.cb) := (HA.out _ bk.out).cap
      have HISB : Hid (∀ Wa', Below Wa.heap.size Wa Wa' → IsB Wa' a.bo a.b) := fun Wa' h => (HA.out Wa' h).isb
      have hACl := askC_len htl
      have hAC1 := askC_one a
      have i0 : Hid ((askC a)[0]? = some (.int .i64 a.key)) := rfl
      have i1 : Hid ((askC a)[1]? = some (.slice a.bo a.b.length a.cb)) := rfl
      have it : ((askC a).drop 2).take 32 = a.t.map B8 := List.take_of_length_le (by simp [askC, htl])
      -- Sign and Check of the copied bytes
      have S1 : Hid (∀ (bo' : Option Addr) (c' : Nat) Wa', Below Wa.heap.size Wa Wa' → IsB Wa' bo' a.b → a.b.length ≤ c' → (bo' = none → c' = 0) → Calls Try.prog 12 #[.pointer (some ⟨g, 0, none⟩), .int .i64 a.key, .slice bo' a.b.length c'] Wa' fun e w' => e = .returned (.tuple #[.agg ((sgn l a.key a.b).map B8).toArray, .int .i64 (sgnE l a.key)]) ∧ Below Wa'.heap.size Wa' w') :=
        fun bo' c' Wa' h hi hc hn => csign_any (HK.out Wa' h) HB.out a.key bo' a.b.length c' a.b rfl hi hc hn (by have := HBIG.out; omega)
      have C1 : Hid (∀ (bo' : Option Addr) (c' : Nat) Wa', Below Wa.heap.size Wa Wa' → IsB Wa' bo' a.b → a.b.length ≤ c' → (bo' = none → c' = 0) → Calls Try.prog 13 #[.pointer (some ⟨g, 0, none⟩), .int .i64 a.key, .slice bo' a.b.length c', .agg (a.t.map B8).toArray] Wa' fun e w' => e = .returned (.tuple #[.bool (decide (sgnE l a.key = 0 ∧ sgn l a.key a.b = a.t)), .int .i64 (sgnE l a.key)]) ∧ Below Wa'.heap.size Wa' w') :=
        fun bo' c' Wa' h hi hc hn => ccheck_any (HK.out Wa' h) HB.out a.key bo' a.b.length c' a.b rfl hi hc hn (by have := HBIG.out; omega) a.t htl
      have HTL : Hid (a.t.length = 32) := htl
      clear ha HA htl HI HX HK HR HL HB HBG HQO hk
      generalize askC a = AC at *
      generalize sgn l a.key a.b = SG at *
      generalize decide (sgnE l a.key = 0 ∧ SG = a.t) = rt at *
      generalize sgnE l a.key = SE at *
      generalize a.key = ky at *
      generalize a.b = bs at *
      generalize a.bo = bo at *
      generalize a.cb = bc at *
      generalize a.t = tg at *
      have HIT : Hid ((AC.drop 2).take 32 = tg.map B8) := it
      have HAL : Hid (AC.length = 34) := hACl
      have HA1 : Hid (∀ x ∈ AC, x.oneCell' = true) := hAC1
      have ltg : Hid ((tg.map B8).length = 32) := by show _ = _; rw [List.length_map, HTL.out]
      clear it hACl hAC1
      generalize hG : wr.heap.size = G at *
      have hgw : Wa.heap.size ≤ G := by rw [← hG]; exact bk.out.size
      go_wp2_with (first | (refine wpList_load_mid rfl 40 (.tmp 254) rfl D (dff + k * 34) rfl AC _ hrg Try.underlying40 rfl (by rw [HAL.out]; kernel_rfl) ?_) | (refine wpList_store_Row rfl 40 _ _ rfl G 40 0 zAsk AC (Row.at wr _ _ _ _ hG.symm rfl) (by rw [HAL.out]; exact Nat.le_refl _) rfl rfl (by rw [HAL.out]; kernel_rfl) HA1.out ?_; intro w4 hr4 hs4; have r4 : Hid (Row w4 G 40 AC) := row_whole hr4 (by rw [HAL.out]; exact Nat.le_of_eq zAsk_len); have bw4 : Hid (Below Wa.heap.size Wa w4) := hs4.below (bk.out.alloc (by omega) _) hgw; clear hr4 hs4 hrg bk))
      have HC : Hid (∀ Wa', Below w4.heap.size w4 Wa' → Wa'.cell? ⟨G, 1, none⟩ = some (.slice bo bs.length bc)) := fun Wa' h => (r4.out.below h r4.out.lt).cell 1 _ i1.out
      have HIB : Hid (∀ Wa', Below w4.heap.size w4 Wa' → IsB Wa' bo bs) := fun Wa' h => HISB.out Wa' (bw4.out.trans (h.mono bw4.out.size))
      have HWR : Hid (IntKind.i64.wrap ((bs.length : Int) + 2) = (bs.length : Int) + 2) := by
        show _ = _
        have := HBIG.out
        exact i64_in _ (by omega) (by omega)
      clear hG
      refine wp_region_inv (IE66 w4 G bo bc bs _ _ _ _ _ _ _ _ _ _ _ _ _ _ _ _ _ _ _ _ _ _ _ _ _ _ _ _ _ _ _ _ _ _ _ _ _ _ _ _ _ _ _ _ _ _ _ _ _ _ _ _ _ _ _ _ _ _ _ _ _ _ _ _ _ _ _ _ _ _ _ _ _ _ _ _ _ _ _ _ _ _ _ _ _ _ _ _ _ _ _ _ _ _ _ _ _ _ _ _ _ _ _ _ _ _ _ _ _ _ _ _ _ _ _ _ _ _ _ _ _ _ _ _ _ _ _ _ _ _ _ _ _ _ _ _ _ _ _ _ _ _ _ _ _ _ _ _ _ _ _ _ _ _ _ _ _ _ _ _ _ _ _ _ _ _ _ _ _ _ _ _ _ _ _ _ _ _ _ _ _ _ _ _ _ _ _ _ _ _ _ _ _ _ _ _ _ _ _ _ _ _ _ _ _ _ _ _ _ _ _ _ _ _ _ _ _ _ _ _ _ _ _ _ _ _ _ _ _ _ _ _ _ _ _ _ _ _ _ _ _ _ _ _ _ _ _ _ _ _ _ _ _ _ _ _ _ _ _ _ _ _ _ _ _ _ _ _ _ _ _ _ _ _ _ _ _ _ _ _ _ _ _ _ _ _ _ _ _ _ _ _ _ _ _ _ _) (by kernel_rfl) (by kernel_rfl) ⟨_, _, _, _, _, _, _, _, _, rfl, ⟨BX.zero _ _ _ _ _, fun k => (by cases k), fun k => (by cases k), fun k => (by cases k), fun k => (by cases k), fun k => (by cases k), fun k => (by cases k)⟩⟩ ?_ ?_
      · refine .cons ?_ (.cons ?_ (.cons ?_ (.cons ?_ (.cons ?_ (.cons ?_ (.cons ?_ (.cons ?_ (.cons ?_ .nil))))))))
        all_goals (refine E66.step ?_; intro x256 x257 x258 x259 x260 x261 x262 x263 x32 L W hI hL hd K hK)
        · rw [if_pos (by rfl)]
          go_simp
          exact hK.out _ _ ⟨_, _, _, _, _, _, _, _, _, rfl, hI.s0⟩
        · have hx0 := hI.p0 (hd 0 (by decide))
          subst hx0
          rw [if_pos (by rfl)]
          have hc := HC.out _ hI.x.bel
          go_simp
          exact hK.out _ _ ⟨_, _, _, _, _, _, _, _, _, rfl, hI.s1⟩
        · have hx1 := hI.p1 (hd 1 (by decide))
          subst hx1
          rw [if_pos (by rfl)]
          go_simp
          exact hK.out _ _ ⟨_, _, _, _, _, _, _, _, _, rfl, hI.s2⟩
        · have hx2 := hI.p2 (hd 2 (by decide))
          subst hx2
          rw [if_pos (by rfl)]
          have hw := HWR.out
          go_simp
          exact hK.out _ _ ⟨_, _, _, _, _, _, _, _, _, rfl, hI.s3⟩
        · have hx3 := hI.p3 (hd 3 (by decide))
          subst hx3
          refine step_make_room rfl _ (.tmp 259) rfl (bs.length + 2) _ rfl rfl (by omega) (by have := HBIG.out; omega) ?_
          intro W2 ho4 hb4
          have hX := hI.x.s4 hL ho4 hb4
          exact hK.out _ _ ⟨_, _, _, _, _, _, _, _, _, rfl, hI.s4 hX⟩
        · rw [if_pos (by rfl)]
          go_simp
          exact hK.out _ _ ⟨_, _, _, _, _, _, _, _, _, rfl, hI.s5⟩
        · have hx5 := hI.p5 (hd 5 (by decide))
          subst hx5
          rw [if_pos (by rfl)]
          have hc := HC.out _ hI.x.bel
          go_simp
          exact hK.out _ _ ⟨_, _, _, _, _, _, _, _, _, rfl, hI.s6⟩
        · have hx6 := hI.p6 (hd 6 (by decide))
          subst hx6
          obtain ⟨ao4, c4, e4, ho4⟩ := hI.x.p4 (hd 4 (by decide)) hL
          have ob := HIB.out _ hI.x.bel
          refine step_append_more rfl (.tmp 260) (.tmp 262) rfl _ _ ao4 0 c4 [] e4 rfl ho4 hI.x.bel bo bs.length bc bs rfl rfl ob HNIL.out (by have := HBIG.out; omega) ?_
          intro ao7 c7 W2 ho7 hb7
          rw [Nat.zero_add] at ho7
          rw [Nat.zero_add]
          rw [List.nil_append] at ho7
          have hX := hI.x.s7 (hd 4 (by decide)) hL ho7 hb7
          exact hK.out _ _ ⟨_, _, _, _, _, _, _, _, _, rfl, hI.s7 hX⟩
        · rw [if_pos (by rfl)]
          have hX := hI.x.s8 (hd 7 (by decide))
          go_simp
          exact hK.out _ _ ⟨_, _, _, _, _, _, _, _, _, rfl, hI.s8 hX⟩
      · refine E66.ends ?_; intro x256 x257 x258 x259 x260 x261 x262 x263 x32 L W hall hI
        have hx0 := hI.p0 (hall 0 (by decide))
        subst hx0
        have hx1 := hI.p1 (hall 1 (by decide))
        subst hx1
        have hx2 := hI.p2 (hall 2 (by decide))
        subst hx2
        have hx3 := hI.p3 (hall 3 (by decide))
        subst hx3
        have hx5 := hI.p5 (hall 5 (by decide))
        subst hx5
        have hx6 := hI.p6 (hall 6 (by decide))
        subst hx6
        have hXe := hI.x
        rw [hall 4 (by decide)] at hXe
        rw [hall 7 (by decide)] at hXe
        rw [hall 8 (by decide)] at hXe
        clear hI hall
        try dsimp only
        obtain ⟨ao5, c5, e5, ho5⟩ := hXe.p7 rfl
        have e8 := hXe.p8 rfl
        subst e8
        subst e5
        have b5 := hXe.bel
        clear hXe HIB HC HWR
        obtain ⟨w5, hw5⟩ : ∃ w5, w5 = W := ⟨W, rfl⟩
        subst hw5
        generalize hG1 : w4.heap.size = G1 at *
        have r5 : Hid (Row w5 G 40 AC) := r4.out.below b5 (by rw [← hG1]; exact r4.out.lt)
        have bw5 : Hid (Below Wa.heap.size Wa w5) := bw4.out.trans (b5.mono (by rw [← hG1]; exact bw4.out.size))
        have hGG : G < G1 := by rw [← hG1]; exact r4.out.lt
        have HN0 : Hid (G1 ≤ w5.heap.size) := ho5.2
        have HC2 : Hid (∀ W', Below G1 w5 W' → W'.cell? ⟨G, 1, none⟩ = some (.slice bo bs.length bc)) := fun W' h => (r5.out.below h hGG).cell 1 _ i1.out
        have HZ : Hid (∀ x1 x2 x6, BY G1 w5 ao5 c5 bs [177#8, 178#8] false false false false x1 x2 x6 (.slice ao5 bs.length c5) w5.drew) := fun _ _ _ => BY.zero G1 w5 ao5 c5 bs _ ho5 _ _ _
        have hgG : Hid (Wa.heap.size ≤ G1) := by
          show _ ≤ _
          rw [← hG1]; exact bw4.out.size
        clear b5 ho5 r4 bw4 hG1
        go_wp2_with fail
        refine wp_region_inv (IE67 w5 G1 ao5 c5 G bo bc bs _ _ _ _ _ _ _ _ _ _ _ _ _ _ _ _ _ _ _ _ _ _ _ _ _ _ _ _ _ _ _ _ _ _ _ _ _ _ _ _ _ _ _ _ _ _ _ _ _ _ _ _ _ _ _ _ _ _ _ _ _ _ _ _ _ _ _ _ _ _ _ _ _ _ _ _ _ _ _ _ _ _ _ _ _ _ _ _ _ _ _ _ _ _ _ _ _ _ _ _ _ _ _ _ _ _ _ _ _ _ _ _ _ _ _ _ _ _ _ _ _ _ _ _ _ _ _ _ _ _ _ _ _ _ _ _ _ _ _ _ _ _ _ _ _ _ _ _ _ _ _ _ _ _ _ _ _ _ _ _ _ _ _ _ _ _ _ _ _ _ _ _ _ _ _ _ _ _ _ _ _ _ _ _ _ _ _ _ _ _ _ _ _ _ _ _ _ _ _ _ _ _ _ _ _ _ _ _ _ _ _ _ _ _ _ _ _ _ _ _ _ _ _ _ _ _ _ _ _ _ _ _ _ _ _ _ _ _ _ _ _ _ _ _ _ _ _ _ _ _ _ _ _ _ _ _ _ _ _ _ _ _ _ _ _ _ _ _ _ _ _ _ _ _ _ _ _ _ _ _ _ _ _ _ _ _ _ _ _ _ _ _ _ _ _ _ _ _) (by kernel_rfl) (by kernel_rfl) ⟨_, _, _, _, _, _, _, _, rfl, ⟨HZ.out _ _ _, fun k => (by cases k), fun k => (by cases k), fun k => (by cases k), fun k => (by cases k), fun k => (by cases k), fun k => (by cases k)⟩⟩ ?_ ?_
        · refine .cons ?_ (.cons ?_ (.cons ?_ (.cons ?_ (.cons ?_ (.cons ?_ (.cons ?_ (.cons ?_ .nil)))))))
          all_goals (refine E67.step ?_; intro x264 x265 x266 x267 x268 x269 x270 x32 L W hI hL hd K hK)
          · rw [if_pos (by rfl)]
            have h2 : L 2 = false := ff hI.c2_0 hL
            have e8 := hI.x.p0 (ff hI.x.c7 (ff hI.x.c6 h2))
            subst e8
            go_simp
            exact hK.out _ _ ⟨_, _, _, _, _, _, _, _, rfl, hI.s0⟩
          · rw [if_pos (by rfl)]
            have hX := hI.x.s1 hL HN0.out
            go_simp
            exact hK.out _ _ ⟨_, _, _, _, _, _, _, _, rfl, hI.s1 hX⟩
          · have hx0 := hI.p0 (hd 0 (by decide))
            subst hx0
            have h1 := hd 1 (by decide)
            obtain ⟨M1, e1, r1⟩ := hI.x.p1 h1 hL
            have ow := hI.x.own hL
            refine step_append_more rfl (.tmp 264) (.tmp 265) rfl _ _ _ bs.length _ bs rfl rfl ow hI.x.bel (some ⟨M1, 0, none⟩) 2 2 [177#8, 178#8] e1 rfl (row_isb r1) (fun h => by cases h) (by have := HBIG.out; omega) ?_
            intro ao7 c7 W2 ho7 hb7
            obtain ⟨q7, rfl, _, _⟩ := ho7.at (by omega)
            have hX := hI.x.s2 h1 hL ho7 hb7
            exact hK.out _ _ ⟨_, _, _, _, _, _, _, _, rfl, hI.s2 hX (hd 0 (by decide))⟩
          · rw [if_pos (by rfl)]
            go_simp
            exact hK.out _ _ ⟨_, _, _, _, _, _, _, _, rfl, hI.s3⟩
          · have hx3 := hI.p3 (hd 3 (by decide))
            subst hx3
            rw [if_pos (by rfl)]
            have hc := HC2.out _ hI.x.bel
            go_simp
            exact hK.out _ _ ⟨_, _, _, _, _, _, _, _, rfl, hI.s4⟩
          · have hx4 := hI.p4 (hd 4 (by decide))
            subst hx4
            rw [if_pos (by rfl)]
            go_simp
            exact hK.out _ _ ⟨_, _, _, _, _, _, _, _, rfl, hI.s5⟩
          · have hx5 := hI.p5 (hd 5 (by decide))
            subst hx5
            rw [if_pos (by rfl)]
            obtain ⟨q7, c7, e7, ho7, _, _⟩ := hI.x.p2 (hd 2 (by decide))
            have hX := hI.x.s6 (hd 2 (by decide)) hL e7
            have hcap := own_cap ho7
            have g1 : (0 : Int) ≤ (bs.length : Int) := by omega
            have g2 : (bs.length : Int) ≤ (c7 : Int) := by have : bs.length + 2 ≤ c7 := hcap; omega
            clear ho7 hcap
            subst e7
            go_simp
            exact hK.out _ _ ⟨_, _, _, _, _, _, _, _, rfl, hI.s6 hX (hd 2 (by decide))⟩
          · have hL0 := (hI.c2_0 (hI.c6_2 (hd 6 (by decide))))
            rw [if_pos (by rfl)]
            have hX := hI.x.s7 (hd 6 (by decide))
            go_simp
            exact hK.out _ _ ⟨_, _, _, _, _, _, _, _, rfl, hI.s7 hX⟩
        · refine E67.ends ?_; intro x264 x265 x266 x267 x268 x269 x270 x32 L W hall hI
          have hx0 := hI.p0 (hall 0 (by decide))
          subst hx0
          have hx3 := hI.p3 (hall 3 (by decide))
          subst hx3
          have hx4 := hI.p4 (hall 4 (by decide))
          subst hx4
          have hx5 := hI.p5 (hall 5 (by decide))
          subst hx5
          have hXe := hI.x
          rw [hall 1 (by decide)] at hXe
          rw [hall 2 (by decide)] at hXe
          rw [hall 6 (by decide)] at hXe
          rw [hall 7 (by decide)] at hXe
          clear hI hall
          try dsimp only
          obtain ⟨q6, c6, e6, ho6, _, h7⟩ := hXe.p2 rfl
          have e8 := h7 rfl
          subst e8
          have b6 := hXe.bel
          have r6 := r5.out.below b6 hGG
          have bw6 : Hid (Below Wa.heap.size Wa W) := bw5.out.trans (b6.mono hgG.out)
          clear hXe h7 e6 HZ HC2 b6 r5 bw5
          have cap6 : bs.length + 2 ≤ c6 := own_cap ho6
          have HI6 : Hid (IsB W (some ⟨q6, 0, none⟩) (bs ++ [177#8, 178#8])) := own_IsB ho6
          have HBL : Hid (bs.length ≤ 140737488351232) := HBIG.out
          clear ho6
          have SS := S1.out (some ⟨q6, 0, none⟩) c6 W bw6.out (isB_pre HI6.out) (by omega) (fun h => by cases h)
          have c0 := r6.cell 0 _ i0.out
          go_wp2_with fail
          refine SS.mono ?_
          clear SS
          rintro e w7 ⟨rfl, b7⟩
          replace r6 := r6.below b7 r6.lt
          have HI7 : Hid (IsB w7 (some ⟨q6, 0, none⟩) (bs ++ [177#8, 178#8])) := HI6.out.below b7 (Nat.le_refl _)
          have bw7 : Hid (Below Wa.heap.size Wa w7) := bw6.out.trans (b7.mono bw6.out.size)
          clear b7 HI6 bw6 c0
          have CC := C1.out (some ⟨q6, 0, none⟩) c6 w7 bw7.out (isB_pre HI7.out) (by omega) (fun h => by cases h)
          have c0 := r6.cell 0 _ i0.out
          go_wp2_with (refine wpList_load_part rfl 38 _ rfl G 2 40 32 AC r6 rfl _ (tg.map B8) HIT.out ltg.out Try.underlying38 rfl (by kernel_rfl) ?_)
          refine CC.mono ?_
          clear CC
          rintro e w8 ⟨rfl, b8⟩
          replace r6 := r6.below b8 r6.lt
          have HI8 : Hid (IsB w8 (some ⟨q6, 0, none⟩) (bs ++ [177#8, 178#8])) := HI7.out.below b8 (Nat.le_refl _)
          have bw8 : Hid (Below Wa.heap.size Wa w8) := bw7.out.trans (b8.mono bw7.out.size)
          clear b8 HI7 bw7 c0
          have c1 := r6.cell 1 _ i1.out
          have cv1 := conv_bytes w8 (some ⟨q6, 0, none⟩) bs.length c6 bs rfl (isB_pre HI8.out)
          have cv2 := conv_bytes w8 bo bs.length bc bs rfl (HISB.out _ bw8.out)
          have cv3 := conv_bytes w8 (some ⟨q6, bs.length, none⟩) 2 (c6 - bs.length) [177#8, 178#8] rfl (isB_suf HI8.out)
          rw [show strOf [177#8, 178#8] = { data := #[177, 178] } from rfl] at cv3
          clear HI8 HISB S1 C1 HN0
          generalize strOf bs = SS at *
          have HBL2 := HBL.out
          clear HBL HBIG HCAP
          generalize bs.length = L at *
          have z1 : IntKind.i64.wrap ((L : Int) + 2) = (L : Int) + 2 := i64_in _ (by omega) (by omega)
          have j1 : (0 : Int) ≤ (L : Int) + 2 := by omega
          have j2 : (L : Int) + 2 ≤ (c6 : Int) := by omega
          have j3 : (L : Int) ≤ (L : Int) + 2 := by omega
          have t1 : ((L : Int) + 2).toNat = L + 2 := by omega
          have t2 : L + 2 - L = 2 := by omega
          have hcn : ¬ c6 = L := by omega
          clear cap6
          go_wp2
          exact ⟨⟨k + 1, by omega, by go_num, bw8⟩, by simp [intOf]; omega⟩
    · obtain rfl : k = m := by omega
      have y1 : ¬ ((k : Nat) : Int) < (k : Int) := by omega
      go_wp2
      refine HKK.out _ _ ?_
      exact st16 _ _ _ _ _ _ _ _ _ _ _ _ _ _ _ _ _ _ _ _ _ _ _ _ _ _ _ _ _ _ _ _ _ _ _ _ _ _ _ _ _ _ _ _ _ _ _ _ _ _ _ _ _ _ _ _ _ _ _ _ _ _ _ _ _ _ _ _ _ _ _ _ _ _ _ _ _ _ _ _ _ _ _ _ _ _ _ _ _ _ _ _ _ _ _ _ _ _ _ _ _ _ _ _ _ _ _ _ _ _ _ _ _ _ _ _ _ _ _ _ _ _ _ _ _ _ _ _ _ _ _ _ _ _ _ _ _ _ _ _ _ _ _ _ _ _ _ _ _ _ _ _ _ _ _ _ _ _ _ _ _ _ _ _ _ _ _ _ _ _ _ _ _ _ _ _ _ _ _ _ _ _ _ _ _ _ _ _ _ _ _ _ _ _ _ _ _ _ _ _ _ _ _ _ _ _ _ _ _ _ _ _ _ _ _ _ _ _ _ _ _ _ _ _ _ _ _ _ _ _ _ _ _ _ _ _ _ _ _ _ _ _ _ _ _ _ _ _ _ _ _ _ _ _ _ _ _ _ _ _ _ _ _ _ _ _ _ _ _ _ _ _ _ _ _ _ _ _ _ _ _ _ _ _ _ _ _ _ _ _ _ _ _ _ _ _ _ _ _ _ _ _ w wr (HBW.out.trans (bk.out.mono HBW.out.size)) ao n cap (HK.out _ bk.out) (HR.out _ bk.out) HL.out HB.out qo k qc D dff xs HX.out hm47 HQO.out (HI.out _ bk.out)

end Go.Proofs.Ytepafpnpmpijeaa
