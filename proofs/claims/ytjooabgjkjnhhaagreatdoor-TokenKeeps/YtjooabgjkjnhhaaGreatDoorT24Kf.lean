
import Derived.Test.YtjooabgjkjnhhaaGreatDoorT24Ma
/-! TokenKeeps: the last loop, which looks at what was written, and the end. (Printed by tools/gent24c.py.) -/
namespace Go.Proofs.YtjooabgjkjnhhaaGreatDoor
open Go.RowKit
set_option linter.unusedVariables false
set_option linter.unusedSimpArgs false
set_option maxRecDepth 100000

theorem cell24_lt {W : World} {B i : Nat} {v : Value} (h : W.cell? ⟨B, i, none⟩ = some v) : B < W.heap.size := Nat.lt_of_not_le fun hle => by
  have : W.heap[B]? = none := by simp; exact hle
  simp [World.cell?, this] at h
/-- n bytes, all of them v. -/
def AllB (W : World) (ao : Option Addr) (n : Nat) (v : Int) : Prop := ∀ j, j < n → ∃ B off, ao = some ⟨B, off, none⟩ ∧ W.cell? ⟨B, off + j, none⟩ = some (.int .u8 v)
/-- n caveats, all of them of the kind k. -/
def AllC (W : World) (ao : Option Addr) (n : Nat) (k : Int) : Prop := ∀ j, j < n → ∃ B off, ao = some ⟨B, off, none⟩ ∧ W.cell? ⟨B, off + j * 5, none⟩ = some (.int .i64 k)
theorem AllB.keep {W W2 : World} {ao : Option Addr} {n : Nat} {v : Int} (h : AllB W ao n v) (hb : Below W.heap.size W W2) : AllB W2 ao n v := fun j hj => by
  obtain ⟨B, off, e, hc⟩ := h j hj
  exact ⟨B, off, e, (hb.cell (p := ⟨B, off + j, none⟩) (cell24_lt hc)).trans hc⟩
theorem AllC.keep {W W2 : World} {ao : Option Addr} {n : Nat} {k : Int} (h : AllC W ao n k) (hb : Below W.heap.size W W2) : AllC W2 ao n k := fun j hj => by
  obtain ⟨B, off, e, hc⟩ := h j hj
  exact ⟨B, off, e, (hb.cell (p := ⟨B, off + j * 5, none⟩) (cell24_lt hc)).trans hc⟩
/-- The token i of both rows, written over. -/
def FinT (W : World) (D d E e i : Nat) : Prop := ∃ (io : Option Addr) (n ic : Nat) (lo : Option Addr) (m lc : Nat) (U : List Value) (jo : Option Addr) (jc : Nat) (ko : Option Addr) (kc : Nat),
  W.cell? ⟨D, d + i * 35 + 1, none⟩ = some (.slice io n ic) ∧ W.cell? ⟨D, d + i * 35 + 2, none⟩ = some (.slice lo m lc) ∧ U.length = 35 ∧ (∀ v ∈ U, v.oneCell' = true) ∧ W.rangeAt E (e + i * 35) U ∧ U[1]? = some (.slice jo (n + 40) jc) ∧ U[2]? = some (.slice ko (m + 40) kc) ∧
  AllB W io n ((i : Int) + 1) ∧ AllB W jo (n + 40) ((i : Int) + 1) ∧ AllC W lo m (-1 - (i : Int)) ∧ AllC W ko (m + 40) (-1 - (i : Int)) ∧ n ≤ 140737488351232 ∧ m ≤ 140737488351232
theorem FinT.keep {W W2 : World} {D d E e i : Nat} (h : FinT W D d E e i) (hb : Below W.heap.size W W2) : FinT W2 D d E e i := by
  obtain ⟨io, n, ic, lo, m, lc, U, jo, jc, ko, kc, c1, c2, hU, hO, hr, u1, u2, a1, a2, a3, a4, b1, b2⟩ := h
  exact ⟨io, n, ic, lo, m, lc, U, jo, jc, ko, kc, (hb.cell (p := ⟨D, d + i * 35 + 1, none⟩) (cell24_lt c1)).trans c1, (hb.cell (p := ⟨D, d + i * 35 + 2, none⟩) (cell24_lt c2)).trans c2, hU, hO, fun j v hv => (hb.cell (p := ⟨E, e + i * 35 + j, none⟩) (cell24_lt (hr j v hv))).trans (hr j v hv), u1, u2, a1.keep hb, a2.keep hb, a3.keep hb, a4.keep hb, b1, b2⟩

structure KP70 (W1 : World) (x : Tk) (io : Option Addr) (ic : Nat) (T X : List Value) (L : Nat → Bool) (x340 x341 x342 x343 x6 : Value) (W : World) : Prop where
  x : BS W1 x io ic (L 1) x341 W
  p0 : L 0 = true → x340 = .agg X.toArray
  p2 : L 2 = true → x342 = .agg T.toArray
  p3 : L 3 = true → x343 = .bool true
  p4 : L 4 = true → x6 = .bool true
section
variable {W1 : World} {x : Tk} {io : Option Addr} {ic : Nat} {T X : List Value} {L : Nat → Bool} {x340 x341 x342 x343 x6 : Value} {W W2 : World}
theorem KP70.s0 (h : KP70 W1 x io ic T X L x340 x341 x342 x343 x6 W) : KP70 W1 x io ic T X (upd L 0) (.agg X.toArray) x341 x342 x343 x6 W :=
  ⟨h.x, fun _ => rfl, h.p2, h.p3, h.p4⟩
theorem KP70.s1 (h : KP70 W1 x io ic T X L x340 x341 x342 x343 x6 W) {v : Value} (hX : BS W1 x io ic ((upd L 1) 1) v W2) : KP70 W1 x io ic T X (upd L 1) x340 v x342 x343 x6 W2 :=
  ⟨hX, h.p0, h.p2, h.p3, h.p4⟩
end
@[reducible] def IKP70 (W1 : World) (x : Tk) (io : Option Addr) (ic : Nat) (T X : List Value) (y0 y1 y2 y3 y4 y5 y7 y8 y9 y10 y11 y12 y13 y14 y15 y16 y17 y18 y19 y20 y21 y22 y23 y24 y25 y26 y27 y28 y29 y30 y31 y32 y33 y34 y35 y36 y37 y38 y39 y40 y41 y42 y43 y44 y45 y46 y47 y48 y49 y50 y51 y52 y53 y54 y55 y56 y57 y58 y59 y60 y61 y62 y63 y64 y65 y66 y67 y68 y69 y70 y71 y72 y73 y74 y75 y76 y77 y78 y79 y80 y81 y82 y83 y84 y85 y86 y87 y88 y89 y90 y91 y92 y93 y94 y95 y96 y97 y98 y99 y100 y101 y102 y103 y104 y105 y106 y107 y108 y109 y110 y111 y112 y113 y114 y115 y116 y117 y118 y119 y120 y121 y122 y123 y124 y125 y126 y127 y128 y129 y130 y131 y132 y133 y134 y135 y136 y137 y138 y139 y140 y141 y142 y143 y144 y145 y146 y147 y148 y149 y150 y151 y152 y153 y154 y155 y156 y157 y158 y159 y160 y161 y162 y163 y164 y165 y166 y167 y168 y169 y170 y171 y172 y173 y174 y175 y176 y177 y178 y179 y180 y181 y182 y183 y184 y185 y186 y187 y188 y189 y190 y191 y192 y193 y194 y195 y196 y197 y198 y199 y200 y201 y202 y203 y204 y205 y206 y207 y208 y209 y210 y211 y212 y213 y214 y215 y216 y217 y218 y219 y220 y221 y222 y223 y224 y225 y226 y227 y228 y229 y230 y231 y232 y233 y234 y235 y236 y237 y238 y239 y240 y241 y242 y243 y244 y245 y246 y247 y248 y249 y250 y251 y252 y253 y254 y255 y256 y257 y258 y259 y260 y261 y262 y263 y264 y265 y266 y267 y268 y269 y270 y271 y272 y273 y274 y275 y276 y277 y278 y279 y280 y281 y282 y283 y284 y285 y286 y287 y288 y289 y290 y291 y292 y293 y294 y295 y296 y297 y298 y299 y300 y301 y302 y303 y304 y305 y306 y307 y308 y309 y310 y311 y312 y313 y314 y315 y316 y317 y318 y319 y320 y321 y322 y323 y324 y325 y326 y327 y328 y329 y330 y331 y332 y333 y334 y335 y336 y337 y338 y339 : Value) : (Nat → Bool) → Act → World → Prop := fun L a W => ∃ x340 x341 x342 x343 x6, a = ⟨#[y0, y1, y2, y3, y4, y5, x6, y7, y8, y9, y10, y11, y12, y13, y14, y15, y16, y17, y18, y19, y20, y21, y22, y23, y24, y25, y26, y27, y28, y29, y30, y31, y32, y33, y34, y35, y36, y37, y38, y39, y40, y41, y42, y43, y44, y45, y46, y47, y48, y49, y50, y51, y52, y53, y54, y55, y56, y57, y58, y59, y60, y61, y62, y63, y64, y65, y66, y67, y68, y69, y70, y71, y72, y73, y74, y75, y76, y77, y78, y79, y80, y81, y82, y83, y84, y85, y86, y87, y88, y89, y90, y91, y92, y93, y94, y95, y96, y97, y98, y99, y100, y101, y102, y103, y104, y105, y106, y107, y108, y109, y110, y111, y112, y113, y114, y115, y116, y117, y118, y119, y120, y121, y122, y123, y124, y125, y126, y127, y128, y129, y130, y131, y132, y133, y134, y135, y136, y137, y138, y139, y140, y141, y142, y143, y144, y145, y146, y147, y148, y149, y150, y151, y152, y153, y154, y155, y156, y157, y158, y159, y160, y161, y162, y163, y164, y165, y166, y167, y168, y169, y170, y171, y172, y173, y174, y175, y176, y177, y178, y179, y180, y181, y182, y183, y184, y185, y186, y187, y188, y189, y190, y191, y192, y193, y194, y195, y196, y197, y198, y199, y200, y201, y202, y203, y204, y205, y206, y207, y208, y209, y210, y211, y212, y213, y214, y215, y216, y217, y218, y219, y220, y221, y222, y223, y224, y225, y226, y227, y228, y229, y230, y231, y232, y233, y234, y235, y236, y237, y238, y239, y240, y241, y242, y243, y244, y245, y246, y247, y248, y249, y250, y251, y252, y253, y254, y255, y256, y257, y258, y259, y260, y261, y262, y263, y264, y265, y266, y267, y268, y269, y270, y271, y272, y273, y274, y275, y276, y277, y278, y279, y280, y281, y282, y283, y284, y285, y286, y287, y288, y289, y290, y291, y292, y293, y294, y295, y296, y297, y298, y299, y300, y301, y302, y303, y304, y305, y306, y307, y308, y309, y310, y311, y312, y313, y314, y315, y316, y317, y318, y319, y320, y321, y322, y323, y324, y325, y326, y327, y328, y329, y330, y331, y332, y333, y334, y335, y336, y337, y338, y339, x340, x341, x342, x343], []⟩ ∧ KP70 W1 x io ic T X L x340 x341 x342 x343 x6 W
set_option maxHeartbeats 8000000 in
theorem kp22 (c0 c1 c2 c4 c5 c6 c9 c10 c11 c12 c13 c14 c15 c16 c17 c18 c19 c20 c21 c22 c23 c25 c26 c27 c28 c29 c30 c31 c32 c33 c34 c35 c36 c37 c38 c39 c40 c41 c42 c43 c44 c45 c46 c47 c48 c49 c50 c51 c52 c53 c54 c55 c56 c57 c58 c59 c60 c61 c62 c63 c64 c65 c66 c67 c68 c69 c70 c71 c72 c73 c74 c75 c76 c77 c78 c79 c80 c81 c82 c83 c84 c85 c86 c87 c88 c89 c90 c91 c92 c93 c94 c95 c96 c97 c98 c99 c100 c101 c102 c103 c104 c105 c106 c107 c108 c109 c110 c111 c112 c113 c114 c115 c116 c117 c118 c119 c120 c121 c122 c123 c124 c125 c126 c127 c128 c129 c130 c131 c132 c133 c134 c135 c136 c137 c138 c139 c140 c141 c142 c143 c144 c145 c146 c147 c148 c149 c150 c151 c152 c153 c154 c155 c156 c157 c158 c159 c160 c161 c162 c163 c164 c165 c166 c167 c168 c169 c170 c171 c172 c173 c174 c175 c176 c177 c178 c179 c180 c181 c182 c183 c184 c185 c186 c187 c188 c189 c190 c191 c192 c193 c194 c195 c196 c197 c198 c199 c200 c201 c202 c203 c204 c205 c206 c207 c208 c209 c210 c211 c212 c213 c214 c215 c216 c217 c218 c219 c220 c221 c222 c223 c224 c225 c226 c227 c228 c229 c230 c231 c232 c233 c234 c235 c236 c237 c238 c239 c240 c241 c242 c243 c244 c245 c246 c247 c248 c249 c250 c251 c252 c253 c254 c255 c256 c257 c258 c259 c260 c261 c262 c263 c264 c265 c266 c267 c268 c269 c270 c271 c272 c273 c274 c275 c276 c277 c278 c279 c280 c281 c282 c283 c284 c285 c286 c287 c288 c289 c290 c291 c292 c293 c294 c295 c296 c297 c298 c299 c300 c301 c302 c303 c304 c305 c306 c307 c308 c309 c310 c311 c312 c313 c314 c315 c316 c317 c318 c319 c320 c321 c322 c323 c324 c325 c326 c327 c328 c329 c330 c331 c332 c333 c334 c335 c336 c337 c338 c339 c340 c341 c342 c343 : Value) (w Wa : World) (g3 g7 : Nat) (T : Tk) (im : Option Addr) (icm : Nat) (lm : Option Addr) (lcm : Nat) (it : Option Addr) (ict : Nat) (lt : Option Addr) (lct : Nat) (hB : Below w.heap.size w Wa) (rm : Row Wa g7 40 (tkCells T im icm lm lcm)) (vm : TkV Wa T im icm lm lcm) (rt : Row Wa g3 28 (tkCells T it ict lt lct)) (vt : TkV Wa T it ict lt lct) (hT : T.cs.length ≤ 65536) (D d E e nn dc ec : Nat) (hnn : nn ≤ 4) (hF : ∀ i, i < nn → FinT Wa D d E e i) : Code.wp Tryz.prog (dropS 22 (Tryz.f5.body.getD .skip)) (bodyPost Tryz.prog Tryz.f5 (OkP w)) ⟨#[c0, c1, c2, .pointer (some ⟨g3, 0, none⟩), c4, c5, c6, .pointer (some ⟨g7, 0, none⟩), .slice (some ⟨D, d, none⟩) nn dc, c9, c10, c11, c12, c13, c14, c15, c16, c17, c18, c19, c20, c21, c22, c23, .slice (some ⟨E, e, none⟩) nn ec, c25, c26, c27, c28, c29, c30, c31, c32, c33, c34, c35, c36, c37, c38, c39, c40, c41, c42, c43, c44, c45, c46, c47, c48, c49, c50, c51, c52, c53, c54, c55, c56, c57, c58, c59, c60, c61, c62, c63, c64, c65, c66, c67, c68, c69, c70, c71, c72, c73, c74, c75, c76, c77, c78, c79, c80, c81, c82, c83, c84, c85, c86, c87, c88, c89, c90, c91, c92, c93, c94, c95, c96, c97, c98, c99, c100, c101, c102, c103, c104, c105, c106, c107, c108, c109, c110, c111, c112, c113, c114, c115, c116, c117, c118, c119, c120, c121, c122, c123, c124, c125, c126, c127, c128, c129, c130, c131, c132, c133, c134, c135, c136, c137, c138, c139, c140, c141, c142, c143, c144, c145, c146, c147, c148, c149, c150, c151, c152, c153, c154, c155, c156, c157, c158, c159, c160, c161, c162, c163, c164, c165, c166, c167, c168, c169, c170, c171, c172, c173, c174, c175, c176, c177, c178, c179, c180, c181, c182, c183, c184, c185, c186, c187, c188, c189, c190, c191, c192, c193, c194, c195, c196, c197, c198, c199, c200, c201, c202, c203, c204, c205, c206, c207, c208, c209, c210, c211, c212, c213, c214, c215, c216, c217, c218, c219, c220, c221, c222, c223, c224, c225, c226, c227, c228, c229, c230, c231, c232, c233, c234, c235, c236, c237, c238, c239, c240, c241, c242, c243, c244, c245, c246, c247, c248, c249, c250, c251, c252, c253, c254, c255, c256, c257, c258, c259, c260, c261, c262, c263, c264, c265, c266, c267, c268, c269, c270, c271, c272, c273, c274, c275, c276, c277, c278, c279, c280, c281, c282, c283, c284, c285, c286, c287, c288, c289, c290, c291, c292, c293, c294, c295, c296, c297, c298, c299, c300, c301, c302, c303, c304, c305, c306, c307, c308, c309, c310, c311, c312, c313, c314, c315, c316, c317, c318, c319, c320, c321, c322, c323, c324, c325, c326, c327, c328, c329, c330, c331, c332, c333, c334, c335, c336, c337, c338, c339, c340, c341, c342, c343], []⟩ Wa := by
  have HA : Hid (∀ W, Below Wa.heap.size Wa W → ∀ i, i < nn → FinT W D d E e i) := fun W h i hi => (hF i hi).keep h
  have HB : Hid (Below w.heap.size w Wa) := hB
  have HNN : Hid (nn ≤ 4) := hnn
  have HT32 : Hid (T.tag.length = 32 ∧ T.cs.length ≤ 65536) := ⟨vm.tag, hT⟩
  have HVM : Hid (∀ W, Below Wa.heap.size Wa W → Row W g7 40 (tkCells T im icm lm lcm) ∧ TkV W T im icm lm lcm) := fun W h => ⟨rm.below h rm.lt, vm.keep h⟩
  have HVT : Hid (∀ W, Below Wa.heap.size Wa W → Row W g3 28 (tkCells T it ict lt lct) ∧ TkV W T it ict lt lct) := fun W h => ⟨rt.below h rt.lt, vt.keep h⟩
  clear hF hB hnn rm vm rt vt hT
  conv => arg 2; whnf
  refine wp_seq_k fun K hK => ?_
  have HK : Hid _ := hK
  clear hK
  go_wp2
  go_loopw [254] (fun iv wr => ∃ i : Nat, i ≤ nn ∧ iv = .int .i64 (i : Int) ∧ Hid (Below Wa.heap.size Wa wr)) (fun iv _ => nn - (intOf iv).toNat)
  case atStart => exact ⟨0, by omega, rfl, Below.refl _ _⟩
  case round =>
    obtain ⟨i, hi, rfl, HI⟩ := hrel
    by_cases hlt : i < nn
    · have y0 : (0 : Int) ≤ (i : Int) := by omega
      have y1 : (i : Int) < (nn : Int) := by omega
      have z1 : IntKind.i64.wrap ((i : Int) + 1) = (i : Int) + 1 := i64_in _ (by omega) (by have := HNN.out; omega)
      have z2 : IntKind.i64.wrap (-1 - (i : Int)) = -1 - (i : Int) := i64_in _ (by have := HNN.out; omega) (by omega)
      have z3 : ((i : Int) + 1) % 256 = (i : Int) + 1 := by have := HNN.out; omega
      obtain ⟨io, n, ic, lo, m, lc, U, jo, jc, ko, kc, c1, c2, hU, hO, hr, u1, u2, a1, a2, a3, a4, b1, b2⟩ := HA.out wr HI.out i hlt
      have HLT : Hid (i < nn) := hlt
      have LU : Hid (U.length = 35) := hU
      have OU : Hid (∀ v ∈ U, v.oneCell' = true) := hO
      have BN : Hid (n ≤ 140737488351232 ∧ m ≤ 140737488351232) := ⟨b1, b2⟩
      have ST9 : Hid (∀ w9, Row w9 wr.heap.size 40 (zTk.take 0 ++ U ++ zTk.drop (0 + U.length)) → SameBut wr.heap.size (wr.alloc (.cells zTk.toArray 40)) w9 → Below Wa.heap.size Wa w9 ∧ w9.cell? ⟨wr.heap.size, 1, none⟩ = some (.slice jo (n + 40) jc) ∧ w9.cell? ⟨wr.heap.size, 2, none⟩ = some (.slice ko (m + 40) kc) ∧ w9.cell? ⟨D, d + i * 35 + 1, none⟩ = some (.slice io n ic) ∧ w9.cell? ⟨D, d + i * 35 + 2, none⟩ = some (.slice lo m lc) ∧ AllB w9 io n ((i : Int) + 1) ∧ AllB w9 jo (n + 40) ((i : Int) + 1) ∧ AllC w9 lo m (-1 - (i : Int)) ∧ AllC w9 ko (m + 40) (-1 - (i : Int))) := fun w9 hr9 hs9 => by
        have hb9 : Below wr.heap.size wr w9 := hs9.below ((Below.refl _ _).alloc (Nat.le_refl _) _) (Nat.le_refl _)
        have q9 := row_whole hr9 (by rw [LU.out]; exact Nat.le_refl _)
        exact ⟨HI.out.trans (hb9.mono HI.out.size), q9.cell 1 _ u1, q9.cell 2 _ u2, (hb9.cell (p := ⟨D, d + i * 35 + 1, none⟩) (cell24_lt c1)).trans c1, (hb9.cell (p := ⟨D, d + i * 35 + 2, none⟩) (cell24_lt c2)).trans c2, a1.keep hb9, a2.keep hb9, a3.keep hb9, a4.keep hb9⟩
      clear hU hO u1 u2 a1 a2 a3 a4 b1 b2 c1 c2 hi hlt
      go_wp2_with (first
        | (have hz := hr; clear hz; refine wpList_load_mid rfl 40 (.tmp 257) rfl E (e + i * 35) rfl U _ hr Tryz.underlying40 rfl (by rw [LU.out]; kernel_rfl) ?_; clear hr)
        | (have hz := ST9; clear hz; refine wpList_store_Row rfl 40 (.tmp 31) (.tmp 258) rfl wr.heap.size 40 0 zTk U (zRow wr) (by rw [LU.out]; exact Nat.le_refl _) rfl rfl (by rw [LU.out]; kernel_rfl) OU.out ?_; intro w9 hr9 hs9; have HF : Hid _ := ST9.out w9 hr9 hs9; have x1 := HF.out.2.1; clear ST9 hr9 hs9))
      generalize wr.heap.size = gu at *
      have d1 := HF.out.2.2.2.1
      go_loopw [262] (fun kv wr2 => ∃ k : Nat, k ≤ n + 40 ∧ kv = .int .i64 (k : Int) ∧ w9 = wr2) (fun kv _ => n + 40 - (intOf kv).toNat)
      case atStart => exact ⟨0, by omega, rfl, rfl⟩
      case round =>
        obtain ⟨k, hk, rfl, rfl⟩ := hrel
        by_cases hkl : k < n + 40
        · have v0 : (0 : Int) ≤ (k : Int) := by omega
          have v1 : (k : Int) < ((n + 40 : Nat) : Int) := by omega
          have v2 : (k : Int) < (n : Int) + 40 := by omega
          have v3 : IntKind.i64.wrap ((k : Int) + 1) = (k : Int) + 1 := i64_in _ (by omega) (by have := BN.out.1; omega)
          obtain ⟨B, off, rfl, xk⟩ := HF.out.2.2.2.2.2.2.1 k hkl
          have HKL : Hid (k < n + 40) := hkl
          by_cases hkn : k < n
          · have v4 : (k : Int) < (n : Int) := by omega
            obtain ⟨B2, off2, rfl, xj⟩ := HF.out.2.2.2.2.2.1 k hkn
            clear hk hkl hkn
            go_wp2
            exact ⟨⟨k + 1, HKL.out, by go_num, by first | rfl | trivial⟩, by have := HKL.out; simp [intOf]; omega⟩
          · have v4 : ¬ (k : Int) < (n : Int) := by omega
            clear hk hkl hkn
            go_wp2
            exact ⟨⟨k + 1, HKL.out, by go_num, by first | rfl | trivial⟩, by have := HKL.out; simp [intOf]; omega⟩
        · obtain rfl : k = n + 40 := by omega
          have v1 : ¬ ((n + 40 : Nat) : Int) < ((n + 40 : Nat) : Int) := by omega
          have v2 : ¬ (n : Int) + 40 < (n : Int) + 40 := by omega
          have x2 := HF.out.2.2.1
          have d2 := HF.out.2.2.2.2.1
          clear x1 d1 hk hkl
          go_wp2
          go_loopw [302] (fun kv wr2 => ∃ k : Nat, k ≤ m + 40 ∧ kv = .int .i64 (k : Int) ∧ w9 = wr2) (fun kv _ => m + 40 - (intOf kv).toNat)
          case atStart => exact ⟨0, by omega, rfl, rfl⟩
          case round =>
            obtain ⟨k, hk, rfl, rfl⟩ := hrel
            by_cases hkl : k < m + 40
            · have v0 : (0 : Int) ≤ (k : Int) := by omega
              have v1 : (k : Int) < ((m + 40 : Nat) : Int) := by omega
              have v2 : (k : Int) < (m : Int) + 40 := by omega
              have v3 : IntKind.i64.wrap ((k : Int) + 1) = (k : Int) + 1 := i64_in _ (by omega) (by have := BN.out.2; omega)
              obtain ⟨B, off, rfl, xk⟩ := HF.out.2.2.2.2.2.2.2.2 k hkl
              have HKL : Hid (k < m + 40) := hkl
              by_cases hkn : k < m
              · have v4 : (k : Int) < (m : Int) := by omega
                obtain ⟨B2, off2, rfl, xj⟩ := HF.out.2.2.2.2.2.2.2.1 k hkn
                clear hk hkl hkn
                go_wp2
                exact ⟨⟨k + 1, HKL.out, by go_num, by first | rfl | trivial⟩, by have := HKL.out; simp [intOf]; omega⟩
              · have v4 : ¬ (k : Int) < (m : Int) := by omega
                clear hk hkl hkn
                go_wp2
                exact ⟨⟨k + 1, HKL.out, by go_num, by first | rfl | trivial⟩, by have := HKL.out; simp [intOf]; omega⟩
            · obtain rfl : k = m + 40 := by omega
              have v1 : ¬ ((m + 40 : Nat) : Int) < ((m + 40 : Nat) : Int) := by omega
              have v2 : ¬ (m : Int) + 40 < (m : Int) + 40 := by omega
              clear x2 d2 hk hkl
              go_wp2
              exact ⟨⟨i + 1, HLT.out, by go_num, HF.out.1⟩, by have := HLT.out; simp [intOf]; omega⟩
    · obtain rfl : i = nn := by omega
      have y1 : ¬ ((i : Nat) : Int) < (i : Int) := by omega
      go_wp2
      refine HK.out _ _ ?_
      clear HK
      clear y1
      go_upto_region 70 with fail
      obtain ⟨X, hX0⟩ : ∃ X, X = tkCells T im icm lm lcm := ⟨_, rfl⟩
      obtain ⟨Y, hY0⟩ : ∃ Y, Y = tkCells T it ict lt lct := ⟨_, rfl⟩
      have LX : Hid (X.length = 35) := by rw [hX0]; exact tkC_len HT32.out.1
      have LT : Hid (Y.length = 35) := by rw [hY0]; exact tkC_len HT32.out.1
      have XP : Hid ((X.drop 0).take 35 = X) := by show _ = _; rw [List.drop_zero, List.take_of_length_le (by rw [LX.out]; exact Nat.le_refl _)]
      have TP : Hid ((Y.drop 0).take 35 = Y) := by show _ = _; rw [List.drop_zero, List.take_of_length_le (by rw [LT.out]; exact Nat.le_refl _)]
      have RX : Hid (∀ W, Below wr.heap.size wr W → Row W g7 40 X) := fun W h => by rw [hX0]; exact (HVM.out W (HI.out.trans (h.mono HI.out.size))).1
      have RY : Hid (∀ W, Below wr.heap.size wr W → Row W g3 28 Y) := fun W h => by rw [hY0]; exact (HVT.out W (HI.out.trans (h.mono HI.out.size))).1
      have BKC : Hid (∀ W, Below wr.heap.size wr W → Calls Tryz.prog 13 #[.agg X.toArray] W (BackP T im icm W)) := fun W h => by rw [hX0]; exact l24back_any T im icm lm lcm W (HVM.out W (HI.out.trans (h.mono HI.out.size))).2 (by have := HT32.out.2; omega)
      have SMC : Hid (∀ W lo9 lc9, Below wr.heap.size wr W → TkV W T im icm lo9 lc9 → Calls Tryz.prog 12 #[.agg (tkCells T im icm lo9 lc9).toArray, .agg Y.toArray] W fun e w' => e = .returned (.bool true) ∧ Below W.heap.size W w') := fun W lo9 lc9 h hv => by rw [hY0]; exact r24Same_any T T im icm lo9 lc9 it ict lt lct W hv (HVT.out W (HI.out.trans (h.mono HI.out.size))).2 (by have := HT32.out.2; omega) true (by simp)
      have HWR : Hid (Below w.heap.size w wr) := HB.out.trans (HI.out.mono HB.out.size)
      clear hX0 hY0
      refine wp_region_inv (IKP70 wr T im icm Y X _ _ _ _ _ _ _ _ _ _ _ _ _ _ _ _ _ _ _ _ _ _ _ _ _ _ _ _ _ _ _ _ _ _ _ _ _ _ _ _ _ _ _ _ _ _ _ _ _ _ _ _ _ _ _ _ _ _ _ _ _ _ _ _ _ _ _ _ _ _ _ _ _ _ _ _ _ _ _ _ _ _ _ _ _ _ _ _ _ _ _ _ _ _ _ _ _ _ _ _ _ _ _ _ _ _ _ _ _ _ _ _ _ _ _ _ _ _ _ _ _ _ _ _ _ _ _ _ _ _ _ _ _ _ _ _ _ _ _ _ _ _ _ _ _ _ _ _ _ _ _ _ _ _ _ _ _ _ _ _ _ _ _ _ _ _ _ _ _ _ _ _ _ _ _ _ _ _ _ _ _ _ _ _ _ _ _ _ _ _ _ _ _ _ _ _ _ _ _ _ _ _ _ _ _ _ _ _ _ _ _ _ _ _ _ _ _ _ _ _ _ _ _ _ _ _ _ _ _ _ _ _ _ _ _ _ _ _ _ _ _ _ _ _ _ _ _ _ _ _ _ _ _ _ _ _ _ _ _ _ _ _ _ _ _ _ _ _ _ _ _ _ _ _ _ _ _ _ _ _ _ _ _ _ _ _ _ _ _ _ _ _ _ _ _ _ _ _ _ _ _ _ _ _ _ _ _ _ _ _ _ _ _ _ _ _ _ _ _ _ _ _ _ _ _ _ _ _ _ _ _ _ _ _ _ _ _ _ _) (by kernel_rfl) (by kernel_rfl) ⟨_, _, _, _, _, rfl, ⟨BS.zero _ _ _ _ _, fun k => (by cases k), fun k => (by cases k), fun k => (by cases k), fun k => (by cases k)⟩⟩ ?_ ?_
      · refine .cons ?_ (.cons ?_ (.cons ?_ (.cons ?_ (.cons ?_ .nil))))
        all_goals (rintro L _ W ⟨x340, x341, x342, x343, x6, rfl, hI⟩ hL hd K hK)
        · refine step_load_part (by rfl) 40 _ rfl g7 0 40 35 X (RX.out W hI.x.bel) rfl _ X XP.out LX.out Tryz.underlying40 rfl (by kernel_rfl) ?_
          exact hK.out _ _ ⟨_, _, _, _, _, rfl, { hI with p0 := fun _ => rfl }⟩
        · obtain rfl := hI.p0 (hd 0 (by decide))
          rw [if_pos (by rfl)]
          go_simp
          refine (BKC.out W hI.x.bel).mono ?_
          rintro e W2 ⟨lo9, lc9, rfl, hv9, hb9⟩
          go_simp
          have hX := hI.x.s hb9 hv9 (q' := true)
          exact hK.out _ _ ⟨_, _, _, _, _, rfl, { hI with x := hX }⟩
        · refine step_load_part (by rfl) 28 _ rfl g3 0 28 35 Y (RY.out W hI.x.bel) rfl _ Y TP.out LT.out Tryz.underlying28 rfl (by kernel_rfl) ?_
          exact hK.out _ _ ⟨_, _, _, _, _, rfl, { hI with p2 := fun _ => rfl }⟩
        · obtain rfl := hI.p2 (hd 2 (by decide))
          rw [if_pos (by rfl)]
          go_simp
          obtain ⟨lo9, lc9, e9, hv9⟩ := hI.x.p (hd 1 (by decide))
          subst e9
          refine (SMC.out W lo9 lc9 hI.x.bel hv9).mono ?_
          rintro e W2 ⟨rfl, hb9⟩
          go_simp
          have hX := hI.x.keep hb9
          exact hK.out _ _ ⟨_, _, _, _, _, rfl, { hI with x := hX, p3 := fun _ => rfl }⟩
        · obtain rfl := hI.p3 (hd 3 (by decide))
          rw [if_pos (by rfl)]
          go_simp
          exact hK.out _ _ ⟨_, _, _, _, _, rfl, { hI with p4 := fun _ => rfl }⟩
      · rintro L _ W hall ⟨x340, x341, x342, x343, x6, rfl, hI⟩
        obtain rfl := hI.p0 (hall 0 (by decide))
        obtain rfl := hI.p2 (hall 2 (by decide))
        obtain rfl := hI.p3 (hall 3 (by decide))
        obtain rfl := hI.p4 (hall 4 (by decide))
        have hXe := hI.x
        rw [hall 1 (by decide)] at hXe
        clear hI hall
        try dsimp only
        have HXX : Hid (Below w.heap.size w W) := HWR.out.trans (hXe.bel.mono HWR.out.size)
        clear hXe
        go_wp2
        go_ret
        exact ⟨rfl, HXX.out⟩
end Go.Proofs.YtjooabgjkjnhhaaGreatDoor
