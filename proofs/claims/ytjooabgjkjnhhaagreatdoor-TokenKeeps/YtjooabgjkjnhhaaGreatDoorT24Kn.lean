
import Derived.Test.YtjooabgjkjnhhaaGreatDoorT24Km
/-! TokenKeeps: from 'own := ..' to the loop over own. (Printed by tools/gent24c.py.) -/
namespace Go.Proofs.YtjooabgjkjnhhaaGreatDoor
open Go.RowKit
set_option linter.unusedVariables false
set_option linter.unusedSimpArgs false
set_option maxRecDepth 100000

/-- While own is written over. -/
structure KX (Wa : World) (b : List By) (oo : Option Addr) (oc : Nat) (x : Tk) (E A : Int) (gp gq gt gw Np Nq Nt : Nat) (ip : Option Addr) (icp : Nat) (lp : Option Addr) (lcp : Nat) (iq : Option Addr) (icq : Nat) (lq : Option Addr) (lcq : Nat) (jo : Option Addr) (jc : Nat) (ko : Option Addr) (kc : Nat) (k : Nat) (W : World) : Prop where
  bel : Below Wa.heap.size Wa W
  own : ∃ vs, W.ownsRow Wa.heap.size 5 1 (.slice oo b.length oc) b.length vs ∧ vs.drop k = (b.map B8).drop k
  lo : ∀ g, oo = some ⟨g, 0, none⟩ → g < Np ∧ g ≠ gp ∧ g ≠ gq ∧ g ≠ gt ∧ g ≠ gw
  RP : TkR Np W gp x ip icp lp lcp
  RQ : TkR Nq W gq x iq icq lq lcq
  RT : Row W gt 28 (tkCells x jo jc ko kc)
  OT : TkO 50 Nt W x jo jc ko kc
  RW : Row W gw 73 [.int .i64 E, .int .i64 A]
  n1 : Np ≤ Nq
  n2 : Np ≤ Nt
theorem KX.set {Wa : World} {b : List By} {oo : Option Addr} {oc : Nat} {x : Tk} {E A : Int} {gp gq gt gw Np Nq Nt : Nat} {ip : Option Addr} {icp : Nat} {lp : Option Addr} {lcp : Nat} {iq : Option Addr} {icq : Nat} {lq : Option Addr} {lcq : Nat} {jo : Option Addr} {jc : Nat} {ko : Option Addr} {kc k : Nat} {W : World} (h : KX Wa b oo oc x E A gp gq gt gw Np Nq Nt ip icp lp lcp iq icq lq lcq jo jc ko kc k W) (hk : k < b.length) :
    ∃ g, oo = some ⟨g, 0, none⟩ ∧ W.cell? ⟨g, k, none⟩ = some (.int .u8 ((b.getD k 0).toNat : Int)) ∧ W.frozen? ⟨g, k, none⟩ = false ∧ ∀ u, KX Wa b oo oc x E A gp gq gt gw Np Nq Nt ip icp lp lcp iq icq lq lcq jo jc ko kc (k + 1) (W.setCell ⟨g, k, none⟩ u) := by
  obtain ⟨vs, ho, hd⟩ := h.own
  obtain ⟨g, hg, hN⟩ := own_some ho (by omega)
  have hl := h.lo g hg
  have ho2 := ho
  rw [hg] at ho2
  have hvk : vs[k]? = some (.int .u8 ((b.getD k 0).toNat : Int)) := by
    have h1 : (vs.drop k)[0]? = ((b.map B8).drop k)[0]? := by rw [hd]
    rw [List.getElem?_drop, List.getElem?_drop, Nat.add_zero, List.getElem?_map, List.getElem?_eq_getElem hk] at h1
    rw [h1]
    simp [B8, hk]
  refine ⟨g, hg, by rw [ho2.cellAt k (by omega)]; exact hvk, ho2.frozenAt k, fun u => ?_⟩
  have hs := SameBut.setCell g k u W
  have blk : ∀ B, Np ≤ B → (W.setCell ⟨g, k, none⟩ u).heap[B]? = W.heap[B]? := fun B hB => hs.block B (by omega)
  have hsz : (W.setCell ⟨g, k, none⟩ u).heap.size = W.heap.size := hs.size
  have n1 := h.n1
  have n2 := h.n2
  have mv : ∀ {ct N : Nat} {x : Tk} {io : Option Addr} {ic : Nat} {lo : Option Addr} {lc : Nat}, TkO ct N W x io ic lo lc → Np ≤ N → TkO ct N (W.setCell ⟨g, k, none⟩ u) x io ic lo lc := fun hx hNN => hx.blk24 (by rw [hsz]; exact hx.id.2) (fun B off e => blk B (by have := (own_lies hx.id.1 B off e).2.1; omega)) (fun B off e => blk B (by have := (own_lies hx.cs B off e).2.1; omega))
  refine ⟨hs.below h.bel hN, ⟨vs.set k u, by have := (ho2.stored k u).1; rw [← hg] at this; exact this, ?_⟩, h.lo, ⟨h.RP.row.but hs (Ne.symm hl.2.1), mv h.RP.own (Nat.le_refl _)⟩, ⟨h.RQ.row.but hs (Ne.symm hl.2.2.1), mv h.RQ.own n1⟩, h.RT.but hs (Ne.symm hl.2.2.2.1), mv h.OT n2, h.RW.but hs (Ne.symm hl.2.2.2.2), h.n1, h.n2⟩
  rw [List.drop_set_of_lt (by omega), ← List.drop_drop (i := 1), hd, List.drop_drop]
set_option maxHeartbeats 8000000 in
theorem kp12 (c0 c1 c4 c5 c6 c9 c10 c11 c12 c13 c14 c15 c16 c17 c18 c19 c20 c21 c22 c23 c24 c25 c26 c27 c28 c29 c30 c31 c32 c33 c34 c35 c36 c37 c38 c39 c40 c41 c42 c43 c44 c45 c46 c47 c48 c49 c50 c51 c52 c53 c54 c55 c56 c57 c58 c59 c60 c61 c62 c63 c64 c65 c66 c67 c68 c69 c70 c71 c72 c73 c74 c75 c76 c77 c78 c79 c80 c81 c82 c83 c84 c85 c86 c87 c88 c89 c90 c91 c92 c93 c94 c95 c96 c97 c98 c99 c100 c101 c102 c103 c104 c105 c106 c107 c108 c109 c110 c111 c112 c113 c114 c115 c116 c117 c118 c119 c120 c121 c122 c123 c124 c125 c126 c127 c128 c129 c130 c131 c132 c133 c134 c135 c136 c137 c138 c139 c140 c141 c142 c143 c144 c145 c146 c147 c148 c149 c150 c151 c152 c153 c154 c155 c156 c157 c158 c159 c160 c161 c162 c163 c164 c165 c166 c167 c168 c169 c170 c171 c172 c173 c174 c175 c176 c177 c178 c179 c180 c181 c182 c183 c184 c185 c186 c187 c188 c189 c190 c191 c192 c193 c194 c195 c196 c197 c198 c199 c200 c201 c202 c203 c204 c205 c206 c207 c208 c209 c210 c211 c212 c213 c214 c215 c216 c217 c218 c219 c220 c221 c222 c223 c224 c225 c226 c227 c228 c229 c230 c231 c232 c233 c234 c235 c236 c237 c238 c239 c240 c241 c242 c243 c244 c245 c246 c247 c248 c249 c250 c251 c252 c253 c254 c255 c256 c257 c258 c259 c260 c261 c262 c263 c264 c265 c266 c267 c268 c269 c270 c271 c272 c273 c274 c275 c276 c277 c278 c279 c280 c281 c282 c283 c284 c285 c286 c287 c288 c289 c290 c291 c292 c293 c294 c295 c296 c297 c298 c299 c300 c301 c302 c303 c304 c305 c306 c307 c308 c309 c310 c311 c312 c313 c314 c315 c316 c317 c318 c319 c320 c321 c322 c323 c324 c325 c326 c327 c328 c329 c330 c331 c332 c333 c334 c335 c336 c337 c338 c339 c340 c341 c342 c343 : Value) (C : Tok) (w Wa : World) (N g3 g7 : Nat) (T : Tk) (im : Option Addr) (icm : Nat) (lm : Option Addr) (lcm : Nat) (it : Option Addr) (ict : Nat) (lt : Option Addr) (lct : Nat) (hN : N ≤ Wa.heap.size) (hB : ∀ W, Below N Wa W → Below w.heap.size w W) (hM : ∀ W, Below N Wa W → Row W g7 40 (tkCells T im icm lm lcm) ∧ TkV W T im icm lm lcm ∧ Row W g3 28 (tkCells T it ict lt lct) ∧ TkV W T it ict lt lct) (hT : T.cs.length ≤ 65536)
    (bo : Option Addr) (cap : Nat) (b : List By) (hb : ∀ W, Below N Wa W → IsB W bo b) (hbc : b.length ≤ cap) (hbn : bo = none → cap = 0) (hbl : b.length ≤ 140737488351232)
    (rs : List Te) (D dc : Nat) (hnn : rs.length ≤ 2) (hsep : SepT rs) (harr : Wa.ownsRow N 40 35 (.slice (some ⟨D, 0, none⟩) rs.length dc) rs.length (rs.flatMap Te.cells)) (htodo : ∀ (j : Nat) (r : Te), rs[j]? = some r → TkO 52 N Wa r.x r.io r.ic r.lo r.lc) (hcs : ∀ r ∈ rs, r.x.cs.length ≤ 100000) :
    Code.wp Tryz.prog (dropS 12 (Tryz.f5.body.getD .skip)) (bodyPost Tryz.prog Tryz.f5 (OkP w)) ⟨#[c0, c1, .slice bo b.length cap, .pointer (some ⟨g3, 0, none⟩), c4, c5, c6, .pointer (some ⟨g7, 0, none⟩), .slice (some ⟨D, 0, none⟩) rs.length dc, c9, c10, c11, c12, c13, c14, c15, c16, c17, c18, c19, c20, c21, c22, c23, c24, c25, c26, c27, c28, c29, c30, c31, c32, c33, c34, c35, c36, c37, c38, c39, c40, c41, c42, c43, c44, c45, c46, c47, c48, c49, c50, c51, c52, c53, c54, c55, c56, c57, c58, c59, c60, c61, c62, c63, c64, c65, c66, c67, c68, c69, c70, c71, c72, c73, c74, c75, c76, c77, c78, c79, c80, c81, c82, c83, c84, c85, c86, c87, c88, c89, c90, c91, c92, c93, c94, c95, c96, c97, c98, c99, c100, c101, c102, c103, c104, c105, c106, c107, c108, c109, c110, c111, c112, c113, c114, c115, c116, c117, c118, c119, c120, c121, c122, c123, c124, c125, c126, c127, c128, c129, c130, c131, c132, c133, c134, c135, c136, c137, c138, c139, c140, c141, c142, c143, c144, c145, c146, c147, c148, c149, c150, c151, c152, c153, c154, c155, c156, c157, c158, c159, c160, c161, c162, c163, c164, c165, c166, c167, c168, c169, c170, c171, c172, c173, c174, c175, c176, c177, c178, c179, c180, c181, c182, c183, c184, c185, c186, c187, c188, c189, c190, c191, c192, c193, c194, c195, c196, c197, c198, c199, c200, c201, c202, c203, c204, c205, c206, c207, c208, c209, c210, c211, c212, c213, c214, c215, c216, c217, c218, c219, c220, c221, c222, c223, c224, c225, c226, c227, c228, c229, c230, c231, c232, c233, c234, c235, c236, c237, c238, c239, c240, c241, c242, c243, c244, c245, c246, c247, c248, c249, c250, c251, c252, c253, c254, c255, c256, c257, c258, c259, c260, c261, c262, c263, c264, c265, c266, c267, c268, c269, c270, c271, c272, c273, c274, c275, c276, c277, c278, c279, c280, c281, c282, c283, c284, c285, c286, c287, c288, c289, c290, c291, c292, c293, c294, c295, c296, c297, c298, c299, c300, c301, c302, c303, c304, c305, c306, c307, c308, c309, c310, c311, c312, c313, c314, c315, c316, c317, c318, c319, c320, c321, c322, c323, c324, c325, c326, c327, c328, c329, c330, c331, c332, c333, c334, c335, c336, c337, c338, c339, c340, c341, c342, c343], []⟩ Wa := by
  obtain ⟨x, E, A, hx, K1, K2⟩ := get_own C b hbl
  have NXT : Hid (∀ c0 c1 c2 c4 c5 c6 c9 c10 c11 c12 c13 c14 c15 c16 c18 c20 c23 c24 c25 c26 c27 c28 c29 c30 c31 c32 c33 c34 c35 c36 c37 c38 c39 c40 c41 c42 c43 c44 c45 c46 c47 c48 c49 c50 c51 c52 c53 c54 c55 c56 c57 c58 c59 c60 c61 c62 c63 c64 c65 c66 c67 c68 c69 c70 c71 c72 c73 c74 c75 c76 c77 c78 c79 c80 c81 c82 c83 c84 c85 c86 c87 c88 c89 c90 c91 c92 c93 c94 c95 c96 c97 c98 c99 c100 c101 c102 c103 c104 c105 c106 c107 c108 c109 c110 c111 c112 c113 c114 c115 c116 c117 c118 c119 c120 c121 c122 c123 c124 c125 c126 c127 c128 c129 c130 c131 c132 c133 c134 c135 c136 c137 c138 c139 c140 c141 c142 c143 c144 c145 c146 c147 c148 c149 c150 c151 c152 c153 c154 c155 c156 c157 c158 c159 c160 c161 c162 c163 c164 c165 c166 c167 c168 c169 c170 c171 c172 c173 c174 c175 c176 c177 c178 c179 c180 c181 c182 c183 c184 c185 c186 c187 c188 c189 c190 c191 c192 c193 c194 c195 c196 c197 c198 c199 c200 c201 c202 c203 c204 c205 c206 c207 c208 c209 c210 c211 c212 c213 c214 c215 c216 c217 c218 c219 c220 c221 c222 c223 c224 c225 c226 c227 c228 c229 c230 c231 c232 c233 c234 c235 c236 c237 c238 c239 c240 c241 c242 c243 c244 c245 c246 c247 c248 c249 c250 c251 c252 c253 c254 c255 c256 c257 c258 c259 c260 c261 c262 c263 c264 c265 c266 c267 c268 c269 c270 c271 c272 c273 c274 c275 c276 c277 c278 c279 c280 c281 c282 c283 c284 c285 c286 c287 c288 c289 c290 c291 c292 c293 c294 c295 c296 c297 c298 c299 c300 c301 c302 c303 c304 c305 c306 c307 c308 c309 c310 c311 c312 c313 c314 c315 c316 c317 c318 c319 c320 c321 c322 c323 c324 c325 c326 c327 c328 c329 c330 c331 c332 c333 c334 c335 c336 c337 c338 c339 c340 c341 c342 c343 W (oo : Option Addr) (oc gp gq gt gw Np Nq Nt : Nat) (ip : Option Addr) (icp : Nat) (lp : Option Addr) (lcp : Nat) (iq : Option Addr) (icq : Nat) (lq : Option Addr) (lcq : Nat) (jo : Option Addr) (jc : Nat) (ko : Option Addr) (kc : Nat) (k : Nat), KX Wa b oo oc x E A gp gq gt gw Np Nq Nt ip icp lp lcp iq icq lq lcq jo jc ko kc k W → Wa.heap.size ≤ Np → (∀ B off, ip = some ⟨B, off, none⟩ → B < Nq) → (∀ B off, lp = some ⟨B, off, none⟩ → B < Nq) → Code.wp Tryz.prog (dropS 18 (Tryz.f5.body.getD .skip)) (bodyPost Tryz.prog Tryz.f5 (OkP w)) ⟨#[c0, c1, c2, .pointer (some ⟨g3, 0, none⟩), c4, c5, c6, .pointer (some ⟨g7, 0, none⟩), .slice (some ⟨D, 0, none⟩) rs.length dc, c9, c10, c11, c12, c13, c14, c15, c16, .pointer (some ⟨gp, 0, none⟩), c18, .pointer (some ⟨gq, 0, none⟩), c20, .pointer (some ⟨gt, 0, none⟩), .pointer (some ⟨gw, 0, none⟩), c23, c24, c25, c26, c27, c28, c29, c30, c31, c32, c33, c34, c35, c36, c37, c38, c39, c40, c41, c42, c43, c44, c45, c46, c47, c48, c49, c50, c51, c52, c53, c54, c55, c56, c57, c58, c59, c60, c61, c62, c63, c64, c65, c66, c67, c68, c69, c70, c71, c72, c73, c74, c75, c76, c77, c78, c79, c80, c81, c82, c83, c84, c85, c86, c87, c88, c89, c90, c91, c92, c93, c94, c95, c96, c97, c98, c99, c100, c101, c102, c103, c104, c105, c106, c107, c108, c109, c110, c111, c112, c113, c114, c115, c116, c117, c118, c119, c120, c121, c122, c123, c124, c125, c126, c127, c128, c129, c130, c131, c132, c133, c134, c135, c136, c137, c138, c139, c140, c141, c142, c143, c144, c145, c146, c147, c148, c149, c150, c151, c152, c153, c154, c155, c156, c157, c158, c159, c160, c161, c162, c163, c164, c165, c166, c167, c168, c169, c170, c171, c172, c173, c174, c175, c176, c177, c178, c179, c180, c181, c182, c183, c184, c185, c186, c187, c188, c189, c190, c191, c192, c193, c194, c195, c196, c197, c198, c199, c200, c201, c202, c203, c204, c205, c206, c207, c208, c209, c210, c211, c212, c213, c214, c215, c216, c217, c218, c219, c220, c221, c222, c223, c224, c225, c226, c227, c228, c229, c230, c231, c232, c233, c234, c235, c236, c237, c238, c239, c240, c241, c242, c243, c244, c245, c246, c247, c248, c249, c250, c251, c252, c253, c254, c255, c256, c257, c258, c259, c260, c261, c262, c263, c264, c265, c266, c267, c268, c269, c270, c271, c272, c273, c274, c275, c276, c277, c278, c279, c280, c281, c282, c283, c284, c285, c286, c287, c288, c289, c290, c291, c292, c293, c294, c295, c296, c297, c298, c299, c300, c301, c302, c303, c304, c305, c306, c307, c308, c309, c310, c311, c312, c313, c314, c315, c316, c317, c318, c319, c320, c321, c322, c323, c324, c325, c326, c327, c328, c329, c330, c331, c332, c333, c334, c335, c336, c337, c338, c339, c340, c341, c342, c343], []⟩ W) := fun c0 c1 c2 c4 c5 c6 c9 c10 c11 c12 c13 c14 c15 c16 c18 c20 c23 c24 c25 c26 c27 c28 c29 c30 c31 c32 c33 c34 c35 c36 c37 c38 c39 c40 c41 c42 c43 c44 c45 c46 c47 c48 c49 c50 c51 c52 c53 c54 c55 c56 c57 c58 c59 c60 c61 c62 c63 c64 c65 c66 c67 c68 c69 c70 c71 c72 c73 c74 c75 c76 c77 c78 c79 c80 c81 c82 c83 c84 c85 c86 c87 c88 c89 c90 c91 c92 c93 c94 c95 c96 c97 c98 c99 c100 c101 c102 c103 c104 c105 c106 c107 c108 c109 c110 c111 c112 c113 c114 c115 c116 c117 c118 c119 c120 c121 c122 c123 c124 c125 c126 c127 c128 c129 c130 c131 c132 c133 c134 c135 c136 c137 c138 c139 c140 c141 c142 c143 c144 c145 c146 c147 c148 c149 c150 c151 c152 c153 c154 c155 c156 c157 c158 c159 c160 c161 c162 c163 c164 c165 c166 c167 c168 c169 c170 c171 c172 c173 c174 c175 c176 c177 c178 c179 c180 c181 c182 c183 c184 c185 c186 c187 c188 c189 c190 c191 c192 c193 c194 c195 c196 c197 c198 c199 c200 c201 c202 c203 c204 c205 c206 c207 c208 c209 c210 c211 c212 c213 c214 c215 c216 c217 c218 c219 c220 c221 c222 c223 c224 c225 c226 c227 c228 c229 c230 c231 c232 c233 c234 c235 c236 c237 c238 c239 c240 c241 c242 c243 c244 c245 c246 c247 c248 c249 c250 c251 c252 c253 c254 c255 c256 c257 c258 c259 c260 c261 c262 c263 c264 c265 c266 c267 c268 c269 c270 c271 c272 c273 c274 c275 c276 c277 c278 c279 c280 c281 c282 c283 c284 c285 c286 c287 c288 c289 c290 c291 c292 c293 c294 c295 c296 c297 c298 c299 c300 c301 c302 c303 c304 c305 c306 c307 c308 c309 c310 c311 c312 c313 c314 c315 c316 c317 c318 c319 c320 c321 c322 c323 c324 c325 c326 c327 c328 c329 c330 c331 c332 c333 c334 c335 c336 c337 c338 c339 c340 c341 c342 c343 W oo oc gp gq gt gw Np Nq Nt ip icp lp lcp iq icq lq lcq jo jc ko kc k h h1 h2 h3 => kp18 c0 c1 c2 c4 c5 c6 c9 c10 c11 c12 c13 c14 c15 c16 c18 c20 c23 c24 c25 c26 c27 c28 c29 c30 c31 c32 c33 c34 c35 c36 c37 c38 c39 c40 c41 c42 c43 c44 c45 c46 c47 c48 c49 c50 c51 c52 c53 c54 c55 c56 c57 c58 c59 c60 c61 c62 c63 c64 c65 c66 c67 c68 c69 c70 c71 c72 c73 c74 c75 c76 c77 c78 c79 c80 c81 c82 c83 c84 c85 c86 c87 c88 c89 c90 c91 c92 c93 c94 c95 c96 c97 c98 c99 c100 c101 c102 c103 c104 c105 c106 c107 c108 c109 c110 c111 c112 c113 c114 c115 c116 c117 c118 c119 c120 c121 c122 c123 c124 c125 c126 c127 c128 c129 c130 c131 c132 c133 c134 c135 c136 c137 c138 c139 c140 c141 c142 c143 c144 c145 c146 c147 c148 c149 c150 c151 c152 c153 c154 c155 c156 c157 c158 c159 c160 c161 c162 c163 c164 c165 c166 c167 c168 c169 c170 c171 c172 c173 c174 c175 c176 c177 c178 c179 c180 c181 c182 c183 c184 c185 c186 c187 c188 c189 c190 c191 c192 c193 c194 c195 c196 c197 c198 c199 c200 c201 c202 c203 c204 c205 c206 c207 c208 c209 c210 c211 c212 c213 c214 c215 c216 c217 c218 c219 c220 c221 c222 c223 c224 c225 c226 c227 c228 c229 c230 c231 c232 c233 c234 c235 c236 c237 c238 c239 c240 c241 c242 c243 c244 c245 c246 c247 c248 c249 c250 c251 c252 c253 c254 c255 c256 c257 c258 c259 c260 c261 c262 c263 c264 c265 c266 c267 c268 c269 c270 c271 c272 c273 c274 c275 c276 c277 c278 c279 c280 c281 c282 c283 c284 c285 c286 c287 c288 c289 c290 c291 c292 c293 c294 c295 c296 c297 c298 c299 c300 c301 c302 c303 c304 c305 c306 c307 c308 c309 c310 c311 c312 c313 c314 c315 c316 c317 c318 c319 c320 c321 c322 c323 c324 c325 c326 c327 c328 c329 c330 c331 c332 c333 c334 c335 c336 c337 c338 c339 c340 c341 c342 c343 w Wa W N g3 g7 T im icm lm lcm it ict lt lct hN hB hM hT rs D dc hnn hsep harr htodo hcs h.bel x hx E A gp gq gt gw Np Nq ip icp lp lcp iq icq lq lcq jo jc ko kc h.RP h.RQ h1 h.n1 h2 h3 h.RT h.OT.v h.RW
  have HBI : Hid (∀ W, Below Wa.heap.size Wa W → IsB W bo b) := fun W h => hb W (h.mono hN)
  have HBC : Hid (b.length ≤ cap ∧ (bo = none → cap = 0) ∧ b.length ≤ 140737488351232) := ⟨hbc, hbn, hbl⟩
  have G1 : Hid (∀ (oo : Option Addr) (oc : Nat) (W : World), IsB W oo b → b.length ≤ oc → (oo = none → oc = 0) → Calls Tryz.prog 23 #[.slice oo b.length oc] W fun e w' => Below W.heap.size W w' ∧ ∃ v, TkA x v W e w') := K1
  have G2 : Hid (∀ W, IsB W bo b → Calls Tryz.prog 24 #[.slice bo b.length cap] W fun e w' => Below W.heap.size W w' ∧ TkD x (.agg #[.int .i64 E, .int .i64 A]) W e w') := fun W h => K2 bo cap W h hbc
  have O0 : Hid (Own Wa.heap.size (Wa.alloc (.cells #[] 5)) (.slice (some ⟨Wa.heap.size, 0, none⟩) 0 0) []) := own_empty _ Wa (Nat.le_refl _) #[] rfl
  have B0 : Hid (Below Wa.heap.size Wa (Wa.alloc (.cells #[] 5))) := (Below.refl _ _).alloc (Nat.le_refl _) _
  clear K1 K2 hb hbc hbn hbl hN hB hM hT hnn hsep harr htodo hcs hx C
  generalize rs.length = nr at *
  conv => arg 2; whnf
  refine wp_seq_k fun K hK => ?_
  have HK : Hid _ := hK
  clear hK
  go_wp2_with (at_builtin; have hz := O0; clear hz; refine wpList_append_more rfl (.tmp 136) (.tmp 137) rfl Wa.heap.size Wa (some ⟨Wa.heap.size, 0, none⟩) 0 0 [] rfl rfl O0.out B0.out bo b.length cap b rfl rfl (HBI.out _ B0.out) HBC.out.2.1 (by have := HBC.out.2.2; omega) ?_; intro oo oc w1 ho1 hb1; rw [Nat.zero_add] at ho1; rw [Nat.zero_add]; rw [List.nil_append] at ho1; have HO1 : Hid (Own Wa.heap.size w1 (.slice oo b.length oc) b) := ho1; have HB1 : Hid (Below Wa.heap.size Wa w1) := hb1; clear O0 B0 ho1 hb1)
  refine HK.out _ _ ?_
  clear HK
  have C1 := G1.out oo oc w1 (own_IsB HO1.out) (own_cap HO1.out) (own_nilcap HO1.out)
  refine wp_seq_k fun K hK => ?_
  have HK : Hid _ := hK
  clear hK
  go_wp2_with fail
  refine C1.mono ?_
  clear C1
  rintro e w2 ⟨hb2, v2, io2, ic2, lo2, lc2, rfl, ho2⟩
  dsimp only
  have HB2 : Hid (Below w1.heap.size w1 w2) := hb2
  have HO2 : Hid (TkO 52 w1.heap.size w2 x io2 ic2 lo2 lc2) := ho2
  clear hb2 ho2
  go_wp2_with (first
    | (have hz := HO2; clear hz; refine wpList_store_Row rfl 40 (.tmp 17) (.tmp 142) rfl w2.heap.size 40 0 zTk (tkCells x io2 ic2 lo2 lc2) (zRow w2) (by rw [tkCells_len HO2.out.tag]; exact Nat.le_refl _) rfl rfl (by rw [tkCells_len HO2.out.tag]; kernel_rfl) (tkCells_one _ _ _ _ _) ?_; intro w3 hr hs; have HR2 : Hid (TkR w1.heap.size w3 w2.heap.size x io2 ic2 lo2 lc2 ∧ Below w2.heap.size w2 w3) := tkR_lay HO2.out hr hs; clear HO2 hr hs))
  have HB3 : Hid (Below w1.heap.size w1 w3) := HB2.out.trans (HR2.out.2.mono HB2.out.size)
  have HL2 : Hid (w1.heap.size ≤ w2.heap.size) := HB2.out.size
  have HP3 : Hid (TkR w1.heap.size w3 w2.heap.size x io2 ic2 lo2 lc2) := HR2.out.1
  clear HR2 HB2
  refine HK.out _ _ ?_
  clear HK
  have HO3 : Hid (Own Wa.heap.size w3 (.slice oo b.length oc) b) := HO1.out.keep HB3.out
  have C2 := G1.out oo oc w3 (own_IsB HO3.out) (own_cap HO3.out) (own_nilcap HO3.out)
  refine wp_seq_k fun K hK => ?_
  have HK : Hid _ := hK
  clear hK
  go_wp2_with fail
  refine C2.mono ?_
  clear C2
  rintro e w4 ⟨hb4, v4, io4, ic4, lo4, lc4, rfl, ho4⟩
  dsimp only
  have HB4 : Hid (Below w3.heap.size w3 w4) := hb4
  have HO4 : Hid (TkO 52 w3.heap.size w4 x io4 ic4 lo4 lc4) := ho4
  clear hb4 ho4
  go_wp2_with (first
    | (have hz := HO4; clear hz; refine wpList_store_Row rfl 40 (.tmp 19) (.tmp 147) rfl w4.heap.size 40 0 zTk (tkCells x io4 ic4 lo4 lc4) (zRow w4) (by rw [tkCells_len HO4.out.tag]; exact Nat.le_refl _) rfl rfl (by rw [tkCells_len HO4.out.tag]; kernel_rfl) (tkCells_one _ _ _ _ _) ?_; intro w5 hr hs; have HR4 : Hid (TkR w3.heap.size w5 w4.heap.size x io4 ic4 lo4 lc4 ∧ Below w4.heap.size w4 w5) := tkR_lay HO4.out hr hs; clear HO4 hr hs))
  have HB5 : Hid (Below w3.heap.size w3 w5) := HB4.out.trans (HR4.out.2.mono HB4.out.size)
  have HL4 : Hid (w3.heap.size ≤ w4.heap.size) := HB4.out.size
  have HQ5 : Hid (TkR w3.heap.size w5 w4.heap.size x io4 ic4 lo4 lc4) := HR4.out.1
  clear HR4 HB4
  refine HK.out _ _ ?_
  clear HK
  have HW5 : Hid (Below w1.heap.size w1 w5) := HB3.out.trans (HB5.out.mono HB3.out.size)
  have HA5 : Hid (Below Wa.heap.size Wa w5) := HB1.out.trans (HW5.out.mono HB1.out.size)
  have C3 := G2.out w5 (HBI.out w5 HA5.out)
  refine wp_seq_k fun K hK => ?_
  have HK : Hid _ := hK
  clear hK
  go_wp2_with fail
  refine C3.mono ?_
  clear C3
  rintro e w6 ⟨hb6, jo, jc, ko, kc, rfl, ho6⟩
  dsimp only
  obtain ⟨W7, hW7⟩ : ∃ W7, W7 = (w6.alloc (.cells zTk.toArray 28)).alloc (.cells #[.int .i64 0, .int .i64 0] 73) := ⟨_, rfl⟩
  have b7 : Below w6.heap.size w6 W7 := by rw [hW7]; exact ((Below.refl _ _).alloc (Nat.le_refl _) _).alloc (by simp) _
  have r7 : Row W7 w6.heap.size 28 zTk := by rw [hW7]; exact (Row.at w6 _ _ _ _ rfl rfl).alloc _
  have q7 : Row W7 (w6.heap.size + 1) 73 [.int .i64 0, .int .i64 0] := by rw [hW7]; exact Row.at _ _ _ _ _ (by simp) rfl
  have X32 : Hid (x.tag.length = 32) := ho6.tag
  have R7 : Hid (Row W7 w6.heap.size 28 zTk) := r7
  have Q8 : Hid (∀ w8, SameBut w6.heap.size W7 w8 → Row w8 (w6.heap.size + 1) 73 [.int .i64 0, .int .i64 0]) := fun w8 h => q7.but h (by omega)
  have FIN : Hid (∀ w8 w9, Row w8 w6.heap.size 28 (zTk.take 0 ++ tkCells x jo jc ko kc ++ zTk.drop (0 + (tkCells x jo jc ko kc).length)) → SameBut w6.heap.size W7 w8 → Row w9 (w6.heap.size + 1) 73 ([Value.int .i64 0, .int .i64 0].take 0 ++ [.int .i64 E, .int .i64 A] ++ [Value.int .i64 0, .int .i64 0].drop (0 + [Value.int .i64 E, .int .i64 A].length)) → SameBut (w6.heap.size + 1) w8 w9 → KX Wa b oo oc x E A w2.heap.size w4.heap.size w6.heap.size (w6.heap.size + 1) w1.heap.size w3.heap.size w5.heap.size io2 ic2 lo2 lc2 io4 ic4 lo4 lc4 jo jc ko kc 0 w9) := fun w8 w9 hr8 hs8 hr9 hs9 => by
    have hb9 : Below w6.heap.size w6 w9 := hs9.below (hs8.below b7 (Nat.le_refl _)) (by omega)
    have h59 : Below w5.heap.size w5 w9 := hb6.trans (hb9.mono hb6.size)
    have h39 : Below w3.heap.size w3 w9 := HB5.out.trans (h59.mono HB5.out.size)
    have z1 := HB3.out.size; have z2 := HB5.out.size; have z3 := hb6.size; have z4 := HP3.out.row.lt; have z5 := HQ5.out.row.lt
    refine ⟨HA5.out.trans (h59.mono HA5.out.size), ⟨b.map B8, (HO3.out.keep h39).1, rfl⟩, fun g hg => ?_, HP3.out.keep h39, HQ5.out.keep h59, (row_whole hr8 (by rw [tkCells_len X32.out]; exact Nat.le_refl _)).but hs9 (by omega), ho6.keep hb9, hr9, by omega, by omega⟩
    have h9 := (own_lies HO1.out.1 g 0 hg).2.2
    have h8 : w1.heap.size ≤ w2.heap.size := HL2.out
    have h7 : w3.heap.size ≤ w4.heap.size := HL4.out
    refine ⟨h9, by omega, by omega, by omega, by omega⟩
  clear b7 r7 q7 hb6 ho6
  have HPI : Hid ((∀ B off, io2 = some ⟨B, off, none⟩ → B < w3.heap.size) ∧ (∀ B off, lo2 = some ⟨B, off, none⟩ → B < w3.heap.size) ∧ Wa.heap.size ≤ w1.heap.size) := ⟨fun B off e => (own_lies HP3.out.own.id.1 B off e).2.2, fun B off e => (own_lies HP3.out.own.cs B off e).2.2, HB1.out.size⟩
  go_wp2_with (first
    | (have hz := hW7; clear hz; refine wpList_at24 hW7 ?_; clear hW7)
    | (have hz := R7; clear hz; refine wpList_store_Row rfl 28 (.tmp 21) (.tmp 152) rfl w6.heap.size 28 0 zTk (tkCells x jo jc ko kc) R7.out (by rw [tkCells_len X32.out]; exact Nat.le_refl _) rfl rfl (by rw [tkCells_len X32.out]; kernel_rfl) (tkCells_one _ _ _ _ _) ?_; intro w8 hr8 hs8; have HR8 := hr8; have HS8 : Hid (SameBut w6.heap.size W7 w8) := hs8; clear R7 hr8 hs8)
    | (have hz := HS8; clear hz; refine wpList_store_Row rfl 73 (.tmp 22) (.tmp 153) rfl (w6.heap.size + 1) 73 0 _ [.int .i64 E, .int .i64 A] (Q8.out w8 HS8.out) (Nat.le_refl _) rfl rfl (by kernel_rfl) (by simp [Value.oneCell']) ?_; intro w9 hr9 hs9; have HK9 : Hid _ := FIN.out w8 w9 HR8 HS8.out hr9 hs9; clear HR8 HS8 hr9 hs9 FIN Q8))
  refine HK.out _ _ ?_
  clear HK
  have OB : IsB w9 oo b := by
    obtain ⟨vs, h1, h2⟩ := HK9.out.own
    rw [List.drop_zero, List.drop_zero] at h2
    rw [h2] at h1
    exact own_IsB (N := Wa.heap.size) ⟨h1, HK9.out.bel.size⟩
  have cv1 := conv_bytes w9 oo b.length oc b rfl OB
  have cv2 := conv_bytes w9 bo b.length cap b rfl (HBI.out w9 HK9.out.bel)
  clear OB HP3 HQ5 HB1 HB3 HB5 HW5 HA5 HO1 HO3 G1 G2 HBI X32 HL2 HL4
  generalize strOf b = Sb at *
  have e1 : (Sb.toList == Sb.toList) = true := by simp
  refine wp_seq_k fun K hK => ?_
  have HK : Hid _ := hK
  clear hK
  go_wp2
  refine HK.out _ _ ?_
  clear HK
  clear cv1 cv2 e1
  obtain ⟨nb, hnb⟩ : ∃ nb, b.length = nb := ⟨_, rfl⟩
  have HNB : Hid (b.length = nb ∧ nb ≤ 140737488351232) := ⟨hnb, by rw [← hnb]; exact HBC.out.2.2⟩
  rw [hnb]
  clear hnb HBC
  generalize w1.heap.size = n1 at *
  generalize w2.heap.size = n2 at *
  generalize w3.heap.size = n3 at *
  generalize w4.heap.size = n4 at *
  generalize w5.heap.size = n5 at *
  generalize w6.heap.size = n6 at *
  refine wp_seq_k fun K hK => ?_
  have HK : Hid _ := hK
  clear hK
  go_wp2
  go_loopw [161] (fun kv wr => ∃ k : Nat, k ≤ nb ∧ kv = .int .i64 (k : Int) ∧ Hid (KX Wa b oo oc x E A n2 n4 n6 (n6 + 1) n1 n3 n5 io2 ic2 lo2 lc2 io4 ic4 lo4 lc4 jo jc ko kc k wr)) (fun kv _ => nb - (intOf kv).toNat)
  case atStart => exact ⟨0, by omega, rfl, HK9⟩
  case round =>
    clear HK9
    obtain ⟨k, hk, rfl, HKk⟩ := hrel
    by_cases hkl : k < nb
    · have v0 : (0 : Int) ≤ (k : Int) := by omega
      have v1 : (k : Int) < (nb : Int) := by omega
      have v3 : IntKind.i64.wrap ((k : Int) + 1) = (k : Int) + 1 := i64_in _ (by omega) (by have := HNB.out.2; omega)
      obtain ⟨g, hg, xk, fk, hset⟩ := HKk.out.set (by rw [HNB.out.1]; exact hkl)
      have HSET : Hid _ := hset
      have HKL : Hid (k < nb) := hkl
      clear hset HKk hk hkl NXT
      subst hg
      go_wp2
      exact ⟨⟨k + 1, HKL.out, by go_num, HSET.out _⟩, by have := HKL.out; simp [intOf]; omega⟩
    · obtain rfl : k = nb := by omega
      have v1 : ¬ ((k : Nat) : Int) < (k : Int) := by omega
      go_wp2
      refine HK.out _ _ ?_
      exact NXT.out _ _ _ _ _ _ _ _ _ _ _ _ _ _ _ _ _ _ _ _ _ _ _ _ _ _ _ _ _ _ _ _ _ _ _ _ _ _ _ _ _ _ _ _ _ _ _ _ _ _ _ _ _ _ _ _ _ _ _ _ _ _ _ _ _ _ _ _ _ _ _ _ _ _ _ _ _ _ _ _ _ _ _ _ _ _ _ _ _ _ _ _ _ _ _ _ _ _ _ _ _ _ _ _ _ _ _ _ _ _ _ _ _ _ _ _ _ _ _ _ _ _ _ _ _ _ _ _ _ _ _ _ _ _ _ _ _ _ _ _ _ _ _ _ _ _ _ _ _ _ _ _ _ _ _ _ _ _ _ _ _ _ _ _ _ _ _ _ _ _ _ _ _ _ _ _ _ _ _ _ _ _ _ _ _ _ _ _ _ _ _ _ _ _ _ _ _ _ _ _ _ _ _ _ _ _ _ _ _ _ _ _ _ _ _ _ _ _ _ _ _ _ _ _ _ _ _ _ _ _ _ _ _ _ _ _ _ _ _ _ _ _ _ _ _ _ _ _ _ _ _ _ _ _ _ _ _ _ _ _ _ _ _ _ _ _ _ _ _ _ _ _ _ _ _ _ _ _ _ _ _ _ _ _ _ _ _ _ _ _ _ _ _ _ _ _ _ _ _ _ _ _ _ _ _ _ _ _ _ _ _ _ _ _ _ _ _ _ _ _ _ _ _ _ _ _ _ _ _ _ _ _ _ _ _ _ _ wr oo oc n2 n4 n6 (n6 + 1) n1 n3 n5 io2 ic2 lo2 lc2 io4 ic4 lo4 lc4 jo jc ko kc k HKk.out HPI.out.2.2 HPI.out.1 HPI.out.2.1
end Go.Proofs.YtjooabgjkjnhhaaGreatDoor
