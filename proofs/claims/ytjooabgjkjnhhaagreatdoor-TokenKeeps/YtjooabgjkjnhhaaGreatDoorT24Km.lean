
import Derived.Test.YtjooabgjkjnhhaaGreatDoorT24Kl
/-! TokenKeeps: from 'if !R.Same(back(p), got)' on. (Printed by tools/gent24c.py.) -/
namespace Go.Proofs.YtjooabgjkjnhhaaGreatDoor
open Go.RowKit
set_option linter.unusedVariables false
set_option linter.unusedSimpArgs false
set_option maxRecDepth 100000

structure KP29 (W1 : World) (x : Tk) (ip : Option Addr) (icp : Nat) (iq : Option Addr) (icq : Nat) (CP CQ CT : List Value) (L : Nat → Bool) (x171 x172 x173 x174 x175 x176 x177 x178 x179 x180 x181 x182 : Value) (W : World) : Prop where
  x : BS2 W1 x ip icp x iq icq (L 1) (L 7) x172 x178 W
  p0 : L 0 = true → x171 = .agg CP.toArray
  p2 : L 2 = true → x173 = .agg CT.toArray
  p3 : L 3 = true → x174 = .bool true
  p4 : L 4 = true → x175 = .bool false
  p5 : L 5 = true → x176 = .bool false
  p6 : L 6 = true → x177 = .agg CQ.toArray
  p8 : L 8 = true → x179 = .agg CT.toArray
  p9 : L 9 = true → x180 = .bool true
  p10 : L 10 = true → x181 = .bool false
  p11 : L 11 = true → x182 = .bool false
section
variable {W1 : World} {x : Tk} {ip : Option Addr} {icp : Nat} {iq : Option Addr} {icq : Nat} {CP CQ CT : List Value} {L : Nat → Bool} {x171 x172 x173 x174 x175 x176 x177 x178 x179 x180 x181 x182 : Value} {W W2 : World}
theorem KP29.s0 (h : KP29 W1 x ip icp iq icq CP CQ CT L x171 x172 x173 x174 x175 x176 x177 x178 x179 x180 x181 x182 W) : KP29 W1 x ip icp iq icq CP CQ CT (upd L 0) (.agg CP.toArray) x172 x173 x174 x175 x176 x177 x178 x179 x180 x181 x182 W :=
  ⟨h.x, fun _ => rfl, h.p2, h.p3, h.p4, h.p5, h.p6, h.p8, h.p9, h.p10, h.p11⟩
theorem KP29.s1 (h : KP29 W1 x ip icp iq icq CP CQ CT L x171 x172 x173 x174 x175 x176 x177 x178 x179 x180 x181 x182 W) {v : Value} (hX : BS2 W1 x ip icp x iq icq ((upd L 1) 1) ((upd L 1) 7) v x178 W2) : KP29 W1 x ip icp iq icq CP CQ CT (upd L 1) x171 v x173 x174 x175 x176 x177 x178 x179 x180 x181 x182 W2 :=
  ⟨hX, h.p0, h.p2, h.p3, h.p4, h.p5, h.p6, h.p8, h.p9, h.p10, h.p11⟩
end
@[reducible] def IKP29 (W1 : World) (x : Tk) (ip : Option Addr) (icp : Nat) (iq : Option Addr) (icq : Nat) (CP CQ CT : List Value) (y0 y1 y2 y3 y4 y5 y6 y7 y8 y9 y10 y11 y12 y13 y14 y15 y16 y17 y18 y19 y20 y21 y22 y23 y24 y25 y26 y27 y28 y29 y30 y31 y32 y33 y34 y35 y36 y37 y38 y39 y40 y41 y42 y43 y44 y45 y46 y47 y48 y49 y50 y51 y52 y53 y54 y55 y56 y57 y58 y59 y60 y61 y62 y63 y64 y65 y66 y67 y68 y69 y70 y71 y72 y73 y74 y75 y76 y77 y78 y79 y80 y81 y82 y83 y84 y85 y86 y87 y88 y89 y90 y91 y92 y93 y94 y95 y96 y97 y98 y99 y100 y101 y102 y103 y104 y105 y106 y107 y108 y109 y110 y111 y112 y113 y114 y115 y116 y117 y118 y119 y120 y121 y122 y123 y124 y125 y126 y127 y128 y129 y130 y131 y132 y133 y134 y135 y136 y137 y138 y139 y140 y141 y142 y143 y144 y145 y146 y147 y148 y149 y150 y151 y152 y153 y154 y155 y156 y157 y158 y159 y160 y161 y162 y163 y164 y165 y166 y167 y168 y169 y170 y183 y184 y185 y186 y187 y188 y189 y190 y191 y192 y193 y194 y195 y196 y197 y198 y199 y200 y201 y202 y203 y204 y205 y206 y207 y208 y209 y210 y211 y212 y213 y214 y215 y216 y217 y218 y219 y220 y221 y222 y223 y224 y225 y226 y227 y228 y229 y230 y231 y232 y233 y234 y235 y236 y237 y238 y239 y240 y241 y242 y243 y244 y245 y246 y247 y248 y249 y250 y251 y252 y253 y254 y255 y256 y257 y258 y259 y260 y261 y262 y263 y264 y265 y266 y267 y268 y269 y270 y271 y272 y273 y274 y275 y276 y277 y278 y279 y280 y281 y282 y283 y284 y285 y286 y287 y288 y289 y290 y291 y292 y293 y294 y295 y296 y297 y298 y299 y300 y301 y302 y303 y304 y305 y306 y307 y308 y309 y310 y311 y312 y313 y314 y315 y316 y317 y318 y319 y320 y321 y322 y323 y324 y325 y326 y327 y328 y329 y330 y331 y332 y333 y334 y335 y336 y337 y338 y339 y340 y341 y342 y343 : Value) : (Nat → Bool) → Act → World → Prop := fun L a W => ∃ x171 x172 x173 x174 x175 x176 x177 x178 x179 x180 x181 x182, a = ⟨#[y0, y1, y2, y3, y4, y5, y6, y7, y8, y9, y10, y11, y12, y13, y14, y15, y16, y17, y18, y19, y20, y21, y22, y23, y24, y25, y26, y27, y28, y29, y30, y31, y32, y33, y34, y35, y36, y37, y38, y39, y40, y41, y42, y43, y44, y45, y46, y47, y48, y49, y50, y51, y52, y53, y54, y55, y56, y57, y58, y59, y60, y61, y62, y63, y64, y65, y66, y67, y68, y69, y70, y71, y72, y73, y74, y75, y76, y77, y78, y79, y80, y81, y82, y83, y84, y85, y86, y87, y88, y89, y90, y91, y92, y93, y94, y95, y96, y97, y98, y99, y100, y101, y102, y103, y104, y105, y106, y107, y108, y109, y110, y111, y112, y113, y114, y115, y116, y117, y118, y119, y120, y121, y122, y123, y124, y125, y126, y127, y128, y129, y130, y131, y132, y133, y134, y135, y136, y137, y138, y139, y140, y141, y142, y143, y144, y145, y146, y147, y148, y149, y150, y151, y152, y153, y154, y155, y156, y157, y158, y159, y160, y161, y162, y163, y164, y165, y166, y167, y168, y169, y170, x171, x172, x173, x174, x175, x176, x177, x178, x179, x180, x181, x182, y183, y184, y185, y186, y187, y188, y189, y190, y191, y192, y193, y194, y195, y196, y197, y198, y199, y200, y201, y202, y203, y204, y205, y206, y207, y208, y209, y210, y211, y212, y213, y214, y215, y216, y217, y218, y219, y220, y221, y222, y223, y224, y225, y226, y227, y228, y229, y230, y231, y232, y233, y234, y235, y236, y237, y238, y239, y240, y241, y242, y243, y244, y245, y246, y247, y248, y249, y250, y251, y252, y253, y254, y255, y256, y257, y258, y259, y260, y261, y262, y263, y264, y265, y266, y267, y268, y269, y270, y271, y272, y273, y274, y275, y276, y277, y278, y279, y280, y281, y282, y283, y284, y285, y286, y287, y288, y289, y290, y291, y292, y293, y294, y295, y296, y297, y298, y299, y300, y301, y302, y303, y304, y305, y306, y307, y308, y309, y310, y311, y312, y313, y314, y315, y316, y317, y318, y319, y320, y321, y322, y323, y324, y325, y326, y327, y328, y329, y330, y331, y332, y333, y334, y335, y336, y337, y338, y339, y340, y341, y342, y343], []⟩ ∧ KP29 W1 x ip icp iq icq CP CQ CT L x171 x172 x173 x174 x175 x176 x177 x178 x179 x180 x181 x182 W
set_option maxHeartbeats 8000000 in
theorem kp18 (c0 c1 c2 c4 c5 c6 c9 c10 c11 c12 c13 c14 c15 c16 c18 c20 c23 c24 c25 c26 c27 c28 c29 c30 c31 c32 c33 c34 c35 c36 c37 c38 c39 c40 c41 c42 c43 c44 c45 c46 c47 c48 c49 c50 c51 c52 c53 c54 c55 c56 c57 c58 c59 c60 c61 c62 c63 c64 c65 c66 c67 c68 c69 c70 c71 c72 c73 c74 c75 c76 c77 c78 c79 c80 c81 c82 c83 c84 c85 c86 c87 c88 c89 c90 c91 c92 c93 c94 c95 c96 c97 c98 c99 c100 c101 c102 c103 c104 c105 c106 c107 c108 c109 c110 c111 c112 c113 c114 c115 c116 c117 c118 c119 c120 c121 c122 c123 c124 c125 c126 c127 c128 c129 c130 c131 c132 c133 c134 c135 c136 c137 c138 c139 c140 c141 c142 c143 c144 c145 c146 c147 c148 c149 c150 c151 c152 c153 c154 c155 c156 c157 c158 c159 c160 c161 c162 c163 c164 c165 c166 c167 c168 c169 c170 c171 c172 c173 c174 c175 c176 c177 c178 c179 c180 c181 c182 c183 c184 c185 c186 c187 c188 c189 c190 c191 c192 c193 c194 c195 c196 c197 c198 c199 c200 c201 c202 c203 c204 c205 c206 c207 c208 c209 c210 c211 c212 c213 c214 c215 c216 c217 c218 c219 c220 c221 c222 c223 c224 c225 c226 c227 c228 c229 c230 c231 c232 c233 c234 c235 c236 c237 c238 c239 c240 c241 c242 c243 c244 c245 c246 c247 c248 c249 c250 c251 c252 c253 c254 c255 c256 c257 c258 c259 c260 c261 c262 c263 c264 c265 c266 c267 c268 c269 c270 c271 c272 c273 c274 c275 c276 c277 c278 c279 c280 c281 c282 c283 c284 c285 c286 c287 c288 c289 c290 c291 c292 c293 c294 c295 c296 c297 c298 c299 c300 c301 c302 c303 c304 c305 c306 c307 c308 c309 c310 c311 c312 c313 c314 c315 c316 c317 c318 c319 c320 c321 c322 c323 c324 c325 c326 c327 c328 c329 c330 c331 c332 c333 c334 c335 c336 c337 c338 c339 c340 c341 c342 c343 : Value) (w Wa W1 : World) (N g3 g7 : Nat) (T : Tk) (im : Option Addr) (icm : Nat) (lm : Option Addr) (lcm : Nat) (it : Option Addr) (ict : Nat) (lt : Option Addr) (lct : Nat) (hN : N ≤ Wa.heap.size) (hB : ∀ W, Below N Wa W → Below w.heap.size w W) (hM : ∀ W, Below N Wa W → Row W g7 40 (tkCells T im icm lm lcm) ∧ TkV W T im icm lm lcm ∧ Row W g3 28 (tkCells T it ict lt lct) ∧ TkV W T it ict lt lct) (hT : T.cs.length ≤ 65536)
    (rs : List Te) (D dc : Nat) (hnn : rs.length ≤ 2) (hsep : SepT rs) (harr : Wa.ownsRow N 40 35 (.slice (some ⟨D, 0, none⟩) rs.length dc) rs.length (rs.flatMap Te.cells)) (htodo : ∀ (j : Nat) (r : Te), rs[j]? = some r → TkO 52 N Wa r.x r.io r.ic r.lo r.lc) (hcs : ∀ r ∈ rs, r.x.cs.length ≤ 100000)
    (hb1 : Below Wa.heap.size Wa W1) (x : Tk) (hx : x.cs.length ≤ 32) (E A : Int) (gp gq gt gw Np Nq : Nat) (ip : Option Addr) (icp : Nat) (lp : Option Addr) (lcp : Nat) (iq : Option Addr) (icq : Nat) (lq : Option Addr) (lcq : Nat) (jo : Option Addr) (jc : Nat) (ko : Option Addr) (kc : Nat) (RP : TkR Np W1 gp x ip icp lp lcp) (RQ : TkR Nq W1 gq x iq icq lq lcq) (hNp : Wa.heap.size ≤ Np) (hpq : Np ≤ Nq) (hpi : ∀ B off, ip = some ⟨B, off, none⟩ → B < Nq) (hpl : ∀ B off, lp = some ⟨B, off, none⟩ → B < Nq) (RT : Row W1 gt 28 (tkCells x jo jc ko kc)) (VT : TkV W1 x jo jc ko kc) (RW : Row W1 gw 73 [.int .i64 E, .int .i64 A]) :
    Code.wp Tryz.prog (dropS 18 (Tryz.f5.body.getD .skip)) (bodyPost Tryz.prog Tryz.f5 (OkP w)) ⟨#[c0, c1, c2, .pointer (some ⟨g3, 0, none⟩), c4, c5, c6, .pointer (some ⟨g7, 0, none⟩), .slice (some ⟨D, 0, none⟩) rs.length dc, c9, c10, c11, c12, c13, c14, c15, c16, .pointer (some ⟨gp, 0, none⟩), c18, .pointer (some ⟨gq, 0, none⟩), c20, .pointer (some ⟨gt, 0, none⟩), .pointer (some ⟨gw, 0, none⟩), c23, c24, c25, c26, c27, c28, c29, c30, c31, c32, c33, c34, c35, c36, c37, c38, c39, c40, c41, c42, c43, c44, c45, c46, c47, c48, c49, c50, c51, c52, c53, c54, c55, c56, c57, c58, c59, c60, c61, c62, c63, c64, c65, c66, c67, c68, c69, c70, c71, c72, c73, c74, c75, c76, c77, c78, c79, c80, c81, c82, c83, c84, c85, c86, c87, c88, c89, c90, c91, c92, c93, c94, c95, c96, c97, c98, c99, c100, c101, c102, c103, c104, c105, c106, c107, c108, c109, c110, c111, c112, c113, c114, c115, c116, c117, c118, c119, c120, c121, c122, c123, c124, c125, c126, c127, c128, c129, c130, c131, c132, c133, c134, c135, c136, c137, c138, c139, c140, c141, c142, c143, c144, c145, c146, c147, c148, c149, c150, c151, c152, c153, c154, c155, c156, c157, c158, c159, c160, c161, c162, c163, c164, c165, c166, c167, c168, c169, c170, c171, c172, c173, c174, c175, c176, c177, c178, c179, c180, c181, c182, c183, c184, c185, c186, c187, c188, c189, c190, c191, c192, c193, c194, c195, c196, c197, c198, c199, c200, c201, c202, c203, c204, c205, c206, c207, c208, c209, c210, c211, c212, c213, c214, c215, c216, c217, c218, c219, c220, c221, c222, c223, c224, c225, c226, c227, c228, c229, c230, c231, c232, c233, c234, c235, c236, c237, c238, c239, c240, c241, c242, c243, c244, c245, c246, c247, c248, c249, c250, c251, c252, c253, c254, c255, c256, c257, c258, c259, c260, c261, c262, c263, c264, c265, c266, c267, c268, c269, c270, c271, c272, c273, c274, c275, c276, c277, c278, c279, c280, c281, c282, c283, c284, c285, c286, c287, c288, c289, c290, c291, c292, c293, c294, c295, c296, c297, c298, c299, c300, c301, c302, c303, c304, c305, c306, c307, c308, c309, c310, c311, c312, c313, c314, c315, c316, c317, c318, c319, c320, c321, c322, c323, c324, c325, c326, c327, c328, c329, c330, c331, c332, c333, c334, c335, c336, c337, c338, c339, c340, c341, c342, c343], []⟩ W1 := by
  have mono : ∀ W, Below W1.heap.size W1 W → Below N Wa W := fun W h => (hb1.mono hN).trans (h.mono (by have := hb1.size; omega))
  have NXT : Hid (∀ c0 c1 c2 c4 c5 c6 c9 c10 c11 c12 c13 c14 c15 c16 c17 c18 c19 c20 c21 c22 c23 c24 c25 c26 c27 c28 c29 c30 c31 c32 c33 c34 c35 c36 c37 c38 c39 c40 c41 c42 c43 c44 c45 c46 c47 c48 c49 c50 c51 c52 c53 c54 c55 c56 c57 c58 c59 c60 c61 c62 c63 c64 c65 c66 c67 c68 c69 c70 c71 c72 c73 c74 c75 c76 c77 c78 c79 c80 c81 c82 c83 c84 c85 c86 c87 c88 c89 c90 c91 c92 c93 c94 c95 c96 c97 c98 c99 c100 c101 c102 c103 c104 c105 c106 c107 c108 c109 c110 c111 c112 c113 c114 c115 c116 c117 c118 c119 c120 c121 c122 c123 c124 c125 c126 c127 c128 c129 c130 c131 c132 c133 c134 c135 c136 c137 c138 c139 c140 c141 c142 c143 c144 c145 c146 c147 c148 c149 c150 c151 c152 c153 c154 c155 c156 c157 c158 c159 c160 c161 c162 c163 c164 c165 c166 c167 c168 c169 c170 c171 c172 c173 c174 c175 c176 c177 c178 c179 c180 c181 c182 c183 c184 c185 c186 c187 c188 c189 c190 c191 c192 c193 c194 c195 c196 c197 c198 c199 c200 c201 c202 c203 c204 c205 c206 c207 c208 c209 c210 c211 c212 c213 c214 c215 c216 c217 c218 c219 c220 c221 c222 c223 c224 c225 c226 c227 c228 c229 c230 c231 c232 c233 c234 c235 c236 c237 c238 c239 c240 c241 c242 c243 c244 c245 c246 c247 c248 c249 c250 c251 c252 c253 c254 c255 c256 c257 c258 c259 c260 c261 c262 c263 c264 c265 c266 c267 c268 c269 c270 c271 c272 c273 c274 c275 c276 c277 c278 c279 c280 c281 c282 c283 c284 c285 c286 c287 c288 c289 c290 c291 c292 c293 c294 c295 c296 c297 c298 c299 c300 c301 c302 c303 c304 c305 c306 c307 c308 c309 c310 c311 c312 c313 c314 c315 c316 c317 c318 c319 c320 c321 c322 c323 c324 c325 c326 c327 c328 c329 c330 c331 c332 c333 c334 c335 c336 c337 c338 c339 c340 c341 c342 c343 W (ss : List Te) (k0 D2 dc2 : Nat), ss.length = k0 → Below N Wa W → N ≤ W.heap.size → ss.length ≤ 4 → SepT ss → W.ownsRow N 40 35 (.slice (some ⟨D2, 0, none⟩) ss.length dc2) ss.length (ss.flatMap Te.cells) → (∀ (j : Nat) (r : Te), ss[j]? = some r → TkO 52 N W r.x r.io r.ic r.lo r.lc) → (∀ r ∈ ss, r.x.cs.length ≤ 100000) → Code.wp Tryz.prog (dropS 20 (Tryz.f5.body.getD .skip)) (bodyPost Tryz.prog Tryz.f5 (OkP w)) ⟨#[c0, c1, c2, .pointer (some ⟨g3, 0, none⟩), c4, c5, c6, .pointer (some ⟨g7, 0, none⟩), .slice (some ⟨D2, 0, none⟩) k0 dc2, c9, c10, c11, c12, c13, c14, c15, c16, c17, c18, c19, c20, c21, c22, c23, c24, c25, c26, c27, c28, c29, c30, c31, c32, c33, c34, c35, c36, c37, c38, c39, c40, c41, c42, c43, c44, c45, c46, c47, c48, c49, c50, c51, c52, c53, c54, c55, c56, c57, c58, c59, c60, c61, c62, c63, c64, c65, c66, c67, c68, c69, c70, c71, c72, c73, c74, c75, c76, c77, c78, c79, c80, c81, c82, c83, c84, c85, c86, c87, c88, c89, c90, c91, c92, c93, c94, c95, c96, c97, c98, c99, c100, c101, c102, c103, c104, c105, c106, c107, c108, c109, c110, c111, c112, c113, c114, c115, c116, c117, c118, c119, c120, c121, c122, c123, c124, c125, c126, c127, c128, c129, c130, c131, c132, c133, c134, c135, c136, c137, c138, c139, c140, c141, c142, c143, c144, c145, c146, c147, c148, c149, c150, c151, c152, c153, c154, c155, c156, c157, c158, c159, c160, c161, c162, c163, c164, c165, c166, c167, c168, c169, c170, c171, c172, c173, c174, c175, c176, c177, c178, c179, c180, c181, c182, c183, c184, c185, c186, c187, c188, c189, c190, c191, c192, c193, c194, c195, c196, c197, c198, c199, c200, c201, c202, c203, c204, c205, c206, c207, c208, c209, c210, c211, c212, c213, c214, c215, c216, c217, c218, c219, c220, c221, c222, c223, c224, c225, c226, c227, c228, c229, c230, c231, c232, c233, c234, c235, c236, c237, c238, c239, c240, c241, c242, c243, c244, c245, c246, c247, c248, c249, c250, c251, c252, c253, c254, c255, c256, c257, c258, c259, c260, c261, c262, c263, c264, c265, c266, c267, c268, c269, c270, c271, c272, c273, c274, c275, c276, c277, c278, c279, c280, c281, c282, c283, c284, c285, c286, c287, c288, c289, c290, c291, c292, c293, c294, c295, c296, c297, c298, c299, c300, c301, c302, c303, c304, c305, c306, c307, c308, c309, c310, c311, c312, c313, c314, c315, c316, c317, c318, c319, c320, c321, c322, c323, c324, c325, c326, c327, c328, c329, c330, c331, c332, c333, c334, c335, c336, c337, c338, c339, c340, c341, c342, c343], []⟩ W) := fun c0 c1 c2 c4 c5 c6 c9 c10 c11 c12 c13 c14 c15 c16 c17 c18 c19 c20 c21 c22 c23 c24 c25 c26 c27 c28 c29 c30 c31 c32 c33 c34 c35 c36 c37 c38 c39 c40 c41 c42 c43 c44 c45 c46 c47 c48 c49 c50 c51 c52 c53 c54 c55 c56 c57 c58 c59 c60 c61 c62 c63 c64 c65 c66 c67 c68 c69 c70 c71 c72 c73 c74 c75 c76 c77 c78 c79 c80 c81 c82 c83 c84 c85 c86 c87 c88 c89 c90 c91 c92 c93 c94 c95 c96 c97 c98 c99 c100 c101 c102 c103 c104 c105 c106 c107 c108 c109 c110 c111 c112 c113 c114 c115 c116 c117 c118 c119 c120 c121 c122 c123 c124 c125 c126 c127 c128 c129 c130 c131 c132 c133 c134 c135 c136 c137 c138 c139 c140 c141 c142 c143 c144 c145 c146 c147 c148 c149 c150 c151 c152 c153 c154 c155 c156 c157 c158 c159 c160 c161 c162 c163 c164 c165 c166 c167 c168 c169 c170 c171 c172 c173 c174 c175 c176 c177 c178 c179 c180 c181 c182 c183 c184 c185 c186 c187 c188 c189 c190 c191 c192 c193 c194 c195 c196 c197 c198 c199 c200 c201 c202 c203 c204 c205 c206 c207 c208 c209 c210 c211 c212 c213 c214 c215 c216 c217 c218 c219 c220 c221 c222 c223 c224 c225 c226 c227 c228 c229 c230 c231 c232 c233 c234 c235 c236 c237 c238 c239 c240 c241 c242 c243 c244 c245 c246 c247 c248 c249 c250 c251 c252 c253 c254 c255 c256 c257 c258 c259 c260 c261 c262 c263 c264 c265 c266 c267 c268 c269 c270 c271 c272 c273 c274 c275 c276 c277 c278 c279 c280 c281 c282 c283 c284 c285 c286 c287 c288 c289 c290 c291 c292 c293 c294 c295 c296 c297 c298 c299 c300 c301 c302 c303 c304 c305 c306 c307 c308 c309 c310 c311 c312 c313 c314 c315 c316 c317 c318 c319 c320 c321 c322 c323 c324 c325 c326 c327 c328 c329 c330 c331 c332 c333 c334 c335 c336 c337 c338 c339 c340 c341 c342 c343 W ss k0 D2 dc2 k9 k1 k2 k3 k4 k5 k6 k7 => by subst k9; exact kp20 c0 c1 c2 c4 c5 c6 c9 c10 c11 c12 c13 c14 c15 c16 c17 c18 c19 c20 c21 c22 c23 c24 c25 c26 c27 c28 c29 c30 c31 c32 c33 c34 c35 c36 c37 c38 c39 c40 c41 c42 c43 c44 c45 c46 c47 c48 c49 c50 c51 c52 c53 c54 c55 c56 c57 c58 c59 c60 c61 c62 c63 c64 c65 c66 c67 c68 c69 c70 c71 c72 c73 c74 c75 c76 c77 c78 c79 c80 c81 c82 c83 c84 c85 c86 c87 c88 c89 c90 c91 c92 c93 c94 c95 c96 c97 c98 c99 c100 c101 c102 c103 c104 c105 c106 c107 c108 c109 c110 c111 c112 c113 c114 c115 c116 c117 c118 c119 c120 c121 c122 c123 c124 c125 c126 c127 c128 c129 c130 c131 c132 c133 c134 c135 c136 c137 c138 c139 c140 c141 c142 c143 c144 c145 c146 c147 c148 c149 c150 c151 c152 c153 c154 c155 c156 c157 c158 c159 c160 c161 c162 c163 c164 c165 c166 c167 c168 c169 c170 c171 c172 c173 c174 c175 c176 c177 c178 c179 c180 c181 c182 c183 c184 c185 c186 c187 c188 c189 c190 c191 c192 c193 c194 c195 c196 c197 c198 c199 c200 c201 c202 c203 c204 c205 c206 c207 c208 c209 c210 c211 c212 c213 c214 c215 c216 c217 c218 c219 c220 c221 c222 c223 c224 c225 c226 c227 c228 c229 c230 c231 c232 c233 c234 c235 c236 c237 c238 c239 c240 c241 c242 c243 c244 c245 c246 c247 c248 c249 c250 c251 c252 c253 c254 c255 c256 c257 c258 c259 c260 c261 c262 c263 c264 c265 c266 c267 c268 c269 c270 c271 c272 c273 c274 c275 c276 c277 c278 c279 c280 c281 c282 c283 c284 c285 c286 c287 c288 c289 c290 c291 c292 c293 c294 c295 c296 c297 c298 c299 c300 c301 c302 c303 c304 c305 c306 c307 c308 c309 c310 c311 c312 c313 c314 c315 c316 c317 c318 c319 c320 c321 c322 c323 c324 c325 c326 c327 c328 c329 c330 c331 c332 c333 c334 c335 c336 c337 c338 c339 c340 c341 c342 c343 w W N g3 g7 T im icm lm lcm it ict lt lct k2 (fun W2 h => hB W2 (k1.trans h)) (fun W2 h => hM W2 (k1.trans h)) hT ss D2 dc2 k3 k4 (owB_low k5 (Nat.zero_le _)) k6 k7
  have T32 : Hid (x.tag.length = 32) := VT.tag
  obtain ⟨CP, hCP⟩ : ∃ CP, CP = tkCells x ip icp lp lcp := ⟨_, rfl⟩
  obtain ⟨CQ, hCQ⟩ : ∃ CQ, CQ = tkCells x iq icq lq lcq := ⟨_, rfl⟩
  obtain ⟨CT, hCT⟩ : ∃ CT, CT = tkCells x jo jc ko kc := ⟨_, rfl⟩
  have LP : Hid (CP.length = 35) := by rw [hCP]; exact tkC_len T32.out
  have LQ : Hid (CQ.length = 35) := by rw [hCQ]; exact tkC_len T32.out
  have LT : Hid (CT.length = 35) := by rw [hCT]; exact tkC_len T32.out
  have PP : Hid ((CP.drop 0).take 35 = CP) := by show _ = _; rw [List.drop_zero, List.take_of_length_le (by rw [LP.out]; exact Nat.le_refl _)]
  have PQ : Hid ((CQ.drop 0).take 35 = CQ) := by show _ = _; rw [List.drop_zero, List.take_of_length_le (by rw [LQ.out]; exact Nat.le_refl _)]
  have PT : Hid ((CT.drop 0).take 35 = CT) := by show _ = _; rw [List.drop_zero, List.take_of_length_le (by rw [LT.out]; exact Nat.le_refl _)]
  have RRP : Hid (∀ W, Below W1.heap.size W1 W → Row W gp 40 CP) := fun W h => by rw [hCP]; exact (RP.keep h).row
  have RRQ : Hid (∀ W, Below W1.heap.size W1 W → Row W gq 40 CQ) := fun W h => by rw [hCQ]; exact (RQ.keep h).row
  have RRT : Hid (∀ W, Below W1.heap.size W1 W → Row W gt 28 CT) := fun W h => by rw [hCT]; exact RT.below h RT.lt
  have RRW : Hid (∀ W, Below W1.heap.size W1 W → Row W gw 73 [.int .i64 E, .int .i64 A]) := fun W h => RW.below h RW.lt
  have BKP : Hid (∀ W, Below W1.heap.size W1 W → Calls Tryz.prog 13 #[.agg CP.toArray] W (BackP x ip icp W)) := fun W h => by rw [hCP]; exact l24back_any x ip icp lp lcp W (RP.keep h).own.v (by omega)
  have BKQ : Hid (∀ W, Below W1.heap.size W1 W → Calls Tryz.prog 13 #[.agg CQ.toArray] W (BackP x iq icq W)) := fun W h => by rw [hCQ]; exact l24back_any x iq icq lq lcq W (RQ.keep h).own.v (by omega)
  have SMP : Hid (∀ W lo9 lc9, Below W1.heap.size W1 W → TkV W x ip icp lo9 lc9 → Calls Tryz.prog 12 #[.agg (tkCells x ip icp lo9 lc9).toArray, .agg CT.toArray] W fun e w' => e = .returned (.bool true) ∧ Below W.heap.size W w') := fun W lo9 lc9 h hv => by rw [hCT]; exact r24Same_any x x ip icp lo9 lc9 jo jc ko kc W hv (VT.keep h) (by omega) true (by simp)
  have SMQ : Hid (∀ W lo9 lc9, Below W1.heap.size W1 W → TkV W x iq icq lo9 lc9 → Calls Tryz.prog 12 #[.agg (tkCells x iq icq lo9 lc9).toArray, .agg CT.toArray] W fun e w' => e = .returned (.bool true) ∧ Below W.heap.size W w') := fun W lo9 lc9 h hv => by rw [hCT]; exact r24Same_any x x iq icq lo9 lc9 jo jc ko kc W hv (VT.keep h) (by omega) true (by simp)
  have MN : Hid (∀ W, Below W1.heap.size W1 W → Below N Wa W ∧ N ≤ W.heap.size ∧ Below Wa.heap.size Wa W) := fun W h => ⟨mono W h, by have := h.size; have := hb1.size; omega, hb1.trans (h.mono hb1.size)⟩
  have OLD : Hid (∀ W, Below W1.heap.size W1 W → W.ownsRow N 40 35 (.slice (some ⟨D, 0, none⟩) rs.length dc) rs.length (rs.flatMap Te.cells) ∧ ∀ (j : Nat) (r : Te), rs[j]? = some r → TkO 52 N W r.x r.io r.ic r.lo r.lc) := fun W h => ⟨owB_keep harr (hb1.trans (h.mono hb1.size)), fun j r hr => (htodo j r hr).keep (hb1.trans (h.mono hb1.size))⟩
  have MORE : Hid (∀ W, Below W1.heap.size W1 W → SepT (rs ++ [⟨x, ip, icp, lp, lcp⟩, ⟨x, iq, icq, lq, lcq⟩]) ∧ ∀ (j : Nat) (r : Te), (rs ++ [⟨x, ip, icp, lp, lcp⟩, ⟨x, iq, icq, lq, lcq⟩])[j]? = some r → TkO 52 N W r.x r.io r.ic r.lo r.lc) := fun W h => told_more (D := D) (dc := dc) (hb1.trans (h.mono hb1.size)) htodo hsep ⟨x, ip, icp, lp, lcp⟩ ⟨x, iq, icq, lq, lcq⟩ (RP.keep h).own (RQ.keep h).own hNp hpi hpl hN hpq
  have HSP : Hid (SepT rs ∧ rs.length ≤ 2 ∧ (∀ r ∈ rs, r.x.cs.length ≤ 100000) ∧ x.cs.length ≤ 32 ∧ CP = tkCells x ip icp lp lcp ∧ CQ = tkCells x iq icq lq lcq) := ⟨hsep, hnn, hcs, hx, hCP, hCQ⟩
  have OP : Hid (∀ v ∈ CP ++ CQ, v.oneCell' = true) := fun v hv => by
    rcases List.mem_append.1 hv with h | h
    · rw [hCP] at h; exact tkCells_one _ _ _ _ _ v h
    · rw [hCQ] at h; exact tkCells_one _ _ _ _ _ v h
  clear hCP hCQ hCT RP RQ RT VT RW mono htodo harr hsep hnn hcs hx hb1 hN hB hM hT hNp hpq hpi hpl
  obtain ⟨nn, hn⟩ : ∃ nn, rs.length = nn := ⟨_, rfl⟩
  have HNN : Hid (rs.length = nn) := hn
  rw [hn]
  clear hn
  conv => arg 2; whnf
  refine wp_seq_k fun K hK => ?_
  have HK : Hid _ := hK
  clear hK
  go_upto_region 29 with fail
  refine wp_region_inv (IKP29 W1 x ip icp iq icq CP CQ CT _ _ _ _ _ _ _ _ _ _ _ _ _ _ _ _ _ _ _ _ _ _ _ _ _ _ _ _ _ _ _ _ _ _ _ _ _ _ _ _ _ _ _ _ _ _ _ _ _ _ _ _ _ _ _ _ _ _ _ _ _ _ _ _ _ _ _ _ _ _ _ _ _ _ _ _ _ _ _ _ _ _ _ _ _ _ _ _ _ _ _ _ _ _ _ _ _ _ _ _ _ _ _ _ _ _ _ _ _ _ _ _ _ _ _ _ _ _ _ _ _ _ _ _ _ _ _ _ _ _ _ _ _ _ _ _ _ _ _ _ _ _ _ _ _ _ _ _ _ _ _ _ _ _ _ _ _ _ _ _ _ _ _ _ _ _ _ _ _ _ _ _ _ _ _ _ _ _ _ _ _ _ _ _ _ _ _ _ _ _ _ _ _ _ _ _ _ _ _ _ _ _ _ _ _ _ _ _ _ _ _ _ _ _ _ _ _ _ _ _ _ _ _ _ _ _ _ _ _ _ _ _ _ _ _ _ _ _ _ _ _ _ _ _ _ _ _ _ _ _ _ _ _ _ _ _ _ _ _ _ _ _ _ _ _ _ _ _ _ _ _ _ _ _ _ _ _ _ _ _ _ _ _ _ _ _ _ _ _ _ _ _ _ _ _ _ _ _ _ _ _ _ _ _ _ _ _ _ _ _ _ _ _ _ _ _ _ _ _ _ _ _ _ _ _ _ _ _ _ _ _ _) (by kernel_rfl) (by kernel_rfl) ⟨_, _, _, _, _, _, _, _, _, _, _, _, rfl, ⟨⟨BS.zero _ _ _ _ _, BS.zero _ _ _ _ _⟩, fun k => (by cases k), fun k => (by cases k), fun k => (by cases k), fun k => (by cases k), fun k => (by cases k), fun k => (by cases k), fun k => (by cases k), fun k => (by cases k), fun k => (by cases k), fun k => (by cases k)⟩⟩ ?_ ?_
  · refine .cons ?_ (.cons ?_ (.cons ?_ (.cons ?_ (.cons ?_ (.cons ?_ (.cons ?_ (.cons ?_ (.cons ?_ (.cons ?_ (.cons ?_ (.cons ?_ .nil)))))))))))
    all_goals (rintro L _ W ⟨x171, x172, x173, x174, x175, x176, x177, x178, x179, x180, x181, x182, rfl, hI⟩ hL hd K hK)
    · refine step_load_part (by rfl) 40 _ rfl gp 0 40 35 CP (RRP.out W hI.x.a.bel) rfl _ CP PP.out LP.out Tryz.underlying40 rfl (by kernel_rfl) ?_
      exact hK.out _ _ ⟨_, _, _, _, _, _, _, _, _, _, _, _, rfl, { hI with p0 := fun _ => rfl }⟩
    · obtain rfl := hI.p0 (hd 0 (by decide))
      rw [if_pos (by rfl)]
      go_simp
      refine (BKP.out W hI.x.a.bel).mono ?_
      rintro e W2 ⟨lo9, lc9, rfl, hv9, hb9⟩
      go_simp
      have hX := BS2.mk (hI.x.a.s hb9 hv9 (q' := true)) (hI.x.b.keep hb9)
      exact hK.out _ _ ⟨_, _, _, _, _, _, _, _, _, _, _, _, rfl, { hI with x := hX }⟩
    · refine step_load_part (by rfl) 28 _ rfl gt 0 28 35 CT (RRT.out W hI.x.a.bel) rfl _ CT PT.out LT.out Tryz.underlying28 rfl (by kernel_rfl) ?_
      exact hK.out _ _ ⟨_, _, _, _, _, _, _, _, _, _, _, _, rfl, { hI with p2 := fun _ => rfl }⟩
    · obtain rfl := hI.p2 (hd 2 (by decide))
      rw [if_pos (by rfl)]
      go_simp
      obtain ⟨lo9, lc9, e9, hv9⟩ := hI.x.a.p (hd 1 (by decide))
      subst e9
      refine (SMP.out W lo9 lc9 hI.x.a.bel hv9).mono ?_
      rintro e W2 ⟨rfl, hb9⟩
      go_simp
      have hX := BS2.mk (hI.x.a.keep hb9) (hI.x.b.keep hb9)
      exact hK.out _ _ ⟨_, _, _, _, _, _, _, _, _, _, _, _, rfl, { hI with x := hX, p3 := fun _ => rfl }⟩
    · obtain rfl := hI.p3 (hd 3 (by decide))
      rw [if_pos (by rfl)]
      go_simp
      exact hK.out _ _ ⟨_, _, _, _, _, _, _, _, _, _, _, _, rfl, { hI with p4 := fun _ => rfl }⟩
    · obtain rfl := hI.p4 (hd 4 (by decide))
      rw [if_pos (by rfl)]
      go_simp
      exact hK.out _ _ ⟨_, _, _, _, _, _, _, _, _, _, _, _, rfl, { hI with p5 := fun _ => rfl }⟩
    · obtain rfl := hI.p5 (hd 5 (by decide))
      refine step_load_part (by rfl) 40 _ rfl gq 0 40 35 CQ (RRQ.out W hI.x.a.bel) rfl _ CQ PQ.out LQ.out Tryz.underlying40 rfl (by kernel_rfl) ?_
      exact hK.out _ _ ⟨_, _, _, _, _, _, _, _, _, _, _, _, rfl, { hI with p6 := fun _ => rfl }⟩
    · obtain rfl := hI.p6 (hd 6 (by decide))
      obtain rfl := hI.p5 (hd 5 (by decide))
      rw [if_pos (by rfl)]
      go_simp
      refine (BKQ.out W hI.x.a.bel).mono ?_
      rintro e W2 ⟨lo9, lc9, rfl, hv9, hb9⟩
      go_simp
      have hX := BS2.mk (hI.x.a.keep hb9) (hI.x.b.s hb9 hv9 (q' := true))
      exact hK.out _ _ ⟨_, _, _, _, _, _, _, _, _, _, _, _, rfl, { hI with x := hX }⟩
    · obtain rfl := hI.p5 (hd 5 (by decide))
      refine step_load_part (by rfl) 28 _ rfl gt 0 28 35 CT (RRT.out W hI.x.a.bel) rfl _ CT PT.out LT.out Tryz.underlying28 rfl (by kernel_rfl) ?_
      exact hK.out _ _ ⟨_, _, _, _, _, _, _, _, _, _, _, _, rfl, { hI with p8 := fun _ => rfl }⟩
    · obtain rfl := hI.p8 (hd 8 (by decide))
      obtain rfl := hI.p5 (hd 5 (by decide))
      rw [if_pos (by rfl)]
      go_simp
      obtain ⟨lo9, lc9, e9, hv9⟩ := hI.x.b.p (hd 7 (by decide))
      subst e9
      refine (SMQ.out W lo9 lc9 hI.x.a.bel hv9).mono ?_
      rintro e W2 ⟨rfl, hb9⟩
      go_simp
      have hX := BS2.mk (hI.x.a.keep hb9) (hI.x.b.keep hb9)
      exact hK.out _ _ ⟨_, _, _, _, _, _, _, _, _, _, _, _, rfl, { hI with x := hX, p9 := fun _ => rfl }⟩
    · obtain rfl := hI.p9 (hd 9 (by decide))
      obtain rfl := hI.p5 (hd 5 (by decide))
      rw [if_pos (by rfl)]
      go_simp
      exact hK.out _ _ ⟨_, _, _, _, _, _, _, _, _, _, _, _, rfl, { hI with p10 := fun _ => rfl }⟩
    · obtain rfl := hI.p5 (hd 5 (by decide))
      obtain rfl := hI.p10 (hd 10 (by decide))
      rw [if_pos (by rfl)]
      go_simp
      exact hK.out _ _ ⟨_, _, _, _, _, _, _, _, _, _, _, _, rfl, { hI with p11 := fun _ => rfl }⟩
  · rintro L _ W hall ⟨x171, x172, x173, x174, x175, x176, x177, x178, x179, x180, x181, x182, rfl, hI⟩
    obtain rfl := hI.p0 (hall 0 (by decide))
    obtain rfl := hI.p2 (hall 2 (by decide))
    obtain rfl := hI.p3 (hall 3 (by decide))
    obtain rfl := hI.p4 (hall 4 (by decide))
    obtain rfl := hI.p5 (hall 5 (by decide))
    obtain rfl := hI.p6 (hall 6 (by decide))
    obtain rfl := hI.p8 (hall 8 (by decide))
    obtain rfl := hI.p9 (hall 9 (by decide))
    obtain rfl := hI.p10 (hall 10 (by decide))
    obtain rfl := hI.p11 (hall 11 (by decide))
    have hXe := hI.x
    rw [hall 1 (by decide)] at hXe
    rw [hall 7 (by decide)] at hXe
    clear hI hall
    try dsimp only
    have HB2 : Hid (Below W1.heap.size W1 W) := hXe.a.bel
    clear hXe BKP BKQ SMP SMQ
    go_wp2
    refine HK.out _ _ ?_
    clear HK
    refine wp_seq_k fun K hK => ?_
    have HK : Hid _ := hK
    clear hK
    have cw := (RRW.out W HB2.out).cell 0 _ rfl
    by_cases h9 : E = 0
    · subst h9
      have R1 : Hid (Row W gp 40 CP) := RRP.out W HB2.out
      have R2 : Hid (Row W gq 40 CQ) := RRQ.out W HB2.out
      have OE := (OLD.out W HB2.out).1
      rw [HNN.out] at OE
      have HOE : Hid _ := OE
      have LIT : Hid (∀ j u, (CP ++ CQ)[j]? = some u → (W.alloc (.cells (CP ++ CQ).toArray 40)).cell? ⟨W.heap.size, 0 + j, none⟩ = some u) := fun j u hu => by rw [Nat.zero_add]; exact (Row.at W 40 (CP ++ CQ) _ _ rfl rfl).cell j u hu
      have SZ : Hid (N ≤ (W.alloc (.cells (CP ++ CQ).toArray 40)).heap.size) := by show N ≤ _; have := (MN.out W HB2.out).2.1; simp; omega
      clear OE
      go_wp2_with (first
        | (have hz := R1; clear hz; refine wpList_load_Row rfl 40 (.tmp 17) rfl gp 40 CP R1.out rfl _ Tryz.underlying40 rfl (by rw [LP.out]; kernel_rfl) ?_; clear R1)
        | (have hz := R2; clear hz; refine wpList_load_Row rfl 40 (.tmp 19) rfl gq 40 CQ R2.out rfl _ Tryz.underlying40 rfl (by rw [LQ.out]; kernel_rfl) ?_; clear R2)
        | (have hz := LIT; clear hz; refine wpList_build_tok2 rfl (.tmp 187) (.tmp 188) rfl CP CQ LP.out LQ.out rfl rfl ?_)
        | (at_builtin; have hz := LIT; clear hz; refine wpList_append_just24 el_toks24 rfl (.tmp 186) (.tmp 189) rfl N (W.alloc (.cells (CP ++ CQ).toArray 40)) (some ⟨D, 0, none⟩) nn dc (rs.flatMap Te.cells) rfl (owB_keep HOE.out ((Below.refl _ _).alloc (Nat.le_refl _) _)) SZ.out (Below.refl _ _) W.heap.size 0 2 2 (CP ++ CQ) rfl (by rw [List.length_append, LP.out, LQ.out]) LIT.out (by omega) OP.out (by have := HSP.out.2.1; have := HNN.out; unfold maxLen; omega) (by have := HSP.out.2.1; have := HNN.out; omega) ?_; intro eo6 ec6 w6 h1 h2 h3 h4 h5; have HP : Hid (w6.ownsRow N 40 35 (.slice eo6 (nn + 2) ec6) (nn + 2) (rs.flatMap Te.cells ++ (CP ++ CQ)) ∧ Below N (W.alloc (.cells (CP ++ CQ).toArray 40)) w6 ∧ (W.alloc (.cells (CP ++ CQ).toArray 40)).heap.size ≤ w6.heap.size ∧ (∀ k, k < (W.alloc (.cells (CP ++ CQ).toArray 40)).heap.size → (∀ g, (some ⟨D, 0, none⟩ : Option Addr) = some ⟨g, 0, none⟩ → k ≠ g) → w6.heap[k]? = (W.alloc (.cells (CP ++ CQ).toArray 40)).heap[k]?)) := ⟨h1, h2, h3, h4⟩; clear LIT SZ h1 h2 h3 h4 h5))
      obtain ⟨E6, he6, _⟩ := own_some HP.out.1 (by omega)
      subst he6
      refine HK.out _ _ ?_
      have hp := HP.out
      have hz : (W.alloc (.cells (CP ++ CQ).toArray 40)).heap.size = W.heap.size + 1 := by simp
      have tt := own_tyb HOE.out D 0 rfl
      have key : ∀ (B t' : Nat) (cur : Array Value) (fz : Nat × Nat), W.heap[B]? = some (.cells cur t' fz) → t' ≠ 40 → w6.heap[B]? = W.heap[B]? := fun B t' cur fz hB hne => by
        have hlt : B < W.heap.size := (Array.getElem?_eq_some_iff.1 hB).1
        refine (hp.2.2.2 B (by omega) (fun g e => ?_)).trans (Below.heap_alloc W _ B hlt)
        injection e with e; injection e with e _
        obtain ⟨cD, fD, tD⟩ := tt
        rw [← e]
        exact ty_ne hB tD hne
      have hm := MORE.out W HB2.out
      have hln : (rs ++ [(⟨x, ip, icp, lp, lcp⟩ : Te), ⟨x, iq, icq, lq, lcq⟩]).length = nn + 2 := by rw [List.length_append, HNN.out]; rfl
      have hfm : (rs ++ [(⟨x, ip, icp, lp, lcp⟩ : Te), ⟨x, iq, icq, lq, lcq⟩]).flatMap Te.cells = rs.flatMap Te.cells ++ (CP ++ CQ) := by
        rw [List.flatMap_append, HSP.out.2.2.2.2.1, HSP.out.2.2.2.2.2]
        simp [Te.cells]
      exact NXT.out _ _ _ _ _ _ _ _ _ _ _ _ _ _ _ _ _ _ _ _ _ _ _ _ _ _ _ _ _ _ _ _ _ _ _ _ _ _ _ _ _ _ _ _ _ _ _ _ _ _ _ _ _ _ _ _ _ _ _ _ _ _ _ _ _ _ _ _ _ _ _ _ _ _ _ _ _ _ _ _ _ _ _ _ _ _ _ _ _ _ _ _ _ _ _ _ _ _ _ _ _ _ _ _ _ _ _ _ _ _ _ _ _ _ _ _ _ _ _ _ _ _ _ _ _ _ _ _ _ _ _ _ _ _ _ _ _ _ _ _ _ _ _ _ _ _ _ _ _ _ _ _ _ _ _ _ _ _ _ _ _ _ _ _ _ _ _ _ _ _ _ _ _ _ _ _ _ _ _ _ _ _ _ _ _ _ _ _ _ _ _ _ _ _ _ _ _ _ _ _ _ _ _ _ _ _ _ _ _ _ _ _ _ _ _ _ _ _ _ _ _ _ _ _ _ _ _ _ _ _ _ _ _ _ _ _ _ _ _ _ _ _ _ _ _ _ _ _ _ _ _ _ _ _ _ _ _ _ _ _ _ _ _ _ _ _ _ _ _ _ _ _ _ _ _ _ _ _ _ _ _ _ _ _ _ _ _ _ _ _ _ _ _ _ _ _ _ _ _ _ _ _ _ _ _ _ _ _ _ _ _ _ _ _ _ _ _ _ _ _ _ _ _ _ _ _ _ _ _ _ _ _ _ _ _ _ _ _ _ _ _ w6 (rs ++ [⟨x, ip, icp, lp, lcp⟩, ⟨x, iq, icq, lq, lcq⟩]) (nn + 2) E6 ec6 hln (((MN.out W HB2.out).1.trans ((Below.refl N W).alloc (MN.out W HB2.out).2.1 _)).trans hp.2.1) (by have := (MN.out W HB2.out).2.1; omega) (by rw [hln]; have := HSP.out.2.1; have := HNN.out; omega) hm.1 (by rw [hln, hfm]; exact hp.1) (fun j r hr => (hm.2 j r hr).blk24 (by have := (MN.out W HB2.out).2.1; omega) (fun B off e => (let ⟨c1, f1, t1⟩ := own_tyb (hm.2 j r hr).id.1 B off e; key B 5 c1 f1 t1 (by decide))) (fun B off e => (let ⟨c1, f1, t1⟩ := own_tyb (hm.2 j r hr).cs B off e; key B _ c1 f1 t1 (by decide)))) (fun r hr => by
        rcases List.mem_append.1 hr with h | h
        · exact HSP.out.2.2.1 r h
        · simp at h
          rcases h with rfl | rfl <;> (show x.cs.length ≤ _; have := HSP.out.2.2.2.1; omega))
    · have e9 : (E == 0) = false := by rw [beq_eq_false_iff_ne]; exact h9
      have e8 : decide (E = 0) = false := decide_eq_false h9
      go_wp2
      refine HK.out _ _ ?_
      exact NXT.out _ _ _ _ _ _ _ _ _ _ _ _ _ _ _ _ _ _ _ _ _ _ _ _ _ _ _ _ _ _ _ _ _ _ _ _ _ _ _ _ _ _ _ _ _ _ _ _ _ _ _ _ _ _ _ _ _ _ _ _ _ _ _ _ _ _ _ _ _ _ _ _ _ _ _ _ _ _ _ _ _ _ _ _ _ _ _ _ _ _ _ _ _ _ _ _ _ _ _ _ _ _ _ _ _ _ _ _ _ _ _ _ _ _ _ _ _ _ _ _ _ _ _ _ _ _ _ _ _ _ _ _ _ _ _ _ _ _ _ _ _ _ _ _ _ _ _ _ _ _ _ _ _ _ _ _ _ _ _ _ _ _ _ _ _ _ _ _ _ _ _ _ _ _ _ _ _ _ _ _ _ _ _ _ _ _ _ _ _ _ _ _ _ _ _ _ _ _ _ _ _ _ _ _ _ _ _ _ _ _ _ _ _ _ _ _ _ _ _ _ _ _ _ _ _ _ _ _ _ _ _ _ _ _ _ _ _ _ _ _ _ _ _ _ _ _ _ _ _ _ _ _ _ _ _ _ _ _ _ _ _ _ _ _ _ _ _ _ _ _ _ _ _ _ _ _ _ _ _ _ _ _ _ _ _ _ _ _ _ _ _ _ _ _ _ _ _ _ _ _ _ _ _ _ _ _ _ _ _ _ _ _ _ _ _ _ _ _ _ _ _ _ _ _ _ _ _ _ _ _ _ _ _ _ _ _ _ _ _ _ _ W rs nn D dc HNN.out (MN.out W HB2.out).1 (MN.out W HB2.out).2.1 (by have := HSP.out.2.1; omega) HSP.out.1 (OLD.out W HB2.out).1 (OLD.out W HB2.out).2 HSP.out.2.2.1
end Go.Proofs.YtjooabgjkjnhhaaGreatDoor
