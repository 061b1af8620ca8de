
import Derived.Test.YtcpdanjbnijoiaaDoorArWEra
/-! AreaWrites: the first cell's bytes. (Printed by tools/genaw14.py.) -/
namespace Go.Proofs.YtcpdanjbnijoiaaDoor
open Go.RowKit
set_option linter.unusedVariables false
set_option maxRecDepth 1000000

/-- What the last statements want. -/
def Ends (s1 : RS) (t0 : St) (a : Int) (c : Cfg) (n : Nat) (f : Int) (wh fi bl : Bool) : Prop :=
  (f = 0 ∧ wh = true ∧ fi = true) ∨ (f = 8 ∧ ((s1.n = dE s1 t0 a c.area.toNat + ((n + 31) / 32 : Nat) ∧ wh = true) ∨ (s1.n < dE s1 t0 a c.area.toNat + ((n + 31) / 32 : Nat) ∧ (bl = true ∨ s1.n = dE s1 t0 a c.area.toNat))))
/-- What is known of the answer. -/
structure Known (s1 : RS) (t0 : St) (a : Int) (c : Cfg) (b : List By) : Prop where
  n : b.length ≤ 600000
  a : a = 0 ∨ a = 1
  ar : s1.Ar
  c : s1.c = c
  el : t0.erases.length = s1.erases.length
  pe : ∀ q, t0.erases.getD q 0 ≤ s1.erases.getD q 0 ∧ s1.erases.getD q 0 ≤ t0.erases.getD q 0 + 1
theorem isb_at {w : World} {ao : Option Addr} {b : List By} (h : IsB w ao b) (j : Nat) (hj : j < b.length) (d : By) : ∃ B off, ao = some ⟨B, off, none⟩ ∧ w.cell? ⟨B, off + j, none⟩ = some (.int .u8 ((b.getD j d).toNat : Int)) := by
  rcases h with rfl | ⟨B, off, rfl, hc⟩
  · simp at hj
  · exact ⟨B, off, rfl, hc j _ (by rw [List.getD_eq_getElem?_getD, List.getElem?_eq_getElem hj]; rfl)⟩

set_option maxHeartbeats 2000000 in
theorem aw17 (c0 c1 c4 c5 c8 c9 c10 c11 c12 c13 c15 c18 c19 c20 c21 c23 c24 c25 c28 c29 c30 c31 c32 c33 c34 c35 c36 c37 c38 c39 c40 c41 c42 c43 c44 c45 c46 c47 c48 c49 c50 c51 c52 c53 c54 c55 c56 c57 c58 c59 c60 c61 c62 c63 c64 c65 c66 c67 c68 c69 c70 c71 c72 c73 c74 c75 c76 c77 c78 c79 c80 c81 c82 c83 c84 c85 c86 c87 c88 c89 c90 c91 c92 c93 c94 c95 c96 c97 c98 c99 c100 c101 c102 c103 c104 c105 c106 c107 c108 c109 c110 c111 c112 c113 c114 c115 c116 c117 c118 c119 c120 c121 c122 c123 c124 c125 c126 c127 c128 c129 c130 c131 c132 c133 c134 c135 c136 c137 c138 c139 c140 c141 c142 c143 c144 c145 c146 c147 c148 c149 c150 c151 c152 c153 c154 c155 c156 c157 c158 c159 c160 c161 c162 c163 c164 c165 c166 c167 c168 c169 c170 c171 c172 c173 c174 c175 c176 c177 c178 c179 c180 c181 c182 c183 c184 c185 c186 c187 c188 c189 c190 c191 c192 c193 c194 c195 c196 c197 c198 c199 c200 c201 c202 c203 c204 c205 c206 c207 c208 c209 c210 c211 c212 c213 c214 c215 c216 c217 c218 c219 c220 c221 c222 c223 c224 c225 c226 c227 c228 c229 c230 c231 c232 c233 c234 c235 c236 c237 c238 c239 c240 c241 c242 c243 c244 c245 c246 c247 c248 c249 c250 c251 c252 c253 c254 c255 c256 c257 c258 c259 c260 c261 c262 c263 c264 c265 c266 c267 c268 c269 c270 c271 c272 c273 c274 c275 c276 c277 c278 c279 c280 c281 c282 c283 c284 c285 c286 c287 c288 c289 c290 c291 c292 c293 c294 c295 c296 c297 c298 c299 c300 : Value) (w Wa : World) {c : Cfg} {v0 v1 : SV} {t0 : St} {s1 : RS} {G : RF} {S : ByteArray} {bo : Option Addr} {b : List By} {g6 g7 g17 : Nat} (hw : WW w c v0 v1 t0 s1 G S bo b g6 g7 g17 Wa) (n cap : Nat) (hbn : b.length = n) (a : Int) (hk : Known s1 t0 a c b) (f : Int) (wh fi bl : Bool) (hx : Ends s1 t0 a c n f wh fi bl) : Code.wp Tryd.prog (dropS 17 (Tryd.f3.body.getD .skip)) (bodyPost Tryd.prog Tryd.f3 (KP w)) ⟨#[c0, c1, .int .i64 a, .slice bo n cap, c4, c5, .pointer (some ⟨g6, 0, none⟩), .pointer (some ⟨g7, 0, none⟩), c8, c9, c10, c11, c12, c13, .pointer (some ⟨G.g, 0, none⟩), c15, .int .i64 f, .pointer (some ⟨g17, 0, none⟩), c18, c19, c20, c21, .bool wh, c23, c24, c25, .bool fi, .bool bl, c28, c29, c30, c31, c32, c33, c34, c35, c36, c37, c38, c39, c40, c41, c42, c43, c44, c45, c46, c47, c48, c49, c50, c51, c52, c53, c54, c55, c56, c57, c58, c59, c60, c61, c62, c63, c64, c65, c66, c67, c68, c69, c70, c71, c72, c73, c74, c75, c76, c77, c78, c79, c80, c81, c82, c83, c84, c85, c86, c87, c88, c89, c90, c91, c92, c93, c94, c95, c96, c97, c98, c99, c100, c101, c102, c103, c104, c105, c106, c107, c108, c109, c110, c111, c112, c113, c114, c115, c116, c117, c118, c119, c120, c121, c122, c123, c124, c125, c126, c127, c128, c129, c130, c131, c132, c133, c134, c135, c136, c137, c138, c139, c140, c141, c142, c143, c144, c145, c146, c147, c148, c149, c150, c151, c152, c153, c154, c155, c156, c157, c158, c159, c160, c161, c162, c163, c164, c165, c166, c167, c168, c169, c170, c171, c172, c173, c174, c175, c176, c177, c178, c179, c180, c181, c182, c183, c184, c185, c186, c187, c188, c189, c190, c191, c192, c193, c194, c195, c196, c197, c198, c199, c200, c201, c202, c203, c204, c205, c206, c207, c208, c209, c210, c211, c212, c213, c214, c215, c216, c217, c218, c219, c220, c221, c222, c223, c224, c225, c226, c227, c228, c229, c230, c231, c232, c233, c234, c235, c236, c237, c238, c239, c240, c241, c242, c243, c244, c245, c246, c247, c248, c249, c250, c251, c252, c253, c254, c255, c256, c257, c258, c259, c260, c261, c262, c263, c264, c265, c266, c267, c268, c269, c270, c271, c272, c273, c274, c275, c276, c277, c278, c279, c280, c281, c282, c283, c284, c285, c286, c287, c288, c289, c290, c291, c292, c293, c294, c295, c296, c297, c298, c299, c300], []⟩ Wa := by
  rcases hx with ⟨rfl, rfl, rfl⟩ | ⟨rfl, hx⟩
  · have HW : Hid (WW w c v0 v1 t0 s1 G S bo b g6 g7 g17 Wa) := hw
    clear hw hk
    conv => arg 2; whnf
    refine wp_seq_k fun K hK => ?_
    have HKK : Hid _ := hK
    clear hK
    go_wp2
    go_ret
    exact ⟨rfl, HW.out.bel⟩
  · have HNX : Hid (∀ (c0 c1 c4 c5 c8 c9 c10 c11 c12 c13 c15 c16 c18 c19 c20 c21 c23 c24 c25 c26 c28 c29 c30 c31 c32 c33 c34 c35 c36 c37 c38 c39 c40 c41 c42 c43 c44 c45 c46 c47 c48 c49 c50 c51 c52 c53 c54 c55 c56 c57 c58 c59 c60 c61 c62 c63 c64 c65 c66 c67 c68 c69 c70 c71 c72 c73 c74 c75 c76 c77 c78 c79 c80 c81 c82 c83 c84 c85 c86 c87 c88 c89 c90 c91 c92 c93 c94 c95 c96 c97 c98 c99 c100 c101 c102 c103 c104 c105 c106 c107 c108 c109 c110 c111 c112 c113 c114 c115 c116 c117 c118 c119 c120 c121 c122 c123 c124 c125 c126 c127 c128 c129 c130 c131 c132 c133 c134 c135 c136 c137 c138 c139 c140 c141 c142 c143 c144 c145 c146 c147 c148 c149 c150 c151 c152 c153 c154 c155 c156 c157 c158 c159 c160 c161 c162 c163 c164 c165 c166 c167 c168 c169 c170 c171 c172 c173 c174 c175 c176 c177 c178 c179 c180 c181 c182 c183 c184 c185 c186 c187 c188 c189 c190 c191 c192 c193 c194 c195 c196 c197 c198 c199 c200 c201 c202 c203 c204 c205 c206 c207 c208 c209 c210 c211 c212 c213 c214 c215 c216 c217 c218 c219 c220 c221 c222 c223 c224 c225 c226 c227 c228 c229 c230 c231 c232 c233 c234 c235 c236 c237 c238 c239 c240 c241 c242 c243 c244 c245 c246 c247 c248 c249 c250 c251 c252 c253 c254 c255 c256 c257 c258 c259 c260 c261 c262 c263 c264 c265 c266 c267 c268 c269 c270 c271 c272 c273 c274 c275 c276 c277 c278 c279 c280 c281 c282 c283 c284 c285 c286 c287 c288 c289 c290 c291 c292 c293 c294 c295 c296 c297 c298 c299 c300 : Value), Code.wp Tryd.prog (dropS 18 (Tryd.f3.body.getD .skip)) (bodyPost Tryd.prog Tryd.f3 (KP w)) ⟨#[c0, c1, .int .i64 a, .slice bo n cap, c4, c5, .pointer (some ⟨g6, 0, none⟩), .pointer (some ⟨g7, 0, none⟩), c8, c9, c10, c11, c12, c13, .pointer (some ⟨G.g, 0, none⟩), c15, c16, .pointer (some ⟨g17, 0, none⟩), c18, c19, c20, c21, .bool wh, c23, c24, c25, c26, .bool bl, c28, c29, c30, c31, c32, c33, c34, c35, c36, c37, c38, c39, c40, c41, c42, c43, c44, c45, c46, c47, c48, c49, c50, c51, c52, c53, c54, c55, c56, c57, c58, c59, c60, c61, c62, c63, c64, c65, c66, c67, c68, c69, c70, c71, c72, c73, c74, c75, c76, c77, c78, c79, c80, c81, c82, c83, c84, c85, c86, c87, c88, c89, c90, c91, c92, c93, c94, c95, c96, c97, c98, c99, c100, c101, c102, c103, c104, c105, c106, c107, c108, c109, c110, c111, c112, c113, c114, c115, c116, c117, c118, c119, c120, c121, c122, c123, c124, c125, c126, c127, c128, c129, c130, c131, c132, c133, c134, c135, c136, c137, c138, c139, c140, c141, c142, c143, c144, c145, c146, c147, c148, c149, c150, c151, c152, c153, c154, c155, c156, c157, c158, c159, c160, c161, c162, c163, c164, c165, c166, c167, c168, c169, c170, c171, c172, c173, c174, c175, c176, c177, c178, c179, c180, c181, c182, c183, c184, c185, c186, c187, c188, c189, c190, c191, c192, c193, c194, c195, c196, c197, c198, c199, c200, c201, c202, c203, c204, c205, c206, c207, c208, c209, c210, c211, c212, c213, c214, c215, c216, c217, c218, c219, c220, c221, c222, c223, c224, c225, c226, c227, c228, c229, c230, c231, c232, c233, c234, c235, c236, c237, c238, c239, c240, c241, c242, c243, c244, c245, c246, c247, c248, c249, c250, c251, c252, c253, c254, c255, c256, c257, c258, c259, c260, c261, c262, c263, c264, c265, c266, c267, c268, c269, c270, c271, c272, c273, c274, c275, c276, c277, c278, c279, c280, c281, c282, c283, c284, c285, c286, c287, c288, c289, c290, c291, c292, c293, c294, c295, c296, c297, c298, c299, c300], []⟩ Wa) := fun c0 c1 c4 c5 c8 c9 c10 c11 c12 c13 c15 c16 c18 c19 c20 c21 c23 c24 c25 c26 c28 c29 c30 c31 c32 c33 c34 c35 c36 c37 c38 c39 c40 c41 c42 c43 c44 c45 c46 c47 c48 c49 c50 c51 c52 c53 c54 c55 c56 c57 c58 c59 c60 c61 c62 c63 c64 c65 c66 c67 c68 c69 c70 c71 c72 c73 c74 c75 c76 c77 c78 c79 c80 c81 c82 c83 c84 c85 c86 c87 c88 c89 c90 c91 c92 c93 c94 c95 c96 c97 c98 c99 c100 c101 c102 c103 c104 c105 c106 c107 c108 c109 c110 c111 c112 c113 c114 c115 c116 c117 c118 c119 c120 c121 c122 c123 c124 c125 c126 c127 c128 c129 c130 c131 c132 c133 c134 c135 c136 c137 c138 c139 c140 c141 c142 c143 c144 c145 c146 c147 c148 c149 c150 c151 c152 c153 c154 c155 c156 c157 c158 c159 c160 c161 c162 c163 c164 c165 c166 c167 c168 c169 c170 c171 c172 c173 c174 c175 c176 c177 c178 c179 c180 c181 c182 c183 c184 c185 c186 c187 c188 c189 c190 c191 c192 c193 c194 c195 c196 c197 c198 c199 c200 c201 c202 c203 c204 c205 c206 c207 c208 c209 c210 c211 c212 c213 c214 c215 c216 c217 c218 c219 c220 c221 c222 c223 c224 c225 c226 c227 c228 c229 c230 c231 c232 c233 c234 c235 c236 c237 c238 c239 c240 c241 c242 c243 c244 c245 c246 c247 c248 c249 c250 c251 c252 c253 c254 c255 c256 c257 c258 c259 c260 c261 c262 c263 c264 c265 c266 c267 c268 c269 c270 c271 c272 c273 c274 c275 c276 c277 c278 c279 c280 c281 c282 c283 c284 c285 c286 c287 c288 c289 c290 c291 c292 c293 c294 c295 c296 c297 c298 c299 c300 => aw18 c0 c1 c4 c5 c8 c9 c10 c11 c12 c13 c15 c16 c18 c19 c20 c21 c23 c24 c25 c26 c28 c29 c30 c31 c32 c33 c34 c35 c36 c37 c38 c39 c40 c41 c42 c43 c44 c45 c46 c47 c48 c49 c50 c51 c52 c53 c54 c55 c56 c57 c58 c59 c60 c61 c62 c63 c64 c65 c66 c67 c68 c69 c70 c71 c72 c73 c74 c75 c76 c77 c78 c79 c80 c81 c82 c83 c84 c85 c86 c87 c88 c89 c90 c91 c92 c93 c94 c95 c96 c97 c98 c99 c100 c101 c102 c103 c104 c105 c106 c107 c108 c109 c110 c111 c112 c113 c114 c115 c116 c117 c118 c119 c120 c121 c122 c123 c124 c125 c126 c127 c128 c129 c130 c131 c132 c133 c134 c135 c136 c137 c138 c139 c140 c141 c142 c143 c144 c145 c146 c147 c148 c149 c150 c151 c152 c153 c154 c155 c156 c157 c158 c159 c160 c161 c162 c163 c164 c165 c166 c167 c168 c169 c170 c171 c172 c173 c174 c175 c176 c177 c178 c179 c180 c181 c182 c183 c184 c185 c186 c187 c188 c189 c190 c191 c192 c193 c194 c195 c196 c197 c198 c199 c200 c201 c202 c203 c204 c205 c206 c207 c208 c209 c210 c211 c212 c213 c214 c215 c216 c217 c218 c219 c220 c221 c222 c223 c224 c225 c226 c227 c228 c229 c230 c231 c232 c233 c234 c235 c236 c237 c238 c239 c240 c241 c242 c243 c244 c245 c246 c247 c248 c249 c250 c251 c252 c253 c254 c255 c256 c257 c258 c259 c260 c261 c262 c263 c264 c265 c266 c267 c268 c269 c270 c271 c272 c273 c274 c275 c276 c277 c278 c279 c280 c281 c282 c283 c284 c285 c286 c287 c288 c289 c290 c291 c292 c293 c294 c295 c296 c297 c298 c299 c300 w Wa hw n cap (by rw [← hbn]; exact hk.n) a hk.a hk.ar hk.c hk.el hk.pe wh bl hx
    clear hw hk hx
    conv => arg 2; whnf
    refine wp_seq_k fun K hK => ?_
    have HKK : Hid _ := hK
    clear hK
    go_wp2
    refine HKK.out _ _ ?_
    exact HNX.out _ _ _ _ _ _ _ _ _ _ _ _ _ _ _ _ _ _ _ _ _ _ _ _ _ _ _ _ _ _ _ _ _ _ _ _ _ _ _ _ _ _ _ _ _ _ _ _ _ _ _ _ _ _ _ _ _ _ _ _ _ _ _ _ _ _ _ _ _ _ _ _ _ _ _ _ _ _ _ _ _ _ _ _ _ _ _ _ _ _ _ _ _ _ _ _ _ _ _ _ _ _ _ _ _ _ _ _ _ _ _ _ _ _ _ _ _ _ _ _ _ _ _ _ _ _ _ _ _ _ _ _ _ _ _ _ _ _ _ _ _ _ _ _ _ _ _ _ _ _ _ _ _ _ _ _ _ _ _ _ _ _ _ _ _ _ _ _ _ _ _ _ _ _ _ _ _ _ _ _ _ _ _ _ _ _ _ _ _ _ _ _ _ _ _ _ _ _ _ _ _ _ _ _ _ _ _ _ _ _ _ _ _ _ _ _ _ _ _ _ _ _ _ _ _ _ _ _ _ _ _ _ _ _ _ _ _ _ _ _ _ _ _ _ _ _ _ _ _ _ _ _ _ _ _ _ _ _ _ _ _ _ _ _ _ _ _ _ _ _ _ _ _ _ _ _ _ _ _ _ _ _ _ _ _ _ _ _ _ _ _ _ _

set_option maxHeartbeats 4000000 in
theorem aw14 (c0 c1 c4 c5 c8 c9 c10 c11 c12 c13 c15 c18 c19 c20 c21 c24 c25 c26 c27 c28 c29 c30 c31 c32 c33 c34 c35 c36 c37 c38 c39 c40 c41 c42 c43 c44 c45 c46 c47 c48 c49 c50 c51 c52 c53 c54 c55 c56 c57 c58 c59 c60 c61 c62 c63 c64 c65 c66 c67 c68 c69 c70 c71 c72 c73 c74 c75 c76 c77 c78 c79 c80 c81 c82 c83 c84 c85 c86 c87 c88 c89 c90 c91 c92 c93 c94 c95 c96 c97 c98 c99 c100 c101 c102 c103 c104 c105 c106 c107 c108 c109 c110 c111 c112 c113 c114 c115 c116 c117 c118 c119 c120 c121 c122 c123 c124 c125 c126 c127 c128 c129 c130 c131 c132 c133 c134 c135 c136 c137 c138 c139 c140 c141 c142 c143 c144 c145 c146 c147 c148 c149 c150 c151 c152 c153 c154 c155 c156 c157 c158 c159 c160 c161 c162 c163 c164 c165 c166 c167 c168 c169 c170 c171 c172 c173 c174 c175 c176 c177 c178 c179 c180 c181 c182 c183 c184 c185 c186 c187 c188 c189 c190 c191 c192 c193 c194 c195 c196 c197 c198 c199 c200 c201 c202 c203 c204 c205 c206 c207 c208 c209 c210 c211 c212 c213 c214 c215 c216 c217 c218 c219 c220 c221 c222 c223 c224 c225 c226 c227 c228 c229 c230 c231 c232 c233 c234 c235 c236 c237 c238 c239 c240 c241 c242 c243 c244 c245 c246 c247 c248 c249 c250 c251 c252 c253 c254 c255 c256 c257 c258 c259 c260 c261 c262 c263 c264 c265 c266 c267 c268 c269 c270 c271 c272 c273 c274 c275 c276 c277 c278 c279 c280 c281 c282 c283 c284 c285 c286 c287 c288 c289 c290 c291 c292 c293 c294 c295 c296 c297 c298 c299 c300 : Value) (w Wa : World) {c : Cfg} {v0 v1 : SV} {t0 : St} {s1 : RS} {G : RF} {S : ByteArray} {bo : Option Addr} {b : List By} {g6 g7 g17 : Nat} (hw : WW w c v0 v1 t0 s1 G S bo b g6 g7 g17 Wa) (n cap : Nat) (hbn : b.length = n) (a : Int) (hk : Known s1 t0 a c b) (f : Int) (wh : Bool) (SZ : Nat) (hSZ : s1.c.area.toNat * s1.c.cells.toNat * 32 = SZ) (hS9 : SZ ≤ 600000)
    (hx : ∀ fi bl : Bool, ((∀ j, j < 32 → j < SZ → s1.abyte a j = b.getD j 255#8) → fi = true) → ((∀ j, j < 32 → j < SZ → s1.abyte a j = 255#8) → bl = true) → Ends s1 t0 a c n f wh fi bl) : Code.wp Tryd.prog (dropS 14 (Tryd.f3.body.getD .skip)) (bodyPost Tryd.prog Tryd.f3 (KP w)) ⟨#[c0, c1, .int .i64 a, .slice bo n cap, c4, c5, .pointer (some ⟨g6, 0, none⟩), .pointer (some ⟨g7, 0, none⟩), c8, c9, c10, c11, c12, c13, .pointer (some ⟨G.g, 0, none⟩), c15, .int .i64 f, .pointer (some ⟨g17, 0, none⟩), c18, c19, c20, c21, .bool wh, .int .i64 SZ, c24, c25, c26, c27, c28, c29, c30, c31, c32, c33, c34, c35, c36, c37, c38, c39, c40, c41, c42, c43, c44, c45, c46, c47, c48, c49, c50, c51, c52, c53, c54, c55, c56, c57, c58, c59, c60, c61, c62, c63, c64, c65, c66, c67, c68, c69, c70, c71, c72, c73, c74, c75, c76, c77, c78, c79, c80, c81, c82, c83, c84, c85, c86, c87, c88, c89, c90, c91, c92, c93, c94, c95, c96, c97, c98, c99, c100, c101, c102, c103, c104, c105, c106, c107, c108, c109, c110, c111, c112, c113, c114, c115, c116, c117, c118, c119, c120, c121, c122, c123, c124, c125, c126, c127, c128, c129, c130, c131, c132, c133, c134, c135, c136, c137, c138, c139, c140, c141, c142, c143, c144, c145, c146, c147, c148, c149, c150, c151, c152, c153, c154, c155, c156, c157, c158, c159, c160, c161, c162, c163, c164, c165, c166, c167, c168, c169, c170, c171, c172, c173, c174, c175, c176, c177, c178, c179, c180, c181, c182, c183, c184, c185, c186, c187, c188, c189, c190, c191, c192, c193, c194, c195, c196, c197, c198, c199, c200, c201, c202, c203, c204, c205, c206, c207, c208, c209, c210, c211, c212, c213, c214, c215, c216, c217, c218, c219, c220, c221, c222, c223, c224, c225, c226, c227, c228, c229, c230, c231, c232, c233, c234, c235, c236, c237, c238, c239, c240, c241, c242, c243, c244, c245, c246, c247, c248, c249, c250, c251, c252, c253, c254, c255, c256, c257, c258, c259, c260, c261, c262, c263, c264, c265, c266, c267, c268, c269, c270, c271, c272, c273, c274, c275, c276, c277, c278, c279, c280, c281, c282, c283, c284, c285, c286, c287, c288, c289, c290, c291, c292, c293, c294, c295, c296, c297, c298, c299, c300], []⟩ Wa := by
  have HNX : Hid (∀ (fi bl : Bool), ((∀ j, j < 32 → j < SZ → s1.abyte a j = b.getD j 255#8) → fi = true) → ((∀ j, j < 32 → j < SZ → s1.abyte a j = 255#8) → bl = true) → ∀ (c0 c1 c4 c5 c8 c9 c10 c11 c12 c13 c15 c18 c19 c20 c21 c23 c24 c25 c28 c29 c30 c31 c32 c33 c34 c35 c36 c37 c38 c39 c40 c41 c42 c43 c44 c45 c46 c47 c48 c49 c50 c51 c52 c53 c54 c55 c56 c57 c58 c59 c60 c61 c62 c63 c64 c65 c66 c67 c68 c69 c70 c71 c72 c73 c74 c75 c76 c77 c78 c79 c80 c81 c82 c83 c84 c85 c86 c87 c88 c89 c90 c91 c92 c93 c94 c95 c96 c97 c98 c99 c100 c101 c102 c103 c104 c105 c106 c107 c108 c109 c110 c111 c112 c113 c114 c115 c116 c117 c118 c119 c120 c121 c122 c123 c124 c125 c126 c127 c128 c129 c130 c131 c132 c133 c134 c135 c136 c137 c138 c139 c140 c141 c142 c143 c144 c145 c146 c147 c148 c149 c150 c151 c152 c153 c154 c155 c156 c157 c158 c159 c160 c161 c162 c163 c164 c165 c166 c167 c168 c169 c170 c171 c172 c173 c174 c175 c176 c177 c178 c179 c180 c181 c182 c183 c184 c185 c186 c187 c188 c189 c190 c191 c192 c193 c194 c195 c196 c197 c198 c199 c200 c201 c202 c203 c204 c205 c206 c207 c208 c209 c210 c211 c212 c213 c214 c215 c216 c217 c218 c219 c220 c221 c222 c223 c224 c225 c226 c227 c228 c229 c230 c231 c232 c233 c234 c235 c236 c237 c238 c239 c240 c241 c242 c243 c244 c245 c246 c247 c248 c249 c250 c251 c252 c253 c254 c255 c256 c257 c258 c259 c260 c261 c262 c263 c264 c265 c266 c267 c268 c269 c270 c271 c272 c273 c274 c275 c276 c277 c278 c279 c280 c281 c282 c283 c284 c285 c286 c287 c288 c289 c290 c291 c292 c293 c294 c295 c296 c297 c298 c299 c300 : Value) (W' : World), WW w c v0 v1 t0 s1 G S bo b g6 g7 g17 W' → Code.wp Tryd.prog (dropS 17 (Tryd.f3.body.getD .skip)) (bodyPost Tryd.prog Tryd.f3 (KP w)) ⟨#[c0, c1, .int .i64 a, .slice bo n cap, c4, c5, .pointer (some ⟨g6, 0, none⟩), .pointer (some ⟨g7, 0, none⟩), c8, c9, c10, c11, c12, c13, .pointer (some ⟨G.g, 0, none⟩), c15, .int .i64 f, .pointer (some ⟨g17, 0, none⟩), c18, c19, c20, c21, .bool wh, c23, c24, c25, .bool fi, .bool bl, c28, c29, c30, c31, c32, c33, c34, c35, c36, c37, c38, c39, c40, c41, c42, c43, c44, c45, c46, c47, c48, c49, c50, c51, c52, c53, c54, c55, c56, c57, c58, c59, c60, c61, c62, c63, c64, c65, c66, c67, c68, c69, c70, c71, c72, c73, c74, c75, c76, c77, c78, c79, c80, c81, c82, c83, c84, c85, c86, c87, c88, c89, c90, c91, c92, c93, c94, c95, c96, c97, c98, c99, c100, c101, c102, c103, c104, c105, c106, c107, c108, c109, c110, c111, c112, c113, c114, c115, c116, c117, c118, c119, c120, c121, c122, c123, c124, c125, c126, c127, c128, c129, c130, c131, c132, c133, c134, c135, c136, c137, c138, c139, c140, c141, c142, c143, c144, c145, c146, c147, c148, c149, c150, c151, c152, c153, c154, c155, c156, c157, c158, c159, c160, c161, c162, c163, c164, c165, c166, c167, c168, c169, c170, c171, c172, c173, c174, c175, c176, c177, c178, c179, c180, c181, c182, c183, c184, c185, c186, c187, c188, c189, c190, c191, c192, c193, c194, c195, c196, c197, c198, c199, c200, c201, c202, c203, c204, c205, c206, c207, c208, c209, c210, c211, c212, c213, c214, c215, c216, c217, c218, c219, c220, c221, c222, c223, c224, c225, c226, c227, c228, c229, c230, c231, c232, c233, c234, c235, c236, c237, c238, c239, c240, c241, c242, c243, c244, c245, c246, c247, c248, c249, c250, c251, c252, c253, c254, c255, c256, c257, c258, c259, c260, c261, c262, c263, c264, c265, c266, c267, c268, c269, c270, c271, c272, c273, c274, c275, c276, c277, c278, c279, c280, c281, c282, c283, c284, c285, c286, c287, c288, c289, c290, c291, c292, c293, c294, c295, c296, c297, c298, c299, c300], []⟩ W') := fun fi bl h1 h2 c0 c1 c4 c5 c8 c9 c10 c11 c12 c13 c15 c18 c19 c20 c21 c23 c24 c25 c28 c29 c30 c31 c32 c33 c34 c35 c36 c37 c38 c39 c40 c41 c42 c43 c44 c45 c46 c47 c48 c49 c50 c51 c52 c53 c54 c55 c56 c57 c58 c59 c60 c61 c62 c63 c64 c65 c66 c67 c68 c69 c70 c71 c72 c73 c74 c75 c76 c77 c78 c79 c80 c81 c82 c83 c84 c85 c86 c87 c88 c89 c90 c91 c92 c93 c94 c95 c96 c97 c98 c99 c100 c101 c102 c103 c104 c105 c106 c107 c108 c109 c110 c111 c112 c113 c114 c115 c116 c117 c118 c119 c120 c121 c122 c123 c124 c125 c126 c127 c128 c129 c130 c131 c132 c133 c134 c135 c136 c137 c138 c139 c140 c141 c142 c143 c144 c145 c146 c147 c148 c149 c150 c151 c152 c153 c154 c155 c156 c157 c158 c159 c160 c161 c162 c163 c164 c165 c166 c167 c168 c169 c170 c171 c172 c173 c174 c175 c176 c177 c178 c179 c180 c181 c182 c183 c184 c185 c186 c187 c188 c189 c190 c191 c192 c193 c194 c195 c196 c197 c198 c199 c200 c201 c202 c203 c204 c205 c206 c207 c208 c209 c210 c211 c212 c213 c214 c215 c216 c217 c218 c219 c220 c221 c222 c223 c224 c225 c226 c227 c228 c229 c230 c231 c232 c233 c234 c235 c236 c237 c238 c239 c240 c241 c242 c243 c244 c245 c246 c247 c248 c249 c250 c251 c252 c253 c254 c255 c256 c257 c258 c259 c260 c261 c262 c263 c264 c265 c266 c267 c268 c269 c270 c271 c272 c273 c274 c275 c276 c277 c278 c279 c280 c281 c282 c283 c284 c285 c286 c287 c288 c289 c290 c291 c292 c293 c294 c295 c296 c297 c298 c299 c300 W' hW' =>
    aw17 c0 c1 c4 c5 c8 c9 c10 c11 c12 c13 c15 c18 c19 c20 c21 c23 c24 c25 c28 c29 c30 c31 c32 c33 c34 c35 c36 c37 c38 c39 c40 c41 c42 c43 c44 c45 c46 c47 c48 c49 c50 c51 c52 c53 c54 c55 c56 c57 c58 c59 c60 c61 c62 c63 c64 c65 c66 c67 c68 c69 c70 c71 c72 c73 c74 c75 c76 c77 c78 c79 c80 c81 c82 c83 c84 c85 c86 c87 c88 c89 c90 c91 c92 c93 c94 c95 c96 c97 c98 c99 c100 c101 c102 c103 c104 c105 c106 c107 c108 c109 c110 c111 c112 c113 c114 c115 c116 c117 c118 c119 c120 c121 c122 c123 c124 c125 c126 c127 c128 c129 c130 c131 c132 c133 c134 c135 c136 c137 c138 c139 c140 c141 c142 c143 c144 c145 c146 c147 c148 c149 c150 c151 c152 c153 c154 c155 c156 c157 c158 c159 c160 c161 c162 c163 c164 c165 c166 c167 c168 c169 c170 c171 c172 c173 c174 c175 c176 c177 c178 c179 c180 c181 c182 c183 c184 c185 c186 c187 c188 c189 c190 c191 c192 c193 c194 c195 c196 c197 c198 c199 c200 c201 c202 c203 c204 c205 c206 c207 c208 c209 c210 c211 c212 c213 c214 c215 c216 c217 c218 c219 c220 c221 c222 c223 c224 c225 c226 c227 c228 c229 c230 c231 c232 c233 c234 c235 c236 c237 c238 c239 c240 c241 c242 c243 c244 c245 c246 c247 c248 c249 c250 c251 c252 c253 c254 c255 c256 c257 c258 c259 c260 c261 c262 c263 c264 c265 c266 c267 c268 c269 c270 c271 c272 c273 c274 c275 c276 c277 c278 c279 c280 c281 c282 c283 c284 c285 c286 c287 c288 c289 c290 c291 c292 c293 c294 c295 c296 c297 c298 c299 c300 w W' hW' n cap hbn a hk f wh fi bl (hx fi bl h1 h2)
  have HW : Hid (WW w c v0 v1 t0 s1 G S bo b g6 g7 g17 Wa) := hw
  have HBY : Hid (∀ W', WW w c v0 v1 t0 s1 G S bo b g6 g7 g17 W' → ∀ i, i < SZ → Calls Tryd.prog 11 #[.agg (v1.vals s1.st).toArray, .agg c.vals.toArray, .int .i64 a, .int .i64 i] W' fun e w' => e = .returned (.int .u8 ((s1.abyte a i).toNat : Int)) ∧ Below W'.heap.size W' w') := fun W' hW' i hi => by
    have := byteOf_any s1 hk.ar v1 W' hW'.sv1 a hk.a i (by rw [hSZ]; exact hi)
    rw [hk.c] at this
    exact this
  have HIB : Hid (∀ W', WW w c v0 v1 t0 s1 G S bo b g6 g7 g17 W' → ∀ j, j < n → ∃ B off, bo = some ⟨B, off, none⟩ ∧ W'.cell? ⟨B, off + j, none⟩ = some (.int .u8 ((b.getD j 255#8).toNat : Int))) := fun W' hW' j hj => isb_at hW'.isb j (by omega) _
  have HB9 : Hid (∀ j, ¬ j < n → b.getD j 255#8 = 255#8) := fun j hj => by
    rw [List.getD_eq_getElem?_getD, List.getElem?_eq_none (by omega)]; rfl
  have HEQ : Hid (∀ x y : By, ((x.toNat : Int) == (y.toNat : Int)) = true ↔ x = y) := fun x y => by
    constructor
    · intro h
      have := eq_of_beq h
      exact BitVec.eq_of_toNat_eq (by omega)
    · intro h; rw [h]; simp
  have hvl : (v1.vals s1.st).length = 3 := rfl
  have hcl : c.vals.length = 7 := rfl
  have HR : Hid (∀ W', WW w c v0 v1 t0 s1 G S bo b g6 g7 g17 W' → Row W' g6 23 c.vals ∧ Row W' g17 28 (v1.vals s1.st)) := fun W' h => ⟨h.r6, h.r17⟩
  clear hw hk hx hSZ
  generalize v1.vals s1.st = VS at *
  generalize c.vals = VC at *
  conv => arg 2; whnf
  refine wp_seq_k fun K hK => ?_
  have HKK : Hid _ := hK
  clear hK
  go_wp2
  refine HKK.out _ _ ?_
  clear HKK
  refine wp_seq_k fun K hK => ?_
  have HKK : Hid _ := hK
  clear hK
  go_wp2
  refine HKK.out _ _ ?_
  clear HKK
  refine wp_seq_k fun K hK => ?_
  have HKK : Hid _ := hK
  clear hK
  go_wp2
  go_loopw [26, 27, 28] (fun fv bv iv wr => ∃ (i : Nat) (fi bl : Bool), i ≤ 32 ∧ i ≤ SZ ∧ fv = .bool fi ∧ bv = .bool bl ∧ iv = .int .i64 i ∧ Hid (((∀ j, j < i → s1.abyte a j = b.getD j 255#8) → fi = true) ∧ ((∀ j, j < i → s1.abyte a j = 255#8) → bl = true)) ∧ Hid (WW w c v0 v1 t0 s1 G S bo b g6 g7 g17 wr)) (fun _ _ iv _ => 32 - (intOf iv).toNat)
  case atStart => exact ⟨0, true, true, by omega, by omega, rfl, rfl, rfl, ⟨fun _ => rfl, fun _ => rfl⟩, HW.out⟩
  case round =>
    clear HW
    obtain ⟨i, fi, bl, hi, hiS, rfl, rfl, rfl, HV, HWR⟩ := hrel
    by_cases h32 : i < 32
    · have y1 : (i : Int) < 32 := by omega
      by_cases hlt : i < SZ
      · have y0 : (0 : Int) ≤ (i : Int) := by omega
        have y2 : (i : Int) < (SZ : Int) := by omega
        have HBC := HBY.out wr HWR.out i hlt
        obtain ⟨r6, r17⟩ := HR.out wr HWR.out
        obtain ⟨r1, hr1⟩ : ∃ r, (((s1.abyte a i).toNat : Int) == ((b.getD i 255#8).toNat : Int)) = r := ⟨_, rfl⟩
        obtain ⟨r2, hr2⟩ : ∃ r, (((s1.abyte a i).toNat : Int) == 255) = r := ⟨_, rfl⟩
        have HV2 : Hid (((∀ j, j < i + 1 → s1.abyte a j = b.getD j 255#8) → (fi && r1) = true) ∧ ((∀ j, j < i + 1 → s1.abyte a j = 255#8) → (bl && r2) = true)) := by
          refine ⟨fun h => ?_, fun h => ?_⟩
          · rw [HV.out.1 fun j hj => h j (by omega), ← hr1, (HEQ.out _ _).2 (h i (by omega))]; rfl
          · rw [HV.out.2 fun j hj => h j (by omega), ← hr2]
            have := (HEQ.out (s1.abyte a i) 255#8).2 (h i (by omega))
            exact this
        have HBC' : Hid (Calls Tryd.prog 11 #[.agg VS.toArray, .agg VC.toArray, .int .i64 a, .int .i64 i] wr fun e w' => e = .returned (.int .u8 ((s1.abyte a i).toNat : Int)) ∧ Below wr.heap.size wr w') := HBC
        have HWN : Hid (∀ w', Below wr.heap.size wr w' → WW w c v0 v1 t0 s1 G S bo b g6 g7 g17 w') := fun w' hb => HWR.out.below hb
        clear HV HBY HBC
        by_cases hin : i < n
        · have y3 : (i : Int) < (n : Int) := by omega
          obtain ⟨B, off, rfl, hcb⟩ := HIB.out wr HWR.out i hin
          clear HIB HWR HR HEQ HB9 HNX
          generalize (b.getD i 255#8).toNat = wv at *
          generalize (s1.abyte a i).toNat = gv at *
          cases fi <;> cases bl <;> (
            go_wp2_with (first
              | (refine wpList_load_Row rfl 28 _ rfl _ _ _ r17 rfl _ Tryd.underlying28 rfl (by rw [hvl]; kernel_rfl) ?_)
              | (refine wpList_load_Row rfl 23 _ rfl _ _ _ r6 rfl _ Tryd.underlying23 rfl (by rw [hcl]; kernel_rfl) ?_))
            refine HBC'.out.mono ?_
            rintro e w1 ⟨rfl, hb1⟩
            dsimp only
            go_wp2
            exact ⟨⟨i + 1, _, _, by omega, by omega, rfl, rfl, by go_num, HV2.out, HWN.out _ hb1⟩, by simp [intOf]; omega⟩)
        · have y3 : ¬ (i : Int) < (n : Int) := by omega
          rw [HB9.out i hin] at hr1
          have hr1' : (((s1.abyte a i).toNat : Int) == 255) = r1 := hr1
          obtain rfl : r1 = r2 := by rw [← hr1', hr2]
          clear HIB HWR HR HEQ HB9 HNX hr1 hr1'
          generalize (s1.abyte a i).toNat = gv at *
          cases fi <;> cases bl <;> (
            go_wp2_with (first
              | (refine wpList_load_Row rfl 28 _ rfl _ _ _ r17 rfl _ Tryd.underlying28 rfl (by rw [hvl]; kernel_rfl) ?_)
              | (refine wpList_load_Row rfl 23 _ rfl _ _ _ r6 rfl _ Tryd.underlying23 rfl (by rw [hcl]; kernel_rfl) ?_))
            refine HBC'.out.mono ?_
            rintro e w1 ⟨rfl, hb1⟩
            dsimp only
            go_wp2
            exact ⟨⟨i + 1, _, _, by omega, by omega, rfl, rfl, by go_num, HV2.out, HWN.out _ hb1⟩, by simp [intOf]; omega⟩)
      · obtain rfl : i = SZ := by omega
        have y2 : ¬ ((i : Nat) : Int) < (i : Int) := by omega
        have NX := HNX.out fi bl (fun h => HV.out.1 fun j hj => h j (by omega) hj) (fun h => HV.out.2 fun j hj => h j (by omega) hj)
        have HN2 : Hid _ := NX
        clear NX HNX
        go_wp2
        refine HKK.out _ _ ?_
        exact HN2.out _ _ _ _ _ _ _ _ _ _ _ _ _ _ _ _ _ _ _ _ _ _ _ _ _ _ _ _ _ _ _ _ _ _ _ _ _ _ _ _ _ _ _ _ _ _ _ _ _ _ _ _ _ _ _ _ _ _ _ _ _ _ _ _ _ _ _ _ _ _ _ _ _ _ _ _ _ _ _ _ _ _ _ _ _ _ _ _ _ _ _ _ _ _ _ _ _ _ _ _ _ _ _ _ _ _ _ _ _ _ _ _ _ _ _ _ _ _ _ _ _ _ _ _ _ _ _ _ _ _ _ _ _ _ _ _ _ _ _ _ _ _ _ _ _ _ _ _ _ _ _ _ _ _ _ _ _ _ _ _ _ _ _ _ _ _ _ _ _ _ _ _ _ _ _ _ _ _ _ _ _ _ _ _ _ _ _ _ _ _ _ _ _ _ _ _ _ _ _ _ _ _ _ _ _ _ _ _ _ _ _ _ _ _ _ _ _ _ _ _ _ _ _ _ _ _ _ _ _ _ _ _ _ _ _ _ _ _ _ _ _ _ _ _ _ _ _ _ _ _ _ _ _ _ _ _ _ _ _ _ _ _ _ _ _ _ _ _ _ _ _ _ _ _ _ _ _ _ _ _ _ _ _ _ _ _ _ _ _ _ _ _ HWR.out
    · obtain rfl : i = 32 := by omega
      have y1 : ¬ ((32 : Nat) : Int) < 32 := by omega
      have NX := HNX.out fi bl (fun h => HV.out.1 fun j hj => h j hj (by omega)) (fun h => HV.out.2 fun j hj => h j hj (by omega))
      have HN2 : Hid _ := NX
      clear NX HNX
      go_wp2
      refine HKK.out _ _ ?_
      exact HN2.out _ _ _ _ _ _ _ _ _ _ _ _ _ _ _ _ _ _ _ _ _ _ _ _ _ _ _ _ _ _ _ _ _ _ _ _ _ _ _ _ _ _ _ _ _ _ _ _ _ _ _ _ _ _ _ _ _ _ _ _ _ _ _ _ _ _ _ _ _ _ _ _ _ _ _ _ _ _ _ _ _ _ _ _ _ _ _ _ _ _ _ _ _ _ _ _ _ _ _ _ _ _ _ _ _ _ _ _ _ _ _ _ _ _ _ _ _ _ _ _ _ _ _ _ _ _ _ _ _ _ _ _ _ _ _ _ _ _ _ _ _ _ _ _ _ _ _ _ _ _ _ _ _ _ _ _ _ _ _ _ _ _ _ _ _ _ _ _ _ _ _ _ _ _ _ _ _ _ _ _ _ _ _ _ _ _ _ _ _ _ _ _ _ _ _ _ _ _ _ _ _ _ _ _ _ _ _ _ _ _ _ _ _ _ _ _ _ _ _ _ _ _ _ _ _ _ _ _ _ _ _ _ _ _ _ _ _ _ _ _ _ _ _ _ _ _ _ _ _ _ _ _ _ _ _ _ _ _ _ _ _ _ _ _ _ _ _ _ _ _ _ _ _ _ _ _ _ _ _ _ _ _ _ _ _ _ _ _ _ _ _ _ HWR.out
end Go.Proofs.YtcpdanjbnijoiaaDoor
