
import Derived.Test.YtcpdanjbnijoiaaDoorArWBlw
import Derived.Test.YtcpdanjbnijoiaaDoorR4Inv
/-! AreaWrites: the pages that are not the area's. (Printed by tools/genaw14.py.) -/
namespace Go.Proofs.YtcpdanjbnijoiaaDoor
open Go.RowKit
set_option linter.unusedVariables false
set_option maxRecDepth 1000000

/-- Page p is one of area a's. -/
def Mine (a area : Int) (p : Nat) : Prop := (a = 0 ∨ a = 1) ∧ 2 + a * area ≤ (p : Int) ∧ (p : Int) < 2 + (a + 1) * area

set_option maxHeartbeats 8000000 in
theorem aw8 (A : Are) (c0 c1 c4 c5 c8 c9 c10 c11 c12 c13 c15 c18 c19 c20 c21 c22 c23 c24 c25 c26 c27 c28 c29 c30 c31 c32 c33 c34 c35 c36 c37 c38 c39 c40 c41 c42 c43 c44 c45 c46 c47 c48 c49 c50 c51 c52 c53 c54 c55 c56 c57 c58 c59 c60 c61 c62 c63 c64 c65 c66 c67 c68 c69 c70 c71 c72 c73 c74 c75 c76 c77 c78 c79 c80 c81 c82 c83 c84 c85 c86 c87 c88 c89 c90 c91 c92 c93 c94 c95 c96 c97 c98 c99 c100 c101 c102 c103 c104 c105 c106 c107 c108 c109 c110 c111 c112 c113 c114 c115 c116 c117 c118 c119 c120 c121 c122 c123 c124 c125 c126 c127 c128 c129 c130 c131 c132 c133 c134 c135 c136 c137 c138 c139 c140 c141 c142 c143 c144 c145 c146 c147 c148 c149 c150 c151 c152 c153 c154 c155 c156 c157 c158 c159 c160 c161 c162 c163 c164 c165 c166 c167 c168 c169 c170 c171 c172 c173 c174 c175 c176 c177 c178 c179 c180 c181 c182 c183 c184 c185 c186 c187 c188 c189 c190 c191 c192 c193 c194 c195 c196 c197 c198 c199 c200 c201 c202 c203 c204 c205 c206 c207 c208 c209 c210 c211 c212 c213 c214 c215 c216 c217 c218 c219 c220 c221 c222 c223 c224 c225 c226 c227 c228 c229 c230 c231 c232 c233 c234 c235 c236 c237 c238 c239 c240 c241 c242 c243 c244 c245 c246 c247 c248 c249 c250 c251 c252 c253 c254 c255 c256 c257 c258 c259 c260 c261 c262 c263 c264 c265 c266 c267 c268 c269 c270 c271 c272 c273 c274 c275 c276 c277 c278 c279 c280 c281 c282 c283 c284 c285 c286 c287 c288 c289 c290 c291 c292 c293 c294 c295 c296 c297 c298 c299 c300 : Value) (w Wa : World) {c : Cfg} {v0 v1 : SV} {t0 : St} {s1 : RS} {G : RF} {S : ByteArray} {bo : Option Addr} {b : List By} {g6 g7 g17 : Nat} (hw : WW w c v0 v1 t0 s1 G S bo b g6 g7 g17 Wa) (n cap : Nat) (hbn : b.length = n) (a f : Int) (hbl : t0.blown = s1.blown) (hpl : t0.pages.length = s1.pages.length) (har : 0 ≤ c.area ∧ c.area ≤ 64)
    (hpg : ∀ p, p < s1.pages.length → ¬ (Mine a c.area p ∧ (f = 0 ∨ f = 8)) → t0.pages.getD p [] = s1.pages.getD p []) (hx : Fins s1 t0 a c b f) : Code.wp Tryd.prog (dropS 8 (Tryd.f3.body.getD .skip)) (bodyPost Tryd.prog Tryd.f3 (KP w)) ⟨#[c0, c1, .int .i64 a, .slice bo n cap, c4, c5, .pointer (some ⟨g6, 0, none⟩), .pointer (some ⟨g7, 0, none⟩), c8, c9, c10, c11, c12, c13, .pointer (some ⟨G.g, 0, none⟩), c15, .int .i64 f, .pointer (some ⟨g17, 0, none⟩), c18, c19, c20, c21, c22, c23, c24, c25, c26, c27, c28, c29, c30, c31, c32, c33, c34, c35, c36, c37, c38, c39, c40, c41, c42, c43, c44, c45, c46, c47, c48, c49, c50, c51, c52, c53, c54, c55, c56, c57, c58, c59, c60, c61, c62, c63, c64, c65, c66, c67, c68, c69, c70, c71, c72, c73, c74, c75, c76, c77, c78, c79, c80, c81, c82, c83, c84, c85, c86, c87, c88, c89, c90, c91, c92, c93, c94, c95, c96, c97, c98, c99, c100, c101, c102, c103, c104, c105, c106, c107, c108, c109, c110, c111, c112, c113, c114, c115, c116, c117, c118, c119, c120, c121, c122, c123, c124, c125, c126, c127, c128, c129, c130, c131, c132, c133, c134, c135, c136, c137, c138, c139, c140, c141, c142, c143, c144, c145, c146, c147, c148, c149, c150, c151, c152, c153, c154, c155, c156, c157, c158, c159, c160, c161, c162, c163, c164, c165, c166, c167, c168, c169, c170, c171, c172, c173, c174, c175, c176, c177, c178, c179, c180, c181, c182, c183, c184, c185, c186, c187, c188, c189, c190, c191, c192, c193, c194, c195, c196, c197, c198, c199, c200, c201, c202, c203, c204, c205, c206, c207, c208, c209, c210, c211, c212, c213, c214, c215, c216, c217, c218, c219, c220, c221, c222, c223, c224, c225, c226, c227, c228, c229, c230, c231, c232, c233, c234, c235, c236, c237, c238, c239, c240, c241, c242, c243, c244, c245, c246, c247, c248, c249, c250, c251, c252, c253, c254, c255, c256, c257, c258, c259, c260, c261, c262, c263, c264, c265, c266, c267, c268, c269, c270, c271, c272, c273, c274, c275, c276, c277, c278, c279, c280, c281, c282, c283, c284, c285, c286, c287, c288, c289, c290, c291, c292, c293, c294, c295, c296, c297, c298, c299, c300], []⟩ Wa := by
  have HNX : Hid (∀ (c0 c1 c4 c5 c8 c9 c10 c11 c12 c13 c15 c18 c19 c20 c21 c22 c23 c24 c25 c26 c27 c28 c29 c30 c31 c32 c33 c34 c35 c36 c37 c38 c39 c40 c41 c42 c43 c44 c45 c46 c47 c48 c49 c50 c51 c52 c53 c54 c55 c56 c57 c58 c59 c60 c61 c62 c63 c64 c65 c66 c67 c68 c69 c70 c71 c72 c73 c74 c75 c76 c77 c78 c79 c80 c81 c82 c83 c84 c85 c86 c87 c88 c89 c90 c91 c92 c93 c94 c95 c96 c97 c98 c99 c100 c101 c102 c103 c104 c105 c106 c107 c108 c109 c110 c111 c112 c113 c114 c115 c116 c117 c118 c119 c120 c121 c122 c123 c124 c125 c126 c127 c128 c129 c130 c131 c132 c133 c134 c135 c136 c137 c138 c139 c140 c141 c142 c143 c144 c145 c146 c147 c148 c149 c150 c151 c152 c153 c154 c155 c156 c157 c158 c159 c160 c161 c162 c163 c164 c165 c166 c167 c168 c169 c170 c171 c172 c173 c174 c175 c176 c177 c178 c179 c180 c181 c182 c183 c184 c185 c186 c187 c188 c189 c190 c191 c192 c193 c194 c195 c196 c197 c198 c199 c200 c201 c202 c203 c204 c205 c206 c207 c208 c209 c210 c211 c212 c213 c214 c215 c216 c217 c218 c219 c220 c221 c222 c223 c224 c225 c226 c227 c228 c229 c230 c231 c232 c233 c234 c235 c236 c237 c238 c239 c240 c241 c242 c243 c244 c245 c246 c247 c248 c249 c250 c251 c252 c253 c254 c255 c256 c257 c258 c259 c260 c261 c262 c263 c264 c265 c266 c267 c268 c269 c270 c271 c272 c273 c274 c275 c276 c277 c278 c279 c280 c281 c282 c283 c284 c285 c286 c287 c288 c289 c290 c291 c292 c293 c294 c295 c296 c297 c298 c299 c300 : Value) (W' : World), WW w c v0 v1 t0 s1 G S bo b g6 g7 g17 W' → Code.wp Tryd.prog (dropS 9 (Tryd.f3.body.getD .skip)) (bodyPost Tryd.prog Tryd.f3 (KP w)) ⟨#[c0, c1, .int .i64 a, .slice bo n cap, c4, c5, .pointer (some ⟨g6, 0, none⟩), .pointer (some ⟨g7, 0, none⟩), c8, c9, c10, c11, c12, c13, .pointer (some ⟨G.g, 0, none⟩), c15, .int .i64 f, .pointer (some ⟨g17, 0, none⟩), c18, c19, c20, c21, c22, c23, c24, c25, c26, c27, c28, c29, c30, c31, c32, c33, c34, c35, c36, c37, c38, c39, c40, c41, c42, c43, c44, c45, c46, c47, c48, c49, c50, c51, c52, c53, c54, c55, c56, c57, c58, c59, c60, c61, c62, c63, c64, c65, c66, c67, c68, c69, c70, c71, c72, c73, c74, c75, c76, c77, c78, c79, c80, c81, c82, c83, c84, c85, c86, c87, c88, c89, c90, c91, c92, c93, c94, c95, c96, c97, c98, c99, c100, c101, c102, c103, c104, c105, c106, c107, c108, c109, c110, c111, c112, c113, c114, c115, c116, c117, c118, c119, c120, c121, c122, c123, c124, c125, c126, c127, c128, c129, c130, c131, c132, c133, c134, c135, c136, c137, c138, c139, c140, c141, c142, c143, c144, c145, c146, c147, c148, c149, c150, c151, c152, c153, c154, c155, c156, c157, c158, c159, c160, c161, c162, c163, c164, c165, c166, c167, c168, c169, c170, c171, c172, c173, c174, c175, c176, c177, c178, c179, c180, c181, c182, c183, c184, c185, c186, c187, c188, c189, c190, c191, c192, c193, c194, c195, c196, c197, c198, c199, c200, c201, c202, c203, c204, c205, c206, c207, c208, c209, c210, c211, c212, c213, c214, c215, c216, c217, c218, c219, c220, c221, c222, c223, c224, c225, c226, c227, c228, c229, c230, c231, c232, c233, c234, c235, c236, c237, c238, c239, c240, c241, c242, c243, c244, c245, c246, c247, c248, c249, c250, c251, c252, c253, c254, c255, c256, c257, c258, c259, c260, c261, c262, c263, c264, c265, c266, c267, c268, c269, c270, c271, c272, c273, c274, c275, c276, c277, c278, c279, c280, c281, c282, c283, c284, c285, c286, c287, c288, c289, c290, c291, c292, c293, c294, c295, c296, c297, c298, c299, c300], []⟩ W') := fun c0 c1 c4 c5 c8 c9 c10 c11 c12 c13 c15 c18 c19 c20 c21 c22 c23 c24 c25 c26 c27 c28 c29 c30 c31 c32 c33 c34 c35 c36 c37 c38 c39 c40 c41 c42 c43 c44 c45 c46 c47 c48 c49 c50 c51 c52 c53 c54 c55 c56 c57 c58 c59 c60 c61 c62 c63 c64 c65 c66 c67 c68 c69 c70 c71 c72 c73 c74 c75 c76 c77 c78 c79 c80 c81 c82 c83 c84 c85 c86 c87 c88 c89 c90 c91 c92 c93 c94 c95 c96 c97 c98 c99 c100 c101 c102 c103 c104 c105 c106 c107 c108 c109 c110 c111 c112 c113 c114 c115 c116 c117 c118 c119 c120 c121 c122 c123 c124 c125 c126 c127 c128 c129 c130 c131 c132 c133 c134 c135 c136 c137 c138 c139 c140 c141 c142 c143 c144 c145 c146 c147 c148 c149 c150 c151 c152 c153 c154 c155 c156 c157 c158 c159 c160 c161 c162 c163 c164 c165 c166 c167 c168 c169 c170 c171 c172 c173 c174 c175 c176 c177 c178 c179 c180 c181 c182 c183 c184 c185 c186 c187 c188 c189 c190 c191 c192 c193 c194 c195 c196 c197 c198 c199 c200 c201 c202 c203 c204 c205 c206 c207 c208 c209 c210 c211 c212 c213 c214 c215 c216 c217 c218 c219 c220 c221 c222 c223 c224 c225 c226 c227 c228 c229 c230 c231 c232 c233 c234 c235 c236 c237 c238 c239 c240 c241 c242 c243 c244 c245 c246 c247 c248 c249 c250 c251 c252 c253 c254 c255 c256 c257 c258 c259 c260 c261 c262 c263 c264 c265 c266 c267 c268 c269 c270 c271 c272 c273 c274 c275 c276 c277 c278 c279 c280 c281 c282 c283 c284 c285 c286 c287 c288 c289 c290 c291 c292 c293 c294 c295 c296 c297 c298 c299 c300 W' hW' => aw9 A c0 c1 c4 c5 c8 c9 c10 c11 c12 c13 c15 c18 c19 c20 c21 c22 c23 c24 c25 c26 c27 c28 c29 c30 c31 c32 c33 c34 c35 c36 c37 c38 c39 c40 c41 c42 c43 c44 c45 c46 c47 c48 c49 c50 c51 c52 c53 c54 c55 c56 c57 c58 c59 c60 c61 c62 c63 c64 c65 c66 c67 c68 c69 c70 c71 c72 c73 c74 c75 c76 c77 c78 c79 c80 c81 c82 c83 c84 c85 c86 c87 c88 c89 c90 c91 c92 c93 c94 c95 c96 c97 c98 c99 c100 c101 c102 c103 c104 c105 c106 c107 c108 c109 c110 c111 c112 c113 c114 c115 c116 c117 c118 c119 c120 c121 c122 c123 c124 c125 c126 c127 c128 c129 c130 c131 c132 c133 c134 c135 c136 c137 c138 c139 c140 c141 c142 c143 c144 c145 c146 c147 c148 c149 c150 c151 c152 c153 c154 c155 c156 c157 c158 c159 c160 c161 c162 c163 c164 c165 c166 c167 c168 c169 c170 c171 c172 c173 c174 c175 c176 c177 c178 c179 c180 c181 c182 c183 c184 c185 c186 c187 c188 c189 c190 c191 c192 c193 c194 c195 c196 c197 c198 c199 c200 c201 c202 c203 c204 c205 c206 c207 c208 c209 c210 c211 c212 c213 c214 c215 c216 c217 c218 c219 c220 c221 c222 c223 c224 c225 c226 c227 c228 c229 c230 c231 c232 c233 c234 c235 c236 c237 c238 c239 c240 c241 c242 c243 c244 c245 c246 c247 c248 c249 c250 c251 c252 c253 c254 c255 c256 c257 c258 c259 c260 c261 c262 c263 c264 c265 c266 c267 c268 c269 c270 c271 c272 c273 c274 c275 c276 c277 c278 c279 c280 c281 c282 c283 c284 c285 c286 c287 c288 c289 c290 c291 c292 c293 c294 c295 c296 c297 c298 c299 c300 w W' hW' n cap hbn a f hbl hx
  have HW : Hid (WW w c v0 v1 t0 s1 G S bo b g6 g7 g17 Wa) := hw
  have HL0 : Hid (∀ W', WW w c v0 v1 t0 s1 G S bo b g6 g7 g17 W' → W'.cell? ⟨g6, 6, none⟩ = some (.int .i64 c.area) ∧ W'.cell? ⟨g7, 0, none⟩ = some (.slice v0.po s1.pages.length v0.pc) ∧ W'.cell? ⟨g17, 0, none⟩ = some (.slice v1.po s1.pages.length v1.pc)) := fun W' hW' => by
    have x2 := hW'.r7.cell 0 (.slice v0.po t0.pages.length v0.pc) rfl
    rw [hpl] at x2
    exact ⟨hW'.r6.cell 6 _ rfl, x2, hW'.r17.cell 0 _ rfl⟩
  have HRD : Hid (∀ W', WW w c v0 v1 t0 s1 G S bo b g6 g7 g17 W' → ∀ p, p < s1.pages.length → ¬ (Mine a c.area p ∧ (f = 0 ∨ f = 8)) → ∃ B0 o0 q0 c0 B1 o1 q1 c1, v0.po = some ⟨B0, o0, none⟩ ∧ v1.po = some ⟨B1, o1, none⟩ ∧ W'.cell? ⟨B0, o0 + p, none⟩ = some (.slice q0 (s1.pages.getD p []).length c0) ∧ W'.cell? ⟨B1, o1 + p, none⟩ = some (.slice q1 (s1.pages.getD p []).length c1) ∧ IsL W' q0 ((s1.pages.getD p []).flatten.map B8) ∧ IsL W' q1 ((s1.pages.getD p []).flatten.map B8) ∧ (∀ x ∈ s1.pages.getD p [], x.length = 32) ∧ (s1.pages.getD p []).length ≤ 140737488355328) := fun W' hW' p hp hm => by
    obtain ⟨B0, o0, q0, c0, e0, f0, i0, _⟩ := hW'.sv0.page p (by rw [hpl]; exact hp)
    obtain ⟨B1, o1, q1, c1, e1, f1, i1, x1⟩ := hW'.sv1.page p hp
    rw [hpg p hp hm] at f0 i0
    refine ⟨B0, o0, q0, c0, B1, o1, q1, c1, e0, e1, f0, f1, i0, i1, x1, ?_⟩
    have h1 := (hW'.ca.ok.pgLen p hp).1
    have h2 := hW'.ca.ok.c2
    omega
  have HP9 : Hid (s1.pages.length ≤ 140737488355328) := by have := hw.ca.ok.pg; show _ ≤ _; omega
  clear hw hx hbl hpg hpl
  generalize hPL : s1.pages.length = PL at *
  clear hPL
  generalize c.area = AR at *
  conv => arg 2; whnf
  refine wp_seq_k fun K hK => ?_
  have HKK : Hid _ := hK
  clear hK
  go_wp2
  go_loopw [18] (fun iv wr => ∃ p : Nat, p ≤ PL ∧ iv = .int .i64 p ∧ Hid (WW w c v0 v1 t0 s1 G S bo b g6 g7 g17 wr)) (fun iv _ => PL - (intOf iv).toNat)
  case atStart => exact ⟨0, by omega, rfl, HW.out⟩
  case round =>
    clear HW
    obtain ⟨p, hp, rfl, HWR⟩ := hrel
    obtain ⟨x1, x2, x3⟩ := HL0.out wr HWR.out
    have hp9 := HP9.out
    by_cases hlt : p < PL
    · have y0 : (0 : Int) ≤ (p : Int) := by omega
      have y1 : (p : Int) < (PL : Int) := by omega
      obtain ⟨MV, hMV⟩ : ∃ MV : Bool, MV = true ↔ Mine a AR p := by
        by_cases h : Mine a AR p
        · exact ⟨true, by simp [h]⟩
        · exact ⟨false, by simp [h]⟩
      have HMV : Hid (MV = true ↔ Mine a AR p) := hMV
      clear hMV
      obtain ⟨wo, hwo⟩ : ∃ wo, wo = wr := ⟨wr, rfl⟩
      subst hwo
      go_upto_region 13 with fail
      go_cut [19] (fun s19 wx => s19 = .bool MV ∧ wo = wx)
      case first =>
        clear HNX HRD HL0 HKK
        by_cases h01 : a = 0 ∨ a = 1
        · have hb1 : 0 ≤ a * AR ∧ a * AR ≤ 64 := by
            rcases h01 with rfl | rfl
            · rw [Int.zero_mul]; omega
            · rw [Int.one_mul]; omega
          have hb2 : 0 ≤ (a + 1) * AR ∧ (a + 1) * AR ≤ 128 := by
            rcases h01 with rfl | rfl
            · rw [Int.zero_add, Int.one_mul]; omega
            · show 0 ≤ (2 : Int) * AR ∧ (2 : Int) * AR ≤ 128; omega
          obtain ⟨AA, hAA⟩ : ∃ AA, AA = a * AR := ⟨_, rfl⟩
          obtain ⟨A1, hA1⟩ : ∃ A1, A1 = a + 1 := ⟨_, rfl⟩
          obtain ⟨AB, hAB⟩ : ∃ AB, AB = A1 * AR := ⟨_, rfl⟩
          obtain ⟨LO, hLO⟩ : ∃ LO, LO = 2 + AA := ⟨_, rfl⟩
          obtain ⟨HI, hHI⟩ : ∃ HI, HI = 2 + AB := ⟨_, rfl⟩
          have hb1' : 0 ≤ AA ∧ AA ≤ 64 := by rw [hAA]; exact hb1
          have hb2' : 0 ≤ AB ∧ AB ≤ 128 := by rw [hAB, hA1]; exact hb2
          have w1 : IntKind.i64.wrap (a * AR) = AA := by rw [← hAA]; exact i64_in _ (by omega) (by omega)
          have w2 : IntKind.i64.wrap (2 + AA) = LO := by rw [hLO]; exact i64_in _ (by omega) (by omega)
          have w3 : IntKind.i64.wrap (a + 1) = A1 := by rw [hA1]; exact i64_in _ (by omega) (by omega)
          have w4 : IntKind.i64.wrap (A1 * AR) = AB := by rw [← hAB]; exact i64_in _ (by omega) (by omega)
          have w5 : IntKind.i64.wrap (2 + AB) = HI := by rw [hHI]; exact i64_in _ (by omega) (by omega)
          have HM2 : Hid (MV = true ↔ (LO ≤ (p : Int) ∧ (p : Int) < HI)) := by
            refine HMV.out.trans ?_
            unfold Mine
            rw [hLO, hHI, hAB, hAA, hA1]
            exact ⟨fun h => h.2, fun h => ⟨h01, h⟩⟩
          clear HMV hb1 hb2 hb1' hb2' hLO hHI hAB hAA hA1
          rcases h01 with h01 | h01
          · have k0 : (a == 0) = true := by rw [h01]; rfl
            clear h01
            by_cases k1 : LO ≤ (p : Int)
            · have k1' : (p : Int) ≥ LO := k1
              by_cases k2 : (p : Int) < HI
              · obtain rfl : MV = true := HM2.out.2 ⟨k1, k2⟩
                go_wp2
                go_meet
                case rel => exact ⟨rfl, rfl⟩
              · obtain rfl : MV = false := by
                  cases MV with
                  | false => rfl
                  | true => exact absurd (HM2.out.1 rfl).2 k2
                go_wp2
                go_meet
                case rel => exact ⟨rfl, rfl⟩
            · obtain rfl : MV = false := by
                cases MV with
                | false => rfl
                | true => exact absurd (HM2.out.1 rfl).1 k1
              have k1' : ¬ (p : Int) ≥ LO := k1
              go_wp2
              go_meet
              case rel => exact ⟨rfl, rfl⟩
          · have k0 : (a == 0) = false := by rw [h01]; rfl
            have k00 : (a == 1) = true := by rw [h01]; rfl
            clear h01
            by_cases k1 : LO ≤ (p : Int)
            · have k1' : (p : Int) ≥ LO := k1
              by_cases k2 : (p : Int) < HI
              · obtain rfl : MV = true := HM2.out.2 ⟨k1, k2⟩
                go_wp2
                go_meet
                case rel => exact ⟨rfl, rfl⟩
              · obtain rfl : MV = false := by
                  cases MV with
                  | false => rfl
                  | true => exact absurd (HM2.out.1 rfl).2 k2
                go_wp2
                go_meet
                case rel => exact ⟨rfl, rfl⟩
            · obtain rfl : MV = false := by
                cases MV with
                | false => rfl
                | true => exact absurd (HM2.out.1 rfl).1 k1
              have k1' : ¬ (p : Int) ≥ LO := k1
              go_wp2
              go_meet
              case rel => exact ⟨rfl, rfl⟩
        · obtain rfl : MV = false := by
            cases MV with
            | false => rfl
            | true => exact absurd (HMV.out.1 rfl).1 h01
          have k1 : (a == 0) = false := by rw [beq_eq_false_iff_ne]; exact fun h => h01 (.inl h)
          have k2 : (a == 1) = false := by rw [beq_eq_false_iff_ne]; exact fun h => h01 (.inr h)
          go_wp2
          go_meet
          case rel => exact ⟨rfl, rfl⟩
      case rest =>
        obtain ⟨rfl, rfl⟩ := hcut
        obtain ⟨SK, hSK⟩ : ∃ SK : Bool, SK = true ↔ (MV = true ∧ (f = 0 ∨ f = 8)) := by
          by_cases h : MV = true ∧ (f = 0 ∨ f = 8)
          · exact ⟨true, by simp [h]⟩
          · exact ⟨false, by simp only [Bool.false_eq_true, false_iff]; exact h⟩
        have HSK : Hid (SK = true ↔ (MV = true ∧ (f = 0 ∨ f = 8))) := hSK
        clear hSK
        go_upto_region 14 with fail
        go_cut [125] (fun s125 wx => s125 = .bool SK ∧ wo = wx)
        case first =>
          clear HNX HRD HL0 HKK HMV
          cases MV with
          | false =>
            obtain rfl : SK = false := by
              cases SK with
              | false => rfl
              | true => exact absurd (HSK.out.1 rfl).1 (by decide)
            go_wp2
            go_meet
            case rel => exact ⟨rfl, rfl⟩
          | true =>
            by_cases hf0 : f = 0
            · obtain rfl : SK = true := HSK.out.2 ⟨rfl, .inl hf0⟩
              subst hf0
              go_wp2
              go_meet
              case rel => exact ⟨rfl, rfl⟩
            · have k1 : (f == 0) = false := by rw [beq_eq_false_iff_ne]; exact hf0
              by_cases hf8 : f = 8
              · obtain rfl : SK = true := HSK.out.2 ⟨rfl, .inr hf8⟩
                subst hf8
                go_wp2
                go_meet
                case rel => exact ⟨rfl, rfl⟩
              · obtain rfl : SK = false := by
                  cases SK with
                  | false => rfl
                  | true => rcases (HSK.out.1 rfl).2 with h | h; · exact absurd h hf0
                            · exact absurd h hf8
                have k2 : (f == 8) = false := by rw [beq_eq_false_iff_ne]; exact hf8
                go_wp2
                go_meet
                case rel => exact ⟨rfl, rfl⟩
        case rest =>
          obtain ⟨rfl, rfl⟩ := hcut
          cases SK with
          | true =>
            clear HNX HRD HL0
            go_wp2
            exact ⟨⟨p + 1, by omega, by go_num, HWR.out⟩, by simp [intOf]; omega⟩
          | false =>
            have hnm : ¬ (Mine a AR p ∧ (f = 0 ∨ f = 8)) := fun h => absurd (HSK.out.2 ⟨HMV.out.2 h.1, h.2⟩) (by decide)
            obtain ⟨B0, o0, q0, d0, B1, o1, q1, d1, e0, e1, f0, f1, i0, i1, x32, l9⟩ := HRD.out _ HWR.out p hlt hnm
            rw [e0] at x2
            rw [e1] at x3
            have HI0 : Hid (IsL wo q0 ((s1.pages.getD p []).flatten.map B8)) := i0
            have HI1 : Hid (IsL wo q1 ((s1.pages.getD p []).flatten.map B8)) := i1
            have HXA : Hid (∀ x ∈ s1.pages.getD p [], x.length = 32) := x32
            clear e0 e1 i0 i1 x32 hnm HSK HMV HRD HL0 HNX
            generalize s1.pages.getD p [] = PA at *
            go_wp2
            go_loopw [20] (fun iv wq => ∃ i : Nat, i ≤ PA.length ∧ iv = .int .i64 i ∧ Dr wo wq) (fun iv _ => PA.length - (intOf iv).toNat)
            case atStart => exact ⟨0, by omega, rfl, Dr.refl _⟩
            case round =>
              obtain ⟨i, hi, rfl, d2⟩ := hrel
              have x2q := d2.cell x2
              have x3q := d2.cell x3
              have f0q := d2.cell f0
              have f1q := d2.cell f1
              by_cases hil : i < PA.length
              · have z1 : (i : Int) < (PA.length : Int) := by omega
                have z0 : (0 : Int) ≤ (i : Int) := by omega
                have fa := flat_len _ HXA.out
                obtain ⟨QA, pA, eqa, rga⟩ := (HI1.out.dr d2).range (i * 32) 32 (by omega) (by rw [List.length_map, fa]; omega)
                obtain ⟨QB, pB, eqb, rgb⟩ := (HI0.out.dr d2).range (i * 32) 32 (by omega) (by rw [List.length_map, fa]; omega)
                rw [← List.map_drop, ← List.map_take, Nat.mul_comm i 32, flat_seg _ HXA.out i hil, Nat.mul_comm 32 i] at rga rgb
                have lxA : (PA.getD i []).length = 32 := by rw [List.getD_eq_getElem?_getD, List.getElem?_eq_getElem hil]; exact HXA.out _ (List.getElem_mem _)
                rw [eqa] at f1q
                rw [eqb] at f0q
                clear eqa eqb fa
                have hq := eq_cell (PA.getD i []) (PA.getD i []) lxA lxA
                rw [decide_eq_true rfl] at hq
                clear f0 f1 x2 x3
                generalize PA.getD i [] = XA at *
                go_wp2
                refine wp_region_still_lit (by kernel_rfl) (by kernel_rfl) ?_
                have hdz : Dr wr { wr with drawn := wr.drawn + 1 } := ⟨1, rfl⟩
                generalize { wr with drawn := wr.drawn + 1 } = wz at hdz ⊢
                replace x2q := hdz.cell x2q
                replace x3q := hdz.cell x3q
                replace f0q := hdz.cell f0q
                replace f1q := hdz.cell f1q
                have rgaz : wz.rangeAt QA (pA + i * 32) (XA.map B8) := fun j v hv => hdz.cell (rga j v hv)
                have rgbz : wz.rangeAt QB (pB + i * 32) (XA.map B8) := fun j v hv => hdz.cell (rgb j v hv)
                still_step
                still_step
                still_step
                still_step
                still_step
                still_step
                still_step
                refine wpStill_load_range rfl 40 _ rfl QA (pA + i * 32) 32 _ rgaz rfl _ (by rw [List.length_map]; exact lxA) Tryd.underlying40 rfl (by kernel_rfl) ?_
                still_step
                still_step
                still_step
                still_step
                still_step
                still_step
                still_step
                refine wpStill_load_range rfl 40 _ rfl QB (pB + i * 32) 32 _ rgbz rfl _ (by rw [List.length_map]; exact lxA) Tryd.underlying40 rfl (by kernel_rfl) ?_
                still_step
                refine wpStill_nil ?_
                go_wp2
                exact ⟨⟨i + 1, by omega, by go_num, d2.trans hdz⟩, by simp [intOf]; omega⟩
              · obtain rfl : i = PA.length := by omega
                have z1 : ¬ (PA.length : Int) < (PA.length : Int) := by omega
                have HWN : Hid (WW w c v0 v1 t0 s1 G S bo b g6 g7 g17 wr) := HWR.out.below (Below_dr (Below.refl _ _) d2)
                clear f0 f1 x2 x3
                go_wp2
                exact ⟨⟨p + 1, by omega, by go_num, HWN.out⟩, by simp [intOf]; omega⟩
    · obtain rfl : p = PL := by omega
      have y1 : ¬ ((p : Nat) : Int) < (p : Int) := by omega
      go_wp2
      refine HKK.out _ _ ?_
      exact HNX.out _ _ _ _ _ _ _ _ _ _ _ _ _ _ _ _ _ _ _ _ _ _ _ _ _ _ _ _ _ _ _ _ _ _ _ _ _ _ _ _ _ _ _ _ _ _ _ _ _ _ _ _ _ _ _ _ _ _ _ _ _ _ _ _ _ _ _ _ _ _ _ _ _ _ _ _ _ _ _ _ _ _ _ _ _ _ _ _ _ _ _ _ _ _ _ _ _ _ _ _ _ _ _ _ _ _ _ _ _ _ _ _ _ _ _ _ _ _ _ _ _ _ _ _ _ _ _ _ _ _ _ _ _ _ _ _ _ _ _ _ _ _ _ _ _ _ _ _ _ _ _ _ _ _ _ _ _ _ _ _ _ _ _ _ _ _ _ _ _ _ _ _ _ _ _ _ _ _ _ _ _ _ _ _ _ _ _ _ _ _ _ _ _ _ _ _ _ _ _ _ _ _ _ _ _ _ _ _ _ _ _ _ _ _ _ _ _ _ _ _ _ _ _ _ _ _ _ _ _ _ _ _ _ _ _ _ _ _ _ _ _ _ _ _ _ _ _ _ _ _ _ _ _ _ _ _ _ _ _ _ _ _ _ _ _ _ _ _ _ _ _ _ _ _ _ _ _ _ _ _ _ _ _ _ _ _ _ _ _ _ _ _ _ _ _ HWR.out
end Go.Proofs.YtcpdanjbnijoiaaDoor
