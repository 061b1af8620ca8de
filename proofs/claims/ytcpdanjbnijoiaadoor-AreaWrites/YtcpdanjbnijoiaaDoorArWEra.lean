
import Derived.Test.YtcpdanjbnijoiaaDoorArWEnd
/-! AreaWrites: how often the pages were erased. (Printed by tools/genaw14.py.) -/
namespace Go.Proofs.YtcpdanjbnijoiaaDoor
open Go.RowKit
set_option linter.unusedVariables false
set_option maxRecDepth 1000000

def dE (s1 : RS) (t0 : St) (a : Int) (m : Nat) : Int := sumTo (fun p => s1.erases.getD (s1.pgN a p) 0 - t0.erases.getD (s1.pgN a p) 0) m
theorem dE_bound {s1 : RS} {t0 : St} {a : Int} (h : ∀ q, t0.erases.getD q 0 ≤ s1.erases.getD q 0 ∧ s1.erases.getD q 0 ≤ t0.erases.getD q 0 + 1) : ∀ m, 0 ≤ dE s1 t0 a m ∧ dE s1 t0 a m ≤ m
  | 0 => by have e : dE s1 t0 a 0 = 0 := rfl; omega
  | m + 1 => by
    have ih := dE_bound (a := a) h m
    have := h (s1.pgN a m)
    have e : dE s1 t0 a (m + 1) = dE s1 t0 a m + (s1.erases.getD (s1.pgN a m) 0 - t0.erases.getD (s1.pgN a m) 0) := rfl
    omega
theorem er_at {w : World} {v : SV} {t : St} (h : StV w v t) (j : Nat) (hj : j < t.erases.length) : ∃ B off, v.eo = some ⟨B, off, none⟩ ∧ w.cell? ⟨B, off + j, none⟩ = some (.int .i64 (t.erases.getD j 0)) :=
  h.er.cell j _ (by rw [List.getElem?_map, List.getD_eq_getElem?_getD, List.getElem?_eq_getElem hj]; rfl)

set_option maxHeartbeats 2000000 in
theorem aw18 (c0 c1 c4 c5 c8 c9 c10 c11 c12 c13 c15 c16 c18 c19 c20 c21 c23 c24 c25 c26 c28 c29 c30 c31 c32 c33 c34 c35 c36 c37 c38 c39 c40 c41 c42 c43 c44 c45 c46 c47 c48 c49 c50 c51 c52 c53 c54 c55 c56 c57 c58 c59 c60 c61 c62 c63 c64 c65 c66 c67 c68 c69 c70 c71 c72 c73 c74 c75 c76 c77 c78 c79 c80 c81 c82 c83 c84 c85 c86 c87 c88 c89 c90 c91 c92 c93 c94 c95 c96 c97 c98 c99 c100 c101 c102 c103 c104 c105 c106 c107 c108 c109 c110 c111 c112 c113 c114 c115 c116 c117 c118 c119 c120 c121 c122 c123 c124 c125 c126 c127 c128 c129 c130 c131 c132 c133 c134 c135 c136 c137 c138 c139 c140 c141 c142 c143 c144 c145 c146 c147 c148 c149 c150 c151 c152 c153 c154 c155 c156 c157 c158 c159 c160 c161 c162 c163 c164 c165 c166 c167 c168 c169 c170 c171 c172 c173 c174 c175 c176 c177 c178 c179 c180 c181 c182 c183 c184 c185 c186 c187 c188 c189 c190 c191 c192 c193 c194 c195 c196 c197 c198 c199 c200 c201 c202 c203 c204 c205 c206 c207 c208 c209 c210 c211 c212 c213 c214 c215 c216 c217 c218 c219 c220 c221 c222 c223 c224 c225 c226 c227 c228 c229 c230 c231 c232 c233 c234 c235 c236 c237 c238 c239 c240 c241 c242 c243 c244 c245 c246 c247 c248 c249 c250 c251 c252 c253 c254 c255 c256 c257 c258 c259 c260 c261 c262 c263 c264 c265 c266 c267 c268 c269 c270 c271 c272 c273 c274 c275 c276 c277 c278 c279 c280 c281 c282 c283 c284 c285 c286 c287 c288 c289 c290 c291 c292 c293 c294 c295 c296 c297 c298 c299 c300 : Value) (w Wa : World) {c : Cfg} {v0 v1 : SV} {t0 : St} {s1 : RS} {G : RF} {S : ByteArray} {bo : Option Addr} {b : List By} {g6 g7 g17 : Nat} (hw : WW w c v0 v1 t0 s1 G S bo b g6 g7 g17 Wa) (n cap : Nat) (hn : n ≤ 600000) (a : Int) (ha : a = 0 ∨ a = 1) (hA : s1.Ar) (hc : s1.c = c) (hel : t0.erases.length = s1.erases.length)
    (hpe : ∀ q, t0.erases.getD q 0 ≤ s1.erases.getD q 0 ∧ s1.erases.getD q 0 ≤ t0.erases.getD q 0 + 1) (wh bl : Bool)
    (hx : (s1.n = dE s1 t0 a c.area.toNat + ((n + 31) / 32 : Nat) ∧ wh = true) ∨ (s1.n < dE s1 t0 a c.area.toNat + ((n + 31) / 32 : Nat) ∧ (bl = true ∨ s1.n = dE s1 t0 a c.area.toNat))) : Code.wp Tryd.prog (dropS 18 (Tryd.f3.body.getD .skip)) (bodyPost Tryd.prog Tryd.f3 (KP w)) ⟨#[c0, c1, .int .i64 a, .slice bo n cap, c4, c5, .pointer (some ⟨g6, 0, none⟩), .pointer (some ⟨g7, 0, none⟩), c8, c9, c10, c11, c12, c13, .pointer (some ⟨G.g, 0, none⟩), c15, c16, .pointer (some ⟨g17, 0, none⟩), c18, c19, c20, c21, .bool wh, c23, c24, c25, c26, .bool bl, c28, c29, c30, c31, c32, c33, c34, c35, c36, c37, c38, c39, c40, c41, c42, c43, c44, c45, c46, c47, c48, c49, c50, c51, c52, c53, c54, c55, c56, c57, c58, c59, c60, c61, c62, c63, c64, c65, c66, c67, c68, c69, c70, c71, c72, c73, c74, c75, c76, c77, c78, c79, c80, c81, c82, c83, c84, c85, c86, c87, c88, c89, c90, c91, c92, c93, c94, c95, c96, c97, c98, c99, c100, c101, c102, c103, c104, c105, c106, c107, c108, c109, c110, c111, c112, c113, c114, c115, c116, c117, c118, c119, c120, c121, c122, c123, c124, c125, c126, c127, c128, c129, c130, c131, c132, c133, c134, c135, c136, c137, c138, c139, c140, c141, c142, c143, c144, c145, c146, c147, c148, c149, c150, c151, c152, c153, c154, c155, c156, c157, c158, c159, c160, c161, c162, c163, c164, c165, c166, c167, c168, c169, c170, c171, c172, c173, c174, c175, c176, c177, c178, c179, c180, c181, c182, c183, c184, c185, c186, c187, c188, c189, c190, c191, c192, c193, c194, c195, c196, c197, c198, c199, c200, c201, c202, c203, c204, c205, c206, c207, c208, c209, c210, c211, c212, c213, c214, c215, c216, c217, c218, c219, c220, c221, c222, c223, c224, c225, c226, c227, c228, c229, c230, c231, c232, c233, c234, c235, c236, c237, c238, c239, c240, c241, c242, c243, c244, c245, c246, c247, c248, c249, c250, c251, c252, c253, c254, c255, c256, c257, c258, c259, c260, c261, c262, c263, c264, c265, c266, c267, c268, c269, c270, c271, c272, c273, c274, c275, c276, c277, c278, c279, c280, c281, c282, c283, c284, c285, c286, c287, c288, c289, c290, c291, c292, c293, c294, c295, c296, c297, c298, c299, c300], []⟩ Wa := by
  obtain ⟨A, hAe⟩ : ∃ A : Nat, c.area = (A : Int) := Int.eq_ofNat_of_zero_le (by have := hA.area; rw [hc] at this; omega)
  have hA64 : A ≤ 64 := by have := hA.area; rw [hc] at this; omega
  have hAt : c.area.toNat = A := by omega
  rw [hAt] at hx
  have HNX : Hid (∀ (c0 c1 c4 c5 c8 c9 c10 c11 c12 c13 c15 c16 c18 c19 c20 c21 c23 c24 c25 c26 c28 c29 c30 c33 c34 c35 c36 c37 c38 c39 c40 c41 c42 c43 c44 c45 c46 c47 c48 c49 c50 c51 c52 c53 c54 c55 c56 c57 c58 c59 c60 c61 c62 c63 c64 c65 c66 c67 c68 c69 c70 c71 c72 c73 c74 c75 c76 c77 c78 c79 c80 c81 c82 c83 c84 c85 c86 c87 c88 c89 c90 c91 c92 c93 c94 c95 c96 c97 c98 c99 c100 c101 c102 c103 c104 c105 c106 c107 c108 c109 c110 c111 c112 c113 c114 c115 c116 c117 c118 c119 c120 c121 c122 c123 c124 c125 c126 c127 c128 c129 c130 c131 c132 c133 c134 c135 c136 c137 c138 c139 c140 c141 c142 c143 c144 c145 c146 c147 c148 c149 c150 c151 c152 c153 c154 c155 c156 c157 c158 c159 c160 c161 c162 c163 c164 c165 c166 c167 c168 c169 c170 c171 c172 c173 c174 c175 c176 c177 c178 c179 c180 c181 c182 c183 c184 c185 c186 c187 c188 c189 c190 c191 c192 c193 c194 c195 c196 c197 c198 c199 c200 c201 c202 c203 c204 c205 c206 c207 c208 c209 c210 c211 c212 c213 c214 c215 c216 c217 c218 c219 c220 c221 c222 c223 c224 c225 c226 c227 c228 c229 c230 c231 c232 c233 c234 c235 c236 c237 c238 c239 c240 c241 c242 c243 c244 c245 c246 c247 c248 c249 c250 c251 c252 c253 c254 c255 c256 c257 c258 c259 c260 c261 c262 c263 c264 c265 c266 c267 c268 c269 c270 c271 c272 c273 c274 c275 c276 c277 c278 c279 c280 c281 c282 c283 c284 c285 c286 c287 c288 c289 c290 c291 c292 c293 c294 c295 c296 c297 c298 c299 c300 : Value) (W' : World), WW w c v0 v1 t0 s1 G S bo b g6 g7 g17 W' → Code.wp Tryd.prog (dropS 21 (Tryd.f3.body.getD .skip)) (bodyPost Tryd.prog Tryd.f3 (KP w)) ⟨#[c0, c1, .int .i64 a, .slice bo n cap, c4, c5, .pointer (some ⟨g6, 0, none⟩), .pointer (some ⟨g7, 0, none⟩), c8, c9, c10, c11, c12, c13, .pointer (some ⟨G.g, 0, none⟩), c15, c16, .pointer (some ⟨g17, 0, none⟩), c18, c19, c20, c21, .bool wh, c23, c24, c25, c26, .bool bl, c28, c29, c30, .int .i64 (((n + 31) / 32 : Nat) : Int), .int .i64 (dE s1 t0 a A), c33, c34, c35, c36, c37, c38, c39, c40, c41, c42, c43, c44, c45, c46, c47, c48, c49, c50, c51, c52, c53, c54, c55, c56, c57, c58, c59, c60, c61, c62, c63, c64, c65, c66, c67, c68, c69, c70, c71, c72, c73, c74, c75, c76, c77, c78, c79, c80, c81, c82, c83, c84, c85, c86, c87, c88, c89, c90, c91, c92, c93, c94, c95, c96, c97, c98, c99, c100, c101, c102, c103, c104, c105, c106, c107, c108, c109, c110, c111, c112, c113, c114, c115, c116, c117, c118, c119, c120, c121, c122, c123, c124, c125, c126, c127, c128, c129, c130, c131, c132, c133, c134, c135, c136, c137, c138, c139, c140, c141, c142, c143, c144, c145, c146, c147, c148, c149, c150, c151, c152, c153, c154, c155, c156, c157, c158, c159, c160, c161, c162, c163, c164, c165, c166, c167, c168, c169, c170, c171, c172, c173, c174, c175, c176, c177, c178, c179, c180, c181, c182, c183, c184, c185, c186, c187, c188, c189, c190, c191, c192, c193, c194, c195, c196, c197, c198, c199, c200, c201, c202, c203, c204, c205, c206, c207, c208, c209, c210, c211, c212, c213, c214, c215, c216, c217, c218, c219, c220, c221, c222, c223, c224, c225, c226, c227, c228, c229, c230, c231, c232, c233, c234, c235, c236, c237, c238, c239, c240, c241, c242, c243, c244, c245, c246, c247, c248, c249, c250, c251, c252, c253, c254, c255, c256, c257, c258, c259, c260, c261, c262, c263, c264, c265, c266, c267, c268, c269, c270, c271, c272, c273, c274, c275, c276, c277, c278, c279, c280, c281, c282, c283, c284, c285, c286, c287, c288, c289, c290, c291, c292, c293, c294, c295, c296, c297, c298, c299, c300], []⟩ W') := fun c0 c1 c4 c5 c8 c9 c10 c11 c12 c13 c15 c16 c18 c19 c20 c21 c23 c24 c25 c26 c28 c29 c30 c33 c34 c35 c36 c37 c38 c39 c40 c41 c42 c43 c44 c45 c46 c47 c48 c49 c50 c51 c52 c53 c54 c55 c56 c57 c58 c59 c60 c61 c62 c63 c64 c65 c66 c67 c68 c69 c70 c71 c72 c73 c74 c75 c76 c77 c78 c79 c80 c81 c82 c83 c84 c85 c86 c87 c88 c89 c90 c91 c92 c93 c94 c95 c96 c97 c98 c99 c100 c101 c102 c103 c104 c105 c106 c107 c108 c109 c110 c111 c112 c113 c114 c115 c116 c117 c118 c119 c120 c121 c122 c123 c124 c125 c126 c127 c128 c129 c130 c131 c132 c133 c134 c135 c136 c137 c138 c139 c140 c141 c142 c143 c144 c145 c146 c147 c148 c149 c150 c151 c152 c153 c154 c155 c156 c157 c158 c159 c160 c161 c162 c163 c164 c165 c166 c167 c168 c169 c170 c171 c172 c173 c174 c175 c176 c177 c178 c179 c180 c181 c182 c183 c184 c185 c186 c187 c188 c189 c190 c191 c192 c193 c194 c195 c196 c197 c198 c199 c200 c201 c202 c203 c204 c205 c206 c207 c208 c209 c210 c211 c212 c213 c214 c215 c216 c217 c218 c219 c220 c221 c222 c223 c224 c225 c226 c227 c228 c229 c230 c231 c232 c233 c234 c235 c236 c237 c238 c239 c240 c241 c242 c243 c244 c245 c246 c247 c248 c249 c250 c251 c252 c253 c254 c255 c256 c257 c258 c259 c260 c261 c262 c263 c264 c265 c266 c267 c268 c269 c270 c271 c272 c273 c274 c275 c276 c277 c278 c279 c280 c281 c282 c283 c284 c285 c286 c287 c288 c289 c290 c291 c292 c293 c294 c295 c296 c297 c298 c299 c300 W' hW' => by
    refine aw21 _ _ _ _ _ _ _ _ _ _ _ _ _ _ _ _ _ _ _ _ _ _ _ _ _ _ _ _ _ _ _ _ _ _ _ _ _ _ _ _ _ _ _ _ _ _ _ _ _ _ _ _ _ _ _ _ _ _ _ _ _ _ _ _ _ _ _ _ _ _ _ _ _ _ _ _ _ _ _ _ _ _ _ _ _ _ _ _ _ _ _ _ _ _ _ _ _ _ _ _ _ _ _ _ _ _ _ _ _ _ _ _ _ _ _ _ _ _ _ _ _ _ _ _ _ _ _ _ _ _ _ _ _ _ _ _ _ _ _ _ _ _ _ _ _ _ _ _ _ _ _ _ _ _ _ _ _ _ _ _ _ _ _ _ _ _ _ _ _ _ _ _ _ _ _ _ _ _ _ _ _ _ _ _ _ _ _ _ _ _ _ _ _ _ _ _ _ _ _ _ _ _ _ _ _ _ _ _ _ _ _ _ _ _ _ _ _ _ _ _ _ _ _ _ _ _ _ _ _ _ _ _ _ _ _ _ _ _ _ _ _ _ _ _ _ _ _ _ _ _ _ _ _ _ _ _ _ _ _ _ _ _ _ _ _ _ _ _ _ _ _ _ _ _ _ _ _ _ _ _ _ _ _ _ _ _ _ _ _ _ _ _ _ _ _ _ w W' hW'.bel G s1 S hW'.ca wh bl _ _ ?_ ?_ hx
    · have := dE_bound (a := a) hpe A; omega
    · have : (n + 31) / 32 ≤ 20000 := by omega
      omega
  have HW : Hid (WW w c v0 v1 t0 s1 G S bo b g6 g7 g17 Wa) := hw
  have HRD : Hid (∀ W', WW w c v0 v1 t0 s1 G S bo b g6 g7 g17 W' → ∀ p, p < A → ∃ B0 o0 B1 o1, v0.eo = some ⟨B0, o0, none⟩ ∧ v1.eo = some ⟨B1, o1, none⟩ ∧ W'.cell? ⟨B0, o0 + s1.pgN a p, none⟩ = some (.int .i64 (t0.erases.getD (s1.pgN a p) 0)) ∧ W'.cell? ⟨B1, o1 + s1.pgN a p, none⟩ = some (.int .i64 (s1.erases.getD (s1.pgN a p) 0)) ∧ IntKind.i64.wrap (2 + a * (A : Int) + (p : Int)) = ((s1.pgN a p : Nat) : Int) ∧ s1.pgN a p < s1.erases.length ∧ IntKind.i64.wrap (s1.erases.getD (s1.pgN a p) 0 - t0.erases.getD (s1.pgN a p) 0) = s1.erases.getD (s1.pgN a p) 0 - t0.erases.getD (s1.pgN a p) 0 ∧ IntKind.i64.wrap (dE s1 t0 a p + (s1.erases.getD (s1.pgN a p) 0 - t0.erases.getD (s1.pgN a p) 0)) = dE s1 t0 a (p + 1)) := fun W' hW' p hp => by
    obtain ⟨_, _, n3⟩ := hA.nums ha
    rw [hc, hAe] at n3
    obtain ⟨m1, m2, m3⟩ := n3 p (by omega)
    obtain ⟨B0, o0, e0, f0⟩ := er_at hW'.sv0 (s1.pgN a p) (by rw [hel]; exact m3)
    obtain ⟨B1, o1, e1, f1⟩ := er_at hW'.sv1 (s1.pgN a p) m3
    have h5 := hpe (s1.pgN a p)
    have h6 := dE_bound (a := a) hpe p
    have h7 : dE s1 t0 a (p + 1) = dE s1 t0 a p + (s1.erases.getD (s1.pgN a p) 0 - t0.erases.getD (s1.pgN a p) 0) := rfl
    refine ⟨B0, o0, B1, o1, e0, e1, f0, f1, m1, m3, i64_in _ (by omega) (by omega), ?_⟩
    rw [h7]; exact i64_in _ (by omega) (by omega)
  obtain ⟨_, n2, _⟩ := hA.nums ha
  rw [hc, hAe] at n2
  obtain ⟨n1, _, _⟩ := hA.nums ha
  rw [hc, hAe] at n1
  have q1 : IntKind.i64.wrap ((n : Int) + 31) = ((n + 31 : Nat) : Int) := by rw [i64_in _ (by omega) (by omega)]; omega
  have q2 : Int.tdiv ((n + 31 : Nat) : Int) 32 = (((n + 31) / 32 : Nat) : Int) := rfl
  have q3 : IntKind.i64.wrap (((n + 31) / 32 : Nat) : Int) = (((n + 31) / 32 : Nat) : Int) := i64_in _ (by omega) (by omega)
  have HL0 : Hid (∀ W', WW w c v0 v1 t0 s1 G S bo b g6 g7 g17 W' → W'.cell? ⟨g6, 6, none⟩ = some (.int .i64 (A : Int)) ∧ W'.cell? ⟨g7, 1, none⟩ = some (.slice v0.eo s1.erases.length v0.ec) ∧ W'.cell? ⟨g17, 1, none⟩ = some (.slice v1.eo s1.erases.length v1.ec)) := fun W' hW' => by
    have x1 := hW'.r6.cell 6 (.int .i64 c.area) rfl
    rw [hAe] at x1
    have x2 := hW'.r7.cell 1 (.slice v0.eo t0.erases.length v0.ec) rfl
    rw [hel] at x2
    exact ⟨x1, x2, hW'.r17.cell 1 _ rfl⟩
  have hd0 : dE s1 t0 a 0 = 0 := rfl
  clear hw hpe hel hAe hAt hc hA hx hn
  generalize hdE : dE s1 t0 a = D at *
  clear hdE
  generalize hK : (n + 31) / 32 = K at *
  clear hK
  generalize hN31 : n + 31 = N31 at *
  clear hN31
  generalize s1.erases.length = EL at *
  conv => arg 2; whnf
  refine wp_seq_k fun K hK => ?_
  have HKK : Hid _ := hK
  clear hK
  go_wp2
  refine HKK.out _ _ ?_
  clear HKK
  refine wp_seq_k fun K hK => ?_
  have HKK : Hid _ := hK
  clear hK
  go_wp2
  refine HKK.out _ _ ?_
  clear HKK
  refine wp_seq_k fun K hK => ?_
  have HKK : Hid _ := hK
  clear hK
  go_wp2
  go_loopw [32, 33] (fun ev iv wr => ∃ p : Nat, p ≤ A ∧ ev = .int .i64 (D p) ∧ iv = .int .i64 p ∧ Hid (WW w c v0 v1 t0 s1 G S bo b g6 g7 g17 wr)) (fun _ iv _ => A - (intOf iv).toNat)
  case atStart => exact ⟨0, by omega, by rw [hd0], rfl, HW.out⟩
  case round =>
    clear hd0 HW
    obtain ⟨p, hp, rfl, rfl, HWR⟩ := hrel
    obtain ⟨x1, x2, x3⟩ := HL0.out wr HWR.out
    by_cases hlt : p < A
    · have y0 : (0 : Int) ≤ (p : Int) := by omega
      have y1 : (p : Int) < (A : Int) := by omega
      obtain ⟨B0, o0, B1, o1, e0, e1, f0, f1, m1, m3, z1, z2⟩ := HRD.out wr HWR.out p hlt
      have HNW : Hid (∀ k, WW w c v0 v1 t0 s1 G S bo b g6 g7 g17 (wr.drewN k)) := fun k => HWR.out.below (Below_dr (Below.refl _ _) ⟨k, rfl⟩)
      rw [e0] at x2
      rw [e1] at x3
      clear e0 e1
      generalize s1.erases.getD (s1.pgN a p) 0 = u1 at *
      generalize t0.erases.getD (s1.pgN a p) 0 = u0 at *
      generalize s1.pgN a p = PN at *
      have g5 : ((PN : Nat) : Int) < (EL : Int) := by omega
      have g6' : (0 : Int) ≤ ((PN : Nat) : Int) := by omega
      generalize hAA : a * (A : Int) = AA at *
      go_wp2
      go_quiet (fail)
      go_wp2
      exact ⟨⟨p + 1, by omega, rfl, by go_num, HNW.out nq⟩, by simp [intOf]; omega⟩
    · obtain rfl : p = A := by omega
      have y1 : ¬ ((p : Nat) : Int) < (p : Int) := by omega
      go_wp2
      refine HKK.out _ _ ?_
      exact HNX.out _ _ _ _ _ _ _ _ _ _ _ _ _ _ _ _ _ _ _ _ _ _ _ _ _ _ _ _ _ _ _ _ _ _ _ _ _ _ _ _ _ _ _ _ _ _ _ _ _ _ _ _ _ _ _ _ _ _ _ _ _ _ _ _ _ _ _ _ _ _ _ _ _ _ _ _ _ _ _ _ _ _ _ _ _ _ _ _ _ _ _ _ _ _ _ _ _ _ _ _ _ _ _ _ _ _ _ _ _ _ _ _ _ _ _ _ _ _ _ _ _ _ _ _ _ _ _ _ _ _ _ _ _ _ _ _ _ _ _ _ _ _ _ _ _ _ _ _ _ _ _ _ _ _ _ _ _ _ _ _ _ _ _ _ _ _ _ _ _ _ _ _ _ _ _ _ _ _ _ _ _ _ _ _ _ _ _ _ _ _ _ _ _ _ _ _ _ _ _ _ _ _ _ _ _ _ _ _ _ _ _ _ _ _ _ _ _ _ _ _ _ _ _ _ _ _ _ _ _ _ _ _ _ _ _ _ _ _ _ _ _ _ _ _ _ _ _ _ _ _ _ _ _ _ _ _ _ _ _ _ _ _ _ _ _ _ _ _ _ _ _ _ _ _ _ _ _ _ _ _ _ _ _ _ _ _ _ _ _ _ _ _ HWR.out
end Go.Proofs.YtcpdanjbnijoiaaDoor
