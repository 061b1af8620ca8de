
import Derived.Test.YtdfbfheceobboaaDoorP25Kg
/-! PatchKeeps: all is asked twice. (Printed by tools/genk25.py.) -/
namespace Go.Proofs.YtdfbfheceobboaaDoor
open Go.RowKit
set_option linter.unusedVariables false
set_option linter.unusedSimpArgs false
set_option maxRecDepth 100000

section
variable {M A J : List By → List By → List By}
set_option maxHeartbeats 16000000 in
theorem kp7 (c0 c1 c2 c11 c12 c13 c14 c15 c16 c18 c19 c20 c21 c22 c23 c24 c25 c26 c27 c28 c29 c30 c31 c32 c33 c34 c35 c36 c37 c38 c39 c40 c41 c42 c43 c44 c45 c46 c47 c48 c49 c50 c51 c52 c53 c54 c55 c56 c57 c58 c59 c60 c61 c62 c63 c64 c65 c66 c67 c68 c69 c70 c71 c72 c73 c74 c75 c76 c77 c78 c79 c80 c81 c82 c83 c84 c85 c86 c87 c88 c89 c90 c91 c92 c93 c94 c95 c96 c97 c98 c99 c100 c101 c102 c103 c104 c105 c106 c107 c108 c109 c110 c111 c112 c113 c114 c115 c116 c117 c118 c119 c120 c121 c122 c123 c124 c125 c126 c127 c128 c129 c130 c131 c132 c133 c134 c135 c136 c137 c138 c139 c140 c141 c142 c143 c144 c145 c146 c147 c148 c149 c150 c151 c152 c153 c154 c155 c156 c157 c158 c159 c160 c161 c162 c163 c164 c165 c166 c167 c168 c169 c170 c171 c172 c173 c174 c175 c176 c177 c178 c179 c180 c181 c182 c183 c184 c185 c186 c187 c188 c189 c190 c191 c192 c193 c194 c195 c196 c197 c198 c199 c200 c201 c202 c203 c204 c205 c206 c207 c208 c209 c210 c211 c212 c213 c214 c215 c216 c217 c218 c219 c220 c221 c222 c223 c224 c225 c226 c227 c228 c229 c230 c231 c232 c233 c234 c235 c236 c237 c238 c239 c240 c241 c242 c243 c244 c245 c246 c247 c248 c249 c250 c251 c252 c253 c254 c255 c256 c257 c258 c259 c260 c261 c262 c263 c264 c265 c266 c267 c268 c269 c270 c271 c272 c273 c274 c275 c276 : Value) (O : PchO M A J) (w Wa : World) (a b c d : List By) (ao bo co qo : Option Addr) (ac bc cc qc gw : Nat) (FX : ∀ W, Below w.heap.size w W → Calls Tryd.prog 9 #[] W fun e w' => e = .returned (.bool true) ∧ Below W.heap.size W w')
    (hB : Below w.heap.size w Wa) (hr : R4In w a b c d ao bo co qo ac bc cc qc) (hw : ∀ k, k < 3 → Wa.cell? ⟨gw, k, none⟩ = some (.string (strOf (w3 (M a b) (A a c) (J c d) k)))) (N1 : Nat) (h1g : N1 ≤ gw) (h1N : N1 ≤ Wa.heap.size)
    (ga gb gc gd ka kb kc kd : Nat) (wa : Wid w.heap.size Wa ga a.length ka a) (wb : Wid w.heap.size Wa gb b.length kb b) (wc : Wid w.heap.size Wa gc c.length kc c) (wd : Wid w.heap.size Wa gd d.length kd d) (h1 : ga < gb) (h2 : gb < gc) (h3 : gc < gd) (h4 : gd < N1) :
    Code.wp Tryd.prog (dropS 7 (Tryd.f3.body.getD .skip)) (bodyPost Tryd.prog Tryd.f3 (KP25 w)) ⟨#[c0, c1, c2, .slice ao a.length ac, .slice bo b.length bc, .slice co c.length cc, .slice qo d.length qc, .slice (some ⟨ga, 0, none⟩) a.length ka, .slice (some ⟨gb, 0, none⟩) b.length kb, .slice (some ⟨gc, 0, none⟩) c.length kc, .slice (some ⟨gd, 0, none⟩) d.length kd, c11, c12, c13, c14, c15, c16, .slice (some ⟨gw, 0, none⟩) 3 3, c18, c19, c20, c21, c22, c23, c24, c25, c26, c27, c28, c29, c30, c31, c32, c33, c34, c35, c36, c37, c38, c39, c40, c41, c42, c43, c44, c45, c46, c47, c48, c49, c50, c51, c52, c53, c54, c55, c56, c57, c58, c59, c60, c61, c62, c63, c64, c65, c66, c67, c68, c69, c70, c71, c72, c73, c74, c75, c76, c77, c78, c79, c80, c81, c82, c83, c84, c85, c86, c87, c88, c89, c90, c91, c92, c93, c94, c95, c96, c97, c98, c99, c100, c101, c102, c103, c104, c105, c106, c107, c108, c109, c110, c111, c112, c113, c114, c115, c116, c117, c118, c119, c120, c121, c122, c123, c124, c125, c126, c127, c128, c129, c130, c131, c132, c133, c134, c135, c136, c137, c138, c139, c140, c141, c142, c143, c144, c145, c146, c147, c148, c149, c150, c151, c152, c153, c154, c155, c156, c157, c158, c159, c160, c161, c162, c163, c164, c165, c166, c167, c168, c169, c170, c171, c172, c173, c174, c175, c176, c177, c178, c179, c180, c181, c182, c183, c184, c185, c186, c187, c188, c189, c190, c191, c192, c193, c194, c195, c196, c197, c198, c199, c200, c201, c202, c203, c204, c205, c206, c207, c208, c209, c210, c211, c212, c213, c214, c215, c216, c217, c218, c219, c220, c221, c222, c223, c224, c225, c226, c227, c228, c229, c230, c231, c232, c233, c234, c235, c236, c237, c238, c239, c240, c241, c242, c243, c244, c245, c246, c247, c248, c249, c250, c251, c252, c253, c254, c255, c256, c257, c258, c259, c260, c261, c262, c263, c264, c265, c266, c267, c268, c269, c270, c271, c272, c273, c274, c275, c276], []⟩ Wa := by
  have NXT : Hid (∀ c0 c1 c2 c5 c6 c11 c12 c13 c14 c15 c16 c19 c20 c21 c22 c23 c24 c25 c26 c27 c28 c29 c30 c31 c32 c33 c34 c35 c36 c37 c38 c39 c40 c41 c42 c43 c44 c45 c46 c47 c48 c49 c50 c51 c52 c53 c54 c55 c56 c57 c58 c59 c60 c61 c62 c63 c64 c65 c66 c67 c68 c69 c70 c71 c72 c73 c74 c75 c76 c77 c78 c79 c80 c81 c82 c83 c84 c85 c86 c87 c88 c89 c90 c91 c92 c93 c94 c95 c96 c97 c98 c99 c100 c101 c102 c103 c104 c105 c106 c107 c108 c109 c110 c111 c112 c113 c114 c115 c116 c117 c118 c119 c120 c121 c122 c123 c124 c125 c126 c127 c128 c129 c130 c131 c132 c133 c134 c135 c136 c137 c138 c139 c140 c141 c142 c143 c144 c145 c146 c147 c148 c149 c150 c151 c152 c153 c154 c155 c156 c157 c158 c159 c160 c161 c162 c163 c164 c165 c166 c167 c168 c169 c170 c171 c172 c173 c174 c175 c176 c177 c178 c179 c180 c181 c182 c183 c184 c185 c186 c187 c188 c189 c190 c191 c192 c193 c194 c195 c196 c197 c198 c199 c200 c201 c202 c203 c204 c205 c206 c207 c208 c209 c210 c211 c212 c213 c214 c215 c216 c217 c218 c219 c220 c221 c222 c223 c224 c225 c226 c227 c228 c229 c230 c231 c232 c233 c234 c235 c236 c237 c238 c239 c240 c241 c242 c243 c244 c245 c246 c247 c248 c249 c250 c251 c252 c253 c254 c255 c256 c257 c258 c259 c260 c261 c262 c263 c264 c265 c266 c267 c268 c269 c270 c271 c272 c273 c274 c275 c276 W aoD dc rs, KL Wa.heap.size Wa W 2 aoD dc rs (M a b) (A a c) (J c d) → Code.wp Tryd.prog (dropS 9 (Tryd.f3.body.getD .skip)) (bodyPost Tryd.prog Tryd.f3 (KP25 w)) ⟨#[c0, c1, c2, .slice ao a.length ac, .slice bo b.length bc, c5, c6, .slice (some ⟨ga, 0, none⟩) a.length ka, .slice (some ⟨gb, 0, none⟩) b.length kb, .slice (some ⟨gc, 0, none⟩) c.length kc, .slice (some ⟨gd, 0, none⟩) d.length kd, c11, c12, c13, c14, c15, c16, .slice (some ⟨gw, 0, none⟩) 3 3, .slice aoD 6 dc, c19, c20, c21, c22, c23, c24, c25, c26, c27, c28, c29, c30, c31, c32, c33, c34, c35, c36, c37, c38, c39, c40, c41, c42, c43, c44, c45, c46, c47, c48, c49, c50, c51, c52, c53, c54, c55, c56, c57, c58, c59, c60, c61, c62, c63, c64, c65, c66, c67, c68, c69, c70, c71, c72, c73, c74, c75, c76, c77, c78, c79, c80, c81, c82, c83, c84, c85, c86, c87, c88, c89, c90, c91, c92, c93, c94, c95, c96, c97, c98, c99, c100, c101, c102, c103, c104, c105, c106, c107, c108, c109, c110, c111, c112, c113, c114, c115, c116, c117, c118, c119, c120, c121, c122, c123, c124, c125, c126, c127, c128, c129, c130, c131, c132, c133, c134, c135, c136, c137, c138, c139, c140, c141, c142, c143, c144, c145, c146, c147, c148, c149, c150, c151, c152, c153, c154, c155, c156, c157, c158, c159, c160, c161, c162, c163, c164, c165, c166, c167, c168, c169, c170, c171, c172, c173, c174, c175, c176, c177, c178, c179, c180, c181, c182, c183, c184, c185, c186, c187, c188, c189, c190, c191, c192, c193, c194, c195, c196, c197, c198, c199, c200, c201, c202, c203, c204, c205, c206, c207, c208, c209, c210, c211, c212, c213, c214, c215, c216, c217, c218, c219, c220, c221, c222, c223, c224, c225, c226, c227, c228, c229, c230, c231, c232, c233, c234, c235, c236, c237, c238, c239, c240, c241, c242, c243, c244, c245, c246, c247, c248, c249, c250, c251, c252, c253, c254, c255, c256, c257, c258, c259, c260, c261, c262, c263, c264, c265, c266, c267, c268, c269, c270, c271, c272, c273, c274, c275, c276], []⟩ W) := fun c0 c1 c2 c5 c6 c11 c12 c13 c14 c15 c16 c19 c20 c21 c22 c23 c24 c25 c26 c27 c28 c29 c30 c31 c32 c33 c34 c35 c36 c37 c38 c39 c40 c41 c42 c43 c44 c45 c46 c47 c48 c49 c50 c51 c52 c53 c54 c55 c56 c57 c58 c59 c60 c61 c62 c63 c64 c65 c66 c67 c68 c69 c70 c71 c72 c73 c74 c75 c76 c77 c78 c79 c80 c81 c82 c83 c84 c85 c86 c87 c88 c89 c90 c91 c92 c93 c94 c95 c96 c97 c98 c99 c100 c101 c102 c103 c104 c105 c106 c107 c108 c109 c110 c111 c112 c113 c114 c115 c116 c117 c118 c119 c120 c121 c122 c123 c124 c125 c126 c127 c128 c129 c130 c131 c132 c133 c134 c135 c136 c137 c138 c139 c140 c141 c142 c143 c144 c145 c146 c147 c148 c149 c150 c151 c152 c153 c154 c155 c156 c157 c158 c159 c160 c161 c162 c163 c164 c165 c166 c167 c168 c169 c170 c171 c172 c173 c174 c175 c176 c177 c178 c179 c180 c181 c182 c183 c184 c185 c186 c187 c188 c189 c190 c191 c192 c193 c194 c195 c196 c197 c198 c199 c200 c201 c202 c203 c204 c205 c206 c207 c208 c209 c210 c211 c212 c213 c214 c215 c216 c217 c218 c219 c220 c221 c222 c223 c224 c225 c226 c227 c228 c229 c230 c231 c232 c233 c234 c235 c236 c237 c238 c239 c240 c241 c242 c243 c244 c245 c246 c247 c248 c249 c250 c251 c252 c253 c254 c255 c256 c257 c258 c259 c260 c261 c262 c263 c264 c265 c266 c267 c268 c269 c270 c271 c272 c273 c274 c275 c276 W aoD dc rs h => by
    obtain ⟨D, rfl, hD, k⟩ := h.fin hw h1N
    exact kp9 c0 c1 c2 c5 c6 c11 c12 c13 c14 c15 c16 c19 c20 c21 c22 c23 c24 c25 c26 c27 c28 c29 c30 c31 c32 c33 c34 c35 c36 c37 c38 c39 c40 c41 c42 c43 c44 c45 c46 c47 c48 c49 c50 c51 c52 c53 c54 c55 c56 c57 c58 c59 c60 c61 c62 c63 c64 c65 c66 c67 c68 c69 c70 c71 c72 c73 c74 c75 c76 c77 c78 c79 c80 c81 c82 c83 c84 c85 c86 c87 c88 c89 c90 c91 c92 c93 c94 c95 c96 c97 c98 c99 c100 c101 c102 c103 c104 c105 c106 c107 c108 c109 c110 c111 c112 c113 c114 c115 c116 c117 c118 c119 c120 c121 c122 c123 c124 c125 c126 c127 c128 c129 c130 c131 c132 c133 c134 c135 c136 c137 c138 c139 c140 c141 c142 c143 c144 c145 c146 c147 c148 c149 c150 c151 c152 c153 c154 c155 c156 c157 c158 c159 c160 c161 c162 c163 c164 c165 c166 c167 c168 c169 c170 c171 c172 c173 c174 c175 c176 c177 c178 c179 c180 c181 c182 c183 c184 c185 c186 c187 c188 c189 c190 c191 c192 c193 c194 c195 c196 c197 c198 c199 c200 c201 c202 c203 c204 c205 c206 c207 c208 c209 c210 c211 c212 c213 c214 c215 c216 c217 c218 c219 c220 c221 c222 c223 c224 c225 c226 c227 c228 c229 c230 c231 c232 c233 c234 c235 c236 c237 c238 c239 c240 c241 c242 c243 c244 c245 c246 c247 c248 c249 c250 c251 c252 c253 c254 c255 c256 c257 c258 c259 c260 c261 c262 c263 c264 c265 c266 c267 c268 c269 c270 c271 c272 c273 c274 c275 c276 O w W a b c d ao bo ac bc gw FX ⟨hB.trans (h.bel.mono hB.size), hr.a, hr.b, k.want 0 (by omega)⟩ D dc Wa.heap.size rs k h.bel.size hB.size (block_lt_of_cell (hw 0 (by omega))) N1 h1N h1g hD ga a.length ka gb b.length kb gc c.length kc gd d.length kd (sep4 h1 h2 h3)
      (how4 (wa.keep h.bel) (wb.keep h.bel) (wc.keep h.bel) (wd.keep h.bel) h1 h2 h3 h4)
  have HW : Hid (∀ W, Below Wa.heap.size Wa W → (Wid w.heap.size W ga a.length ka a ∧ Wid w.heap.size W gb b.length kb b ∧ Wid w.heap.size W gc c.length kc c ∧ Wid w.heap.size W gd d.length kd d) ∧ R4In W a b c d ao bo co qo ac bc cc qc) := fun W h => ⟨⟨wa.keep h, wb.keep h, wc.keep h, wd.keep h⟩, hr.keep (hB.trans (h.mono hB.size))⟩
  have HO : Hid (PchO M A J) := O
  have K0 : Hid (KL Wa.heap.size Wa (Wa.alloc (.cells #[] 22)) 0 (some ⟨Wa.heap.size, 0, none⟩) 0 [] (M a b) (A a c) (J c d)) := ⟨(Below.refl _ _).alloc (Nat.le_refl _) _, ⟨⟨by simp, .inr ⟨Wa.heap.size, 0, #[], rfl, Nat.le_refl _, heap_alloc_new Wa _, by simp, by unfold maxLen; omega, by simp, by simp⟩⟩, by simp⟩, rfl, fun j r hr => by simp at hr, SepB.nil _⟩
  clear wa wb wc wd h1 h2 h3 h4 h1g h1N hw hr hB FX O
  conv => arg 2; whnf
  refine wp_seq_k fun K hK => ?_
  have HK : Hid _ := hK
  clear hK
  go_wp2
  refine HK.out _ _ ?_
  clear HK
  obtain ⟨Wb, hWb⟩ : ∃ Wb, Wb = Wa.alloc (.cells #[] 22) := ⟨_, rfl⟩
  refine wp_at25k hWb ?_
  rw [← hWb] at K0
  clear hWb
  refine wp_seq_k fun K hK => ?_
  have HK : Hid _ := hK
  clear hK
  go_wp2
  go_loopw [18, 19] (fun ov iv wr => ∃ (q dc : Nat) (aoD : Option Addr) (rs : List Gr), q ≤ 2 ∧ iv = .int .i64 (q : Int) ∧ ov = .slice aoD (3 * q) dc ∧ Hid (KL Wa.heap.size Wa wr q aoD dc rs (M a b) (A a c) (J c d))) (fun _ iv _ => 2 - (intOf iv).toNat)
  case atStart => exact ⟨0, 0, _, [], by omega, rfl, rfl, K0⟩
  case round =>
    clear K0
    obtain ⟨q, dc, aoD, rs, hq, rfl, rfl, HL7⟩ := hrel
    obtain ⟨W0, hW0⟩ : ∃ W0 : World, W0 = wr := ⟨_, rfl⟩
    subst hW0
    by_cases hlt : q < 2
    · have i1 : (q : Int) < 2 := by omega
      have i3 : IntKind.i64.wrap ((q : Int) + 1) = (q : Int) + 1 := i64_in _ (by omega) (by omega)
      have HQ2 : Hid (q < 2) := hlt
      clear hlt hq
      go_wp2_with fail
      refine (HO.out.make W0 _ _ a _ _ b (HW.out W0 HL7.out.bel).1.1.row (HW.out W0 HL7.out.bel).1.2.1.row).mono ?_
      rintro e w1 ⟨b1, xo, xc, v1, rfl, o1⟩
      have B1 : Hid (Below Wa.heap.size Wa w1) := HL7.out.bel.trans (b1.mono HL7.out.bel.size)
      have H1 : Hid (Below W0.heap.size W0 w1 ∧ Own W0.heap.size w1 (.slice xo (M a b).length xc) (M a b)) := ⟨b1, o1⟩
      clear b1 o1
      dsimp only
      go_wp2_with fail
      refine (HO.out.apply w1 _ _ a _ _ c (HW.out w1 B1.out).1.1.row (HW.out w1 B1.out).1.2.2.1.row).mono ?_
      rintro e w2 ⟨b2, yo, yc, v2, rfl, o2⟩
      have B2 : Hid (Below Wa.heap.size Wa w2) := B1.out.trans (b2.mono B1.out.size)
      have H2 : Hid (Below w1.heap.size w1 w2 ∧ Own w1.heap.size w2 (.slice yo (A a c).length yc) (A a c)) := ⟨b2, o2⟩
      clear b2 o2 B1
      dsimp only
      go_wp2_with fail
      refine (HO.out.join w2 _ _ c _ _ d (HW.out w2 B2.out).1.2.2.1.row (HW.out w2 B2.out).1.2.2.2.row).mono ?_
      rintro e w5 ⟨b3, zo, zc, v3, rfl, o3⟩
      have B5 : Hid (Below Wa.heap.size Wa w5) := B2.out.trans (b3.mono B2.out.size)
      have H3 : Hid (Below w2.heap.size w2 w5 ∧ Own w2.heap.size w5 (.slice zo (J c d).length zc) (J c d)) := ⟨b3, o3⟩
      clear b3 o3 B2
      dsimp only
      obtain ⟨X, hX⟩ : ∃ X, X = M a b := ⟨_, rfl⟩
      obtain ⟨Y, hY⟩ : ∃ Y, Y = A a c := ⟨_, rfl⟩
      obtain ⟨Z, hZ⟩ : ∃ Z, Z = J c d := ⟨_, rfl⟩
      have HXYZ : Hid (X = M a b ∧ Y = A a c ∧ Z = J c d) := ⟨hX, hY, hZ⟩
      rw [← hX, ← hY, ← hZ] at HL7
      rw [← hX] at H1 ⊢
      rw [← hY] at H2 ⊢
      rw [← hZ] at H3 ⊢
      clear hX hY hZ
      have AR : Hid ((w5.alloc (.cells #[.slice xo X.length xc, .slice yo Y.length yc, .slice zo Z.length zc] 22)).ownsRow Wa.heap.size 22 1 (.slice aoD (3 * q) dc) (3 * q) (rs.map Gr.val) ∧ Wa.heap.size ≤ (w5.alloc (.cells #[.slice xo X.length xc, .slice yo Y.length yc, .slice zo Z.length zc] 22)).heap.size) := by
        have s1 := H1.out.1.size
        have s2 := H2.out.1.size
        have bb : Below W0.heap.size W0 (w5.alloc (.cells #[.slice xo X.length xc, .slice yo Y.length yc, .slice zo Z.length zc] 22)) := (H1.out.1.trans ((H2.out.1.trans (H3.out.1.mono s2)).mono s1)).alloc (by have := H3.out.1.size; omega) _
        have k := HL7.out.arr.of_block (w' := w5.alloc (.cells #[.slice xo X.length xc, .slice yo Y.length yc, .slice zo Z.length zc] 22)) (Nat.le_trans HL7.out.bel.size bb.size) fun B e => bb.block B (HL7.out.arr.lies B 0 e).2.2
        have hl : (rs.map Gr.val).length = 3 * q := by rw [List.length_map, HL7.out.len]
        have k1 := k.1
        rw [hl] at k1
        exact ⟨k1, k.2⟩
      have RB : Hid (Row (w5.alloc (.cells #[.slice xo X.length xc, .slice yo Y.length yc, .slice zo Z.length zc] 22)) w5.heap.size 22 [.slice xo X.length xc, .slice yo Y.length yc, .slice zo Z.length zc]) := Row.at _ _ _ _ _ rfl rfl
      go_wp2_with (at_builtin; have hz := AR; clear hz; refine wpList_append_just el_rows rfl (.tmp 103) (.tmp 107) rfl Wa.heap.size (w5.alloc (.cells #[.slice xo X.length xc, .slice yo Y.length yc, .slice zo Z.length zc] 22)) aoD (3 * q) dc (rs.map Gr.val) rfl AR.out.1 AR.out.2 (Below.refl _ _) w5.heap.size 0 3 3 [.slice xo X.length xc, .slice yo Y.length yc, .slice zo Z.length zc] rfl rfl (fun j u hu => by rw [Nat.zero_add]; exact RB.out.cell j u hu) (by omega) (by intro u hu; simp at hu; rcases hu with rfl | rfl | rfl <;> rfl) (by have := HQ2.out; unfold maxLen; omega) (by have := HQ2.out; omega) ?_; intro ao' c' w6 q1 q2 q3 q4 q5; have HN6 : Hid (KL Wa.heap.size Wa w6 (q + 1) ao' c' (((rs ++ [⟨xo, X.length, xc⟩]) ++ [⟨yo, Y.length, yc⟩]) ++ [⟨zo, Z.length, zc⟩]) X Y Z) := HL7.out.next HL7.out.bel.size H1.out.1 H1.out.2 H2.out.1 H2.out.2 H3.out.1 H3.out.2 q1 q2 q4; clear q1 q2 q3 q4 q5 AR)
      refine (kept25_any w.heap.size ga a.length ka ao ac a w6 (HW.out w6 HN6.out.bel).1.1 (HW.out w6 HN6.out.bel).2.a.isb).mono ?_
      rintro e w7 ⟨rfl, hw7⟩
      rw [hw7]
      clear hw7 w7
      dsimp only
      go_wp2_with fail
      refine (kept25_any w.heap.size gb b.length kb bo bc b w6 (HW.out w6 HN6.out.bel).1.2.1 (HW.out w6 HN6.out.bel).2.b.isb).mono ?_
      rintro e w7 ⟨rfl, hw7⟩
      rw [hw7]
      clear hw7 w7
      dsimp only
      go_wp2_with fail
      refine (kept25_any w.heap.size gc c.length kc co cc c w6 (HW.out w6 HN6.out.bel).1.2.2.1 (HW.out w6 HN6.out.bel).2.c.isb).mono ?_
      rintro e w7 ⟨rfl, hw7⟩
      rw [hw7]
      clear hw7 w7
      dsimp only
      go_wp2_with fail
      refine (kept25_any w.heap.size gd d.length kd qo qc d w6 (HW.out w6 HN6.out.bel).1.2.2.2 (HW.out w6 HN6.out.bel).2.q.isb).mono ?_
      rintro e w7 ⟨rfl, hw7⟩
      rw [hw7]
      clear hw7 w7
      dsimp only
      go_wp2
      rw [HXYZ.out.1, HXYZ.out.2.1, HXYZ.out.2.2] at HN6
      exact ⟨⟨q + 1, c', ao', _, HQ2.out, by go_num, rfl, HN6⟩, by have := HQ2.out; simp [intOf]; omega⟩
    · obtain rfl : q = 2 := by omega
      have i1 : ¬ ((2 : Nat) : Int) < 2 := by omega
      have i2 : ¬ (2 : Int) < 2 := by omega
      clear hlt hq
      go_wp2
      refine HK.out _ _ ?_
      clear HK
      exact NXT.out _ _ _ _ _ _ _ _ _ _ _ _ _ _ _ _ _ _ _ _ _ _ _ _ _ _ _ _ _ _ _ _ _ _ _ _ _ _ _ _ _ _ _ _ _ _ _ _ _ _ _ _ _ _ _ _ _ _ _ _ _ _ _ _ _ _ _ _ _ _ _ _ _ _ _ _ _ _ _ _ _ _ _ _ _ _ _ _ _ _ _ _ _ _ _ _ _ _ _ _ _ _ _ _ _ _ _ _ _ _ _ _ _ _ _ _ _ _ _ _ _ _ _ _ _ _ _ _ _ _ _ _ _ _ _ _ _ _ _ _ _ _ _ _ _ _ _ _ _ _ _ _ _ _ _ _ _ _ _ _ _ _ _ _ _ _ _ _ _ _ _ _ _ _ _ _ _ _ _ _ _ _ _ _ _ _ _ _ _ _ _ _ _ _ _ _ _ _ _ _ _ _ _ _ _ _ _ _ _ _ _ _ _ _ _ _ _ _ _ _ _ _ _ _ _ _ _ _ _ _ _ _ _ _ _ _ _ _ _ _ _ _ _ _ _ _ _ _ _ _ _ _ _ _ _ _ _ _ _ _ _ _ _ _ _ _ _ _ _ _ aoD dc rs HL7.out
end
end Go.Proofs.YtdfbfheceobboaaDoor
