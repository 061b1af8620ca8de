
import Derived.Test.YtdfbfheceobboaaDoorP25Kc
/-! PatchKeeps: the loop that writes over and grows what came out. (Printed by tools/genk25.py.) -/
namespace Go.Proofs.YtdfbfheceobboaaDoor
open Go.RowKit
set_option linter.unusedVariables false
set_option linter.unusedSimpArgs false
set_option maxRecDepth 100000

theorem GRest.fin {N D dc cG : Nat} {rs : List Gr} {W : World} {aoG : Option Addr} {lg : List Value} (h : GRest N rs (some ⟨D, 0, none⟩) dc 6 W aoG cG lg) (hl : lg.length = 6) (hrs : rs.length = 6) (hbig : ∀ r ∈ rs, r.n ≤ 1000000000) : ∃ E, aoG = some ⟨E, 0, none⟩ ∧ ∀ i, i < 6 → ∃ rao rn rc g c, FinK W D E i rao rn rc g c := by
  obtain ⟨E, eG, _⟩ := h.larr.at 0 (by omega)
  refine ⟨E, eG, fun p hp => ?_⟩
  obtain ⟨gG, eG2, cG'⟩ := h.larr.at p (by omega)
  rw [eG] at eG2
  injection eG2 with eG2; injection eG2 with eG2 _
  subst eG2
  obtain ⟨r, g, c, e1, e2, e3, e4⟩ := h.lown p _ (List.getElem?_eq_getElem (by omega))
  rw [e2] at cG'
  obtain ⟨gL, eL, cellL⟩ := h.arr.at p (by rw [List.length_map]; omega)
  injection eL with eL; injection eL with eL _
  subst eL
  rw [List.getElem_map, (List.getElem?_eq_some_iff.1 e1).2, Gr.val] at cellL
  obtain ⟨k1, k2, k3⟩ := h.done p r hp e1
  have hm := mrk_nat p (by omega)
  refine ⟨r.ao, r.n, r.c, g, c, cellL, cG', fun t ht => ?_, fun t ht => ?_, hbig r (List.mem_of_getElem? e1)⟩
  · rcases e3 with h | ⟨B, off, h1, h2⟩
    · simp at h
    · injection h1 with h1; injection h1 with h1 h3; subst h1 h3
      have := h2 t (mrk p) (by rw [List.getElem?_replicate, if_pos ht])
      rw [Nat.zero_add] at this
      rw [this]; unfold B8; rw [hm]
  · rcases k1 with h | ⟨B, off, h1, h2⟩
    · simp at h; omega
    · obtain ⟨rfl, _⟩ := k3 B off h1
      refine ⟨B, h1, ?_⟩
      have h3 := h2 t (mrk p) (by rw [List.getElem?_replicate, if_pos ht])
      rw [Nat.zero_add] at h3
      rw [h3]; unfold B8; rw [hm]
section
variable {M A J : List By → List By → List By}
set_option maxHeartbeats 16000000 in
theorem kp11 (c0 c1 c2 c5 c6 c7 c8 c9 c10 c11 c12 c13 c14 c15 c16 c19 c20 c21 c22 c23 c24 c25 c26 c27 c28 c29 c30 c31 c32 c33 c34 c35 c36 c37 c38 c39 c40 c41 c42 c43 c44 c45 c46 c47 c48 c49 c50 c51 c52 c53 c54 c55 c56 c57 c58 c59 c60 c61 c62 c63 c64 c65 c66 c67 c68 c69 c70 c71 c72 c73 c74 c75 c76 c77 c78 c79 c80 c81 c82 c83 c84 c85 c86 c87 c88 c89 c90 c91 c92 c93 c94 c95 c96 c97 c98 c99 c100 c101 c102 c103 c104 c105 c106 c107 c108 c109 c110 c111 c112 c113 c114 c115 c116 c117 c118 c119 c120 c121 c122 c123 c124 c125 c126 c127 c128 c129 c130 c131 c132 c133 c134 c135 c136 c137 c138 c139 c140 c141 c142 c143 c144 c145 c146 c147 c148 c149 c150 c151 c152 c153 c154 c155 c156 c157 c158 c159 c160 c161 c162 c163 c164 c165 c166 c167 c168 c169 c170 c171 c172 c173 c174 c175 c176 c177 c178 c179 c180 c181 c182 c183 c184 c185 c186 c187 c188 c189 c190 c191 c192 c193 c194 c195 c196 c197 c198 c199 c200 c201 c202 c203 c204 c205 c206 c207 c208 c209 c210 c211 c212 c213 c214 c215 c216 c217 c218 c219 c220 c221 c222 c223 c224 c225 c226 c227 c228 c229 c230 c231 c232 c233 c234 c235 c236 c237 c238 c239 c240 c241 c242 c243 c244 c245 c246 c247 c248 c249 c250 c251 c252 c253 c254 c255 c256 c257 c258 c259 c260 c261 c262 c263 c264 c265 c266 c267 c268 c269 c270 c271 c272 c273 c274 c275 c276 : Value) (O : PchO M A J) (w Wa : World) (a b : List By) (ao bo : Option Addr) (ac bc gw : Nat) (FX : ∀ W, Below w.heap.size w W → Calls Tryd.prog 9 #[] W fun e w' => e = .returned (.bool true) ∧ Below W.heap.size W w')
    (hE : KE w Wa a b ao bo ac bc gw (strOf (M a b))) (D dc N : Nat) (rs : List Gr) (hrs : rs.length = 6) (harr : OwnS 0 Wa (some ⟨D, 0, none⟩) dc (rs.map Gr.val)) (hN0 : N ≤ Wa.heap.size) (hwN : w.heap.size ≤ N) (hgw : gw < N) (hown : ∀ (j : Nat) (r : Gr), rs[j]? = some r → ∃ xs, Own N Wa r.val xs) (hsep : SepR rs) (hbig : ∀ r ∈ rs, r.n ≤ 1000000000) :
    Code.wp Tryd.prog (dropS 11 (Tryd.f3.body.getD .skip)) (bodyPost Tryd.prog Tryd.f3 (KP25 w)) ⟨#[c0, c1, c2, .slice ao a.length ac, .slice bo b.length bc, c5, c6, c7, c8, c9, c10, c11, c12, c13, c14, c15, c16, .slice (some ⟨gw, 0, none⟩) 3 3, .slice (some ⟨D, 0, none⟩) 6 dc, c19, c20, c21, c22, c23, c24, c25, c26, c27, c28, c29, c30, c31, c32, c33, c34, c35, c36, c37, c38, c39, c40, c41, c42, c43, c44, c45, c46, c47, c48, c49, c50, c51, c52, c53, c54, c55, c56, c57, c58, c59, c60, c61, c62, c63, c64, c65, c66, c67, c68, c69, c70, c71, c72, c73, c74, c75, c76, c77, c78, c79, c80, c81, c82, c83, c84, c85, c86, c87, c88, c89, c90, c91, c92, c93, c94, c95, c96, c97, c98, c99, c100, c101, c102, c103, c104, c105, c106, c107, c108, c109, c110, c111, c112, c113, c114, c115, c116, c117, c118, c119, c120, c121, c122, c123, c124, c125, c126, c127, c128, c129, c130, c131, c132, c133, c134, c135, c136, c137, c138, c139, c140, c141, c142, c143, c144, c145, c146, c147, c148, c149, c150, c151, c152, c153, c154, c155, c156, c157, c158, c159, c160, c161, c162, c163, c164, c165, c166, c167, c168, c169, c170, c171, c172, c173, c174, c175, c176, c177, c178, c179, c180, c181, c182, c183, c184, c185, c186, c187, c188, c189, c190, c191, c192, c193, c194, c195, c196, c197, c198, c199, c200, c201, c202, c203, c204, c205, c206, c207, c208, c209, c210, c211, c212, c213, c214, c215, c216, c217, c218, c219, c220, c221, c222, c223, c224, c225, c226, c227, c228, c229, c230, c231, c232, c233, c234, c235, c236, c237, c238, c239, c240, c241, c242, c243, c244, c245, c246, c247, c248, c249, c250, c251, c252, c253, c254, c255, c256, c257, c258, c259, c260, c261, c262, c263, c264, c265, c266, c267, c268, c269, c270, c271, c272, c273, c274, c275, c276], []⟩ Wa := by
  have NXT : Hid (∀ c0 c1 c2 c5 c6 c7 c8 c9 c10 c11 c12 c13 c14 c15 c16 c19 c20 c21 c22 c23 c24 c25 c26 c27 c28 c29 c31 c32 c33 c34 c35 c36 c37 c38 c39 c40 c41 c42 c43 c44 c45 c46 c47 c48 c49 c50 c51 c52 c53 c54 c55 c56 c57 c58 c59 c60 c61 c62 c63 c64 c65 c66 c67 c68 c69 c70 c71 c72 c73 c74 c75 c76 c77 c78 c79 c80 c81 c82 c83 c84 c85 c86 c87 c88 c89 c90 c91 c92 c93 c94 c95 c96 c97 c98 c99 c100 c101 c102 c103 c104 c105 c106 c107 c108 c109 c110 c111 c112 c113 c114 c115 c116 c117 c118 c119 c120 c121 c122 c123 c124 c125 c126 c127 c128 c129 c130 c131 c132 c133 c134 c135 c136 c137 c138 c139 c140 c141 c142 c143 c144 c145 c146 c147 c148 c149 c150 c151 c152 c153 c154 c155 c156 c157 c158 c159 c160 c161 c162 c163 c164 c165 c166 c167 c168 c169 c170 c171 c172 c173 c174 c175 c176 c177 c178 c179 c180 c181 c182 c183 c184 c185 c186 c187 c188 c189 c190 c191 c192 c193 c194 c195 c196 c197 c198 c199 c200 c201 c202 c203 c204 c205 c206 c207 c208 c209 c210 c211 c212 c213 c214 c215 c216 c217 c218 c219 c220 c221 c222 c223 c224 c225 c226 c227 c228 c229 c230 c231 c232 c233 c234 c235 c236 c237 c238 c239 c240 c241 c242 c243 c244 c245 c246 c247 c248 c249 c250 c251 c252 c253 c254 c255 c256 c257 c258 c259 c260 c261 c262 c263 c264 c265 c266 c267 c268 c269 c270 c271 c272 c273 c274 c275 c276 W aoG cG lg, Below N Wa W → GRest N rs (some ⟨D, 0, none⟩) dc 6 W aoG cG lg → lg.length = 6 → Code.wp Tryd.prog (dropS 13 (Tryd.f3.body.getD .skip)) (bodyPost Tryd.prog Tryd.f3 (KP25 w)) ⟨#[c0, c1, c2, .slice ao a.length ac, .slice bo b.length bc, c5, c6, c7, c8, c9, c10, c11, c12, c13, c14, c15, c16, .slice (some ⟨gw, 0, none⟩) 3 3, .slice (some ⟨D, 0, none⟩) 6 dc, c19, c20, c21, c22, c23, c24, c25, c26, c27, c28, c29, .slice aoG 6 cG, c31, c32, c33, c34, c35, c36, c37, c38, c39, c40, c41, c42, c43, c44, c45, c46, c47, c48, c49, c50, c51, c52, c53, c54, c55, c56, c57, c58, c59, c60, c61, c62, c63, c64, c65, c66, c67, c68, c69, c70, c71, c72, c73, c74, c75, c76, c77, c78, c79, c80, c81, c82, c83, c84, c85, c86, c87, c88, c89, c90, c91, c92, c93, c94, c95, c96, c97, c98, c99, c100, c101, c102, c103, c104, c105, c106, c107, c108, c109, c110, c111, c112, c113, c114, c115, c116, c117, c118, c119, c120, c121, c122, c123, c124, c125, c126, c127, c128, c129, c130, c131, c132, c133, c134, c135, c136, c137, c138, c139, c140, c141, c142, c143, c144, c145, c146, c147, c148, c149, c150, c151, c152, c153, c154, c155, c156, c157, c158, c159, c160, c161, c162, c163, c164, c165, c166, c167, c168, c169, c170, c171, c172, c173, c174, c175, c176, c177, c178, c179, c180, c181, c182, c183, c184, c185, c186, c187, c188, c189, c190, c191, c192, c193, c194, c195, c196, c197, c198, c199, c200, c201, c202, c203, c204, c205, c206, c207, c208, c209, c210, c211, c212, c213, c214, c215, c216, c217, c218, c219, c220, c221, c222, c223, c224, c225, c226, c227, c228, c229, c230, c231, c232, c233, c234, c235, c236, c237, c238, c239, c240, c241, c242, c243, c244, c245, c246, c247, c248, c249, c250, c251, c252, c253, c254, c255, c256, c257, c258, c259, c260, c261, c262, c263, c264, c265, c266, c267, c268, c269, c270, c271, c272, c273, c274, c275, c276], []⟩ W) := fun c0 c1 c2 c5 c6 c7 c8 c9 c10 c11 c12 c13 c14 c15 c16 c19 c20 c21 c22 c23 c24 c25 c26 c27 c28 c29 c31 c32 c33 c34 c35 c36 c37 c38 c39 c40 c41 c42 c43 c44 c45 c46 c47 c48 c49 c50 c51 c52 c53 c54 c55 c56 c57 c58 c59 c60 c61 c62 c63 c64 c65 c66 c67 c68 c69 c70 c71 c72 c73 c74 c75 c76 c77 c78 c79 c80 c81 c82 c83 c84 c85 c86 c87 c88 c89 c90 c91 c92 c93 c94 c95 c96 c97 c98 c99 c100 c101 c102 c103 c104 c105 c106 c107 c108 c109 c110 c111 c112 c113 c114 c115 c116 c117 c118 c119 c120 c121 c122 c123 c124 c125 c126 c127 c128 c129 c130 c131 c132 c133 c134 c135 c136 c137 c138 c139 c140 c141 c142 c143 c144 c145 c146 c147 c148 c149 c150 c151 c152 c153 c154 c155 c156 c157 c158 c159 c160 c161 c162 c163 c164 c165 c166 c167 c168 c169 c170 c171 c172 c173 c174 c175 c176 c177 c178 c179 c180 c181 c182 c183 c184 c185 c186 c187 c188 c189 c190 c191 c192 c193 c194 c195 c196 c197 c198 c199 c200 c201 c202 c203 c204 c205 c206 c207 c208 c209 c210 c211 c212 c213 c214 c215 c216 c217 c218 c219 c220 c221 c222 c223 c224 c225 c226 c227 c228 c229 c230 c231 c232 c233 c234 c235 c236 c237 c238 c239 c240 c241 c242 c243 c244 c245 c246 c247 c248 c249 c250 c251 c252 c253 c254 c255 c256 c257 c258 c259 c260 c261 c262 c263 c264 c265 c266 c267 c268 c269 c270 c271 c272 c273 c274 c275 c276 W aoG cG lg hb h hl => by
    obtain ⟨E, rfl, hF⟩ := h.fin hl hrs hbig
    exact kp13 c0 c1 c2 c5 c6 c7 c8 c9 c10 c11 c12 c13 c14 c15 c16 c19 c20 c21 c22 c23 c24 c25 c26 c27 c28 c29 c31 c32 c33 c34 c35 c36 c37 c38 c39 c40 c41 c42 c43 c44 c45 c46 c47 c48 c49 c50 c51 c52 c53 c54 c55 c56 c57 c58 c59 c60 c61 c62 c63 c64 c65 c66 c67 c68 c69 c70 c71 c72 c73 c74 c75 c76 c77 c78 c79 c80 c81 c82 c83 c84 c85 c86 c87 c88 c89 c90 c91 c92 c93 c94 c95 c96 c97 c98 c99 c100 c101 c102 c103 c104 c105 c106 c107 c108 c109 c110 c111 c112 c113 c114 c115 c116 c117 c118 c119 c120 c121 c122 c123 c124 c125 c126 c127 c128 c129 c130 c131 c132 c133 c134 c135 c136 c137 c138 c139 c140 c141 c142 c143 c144 c145 c146 c147 c148 c149 c150 c151 c152 c153 c154 c155 c156 c157 c158 c159 c160 c161 c162 c163 c164 c165 c166 c167 c168 c169 c170 c171 c172 c173 c174 c175 c176 c177 c178 c179 c180 c181 c182 c183 c184 c185 c186 c187 c188 c189 c190 c191 c192 c193 c194 c195 c196 c197 c198 c199 c200 c201 c202 c203 c204 c205 c206 c207 c208 c209 c210 c211 c212 c213 c214 c215 c216 c217 c218 c219 c220 c221 c222 c223 c224 c225 c226 c227 c228 c229 c230 c231 c232 c233 c234 c235 c236 c237 c238 c239 c240 c241 c242 c243 c244 c245 c246 c247 c248 c249 c250 c251 c252 c253 c254 c255 c256 c257 c258 c259 c260 c261 c262 c263 c264 c265 c266 c267 c268 c269 c270 c271 c272 c273 c274 c275 c276 O w W a b ao bo ac bc gw FX (hE.on hb hwN hgw) D dc E cG hF
  have HL : Hid (rs.length = 6) := hrs
  have HSEP : Hid (SepR rs) := hsep
  have HNN : Hid (∀ r ∈ rs, r.n ≤ 1000000000) := hbig
  have G0 : Hid (GRest N rs (some ⟨D, 0, none⟩) dc 0 (Wa.alloc (.cells #[] 22)) (some ⟨Wa.heap.size, 0, none⟩) 0 [] ∧ ∀ r, rs[0]? = some r → ∃ xs, Own N (Wa.alloc (.cells #[] 22)) r.val xs) := by
    have al := (Below.refl Wa.heap.size Wa).alloc (Nat.le_refl _) (.cells #[] 22)
    have hz : (Wa.alloc (.cells #[] 22)).heap.size = Wa.heap.size + 1 := by simp
    refine ⟨⟨harr.of_block (Nat.zero_le _) fun B e => al.block B (harr.lies B 0 e).2.2, fun j r _ hr => ?_, fun j r hj => by omega, fun j v hv => by simp at hv, ⟨⟨by simp, .inr ⟨Wa.heap.size, 0, #[], rfl, hN0, heap_alloc_new Wa _, by simp, by unfold maxLen; omega, by simp, by simp⟩⟩, by omega⟩, fun g e e2 => ?_⟩, fun r hr => ?_⟩
    · obtain ⟨xs, hx⟩ := hown j r hr
      exact ⟨xs, hx.keep al⟩
    · injection e with e; injection e with e _
      have := (harr.lies g 0 e2).2.2
      omega
    · obtain ⟨xs, hx⟩ := hown 0 r hr
      exact ⟨xs, hx.keep al⟩
  have B0 : Hid (Below N Wa (Wa.alloc (.cells #[] 22))) := (Below.refl N Wa).alloc hN0 _
  clear harr hown hsep hbig hrs hE FX O hN0 hwN hgw
  generalize a.length = an at *
  generalize b.length = bn at *
  conv => arg 2; whnf
  refine wp_seq_k fun K hK => ?_
  have HK : Hid _ := hK
  clear hK
  go_wp2
  refine HK.out _ _ ?_
  clear HK
  obtain ⟨Wb, hWb⟩ : ∃ Wb, Wb = Wa.alloc (.cells #[] 22) := ⟨_, rfl⟩
  refine wp_at25k hWb ?_
  rw [← hWb] at G0 B0
  clear hWb
  refine wp_seq_k fun K hK => ?_
  have HK : Hid _ := hK
  clear hK
  go_wp2
  go_loopw [30, 31] (fun lv iv wr => ∃ (q cG : Nat) (aoG : Option Addr) (lg : List Value), q ≤ 6 ∧ iv = .int .i64 (q : Int) ∧ lv = .slice aoG q cG ∧ Hid (lg.length = q) ∧ Hid (GRest N rs (some ⟨D, 0, none⟩) dc q wr aoG cG lg ∧ ∀ r, rs[q]? = some r → ∃ xs, Own N wr r.val xs) ∧ Hid (Below N Wa wr)) (fun _ iv _ => 6 - (intOf iv).toNat)
  case atStart => exact ⟨0, 0, _, [], by omega, rfl, rfl, rfl, G0, B0⟩
  case round =>
    clear G0 B0
    obtain ⟨q, cG, aoG, lg, hq, rfl, rfl, HQ, HG, HBL⟩ := hrel
    obtain ⟨W0, hW0⟩ : ∃ W0 : World, W0 = wr := ⟨_, rfl⟩
    subst hW0
    by_cases hlt : q < 6
    · have i1 : (q : Int) < 6 := by omega
      have i0 : (0 : Int) ≤ (q : Int) := by omega
      have HQ6 : Hid (q < 6) := hlt
      have hlt' : q < rs.length := by rw [HL.out]; exact hlt
      obtain ⟨r, hr⟩ : ∃ r, rs[q]? = some r := ⟨_, List.getElem?_eq_getElem hlt'⟩
      obtain ⟨gL, eL, cellL⟩ := HG.out.1.arr.at q (by rw [List.length_map]; exact hlt')
      injection eL with eL; injection eL with eL _
      subst eL
      rw [List.getElem_map, (List.getElem?_eq_some_iff.1 hr).2] at cellL
      rw [Gr.val] at cellL
      obtain ⟨xs0, ho0⟩ := HG.out.2 r hr
      rw [Gr.val] at ho0
      have HR : Hid (rs[q]? = some r) := hr
      have HRN : Hid (r.n ≤ 1000000000) := HNN.out r (List.mem_of_getElem? hr)
      have HLI : Hid (∀ B off, r.ao = some ⟨B, off, none⟩ → off = 0 ∧ B < W0.heap.size) := fun B off e => ⟨(ho0.lies B off e).1, (ho0.lies B off e).2.2⟩
      have HTB : Hid (TB W0 r.ao) := ho0.tb
      have CD : Hid (∀ W, Chg N r.ao W0 W → W.cell? ⟨D, q, none⟩ = some (.slice r.ao r.n r.c)) := fun W hc => by
        rw [World.cell?_of_block (w := W0) (hc.blk D (HG.out.1.arr.lies D 0 rfl).2.2 fun e => HG.out.1.arr.ne HTB.out D 0 e rfl)]
        exact cellL
      have HM : Hid (((mrk q).toNat : Int) = (q : Int) + 1) := mrk_nat q (by omega)
      have z1 : IntKind.i64.wrap ((q : Int) + 1) = (q : Int) + 1 := i64_in _ (by omega) (by omega)
      have z2 : IntKind.u8.wrap ((q : Int) + 1) = (q : Int) + 1 := by rw [IntKind.wrap_u8']; omega
      have z3 : ((q : Int) + 1) % 256 = (q : Int) + 1 := by omega
      obtain ⟨rao, rn, rc⟩ := r
      simp only at cellL ho0 HRN CD
      have HX0 : Hid (Own N W0 (.slice rao rn rc) xs0) := ho0
      clear hr ho0 cellL hlt hlt' hq
      go_wp2
      go_loopw [32] (fun iv wr2 => ∃ (k : Nat) (xs : List By), k ≤ rn ∧ iv = .int .i64 (k : Int) ∧ Hid (Own N wr2 (.slice rao rn rc) xs) ∧ Hid (xs.take k = List.replicate k (mrk q)) ∧ Hid (Chg N rao W0 wr2)) (fun iv _ => rn - (intOf iv).toNat)
      case atStart => exact ⟨0, xs0, by omega, rfl, HX0, rfl, Chg.refl _ _ _⟩
      case round =>
        clear HX0
        obtain ⟨k, xs, hk, rfl, HO, HX, HC⟩ := hrel
        have x1 := CD.out _ HC.out
        by_cases hkl : k < rn
        · have k1 : (k : Int) < (rn : Int) := by omega
          have k0 : (0 : Int) ≤ (k : Int) := by omega
          have k3 : IntKind.i64.wrap ((k : Int) + 1) = (k : Int) + 1 := i64_in _ (by omega) (by have := HRN.out; omega)
          have ho := HO.out
          obtain ⟨g, rfl, hgN, hgs⟩ := ho.at (by omega)
          have hxl := ho.len
          have cc := ho.cell k hkl
          have ff := ho.frozen k
          have FIN : Hid (Own N (wr.setCell ⟨g, k, none⟩ (.int .u8 ((q : Int) + 1))) (.slice (some ⟨g, 0, none⟩) rn rc) (xs.set k (mrk q)) ∧ (xs.set k (mrk q)).take (k + 1) = List.replicate (k + 1) (mrk q) ∧ Chg N (some ⟨g, 0, none⟩) W0 (wr.setCell ⟨g, k, none⟩ (.int .u8 ((q : Int) + 1)))) := by
            rw [← HM.out]
            exact ⟨ho.set k (mrk q), set_rep xs k _ (by omega) HX.out, chg_set HC.out hgN⟩
          have HKL : Hid (k < rn) := hkl
          generalize (xs.getD k 0).toNat = OL at *
          clear ho HX HC HO hxl hgN hgs hk hkl
          go_wp2
          obtain ⟨f1, f2, f3⟩ := FIN.out
          exact ⟨⟨k + 1, _, HKL.out, by go_num, f1, f2, f3⟩, by have := HKL.out; simp [intOf]; omega⟩
        · obtain rfl : k = rn := by omega
          have k1 : ¬ (k : Int) < (k : Int) := by omega
          have hxe : xs = List.replicate k (mrk q) := by
            have := HX.out
            rwa [List.take_of_length_le (by rw [HO.out.len]; exact Nat.le_refl _)] at this
          subst hxe
          have GW : Hid (Grow N ⟨rao, k, rc⟩ q W0 0 rao rc wr) := ⟨HO.out, own_IsB HO.out, HO.out.tb, .inl rfl, HC.out⟩
          clear hkl HX HO HC hk
          go_wp2
          go_loopw [33, 34] (fun b i wr3 => ∃ (t c : Nat) (ao : Option Addr), t ≤ 40 ∧ i = .int .i64 (t : Int) ∧ b = .slice ao (k + t) c ∧ Hid (Grow N ⟨rao, k, rc⟩ q W0 t ao c wr3)) (fun _ i _ => 40 - (intOf i).toNat)
          case atStart => exact ⟨0, rc, rao, by omega, rfl, rfl, GW⟩
          case round =>
            clear GW x1
            obtain ⟨t, c, ao, ht, rfl, rfl, GW⟩ := hrel
            by_cases htl : t < 40
            · have t1 : (t : Int) < 40 := by omega
              have t3 : IntKind.i64.wrap ((t : Int) + 1) = (t : Int) + 1 := i64_in _ (by omega) (by omega)
              have HTL : Hid (t < 40) := htl
              have rowB : Row (wr.alloc (.cells #[.int .u8 ((q : Int) + 1)] 5)) wr.heap.size 5 [.int .u8 ((q : Int) + 1)] := Row.at _ _ _ _ _ rfl rfl
              have ho := GW.out.own.keep ((Below.refl wr.heap.size wr).alloc (Nat.le_refl _) (.cells #[.int .u8 ((q : Int) + 1)] 5))
              have hor : (wr.alloc (.cells #[.int .u8 ((q : Int) + 1)] 5)).ownsRow N 5 1 (.slice ao (k + t) c) (k + t) ((List.replicate (k + t) (mrk q)).map B8) := by have := ho.1; rwa [List.length_replicate] at this
              have ELB : ElT 22 5 1 1 (.int .u8 0) := ⟨Tryd.underlying22, by kernel_rfl, rfl, by omega⟩
              have hB8 : B8 (mrk q) = .int .u8 ((q : Int) + 1) := by unfold B8; rw [HM.out]
              go_wp2_with (at_builtin; refine wpList_append_just ELB rfl (.tmp 204) (.tmp 208) rfl N (wr.alloc (.cells #[.int .u8 ((q : Int) + 1)] 5)) ao (k + t) c _ rfl hor ho.2 (Below.refl _ _) wr.heap.size 0 1 1 [.int .u8 ((q : Int) + 1)] rfl rfl (fun j u hu => by rw [Nat.zero_add]; exact rowB.cell j u hu) (by omega) (by intro u hu; simp at hu; subst hu; rfl) (by have := HRN.out; unfold maxLen; omega) (by have := HRN.out; omega) ?_; intro ao' c' w' q1 q2 q3 q4 q5)
              have hown' : Own N w' (.slice ao' (k + t + 1) c') (List.replicate (k + t + 1) (mrk q)) := by
                refine ⟨?_, Nat.le_trans ho.2 q3⟩
                rw [List.length_replicate, List.replicate_succ', List.map_append, List.map_cons, List.map_nil, hB8]
                exact q1
              have GN := GW.out.step HLI.out hown' q2 (fun j hj hne => q4 j hj (fun g e e2 => hne (by rw [e, e2]))) (q5.imp id (fun h => ⟨h.1, h.2.1⟩))
              exact ⟨⟨t + 1, c', ao', by omega, by go_num, rfl, GN⟩, by simp [intOf]; omega⟩
            · obtain rfl : t = 40 := by omega
              have t1 : ¬ ((40 : Nat) : Int) < 40 := by omega
              have t2 : ¬ (40 : Int) < 40 := by omega
              obtain ⟨gq, hgq, _, hgqs⟩ := GW.out.own.at (by omega)
              subst hgq
              have GR := HG.out.1.chg HSEP.out _ HR.out HTB.out GW.out.chg
              have al := (Below.refl wr.heap.size wr).alloc (Nat.le_refl _) (.cells #[.slice (some ⟨gq, 0, none⟩) (k + 40) c] 22)
              have CA : Chg N rao wr (wr.alloc (.cells #[.slice (some ⟨gq, 0, none⟩) (k + 40) c] 22)) := ⟨al.mono GW.out.own.2, fun j hj _ => al.block j hj⟩
              have GR2 := GR.chg HSEP.out _ HR.out GW.out.tb CA
              have rowB : Row (wr.alloc (.cells #[.slice (some ⟨gq, 0, none⟩) (k + 40) c] 22)) wr.heap.size 22 [.slice (some ⟨gq, 0, none⟩) (k + 40) c] := Row.at _ _ _ _ _ rfl rfl
              have hlo := GR2.larr.1
              rw [HQ.out] at hlo
              have GT := GW.out
              have HTD : Hid (∀ (i : Nat) (r' : Gr), q < i → rs[i]? = some r' → ∃ xs, Own N W0 r'.val xs) := HG.out.1.todo
              have HBW : Hid (Below N Wa wr) := HBL.out.trans GT.chg.bel
              clear htl ht HG GW GR CA
              go_wp2_with (at_builtin; refine wpList_append_just el_rows rfl (.tmp 210) (.tmp 212) rfl N (wr.alloc (.cells #[.slice (some ⟨gq, 0, none⟩) (k + 40) c] 22)) aoG q cG lg rfl hlo GR2.larr.2 (Below.refl _ _) wr.heap.size 0 1 1 [.slice (some ⟨gq, 0, none⟩) (k + 40) c] rfl rfl (fun j u hu => by rw [Nat.zero_add]; exact rowB.cell j u hu) (by omega) (by intro u hu; simp at hu; subst hu; rfl) (by have := HQ6.out; unfold maxLen; omega) (by have := HQ6.out; omega) ?_; intro ao' c' w' q1 q2 q3 q4 q5)
              have key : Hid (GRest N rs (some ⟨D, 0, none⟩) dc (q + 1) w' ao' c' (lg ++ [.slice (some ⟨gq, 0, none⟩) (k + 40) c]) ∧ ∀ r', rs[q + 1]? = some r' → ∃ xs, Own N w' r'.val xs) := by
                have hz : (wr.alloc (.cells #[.slice (some ⟨gq, 0, none⟩) (k + 40) c] 22)).heap.size = wr.heap.size + 1 := by simp
                have fb : ∀ (ao : Option Addr), (∀ B off, ao = some ⟨B, off, none⟩ → B < wr.heap.size) → ∀ B off, ao = some ⟨B, off, none⟩ → (wr.alloc (.cells #[.slice (some ⟨gq, 0, none⟩) (k + 40) c] 22)).heap[B]? = wr.heap[B]? := fun ao h B off e => al.block B (h B off e)
                have f1 : ∀ B off, rao = some ⟨B, off, none⟩ → B < wr.heap.size := fun B off e => Nat.lt_of_lt_of_le (HLI.out B off e).2 GT.chg.size
                have f2 : ∀ B off, some (⟨gq, 0, none⟩ : Addr) = some ⟨B, off, none⟩ → B < wr.heap.size := fun B off e => by injection e with e; injection e with e _; omega
                refine GR2.push HQ.out ⟨rao, k, rc⟩ HR.out (GT.isb.of_block (fb rao f1)) (GT.tb.of_block (fb rao f1)) (fun B off e => ⟨(HLI.out B off e).1, by have := f1 B off e; omega⟩) gq c ((own_IsB GT.own).of_block (fb _ f2)) (GT.own.tb.of_block (fb _ f2)) (by omega) ?_ ⟨?_, by have := GR2.larr.2; omega⟩ q3 (fun j hj hne => q4 j hj (fun g e e2 => hne (by rw [e, e2]))) (q5.imp id (·.1))
                · intro i r' hi hr' e
                  rcases GT.pl with e2 | ⟨g', e2, hg'⟩
                  · have := HSEP.out q i _ r' gq HR.out hr' e2.symm e
                    omega
                  · injection e2 with e2; injection e2 with e2 _
                    subst e2
                    obtain ⟨xs, hx⟩ := HTD.out i r' (by omega) hr'
                    have := (hx.lies gq 0 e).2.2
                    omega
                · have hl1 : (lg ++ [Value.slice (some ⟨gq, 0, none⟩) (k + 40) c]).length = q + 1 := by rw [List.length_append, HQ.out]; rfl
                  rw [hl1]; exact q1
              have hl1 : Hid ((lg ++ [Value.slice (some ⟨gq, 0, none⟩) (k + 40) c]).length = q + 1) := by show _ = _; rw [List.length_append, HQ.out]; rfl
              have bbF : Hid (Below N Wa w') := HBW.out.trans ((al.mono GT.own.2).trans q2)
              exact ⟨⟨q + 1, c', ao', _, HQ6.out, by go_num, rfl, hl1, key, bbF⟩, by have := HQ6.out; simp [intOf]; omega⟩
    · obtain rfl : q = 6 := by omega
      have i1 : ¬ ((6 : Nat) : Int) < 6 := by omega
      have i2 : ¬ (6 : Int) < 6 := by omega
      clear hlt hq
      go_wp2
      refine HK.out _ _ ?_
      clear HK
      exact NXT.out _ _ _ _ _ _ _ _ _ _ _ _ _ _ _ _ _ _ _ _ _ _ _ _ _ _ _ _ _ _ _ _ _ _ _ _ _ _ _ _ _ _ _ _ _ _ _ _ _ _ _ _ _ _ _ _ _ _ _ _ _ _ _ _ _ _ _ _ _ _ _ _ _ _ _ _ _ _ _ _ _ _ _ _ _ _ _ _ _ _ _ _ _ _ _ _ _ _ _ _ _ _ _ _ _ _ _ _ _ _ _ _ _ _ _ _ _ _ _ _ _ _ _ _ _ _ _ _ _ _ _ _ _ _ _ _ _ _ _ _ _ _ _ _ _ _ _ _ _ _ _ _ _ _ _ _ _ _ _ _ _ _ _ _ _ _ _ _ _ _ _ _ _ _ _ _ _ _ _ _ _ _ _ _ _ _ _ _ _ _ _ _ _ _ _ _ _ _ _ _ _ _ _ _ _ _ _ _ _ _ _ _ _ _ _ _ _ _ _ _ _ _ _ _ _ _ _ _ _ _ _ _ _ _ _ _ _ _ _ _ _ _ _ _ _ _ _ _ _ _ _ _ _ _ _ _ _ _ _ _ _ _ _ _ _ _ _ _ _ _ _ _ _ aoG cG lg HBL.out HG.out.1 HQ.out
end
end Go.Proofs.YtdfbfheceobboaaDoor
