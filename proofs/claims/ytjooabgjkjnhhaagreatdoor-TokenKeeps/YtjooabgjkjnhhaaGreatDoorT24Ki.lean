
import Derived.Test.YtjooabgjkjnhhaaGreatDoorT24Kj
import Derived.Great.BuildSlice
/-! TokenKeeps: the loop that writes over and grows what was told. (Printed by tools/gent24c.py.) -/
namespace Go.Proofs.YtjooabgjkjnhhaaGreatDoor
open Go.RowKit
set_option linter.unusedVariables false
set_option linter.unusedSimpArgs false
set_option maxRecDepth 100000

theorem el_toks24 : ElT 65 40 35 88 (.agg zTk.toArray) := ⟨Tryz.underlying65, by kernel_rfl, rfl, by omega⟩
theorem wpList_build_tok1 {ops : Array Oper} {rest : List Oper} {o : Oper} {a : Act} {w : World} {Q : Exit → Act → World → Prop} (hgd : o.guard = none) (x : Operand) (ho : o.op = .buildSlice 65 1 #[(0, x)])
    (cs : List Value) (hl : cs.length = 35) (hx : a.eval x = .agg cs.toArray) (h : wpList Tryz.prog ops Q rest (a.put o.dst (.slice (some ⟨w.heap.size, 0, none⟩) 1 1)) (w.alloc (.cells cs.toArray 40))) : wpList Tryz.prog ops Q (o :: rest) a w := by
  refine wpList_plain hgd fun K hK => ?_
  obtain ⟨i0, hi, hz0, hz1, hz2⟩ := info_parts el_toks24.info
  refine wp_buildSlice 65 40 1 _ ho cs.toArray i0 _ Tryz.underlying65 hi hz0 (by rw [hz1]; omega) (by rw [hz1]; omega) ?_ (hK _ _ h)
  rw [hz1]
  have e : (#[(0, x)].map fun (i, y) => (i, a.eval y)).toList = (([Value.agg cs.toArray]).zipIdx 0).map fun x => (x.2, x.1) := by simp [hx]
  rw [e, Great.fill_whole (s := 35) (by decide) [Value.agg cs.toArray] _ (fun v hv => by rw [List.mem_singleton.1 hv]; simpa [Value.cells] using hl) (by simp)]
  congr 2
  simp [Value.cells]
theorem half_set {k n i : Nat} {old : List Value} (ho : old.length = n * 1) (hk : k < n) : (half k 1 (mB i) old).set k (.int .u8 ((i : Int) + 1)) = half (k + 1) 1 (mB i) old := by
  have hl : (half k 1 (mB i) old).length = n := by unfold half; rw [List.length_append, rep_len, List.length_drop, ho]; simp [mB]; omega
  have h1 := setL_eq [.int .u8 ((i : Int) + 1)] (half k 1 (mB i) old) k (by rw [hl]; simp; omega)
  have h2 := half_step (k := k) (size := 1) (n := n) (mk := mB i) (old := old) rfl ho hk
  rw [Nat.mul_one] at h2
  show setL (half k 1 (mB i) old) k [.int .u8 ((i : Int) + 1)] = _
  rw [h1]
  exact h2
theorem half_len {k size n : Nat} {mk old : List Value} (hs : mk.length = size) (ho : old.length = n * size) (hk : k ≤ n) : (half k size mk old).length = n * size := by
  unfold half
  rw [List.length_append, rep_len, List.length_drop, ho, hs]
  have := Nat.mul_le_mul_right size hk
  omega
theorem own_some {N e size n c : Nat} {w : World} {ao : Option Addr} {vs : List Value} (h : w.ownsRow N e size (.slice ao n c) n vs) (hn : 0 < n) : ∃ g, ao = some ⟨g, 0, none⟩ ∧ N ≤ g := by
  rcases h.2 with ⟨_, e0⟩ | ⟨g, cap, cur, e1, h2, _⟩
  · exact absurd e0 (by omega)
  · injection e1 with e1 _ _; exact ⟨g, e1, h2⟩
theorem RS.markI {N : Nat} {W0 : World} {r : Te} {gu i k : Nat} {CL : List Value} {W : World} (h : RS N W0 r gu (half k 1 (mB i) (r.x.id.map B8)) CL W) (hk : k < r.x.id.length) : ∃ g v, r.io = some ⟨g, 0, none⟩ ∧ W.cell? ⟨g, k, none⟩ = some v ∧ W.frozen? ⟨g, k, none⟩ = false ∧ RS N W0 r gu (half (k + 1) 1 (mB i) (r.x.id.map B8)) CL (W.setCell ⟨g, k, none⟩ (.int .u8 ((i : Int) + 1))) := by
  obtain ⟨g, hg, hN⟩ := own_some h.hi (by omega)
  have hi := h.hi
  rw [hg] at hi
  have hl : (half k 1 (mB i) (r.x.id.map B8)).length = r.x.id.length * 1 := half_len rfl (by rw [List.length_map, Nat.mul_one]) (Nat.le_of_lt hk)
  have hs := (hi.stored k (.int .u8 ((i : Int) + 1))).1
  rw [half_set (n := r.x.id.length) (by rw [List.length_map, Nat.mul_one]) hk, ← hg] at hs
  exact ⟨g, _, hg, by rw [hi.cellAt k (by omega), List.getElem?_eq_getElem (by rw [hl]; omega)], hi.frozenAt k, h.setI hg hN hs (SameBut.setCell g k _ W)⟩
theorem RS.markC {N : Nat} {W0 : World} {r : Te} {gu i k : Nat} {IL : List Value} {W : World} (h : RS N W0 r gu IL (half k 5 (mC i) (r.x.cs.flatMap cvC)) W) (hk : k < r.x.cs.length) : ∃ g, r.lo = some ⟨g, 0, none⟩ ∧ W.ownsRow N 52 5 (.slice (some ⟨g, 0, none⟩) r.x.cs.length r.lc) r.x.cs.length (half k 5 (mC i) (r.x.cs.flatMap cvC)) ∧ ∀ W2, W2.ownsRow N 52 5 (.slice (some ⟨g, 0, none⟩) r.x.cs.length r.lc) r.x.cs.length ((half k 5 (mC i) (r.x.cs.flatMap cvC)).take (k * 5) ++ mC i ++ (half k 5 (mC i) (r.x.cs.flatMap cvC)).drop (k * 5 + (mC i).length)) → SameBut g W W2 → RS N W0 r gu IL (half (k + 1) 5 (mC i) (r.x.cs.flatMap cvC)) W2 := by
  obtain ⟨g, hg, hN⟩ := own_some h.hc (by omega)
  have hc := h.hc
  rw [hg] at hc
  refine ⟨g, hg, hc, fun W2 h1 h2 => h.setC hg hN ?_ h2⟩
  rw [half_step (n := r.x.cs.length) (size := 5) (mk := mC i) (old := r.x.cs.flatMap cvC) rfl (flC_len _) hk] at h1
  rw [hg]
  exact h1
theorem RS.g5 {N : Nat} {W0 : World} {r : Te} {gu i : Nat} {W : World} (h : RS N W0 r gu (half r.x.id.length 1 (mB i) (r.x.id.map B8)) (half r.x.cs.length 5 (mC i) (r.x.cs.flatMap cvC)) W) (hN : N ≤ W0.heap.size) (ho : TkO 52 N W0 r.x r.io r.ic r.lo r.lc) : G5 N W0 r gu i 0 0 r.io r.ic r.lo r.lc W := by
  have h1 := h.hi
  have h2 := h.hc
  rw [half_all (by rw [List.length_map, Nat.mul_one])] at h1
  rw [half_all (flC_len _)] at h2
  refine ⟨h.bel, h.u, Gw.zero h1 ?_, Gw.zero h2 ?_, h.chg, h.hg, h.sz, hN, fun B off e => ⟨(own_lies ho.id.1 B off e).1, (own_lies ho.id.1 B off e).2.2⟩, fun B off e => ⟨(own_lies ho.cs B off e).1, (own_lies ho.cs B off e).2.2⟩⟩
  · by_cases h9 : 0 < r.x.id.length
    · exact .inl h9
    · right; rw [show r.x.id.length = 0 by omega]; rfl
  · by_cases h9 : 0 < r.x.cs.length
    · exact .inl h9
    · right; rw [show r.x.cs.length = 0 by omega]; rfl
set_option maxHeartbeats 16000000 in
theorem kp20 (c0 c1 c2 c4 c5 c6 c9 c10 c11 c12 c13 c14 c15 c16 c17 c18 c19 c20 c21 c22 c23 c24 c25 c26 c27 c28 c29 c30 c31 c32 c33 c34 c35 c36 c37 c38 c39 c40 c41 c42 c43 c44 c45 c46 c47 c48 c49 c50 c51 c52 c53 c54 c55 c56 c57 c58 c59 c60 c61 c62 c63 c64 c65 c66 c67 c68 c69 c70 c71 c72 c73 c74 c75 c76 c77 c78 c79 c80 c81 c82 c83 c84 c85 c86 c87 c88 c89 c90 c91 c92 c93 c94 c95 c96 c97 c98 c99 c100 c101 c102 c103 c104 c105 c106 c107 c108 c109 c110 c111 c112 c113 c114 c115 c116 c117 c118 c119 c120 c121 c122 c123 c124 c125 c126 c127 c128 c129 c130 c131 c132 c133 c134 c135 c136 c137 c138 c139 c140 c141 c142 c143 c144 c145 c146 c147 c148 c149 c150 c151 c152 c153 c154 c155 c156 c157 c158 c159 c160 c161 c162 c163 c164 c165 c166 c167 c168 c169 c170 c171 c172 c173 c174 c175 c176 c177 c178 c179 c180 c181 c182 c183 c184 c185 c186 c187 c188 c189 c190 c191 c192 c193 c194 c195 c196 c197 c198 c199 c200 c201 c202 c203 c204 c205 c206 c207 c208 c209 c210 c211 c212 c213 c214 c215 c216 c217 c218 c219 c220 c221 c222 c223 c224 c225 c226 c227 c228 c229 c230 c231 c232 c233 c234 c235 c236 c237 c238 c239 c240 c241 c242 c243 c244 c245 c246 c247 c248 c249 c250 c251 c252 c253 c254 c255 c256 c257 c258 c259 c260 c261 c262 c263 c264 c265 c266 c267 c268 c269 c270 c271 c272 c273 c274 c275 c276 c277 c278 c279 c280 c281 c282 c283 c284 c285 c286 c287 c288 c289 c290 c291 c292 c293 c294 c295 c296 c297 c298 c299 c300 c301 c302 c303 c304 c305 c306 c307 c308 c309 c310 c311 c312 c313 c314 c315 c316 c317 c318 c319 c320 c321 c322 c323 c324 c325 c326 c327 c328 c329 c330 c331 c332 c333 c334 c335 c336 c337 c338 c339 c340 c341 c342 c343 : Value) (w Wa : World) (N g3 g7 : Nat) (T : Tk) (im : Option Addr) (icm : Nat) (lm : Option Addr) (lcm : Nat) (it : Option Addr) (ict : Nat) (lt : Option Addr) (lct : Nat) (hN : N ≤ Wa.heap.size) (hB : ∀ W, Below N Wa W → Below w.heap.size w W) (hM : ∀ W, Below N Wa W → Row W g7 40 (tkCells T im icm lm lcm) ∧ TkV W T im icm lm lcm ∧ Row W g3 28 (tkCells T it ict lt lct) ∧ TkV W T it ict lt lct) (hT : T.cs.length ≤ 65536)
    (rs : List Te) (D dc : Nat) (hnn : rs.length ≤ 4) (hsep : SepT rs) (harr : Wa.ownsRow 0 40 35 (.slice (some ⟨D, 0, none⟩) rs.length dc) rs.length (rs.flatMap Te.cells)) (htodo : ∀ (j : Nat) (r : Te), rs[j]? = some r → TkO 52 N Wa r.x r.io r.ic r.lo r.lc) (hcs : ∀ r ∈ rs, r.x.cs.length ≤ 100000) : Code.wp Tryz.prog (dropS 20 (Tryz.f5.body.getD .skip)) (bodyPost Tryz.prog Tryz.f5 (OkP w)) ⟨#[c0, c1, c2, .pointer (some ⟨g3, 0, none⟩), c4, c5, c6, .pointer (some ⟨g7, 0, none⟩), .slice (some ⟨D, 0, none⟩) rs.length dc, c9, c10, c11, c12, c13, c14, c15, c16, c17, c18, c19, c20, c21, c22, c23, c24, c25, c26, c27, c28, c29, c30, c31, c32, c33, c34, c35, c36, c37, c38, c39, c40, c41, c42, c43, c44, c45, c46, c47, c48, c49, c50, c51, c52, c53, c54, c55, c56, c57, c58, c59, c60, c61, c62, c63, c64, c65, c66, c67, c68, c69, c70, c71, c72, c73, c74, c75, c76, c77, c78, c79, c80, c81, c82, c83, c84, c85, c86, c87, c88, c89, c90, c91, c92, c93, c94, c95, c96, c97, c98, c99, c100, c101, c102, c103, c104, c105, c106, c107, c108, c109, c110, c111, c112, c113, c114, c115, c116, c117, c118, c119, c120, c121, c122, c123, c124, c125, c126, c127, c128, c129, c130, c131, c132, c133, c134, c135, c136, c137, c138, c139, c140, c141, c142, c143, c144, c145, c146, c147, c148, c149, c150, c151, c152, c153, c154, c155, c156, c157, c158, c159, c160, c161, c162, c163, c164, c165, c166, c167, c168, c169, c170, c171, c172, c173, c174, c175, c176, c177, c178, c179, c180, c181, c182, c183, c184, c185, c186, c187, c188, c189, c190, c191, c192, c193, c194, c195, c196, c197, c198, c199, c200, c201, c202, c203, c204, c205, c206, c207, c208, c209, c210, c211, c212, c213, c214, c215, c216, c217, c218, c219, c220, c221, c222, c223, c224, c225, c226, c227, c228, c229, c230, c231, c232, c233, c234, c235, c236, c237, c238, c239, c240, c241, c242, c243, c244, c245, c246, c247, c248, c249, c250, c251, c252, c253, c254, c255, c256, c257, c258, c259, c260, c261, c262, c263, c264, c265, c266, c267, c268, c269, c270, c271, c272, c273, c274, c275, c276, c277, c278, c279, c280, c281, c282, c283, c284, c285, c286, c287, c288, c289, c290, c291, c292, c293, c294, c295, c296, c297, c298, c299, c300, c301, c302, c303, c304, c305, c306, c307, c308, c309, c310, c311, c312, c313, c314, c315, c316, c317, c318, c319, c320, c321, c322, c323, c324, c325, c326, c327, c328, c329, c330, c331, c332, c333, c334, c335, c336, c337, c338, c339, c340, c341, c342, c343], []⟩ Wa := by
  have HB35 : Hid (∀ r ∈ rs, r.cells.length = 35) := fun r hr => by
    obtain ⟨j, hj⟩ := List.getElem?_of_mem hr
    exact tkC_len (htodo j r hj).tag
  have HBB : Hid (∀ r ∈ rs, r.x.id.length ≤ 140737488351232 ∧ r.x.cs.length ≤ 140737488351232) := fun r hr => by
    obtain ⟨j, hj⟩ := List.getElem?_of_mem hr
    exact ⟨(htodo j r hj).big, by have := hcs r hr; omega⟩
  have NXT : Hid (∀ c0 c1 c2 c4 c5 c6 c9 c10 c11 c12 c13 c14 c15 c16 c17 c18 c19 c20 c21 c22 c23 c25 c26 c27 c28 c29 c30 c31 c32 c33 c34 c35 c36 c37 c38 c39 c40 c41 c42 c43 c44 c45 c46 c47 c48 c49 c50 c51 c52 c53 c54 c55 c56 c57 c58 c59 c60 c61 c62 c63 c64 c65 c66 c67 c68 c69 c70 c71 c72 c73 c74 c75 c76 c77 c78 c79 c80 c81 c82 c83 c84 c85 c86 c87 c88 c89 c90 c91 c92 c93 c94 c95 c96 c97 c98 c99 c100 c101 c102 c103 c104 c105 c106 c107 c108 c109 c110 c111 c112 c113 c114 c115 c116 c117 c118 c119 c120 c121 c122 c123 c124 c125 c126 c127 c128 c129 c130 c131 c132 c133 c134 c135 c136 c137 c138 c139 c140 c141 c142 c143 c144 c145 c146 c147 c148 c149 c150 c151 c152 c153 c154 c155 c156 c157 c158 c159 c160 c161 c162 c163 c164 c165 c166 c167 c168 c169 c170 c171 c172 c173 c174 c175 c176 c177 c178 c179 c180 c181 c182 c183 c184 c185 c186 c187 c188 c189 c190 c191 c192 c193 c194 c195 c196 c197 c198 c199 c200 c201 c202 c203 c204 c205 c206 c207 c208 c209 c210 c211 c212 c213 c214 c215 c216 c217 c218 c219 c220 c221 c222 c223 c224 c225 c226 c227 c228 c229 c230 c231 c232 c233 c234 c235 c236 c237 c238 c239 c240 c241 c242 c243 c244 c245 c246 c247 c248 c249 c250 c251 c252 c253 c254 c255 c256 c257 c258 c259 c260 c261 c262 c263 c264 c265 c266 c267 c268 c269 c270 c271 c272 c273 c274 c275 c276 c277 c278 c279 c280 c281 c282 c283 c284 c285 c286 c287 c288 c289 c290 c291 c292 c293 c294 c295 c296 c297 c298 c299 c300 c301 c302 c303 c304 c305 c306 c307 c308 c309 c310 c311 c312 c313 c314 c315 c316 c317 c318 c319 c320 c321 c322 c323 c324 c325 c326 c327 c328 c329 c330 c331 c332 c333 c334 c335 c336 c337 c338 c339 c340 c341 c342 c343 W (E ec : Nat) (us : List (List Value)), GT N Wa rs D dc rs.length E ec us W → Code.wp Tryz.prog (dropS 22 (Tryz.f5.body.getD .skip)) (bodyPost Tryz.prog Tryz.f5 (OkP w)) ⟨#[c0, c1, c2, .pointer (some ⟨g3, 0, none⟩), c4, c5, c6, .pointer (some ⟨g7, 0, none⟩), .slice (some ⟨D, 0, none⟩) rs.length dc, c9, c10, c11, c12, c13, c14, c15, c16, c17, c18, c19, c20, c21, c22, c23, .slice (some ⟨E, 0, none⟩) rs.length ec, c25, c26, c27, c28, c29, c30, c31, c32, c33, c34, c35, c36, c37, c38, c39, c40, c41, c42, c43, c44, c45, c46, c47, c48, c49, c50, c51, c52, c53, c54, c55, c56, c57, c58, c59, c60, c61, c62, c63, c64, c65, c66, c67, c68, c69, c70, c71, c72, c73, c74, c75, c76, c77, c78, c79, c80, c81, c82, c83, c84, c85, c86, c87, c88, c89, c90, c91, c92, c93, c94, c95, c96, c97, c98, c99, c100, c101, c102, c103, c104, c105, c106, c107, c108, c109, c110, c111, c112, c113, c114, c115, c116, c117, c118, c119, c120, c121, c122, c123, c124, c125, c126, c127, c128, c129, c130, c131, c132, c133, c134, c135, c136, c137, c138, c139, c140, c141, c142, c143, c144, c145, c146, c147, c148, c149, c150, c151, c152, c153, c154, c155, c156, c157, c158, c159, c160, c161, c162, c163, c164, c165, c166, c167, c168, c169, c170, c171, c172, c173, c174, c175, c176, c177, c178, c179, c180, c181, c182, c183, c184, c185, c186, c187, c188, c189, c190, c191, c192, c193, c194, c195, c196, c197, c198, c199, c200, c201, c202, c203, c204, c205, c206, c207, c208, c209, c210, c211, c212, c213, c214, c215, c216, c217, c218, c219, c220, c221, c222, c223, c224, c225, c226, c227, c228, c229, c230, c231, c232, c233, c234, c235, c236, c237, c238, c239, c240, c241, c242, c243, c244, c245, c246, c247, c248, c249, c250, c251, c252, c253, c254, c255, c256, c257, c258, c259, c260, c261, c262, c263, c264, c265, c266, c267, c268, c269, c270, c271, c272, c273, c274, c275, c276, c277, c278, c279, c280, c281, c282, c283, c284, c285, c286, c287, c288, c289, c290, c291, c292, c293, c294, c295, c296, c297, c298, c299, c300, c301, c302, c303, c304, c305, c306, c307, c308, c309, c310, c311, c312, c313, c314, c315, c316, c317, c318, c319, c320, c321, c322, c323, c324, c325, c326, c327, c328, c329, c330, c331, c332, c333, c334, c335, c336, c337, c338, c339, c340, c341, c342, c343], []⟩ W) := fun c0 c1 c2 c4 c5 c6 c9 c10 c11 c12 c13 c14 c15 c16 c17 c18 c19 c20 c21 c22 c23 c25 c26 c27 c28 c29 c30 c31 c32 c33 c34 c35 c36 c37 c38 c39 c40 c41 c42 c43 c44 c45 c46 c47 c48 c49 c50 c51 c52 c53 c54 c55 c56 c57 c58 c59 c60 c61 c62 c63 c64 c65 c66 c67 c68 c69 c70 c71 c72 c73 c74 c75 c76 c77 c78 c79 c80 c81 c82 c83 c84 c85 c86 c87 c88 c89 c90 c91 c92 c93 c94 c95 c96 c97 c98 c99 c100 c101 c102 c103 c104 c105 c106 c107 c108 c109 c110 c111 c112 c113 c114 c115 c116 c117 c118 c119 c120 c121 c122 c123 c124 c125 c126 c127 c128 c129 c130 c131 c132 c133 c134 c135 c136 c137 c138 c139 c140 c141 c142 c143 c144 c145 c146 c147 c148 c149 c150 c151 c152 c153 c154 c155 c156 c157 c158 c159 c160 c161 c162 c163 c164 c165 c166 c167 c168 c169 c170 c171 c172 c173 c174 c175 c176 c177 c178 c179 c180 c181 c182 c183 c184 c185 c186 c187 c188 c189 c190 c191 c192 c193 c194 c195 c196 c197 c198 c199 c200 c201 c202 c203 c204 c205 c206 c207 c208 c209 c210 c211 c212 c213 c214 c215 c216 c217 c218 c219 c220 c221 c222 c223 c224 c225 c226 c227 c228 c229 c230 c231 c232 c233 c234 c235 c236 c237 c238 c239 c240 c241 c242 c243 c244 c245 c246 c247 c248 c249 c250 c251 c252 c253 c254 c255 c256 c257 c258 c259 c260 c261 c262 c263 c264 c265 c266 c267 c268 c269 c270 c271 c272 c273 c274 c275 c276 c277 c278 c279 c280 c281 c282 c283 c284 c285 c286 c287 c288 c289 c290 c291 c292 c293 c294 c295 c296 c297 c298 c299 c300 c301 c302 c303 c304 c305 c306 c307 c308 c309 c310 c311 c312 c313 c314 c315 c316 c317 c318 c319 c320 c321 c322 c323 c324 c325 c326 c327 c328 c329 c330 c331 c332 c333 c334 c335 c336 c337 c338 c339 c340 c341 c342 c343 W E ec us h => kp22 c0 c1 c2 c4 c5 c6 c9 c10 c11 c12 c13 c14 c15 c16 c17 c18 c19 c20 c21 c22 c23 c25 c26 c27 c28 c29 c30 c31 c32 c33 c34 c35 c36 c37 c38 c39 c40 c41 c42 c43 c44 c45 c46 c47 c48 c49 c50 c51 c52 c53 c54 c55 c56 c57 c58 c59 c60 c61 c62 c63 c64 c65 c66 c67 c68 c69 c70 c71 c72 c73 c74 c75 c76 c77 c78 c79 c80 c81 c82 c83 c84 c85 c86 c87 c88 c89 c90 c91 c92 c93 c94 c95 c96 c97 c98 c99 c100 c101 c102 c103 c104 c105 c106 c107 c108 c109 c110 c111 c112 c113 c114 c115 c116 c117 c118 c119 c120 c121 c122 c123 c124 c125 c126 c127 c128 c129 c130 c131 c132 c133 c134 c135 c136 c137 c138 c139 c140 c141 c142 c143 c144 c145 c146 c147 c148 c149 c150 c151 c152 c153 c154 c155 c156 c157 c158 c159 c160 c161 c162 c163 c164 c165 c166 c167 c168 c169 c170 c171 c172 c173 c174 c175 c176 c177 c178 c179 c180 c181 c182 c183 c184 c185 c186 c187 c188 c189 c190 c191 c192 c193 c194 c195 c196 c197 c198 c199 c200 c201 c202 c203 c204 c205 c206 c207 c208 c209 c210 c211 c212 c213 c214 c215 c216 c217 c218 c219 c220 c221 c222 c223 c224 c225 c226 c227 c228 c229 c230 c231 c232 c233 c234 c235 c236 c237 c238 c239 c240 c241 c242 c243 c244 c245 c246 c247 c248 c249 c250 c251 c252 c253 c254 c255 c256 c257 c258 c259 c260 c261 c262 c263 c264 c265 c266 c267 c268 c269 c270 c271 c272 c273 c274 c275 c276 c277 c278 c279 c280 c281 c282 c283 c284 c285 c286 c287 c288 c289 c290 c291 c292 c293 c294 c295 c296 c297 c298 c299 c300 c301 c302 c303 c304 c305 c306 c307 c308 c309 c310 c311 c312 c313 c314 c315 c316 c317 c318 c319 c320 c321 c322 c323 c324 c325 c326 c327 c328 c329 c330 c331 c332 c333 c334 c335 c336 c337 c338 c339 c340 c341 c342 c343 w W g3 g7 T im icm lm lcm it ict lt lct (hB W h.bel) (hM W h.bel).1 (hM W h.bel).2.1 (hM W h.bel).2.2.1 (hM W h.bel).2.2.2 hT D 0 E 0 rs.length dc ec hnn (h.fin rfl HB35.out HBB.out)
  have G0 : Hid (GT N Wa rs D dc 0 Wa.heap.size 0 [] (Wa.alloc (.cells #[] 40))) := by
    have hb : Below Wa.heap.size Wa (Wa.alloc (.cells #[] 40)) := (Below.refl _ _).alloc (Nat.le_refl _) _
    have lD := (own_lies harr D 0 rfl).2.2
    exact ⟨hb.mono hN, by simp; omega, owB_keep harr hb, fun j r _ hr => (htodo j r hr).keep hb, fun j r hj => absurd hj (by omega), ⟨rfl, .inr ⟨Wa.heap.size, 0, #[], rfl, hN, heap_alloc_new Wa _, Nat.le_refl _, by unfold maxLen; omega, rfl, rfl⟩⟩, rfl, fun u hu => (by cases hu), by omega⟩
  have HSP : Hid (SepT rs) := hsep
  have HCS : Hid (∀ r ∈ rs, r.x.cs.length ≤ 100000) := hcs
  have HN4 : Hid (rs.length ≤ 4) := hnn
  clear htodo harr hM hB hsep hcs hT hN
  obtain ⟨nn, hn⟩ : ∃ nn, rs.length = nn := ⟨_, rfl⟩
  have HNN : Hid (rs.length = nn ∧ nn ≤ 4) := ⟨hn, by omega⟩
  rw [hn] at NXT ⊢
  clear hn hnn
  conv => arg 2; whnf
  refine wp_seq_k fun K hK => ?_
  have HK : Hid _ := hK
  clear hK
  go_wp2
  refine HK.out _ _ ?_
  clear HK
  obtain ⟨Wb, hWb⟩ : ∃ Wb, Wb = Wa.alloc (.cells #[] 40) := ⟨_, rfl⟩
  refine wp_at24 hWb ?_
  rw [← hWb] at G0
  clear hWb
  refine wp_seq_k fun K hK => ?_
  have HK : Hid _ := hK
  clear hK
  go_wp2
  go_loopw [194, 24] (fun iv lv wr => ∃ (i E ec : Nat) (us : List (List Value)), i ≤ nn ∧ iv = .int .i64 (i : Int) ∧ lv = .slice (some ⟨E, 0, none⟩) i ec ∧ Hid (GT N Wa rs D dc i E ec us wr)) (fun iv _ _ => nn - (intOf iv).toNat)
  case atStart => exact ⟨0, Wa.heap.size, 0, [], by omega, rfl, rfl, G0⟩
  case round =>
    clear G0
    obtain ⟨i, E, ec, us, hi, rfl, rfl, HI⟩ := hrel
    obtain ⟨W0, hW0⟩ : ∃ W0, W0 = wr := ⟨_, rfl⟩
    subst hW0
    by_cases hlt : i < nn
    · have y0 : (0 : Int) ≤ (i : Int) := by omega
      have y1 : (i : Int) < (nn : Int) := by omega
      have z1 : IntKind.i64.wrap ((i : Int) + 1) = (i : Int) + 1 := i64_in _ (by omega) (by have := HNN.out.2; omega)
      have z2 : IntKind.i64.wrap (-1 - (i : Int)) = -1 - (i : Int) := i64_in _ (by have := HNN.out.2; omega) (by omega)
      have z3 : ((i : Int) + 1) % 256 = (i : Int) + 1 := by have := HNN.out.2; omega
      obtain ⟨r, hr⟩ : ∃ r, rs[i]? = some r := ⟨_, List.getElem?_eq_getElem (by rw [HNN.out.1]; exact hlt)⟩
      have HR : Hid (rs[i]? = some r) := hr
      have hm := List.mem_of_getElem? hr
      have ho := HI.out.todo i r (Nat.le_refl _) hr
      have HO : Hid (TkO 52 N W0 r.x r.io r.ic r.lo r.lc) := ho
      have HLT : Hid (i < nn) := hlt
      have L35 : Hid (r.cells.length = 35) := HB35.out r hm
      have O35 : Hid (∀ v ∈ r.cells, v.oneCell' = true) := tkCells_one _ _ _ _ _
      have rg : W0.rangeAt D (i * 35) r.cells := fun k v hk => by
        have := HI.out.arr.cells (g := D) rfl (i * 35 + k) v (flat_at Te.cells 35 rs HB35.out i r hr k v hk)
        rw [Addr.add_mid, Nat.zero_add] at this
        exact this
      have BN : Hid (r.x.id.length ≤ 140737488351232 ∧ r.x.cs.length ≤ 100000) := ⟨ho.big, HCS.out r hm⟩
      have ST1 : Hid (∀ w1, Row w1 W0.heap.size 40 (zTk.take 0 ++ r.cells ++ zTk.drop (0 + r.cells.length)) → SameBut W0.heap.size (W0.alloc (.cells zTk.toArray 40)) w1 → RS N W0 r W0.heap.size (half 0 1 (mB i) (r.x.id.map B8)) (half 0 5 (mC i) (r.x.cs.flatMap cvC)) w1) := fun w1 hr1 hs1 => by
        have hb : Below W0.heap.size W0 w1 := hs1.below ((Below.refl _ _).alloc (Nat.le_refl _) _) (Nat.le_refl _)
        rw [half_zero, half_zero]
        exact ⟨hb.mono HI.out.hN, row_whole hr1 (by rw [L35.out]; exact Nat.le_refl _), owB_keep HO.out.id.1 hb, owB_keep HO.out.cs hb, fun k hk _ _ => hb.block k hk, Nat.le_refl _, hb.size⟩
      clear hr hm ho hi hlt
      go_wp2_with (first
        | (have hz := rg; clear hz; refine wpList_load_mid rfl 40 (.tmp 197) rfl D (i * 35) rfl r.cells _ rg Tryz.underlying40 rfl (by rw [L35.out]; kernel_rfl) ?_; clear rg)
        | (have hz := ST1; clear hz; refine wpList_store_Row rfl 40 (.tmp 26) (.tmp 198) rfl W0.heap.size 40 0 zTk r.cells (zRow W0) (by rw [L35.out]; exact Nat.le_refl _) rfl rfl (by rw [L35.out]; kernel_rfl) O35.out ?_; intro w1 hr1 hs1; have HS1 : Hid _ := ST1.out w1 hr1 hs1; have x1 : w1.cell? ⟨W0.heap.size, 1, none⟩ = some (.slice r.io r.x.id.length r.ic) := HS1.out.u.cell 1 _ rfl; clear ST1 hr1 hs1))
      obtain ⟨gu, hgu⟩ : ∃ gu, gu = W0.heap.size := ⟨_, rfl⟩
      rw [← hgu] at HS1 x1 ⊢
      have HGU : Hid (gu = W0.heap.size) := hgu
      clear hgu
      obtain ⟨n, hn⟩ : ∃ n, r.x.id.length = n := ⟨_, rfl⟩
      obtain ⟨m, hm⟩ : ∃ m, r.x.cs.length = m := ⟨_, rfl⟩
      have HNM : Hid (r.x.id.length = n ∧ r.x.cs.length = m) := ⟨hn, hm⟩
      rw [hn] at x1 ⊢
      clear hn hm
      go_loopw [202] (fun kv w9 => ∃ k : Nat, k ≤ n ∧ kv = .int .i64 (k : Int) ∧ Hid (RS N W0 r gu (half k 1 (mB i) (r.x.id.map B8)) (half 0 5 (mC i) (r.x.cs.flatMap cvC)) w9)) (fun kv _ => n - (intOf kv).toNat)
      case atStart => exact ⟨0, by omega, rfl, HS1⟩
      case round =>
        clear HS1 x1
        obtain ⟨k, hk, rfl, HK1⟩ := hrel
        obtain ⟨w2, hw2⟩ : ∃ w2, w2 = wr := ⟨_, rfl⟩
        subst hw2
        have x1 : w2.cell? ⟨gu, 1, none⟩ = some (.slice r.io n r.ic) := by
          have := HK1.out.u.cell 1 (.slice r.io r.x.id.length r.ic) rfl
          rw [HNM.out.1] at this
          exact this
        by_cases hkl : k < n
        · have v0 : (0 : Int) ≤ (k : Int) := by omega
          have v1 : (k : Int) < (n : Int) := by omega
          have v3 : IntKind.i64.wrap ((k : Int) + 1) = (k : Int) + 1 := i64_in _ (by omega) (by have := BN.out.1; rw [HNM.out.1] at this; omega)
          obtain ⟨g, v9, hg, xk, fk, hrs⟩ := HK1.out.markI (by rw [HNM.out.1]; exact hkl)
          have HRS : Hid _ := hrs
          have HKL : Hid (k < n) := hkl
          rw [hg] at x1
          clear hrs hk hkl HK1 hg
          go_wp2
          exact ⟨⟨k + 1, HKL.out, by go_num, HRS⟩, by have := HKL.out; simp [intOf]; omega⟩
        · obtain rfl : k = n := by omega
          have v1 : ¬ ((k : Nat) : Int) < (k : Int) := by omega
          have HK2 : Hid (RS N W0 r gu (half r.x.id.length 1 (mB i) (r.x.id.map B8)) (half 0 5 (mC i) (r.x.cs.flatMap cvC)) w2) := by rw [HNM.out.1]; exact HK1.out
          have x2 : w2.cell? ⟨gu, 2, none⟩ = some (.slice r.lo m r.lc) := by
            have := HK1.out.u.cell 2 (.slice r.lo r.x.cs.length r.lc) rfl
            rw [HNM.out.2] at this
            exact this
          clear HK1 x1 hk hkl
          go_wp2
          go_loopw [216] (fun kv w9 => ∃ q : Nat, q ≤ m ∧ kv = .int .i64 (q : Int) ∧ Hid (RS N W0 r gu (half r.x.id.length 1 (mB i) (r.x.id.map B8)) (half q 5 (mC i) (r.x.cs.flatMap cvC)) w9)) (fun kv _ => m - (intOf kv).toNat)
          case atStart => exact ⟨0, by omega, rfl, HK2⟩
          case round =>
            clear HK2 x2 v1
            obtain ⟨q, hq, rfl, HQ⟩ := hrel
            obtain ⟨w3, hw3⟩ : ∃ w3, w3 = wr := ⟨_, rfl⟩
            subst hw3
            have x2 : w3.cell? ⟨gu, 2, none⟩ = some (.slice r.lo m r.lc) := by
              have := HQ.out.u.cell 2 (.slice r.lo r.x.cs.length r.lc) rfl
              rw [HNM.out.2] at this
              exact this
            by_cases hql : q < m
            · have v0 : (0 : Int) ≤ (q : Int) := by omega
              have v1 : (q : Int) < (m : Int) := by omega
              have v3 : IntKind.i64.wrap ((q : Int) + 1) = (q : Int) + 1 := i64_in _ (by omega) (by have := BN.out.2; rw [HNM.out.2] at this; omega)
              obtain ⟨g, hg, hoc, hrs⟩ := HQ.out.markC (by rw [HNM.out.2]; exact hql)
              have HRS : Hid _ := hrs
              have HOC : Hid _ := hoc
              have HQL : Hid (q < m) := hql
              rw [hg] at x2
              clear hrs hoc hq hql HQ hg
              go_wp2_with (first
                | (have hz := HRS; clear hz; refine wpList_store_own rfl 52 (.tmp 225) (.tmp 224) rfl N 52 5 g r.x.cs.length r.lc (q * 5) _ (mC i) HOC.out (by have := HQL.out; have := HNM.out.2; simp [mC]; omega) rfl rfl (by kernel_rfl) (by simp [mC, Value.oneCell']) ?_; intro w4 h4 s4; have HN4b : Hid _ := HRS.out w4 h4 s4; clear HRS HOC h4 s4))
              exact ⟨⟨q + 1, HQL.out, by go_num, HN4b⟩, by have := HQL.out; simp [intOf]; omega⟩
            · obtain rfl : q = m := by omega
              have v1 : ¬ ((q : Nat) : Int) < (q : Int) := by omega
              have HG0 : Hid (G5 N W0 r gu i 0 0 r.io r.ic r.lo r.lc w3) := RS.g5 (by rw [HNM.out.2]; exact HQ.out) HI.out.hN HO.out
              clear HQ x2 hq hql
              go_wp2
              go_loopw [29] (fun tv w9 => ∃ (t : Nat) (ao : Option Addr) (c : Nat) (bo : Option Addr) (d : Nat), t ≤ 40 ∧ tv = .int .i64 (t : Int) ∧ Hid (G5 N W0 r gu i t t ao c bo d w9)) (fun tv _ => 40 - (intOf tv).toNat)
              case atStart => exact ⟨0, r.io, r.ic, r.lo, r.lc, by omega, rfl, HG0⟩
              case round =>
                clear HG0 v1
                obtain ⟨t, ao, c, bo, d, ht, rfl, HG⟩ := hrel
                obtain ⟨w5, hw5⟩ : ∃ w5, w5 = wr := ⟨_, rfl⟩
                subst hw5
                by_cases htl : t < 40
                · have v1 : (t : Int) < 40 := by omega
                  have v3 : IntKind.i64.wrap ((t : Int) + 1) = (t : Int) + 1 := i64_in _ (by omega) (by omega)
                  have HTL : Hid (t < 40) := htl
                  have x1 : w5.cell? ⟨gu, 1, none⟩ = some (.slice ao (r.x.id.length + t) c) := HG.out.u.cell 1 _ rfl
                  have LI : Hid (∀ j u, (mB i)[j]? = some u → (w5.alloc (.cells #[.int .u8 ((i : Int) + 1)] 5)).cell? ⟨w5.heap.size, 0 + j, none⟩ = some u) := fun j u hu => by rw [Nat.zero_add]; exact (Row.at w5 5 (mB i) #[.int .u8 ((i : Int) + 1)] _ rfl rfl).cell j u hu
                  have AI : Hid (∀ ao6 c6 w6, w6.ownsRow N 5 1 (.slice ao6 (r.x.id.length + t + 1) c6) (r.x.id.length + t + 1) (rep (r.x.id.length + t) (mB i) ++ mB i) → Below N (w5.alloc (.cells #[.int .u8 ((i : Int) + 1)] 5)) w6 → (w5.alloc (.cells #[.int .u8 ((i : Int) + 1)] 5)).heap.size ≤ w6.heap.size → (∀ q, q < (w5.alloc (.cells #[.int .u8 ((i : Int) + 1)] 5)).heap.size → (∀ g, ao = some ⟨g, 0, none⟩ → q ≠ g) → w6.heap[q]? = (w5.alloc (.cells #[.int .u8 ((i : Int) + 1)] 5)).heap[q]?) → (ao6 = ao ∨ (ao6 = some ⟨(w5.alloc (.cells #[.int .u8 ((i : Int) + 1)] 5)).heap.size, 0, none⟩ ∧ Below (w5.alloc (.cells #[.int .u8 ((i : Int) + 1)] 5)).heap.size (w5.alloc (.cells #[.int .u8 ((i : Int) + 1)] 5)) w6 ∧ (w5.alloc (.cells #[.int .u8 ((i : Int) + 1)] 5)).heap.size < w6.heap.size)) → G5 N W0 r gu i (t + 1) t ao6 c6 bo d (w6.setCell ⟨gu, 1, none⟩ (.slice ao6 (r.x.id.length + t + 1) c6)) ∧ Row w6 gu 40 (tkC r.x.key ao (r.x.id.length + t) c bo (r.x.cs.length + t) d r.x.tag)) := fun ao6 c6 w6 h1 h2 h3 h4 h5 => HG.out.appI h1 h2 h3 h4 h5
                  clear ht htl
                  go_upto_region 51 with (at_builtin; have hz := AI; clear hz; refine wpList_append_just24 el_bytes rfl (.tmp 232) (.tmp 236) rfl N (w5.alloc (.cells #[.int .u8 ((i : Int) + 1)] 5)) ao (r.x.id.length + t) c (rep (r.x.id.length + t) (mB i)) rfl (owB_keep HG.out.gi.own ((Below.refl _ _).alloc (Nat.le_refl _) _)) (by have := HG.out.hN; have := HG.out.sz; simp; omega) (Below.refl _ _) w5.heap.size 0 1 1 (mB i) rfl rfl LI.out (by omega) (by simp [mB, Value.oneCell']) (by have := BN.out.1; have := HTL.out; unfold maxLen; omega) (by have := BN.out.1; have := HTL.out; omega) ?_; intro ao6 c6 w6 h1 h2 h3 h4 h5; have HA : Hid _ := AI.out ao6 c6 w6 h1 h2 h3 h4 h5; have x6 : w6.cell? ⟨gu, 1, none⟩ = some (.slice ao (r.x.id.length + t) c) := HA.out.2.cell 1 _ rfl; have f6 : w6.frozen? ⟨gu, 1, none⟩ = false := HA.out.2.frozen 1; clear AI LI HG h1 h2 h3 h4 h5 x1)
                  obtain ⟨w7, hw7⟩ : ∃ w7, w7 = w6.setCell ⟨gu, 1, none⟩ (.slice ao6 (r.x.id.length + t + 1) c6) := ⟨_, rfl⟩
                  have HG7 : Hid (G5 N W0 r gu i (t + 1) t ao6 c6 bo d w7) := by rw [hw7]; exact HA.out.1
                  refine wp_at24 hw7 ?_
                  clear HA x6 f6 hw7
                  have x7 : w7.cell? ⟨gu, 2, none⟩ = some (.slice bo (r.x.cs.length + t) d) := HG7.out.u.cell 2 _ rfl
                  have LI2 : Hid (∀ j u, (mC i)[j]? = some u → (w7.alloc (.cells #[.int .i64 (-1 - (i : Int)), .int .i64 0, .int .i64 0, .int .i64 0, .int .u64 0] 52)).cell? ⟨w7.heap.size, 0 + j, none⟩ = some u) := fun j u hu => by rw [Nat.zero_add]; exact (Row.at w7 52 (mC i) _ _ rfl rfl).cell j u hu
                  have SZ7 : Hid (N ≤ (w7.alloc (.cells #[.int .i64 (-1 - (i : Int)), .int .i64 0, .int .i64 0, .int .i64 0, .int .u64 0] 52)).heap.size) := by show N ≤ _; have := HG7.out.hN; have := HG7.out.sz; simp; omega
                  go_wp2_with (at_builtin; have hz := HG7; clear hz; refine wpList_append_just24 el_tocavs rfl (.tmp 240) (.tmp 244) rfl N (w7.alloc (.cells #[.int .i64 (-1 - (i : Int)), .int .i64 0, .int .i64 0, .int .i64 0, .int .u64 0] 52)) bo (r.x.cs.length + t) d (rep (r.x.cs.length + t) (mC i)) rfl (owB_keep HG7.out.gc.own ((Below.refl _ _).alloc (Nat.le_refl _) _)) SZ7.out (Below.refl _ _) w7.heap.size 0 1 1 (mC i) rfl rfl LI2.out (by omega) (by simp [mC, Value.oneCell']) (by have := BN.out.2; have := HTL.out; unfold maxLen; omega) (by have := BN.out.2; have := HTL.out; omega) ?_; intro bo8 d8 w8 h1 h2 h3 h4 h5; have HE : Hid _ := HG7.out.appC h1 h2 h3 h4 h5; have x8 : w8.cell? ⟨gu, 2, none⟩ = some (.slice bo (r.x.cs.length + t) d) := HE.out.2.cell 2 _ rfl; have f8 : w8.frozen? ⟨gu, 2, none⟩ = false := HE.out.2.frozen 2; clear HG7 LI2 SZ7 h1 h2 h3 h4 h5 x7)
                  exact ⟨⟨t + 1, ao6, c6, bo8, d8, HTL.out, by go_num, HE.out.1⟩, by have := HTL.out; simp [intOf]; omega⟩
                · obtain rfl : t = 40 := by omega
                  have v1 : ¬ ((40 : Nat) : Int) < 40 := by omega
                  have v2 : ¬ (40 : Int) < 40 := by omega
                  obtain ⟨U, hU⟩ : ∃ U, U = tkC r.x.key ao (r.x.id.length + 40) c bo (r.x.cs.length + 40) d r.x.tag := ⟨_, rfl⟩
                  have HU : Hid (U = tkC r.x.key ao (r.x.id.length + 40) c bo (r.x.cs.length + 40) d r.x.tag) := hU
                  have LU : Hid (U.length = 35) := by rw [hU]; exact tkC_len HO.out.tag
                  have OU : Hid (∀ v ∈ U, v.oneCell' = true) := by rw [hU]; exact tkC_one _ _ _ _ _ _ _ _
                  have RU : Hid (Row w5 gu 40 U) := by rw [hU]; exact HG.out.u
                  have OE : Hid (w5.ownsRow N 40 35 (.slice (some ⟨E, 0, none⟩) i ec) i us.flatten) := by
                    refine owns_blk24 HI.out.larr fun B off e => ?_
                    injection e with e; injection e with e _
                    subst e
                    obtain ⟨cE, fE, tE⟩ := own_tyb HI.out.larr E 0 rfl
                    refine HG.out.chg E (own_lies HI.out.larr E 0 rfl).2.2 (fun e => ?_) (fun e => ?_)
                    · obtain ⟨c1, f1, t1⟩ := own_tyb HO.out.id.1 E 0 e
                      exact ty_ne t1 tE (by decide) rfl
                    · obtain ⟨c1, f1, t1⟩ := own_tyb HO.out.cs E 0 e
                      exact ty_ne t1 tE (by decide) rfl
                  have LIT : Hid (∀ j u, U[j]? = some u → (w5.alloc (.cells U.toArray 40)).cell? ⟨w5.heap.size, 0 + j, none⟩ = some u) := fun j u hu => by rw [Nat.zero_add]; exact (Row.at w5 40 U _ _ rfl rfl).cell j u hu
                  have SZ : Hid (N ≤ (w5.alloc (.cells U.toArray 40)).heap.size) := by show N ≤ _; have := HG.out.hN; have := HG.out.sz; simp; omega
                  clear hU ht htl
                  go_wp2_with (first
                    | (have hz := RU; clear hz; refine wpList_load_Row rfl 40 (.tmp 26) rfl gu 40 U RU.out rfl _ Tryz.underlying40 rfl (by rw [LU.out]; kernel_rfl) ?_; clear RU)
                    | (have hz := LIT; clear hz; refine wpList_build_tok1 rfl (.tmp 248) rfl U LU.out rfl ?_)
                    | (at_builtin; have hz := LIT; clear hz; refine wpList_append_just24 el_toks24 rfl (.tmp 247) (.tmp 249) rfl N (w5.alloc (.cells U.toArray 40)) (some ⟨E, 0, none⟩) i ec us.flatten rfl (owB_keep OE.out ((Below.refl _ _).alloc (Nat.le_refl _) _)) SZ.out (Below.refl _ _) w5.heap.size 0 1 1 U rfl (by rw [LU.out]) LIT.out (by omega) OU.out (by have := HNN.out.2; have := HLT.out; unfold maxLen; omega) (by have := HNN.out.2; have := HLT.out; omega) ?_; intro eo6 ec6 w6 h1 h2 h3 h4 h5; have HP : Hid (w6.ownsRow N 40 35 (.slice eo6 (i + 1) ec6) (i + 1) (us.flatten ++ U) ∧ Below N (w5.alloc (.cells U.toArray 40)) w6 ∧ (w5.alloc (.cells U.toArray 40)).heap.size ≤ w6.heap.size ∧ (∀ k, k < (w5.alloc (.cells U.toArray 40)).heap.size → (∀ g, (some ⟨E, 0, none⟩ : Option Addr) = some ⟨g, 0, none⟩ → k ≠ g) → w6.heap[k]? = (w5.alloc (.cells U.toArray 40)).heap[k]?) ∧ (eo6 = some ⟨E, 0, none⟩ ∨ (eo6 = some ⟨(w5.alloc (.cells U.toArray 40)).heap.size, 0, none⟩ ∧ Below (w5.alloc (.cells U.toArray 40)).heap.size (w5.alloc (.cells U.toArray 40)) w6 ∧ (w5.alloc (.cells U.toArray 40)).heap.size < w6.heap.size))) := ⟨h1, h2, h3, h4, h5⟩; clear LIT OE SZ h1 h2 h3 h4 h5))
                  obtain ⟨E6, he6, _⟩ := own_some HP.out.1 (by omega)
                  subst he6
                  have FN : GT N Wa rs D dc (i + 1) E6 ec6 (us ++ [U]) w6 := by
                    have hp := HP.out
                    rw [HU.out] at hp ⊢
                    refine HI.out.next HSP.out HR.out HG.out hp.1 hp.2.1 hp.2.2.1 (fun k hk hne => hp.2.2.2.1 k hk (fun g e => ?_)) ?_ HO.out.tag
                    · injection e with e; injection e with e _
                      rw [← e]; exact hne
                    · rcases hp.2.2.2.2 with e | ⟨e, _, _⟩
                      · injection e with e; injection e with e _; exact .inl e
                      · injection e with e; injection e with e _; exact .inr e
                  exact ⟨⟨i + 1, E6, ec6, us ++ [U], HLT.out, by go_num, rfl, FN⟩, by have := HLT.out; simp [intOf]; omega⟩
    · obtain rfl : i = nn := by omega
      have y1 : ¬ ((i : Nat) : Int) < (i : Int) := by omega
      go_wp2
      refine HK.out _ _ ?_
      exact NXT.out _ _ _ _ _ _ _ _ _ _ _ _ _ _ _ _ _ _ _ _ _ _ _ _ _ _ _ _ _ _ _ _ _ _ _ _ _ _ _ _ _ _ _ _ _ _ _ _ _ _ _ _ _ _ _ _ _ _ _ _ _ _ _ _ _ _ _ _ _ _ _ _ _ _ _ _ _ _ _ _ _ _ _ _ _ _ _ _ _ _ _ _ _ _ _ _ _ _ _ _ _ _ _ _ _ _ _ _ _ _ _ _ _ _ _ _ _ _ _ _ _ _ _ _ _ _ _ _ _ _ _ _ _ _ _ _ _ _ _ _ _ _ _ _ _ _ _ _ _ _ _ _ _ _ _ _ _ _ _ _ _ _ _ _ _ _ _ _ _ _ _ _ _ _ _ _ _ _ _ _ _ _ _ _ _ _ _ _ _ _ _ _ _ _ _ _ _ _ _ _ _ _ _ _ _ _ _ _ _ _ _ _ _ _ _ _ _ _ _ _ _ _ _ _ _ _ _ _ _ _ _ _ _ _ _ _ _ _ _ _ _ _ _ _ _ _ _ _ _ _ _ _ _ _ _ _ _ _ _ _ _ _ _ _ _ _ _ _ _ _ _ _ _ _ _ _ _ _ _ _ _ _ _ _ _ _ _ _ _ _ _ _ _ _ _ _ _ _ _ _ _ _ _ _ _ _ _ _ _ _ _ _ _ _ _ _ _ _ _ _ _ _ _ _ _ _ _ _ _ _ _ _ _ _ _ _ _ _ _ _ W0 E ec us HI.out
end Go.Proofs.YtjooabgjkjnhhaaGreatDoor
