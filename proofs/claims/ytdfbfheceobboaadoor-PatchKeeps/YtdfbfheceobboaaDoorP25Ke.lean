
import Derived.Test.YtdfbfheceobboaaDoorP25Kd
import Derived.BigQuiet
/-! PatchKeeps: what came out is held against what is wanted; what was handed in is written over. (Printed by tools/genk25.py.) -/
namespace Go.Proofs.YtdfbfheceobboaaDoor
open Go.RowKit
set_option linter.unusedVariables false
set_option linter.unusedSimpArgs false
set_option maxRecDepth 100000

/-- What is wanted, by its place. -/
def w3 (x y z : List By) : Nat → List By
  | 0 => x
  | 1 => y
  | _ => z
theorem KE.dr {w W W2 : World} {a b : List By} {ao bo : Option Addr} {ac bc gw : Nat} {S1 : ByteArray} (h : KE w W a b ao bo ac bc gw S1) (d : Dr W W2) : KE w W2 a b ao bo ac bc gw S1 := by
  obtain ⟨n, rfl⟩ := d
  exact ⟨Below_drewN h.bel n, h.a, h.b, h.wc⟩
/-- What came out, six rows, and what is wanted. -/
structure KF (W : World) (D dc N gw : Nat) (rs : List Gr) (x y z : List By) : Prop where
  arr : OwnS 0 W (some ⟨D, 0, none⟩) dc (rs.map Gr.val)
  len : rs.length = 6
  own : ∀ (j : Nat) (r : Gr), rs[j]? = some r → Own N W r.val (w3 x y z (j % 3))
  sep : SepR rs
  want : ∀ k, k < 3 → W.cell? ⟨gw, k, none⟩ = some (.string (strOf (w3 x y z k)))
theorem KF.dr {W W2 : World} {D dc N gw : Nat} {rs : List Gr} {x y z : List By} (h : KF W D dc N gw rs x y z) (d : Dr W W2) : KF W2 D dc N gw rs x y z := by
  obtain ⟨n, rfl⟩ := d
  exact ⟨h.arr, h.len, h.own, h.sep, h.want⟩
theorem KF.blk {W W2 : World} {D dc N gw N1 : Nat} {rs : List Gr} {x y z : List By} (h : KF W D dc N gw rs x y z) (hb : ∀ k, N1 ≤ k → k < W.heap.size → W2.heap[k]? = W.heap[k]?) (hs : W.heap.size ≤ W2.heap.size) (h1 : N1 ≤ N) (h2 : N1 ≤ gw) (h3 : N1 ≤ D) (h4 : N ≤ W.heap.size) : KF W2 D dc N gw rs x y z := by
  refine ⟨h.arr.of_block (Nat.zero_le _) fun B e => ?_, h.len, fun j r hr => (h.own j r hr).of_block (Nat.le_trans h4 hs) fun B off e => ?_, h.sep, fun k hk => ?_⟩
  · obtain ⟨_, _, hl⟩ := h.arr.lies B 0 e
    injection e with e; injection e with e _
    subst e
    exact hb _ h3 hl
  · obtain ⟨_, hn, hl⟩ := (h.own j r hr).lies B off e
    exact hb B (by omega) hl
  · have hc := h.want k hk
    rw [World.cell?_of_block (w := W) (hb gw h2 (block_lt_of_cell hc))]
    exact hc
section
variable {M A J : List By → List By → List By}
set_option maxHeartbeats 16000000 in
theorem kp10 (c0 c1 c2 c5 c6 c7 c8 c9 c10 c11 c12 c13 c14 c15 c16 c19 c20 c21 c22 c23 c24 c25 c26 c27 c28 c29 c30 c31 c32 c33 c34 c35 c36 c37 c38 c39 c40 c41 c42 c43 c44 c45 c46 c47 c48 c49 c50 c51 c52 c53 c54 c55 c56 c57 c58 c59 c60 c61 c62 c63 c64 c65 c66 c67 c68 c69 c70 c71 c72 c73 c74 c75 c76 c77 c78 c79 c80 c81 c82 c83 c84 c85 c86 c87 c88 c89 c90 c91 c92 c93 c94 c95 c96 c97 c98 c99 c100 c101 c102 c103 c104 c105 c106 c107 c108 c109 c110 c111 c112 c113 c114 c115 c116 c117 c118 c119 c120 c121 c122 c123 c124 c125 c126 c127 c128 c129 c130 c131 c132 c133 c134 c135 c136 c137 c138 c139 c140 c141 c142 c143 c144 c145 c146 c147 c148 c149 c150 c151 c152 c153 c154 c155 c156 c157 c158 c159 c160 c161 c162 c163 c164 c165 c166 c167 c168 c169 c170 c171 c172 c173 c174 c175 c176 c177 c178 c179 c180 c181 c182 c183 c184 c185 c186 c187 c188 c189 c190 c191 c192 c193 c194 c195 c196 c197 c198 c199 c200 c201 c202 c203 c204 c205 c206 c207 c208 c209 c210 c211 c212 c213 c214 c215 c216 c217 c218 c219 c220 c221 c222 c223 c224 c225 c226 c227 c228 c229 c230 c231 c232 c233 c234 c235 c236 c237 c238 c239 c240 c241 c242 c243 c244 c245 c246 c247 c248 c249 c250 c251 c252 c253 c254 c255 c256 c257 c258 c259 c260 c261 c262 c263 c264 c265 c266 c267 c268 c269 c270 c271 c272 c273 c274 c275 c276 : Value) (O : PchO M A J) (w Wa : World) (a b c d : List By) (ao bo : Option Addr) (ac bc gw : Nat) (FX : ∀ W, Below w.heap.size w W → Calls Tryd.prog 9 #[] W fun e w' => e = .returned (.bool true) ∧ Below W.heap.size W w')
    (hE : KE w Wa a b ao bo ac bc gw (strOf (M a b))) (D dc N : Nat) (rs : List Gr) (hK : KF Wa D dc N gw rs (M a b) (A a c) (J c d)) (hN0 : N ≤ Wa.heap.size) (hwN : w.heap.size ≤ N) (hgw : gw < N) :
    Code.wp Tryd.prog (dropS 10 (Tryd.f3.body.getD .skip)) (bodyPost Tryd.prog Tryd.f3 (KP25 w)) ⟨#[c0, c1, c2, .slice ao a.length ac, .slice bo b.length bc, c5, c6, c7, c8, c9, c10, c11, c12, c13, c14, c15, c16, .slice (some ⟨gw, 0, none⟩) 3 3, .slice (some ⟨D, 0, none⟩) 6 dc, c19, c20, c21, c22, c23, c24, c25, c26, c27, c28, c29, c30, c31, c32, c33, c34, c35, c36, c37, c38, c39, c40, c41, c42, c43, c44, c45, c46, c47, c48, c49, c50, c51, c52, c53, c54, c55, c56, c57, c58, c59, c60, c61, c62, c63, c64, c65, c66, c67, c68, c69, c70, c71, c72, c73, c74, c75, c76, c77, c78, c79, c80, c81, c82, c83, c84, c85, c86, c87, c88, c89, c90, c91, c92, c93, c94, c95, c96, c97, c98, c99, c100, c101, c102, c103, c104, c105, c106, c107, c108, c109, c110, c111, c112, c113, c114, c115, c116, c117, c118, c119, c120, c121, c122, c123, c124, c125, c126, c127, c128, c129, c130, c131, c132, c133, c134, c135, c136, c137, c138, c139, c140, c141, c142, c143, c144, c145, c146, c147, c148, c149, c150, c151, c152, c153, c154, c155, c156, c157, c158, c159, c160, c161, c162, c163, c164, c165, c166, c167, c168, c169, c170, c171, c172, c173, c174, c175, c176, c177, c178, c179, c180, c181, c182, c183, c184, c185, c186, c187, c188, c189, c190, c191, c192, c193, c194, c195, c196, c197, c198, c199, c200, c201, c202, c203, c204, c205, c206, c207, c208, c209, c210, c211, c212, c213, c214, c215, c216, c217, c218, c219, c220, c221, c222, c223, c224, c225, c226, c227, c228, c229, c230, c231, c232, c233, c234, c235, c236, c237, c238, c239, c240, c241, c242, c243, c244, c245, c246, c247, c248, c249, c250, c251, c252, c253, c254, c255, c256, c257, c258, c259, c260, c261, c262, c263, c264, c265, c266, c267, c268, c269, c270, c271, c272, c273, c274, c275, c276], []⟩ Wa := by
  have LN : ∀ k, (w3 (M a b) (A a c) (J c d) k).length ≤ 1000000000 := fun k => by
    rcases k with _ | _ | k
    · exact O.lm a b
    · exact O.la a c
    · exact O.lj c d
  have NXT : Hid (∀ c0 c1 c2 c5 c6 c7 c8 c9 c10 c11 c12 c13 c14 c15 c16 c19 c20 c21 c22 c23 c24 c25 c26 c27 c28 c29 c30 c31 c32 c33 c34 c35 c36 c37 c38 c39 c40 c41 c42 c43 c44 c45 c46 c47 c48 c49 c50 c51 c52 c53 c54 c55 c56 c57 c58 c59 c60 c61 c62 c63 c64 c65 c66 c67 c68 c69 c70 c71 c72 c73 c74 c75 c76 c77 c78 c79 c80 c81 c82 c83 c84 c85 c86 c87 c88 c89 c90 c91 c92 c93 c94 c95 c96 c97 c98 c99 c100 c101 c102 c103 c104 c105 c106 c107 c108 c109 c110 c111 c112 c113 c114 c115 c116 c117 c118 c119 c120 c121 c122 c123 c124 c125 c126 c127 c128 c129 c130 c131 c132 c133 c134 c135 c136 c137 c138 c139 c140 c141 c142 c143 c144 c145 c146 c147 c148 c149 c150 c151 c152 c153 c154 c155 c156 c157 c158 c159 c160 c161 c162 c163 c164 c165 c166 c167 c168 c169 c170 c171 c172 c173 c174 c175 c176 c177 c178 c179 c180 c181 c182 c183 c184 c185 c186 c187 c188 c189 c190 c191 c192 c193 c194 c195 c196 c197 c198 c199 c200 c201 c202 c203 c204 c205 c206 c207 c208 c209 c210 c211 c212 c213 c214 c215 c216 c217 c218 c219 c220 c221 c222 c223 c224 c225 c226 c227 c228 c229 c230 c231 c232 c233 c234 c235 c236 c237 c238 c239 c240 c241 c242 c243 c244 c245 c246 c247 c248 c249 c250 c251 c252 c253 c254 c255 c256 c257 c258 c259 c260 c261 c262 c263 c264 c265 c266 c267 c268 c269 c270 c271 c272 c273 c274 c275 c276 W, Dr Wa W → Code.wp Tryd.prog (dropS 11 (Tryd.f3.body.getD .skip)) (bodyPost Tryd.prog Tryd.f3 (KP25 w)) ⟨#[c0, c1, c2, .slice ao a.length ac, .slice bo b.length bc, c5, c6, c7, c8, c9, c10, c11, c12, c13, c14, c15, c16, .slice (some ⟨gw, 0, none⟩) 3 3, .slice (some ⟨D, 0, none⟩) 6 dc, c19, c20, c21, c22, c23, c24, c25, c26, c27, c28, c29, c30, c31, c32, c33, c34, c35, c36, c37, c38, c39, c40, c41, c42, c43, c44, c45, c46, c47, c48, c49, c50, c51, c52, c53, c54, c55, c56, c57, c58, c59, c60, c61, c62, c63, c64, c65, c66, c67, c68, c69, c70, c71, c72, c73, c74, c75, c76, c77, c78, c79, c80, c81, c82, c83, c84, c85, c86, c87, c88, c89, c90, c91, c92, c93, c94, c95, c96, c97, c98, c99, c100, c101, c102, c103, c104, c105, c106, c107, c108, c109, c110, c111, c112, c113, c114, c115, c116, c117, c118, c119, c120, c121, c122, c123, c124, c125, c126, c127, c128, c129, c130, c131, c132, c133, c134, c135, c136, c137, c138, c139, c140, c141, c142, c143, c144, c145, c146, c147, c148, c149, c150, c151, c152, c153, c154, c155, c156, c157, c158, c159, c160, c161, c162, c163, c164, c165, c166, c167, c168, c169, c170, c171, c172, c173, c174, c175, c176, c177, c178, c179, c180, c181, c182, c183, c184, c185, c186, c187, c188, c189, c190, c191, c192, c193, c194, c195, c196, c197, c198, c199, c200, c201, c202, c203, c204, c205, c206, c207, c208, c209, c210, c211, c212, c213, c214, c215, c216, c217, c218, c219, c220, c221, c222, c223, c224, c225, c226, c227, c228, c229, c230, c231, c232, c233, c234, c235, c236, c237, c238, c239, c240, c241, c242, c243, c244, c245, c246, c247, c248, c249, c250, c251, c252, c253, c254, c255, c256, c257, c258, c259, c260, c261, c262, c263, c264, c265, c266, c267, c268, c269, c270, c271, c272, c273, c274, c275, c276], []⟩ W) := fun c0 c1 c2 c5 c6 c7 c8 c9 c10 c11 c12 c13 c14 c15 c16 c19 c20 c21 c22 c23 c24 c25 c26 c27 c28 c29 c30 c31 c32 c33 c34 c35 c36 c37 c38 c39 c40 c41 c42 c43 c44 c45 c46 c47 c48 c49 c50 c51 c52 c53 c54 c55 c56 c57 c58 c59 c60 c61 c62 c63 c64 c65 c66 c67 c68 c69 c70 c71 c72 c73 c74 c75 c76 c77 c78 c79 c80 c81 c82 c83 c84 c85 c86 c87 c88 c89 c90 c91 c92 c93 c94 c95 c96 c97 c98 c99 c100 c101 c102 c103 c104 c105 c106 c107 c108 c109 c110 c111 c112 c113 c114 c115 c116 c117 c118 c119 c120 c121 c122 c123 c124 c125 c126 c127 c128 c129 c130 c131 c132 c133 c134 c135 c136 c137 c138 c139 c140 c141 c142 c143 c144 c145 c146 c147 c148 c149 c150 c151 c152 c153 c154 c155 c156 c157 c158 c159 c160 c161 c162 c163 c164 c165 c166 c167 c168 c169 c170 c171 c172 c173 c174 c175 c176 c177 c178 c179 c180 c181 c182 c183 c184 c185 c186 c187 c188 c189 c190 c191 c192 c193 c194 c195 c196 c197 c198 c199 c200 c201 c202 c203 c204 c205 c206 c207 c208 c209 c210 c211 c212 c213 c214 c215 c216 c217 c218 c219 c220 c221 c222 c223 c224 c225 c226 c227 c228 c229 c230 c231 c232 c233 c234 c235 c236 c237 c238 c239 c240 c241 c242 c243 c244 c245 c246 c247 c248 c249 c250 c251 c252 c253 c254 c255 c256 c257 c258 c259 c260 c261 c262 c263 c264 c265 c266 c267 c268 c269 c270 c271 c272 c273 c274 c275 c276 W h => by
    have k := hK.dr h
    have hs : W.heap.size = Wa.heap.size := by obtain ⟨n, rfl⟩ := h; rfl
    refine kp11 c0 c1 c2 c5 c6 c7 c8 c9 c10 c11 c12 c13 c14 c15 c16 c19 c20 c21 c22 c23 c24 c25 c26 c27 c28 c29 c30 c31 c32 c33 c34 c35 c36 c37 c38 c39 c40 c41 c42 c43 c44 c45 c46 c47 c48 c49 c50 c51 c52 c53 c54 c55 c56 c57 c58 c59 c60 c61 c62 c63 c64 c65 c66 c67 c68 c69 c70 c71 c72 c73 c74 c75 c76 c77 c78 c79 c80 c81 c82 c83 c84 c85 c86 c87 c88 c89 c90 c91 c92 c93 c94 c95 c96 c97 c98 c99 c100 c101 c102 c103 c104 c105 c106 c107 c108 c109 c110 c111 c112 c113 c114 c115 c116 c117 c118 c119 c120 c121 c122 c123 c124 c125 c126 c127 c128 c129 c130 c131 c132 c133 c134 c135 c136 c137 c138 c139 c140 c141 c142 c143 c144 c145 c146 c147 c148 c149 c150 c151 c152 c153 c154 c155 c156 c157 c158 c159 c160 c161 c162 c163 c164 c165 c166 c167 c168 c169 c170 c171 c172 c173 c174 c175 c176 c177 c178 c179 c180 c181 c182 c183 c184 c185 c186 c187 c188 c189 c190 c191 c192 c193 c194 c195 c196 c197 c198 c199 c200 c201 c202 c203 c204 c205 c206 c207 c208 c209 c210 c211 c212 c213 c214 c215 c216 c217 c218 c219 c220 c221 c222 c223 c224 c225 c226 c227 c228 c229 c230 c231 c232 c233 c234 c235 c236 c237 c238 c239 c240 c241 c242 c243 c244 c245 c246 c247 c248 c249 c250 c251 c252 c253 c254 c255 c256 c257 c258 c259 c260 c261 c262 c263 c264 c265 c266 c267 c268 c269 c270 c271 c272 c273 c274 c275 c276 O w W a b ao bo ac bc gw FX (hE.dr h) D dc N rs k.len k.arr (by omega) hwN hgw (fun j r hr => ⟨_, k.own j r hr⟩) k.sep (fun r hr => ?_)
    obtain ⟨j, hj⟩ := List.getElem?_of_mem hr
    have h1 := LN (j % 3)
    have h2 := (k.own j r hj).len
    omega
  have ROW : Hid (∀ q : Nat, q < 6 → ∃ (rao : Option Addr) (rn rc p : Nat) (S : ByteArray), p < 3 ∧ (q : Int) % 3 = (p : Int) ∧ ∀ W, Dr Wa W → W.cell? ⟨D, q, none⟩ = some (.slice rao rn rc) ∧ (convert 22 9 (.slice rao rn rc)).run Tryd.prog W = .ok (.string S) W ∧ W.cell? ⟨gw, p, none⟩ = some (.string S)) := fun q hq => by
    obtain ⟨r, hr⟩ : ∃ r, rs[q]? = some r := ⟨_, List.getElem?_eq_getElem (by rw [hK.len]; exact hq)⟩
    refine ⟨r.ao, r.n, r.c, q % 3, strOf (w3 (M a b) (A a c) (J c d) (q % 3)), by omega, by omega, fun W h => ?_⟩
    have k := hK.dr h
    obtain ⟨g, e, hc⟩ := k.arr.at q (by rw [List.length_map, k.len]; exact hq)
    injection e with e; injection e with e _
    subst e
    rw [List.getElem_map, (List.getElem?_eq_some_iff.1 hr).2, Gr.val] at hc
    exact ⟨hc, conv_bytes W r.ao r.n r.c _ (k.own q r hr).len (own_IsB (k.own q r hr)), k.want _ (by omega)⟩
  clear hE hK FX O hN0 hwN hgw LN
  generalize a.length = an at *
  generalize b.length = bn at *
  conv => arg 2; whnf
  refine wp_seq_k fun K hK => ?_
  have HK : Hid _ := hK
  clear hK
  go_wp2
  go_loopw [29] (fun iv wr => ∃ q : Nat, q ≤ 6 ∧ iv = .int .i64 (q : Int) ∧ Hid (Dr Wa wr)) (fun iv _ => 6 - (intOf iv).toNat)
  case atStart => exact ⟨0, by omega, rfl, Dr.refl _⟩
  case round =>
    obtain ⟨q, hq, rfl, HD⟩ := hrel
    by_cases hlt : q < 6
    · have y0 : (0 : Int) ≤ (q : Int) := by omega
      have y1 : (q : Int) < 6 := by omega
      have z1 : IntKind.i64.wrap ((q : Int) + 1) = (q : Int) + 1 := i64_in _ (by omega) (by omega)
      have HLT : Hid (q < 6) := hlt
      obtain ⟨rao, rn, rc, p, S, hp, hm, hW⟩ := ROW.out q hlt
      have hm2 : (q : Int).tmod 3 = (p : Int) := by rw [Int.tmod_eq_emod_of_nonneg y0]; exact hm
      have p0 : (0 : Int) ≤ (p : Int) := by omega
      have p1 : (p : Int) < 3 := by omega
      have HS : Hid (∀ n, Dr Wa (wr.drewN n)) := fun n => HD.out.drewN n
      have x1 : ∀ n, (wr.drewN n).cell? ⟨D, q, none⟩ = some (.slice rao rn rc) := fun n => (hW _ (HS.out n)).1
      have x2 : ∀ n, (convert 22 9 (.slice rao rn rc)).run Tryd.prog (wr.drewN n) = .ok (.string S) (wr.drewN n) := fun n => (hW _ (HS.out n)).2.1
      have x3 : ∀ n, (wr.drewN n).cell? ⟨gw, p, none⟩ = some (.string S) := fun n => (hW _ (HS.out n)).2.2
      have c1 := (hW _ HD.out).1
      have c2 := (hW _ HD.out).2.1
      have c3 := (hW _ HD.out).2.2
      clear hW hlt hq hp
      go_upto_region 28 with fail
      go_quiet (fail)
      go_wp2
      exact ⟨⟨q + 1, HLT.out, by go_num, HS.out _⟩, by have := HLT.out; simp [intOf]; omega⟩
    · obtain rfl : q = 6 := by omega
      have y1 : ¬ ((6 : Nat) : Int) < 6 := by omega
      have y2 : ¬ (6 : Int) < 6 := by omega
      clear hlt hq
      go_wp2
      refine HK.out _ _ ?_
      clear HK
      exact NXT.out _ _ _ _ _ _ _ _ _ _ _ _ _ _ _ _ _ _ _ _ _ _ _ _ _ _ _ _ _ _ _ _ _ _ _ _ _ _ _ _ _ _ _ _ _ _ _ _ _ _ _ _ _ _ _ _ _ _ _ _ _ _ _ _ _ _ _ _ _ _ _ _ _ _ _ _ _ _ _ _ _ _ _ _ _ _ _ _ _ _ _ _ _ _ _ _ _ _ _ _ _ _ _ _ _ _ _ _ _ _ _ _ _ _ _ _ _ _ _ _ _ _ _ _ _ _ _ _ _ _ _ _ _ _ _ _ _ _ _ _ _ _ _ _ _ _ _ _ _ _ _ _ _ _ _ _ _ _ _ _ _ _ _ _ _ _ _ _ _ _ _ _ _ _ _ _ _ _ _ _ _ _ _ _ _ _ _ _ _ _ _ _ _ _ _ _ _ _ _ _ _ _ _ _ _ _ _ _ _ _ _ _ _ _ _ _ _ _ _ _ _ _ _ _ _ _ _ _ _ _ _ _ _ _ _ _ _ _ _ _ _ _ _ _ _ _ _ _ _ _ _ _ _ _ _ _ _ _ _ _ _ _ _ _ _ _ _ _ _ _ _ _ _ _ HD.out
end
end Go.Proofs.YtdfbfheceobboaaDoor
