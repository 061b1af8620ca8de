
import Derived.Test.YtdfbfheceobboaaDoorP25Ke
import Derived.Test.YtdfbfheceobboaaDoorI11Inv
/-! PatchKeeps: what was handed in is written over. (Printed by tools/genk25.py.) -/
namespace Go.Proofs.YtdfbfheceobboaaDoor
open Go.RowKit
set_option linter.unusedVariables false
set_option linter.unusedSimpArgs false
set_option maxRecDepth 100000

/-- While rows in the blocks from N0 on, ahead of N1, are written over. -/
structure XR (N0 N1 : Nat) (Wb : World) (ws : List Gr) (W : World) : Prop where
  bel : Below N0 Wb W
  blk : ∀ k, N1 ≤ k → k < Wb.heap.size → W.heap[k]? = Wb.heap[k]?
  own : ∀ (j : Nat) (r : Gr), ws[j]? = some r → ∃ xs, Own N0 W (.slice r.ao (r.n + 3) r.c) xs
theorem XR.set {N0 N1 : Nat} {Wb W : World} {ws : List Gr} (h : XR N0 N1 Wb ws W) (hsep : SepR ws) {i g : Nat} {r : Gr} (hr : ws[i]? = some r) (hg : r.ao = some ⟨g, 0, none⟩) (h0 : N0 ≤ g) (h1 : g < N1) (k : Nat) (x : By) : XR N0 N1 Wb ws (W.setCell ⟨g, k, none⟩ (.int .u8 (x.toNat : Int))) := by
  have sb := SameBut.setCell g k (.int .u8 (x.toNat : Int)) W
  refine ⟨sb.below h.bel h0, fun j hj hl => (sb.block j (by omega)).trans (h.blk j hj hl), fun j r' hr' => ?_⟩
  obtain ⟨xs, ho⟩ := h.own j r' hr'
  by_cases e : r'.ao = some ⟨g, 0, none⟩
  · have := hsep i j r r' g hr hr' hg e
    subst this
    rw [hr] at hr'
    injection hr' with hr'
    subst hr'
    rw [hg] at ho ⊢
    exact ⟨_, ho.set k x⟩
  · exact ⟨xs, ho.but sb e⟩
section
variable {M A J : List By → List By → List By}
set_option maxHeartbeats 16000000 in
theorem kp9 (c0 c1 c2 c5 c6 c11 c12 c13 c14 c15 c16 c19 c20 c21 c22 c23 c24 c25 c26 c27 c28 c29 c30 c31 c32 c33 c34 c35 c36 c37 c38 c39 c40 c41 c42 c43 c44 c45 c46 c47 c48 c49 c50 c51 c52 c53 c54 c55 c56 c57 c58 c59 c60 c61 c62 c63 c64 c65 c66 c67 c68 c69 c70 c71 c72 c73 c74 c75 c76 c77 c78 c79 c80 c81 c82 c83 c84 c85 c86 c87 c88 c89 c90 c91 c92 c93 c94 c95 c96 c97 c98 c99 c100 c101 c102 c103 c104 c105 c106 c107 c108 c109 c110 c111 c112 c113 c114 c115 c116 c117 c118 c119 c120 c121 c122 c123 c124 c125 c126 c127 c128 c129 c130 c131 c132 c133 c134 c135 c136 c137 c138 c139 c140 c141 c142 c143 c144 c145 c146 c147 c148 c149 c150 c151 c152 c153 c154 c155 c156 c157 c158 c159 c160 c161 c162 c163 c164 c165 c166 c167 c168 c169 c170 c171 c172 c173 c174 c175 c176 c177 c178 c179 c180 c181 c182 c183 c184 c185 c186 c187 c188 c189 c190 c191 c192 c193 c194 c195 c196 c197 c198 c199 c200 c201 c202 c203 c204 c205 c206 c207 c208 c209 c210 c211 c212 c213 c214 c215 c216 c217 c218 c219 c220 c221 c222 c223 c224 c225 c226 c227 c228 c229 c230 c231 c232 c233 c234 c235 c236 c237 c238 c239 c240 c241 c242 c243 c244 c245 c246 c247 c248 c249 c250 c251 c252 c253 c254 c255 c256 c257 c258 c259 c260 c261 c262 c263 c264 c265 c266 c267 c268 c269 c270 c271 c272 c273 c274 c275 c276 : Value) (O : PchO M A J) (w Wa : World) (a b c d : List By) (ao bo : Option Addr) (ac bc gw : Nat) (FX : ∀ W, Below w.heap.size w W → Calls Tryd.prog 9 #[] W fun e w' => e = .returned (.bool true) ∧ Below W.heap.size W w')
    (hE : KE w Wa a b ao bo ac bc gw (strOf (M a b))) (D dc N : Nat) (rs : List Gr) (hK : KF Wa D dc N gw rs (M a b) (A a c) (J c d)) (hN0 : N ≤ Wa.heap.size) (hwN : w.heap.size ≤ N) (hgw : gw < N)
    (N1 : Nat) (h1N : N1 ≤ N) (h1g : N1 ≤ gw) (h1D : N1 ≤ D) (ga na ca gb nb cb gc nc cc gd nd cd : Nat) (hsep : SepR [⟨some ⟨ga, 0, none⟩, na, ca⟩, ⟨some ⟨gb, 0, none⟩, nb, cb⟩, ⟨some ⟨gc, 0, none⟩, nc, cc⟩, ⟨some ⟨gd, 0, none⟩, nd, cd⟩])
    (how : ∀ (j : Nat) (r : Gr), ([⟨some ⟨ga, 0, none⟩, na, ca⟩, ⟨some ⟨gb, 0, none⟩, nb, cb⟩, ⟨some ⟨gc, 0, none⟩, nc, cc⟩, ⟨some ⟨gd, 0, none⟩, nd, cd⟩] : List Gr)[j]? = some r → (∃ xs, Own w.heap.size Wa (.slice r.ao (r.n + 3) r.c) xs) ∧ r.n ≤ 140737488351232 ∧ ∃ g, r.ao = some ⟨g, 0, none⟩ ∧ w.heap.size ≤ g ∧ g < N1) :
    Code.wp Tryd.prog (dropS 9 (Tryd.f3.body.getD .skip)) (bodyPost Tryd.prog Tryd.f3 (KP25 w)) ⟨#[c0, c1, c2, .slice ao a.length ac, .slice bo b.length bc, c5, c6, .slice (some ⟨ga, 0, none⟩) na ca, .slice (some ⟨gb, 0, none⟩) nb cb, .slice (some ⟨gc, 0, none⟩) nc cc, .slice (some ⟨gd, 0, none⟩) nd cd, c11, c12, c13, c14, c15, c16, .slice (some ⟨gw, 0, none⟩) 3 3, .slice (some ⟨D, 0, none⟩) 6 dc, c19, c20, c21, c22, c23, c24, c25, c26, c27, c28, c29, c30, c31, c32, c33, c34, c35, c36, c37, c38, c39, c40, c41, c42, c43, c44, c45, c46, c47, c48, c49, c50, c51, c52, c53, c54, c55, c56, c57, c58, c59, c60, c61, c62, c63, c64, c65, c66, c67, c68, c69, c70, c71, c72, c73, c74, c75, c76, c77, c78, c79, c80, c81, c82, c83, c84, c85, c86, c87, c88, c89, c90, c91, c92, c93, c94, c95, c96, c97, c98, c99, c100, c101, c102, c103, c104, c105, c106, c107, c108, c109, c110, c111, c112, c113, c114, c115, c116, c117, c118, c119, c120, c121, c122, c123, c124, c125, c126, c127, c128, c129, c130, c131, c132, c133, c134, c135, c136, c137, c138, c139, c140, c141, c142, c143, c144, c145, c146, c147, c148, c149, c150, c151, c152, c153, c154, c155, c156, c157, c158, c159, c160, c161, c162, c163, c164, c165, c166, c167, c168, c169, c170, c171, c172, c173, c174, c175, c176, c177, c178, c179, c180, c181, c182, c183, c184, c185, c186, c187, c188, c189, c190, c191, c192, c193, c194, c195, c196, c197, c198, c199, c200, c201, c202, c203, c204, c205, c206, c207, c208, c209, c210, c211, c212, c213, c214, c215, c216, c217, c218, c219, c220, c221, c222, c223, c224, c225, c226, c227, c228, c229, c230, c231, c232, c233, c234, c235, c236, c237, c238, c239, c240, c241, c242, c243, c244, c245, c246, c247, c248, c249, c250, c251, c252, c253, c254, c255, c256, c257, c258, c259, c260, c261, c262, c263, c264, c265, c266, c267, c268, c269, c270, c271, c272, c273, c274, c275, c276], []⟩ Wa := by
  obtain ⟨ws, hws⟩ : ∃ ws : List Gr, ws = [⟨some ⟨ga, 0, none⟩, na, ca⟩, ⟨some ⟨gb, 0, none⟩, nb, cb⟩, ⟨some ⟨gc, 0, none⟩, nc, cc⟩, ⟨some ⟨gd, 0, none⟩, nd, cd⟩] := ⟨_, rfl⟩
  rw [← hws] at hsep how
  obtain ⟨Wb, hWb⟩ : ∃ Wb, Wb = Wa.alloc (.cells #[.slice (some ⟨ga, 0, none⟩) na ca, .slice (some ⟨gb, 0, none⟩) nb cb, .slice (some ⟨gc, 0, none⟩) nc cc, .slice (some ⟨gd, 0, none⟩) nd cd] 22) := ⟨_, rfl⟩
  have al : Below Wa.heap.size Wa Wb := by rw [hWb]; exact (Below.refl _ _).alloc (Nat.le_refl _) _
  have rowB : Row Wb Wa.heap.size 22 (ws.map Gr.val) := by rw [hWb, hws]; exact Row.at _ _ _ _ _ rfl rfl
  have hl4 : ws.length = 4 := by rw [hws]; rfl
  have X0 : Hid (XR w.heap.size N1 Wb ws Wb) := ⟨Below.refl _ _, fun _ _ _ => rfl, fun j r hr => by
    obtain ⟨⟨xs, ho⟩, _⟩ := how j r hr
    exact ⟨xs, ho.keep al⟩⟩
  have NXT : Hid (∀ c0 c1 c2 c5 c6 c7 c8 c9 c10 c11 c12 c13 c14 c15 c16 c19 c20 c21 c22 c23 c24 c25 c26 c27 c28 c29 c30 c31 c32 c33 c34 c35 c36 c37 c38 c39 c40 c41 c42 c43 c44 c45 c46 c47 c48 c49 c50 c51 c52 c53 c54 c55 c56 c57 c58 c59 c60 c61 c62 c63 c64 c65 c66 c67 c68 c69 c70 c71 c72 c73 c74 c75 c76 c77 c78 c79 c80 c81 c82 c83 c84 c85 c86 c87 c88 c89 c90 c91 c92 c93 c94 c95 c96 c97 c98 c99 c100 c101 c102 c103 c104 c105 c106 c107 c108 c109 c110 c111 c112 c113 c114 c115 c116 c117 c118 c119 c120 c121 c122 c123 c124 c125 c126 c127 c128 c129 c130 c131 c132 c133 c134 c135 c136 c137 c138 c139 c140 c141 c142 c143 c144 c145 c146 c147 c148 c149 c150 c151 c152 c153 c154 c155 c156 c157 c158 c159 c160 c161 c162 c163 c164 c165 c166 c167 c168 c169 c170 c171 c172 c173 c174 c175 c176 c177 c178 c179 c180 c181 c182 c183 c184 c185 c186 c187 c188 c189 c190 c191 c192 c193 c194 c195 c196 c197 c198 c199 c200 c201 c202 c203 c204 c205 c206 c207 c208 c209 c210 c211 c212 c213 c214 c215 c216 c217 c218 c219 c220 c221 c222 c223 c224 c225 c226 c227 c228 c229 c230 c231 c232 c233 c234 c235 c236 c237 c238 c239 c240 c241 c242 c243 c244 c245 c246 c247 c248 c249 c250 c251 c252 c253 c254 c255 c256 c257 c258 c259 c260 c261 c262 c263 c264 c265 c266 c267 c268 c269 c270 c271 c272 c273 c274 c275 c276 W, XR w.heap.size N1 Wb ws W → Code.wp Tryd.prog (dropS 10 (Tryd.f3.body.getD .skip)) (bodyPost Tryd.prog Tryd.f3 (KP25 w)) ⟨#[c0, c1, c2, .slice ao a.length ac, .slice bo b.length bc, c5, c6, c7, c8, c9, c10, c11, c12, c13, c14, c15, c16, .slice (some ⟨gw, 0, none⟩) 3 3, .slice (some ⟨D, 0, none⟩) 6 dc, c19, c20, c21, c22, c23, c24, c25, c26, c27, c28, c29, c30, c31, c32, c33, c34, c35, c36, c37, c38, c39, c40, c41, c42, c43, c44, c45, c46, c47, c48, c49, c50, c51, c52, c53, c54, c55, c56, c57, c58, c59, c60, c61, c62, c63, c64, c65, c66, c67, c68, c69, c70, c71, c72, c73, c74, c75, c76, c77, c78, c79, c80, c81, c82, c83, c84, c85, c86, c87, c88, c89, c90, c91, c92, c93, c94, c95, c96, c97, c98, c99, c100, c101, c102, c103, c104, c105, c106, c107, c108, c109, c110, c111, c112, c113, c114, c115, c116, c117, c118, c119, c120, c121, c122, c123, c124, c125, c126, c127, c128, c129, c130, c131, c132, c133, c134, c135, c136, c137, c138, c139, c140, c141, c142, c143, c144, c145, c146, c147, c148, c149, c150, c151, c152, c153, c154, c155, c156, c157, c158, c159, c160, c161, c162, c163, c164, c165, c166, c167, c168, c169, c170, c171, c172, c173, c174, c175, c176, c177, c178, c179, c180, c181, c182, c183, c184, c185, c186, c187, c188, c189, c190, c191, c192, c193, c194, c195, c196, c197, c198, c199, c200, c201, c202, c203, c204, c205, c206, c207, c208, c209, c210, c211, c212, c213, c214, c215, c216, c217, c218, c219, c220, c221, c222, c223, c224, c225, c226, c227, c228, c229, c230, c231, c232, c233, c234, c235, c236, c237, c238, c239, c240, c241, c242, c243, c244, c245, c246, c247, c248, c249, c250, c251, c252, c253, c254, c255, c256, c257, c258, c259, c260, c261, c262, c263, c264, c265, c266, c267, c268, c269, c270, c271, c272, c273, c274, c275, c276], []⟩ W) := fun c0 c1 c2 c5 c6 c7 c8 c9 c10 c11 c12 c13 c14 c15 c16 c19 c20 c21 c22 c23 c24 c25 c26 c27 c28 c29 c30 c31 c32 c33 c34 c35 c36 c37 c38 c39 c40 c41 c42 c43 c44 c45 c46 c47 c48 c49 c50 c51 c52 c53 c54 c55 c56 c57 c58 c59 c60 c61 c62 c63 c64 c65 c66 c67 c68 c69 c70 c71 c72 c73 c74 c75 c76 c77 c78 c79 c80 c81 c82 c83 c84 c85 c86 c87 c88 c89 c90 c91 c92 c93 c94 c95 c96 c97 c98 c99 c100 c101 c102 c103 c104 c105 c106 c107 c108 c109 c110 c111 c112 c113 c114 c115 c116 c117 c118 c119 c120 c121 c122 c123 c124 c125 c126 c127 c128 c129 c130 c131 c132 c133 c134 c135 c136 c137 c138 c139 c140 c141 c142 c143 c144 c145 c146 c147 c148 c149 c150 c151 c152 c153 c154 c155 c156 c157 c158 c159 c160 c161 c162 c163 c164 c165 c166 c167 c168 c169 c170 c171 c172 c173 c174 c175 c176 c177 c178 c179 c180 c181 c182 c183 c184 c185 c186 c187 c188 c189 c190 c191 c192 c193 c194 c195 c196 c197 c198 c199 c200 c201 c202 c203 c204 c205 c206 c207 c208 c209 c210 c211 c212 c213 c214 c215 c216 c217 c218 c219 c220 c221 c222 c223 c224 c225 c226 c227 c228 c229 c230 c231 c232 c233 c234 c235 c236 c237 c238 c239 c240 c241 c242 c243 c244 c245 c246 c247 c248 c249 c250 c251 c252 c253 c254 c255 c256 c257 c258 c259 c260 c261 c262 c263 c264 c265 c266 c267 c268 c269 c270 c271 c272 c273 c274 c275 c276 W h => by
    have k1 : KF Wb D dc N gw rs (M a b) (A a c) (J c d) := hK.blk (N1 := 0) (fun k _ hk => al.block k hk) al.size (Nat.zero_le _) (Nat.zero_le _) (Nat.zero_le _) hN0
    have k2 : KF W D dc N gw rs (M a b) (A a c) (J c d) := k1.blk h.blk h.bel.size h1N h1g h1D (Nat.le_trans hN0 al.size)
    exact kp10 c0 c1 c2 c5 c6 c7 c8 c9 c10 c11 c12 c13 c14 c15 c16 c19 c20 c21 c22 c23 c24 c25 c26 c27 c28 c29 c30 c31 c32 c33 c34 c35 c36 c37 c38 c39 c40 c41 c42 c43 c44 c45 c46 c47 c48 c49 c50 c51 c52 c53 c54 c55 c56 c57 c58 c59 c60 c61 c62 c63 c64 c65 c66 c67 c68 c69 c70 c71 c72 c73 c74 c75 c76 c77 c78 c79 c80 c81 c82 c83 c84 c85 c86 c87 c88 c89 c90 c91 c92 c93 c94 c95 c96 c97 c98 c99 c100 c101 c102 c103 c104 c105 c106 c107 c108 c109 c110 c111 c112 c113 c114 c115 c116 c117 c118 c119 c120 c121 c122 c123 c124 c125 c126 c127 c128 c129 c130 c131 c132 c133 c134 c135 c136 c137 c138 c139 c140 c141 c142 c143 c144 c145 c146 c147 c148 c149 c150 c151 c152 c153 c154 c155 c156 c157 c158 c159 c160 c161 c162 c163 c164 c165 c166 c167 c168 c169 c170 c171 c172 c173 c174 c175 c176 c177 c178 c179 c180 c181 c182 c183 c184 c185 c186 c187 c188 c189 c190 c191 c192 c193 c194 c195 c196 c197 c198 c199 c200 c201 c202 c203 c204 c205 c206 c207 c208 c209 c210 c211 c212 c213 c214 c215 c216 c217 c218 c219 c220 c221 c222 c223 c224 c225 c226 c227 c228 c229 c230 c231 c232 c233 c234 c235 c236 c237 c238 c239 c240 c241 c242 c243 c244 c245 c246 c247 c248 c249 c250 c251 c252 c253 c254 c255 c256 c257 c258 c259 c260 c261 c262 c263 c264 c265 c266 c267 c268 c269 c270 c271 c272 c273 c274 c275 c276 O w W a b c d ao bo ac bc gw FX ⟨(hE.bel.trans (al.mono hE.bel.size)).trans h.bel, hE.a, hE.b, k2.want 0 (by omega)⟩ D dc N rs k2 (Nat.le_trans hN0 (Nat.le_trans al.size h.bel.size)) hwN hgw
  have ROW : Hid (∀ i : Nat, i < 4 → ∃ (r : Gr) (g : Nat), ws[i]? = some r ∧ r.ao = some ⟨g, 0, none⟩ ∧ w.heap.size ≤ g ∧ g < N1 ∧ r.n ≤ 140737488351232 ∧ ∀ W, XR w.heap.size N1 Wb ws W → W.cell? ⟨Wa.heap.size, i, none⟩ = some (.slice (some ⟨g, 0, none⟩) r.n r.c)) := fun i hi => by
    obtain ⟨r, hr⟩ : ∃ r, ws[i]? = some r := ⟨_, List.getElem?_eq_getElem (by omega)⟩
    obtain ⟨_, hb, g, e, h0, h1⟩ := how i r hr
    refine ⟨r, g, hr, e, h0, h1, hb, fun W h => ?_⟩
    rw [World.cell?_of_block (w := Wb) (h.blk Wa.heap.size (by omega) rowB.lt), rowB.cell i r.val (by rw [List.getElem?_map, hr]; rfl), Gr.val, e]
  have HSEP : Hid (SepR ws) := hsep
  clear hE hK FX O hN0 hwN hgw h1N h1g h1D how hsep al rowB hl4 hws
  generalize a.length = an at *
  generalize b.length = bn at *
  conv => arg 2; whnf
  refine wp_seq_k fun K hK => ?_
  have HK : Hid _ := hK
  clear hK
  go_wp2
  go_loopw [137] (fun iv wr => ∃ i : Nat, i ≤ 4 ∧ iv = .int .i64 (i : Int) ∧ Hid (XR w.heap.size N1 Wb ws wr)) (fun iv _ => 4 - (intOf iv).toNat)
  case atStart => exact ⟨0, by omega, rfl, by rw [← hWb]; exact X0⟩
  case round =>
    clear X0 hWb
    obtain ⟨i, hi, rfl, HX⟩ := hrel
    by_cases hlt : i < 4
    · have y0 : (0 : Int) ≤ (i : Int) := by omega
      have y1 : (i : Int) < 4 := by omega
      have z1 : IntKind.i64.wrap ((i : Int) + 1) = (i : Int) + 1 := i64_in _ (by omega) (by omega)
      have HLT : Hid (i < 4) := hlt
      obtain ⟨r, g, hr, e, h0, h1, hb, hc⟩ := ROW.out i hlt
      have x1 := hc _ HX.out
      have HR : Hid (ws[i]? = some r ∧ r.ao = some ⟨g, 0, none⟩ ∧ w.heap.size ≤ g ∧ g < N1) := ⟨hr, e, h0, h1⟩
      obtain ⟨rn, hrn⟩ : ∃ rn, rn = r.n := ⟨_, rfl⟩
      obtain ⟨rc, hrc⟩ : ∃ rc, rc = r.c := ⟨_, rfl⟩
      rw [← hrn] at hb x1
      rw [← hrc] at x1
      have HB : Hid (rn ≤ 140737488351232 ∧ rn = r.n ∧ rc = r.c) := ⟨hb, hrn, hrc⟩
      clear hr e h0 h1 hb hc hlt hi hrn hrc
      go_wp2
      go_loopw [28] (fun kv wr2 => ∃ k : Nat, k ≤ rn ∧ kv = .int .i64 (k : Int) ∧ Hid (XR w.heap.size N1 Wb ws wr2)) (fun kv _ => rn - (intOf kv).toNat)
      case atStart => exact ⟨0, by omega, rfl, HX⟩
      case round =>
        clear HX x1
        obtain ⟨k, hk, rfl, HX⟩ := hrel
        by_cases hkl : k < rn
        · have v0 : (0 : Int) ≤ (k : Int) := by omega
          have v1 : (k : Int) < (rn : Int) := by omega
          have v3 : IntKind.i64.wrap ((k : Int) + 1) = (k : Int) + 1 := i64_in _ (by omega) (by have := HB.out.1; omega)
          obtain ⟨ys, hy⟩ := HX.out.own i r HR.out.1
          rw [HR.out.2.1, ← HB.out.2.1, ← HB.out.2.2] at hy
          have xc := hy.cell k (by omega)
          have xf := hy.frozen k
          have XN : Hid (XR w.heap.size N1 Wb ws (wr.setCell ⟨g, k, none⟩ (.int .u8 ((ys.getD k 0 ^^^ 60#8).toNat : Int)))) := HX.out.set HSEP.out HR.out.1 HR.out.2.1 HR.out.2.2.1 HR.out.2.2.2 k _
          have bx : bits .xor .u8 ((ys.getD k 0).toNat : Int) 60 = ((ys.getD k 0 ^^^ 60#8).toNat : Int) := bits8_xor (ys.getD k 0) 60#8
          have HKL : Hid (k < rn) := hkl
          generalize (ys.getD k 0 ^^^ 60#8).toNat = Y1 at bx XN
          generalize (ys.getD k 0).toNat = Y0 at xc bx
          clear hy HX hk hkl
          go_wp2
          exact ⟨⟨k + 1, HKL.out, by go_num, XN⟩, by have := HKL.out; simp [intOf]; omega⟩
        · obtain rfl : k = rn := by omega
          have v1 : ¬ (k : Int) < (k : Int) := by omega
          clear hk hkl
          go_wp2
          exact ⟨⟨i + 1, HLT.out, by go_num, HX⟩, by have := HLT.out; simp [intOf]; omega⟩
    · obtain rfl : i = 4 := by omega
      have y1 : ¬ ((4 : Nat) : Int) < 4 := by omega
      have y2 : ¬ (4 : Int) < 4 := by omega
      clear hlt hi
      go_wp2
      refine HK.out _ _ ?_
      clear HK
      exact NXT.out _ _ _ _ _ _ _ _ _ _ _ _ _ _ _ _ _ _ _ _ _ _ _ _ _ _ _ _ _ _ _ _ _ _ _ _ _ _ _ _ _ _ _ _ _ _ _ _ _ _ _ _ _ _ _ _ _ _ _ _ _ _ _ _ _ _ _ _ _ _ _ _ _ _ _ _ _ _ _ _ _ _ _ _ _ _ _ _ _ _ _ _ _ _ _ _ _ _ _ _ _ _ _ _ _ _ _ _ _ _ _ _ _ _ _ _ _ _ _ _ _ _ _ _ _ _ _ _ _ _ _ _ _ _ _ _ _ _ _ _ _ _ _ _ _ _ _ _ _ _ _ _ _ _ _ _ _ _ _ _ _ _ _ _ _ _ _ _ _ _ _ _ _ _ _ _ _ _ _ _ _ _ _ _ _ _ _ _ _ _ _ _ _ _ _ _ _ _ _ _ _ _ _ _ _ _ _ _ _ _ _ _ _ _ _ _ _ _ _ _ _ _ _ _ _ _ _ _ _ _ _ _ _ _ _ _ _ _ _ _ _ _ _ _ _ _ _ _ _ _ _ _ _ _ _ _ _ _ _ _ _ _ _ _ _ _ _ _ _ _ _ _ _ _ HX.out
end
end Go.Proofs.YtdfbfheceobboaaDoor
