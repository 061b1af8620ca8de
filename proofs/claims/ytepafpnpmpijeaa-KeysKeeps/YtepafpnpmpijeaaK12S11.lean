import Derived.Test.YtepafpnpmpijeaaK12S13

/-! Lists that come out, one more. -/
namespace Go.Proofs.Ytepafpnpmpijeaa
open Go.RowKit
set_option linter.unusedVariables false

theorem el_intss : ElT 51 35 1 24 (.slice none 0 0) := ⟨Try.underlying51, by kernel_rfl, rfl, by omega⟩
theorem ToldO.new (N : Nat) (w : World) (hN : N ≤ w.heap.size) (c : Nat) : ToldO N (w.alloc (.cells #[] 35)) (some ⟨w.heap.size, 0, none⟩) 0 c [] where
  row := ⟨by simp, .inr ⟨w.heap.size, 0, #[], rfl, hN, heap_alloc_new w _, Nat.le_refl _, by unfold maxLen; omega, by simp, by simp⟩⟩
  own i t h := by simp at h
  sep i j t t' g h := by simp at h
theorem ToldO.push {N : Nat} {wr w1 w2 : World} {tn tn' : Option Addr} {tc tc' c : Nat} {ts : List Tl} {o : Obj} {lo : Option Addr} {c1 : Nat} {m : List Int} (h : ToldO N wr tn tc c ts) (hN : N ≤ wr.heap.size) (b1 : Below wr.heap.size wr w1) (o1 : OwnI wr.heap.size w1 (.slice lo c c1) m)
    (h2 : w2.ownsRow N 35 1 (.slice tn' (ts.length + 1) tc') (ts.length + 1) ((ts.map fun t => Value.slice t.1 c t.2) ++ [.slice lo c c1])) (hz : (w1.alloc o).heap.size ≤ w2.heap.size) (hk : ∀ k, k < (w1.alloc o).heap.size → (∀ g, tn = some ⟨g, 0, none⟩ → k ≠ g) → w2.heap[k]? = (w1.alloc o).heap[k]?) : ToldO N w2 tn' tc' c (ts ++ [(lo, c1)]) := by
  have hsz : (w1.alloc o).heap.size = w1.heap.size + 1 := by simp
  have hle := b1.size
  have nq : ∀ (j : Nat) (cur : Array Value), j < w1.heap.size → w1.heap[j]? = some (.cells cur 3 (0, 0)) → w2.heap[j]? = w1.heap[j]? := by
    intro j cur hj hc
    refine (hk j (by omega) fun g e e2 => ?_).trans (Below.heap_alloc w1 o j hj)
    subst e2
    obtain ⟨cur2, hc2⟩ := owns_ty h.row j (by rw [e]; rfl)
    have hjl := (h.row.lt j (by rw [e]; rfl)).2
    rw [b1.block j hjl, hc2] at hc
    injection hc with hc
    injection hc with _ h3
    exact absurd h3 (by decide)
  refine ⟨by rw [List.length_append, List.map_append]; exact h2, fun i t hi => ?_, fun i j t t' g hi hj e e' => ?_⟩
  · rcases Nat.lt_or_ge i ts.length with h3 | h3
    · rw [List.getElem?_append_left h3] at hi
      obtain ⟨m', hm'⟩ := h.own i t hi
      have hm1 := hm'.keep b1
      refine ⟨m', hm1.of_block (by omega) fun B e => ?_⟩
      rw [e] at hm1
      obtain ⟨cur, hcur⟩ := hm1.ty
      exact nq B cur hm1.lt.2 hcur
    · rw [List.getElem?_append_right h3] at hi
      have hi0 : i - ts.length = 0 := by
        have := (List.getElem?_eq_some_iff.1 hi).1
        simp at this; omega
      rw [hi0] at hi
      simp at hi
      subst hi
      have o1' : OwnI N w1 (.slice lo c c1) m := by
        refine ⟨⟨o1.1.1, ?_⟩, by omega⟩
        rcases o1.1.2 with h0 | ⟨g, cc, cur, e, hg, r⟩
        · exact .inl h0
        · exact .inr ⟨g, cc, cur, e, Nat.le_trans hN hg, r⟩
      refine ⟨m, o1'.of_block (by omega) fun B e => ?_⟩
      have e' : lo = some ⟨B, 0, none⟩ := e
      subst e'
      obtain ⟨cur, hcur⟩ := o1.ty
      exact nq B cur o1.lt.2 hcur
  · have new : ∀ (i : Nat) (t : Tl), ts.length ≤ i → (ts ++ [(lo, c1)])[i]? = some t → i = ts.length ∧ t = (lo, c1) := by
      intro i t h3 hi
      have h4 := (List.getElem?_eq_some_iff.1 hi).1
      simp at h4
      obtain rfl : i = ts.length := by omega
      simp at hi
      exact ⟨rfl, hi.symm⟩
    have old : ∀ (i : Nat) (t : Tl) (g : Nat), i < ts.length → (ts ++ [(lo, c1)])[i]? = some t → t.1 = some ⟨g, 0, none⟩ → ts[i]? = some t ∧ g < wr.heap.size := by
      intro i t g h3 hi e
      rw [List.getElem?_append_left h3] at hi
      obtain ⟨m', hm'⟩ := h.own i t hi
      rw [e] at hm'
      exact ⟨hi, hm'.lt.2⟩
    rcases Nat.lt_or_ge i ts.length with hi3 | hi3 <;> rcases Nat.lt_or_ge j ts.length with hj3 | hj3
    · exact h.sep i j t t' g (old i t g hi3 hi e).1 (old j t' g hj3 hj e').1 e e'
    · obtain ⟨_, rfl⟩ := new j t' hj3 hj
      have h5 := (old i t g hi3 hi e).2
      have e2 : lo = some ⟨g, 0, none⟩ := e'
      subst e2
      have := o1.lt.1
      omega
    · obtain ⟨_, rfl⟩ := new i t hi3 hi
      have h5 := (old j t' g hj3 hj e').2
      have e2 : lo = some ⟨g, 0, none⟩ := e
      subst e2
      have := o1.lt.1
      omega
    · obtain ⟨e1, _⟩ := new i t hi3 hi
      obtain ⟨e2, _⟩ := new j t' hj3 hj
      omega
end Go.Proofs.Ytepafpnpmpijeaa


/-! KeysKeeps: three lists come out. (Printed by tools/genst11.py.) -/
namespace Go.Proofs.Ytepafpnpmpijeaa
open Go.RowKit
set_option linter.unusedVariables false

set_option maxHeartbeats 1500000 in
set_option maxRecDepth 1000000 in
theorem st11 (c2 c3 c4 c5 c6 c7 c8 c10 c11 c13 c14 c15 c16 c17 c18 c19 c20 c21 c22 c23 c24 c25 c26 c27 c28 c29 c30 c31 c32 c33 c34 c35 c36 c37 c38 c39 c40 c41 c42 c43 c44 c45 c46 c47 c48 c49 c50 c51 c52 c53 c54 c55 c56 c57 c58 c59 c60 c61 c62 c63 c64 c65 c66 c67 c68 c69 c70 c71 c72 c73 c74 c75 c76 c77 c78 c79 c80 c81 c82 c83 c84 c85 c86 c87 c88 c89 c90 c91 c92 c93 c94 c95 c96 c97 c98 c99 c100 c101 c102 c103 c104 c105 c106 c107 c108 c109 c110 c111 c112 c113 c114 c115 c116 c117 c118 c119 c120 c121 c122 c123 c124 c125 c126 c127 c128 c129 c130 c131 c132 c133 c134 c135 c136 c137 c138 c139 c140 c141 c142 c143 c144 c145 c146 c147 c148 c149 c150 c151 c152 c153 c154 c155 c156 c157 c158 c159 c160 c161 c162 c163 c164 c165 c166 c167 c168 c169 c170 c171 c172 c173 c174 c175 c176 c177 c178 c179 c180 c181 c182 c183 c184 c185 c186 c187 c188 c189 c190 c191 c192 c193 c194 c195 c196 c197 c198 c199 c200 c201 c202 c203 c204 c205 c206 c207 c208 c209 c210 c211 c212 c213 c214 c215 c216 c217 c218 c219 c220 c221 c222 c223 c224 c225 c226 c227 c228 c229 c230 c231 c232 c233 c234 c235 c236 c237 c238 c239 c240 c241 c242 c243 c244 c245 c246 c247 c248 c249 c250 c251 c252 c253 c254 c255 c256 c257 c258 c259 c260 c261 c262 c263 c264 c265 c266 c267 c268 c269 c270 c271 c272 c273 c274 c275 c276 c277 c278 c279 c280 c281 c282 c283 c284 c285 c286 c287 c288 c289 c290 c291 c292 c293 c294 c295 c296 c297 c298 c299 c300 c301 c302 c303 c304 c305 : Value) (w Wa : World) (NB : Nat) (hbw : ∀ W', Below NB Wa W' → Below w.heap.size w W') (ao : Option Addr) (n cap : Nat) {N M : Nat} {g b : Nat} {vs : List Value} {l : Secs} (hk : ∀ W', Below NB Wa W' → KgO N M W' g b vs l) {g2 : Nat} {ao2 : Option Addr} {cap2 : Nat} {vs2 : List Value} (hr : ∀ W', Below NB Wa W' → RgAt W' g2 ao2 cap2 vs2 l) (hl : l.length ≤ 64) (hb256 : ∀ i, i < l.length → (l.getD i (0, [])).2.length ≤ 256)
    (qo : Option Addr) (m qc D dff : Nat) (xs : List AskV) (hm : xs.length = m) (hm47 : m ≤ 140737488355328) (hqo : 0 < m → qo = some ⟨D, dff, none⟩) (has : ∀ W', Below NB Wa W' → AskIn W' D dff xs) (hbig : ∀ (i : Nat) (a : AskV), xs[i]? = some a → a.b.length ≤ 140737488351232) (hNB : NB = Wa.heap.size) :
    Code.wp Try.prog (dropS 11 (Try.f6.body.getD .skip)) (bodyPost Try.prog Try.f6 (KP w)) ⟨#[.slice ao n cap, .slice qo m qc, c2, c3, c4, c5, c6, c7, c8, .pointer (some ⟨g, 0, none⟩), c10, c11, .pointer (some ⟨g2, 0, none⟩), c13, c14, c15, c16, c17, c18, c19, c20, c21, c22, c23, c24, c25, c26, c27, c28, c29, c30, c31, c32, c33, c34, c35, c36, c37, c38, c39, c40, c41, c42, c43, c44, c45, c46, c47, c48, c49, c50, c51, c52, c53, c54, c55, c56, c57, c58, c59, c60, c61, c62, c63, c64, c65, c66, c67, c68, c69, c70, c71, c72, c73, c74, c75, c76, c77, c78, c79, c80, c81, c82, c83, c84, c85, c86, c87, c88, c89, c90, c91, c92, c93, c94, c95, c96, c97, c98, c99, c100, c101, c102, c103, c104, c105, c106, c107, c108, c109, c110, c111, c112, c113, c114, c115, c116, c117, c118, c119, c120, c121, c122, c123, c124, c125, c126, c127, c128, c129, c130, c131, c132, c133, c134, c135, c136, c137, c138, c139, c140, c141, c142, c143, c144, c145, c146, c147, c148, c149, c150, c151, c152, c153, c154, c155, c156, c157, c158, c159, c160, c161, c162, c163, c164, c165, c166, c167, c168, c169, c170, c171, c172, c173, c174, c175, c176, c177, c178, c179, c180, c181, c182, c183, c184, c185, c186, c187, c188, c189, c190, c191, c192, c193, c194, c195, c196, c197, c198, c199, c200, c201, c202, c203, c204, c205, c206, c207, c208, c209, c210, c211, c212, c213, c214, c215, c216, c217, c218, c219, c220, c221, c222, c223, c224, c225, c226, c227, c228, c229, c230, c231, c232, c233, c234, c235, c236, c237, c238, c239, c240, c241, c242, c243, c244, c245, c246, c247, c248, c249, c250, c251, c252, c253, c254, c255, c256, c257, c258, c259, c260, c261, c262, c263, c264, c265, c266, c267, c268, c269, c270, c271, c272, c273, c274, c275, c276, c277, c278, c279, c280, c281, c282, c283, c284, c285, c286, c287, c288, c289, c290, c291, c292, c293, c294, c295, c296, c297, c298, c299, c300, c301, c302, c303, c304, c305], []⟩ Wa := by
  obtain ⟨c, hc⟩ : ∃ c, (nums l 64).length = c := ⟨_, rfl⟩
  have HC : Hid (c ≤ 64) := by
    show _ ≤ _
    rw [← hc]; exact nums_len l 64
  have HNB : Hid (NB = Wa.heap.size) := hNB
  have NU : Hid (∀ W', Below NB Wa W' → Calls Try.prog 15 #[.pointer (some ⟨g, 0, none⟩)] W' fun e w' => ∃ lo c1, e = .returned (.slice lo c c1) ∧ OwnI W'.heap.size w' (.slice lo c c1) (nums l 64) ∧ Below W'.heap.size W' w') := fun W' h => (cnumbers_any (hk W' h)).mono fun e w' ⟨lo, n, c1, he, ho, hb⟩ => by
    obtain rfl : n = c := by rw [← hc]; exact ho.len.symm
    exact ⟨lo, c1, he, ho, hb⟩
  have NXT : Hid (∀ (W' : World) (tn : Option Addr) (tc c : Nat) (ts : List Tl), Below NB Wa W' → ts.length ≤ 3 → c ≤ 64 → ToldO NB W' tn tc c ts → ∀ (c2 c3 c4 c5 c6 c7 c8 c10 c11 c13 c14 c15 c16 c17 c18 c19 c21 c22 c23 c24 c25 c26 c27 c28 c29 c30 c31 c32 c33 c34 c35 c36 c37 c38 c39 c40 c41 c42 c43 c44 c45 c46 c47 c48 c49 c50 c51 c52 c53 c54 c55 c56 c57 c58 c59 c60 c61 c62 c63 c64 c65 c66 c67 c68 c69 c70 c71 c72 c73 c74 c75 c76 c77 c78 c79 c80 c81 c82 c83 c84 c85 c86 c87 c88 c89 c90 c91 c92 c93 c94 c95 c96 c97 c98 c99 c100 c101 c102 c103 c104 c105 c106 c107 c108 c109 c110 c111 c112 c113 c114 c115 c116 c117 c118 c119 c120 c121 c122 c123 c124 c125 c126 c127 c128 c129 c130 c131 c132 c133 c134 c135 c136 c137 c138 c139 c140 c141 c142 c143 c144 c145 c146 c147 c148 c149 c150 c151 c152 c153 c154 c155 c156 c157 c158 c159 c160 c161 c162 c163 c164 c165 c166 c167 c168 c169 c170 c171 c172 c173 c174 c175 c176 c177 c178 c179 c180 c181 c182 c183 c184 c185 c186 c187 c188 c189 c190 c191 c192 c193 c194 c195 c196 c197 c198 c199 c200 c201 c202 c203 c204 c205 c206 c207 c208 c209 c210 c211 c212 c213 c214 c215 c216 c217 c218 c219 c220 c221 c222 c223 c224 c225 c226 c227 c228 c229 c230 c231 c232 c233 c234 c235 c236 c237 c238 c239 c240 c241 c242 c243 c244 c245 c246 c247 c248 c249 c250 c251 c252 c253 c254 c255 c256 c257 c258 c259 c260 c261 c262 c263 c264 c265 c266 c267 c268 c269 c270 c271 c272 c273 c274 c275 c276 c277 c278 c279 c280 c281 c282 c283 c284 c285 c286 c287 c288 c289 c290 c291 c292 c293 c294 c295 c296 c297 c298 c299 c300 c301 c302 c303 c304 c305 : Value), Code.wp Try.prog (dropS 13 (Try.f6.body.getD .skip)) (bodyPost Try.prog Try.f6 (KP w)) ⟨#[.slice ao n cap, .slice qo m qc, c2, c3, c4, c5, c6, c7, c8, .pointer (some ⟨g, 0, none⟩), c10, c11, .pointer (some ⟨g2, 0, none⟩), c13, c14, c15, c16, c17, c18, c19, .slice tn ts.length tc, c21, c22, c23, c24, c25, c26, c27, c28, c29, c30, c31, c32, c33, c34, c35, c36, c37, c38, c39, c40, c41, c42, c43, c44, c45, c46, c47, c48, c49, c50, c51, c52, c53, c54, c55, c56, c57, c58, c59, c60, c61, c62, c63, c64, c65, c66, c67, c68, c69, c70, c71, c72, c73, c74, c75, c76, c77, c78, c79, c80, c81, c82, c83, c84, c85, c86, c87, c88, c89, c90, c91, c92, c93, c94, c95, c96, c97, c98, c99, c100, c101, c102, c103, c104, c105, c106, c107, c108, c109, c110, c111, c112, c113, c114, c115, c116, c117, c118, c119, c120, c121, c122, c123, c124, c125, c126, c127, c128, c129, c130, c131, c132, c133, c134, c135, c136, c137, c138, c139, c140, c141, c142, c143, c144, c145, c146, c147, c148, c149, c150, c151, c152, c153, c154, c155, c156, c157, c158, c159, c160, c161, c162, c163, c164, c165, c166, c167, c168, c169, c170, c171, c172, c173, c174, c175, c176, c177, c178, c179, c180, c181, c182, c183, c184, c185, c186, c187, c188, c189, c190, c191, c192, c193, c194, c195, c196, c197, c198, c199, c200, c201, c202, c203, c204, c205, c206, c207, c208, c209, c210, c211, c212, c213, c214, c215, c216, c217, c218, c219, c220, c221, c222, c223, c224, c225, c226, c227, c228, c229, c230, c231, c232, c233, c234, c235, c236, c237, c238, c239, c240, c241, c242, c243, c244, c245, c246, c247, c248, c249, c250, c251, c252, c253, c254, c255, c256, c257, c258, c259, c260, c261, c262, c263, c264, c265, c266, c267, c268, c269, c270, c271, c272, c273, c274, c275, c276, c277, c278, c279, c280, c281, c282, c283, c284, c285, c286, c287, c288, c289, c290, c291, c292, c293, c294, c295, c296, c297, c298, c299, c300, c301, c302, c303, c304, c305], []⟩ W') := fun W' tn tc c ts hW' hts hc hT c2 c3 c4 c5 c6 c7 c8 c10 c11 c13 c14 c15 c16 c17 c18 c19 c21 c22 c23 c24 c25 c26 c27 c28 c29 c30 c31 c32 c33 c34 c35 c36 c37 c38 c39 c40 c41 c42 c43 c44 c45 c46 c47 c48 c49 c50 c51 c52 c53 c54 c55 c56 c57 c58 c59 c60 c61 c62 c63 c64 c65 c66 c67 c68 c69 c70 c71 c72 c73 c74 c75 c76 c77 c78 c79 c80 c81 c82 c83 c84 c85 c86 c87 c88 c89 c90 c91 c92 c93 c94 c95 c96 c97 c98 c99 c100 c101 c102 c103 c104 c105 c106 c107 c108 c109 c110 c111 c112 c113 c114 c115 c116 c117 c118 c119 c120 c121 c122 c123 c124 c125 c126 c127 c128 c129 c130 c131 c132 c133 c134 c135 c136 c137 c138 c139 c140 c141 c142 c143 c144 c145 c146 c147 c148 c149 c150 c151 c152 c153 c154 c155 c156 c157 c158 c159 c160 c161 c162 c163 c164 c165 c166 c167 c168 c169 c170 c171 c172 c173 c174 c175 c176 c177 c178 c179 c180 c181 c182 c183 c184 c185 c186 c187 c188 c189 c190 c191 c192 c193 c194 c195 c196 c197 c198 c199 c200 c201 c202 c203 c204 c205 c206 c207 c208 c209 c210 c211 c212 c213 c214 c215 c216 c217 c218 c219 c220 c221 c222 c223 c224 c225 c226 c227 c228 c229 c230 c231 c232 c233 c234 c235 c236 c237 c238 c239 c240 c241 c242 c243 c244 c245 c246 c247 c248 c249 c250 c251 c252 c253 c254 c255 c256 c257 c258 c259 c260 c261 c262 c263 c264 c265 c266 c267 c268 c269 c270 c271 c272 c273 c274 c275 c276 c277 c278 c279 c280 c281 c282 c283 c284 c285 c286 c287 c288 c289 c290 c291 c292 c293 c294 c295 c296 c297 c298 c299 c300 c301 c302 c303 c304 c305 => st13 c2 c3 c4 c5 c6 c7 c8 c10 c11 c13 c14 c15 c16 c17 c18 c19 c21 c22 c23 c24 c25 c26 c27 c28 c29 c30 c31 c32 c33 c34 c35 c36 c37 c38 c39 c40 c41 c42 c43 c44 c45 c46 c47 c48 c49 c50 c51 c52 c53 c54 c55 c56 c57 c58 c59 c60 c61 c62 c63 c64 c65 c66 c67 c68 c69 c70 c71 c72 c73 c74 c75 c76 c77 c78 c79 c80 c81 c82 c83 c84 c85 c86 c87 c88 c89 c90 c91 c92 c93 c94 c95 c96 c97 c98 c99 c100 c101 c102 c103 c104 c105 c106 c107 c108 c109 c110 c111 c112 c113 c114 c115 c116 c117 c118 c119 c120 c121 c122 c123 c124 c125 c126 c127 c128 c129 c130 c131 c132 c133 c134 c135 c136 c137 c138 c139 c140 c141 c142 c143 c144 c145 c146 c147 c148 c149 c150 c151 c152 c153 c154 c155 c156 c157 c158 c159 c160 c161 c162 c163 c164 c165 c166 c167 c168 c169 c170 c171 c172 c173 c174 c175 c176 c177 c178 c179 c180 c181 c182 c183 c184 c185 c186 c187 c188 c189 c190 c191 c192 c193 c194 c195 c196 c197 c198 c199 c200 c201 c202 c203 c204 c205 c206 c207 c208 c209 c210 c211 c212 c213 c214 c215 c216 c217 c218 c219 c220 c221 c222 c223 c224 c225 c226 c227 c228 c229 c230 c231 c232 c233 c234 c235 c236 c237 c238 c239 c240 c241 c242 c243 c244 c245 c246 c247 c248 c249 c250 c251 c252 c253 c254 c255 c256 c257 c258 c259 c260 c261 c262 c263 c264 c265 c266 c267 c268 c269 c270 c271 c272 c273 c274 c275 c276 c277 c278 c279 c280 c281 c282 c283 c284 c285 c286 c287 c288 c289 c290 c291 c292 c293 c294 c295 c296 c297 c298 c299 c300 c301 c302 c303 c304 c305 w W' NB (fun X hX => hbw X (hW'.trans hX)) ao n cap (fun X hX => hk X (hW'.trans hX)) (fun X hX => hr X (hW'.trans hX)) hl hb256 qo m qc D dff xs hm hm47 hqo (fun X hX => has X (hW'.trans hX)) hbig tn tc c ts hts hc hT (by rw [hNB]; exact hW'.size)
  have HO0 : Hid (ToldO NB (Wa.alloc (.cells #[] 35)) (some ⟨Wa.heap.size, 0, none⟩) 0 c []) := ToldO.new NB Wa (by rw [hNB]; exact Nat.le_refl _) _
  have HB0 : Hid (Below NB Wa (Wa.alloc (.cells #[] 35))) := (Below.refl _ _).alloc (by rw [hNB]; exact Nat.le_refl _) _
  clear hk hr has hl hb256 hm hqo hbw hbig hm47 hNB hc
  conv => arg 2; whnf
  refine wp_seq_k fun K hK => ?_
  have HKK : Hid _ := hK
  clear hK
  go_wp2
  refine HKK.out _ _ ?_
  clear HKK
  refine wp_seq_k fun K hK => ?_
  have HKK : Hid _ := hK
  clear hK
  go_wp2
  go_loopw [20, 21] (fun tv iv wr => ∃ (k : Nat) (tn : Option Addr) (tc : Nat) (ts : List Tl), k ≤ 3 ∧ tv = .slice tn k tc ∧ iv = .int .i64 k ∧ Hid (ts.length = k ∧ ToldO NB wr tn tc c ts ∧ Below NB Wa wr)) (fun _ iv _ => 3 - (intOf iv).toNat)
  case atStart => exact ⟨0, _, _, [], by omega, rfl, rfl, rfl, HO0.out, HB0.out⟩
  case round =>
    clear HO0 HB0
    obtain ⟨k, tn, tc, ts, hk, rfl, rfl, HT⟩ := hrel
    by_cases hlt : k < 3
    · have y0 : (0 : Int) ≤ (k : Int) := by omega
      have y1 : (k : Int) < 3 := by omega
      have NW := NU.out wr HT.out.2.2
      go_wp2_with fail
      refine NW.mono ?_
      clear NW
      rintro e w1 ⟨lo, c1, rfl, o1, b1⟩
      dsimp only
      have ba : Hid (Below w1.heap.size w1 (w1.alloc (.cells #[.slice lo c c1] 35))) := (Below.refl _ _).alloc (Nat.le_refl _) _
      have rB : Hid (Row (w1.alloc (.cells #[.slice lo c c1] 35)) w1.heap.size 35 [.slice lo c c1]) := Row.at w1 _ _ _ _ rfl rfl
      have HN1 : Hid (NB ≤ wr.heap.size) := by
        show _ ≤ _
        rw [HNB.out]; exact HT.out.2.2.size
      have bw : Hid (Below NB Wa (w1.alloc (.cells #[.slice lo c c1] 35))) := (HT.out.2.2.trans (b1.mono HN1.out)).trans (ba.out.mono (Nat.le_trans HN1.out b1.size))
      have HROW : Hid ((w1.alloc (.cells #[.slice lo c c1] 35)).ownsRow NB 35 1 (.slice tn k tc) k (ts.map fun t => .slice t.1 c t.2)) := by
        have h1 := HT.out.2.1.row
        rw [HT.out.1] at h1
        have h2 := owns_blk h1 fun B e => b1.block B (h1.lt B e).2
        exact owns_blk h2 fun B e => ba.out.block B (h2.lt B e).2
      have HO1 : Hid (OwnI wr.heap.size w1 (.slice lo c c1) (nums l 64)) := o1
      have HB1 : Hid (Below wr.heap.size wr w1) := b1
      clear o1 b1
      have HPU : Hid (∀ (w2 : World) (tn' : Option Addr) (tc' : Nat), w2.ownsRow NB 35 1 (.slice tn' (k + 1) tc') (k + 1) ((ts.map fun t => Value.slice t.1 c t.2) ++ [.slice lo c c1]) → (w1.alloc (.cells #[.slice lo c c1] 35)).heap.size ≤ w2.heap.size → (∀ j, j < (w1.alloc (.cells #[.slice lo c c1] 35)).heap.size → (∀ g, tn = some ⟨g, 0, none⟩ → j ≠ g) → w2.heap[j]? = (w1.alloc (.cells #[.slice lo c c1] 35)).heap[j]?) → ToldO NB w2 tn' tc' c (ts ++ [(lo, c1)])) := by
        intro w2 tn' tc' q1 q2 q3
        refine HT.out.2.1.push HN1.out HB1.out HO1.out ?_ q2 q3
        rw [HT.out.1]; exact q1
      go_wp2_with (at_builtin; refine wpList_append_where el_intss rfl (.tmp 198) (.tmp 201) rfl NB Wa tn k tc (ts.map fun t => .slice t.1 c t.2) rfl HROW.out (Nat.le_trans HN1.out (Nat.le_trans HB1.out.size ba.out.size)) bw.out w1.heap.size 0 1 1 [.slice lo c c1] rfl rfl (fun q u hu => by rw [Nat.zero_add]; exact rB.out.cell q u hu) (by omega) (by intro u hu; simp at hu; subst hu; rfl) (by unfold maxLen; omega) (by omega) ?_; intro ao2 c2' w2 q1 q2 q3 q4 q5)
      exact ⟨⟨k + 1, ao2, c2', ts ++ [(lo, c1)], by omega, rfl, by go_num, by rw [List.length_append, HT.out.1]; rfl, HPU.out _ _ _ q1 q3 q4, q2⟩, by simp [intOf]; omega⟩
    · obtain rfl : k = 3 := by omega
      have y1 : ¬ ((3 : Nat) : Int) < 3 := by omega
      go_wp2
      refine HKK.out _ _ ?_
      have hl3 := HT.out.1
      have := NXT.out wr tn tc c ts HT.out.2.2 (by omega) HC.out HT.out.2.1
      rw [hl3] at this
      exact this _ _ _ _ _ _ _ _ _ _ _ _ _ _ _ _ _ _ _ _ _ _ _ _ _ _ _ _ _ _ _ _ _ _ _ _ _ _ _ _ _ _ _ _ _ _ _ _ _ _ _ _ _ _ _ _ _ _ _ _ _ _ _ _ _ _ _ _ _ _ _ _ _ _ _ _ _ _ _ _ _ _ _ _ _ _ _ _ _ _ _ _ _ _ _ _ _ _ _ _ _ _ _ _ _ _ _ _ _ _ _ _ _ _ _ _ _ _ _ _ _ _ _ _ _ _ _ _ _ _ _ _ _ _ _ _ _ _ _ _ _ _ _ _ _ _ _ _ _ _ _ _ _ _ _ _ _ _ _ _ _ _ _ _ _ _ _ _ _ _ _ _ _ _ _ _ _ _ _ _ _ _ _ _ _ _ _ _ _ _ _ _ _ _ _ _ _ _ _ _ _ _ _ _ _ _ _ _ _ _ _ _ _ _ _ _ _ _ _ _ _ _ _ _ _ _ _ _ _ _ _ _ _ _ _ _ _ _ _ _ _ _ _ _ _ _ _ _ _ _ _ _ _ _ _ _ _ _ _ _ _ _ _ _ _ _ _ _ _ _ _ _ _ _ _ _ _ _ _ _ _ _ _ _ _ _ _ _ _ _ _ _ _ _ _ _ _ _ _ _ _

end Go.Proofs.Ytepafpnpmpijeaa
