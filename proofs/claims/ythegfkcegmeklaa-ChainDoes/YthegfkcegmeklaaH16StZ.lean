
import Derived.Test.YthegfkcegmeklaaH16StQ
import Derived.Test.YthegfkcegmeklaaH16Chk
/-! The law's step, whole. (Printed by tools/genstep16.py.) -/
namespace Go.Proofs.Ythegfkcegmeklaa
open Go.RowKit
set_option linter.unusedVariables false

set_option maxHeartbeats 4000000 in
set_option maxRecDepth 1000000 in
theorem step_quo {Lg : (Nat → Prop) → World → Addr → List EvV → Prop} (C : Chn Lg) (F : Nat → Prop) (w : World) (g : Nat) (xs : List EvV) (hk : Bk Lg F w g xs) (k on : Int) (h2 : k ≠ 2) (h3 : k ≠ 3) (h4 : k ≠ 4) (x : EvV) (hx : EvOk x)
    (ko : Option Addr) (kn kc : Nat) (key : List By) (hkn : key.length = kn) (hki : ∀ W, But F w W → IsB W ko key) (hkk : (ko = none → kc = 0) ∧ kn ≤ kc) (hkb : kn ≤ 140737488351232) (no : Option Addr) (nb nc : Nat) (nonce : List By) (hnb : nonce.length = nb) (hni : ∀ W, But F w W → IsB W no nonce) (hnn : (no = none → nc = 0) ∧ nb ≤ nc) (hbig : nb ≤ 140737488351232) :
    Calls Try.prog 10 #[.pointer (some ⟨g, 0, none⟩), .agg (opC k on x ko kn kc no nb nc).toArray] w (StP Lg F w g) := by
  obtain ⟨OC, hOC⟩ : ∃ OC, OC = opC k on x ko kn kc no nb nc := ⟨_, rfl⟩
  have hO0 : OC[0]? = some (.int .i64 k) := by rw [hOC]; rfl
  have hO35 : OC[35]? = some (.slice ko kn kc) := by rw [hOC]; exact opC_key hx
  have hO36 : OC[36]? = some (.slice no nb nc) := by rw [hOC]; exact opC_nonce hx
  rw [← hOC]
  clear hOC
  obtain ⟨lp, ao, c, B, ob, hF, hFg, hFB, hgl, hBl, hao, hnil, hev⟩ := hk.start C OC
  obtain ⟨W1, hW1⟩ : ∃ W1, W1 = w.alloc (.cells OC.toArray 38) := ⟨_, rfl⟩
  rw [← hW1] at hF
  have hn : xs.length ≤ 1024 := hF.len C
  have HC : Hid (Chn Lg) := C
  obtain ⟨R, hR⟩ : ∃ R, R = bkR w.heap.size g OC lp ao xs.length c B ob := ⟨_, rfl⟩
  rw [← hR] at hF
  have P0 : Hid (FB Lg F w lp xs R W1) := hF
  have CBR : Hid (∀ W, FB Lg F w lp xs R W → W.cell? ⟨g, 0, none⟩ = some (.pointer (some lp)) ∧ W.cell? ⟨g, 1, none⟩ = some (.slice ao xs.length c)) := by rw [hR]; exact fun W h => ⟨h.bk.cell 0 _ rfl, h.bk.cell 1 _ rfl⟩
  have CK : Hid (∀ W, FB Lg F w lp xs R W → W.cell? ⟨w.heap.size, 0, none⟩ = some (.int .i64 k)) := by rw [hR]; exact fun W h => h.op.cell 0 _ hO0
  have COR : Hid (∀ W, FB Lg F w lp xs R W → W.cell? ⟨w.heap.size, 35, none⟩ = some (.slice ko kn kc) ∧ W.cell? ⟨w.heap.size, 36, none⟩ = some (.slice no nb nc)) := by rw [hR]; exact fun W h => ⟨h.op.cell 35 _ hO35, h.op.cell 36 _ hO36⟩
  have EV : Hid (∀ W, FB Lg F w lp xs R W → EvIn W B 0 xs) := by rw [hR]; exact fun W h => hev W h.ev
  have FIN : Hid (∀ W, FB Lg F w lp xs R W → StP Lg F w g (.returned (.bool true)) W) := by rw [hR]; exact fun W h => h.endP C hFg hFB hao hnil hev
  have HAO : Hid (0 < xs.length → ao = some ⟨B, 0, none⟩) := fun h => (hao h).1
  have lq : (quot key nonce xs).length = 32 := shaLen _
  have ckz : chk key nonce xs (quot key nonce xs) = 0 := by unfold chk; rw [if_neg (by omega), if_pos rfl]
  have NX : Hid (∀ (W : World) (gk ck gn cn : Nat), Below W1.heap.size W1 W → Own W1.heap.size W (.slice (some ⟨gk, 0, none⟩) (kn + 1) ck) (key ++ [119#8]) → Own W1.heap.size W (.slice (some ⟨gn, 0, none⟩) (nb + 1) cn) (nonce ++ [120#8]) → ∀ c1 c2 c4 c5 c6 c7 c8 c9 c12 c13 c14 c15 c16 c17 c18 c19 c20 c21 c22 c23 c24 c25 c26 c27 c28 c29 c30 c31 c32 c33 c34 c35 c36 c37 c38 c39 c40 c41 c42 c43 c44 c45 c46 c47 c48 c49 c50 c51 c52 c53 c54 c55 c56 c57 c58 c59 c60 c61 c62 c63 c64 c65 c66 c67 c68 c69 c70 c71 c72 c73 c74 c75 c76 c77 c78 c79 c80 c81 c82 c83 c84 c85 c86 c87 c88 c89 c90 c91 c92 c93 c94 c95 c96 c97 c98 c99 c100 c101 c102 c103 c104 c105 c106 c107 c108 c109 c110 c111 c112 c113 c114 c115 c116 c117 c118 c119 c120 c121 c122 c123 c124 c125 c126 c127 c128 c129 c130 c131 c132 c133 c134 c135 c136 c137 c138 c139 c140 c141 c142 c143 c144 c145 c146 c147 c148 c149 c150 c151 c152 c153 c154 c155 c156 c157 c158 c159 c160 c161 c162 c163 c164 c165 c166 c167 c168 c169 c170 c171 c172 c173 c174 c175 c176 c177 c178 c179 : Value,
      Code.wp Try.prog (dropS 4 (Try.f10.body.getD .skip)) (bodyPost Try.prog Try.f10 (StP Lg F w g)) ⟨#[.pointer (some ⟨g, 0, none⟩), c1, c2, .pointer (some ⟨w.heap.size, 0, none⟩), c4, c5, c6, c7, c8, c9, .slice (some ⟨gk, 0, none⟩) (kn + 1) ck, .slice (some ⟨gn, 0, none⟩) (nb + 1) cn, c12, c13, c14, c15, c16, c17, c18, c19, c20, c21, c22, c23, c24, c25, c26, c27, c28, c29, c30, c31, c32, c33, c34, c35, c36, c37, c38, c39, c40, c41, c42, c43, c44, c45, c46, c47, c48, c49, c50, c51, c52, c53, c54, c55, c56, c57, c58, c59, c60, c61, c62, c63, c64, c65, c66, c67, c68, c69, c70, c71, c72, c73, c74, c75, c76, c77, c78, c79, c80, c81, c82, c83, c84, c85, c86, c87, c88, c89, c90, c91, c92, c93, c94, c95, c96, c97, c98, c99, c100, c101, c102, c103, c104, c105, c106, c107, c108, c109, c110, c111, c112, c113, c114, c115, c116, c117, c118, c119, c120, c121, c122, c123, c124, c125, c126, c127, c128, c129, c130, c131, c132, c133, c134, c135, c136, c137, c138, c139, c140, c141, c142, c143, c144, c145, c146, c147, c148, c149, c150, c151, c152, c153, c154, c155, c156, c157, c158, c159, c160, c161, c162, c163, c164, c165, c166, c167, c168, c169, c170, c171, c172, c173, c174, c175, c176, c177, c178, c179], []⟩ W) := by
    intro W gk ck gn cn hb hok hon c1 c2 c4 c5 c6 c7 c8 c9 c12 c13 c14 c15 c16 c17 c18 c19 c20 c21 c22 c23 c24 c25 c26 c27 c28 c29 c30 c31 c32 c33 c34 c35 c36 c37 c38 c39 c40 c41 c42 c43 c44 c45 c46 c47 c48 c49 c50 c51 c52 c53 c54 c55 c56 c57 c58 c59 c60 c61 c62 c63 c64 c65 c66 c67 c68 c69 c70 c71 c72 c73 c74 c75 c76 c77 c78 c79 c80 c81 c82 c83 c84 c85 c86 c87 c88 c89 c90 c91 c92 c93 c94 c95 c96 c97 c98 c99 c100 c101 c102 c103 c104 c105 c106 c107 c108 c109 c110 c111 c112 c113 c114 c115 c116 c117 c118 c119 c120 c121 c122 c123 c124 c125 c126 c127 c128 c129 c130 c131 c132 c133 c134 c135 c136 c137 c138 c139 c140 c141 c142 c143 c144 c145 c146 c147 c148 c149 c150 c151 c152 c153 c154 c155 c156 c157 c158 c159 c160 c161 c162 c163 c164 c165 c166 c167 c168 c169 c170 c171 c172 c173 c174 c175 c176 c177 c178 c179
    obtain ⟨qk1, ok, qk2⟩ := own_blk hok
    obtain ⟨qn1, on, qn2⟩ := own_blk hon
    have hf : FB Lg F w lp xs ([(gk, ok), (gn, on)] ++ R) W := FB.pushes C hF hb fun t ht => by
      rcases List.mem_cons.1 ht with rfl | ht
      · exact ⟨qk2, qk1⟩
      · rw [List.mem_singleton] at ht
        subst ht
        exact ⟨qn2, qn1⟩
    have ik := own_IsB hok
    have inn := own_IsB hon
    have hck := own_cap hok
    have hcn := own_cap hon
    obtain ⟨R2, hR2⟩ : ∃ R2, R2 = [(gk, ok), (gn, on)] ++ R := ⟨_, rfl⟩
    rw [← hR2] at hf
    have mk : (gk, ok) ∈ R2 := by rw [hR2]; exact List.mem_append.2 (.inl (List.mem_cons_self ..))
    have mn : (gn, on) ∈ R2 := by rw [hR2]; exact List.mem_append.2 (.inl (List.mem_cons_of_mem _ (List.mem_cons_self ..)))
    have wk : ∀ (R3 : List (Nat × Obj)) W, FB Lg F w lp xs (R3 ++ R2) W → FB Lg F w lp xs R W := fun R3 W h => h.weaken fun t ht => List.mem_append.2 (.inr (by rw [hR2]; exact List.mem_append.2 (.inr ht)))
    have ib : ∀ (R3 : List (Nat × Obj)) W', FB Lg F w lp xs (R3 ++ R2) W' → IsB W' ko key ∧ IsB W' no nonce ∧ IsB W' (some ⟨gk, 0, none⟩) (key ++ [119#8]) ∧ IsB W' (some ⟨gn, 0, none⟩) (nonce ++ [120#8]) := fun R3 W' h =>
      ⟨hki _ h.but, hni _ h.but, ik.blk ((h.blk (List.mem_append.2 (.inr mk))).trans qk2.symm), inn.blk ((h.blk (List.mem_append.2 (.inr mn))).trans qn2.symm)⟩
    refine sq4 C F w lp xs R2 g w.heap.size ko kn kc no nb nc gk ck gn cn key nonce hkn hnb hkb hbig (by omega) (by omega) W hf (fun W h => (CBR.out _ (wk [] W h)).1) (fun W h => COR.out _ (wk [] W h)) (fun W h => ⟨isB_head (ib [] W h).2.2.1, isB_head (ib [] W h).2.2.2⟩) ?_ c1 c2 c4 c5 c6 c7 c8 c9 c12 c13 c14 c15 c16 c17 c18 c19 c20 c21 c22 c23 c24 c25 c26 c27 c28 c29 c30 c31 c32 c33 c34 c35 c36 c37 c38 c39 c40 c41 c42 c43 c44 c45 c46 c47 c48 c49 c50 c51 c52 c53 c54 c55 c56 c57 c58 c59 c60 c61 c62 c63 c64 c65 c66 c67 c68 c69 c70 c71 c72 c73 c74 c75 c76 c77 c78 c79 c80 c81 c82 c83 c84 c85 c86 c87 c88 c89 c90 c91 c92 c93 c94 c95 c96 c97 c98 c99 c100 c101 c102 c103 c104 c105 c106 c107 c108 c109 c110 c111 c112 c113 c114 c115 c116 c117 c118 c119 c120 c121 c122 c123 c124 c125 c126 c127 c128 c129 c130 c131 c132 c133 c134 c135 c136 c137 c138 c139 c140 c141 c142 c143 c144 c145 c146 c147 c148 c149 c150 c151 c152 c153 c154 c155 c156 c157 c158 c159 c160 c161 c162 c163 c164 c165 c166 c167 c168 c169 c170 c171 c172 c173 c174 c175 c176 c177 c178 c179
    intro W2 H h5 c1 c2 c4 c5 c6 c7 c8 c9 c13 c14 c15 c16 c17 c18 c19 c20 c21 c22 c23 c24 c25 c26 c27 c28 c29 c30 c31 c32 c33 c34 c35 c36 c37 c38 c39 c40 c41 c42 c43 c44 c45 c46 c47 c48 c49 c50 c51 c52 c53 c54 c55 c56 c57 c58 c59 c60 c61 c62 c63 c64 c65 c66 c67 c68 c69 c70 c71 c72 c73 c74 c75 c76 c77 c78 c79 c80 c81 c82 c83 c84 c85 c86 c87 c88 c89 c90 c91 c92 c93 c94 c95 c96 c97 c98 c99 c100 c101 c102 c103 c104 c105 c106 c107 c108 c109 c110 c111 c112 c113 c114 c115 c116 c117 c118 c119 c120 c121 c122 c123 c124 c125 c126 c127 c128 c129 c130 c131 c132 c133 c134 c135 c136 c137 c138 c139 c140 c141 c142 c143 c144 c145 c146 c147 c148 c149 c150 c151 c152 c153 c154 c155 c156 c157 c158 c159 c160 c161 c162 c163 c164 c165 c166 c167 c168 c169 c170 c171 c172 c173 c174 c175 c176 c177 c178 c179
    refine sq5 (FB Lg F w lp xs ([(H, Obj.cells ((quot key nonce xs).map B8).toArray 32 (0, 0))] ++ R2)) g w.heap.size H ko kn kc no nb nc gk ck gn cn key nonce hkn hnb hkb hbig hkk hnn W2 h5 (fun W hW => FB.below C h5 hW) (fun W h => COR.out _ (wk _ W h)) (fun W h => ib _ W h) ?_ c1 c2 c4 c5 c6 c7 c8 c9 c13 c14 c15 c16 c17 c18 c19 c20 c21 c22 c23 c24 c25 c26 c27 c28 c29 c30 c31 c32 c33 c34 c35 c36 c37 c38 c39 c40 c41 c42 c43 c44 c45 c46 c47 c48 c49 c50 c51 c52 c53 c54 c55 c56 c57 c58 c59 c60 c61 c62 c63 c64 c65 c66 c67 c68 c69 c70 c71 c72 c73 c74 c75 c76 c77 c78 c79 c80 c81 c82 c83 c84 c85 c86 c87 c88 c89 c90 c91 c92 c93 c94 c95 c96 c97 c98 c99 c100 c101 c102 c103 c104 c105 c106 c107 c108 c109 c110 c111 c112 c113 c114 c115 c116 c117 c118 c119 c120 c121 c122 c123 c124 c125 c126 c127 c128 c129 c130 c131 c132 c133 c134 c135 c136 c137 c138 c139 c140 c141 c142 c143 c144 c145 c146 c147 c148 c149 c150 c151 c152 c153 c154 c155 c156 c157 c158 c159 c160 c161 c162 c163 c164 c165 c166 c167 c168 c169 c170 c171 c172 c173 c174 c175 c176 c177 c178 c179
    intro W3 h6 c1 c2 c4 c5 c6 c7 c8 c9 c10 c11 c13 c14 c15 c16 c17 c18 c19 c20 c21 c22 c23 c24 c25 c26 c27 c28 c29 c30 c31 c32 c33 c34 c35 c36 c37 c38 c39 c40 c41 c42 c43 c44 c45 c46 c47 c48 c49 c50 c51 c52 c53 c54 c55 c56 c57 c58 c59 c60 c61 c62 c63 c64 c65 c66 c67 c68 c69 c70 c71 c72 c73 c74 c75 c76 c77 c78 c79 c80 c81 c82 c83 c84 c85 c86 c87 c88 c89 c90 c91 c92 c93 c94 c95 c96 c97 c98 c99 c100 c101 c102 c103 c104 c105 c106 c107 c108 c109 c110 c111 c112 c113 c114 c115 c116 c117 c118 c119 c120 c121 c122 c123 c124 c125 c126 c127 c128 c129 c130 c131 c132 c133 c134 c135 c136 c137 c138 c139 c140 c141 c142 c143 c144 c145 c146 c147 c148 c149 c150 c151 c152 c153 c154 c155 c156 c157 c158 c159 c160 c161 c162 c163 c164 c165 c166 c167 c168 c169 c170 c171 c172 c173 c174 c175 c176 c177 c178 c179
    exact sq6 (FB Lg F w lp xs ([(H, Obj.cells ((quot key nonce xs).map B8).toArray 32 (0, 0))] ++ R2)) g w.heap.size H ko kn kc no nb nc ao xs.length c (quot key nonce xs) lq (fun W h => h.drew C) (fun W h => (CBR.out _ (wk _ W h)).2) (fun W h => COR.out _ (wk _ W h)) (fun W h => Row.rng0 (t := 32) (h.blk (List.mem_cons_self ..)))
      (fun W h => (rquote_any W ko kn kc key hkn (ib _ W h).1 hkk.1 hkb no nb nc nonce hnb (ib _ W h).2.1 hnn.1 hbig ao xs.length c B 0 xs rfl (by omega) HAO.out (EV.out _ (wk _ W h))).mono fun e w' ⟨e1, e2⟩ => ⟨e1, h.below C e2⟩)
      (fun W h => (C.check W ko kn kc key hkn (ib _ W h).1 hkk hkb no nb nc nonce hnb (ib _ W h).2.1 hnn hbig ao xs.length c B 0 xs rfl (by omega) HAO.out (EV.out _ (wk _ W h)) (quot key nonce xs) lq).mono fun e w' ⟨e1, e2⟩ => ⟨by rw [e1, ckz], h.below C e2⟩)
      (fun W h => FIN.out _ (wk _ W h)) W3 h6 c1 c2 c4 c5 c6 c7 c8 c9 c10 c11 c13 c14 c15 c16 c17 c18 c19 c20 c21 c22 c23 c24 c25 c26 c27 c28 c29 c30 c31 c32 c33 c34 c35 c36 c37 c38 c39 c40 c41 c42 c43 c44 c45 c46 c47 c48 c49 c50 c51 c52 c53 c54 c55 c56 c57 c58 c59 c60 c61 c62 c63 c64 c65 c66 c67 c68 c69 c70 c71 c72 c73 c74 c75 c76 c77 c78 c79 c80 c81 c82 c83 c84 c85 c86 c87 c88 c89 c90 c91 c92 c93 c94 c95 c96 c97 c98 c99 c100 c101 c102 c103 c104 c105 c106 c107 c108 c109 c110 c111 c112 c113 c114 c115 c116 c117 c118 c119 c120 c121 c122 c123 c124 c125 c126 c127 c128 c129 c130 c131 c132 c133 c134 c135 c136 c137 c138 c139 c140 c141 c142 c143 c144 c145 c146 c147 c148 c149 c150 c151 c152 c153 c154 c155 c156 c157 c158 c159 c160 c161 c162 c163 c164 c165 c166 c167 c168 c169 c170 c171 c172 c173 c174 c175 c176 c177 c178 c179
  have HKI : Hid (∀ W, Below W1.heap.size W1 W → IsB W ko key ∧ IsB W no nonce ∧ W.cell? ⟨w.heap.size, 35, none⟩ = some (.slice ko kn kc) ∧ W.cell? ⟨w.heap.size, 36, none⟩ = some (.slice no nb nc)) := fun W h => by
    have := hF.below C h
    exact ⟨hki W this.but, hni W this.but, (COR.out W this).1, (COR.out W this).2⟩
  have HKN : Hid (key.length = kn) := hkn
  have HNB : Hid (nonce.length = nb) := hnb
  have HK0 : Hid ((ko = none → kc = 0) ∧ kn ≤ kc) := hkk
  have HN0 : Hid ((no = none → nc = 0) ∧ nb ≤ nc) := hnn
  have e2 : (k == 2) = false := by simpa using h2
  have e3 : (k == 3) = false := by simpa using h3
  have e4 : (k == 4) = false := by simpa using h4
  clear hF C hao hnil hev hFg hFB hO0 hk hR hki hni CBR EV FIN HAO COR hO35 hO36 hkn hnb hkk hnn ckz lq
  go_enter Try.func10, Try.ntmps10
  refine wp_seq_k fun K hK => ?_
  have HKK : Hid _ := hK
  clear hK
  go_wp2_with fail
  refine HKK.out _ _ ?_
  clear HKK
  rw [← hW1]
  clear hW1
  refine wp_seq_k fun K hK => ?_
  have HKK : Hid _ := hK
  clear hK
  have c0 := CK.out _ P0.out
  go_wp2
  refine HKK.out _ _ ?_
  clear HKK c0
  refine wp_seq_k fun K hK => ?_
  have HKK : Hid _ := hK
  clear hK
  have hc := (HKI.out _ (Below.refl _ _)).2.2.1
  go_wp2_with (first
    | (at_builtin; refine wpList_append_more rfl (.const (.slice none 0 0)) (.tmp 112) rfl W1.heap.size W1 none 0 0 [] rfl rfl (own_nil _ _ (Nat.le_refl _)) (Below.refl _ _) ko kn kc key rfl HKN.out (HKI.out _ (Below.refl _ _)).1 HK0.out.1 (by omega) ?_; intro ao2 c2 w2 ho2 hb2; rw [List.nil_append, Nat.zero_add] at ho2; clear hc)
    | (at_builtin; refine wpList_append_one rfl (.tmp 113) (.tmp 114) rfl W1.heap.size 5 W1 (.slice ao2 kn c2) key 119#8 119 rfl w2.heap.size rfl rfl rfl ho2 hb2 kn HKN.out (by omega) ?_; intro gk ck w3 ho3 hb3))
  have OK3 : Hid (Own W1.heap.size w3 (.slice (some ⟨gk, 0, none⟩) (kn + 1) ck) (key ++ [119#8]) ∧ Below W1.heap.size W1 w3) := ⟨ho3, hb3⟩
  clear ho2 hb2 ho3 hb3
  refine HKK.out _ _ ?_
  clear HKK
  refine wp_seq_k fun K hK => ?_
  have HKK : Hid _ := hK
  clear hK
  have hc := (HKI.out _ OK3.out.2).2.2.2
  go_wp2_with (first
    | (at_builtin; refine wpList_append_more rfl (.const (.slice none 0 0)) (.tmp 117) rfl w3.heap.size w3 none 0 0 [] rfl rfl (own_nil _ _ (Nat.le_refl _)) (Below.refl _ _) no nb nc nonce rfl HNB.out (HKI.out _ OK3.out.2).2.1 HN0.out.1 (by omega) ?_; intro ao4 c4 w4 ho4 hb4; rw [List.nil_append, Nat.zero_add] at ho4; clear hc)
    | (at_builtin; refine wpList_append_one rfl (.tmp 118) (.tmp 119) rfl w3.heap.size 5 w3 (.slice ao4 nb c4) nonce 120#8 120 rfl w4.heap.size rfl rfl rfl ho4 hb4 nb HNB.out (by omega) ?_; intro gn cn w5 ho5 hb5))
  refine HKK.out _ _ ?_
  exact NX.out w5 gk ck gn cn (OK3.out.2.trans (hb5.mono OK3.out.2.size)) (OK3.out.1.keep hb5) (own_le ho5 OK3.out.2.size) _ _ _ _ _ _ _ _ _ _ _ _ _ _ _ _ _ _ _ _ _ _ _ _ _ _ _ _ _ _ _ _ _ _ _ _ _ _ _ _ _ _ _ _ _ _ _ _ _ _ _ _ _ _ _ _ _ _ _ _ _ _ _ _ _ _ _ _ _ _ _ _ _ _ _ _ _ _ _ _ _ _ _ _ _ _ _ _ _ _ _ _ _ _ _ _ _ _ _ _ _ _ _ _ _ _ _ _ _ _ _ _ _ _ _ _ _ _ _ _ _ _ _ _ _ _ _ _ _ _ _ _ _ _ _ _ _ _ _ _ _ _ _ _ _ _ _ _ _ _ _ _ _ _ _ _ _ _ _ _ _ _ _ _ _ _ _ _ _ _ _ _ _ _ _ _

/-- A step of the script, whatever its kind. -/
theorem step_any {Lg : (Nat → Prop) → World → Addr → List EvV → Prop} (C : Chn Lg) (F : Nat → Prop) (w : World) (g : Nat) (xs : List EvV) (hk : Bk Lg F w g xs) (k on : Int) (x : EvV) (hx : EvOk x)
    (ko : Option Addr) (kn kc : Nat) (key : List By) (hkn : key.length = kn) (hki : ∀ W, But F w W → IsB W ko key) (hkk : (ko = none → kc = 0) ∧ kn ≤ kc) (hkb : kn ≤ 140737488351232) (no : Option Addr) (nb nc : Nat) (nonce : List By) (hnb : nonce.length = nb) (hni : ∀ W, But F w W → IsB W no nonce) (hnn : (no = none → nc = 0) ∧ nb ≤ nc) (hbig : nb ≤ 140737488351232) :
    Calls Try.prog 10 #[.pointer (some ⟨g, 0, none⟩), .agg (opC k on x ko kn kc no nb nc).toArray] w (StP Lg F w g) := by
  by_cases h2 : k = 2
  · subst h2; exact step_add C F w g xs hk on x hx ko kn kc no nb nc
  by_cases h3 : k = 3
  · subst h3; exact step_reg C F w g xs hk on x ko kn kc no nb nc
  by_cases h4 : k = 4
  · subst h4; exact step_evs C F w g xs hk on x ko kn kc no nb nc
  exact step_quo C F w g xs hk k on h2 h3 h4 x hx ko kn kc key hkn hki hkk hkb no nb nc nonce hnb hni hnn hbig
end Go.Proofs.Ythegfkcegmeklaa
