
import Derived.Test.YtcpdanjbnijoiaaDoorL4Open2
/-! AreaWrites, from its beginning. (Printed by tools/genaw14.py.) -/
namespace Go.Proofs.YtcpdanjbnijoiaaDoor
open Go.RowKit
set_option linter.unusedVariables false
set_option maxRecDepth 1000000

def awS (c : Cfg) (t : St) (at_ : Int) (m : List By) : RS := { layS c t with wait := max (-1) at_, mask := m }
theorem awS_ar {c : Cfg} {t : St} (at_ : Int) (m : List By) (h : (layS c t).Ar) : (awS c t at_ m).Ar :=
  ⟨⟨h.ok.er, h.ok.pg, h.ok.bl, h.ok.cl, h.ok.c1, h.ok.c2, h.ok.by8⟩, h.may, h.pl⟩
theorem awS_good {c : Cfg} {t : St} (at_ : Int) (m : List By) (hat : at_ < 9223372036854775808) (hm : m.length ≤ 140737488351232) (h : (layS c t).Good) : (awS c t at_ m).Good :=
  ⟨h.n0, by show max (-1) at_ < 9223372036854775808; omega, h.ce, h.e0, hm, h.pos⟩
theorem isb_lt {w : World} {ao : Option Addr} {b : List By} (h : IsB w ao b) : b = [] ∨ ∀ B off, ao = some ⟨B, off, none⟩ → B < w.heap.size := by
  rcases h with e | ⟨B, off, rfl, hc⟩
  · exact .inl e
  · by_cases he : b = []
    · exact .inl he
    · refine .inr fun B' off' e => ?_
      injection e with e
      injection e with e1 e2
      subst e1
      obtain ⟨y, ys, rfl⟩ := List.exists_cons_of_ne_nil he
      exact World.block_lt_of_cell? _ _ (hc 0 y rfl)

set_option maxHeartbeats 4000000 in
theorem writes14_any (A : Are) (c : Cfg) (v : SV) (t : St) (w : World) (hg : HG w) (hin : StIn w v t) (a : Int) (bo : Option Addr) (n cap : Nat) (b : List By) (hbn : b.length = n) (hbi : IsB w bo b) (hb47 : n ≤ 140737488351232) (hcap : n ≤ cap) (hbo : bo = none → cap = 0)
    (at_ : Int) (hat : at_ < 9223372036854775808) (mo : Option Addr) (ml mc : Nat) (m : List By) (hmn : m.length = ml) (hmi : IsB w mo m) (hm47 : ml ≤ 140737488351232) (hmcap : ml ≤ mc) :
    Calls Tryd.prog 3 #[.agg c.vals.toArray, .agg (v.vals t).toArray, .int .i64 a, .slice bo n cap, .int .i64 at_, .slice mo ml mc] w (KP w) := by
  have z1 := hin.l1
  have z2 := hin.l2
  have z3 := hin.l3
  have z4 := hin.lp
  simp only [reachBytes] at z1 z2 z3 z4
  have hv := hin.view
  have h8 := hv.by8
  have HHG : Hid (HG w) := hg
  clear hg
  have HFX : Hid (∀ W, HG W → Calls Tryd.prog 4 #[] W fun e w' => e = .returned (.bool true) ∧ Below W.heap.size W w') := fun W hgW => l14fixed_any A W hgW
  have HCL : Hid (∀ W, Below w.heap.size w W → Calls Tryd.prog 5 #[.agg c.vals.toArray, .agg (v.vals t).toArray] W (CLayP (badK c) (c.may = 0 ∧ Fit c t) (layS c t) W)) := fun W hW =>
    (clay_any c v t W (hv.below hW (Nat.le_refl _)) (by omega) (by omega) (by omega) (fun p hp => by have := z4 p hp; omega)).mono fun e w' h => clayp h
  have HBK : Hid ((badK c != 0) = true) := by
    show _ = _
    rw [bne_iff_ne]; unfold badK; split
    · decide
    · assumption
  have HBI : Hid (∀ W, Below w.heap.size w W → IsB W bo b ∧ IsB W mo m ∧ StV W v t) := fun W hW => ⟨hbi.below hW (Nat.le_refl _), hmi.below hW (Nat.le_refl _), hv.below hW (Nat.le_refl _)⟩
  have HBL := isb_lt hbi
  have HML := isb_lt hmi
  have HCU : Hid (∀ (F : RF) (S : ByteArray) (W : World), Below w.heap.size w W → CAt W F (layS c t) S → (∀ B ∈ F.blocks, w.heap.size ≤ B) → Calls Tryd.prog 6 #[.pointer (some ⟨F.g, 0, none⟩), .int .i64 at_, .slice mo ml mc] W fun e w' => e = .returned (.tuple #[]) ∧ (∃ S', CAt w' F (awS c t at_ m) S') ∧ SameBut F.g W w') := fun F S W hW ca hF =>
    ccut_any F (layS c t) S at_ mo ml mc m hmn W ca (HBI.out W hW).2.1 (by
      rcases HML with e | e
      · exact .inl e
      · exact .inr fun B off h1 h2 => by
          have := e B off h1
          have := hF F.g (by simp [RF.blocks])
          omega) hmcap (by omega) hat
  have HWR : Hid ((c.may = 0 ∧ Fit c t) → ∀ (F : RF) (S : ByteArray) (W : World), Below w.heap.size w W → CAt W F (awS c t at_ m) S → (∀ B ∈ F.blocks, w.heap.size ≤ B) → Calls Tryd.prog 7 #[.pointer (some ⟨F.g, 0, none⟩), .int .i64 a, .slice bo n cap] W (CPost F ((awS c t at_ m).awrite a b).1 ((awS c t at_ m).awrite a b).2 W)) := fun hok F S W hW ca hF =>
    A.write F (awS c t at_ m) S a bo n cap b W hbn (by omega) hcap hbo ca (awS_ar at_ m (lay_ar hok.1 hok.2 h8)) (awS_good at_ m hat (by omega) (lay_good hok.1 hok.2)) (by show (0 : Int) < _; omega) (HBI.out W hW).1 (by
      rcases HBL with e | e
      · exact .inl e
      · exact .inr fun B off h1 h2 => by
          have := e B off h1
          have := hF B h2
          omega)
  have HWT : Hid ((c.may = 0 ∧ Fit c t) → Wrt (awS c t at_ m) ((awS c t at_ m).awrite a b).1 a b ((awS c t at_ m).awrite a b).2) := fun hok => awrite_wrt _ (awS_ar at_ m (lay_ar hok.1 hok.2 h8)) rfl rfl a b
  have HAR : Hid (c.may = 0 → 0 ≤ c.area ∧ c.area ≤ 64) := fun h => (may_parts h).2.2.2.2
  have HST : Hid (∀ (F : RF) (s : RS) (S : ByteArray) (W : World), CAt W F s S → Calls Tryd.prog 8 #[.pointer (some ⟨F.g, 0, none⟩)] W (AgainPost s.st W)) := fun F s S W ca => cstate_any F s S W ca
  clear hin hv h8 z1 z2 z3 z4 hbi hmi HBL HML hbo hcap hb47 hat hmcap hm47 hmn
  generalize badK c = BK at *
  obtain ⟨OK, hOK⟩ : ∃ OK : Prop, OK = (c.may = 0 ∧ Fit c t) := ⟨_, rfl⟩
  have HO : Hid (OK → c.may = 0) := fun h => by rw [hOK] at h; exact h.1
  rw [← hOK] at HCL HWR HWT
  clear hOK
  obtain ⟨s0, hs0⟩ : ∃ s, s = awS c t at_ m := ⟨_, rfl⟩
  rw [← hs0] at HCU HWR HWT
  obtain ⟨s1, hs1⟩ : ∃ s, s = (s0.awrite a b).1 := ⟨_, rfl⟩
  rw [← hs1] at HWR HWT
  obtain ⟨f, hf⟩ : ∃ f, f = (s0.awrite a b).2 := ⟨_, rfl⟩
  rw [← hf] at HWR HWT
  have HS0 : Hid (s0.st = t ∧ s0.c = c) := by rw [hs0]; exact ⟨rfl, rfl⟩
  clear hs0 hs1 hf
  generalize layS c t = sL at *
  have HNX : Hid (OK → ∀ (g6 g7 g17 : Nat) (G : RF) (S : ByteArray) (v1 : SV) (W' : World), WW w c v v1 t s1 G S bo b g6 g7 g17 W' → ∀ (c0 c1 c4 c5 c8 c9 c10 c11 c12 c13 c15 c18 c19 c20 c21 c22 c23 c24 c25 c26 c27 c28 c29 c30 c31 c32 c33 c34 c35 c36 c37 c38 c39 c40 c41 c42 c43 c44 c45 c46 c47 c48 c49 c50 c51 c52 c53 c54 c55 c56 c57 c58 c59 c60 c61 c62 c63 c64 c65 c66 c67 c68 c69 c70 c71 c72 c73 c74 c75 c76 c77 c78 c79 c80 c81 c82 c83 c84 c85 c86 c87 c88 c89 c90 c91 c92 c93 c94 c95 c96 c97 c98 c99 c100 c101 c102 c103 c104 c105 c106 c107 c108 c109 c110 c111 c112 c113 c114 c115 c116 c117 c118 c119 c120 c121 c122 c123 c124 c125 c126 c127 c128 c129 c130 c131 c132 c133 c134 c135 c136 c137 c138 c139 c140 c141 c142 c143 c144 c145 c146 c147 c148 c149 c150 c151 c152 c153 c154 c155 c156 c157 c158 c159 c160 c161 c162 c163 c164 c165 c166 c167 c168 c169 c170 c171 c172 c173 c174 c175 c176 c177 c178 c179 c180 c181 c182 c183 c184 c185 c186 c187 c188 c189 c190 c191 c192 c193 c194 c195 c196 c197 c198 c199 c200 c201 c202 c203 c204 c205 c206 c207 c208 c209 c210 c211 c212 c213 c214 c215 c216 c217 c218 c219 c220 c221 c222 c223 c224 c225 c226 c227 c228 c229 c230 c231 c232 c233 c234 c235 c236 c237 c238 c239 c240 c241 c242 c243 c244 c245 c246 c247 c248 c249 c250 c251 c252 c253 c254 c255 c256 c257 c258 c259 c260 c261 c262 c263 c264 c265 c266 c267 c268 c269 c270 c271 c272 c273 c274 c275 c276 c277 c278 c279 c280 c281 c282 c283 c284 c285 c286 c287 c288 c289 c290 c291 c292 c293 c294 c295 c296 c297 c298 c299 c300 : Value), Code.wp Tryd.prog (dropS 8 (Tryd.f3.body.getD .skip)) (bodyPost Tryd.prog Tryd.f3 (KP w)) ⟨#[c0, c1, .int .i64 a, .slice bo n cap, c4, c5, .pointer (some ⟨g6, 0, none⟩), .pointer (some ⟨g7, 0, none⟩), c8, c9, c10, c11, c12, c13, .pointer (some ⟨G.g, 0, none⟩), c15, .int .i64 f, .pointer (some ⟨g17, 0, none⟩), c18, c19, c20, c21, c22, c23, c24, c25, c26, c27, c28, c29, c30, c31, c32, c33, c34, c35, c36, c37, c38, c39, c40, c41, c42, c43, c44, c45, c46, c47, c48, c49, c50, c51, c52, c53, c54, c55, c56, c57, c58, c59, c60, c61, c62, c63, c64, c65, c66, c67, c68, c69, c70, c71, c72, c73, c74, c75, c76, c77, c78, c79, c80, c81, c82, c83, c84, c85, c86, c87, c88, c89, c90, c91, c92, c93, c94, c95, c96, c97, c98, c99, c100, c101, c102, c103, c104, c105, c106, c107, c108, c109, c110, c111, c112, c113, c114, c115, c116, c117, c118, c119, c120, c121, c122, c123, c124, c125, c126, c127, c128, c129, c130, c131, c132, c133, c134, c135, c136, c137, c138, c139, c140, c141, c142, c143, c144, c145, c146, c147, c148, c149, c150, c151, c152, c153, c154, c155, c156, c157, c158, c159, c160, c161, c162, c163, c164, c165, c166, c167, c168, c169, c170, c171, c172, c173, c174, c175, c176, c177, c178, c179, c180, c181, c182, c183, c184, c185, c186, c187, c188, c189, c190, c191, c192, c193, c194, c195, c196, c197, c198, c199, c200, c201, c202, c203, c204, c205, c206, c207, c208, c209, c210, c211, c212, c213, c214, c215, c216, c217, c218, c219, c220, c221, c222, c223, c224, c225, c226, c227, c228, c229, c230, c231, c232, c233, c234, c235, c236, c237, c238, c239, c240, c241, c242, c243, c244, c245, c246, c247, c248, c249, c250, c251, c252, c253, c254, c255, c256, c257, c258, c259, c260, c261, c262, c263, c264, c265, c266, c267, c268, c269, c270, c271, c272, c273, c274, c275, c276, c277, c278, c279, c280, c281, c282, c283, c284, c285, c286, c287, c288, c289, c290, c291, c292, c293, c294, c295, c296, c297, c298, c299, c300], []⟩ W') := fun hok g6 g7 g17 G S v1 W' hW' c0 c1 c4 c5 c8 c9 c10 c11 c12 c13 c15 c18 c19 c20 c21 c22 c23 c24 c25 c26 c27 c28 c29 c30 c31 c32 c33 c34 c35 c36 c37 c38 c39 c40 c41 c42 c43 c44 c45 c46 c47 c48 c49 c50 c51 c52 c53 c54 c55 c56 c57 c58 c59 c60 c61 c62 c63 c64 c65 c66 c67 c68 c69 c70 c71 c72 c73 c74 c75 c76 c77 c78 c79 c80 c81 c82 c83 c84 c85 c86 c87 c88 c89 c90 c91 c92 c93 c94 c95 c96 c97 c98 c99 c100 c101 c102 c103 c104 c105 c106 c107 c108 c109 c110 c111 c112 c113 c114 c115 c116 c117 c118 c119 c120 c121 c122 c123 c124 c125 c126 c127 c128 c129 c130 c131 c132 c133 c134 c135 c136 c137 c138 c139 c140 c141 c142 c143 c144 c145 c146 c147 c148 c149 c150 c151 c152 c153 c154 c155 c156 c157 c158 c159 c160 c161 c162 c163 c164 c165 c166 c167 c168 c169 c170 c171 c172 c173 c174 c175 c176 c177 c178 c179 c180 c181 c182 c183 c184 c185 c186 c187 c188 c189 c190 c191 c192 c193 c194 c195 c196 c197 c198 c199 c200 c201 c202 c203 c204 c205 c206 c207 c208 c209 c210 c211 c212 c213 c214 c215 c216 c217 c218 c219 c220 c221 c222 c223 c224 c225 c226 c227 c228 c229 c230 c231 c232 c233 c234 c235 c236 c237 c238 c239 c240 c241 c242 c243 c244 c245 c246 c247 c248 c249 c250 c251 c252 c253 c254 c255 c256 c257 c258 c259 c260 c261 c262 c263 c264 c265 c266 c267 c268 c269 c270 c271 c272 c273 c274 c275 c276 c277 c278 c279 c280 c281 c282 c283 c284 c285 c286 c287 c288 c289 c290 c291 c292 c293 c294 c295 c296 c297 c298 c299 c300 => by
    have h1 := HWT.out hok
    obtain ⟨e1, e2⟩ := HS0.out
    have b1 := h1.bl
    have b2 := h1.pl
    have b3 := h1.pg
    have b4 := h1.fin
    rw [e1, e2] at b4
    rw [e2] at b3
    have q1 : t.blown = s0.blown := by rw [← e1]; rfl
    have q2 : t.pages = s0.pages := by rw [← e1]; rfl
    exact aw8 A c0 c1 c4 c5 c8 c9 c10 c11 c12 c13 c15 c18 c19 c20 c21 c22 c23 c24 c25 c26 c27 c28 c29 c30 c31 c32 c33 c34 c35 c36 c37 c38 c39 c40 c41 c42 c43 c44 c45 c46 c47 c48 c49 c50 c51 c52 c53 c54 c55 c56 c57 c58 c59 c60 c61 c62 c63 c64 c65 c66 c67 c68 c69 c70 c71 c72 c73 c74 c75 c76 c77 c78 c79 c80 c81 c82 c83 c84 c85 c86 c87 c88 c89 c90 c91 c92 c93 c94 c95 c96 c97 c98 c99 c100 c101 c102 c103 c104 c105 c106 c107 c108 c109 c110 c111 c112 c113 c114 c115 c116 c117 c118 c119 c120 c121 c122 c123 c124 c125 c126 c127 c128 c129 c130 c131 c132 c133 c134 c135 c136 c137 c138 c139 c140 c141 c142 c143 c144 c145 c146 c147 c148 c149 c150 c151 c152 c153 c154 c155 c156 c157 c158 c159 c160 c161 c162 c163 c164 c165 c166 c167 c168 c169 c170 c171 c172 c173 c174 c175 c176 c177 c178 c179 c180 c181 c182 c183 c184 c185 c186 c187 c188 c189 c190 c191 c192 c193 c194 c195 c196 c197 c198 c199 c200 c201 c202 c203 c204 c205 c206 c207 c208 c209 c210 c211 c212 c213 c214 c215 c216 c217 c218 c219 c220 c221 c222 c223 c224 c225 c226 c227 c228 c229 c230 c231 c232 c233 c234 c235 c236 c237 c238 c239 c240 c241 c242 c243 c244 c245 c246 c247 c248 c249 c250 c251 c252 c253 c254 c255 c256 c257 c258 c259 c260 c261 c262 c263 c264 c265 c266 c267 c268 c269 c270 c271 c272 c273 c274 c275 c276 c277 c278 c279 c280 c281 c282 c283 c284 c285 c286 c287 c288 c289 c290 c291 c292 c293 c294 c295 c296 c297 c298 c299 c300 w W' hW' n cap hbn a f (q1.trans b1) (by rw [q2]; exact b2) (HAR.out (HO.out hok)) (by rw [q2]; exact b3) b4
  have HLN : Hid (OK → t.pages.length = s1.pages.length ∧ t.blown.length = s1.blown.length) := fun hok => by
    have h1 := HWT.out hok
    obtain ⟨e1, e2⟩ := HS0.out
    have q1 : t.blown = s0.blown := by rw [← e1]; rfl
    have q2 : t.pages = s0.pages := by rw [← e1]; rfl
    rw [q1, q2]
    exact ⟨h1.pl, by rw [h1.bl]⟩
  have HVV : Hid (∃ VC, VC = c.vals ∧ VC.length = 7) := ⟨_, rfl, rfl⟩
  obtain ⟨W0, hW0⟩ : ∃ W0, W0 = (w.alloc (.cells c.vals.toArray 23)).alloc (.cells (v.vals t).toArray 28) := ⟨_, rfl⟩
  have R0 : Hid (Row W0 w.heap.size 23 c.vals ∧ Row W0 (w.heap.size + 1) 28 (v.vals t) ∧ Below w.heap.size w W0) := by
    rw [hW0]
    exact ⟨(Row.at _ _ _ _ _ rfl rfl : Row (w.alloc _) _ _ _).alloc _, Row.at _ _ _ _ _ (by simp) rfl, ((Below.refl _ _).alloc (Nat.le_refl _) _).alloc (by simp) _⟩
  have hcl : c.vals.length = 7 := rfl
  have hvl : (v.vals t).length = 3 := rfl
  clear HWT HS0 HVV HAR HO
  go_enter Tryd.func3, Tryd.ntmps3
  refine wp_seq_k fun K hK => ?_
  have HKK : Hid _ := hK
  clear hK
  go_wp2
  rw [← hW0]
  clear hW0
  refine HKK.out _ _ ?_
  clear HKK
  refine wp_seq_k fun K hK => ?_
  have HKK : Hid _ := hK
  clear hK
  go_wp2_with fail
  refine (HFX.out _ (HHG.out.below R0.out.2.2 HHG.out.lt)).mono ?_
  rintro e w1 ⟨rfl, hb1⟩
  dsimp only
  have c1 : Row w1 w.heap.size 23 c.vals := R0.out.1.below hb1 R0.out.1.lt
  have s1' : Row w1 (w.heap.size + 1) 28 (v.vals t) := R0.out.2.1.below hb1 R0.out.2.1.lt
  have b1 : Below w.heap.size w w1 := R0.out.2.2.trans (hb1.mono R0.out.2.2.size)
  have HB1 : Hid (Below w.heap.size w w1) := b1
  clear R0 hb1 HFX b1 HHG
  go_wp2
  refine HKK.out _ _ ?_
  clear HKK
  refine wp_seq_k fun K hK => ?_
  have HKK : Hid _ := hK
  clear hK
  go_wp2_with (first
    | (refine wpList_load_Row rfl 23 _ rfl _ _ _ c1 rfl _ Tryd.underlying23 rfl (by rw [hcl]; kernel_rfl) ?_)
    | (refine wpList_load_Row rfl 28 _ rfl _ _ _ s1' rfl _ Tryd.underlying28 rfl (by rw [hvl]; kernel_rfl) ?_))
  refine (HCL.out _ HB1.out).mono ?_
  rintro e w2 ⟨hb2, hp1⟩
  have HR2 : Hid (Row w2 w.heap.size 23 c.vals ∧ Row w2 (w.heap.size + 1) 28 (v.vals t) ∧ Below w.heap.size w w2) := ⟨c1.below hb2 c1.lt, s1'.below hb2 s1'.lt, HB1.out.trans (hb2.mono HB1.out.size)⟩
  have hw1 : Hid (w.heap.size + 1 < w1.heap.size) := s1'.lt
  clear c1 s1' HCL hb2
  rcases hp1 with ⟨hno, rfl⟩ | ⟨hok, G, rfl, hG, hGb⟩
  · dsimp only
    clear HNX HWR HCU HLN
    have hbk := HBK.out
    go_wp2
    refine HKK.out _ _ ?_
    clear HKK
    refine wp_seq_k fun K hK => ?_
    have HKK : Hid _ := hK
    clear hK
    go_wp2
    go_ret
    exact ⟨rfl, HR2.out.2.2⟩
  · dsimp only
    have NX := HNX.out hok
    have HN8 : Hid _ := NX
    have HW6 := HWR.out hok
    have HWR6 : Hid _ := HW6
    have HL := HLN.out hok
    have HLL : Hid (t.pages.length = s1.pages.length ∧ t.blown.length = s1.blown.length) := HL
    have HGB : Hid (∀ B ∈ G.blocks, w1.heap.size ≤ B) := hGb
    have HGA : Hid (CAt w2 G sL ⟨#[]⟩) := hG
    clear HNX HWR HLN HW6 HL NX hGb hG
    go_wp2
    refine HKK.out _ _ ?_
    clear HKK
    refine wp_seq_k fun K hK => ?_
    have HKK : Hid _ := hK
    clear hK
    go_wp2
    refine HKK.out _ _ ?_
    clear HKK
    refine wp_seq_k fun K hK => ?_
    have HKK : Hid _ := hK
    clear hK
    have HC3 := HCU.out G _ w2 HR2.out.2.2 HGA.out (fun B hB => by have := HGB.out B hB; have := hw1.out; omega)
    go_wp2_with fail
    refine HC3.mono ?_
    clear HC3
    rintro e w3 ⟨rfl, ⟨S3, ca3⟩, sb3⟩
    dsimp only
    have hgg : w1.heap.size ≤ G.g := HGB.out G.g (by simp [RF.blocks])
    have HR3 : Hid (Row w3 w.heap.size 23 c.vals ∧ Row w3 (w.heap.size + 1) 28 (v.vals t) ∧ Below w.heap.size w w3) := ⟨HR2.out.1.but sb3 (by have := hw1.out; omega), HR2.out.2.1.but sb3 (by have := hw1.out; omega), sb3.below HR2.out.2.2 (by have := hw1.out; omega)⟩
    have HC4 : Hid (CAt w3 G s0 S3) := ca3
    clear HR2 HGA HCU ca3 sb3 hgg
    go_wp2
    refine HKK.out _ _ ?_
    clear HKK
    refine wp_seq_k fun K hK => ?_
    have HKK : Hid _ := hK
    clear hK
    have HC5 := HWR6.out G _ w3 HR3.out.2.2 HC4.out (fun B hB => by have := HGB.out B hB; have := hw1.out; omega)
    go_wp2_with fail
    refine HC5.mono ?_
    clear HC5
    rintro e w4 ⟨rfl, ⟨S4, ca4⟩, kl4⟩
    dsimp only
    have HR4 : Hid (Row w4 w.heap.size 23 c.vals ∧ Row w4 (w.heap.size + 1) 28 (v.vals t) ∧ Below w.heap.size w w4) := by
      have hk : ∀ g, g < w1.heap.size → g ∉ G.blocks := fun g hg hm => by have := HGB.out g hm; omega
      refine ⟨(kl4.block _ HR3.out.1.lt (hk _ (by have := hw1.out; omega))).trans HR3.out.1, (kl4.block _ HR3.out.2.1.lt (hk _ (by have := hw1.out; omega))).trans HR3.out.2.1, below_kept HR3.out.2.2 kl4 (fun B hB => ?_) HR3.out.2.2.size⟩
      have := HGB.out B hB
      have := hw1.out
      omega
    have HC4' : Hid (CAt w4 G s1 S4) := ca4
    clear HR3 HC4 HWR6 ca4 kl4
    go_wp2
    refine HKK.out _ _ ?_
    clear HKK
    refine wp_seq_k fun K hK => ?_
    have HKK : Hid _ := hK
    clear hK
    have HC6 := HST.out G s1 _ w4 HC4'.out
    go_wp2_with fail
    refine HC6.mono ?_
    clear HC6
    rintro e w5 ⟨pB, eB, bB, ps, rfl, ox, hb5⟩
    dsimp only
    have HR5 : Hid (Row w5 w.heap.size 23 c.vals ∧ Row w5 (w.heap.size + 1) 28 (v.vals t) ∧ Below w.heap.size w w5 ∧ CAt w5 G s1 S4 ∧ StV w5 ⟨some ⟨pB, 0, none⟩, s1.pages.length, some ⟨eB, 0, none⟩, s1.erases.length, some ⟨bB, 0, none⟩, s1.blown.length⟩ s1.st) := ⟨HR4.out.1.below hb5 HR4.out.1.lt, HR4.out.2.1.below hb5 HR4.out.2.1.lt, HR4.out.2.2.trans (hb5.mono HR4.out.2.2.size), HC4'.out.below hb5 (Nat.le_refl _), ox.view HC4'.out.ok.by8⟩
    clear HR4 HC4' hb5 ox HST
    obtain ⟨OV, hOV⟩ : ∃ OV, OV = ownVals s1.st pB eB bB := ⟨_, rfl⟩
    have lo : OV.length = 3 := by rw [hOV]; rfl
    have HOO : Hid (OV = ownVals s1.st pB eB bB) := hOV
    have r9 := Row.at w5 28 [.slice none 0 0, .slice none 0 0, .slice none 0 0] _ _ rfl rfl
    have HB9 : Hid (Below w5.heap.size w5 (w5.alloc (.cells #[.slice none 0 0, .slice none 0 0, .slice none 0 0] 28))) := (Below.refl _ _).alloc (Nat.le_refl _) _
    rw [← hOV]
    clear hOV
    have H1C : Hid (∀ x ∈ OV, x.oneCell' = true) := by
      intro x hx
      rw [HOO.out] at hx
      simp [ownVals] at hx
      rcases hx with rfl | rfl | rfl <;> rfl
    obtain ⟨g17, hg17⟩ : ∃ g, w5.heap.size = g := ⟨_, rfl⟩
    rw [hg17] at r9
    go_wp2_with (refine wpList_store_Row rfl 28 _ _ rfl g17 28 0 [.slice none 0 0, .slice none 0 0, .slice none 0 0] OV r9 (by rw [lo]; exact Nat.le_refl _) (by rw [← hg17]; rfl) rfl (by rw [lo]; kernel_rfl) H1C.out ?_; intro w6 hr6 hs6)
    have r6 : Row w6 g17 28 OV := row_whole hr6 (by rw [lo]; exact Nat.le_refl _)
    have b6 : Below w5.heap.size w5 w6 := hs6.below HB9.out (by rw [hg17]; exact Nat.le_refl _)
    have r6' : Row w6 g17 28 (SV.vals ⟨some ⟨pB, 0, none⟩, s1.pages.length, some ⟨eB, 0, none⟩, s1.erases.length, some ⟨bB, 0, none⟩, s1.blown.length⟩ s1.st) := by rw [HOO.out] at r6; exact r6
    have HWW : Hid (WW w c v ⟨some ⟨pB, 0, none⟩, s1.pages.length, some ⟨eB, 0, none⟩, s1.erases.length, some ⟨bB, 0, none⟩, s1.blown.length⟩ t s1 G S4 bo b w.heap.size (w.heap.size + 1) g17 w6) := by
      obtain ⟨k1, k2, k3, k4, k5⟩ := HR5.out
      have k6 : Below w.heap.size w w6 := k3.trans (b6.mono k3.size)
      exact ⟨k6, k1.below b6 k1.lt, k2.below b6 k2.lt, r6', (HBI.out _ k6).2.2, k5.below b6 (Nat.le_refl _), k4.below b6 (Nat.le_refl _), (HBI.out _ k6).1⟩
    clear HR5 r6 r6' b6 hr6 hs6 HB9 r9 HOO H1C HBI
    clear hg17
    refine HKK.out _ _ ?_
    clear HKK
    refine wp_seq_k fun K hK => ?_
    have HKK : Hid _ := hK
    clear hK
    have x0 := HWW.out.r7.cell 0 (.slice v.po t.pages.length v.pc) rfl
    have x2 := HWW.out.r7.cell 2 (.slice v.bo t.blown.length v.bc) rfl
    have y0 := HWW.out.r17.cell 0 (.slice (some ⟨pB, 0, none⟩) s1.pages.length s1.pages.length) rfl
    have y2 := HWW.out.r17.cell 2 (.slice (some ⟨bB, 0, none⟩) s1.blown.length s1.blown.length) rfl
    rw [HLL.out.1] at x0
    rw [HLL.out.2] at x2
    have e1 : ((s1.pages.length : Int) != (s1.pages.length : Int)) = false := by simp
    have e2 : ((s1.blown.length : Int) != (s1.blown.length : Int)) = false := by simp
    go_wp2
    refine HKK.out _ _ ?_
    exact HN8.out _ _ _ _ _ _ _ HWW.out _ _ _ _ _ _ _ _ _ _ _ _ _ _ _ _ _ _ _ _ _ _ _ _ _ _ _ _ _ _ _ _ _ _ _ _ _ _ _ _ _ _ _ _ _ _ _ _ _ _ _ _ _ _ _ _ _ _ _ _ _ _ _ _ _ _ _ _ _ _ _ _ _ _ _ _ _ _ _ _ _ _ _ _ _ _ _ _ _ _ _ _ _ _ _ _ _ _ _ _ _ _ _ _ _ _ _ _ _ _ _ _ _ _ _ _ _ _ _ _ _ _ _ _ _ _ _ _ _ _ _ _ _ _ _ _ _ _ _ _ _ _ _ _ _ _ _ _ _ _ _ _ _ _ _ _ _ _ _ _ _ _ _ _ _ _ _ _ _ _ _ _ _ _ _ _ _ _ _ _ _ _ _ _ _ _ _ _ _ _ _ _ _ _ _ _ _ _ _ _ _ _ _ _ _ _ _ _ _ _ _ _ _ _ _ _ _ _ _ _ _ _ _ _ _ _ _ _ _ _ _ _ _ _ _ _ _ _ _ _ _ _ _ _ _ _ _ _ _ _ _ _ _ _ _ _ _ _ _ _ _ _ _ _ _ _ _ _ _ _ _ _ _ _ _ _ _ _ _ _ _ _ _ _ _ _ _ _ _ _ _ _ _ _
end Go.Proofs.YtcpdanjbnijoiaaDoor
