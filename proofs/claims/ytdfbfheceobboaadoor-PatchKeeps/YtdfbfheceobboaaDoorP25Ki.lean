
import Derived.Test.YtdfbfheceobboaaDoorP25Kh
/-! PatchKeeps: from its beginning. (Printed by tools/genk25.py.) -/
namespace Go.Proofs.YtdfbfheceobboaaDoor
open Go.RowKit
set_option linter.unusedVariables false
set_option linter.unusedSimpArgs false
set_option maxRecDepth 100000

section
variable {M A J : List By → List By → List By}
set_option maxHeartbeats 16000000 in
theorem keeps25_any (O : PchO M A J) (w : World) (a b c d : List By) (ao bo co qo : Option Addr) (ac bc cc qc : Nat) (FX : ∀ W, Below w.heap.size w W → Calls Tryd.prog 9 #[] W fun e w' => e = .returned (.bool true) ∧ Below W.heap.size W w') (hr : R4In w a b c d ao bo co qo ac bc cc qc) :
    Calls Tryd.prog 3 #[.agg #[.slice ao a.length ac, .slice bo b.length bc, .slice co c.length cc, .slice qo d.length qc]] w fun e w' => e = .returned (.bool true) ∧ Below w.heap.size w w' := by
  have NXT : Hid (∀ c0 c1 c2 c11 c12 c13 c14 c15 c16 c18 c19 c20 c21 c22 c23 c24 c25 c26 c27 c28 c29 c30 c31 c32 c33 c34 c35 c36 c37 c38 c39 c40 c41 c42 c43 c44 c45 c46 c47 c48 c49 c50 c51 c52 c53 c54 c55 c56 c57 c58 c59 c60 c61 c62 c63 c64 c65 c66 c67 c68 c69 c70 c71 c72 c73 c74 c75 c76 c77 c78 c79 c80 c81 c82 c83 c84 c85 c86 c87 c88 c89 c90 c91 c92 c93 c94 c95 c96 c97 c98 c99 c100 c101 c102 c103 c104 c105 c106 c107 c108 c109 c110 c111 c112 c113 c114 c115 c116 c117 c118 c119 c120 c121 c122 c123 c124 c125 c126 c127 c128 c129 c130 c131 c132 c133 c134 c135 c136 c137 c138 c139 c140 c141 c142 c143 c144 c145 c146 c147 c148 c149 c150 c151 c152 c153 c154 c155 c156 c157 c158 c159 c160 c161 c162 c163 c164 c165 c166 c167 c168 c169 c170 c171 c172 c173 c174 c175 c176 c177 c178 c179 c180 c181 c182 c183 c184 c185 c186 c187 c188 c189 c190 c191 c192 c193 c194 c195 c196 c197 c198 c199 c200 c201 c202 c203 c204 c205 c206 c207 c208 c209 c210 c211 c212 c213 c214 c215 c216 c217 c218 c219 c220 c221 c222 c223 c224 c225 c226 c227 c228 c229 c230 c231 c232 c233 c234 c235 c236 c237 c238 c239 c240 c241 c242 c243 c244 c245 c246 c247 c248 c249 c250 c251 c252 c253 c254 c255 c256 c257 c258 c259 c260 c261 c262 c263 c264 c265 c266 c267 c268 c269 c270 c271 c272 c273 c274 c275 c276 (Wa : World) (gw N1 ga gb gc gd ka kb kc kd : Nat), Below w.heap.size w Wa → (∀ k, k < 3 → Wa.cell? ⟨gw, k, none⟩ = some (.string (strOf (w3 (M a b) (A a c) (J c d) k)))) → N1 ≤ gw → N1 ≤ Wa.heap.size → Wid w.heap.size Wa ga a.length ka a → Wid w.heap.size Wa gb b.length kb b → Wid w.heap.size Wa gc c.length kc c → Wid w.heap.size Wa gd d.length kd d → ga < gb → gb < gc → gc < gd → gd < N1 →
    Code.wp Tryd.prog (dropS 7 (Tryd.f3.body.getD .skip)) (bodyPost Tryd.prog Tryd.f3 (KP25 w)) ⟨#[c0, c1, c2, .slice ao a.length ac, .slice bo b.length bc, .slice co c.length cc, .slice qo d.length qc, .slice (some ⟨ga, 0, none⟩) a.length ka, .slice (some ⟨gb, 0, none⟩) b.length kb, .slice (some ⟨gc, 0, none⟩) c.length kc, .slice (some ⟨gd, 0, none⟩) d.length kd, c11, c12, c13, c14, c15, c16, .slice (some ⟨gw, 0, none⟩) 3 3, c18, c19, c20, c21, c22, c23, c24, c25, c26, c27, c28, c29, c30, c31, c32, c33, c34, c35, c36, c37, c38, c39, c40, c41, c42, c43, c44, c45, c46, c47, c48, c49, c50, c51, c52, c53, c54, c55, c56, c57, c58, c59, c60, c61, c62, c63, c64, c65, c66, c67, c68, c69, c70, c71, c72, c73, c74, c75, c76, c77, c78, c79, c80, c81, c82, c83, c84, c85, c86, c87, c88, c89, c90, c91, c92, c93, c94, c95, c96, c97, c98, c99, c100, c101, c102, c103, c104, c105, c106, c107, c108, c109, c110, c111, c112, c113, c114, c115, c116, c117, c118, c119, c120, c121, c122, c123, c124, c125, c126, c127, c128, c129, c130, c131, c132, c133, c134, c135, c136, c137, c138, c139, c140, c141, c142, c143, c144, c145, c146, c147, c148, c149, c150, c151, c152, c153, c154, c155, c156, c157, c158, c159, c160, c161, c162, c163, c164, c165, c166, c167, c168, c169, c170, c171, c172, c173, c174, c175, c176, c177, c178, c179, c180, c181, c182, c183, c184, c185, c186, c187, c188, c189, c190, c191, c192, c193, c194, c195, c196, c197, c198, c199, c200, c201, c202, c203, c204, c205, c206, c207, c208, c209, c210, c211, c212, c213, c214, c215, c216, c217, c218, c219, c220, c221, c222, c223, c224, c225, c226, c227, c228, c229, c230, c231, c232, c233, c234, c235, c236, c237, c238, c239, c240, c241, c242, c243, c244, c245, c246, c247, c248, c249, c250, c251, c252, c253, c254, c255, c256, c257, c258, c259, c260, c261, c262, c263, c264, c265, c266, c267, c268, c269, c270, c271, c272, c273, c274, c275, c276], []⟩ Wa) := fun c0 c1 c2 c11 c12 c13 c14 c15 c16 c18 c19 c20 c21 c22 c23 c24 c25 c26 c27 c28 c29 c30 c31 c32 c33 c34 c35 c36 c37 c38 c39 c40 c41 c42 c43 c44 c45 c46 c47 c48 c49 c50 c51 c52 c53 c54 c55 c56 c57 c58 c59 c60 c61 c62 c63 c64 c65 c66 c67 c68 c69 c70 c71 c72 c73 c74 c75 c76 c77 c78 c79 c80 c81 c82 c83 c84 c85 c86 c87 c88 c89 c90 c91 c92 c93 c94 c95 c96 c97 c98 c99 c100 c101 c102 c103 c104 c105 c106 c107 c108 c109 c110 c111 c112 c113 c114 c115 c116 c117 c118 c119 c120 c121 c122 c123 c124 c125 c126 c127 c128 c129 c130 c131 c132 c133 c134 c135 c136 c137 c138 c139 c140 c141 c142 c143 c144 c145 c146 c147 c148 c149 c150 c151 c152 c153 c154 c155 c156 c157 c158 c159 c160 c161 c162 c163 c164 c165 c166 c167 c168 c169 c170 c171 c172 c173 c174 c175 c176 c177 c178 c179 c180 c181 c182 c183 c184 c185 c186 c187 c188 c189 c190 c191 c192 c193 c194 c195 c196 c197 c198 c199 c200 c201 c202 c203 c204 c205 c206 c207 c208 c209 c210 c211 c212 c213 c214 c215 c216 c217 c218 c219 c220 c221 c222 c223 c224 c225 c226 c227 c228 c229 c230 c231 c232 c233 c234 c235 c236 c237 c238 c239 c240 c241 c242 c243 c244 c245 c246 c247 c248 c249 c250 c251 c252 c253 c254 c255 c256 c257 c258 c259 c260 c261 c262 c263 c264 c265 c266 c267 c268 c269 c270 c271 c272 c273 c274 c275 c276 Wa gw N1 ga gb gc gd ka kb kc kd h1 h2 h3 h4 h5 h6 h7 h8 h9 h10 h11 h12 => kp7 c0 c1 c2 c11 c12 c13 c14 c15 c16 c18 c19 c20 c21 c22 c23 c24 c25 c26 c27 c28 c29 c30 c31 c32 c33 c34 c35 c36 c37 c38 c39 c40 c41 c42 c43 c44 c45 c46 c47 c48 c49 c50 c51 c52 c53 c54 c55 c56 c57 c58 c59 c60 c61 c62 c63 c64 c65 c66 c67 c68 c69 c70 c71 c72 c73 c74 c75 c76 c77 c78 c79 c80 c81 c82 c83 c84 c85 c86 c87 c88 c89 c90 c91 c92 c93 c94 c95 c96 c97 c98 c99 c100 c101 c102 c103 c104 c105 c106 c107 c108 c109 c110 c111 c112 c113 c114 c115 c116 c117 c118 c119 c120 c121 c122 c123 c124 c125 c126 c127 c128 c129 c130 c131 c132 c133 c134 c135 c136 c137 c138 c139 c140 c141 c142 c143 c144 c145 c146 c147 c148 c149 c150 c151 c152 c153 c154 c155 c156 c157 c158 c159 c160 c161 c162 c163 c164 c165 c166 c167 c168 c169 c170 c171 c172 c173 c174 c175 c176 c177 c178 c179 c180 c181 c182 c183 c184 c185 c186 c187 c188 c189 c190 c191 c192 c193 c194 c195 c196 c197 c198 c199 c200 c201 c202 c203 c204 c205 c206 c207 c208 c209 c210 c211 c212 c213 c214 c215 c216 c217 c218 c219 c220 c221 c222 c223 c224 c225 c226 c227 c228 c229 c230 c231 c232 c233 c234 c235 c236 c237 c238 c239 c240 c241 c242 c243 c244 c245 c246 c247 c248 c249 c250 c251 c252 c253 c254 c255 c256 c257 c258 c259 c260 c261 c262 c263 c264 c265 c266 c267 c268 c269 c270 c271 c272 c273 c274 c275 c276 O w Wa a b c d ao bo co qo ac bc cc qc gw FX h1 hr h2 N1 h3 h4 ga gb gc gd ka kb kc kd h5 h6 h7 h8 h9 h10 h11 h12
  obtain ⟨w1, hw1⟩ : ∃ w1, w1 = w.alloc (.cells #[.slice ao a.length ac, .slice bo b.length bc, .slice co c.length cc, .slice qo d.length qc] 24) := ⟨_, rfl⟩
  have r1 : Row w1 w.heap.size 24 [.slice ao a.length ac, .slice bo b.length bc, .slice co c.length cc, .slice qo d.length qc] := by rw [hw1]; exact Row.at w _ _ _ _ rfl rfl
  have b1 : Below w.heap.size w w1 := by rw [hw1]; exact (Below.refl _ _).alloc (Nat.le_refl _) _
  have B1 : Hid (∀ n, Below w.heap.size w (w1.drewN n)) := fun n => Below_dr b1 ⟨n, rfl⟩
  have x0 := r1.cell 0 _ rfl
  have x1 := r1.cell 1 _ rfl
  have x2 := r1.cell 2 _ rfl
  have x3 := r1.cell 3 _ rfl
  have KR : Hid (∀ W, Below w.heap.size w W → R4In W a b c d ao bo co qo ac bc cc qc) := fun W h => hr.keep h
  have HO : Hid (PchO M A J) := O
  clear r1 b1 hr O FX
  go_enter Tryd.func3, Tryd.ntmps3
  refine wp_seq_k fun K hK => ?_
  have HK : Hid _ := hK
  clear hK
  go_wp2
  refine HK.out _ _ ?_
  clear HK
  refine wp_at25k hw1 ?_
  clear hw1
  refine wp_seq_k fun K hK => ?_
  have HK : Hid _ := hK
  clear hK
  go_quiet (fail)
  generalize hw2 : w1.drewN _ = w2
  have B2 : Hid (Below w.heap.size w w2) := by rw [← hw2]; exact B1.out _
  clear hw2 B1 x0 x1 x2 x3
  go_wp2
  refine HK.out _ _ ?_
  clear HK
  refine wp_seq_k fun K hK => ?_
  have HK : Hid _ := hK
  clear hK
  go_wp2_with fail
  refine (wide25_any ao ac a w2 (KR.out w2 B2.out).a).mono ?_
  rintro e wx ⟨ga, ka, rfl, wa, hb3⟩
  have B3 : Hid (Below w.heap.size w wx) := B2.out.trans (hb3.mono B2.out.size)
  have s2 := B2.out.size
  have s3 := hb3.size
  have La : Hid (w2.heap.size ≤ ga ∧ ga < wx.heap.size) := wa.lies
  have WA : Hid (∀ W, Below wx.heap.size wx W → Wid w.heap.size W ga a.length ka a) := fun W h => ⟨(own_raise wa.own (fun B off e => Nat.le_trans s2 (wa.own.lies B off e).2.1) (Nat.le_trans s2 s3)).keep h, wa.len, wa.big⟩
  clear wa hb3 s2 s3
  dsimp only
  go_wp2_with fail
  refine (wide25_any bo bc b wx (KR.out wx B3.out).b).mono ?_
  rintro e w4 ⟨gb, kb, rfl, wb, hb4⟩
  have B4 : Hid (Below w.heap.size w w4) := B3.out.trans (hb4.mono B3.out.size)
  have s2 := B3.out.size
  have s3 := hb4.size
  have Lb : Hid (wx.heap.size ≤ gb ∧ gb < w4.heap.size) := wb.lies
  have WB : Hid (∀ W, Below w4.heap.size w4 W → Wid w.heap.size W ga a.length ka a ∧ Wid w.heap.size W gb b.length kb b) := fun W h => ⟨WA.out W (hb4.trans (h.mono hb4.size)), ⟨(own_raise wb.own (fun B off e => Nat.le_trans s2 (wb.own.lies B off e).2.1) (Nat.le_trans s2 s3)).keep h, wb.len, wb.big⟩⟩
  clear wb hb4 s2 s3 WA
  dsimp only
  go_wp2_with fail
  refine (wide25_any co cc c w4 (KR.out w4 B4.out).c).mono ?_
  rintro e w5 ⟨gc, kc, rfl, wc, hb5⟩
  have B5 : Hid (Below w.heap.size w w5) := B4.out.trans (hb5.mono B4.out.size)
  have s2 := B4.out.size
  have s3 := hb5.size
  have Lc : Hid (w4.heap.size ≤ gc ∧ gc < w5.heap.size) := wc.lies
  have WC : Hid (∀ W, Below w5.heap.size w5 W → (Wid w.heap.size W ga a.length ka a ∧ Wid w.heap.size W gb b.length kb b) ∧ Wid w.heap.size W gc c.length kc c) := fun W h => ⟨WB.out W (hb5.trans (h.mono hb5.size)), ⟨(own_raise wc.own (fun B off e => Nat.le_trans s2 (wc.own.lies B off e).2.1) (Nat.le_trans s2 s3)).keep h, wc.len, wc.big⟩⟩
  clear wc hb5 s2 s3 WB
  dsimp only
  go_wp2_with fail
  refine (wide25_any qo qc d w5 (KR.out w5 B5.out).q).mono ?_
  rintro e w6 ⟨gd, kd, rfl, wd, hb6⟩
  have B6 : Hid (Below w.heap.size w w6) := B5.out.trans (hb6.mono B5.out.size)
  have s2 := B5.out.size
  have s3 := hb6.size
  have Ld : Hid (w5.heap.size ≤ gd ∧ gd < w6.heap.size) := wd.lies
  have WD : Hid (∀ W, Below w6.heap.size w6 W → ((Wid w.heap.size W ga a.length ka a ∧ Wid w.heap.size W gb b.length kb b) ∧ Wid w.heap.size W gc c.length kc c) ∧ Wid w.heap.size W gd d.length kd d) := fun W h => ⟨WC.out W (hb6.trans (h.mono hb6.size)), ⟨(own_raise wd.own (fun B off e => Nat.le_trans s2 (wd.own.lies B off e).2.1) (Nat.le_trans s2 s3)).keep h, wd.len, wd.big⟩⟩
  clear wd hb6 s2 s3 WC
  dsimp only
  go_wp2
  refine HK.out _ _ ?_
  clear HK
  refine wp_seq_k fun K hK => ?_
  have HK : Hid _ := hK
  clear hK
  go_wp2_with fail
  refine (HO.out.make w6 ao ac a bo bc b (KR.out w6 B6.out).a (KR.out w6 B6.out).b).mono ?_
  rintro e w7 ⟨hb7, xo, xc, v7, rfl, o7⟩
  have B7 : Hid (Below w6.heap.size w6 w7) := hb7
  have X7 : Hid (∀ W, Below w7.heap.size w7 W → IsB W xo (M a b)) := fun W h => (own_IsB o7).below h (Nat.le_refl _)
  clear hb7 o7
  dsimp only
  go_wp2
  refine HK.out _ _ ?_
  clear HK
  have C7 : Hid (Below w.heap.size w w7) := B6.out.trans (B7.out.mono B6.out.size)
  refine wp_seq_k fun K hK => ?_
  have HK : Hid _ := hK
  clear hK
  go_wp2_with fail
  refine (HO.out.apply w7 ao ac a co cc c (KR.out w7 C7.out).a (KR.out w7 C7.out).c).mono ?_
  rintro e w8 ⟨hb8, yo, yc, v8, rfl, o8⟩
  have B8' : Hid (Below w6.heap.size w6 w8) := B7.out.trans (hb8.mono B7.out.size)
  have X8 : Hid (∀ W, Below w8.heap.size w8 W → IsB W xo (M a b) ∧ IsB W yo (A a c)) := fun W h => ⟨X7.out W (hb8.trans (h.mono hb8.size)), (own_IsB o8).below h (Nat.le_refl _)⟩
  clear hb8 o8 X7 B7 C7
  dsimp only
  go_wp2
  refine HK.out _ _ ?_
  clear HK
  have C8 : Hid (Below w.heap.size w w8) := B6.out.trans (B8'.out.mono B6.out.size)
  refine wp_seq_k fun K hK => ?_
  have HK : Hid _ := hK
  clear hK
  go_wp2_with fail
  refine (HO.out.join w8 co cc c qo qc d (KR.out w8 C8.out).c (KR.out w8 C8.out).q).mono ?_
  rintro e w9 ⟨hb9, zo, zc, v9, rfl, o9⟩
  have B9 : Hid (Below w6.heap.size w6 w9) := B8'.out.trans (hb9.mono B8'.out.size)
  have X9 : Hid ((IsB w9 xo (M a b) ∧ IsB w9 yo (A a c)) ∧ IsB w9 zo (J c d)) := ⟨X8.out w9 hb9, own_IsB o9⟩
  clear hb9 o9 X8 B8' C8
  dsimp only
  go_wp2
  refine HK.out _ _ ?_
  clear HK
  obtain ⟨WN, hWN⟩ : ∃ WN, WN = w9.alloc (.cells #[.string (strOf (M a b)), .string (strOf (A a c)), .string (strOf (J c d))] 9) := ⟨_, rfl⟩
  have al : Below w9.heap.size w9 WN := by rw [hWN]; exact (Below.refl _ _).alloc (Nat.le_refl _) _
  have rw9 : Row WN w9.heap.size 9 [.string (strOf (M a b)), .string (strOf (A a c)), .string (strOf (J c d))] := by rw [hWN]; exact Row.at _ _ _ _ _ rfl rfl
  have FIN : Hid (Below w.heap.size w WN ∧ (∀ k, k < 3 → WN.cell? ⟨w9.heap.size, k, none⟩ = some (.string (strOf (w3 (M a b) (A a c) (J c d) k)))) ∧ w6.heap.size ≤ w9.heap.size ∧ w6.heap.size ≤ WN.heap.size ∧ Below w6.heap.size w6 WN) := by
    have b6 : Below w6.heap.size w6 WN := B9.out.trans (al.mono B9.out.size)
    refine ⟨B6.out.trans (b6.mono B6.out.size), fun k hk => ?_, B9.out.size, b6.size, b6⟩
    rcases k with _ | _ | _ | k
    · exact rw9.cell 0 _ rfl
    · exact rw9.cell 1 _ rfl
    · exact rw9.cell 2 _ rfl
    · omega
  have cv1 := conv_bytes w9 xo (M a b).length xc (M a b) rfl X9.out.1.1
  have cv2 := conv_bytes w9 yo (A a c).length yc (A a c) rfl X9.out.1.2
  have cv3 := conv_bytes w9 zo (J c d).length zc (J c d) rfl X9.out.2
  clear al rw9 X9 B9
  refine wp_seq_k fun K hK => ?_
  have HK : Hid _ := hK
  clear hK
  go_wp2
  refine HK.out _ _ ?_
  clear HK
  refine wp_at25k hWN ?_
  obtain ⟨f1, f2, f3, f4, f5⟩ := FIN.out
  obtain ⟨⟨⟨u1, u2⟩, u3⟩, u4⟩ := WD.out WN f5
  exact NXT.out _ _ _ _ _ _ _ _ _ _ _ _ _ _ _ _ _ _ _ _ _ _ _ _ _ _ _ _ _ _ _ _ _ _ _ _ _ _ _ _ _ _ _ _ _ _ _ _ _ _ _ _ _ _ _ _ _ _ _ _ _ _ _ _ _ _ _ _ _ _ _ _ _ _ _ _ _ _ _ _ _ _ _ _ _ _ _ _ _ _ _ _ _ _ _ _ _ _ _ _ _ _ _ _ _ _ _ _ _ _ _ _ _ _ _ _ _ _ _ _ _ _ _ _ _ _ _ _ _ _ _ _ _ _ _ _ _ _ _ _ _ _ _ _ _ _ _ _ _ _ _ _ _ _ _ _ _ _ _ _ _ _ _ _ _ _ _ _ _ _ _ _ _ _ _ _ _ _ _ _ _ _ _ _ _ _ _ _ _ _ _ _ _ _ _ _ _ _ _ _ _ _ _ _ _ _ _ _ _ _ _ _ _ _ _ _ _ _ _ _ _ _ _ _ _ _ _ _ _ _ _ _ _ _ _ _ _ _ _ _ _ _ _ _ _ _ _ _ _ _ _ _ _ _ _ _ _ _ _ _ _ _ _ _ _ _ _ _ WN w9.heap.size w6.heap.size ga gb gc gd ka kb kc kd f1 f2 f3 f4 u1 u2 u3 u4 (by have := La.out; have := Lb.out; omega) (by have := Lb.out; have := Lc.out; omega) (by have := Lc.out; have := Ld.out; omega) Ld.out.2
end
end Go.Proofs.YtdfbfheceobboaaDoor
