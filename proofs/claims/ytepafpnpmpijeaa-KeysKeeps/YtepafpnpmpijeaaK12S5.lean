import Derived.Test.YtepafpnpmpijeaaK12S8

/-! KeysKeeps: the row of its own while it is made; what the rings keep. -/
namespace Go.Proofs.Ytepafpnpmpijeaa
open Go.RowKit
set_option linter.unusedVariables false

/-- The own row, when k secrets are in it. -/
structure O1 (N : Nat) (w wr : World) (O n : Nat) (l : Secs) (qs : List (Nat × Nat)) (k : Nat) : Prop where
  row : ∃ C : List Value, Row wr O 42 C ∧ C.length = (n + 2) * 2 ∧ (∀ i, i < k → C[i * 2]? = some (.int .i64 (l.getD i (0, [])).1)) ∧ (∀ (i : Nat) (p : Nat × Nat), qs[i]? = some p → C[i * 2 + 1]? = some (.slice (some ⟨p.1, 0, none⟩) (l.getD i (0, [])).2.length p.2)) ∧ ∀ i, k ≤ i → i < n + 2 → C[i * 2]? = some (.int .i64 0) ∧ C[i * 2 + 1]? = some (.slice none 0 0)
  len : qs.length = k
  own : ∀ (i : Nat) (p : Nat × Nat), qs[i]? = some p → Own N wr (.slice (some ⟨p.1, 0, none⟩) ((l.getD i (0, [])).2.length + 3) p.2) ((l.getD i (0, [])).2 ++ mk3)
  sep : ∀ (i j : Nat) (p p' : Nat × Nat), qs[i]? = some p → qs[j]? = some p' → p.1 = p'.1 → i = j
  bel : Below N w wr
  hO : N ≤ O ∧ O < wr.heap.size
  hq : ∀ (i : Nat) (p : Nat × Nat), qs[i]? = some p → p.1 ≠ O
def vqs (l : Secs) (qs : List (Nat × Nat)) : List Value := (List.range qs.length).map fun i => .slice (some ⟨(qs.getD i (0, 0)).1, 0, none⟩) (l.getD i (0, [])).2.length (qs.getD i (0, 0)).2
theorem vqs_at (l : Secs) {qs : List (Nat × Nat)} {i : Nat} {p : Nat × Nat} (h : qs[i]? = some p) : (vqs l qs).getD i undef = .slice (some ⟨p.1, 0, none⟩) (l.getD i (0, [])).2.length p.2 := by
  have hi := (List.getElem?_eq_some_iff.1 h).1
  have e : qs.getD i (0, 0) = p := by rw [List.getD_eq_getElem?_getD, h]; rfl
  unfold vqs
  rw [List.getD_eq_getElem?_getD, List.getElem?_map, List.getElem?_range hi]
  show Value.slice (some ⟨(qs.getD i (0, 0)).1, 0, none⟩) _ (qs.getD i (0, 0)).2 = _
  rw [e]
theorem O1.sec {N : Nat} {w wr : World} {O n : Nat} {l : Secs} {qs : List (Nat × Nat)} (h : O1 N w wr O n l qs n) (hl : l.length = n) : SecIn wr O 0 (vqs l qs) l := by
  obtain ⟨C, hr, hcl, hck, hcs, hz⟩ := h.row
  have hp : ∀ i, i < l.length → ∃ p, qs[i]? = some p := fun i hi => ⟨_, List.getElem?_eq_getElem (by rw [h.len]; omega)⟩
  refine ⟨fun i hi => ?_, fun i hi => ?_, fun i hi => ?_⟩
  · rw [Nat.zero_add]; exact hr.cell (i * 2) _ (hck i (by omega))
  · obtain ⟨p, hp⟩ := hp i hi
    rw [Nat.zero_add, vqs_at l hp]
    exact hr.cell (i * 2 + 1) _ (hcs i p hp)
  · obtain ⟨p, hp⟩ := hp i hi
    have ho := h.own i p hp
    refine ⟨_, _, vqs_at l hp, isB_pre (own_IsB ho), ?_, fun e => by cases e⟩
    have := own_cap ho
    omega
theorem O1.start {N : Nat} {w wr w6 : World} {O n : Nat} {l : Secs} {qs : List (Nat × Nat)} (h : O1 N w wr O n l qs n) (b6 : Below wr.heap.size wr w6) : O2 N wr.heap.size w6 w6 O n l qs 0 := by
  obtain ⟨C, hr, hcl, hck, hcs, hz⟩ := h.row
  refine ⟨⟨C, hr.below b6 hr.lt, hcl, fun i _ hi => hck i hi, hcs, (hz n (by omega) (by omega)).1, (hz n (by omega) (by omega)).2, (hz (n + 1) (by omega) (by omega)).1⟩, h.len, fun i p _ hp => (h.own i p hp).keep b6, h.sep, Below.refl _ _, h.hO, fun i p hp => ⟨(h.own i p hp).lt.1, (h.own i p hp).lt.2, h.hq i p hp⟩, b6.size, fun _ _ _ => rfl⟩
/-- A ring of the reference's whose blocks stay. -/
theorem RgO.stay {N : Nat} {w w' : World} {g : Nat} {ao : Option Addr} {cap : Nat} {vs : List Value} {l : Secs} (h : RgO N w g ao cap vs l) (hz : w.heap.size ≤ w'.heap.size) (hN : N ≤ w.heap.size) (hb : ∀ j, N ≤ j → j < w.heap.size → w'.heap[j]? = w.heap[j]?) : RgO N w' g ao cap vs l where
  row := (hb g h.ng h.row.lt).trans h.row
  ng := h.ng
  own := owns_blk h.own fun B e => hb B (h.own.lt B e).1 (h.own.lt B e).2
  len := h.len
  bytes i hi := by
    obtain ⟨bo, c, e, ho⟩ := h.bytes i hi
    exact ⟨bo, c, e, owns_blk ho.1 fun B e => hb B (ho.1.lt B e).1 (ho.1.lt B e).2, Nat.le_trans hN hz⟩
end Go.Proofs.Ytepafpnpmpijeaa


/-! KeysKeeps: both rings are made. (Printed by tools/genst5.py.) -/
namespace Go.Proofs.Ytepafpnpmpijeaa
open Go.RowKit
set_option linter.unusedVariables false

set_option maxHeartbeats 2000000 in
set_option maxRecDepth 1000000 in
theorem st5 (c2 c3 c4 c6 c7 c8 c9 c10 c11 c12 c13 c14 c15 c16 c17 c18 c19 c20 c21 c22 c23 c24 c25 c26 c27 c28 c29 c30 c31 c32 c33 c34 c35 c36 c37 c38 c39 c40 c41 c42 c43 c44 c45 c46 c47 c48 c49 c50 c51 c52 c53 c54 c55 c56 c57 c58 c59 c60 c61 c62 c63 c64 c65 c66 c67 c68 c69 c70 c71 c72 c73 c74 c75 c76 c77 c78 c79 c80 c81 c82 c83 c84 c85 c86 c87 c88 c89 c90 c91 c92 c93 c94 c95 c96 c97 c98 c99 c100 c101 c102 c103 c104 c105 c106 c107 c108 c109 c110 c111 c112 c113 c114 c115 c116 c117 c118 c119 c120 c121 c122 c123 c124 c125 c126 c127 c128 c129 c130 c131 c132 c133 c134 c135 c136 c137 c138 c139 c140 c141 c142 c143 c144 c145 c146 c147 c148 c149 c150 c151 c152 c153 c154 c155 c156 c157 c158 c159 c160 c161 c162 c163 c164 c165 c166 c167 c168 c169 c170 c171 c172 c173 c174 c175 c176 c177 c178 c179 c180 c181 c182 c183 c184 c185 c186 c187 c188 c189 c190 c191 c192 c193 c194 c195 c196 c197 c198 c199 c200 c201 c202 c203 c204 c205 c206 c207 c208 c209 c210 c211 c212 c213 c214 c215 c216 c217 c218 c219 c220 c221 c222 c223 c224 c225 c226 c227 c228 c229 c230 c231 c232 c233 c234 c235 c236 c237 c238 c239 c240 c241 c242 c243 c244 c245 c246 c247 c248 c249 c250 c251 c252 c253 c254 c255 c256 c257 c258 c259 c260 c261 c262 c263 c264 c265 c266 c267 c268 c269 c270 c271 c272 c273 c274 c275 c276 c277 c278 c279 c280 c281 c282 c283 c284 c285 c286 c287 c288 c289 c290 c291 c292 c293 c294 c295 c296 c297 c298 c299 c300 c301 c302 c303 c304 c305 : Value) (w Wa : World) (ao : Option Addr) (n cap : Nat) (B off : Nat) (vs : List Value) (l : Secs) (hln : l.length = n) (hn : n ≤ 70) (hao : 0 < n → ao = some ⟨B, off, none⟩) (hin : SecIn w B off vs l) (hbg : ∀ i, i < l.length → (l.getD i (0, [])).2.length ≤ 140737488351232)
    (qo : Option Addr) (m qc D dff : Nat) (xs : List AskV) (hm : xs.length = m) (hm47 : m ≤ 140737488355328) (hqo : 0 < m → qo = some ⟨D, dff, none⟩) (has : AskIn w D dff xs) (hbig : ∀ (i : Nat) (a : AskV), xs[i]? = some a → a.b.length ≤ 140737488351232)
    (O : Nat) (qs : List (Nat × Nat)) (hO : O1 w.heap.size w Wa O n l qs n) :
    Code.wp Try.prog (dropS 5 (Try.f6.body.getD .skip)) (bodyPost Try.prog Try.f6 (KP w)) ⟨#[.slice ao n cap, .slice qo m qc, c2, c3, c4, .slice (some ⟨O, 0, none⟩) n (n + 2), c6, c7, c8, c9, c10, c11, c12, c13, c14, c15, c16, c17, c18, c19, c20, c21, c22, c23, c24, c25, c26, c27, c28, c29, c30, c31, c32, c33, c34, c35, c36, c37, c38, c39, c40, c41, c42, c43, c44, c45, c46, c47, c48, c49, c50, c51, c52, c53, c54, c55, c56, c57, c58, c59, c60, c61, c62, c63, c64, c65, c66, c67, c68, c69, c70, c71, c72, c73, c74, c75, c76, c77, c78, c79, c80, c81, c82, c83, c84, c85, c86, c87, c88, c89, c90, c91, c92, c93, c94, c95, c96, c97, c98, c99, c100, c101, c102, c103, c104, c105, c106, c107, c108, c109, c110, c111, c112, c113, c114, c115, c116, c117, c118, c119, c120, c121, c122, c123, c124, c125, c126, c127, c128, c129, c130, c131, c132, c133, c134, c135, c136, c137, c138, c139, c140, c141, c142, c143, c144, c145, c146, c147, c148, c149, c150, c151, c152, c153, c154, c155, c156, c157, c158, c159, c160, c161, c162, c163, c164, c165, c166, c167, c168, c169, c170, c171, c172, c173, c174, c175, c176, c177, c178, c179, c180, c181, c182, c183, c184, c185, c186, c187, c188, c189, c190, c191, c192, c193, c194, c195, c196, c197, c198, c199, c200, c201, c202, c203, c204, c205, c206, c207, c208, c209, c210, c211, c212, c213, c214, c215, c216, c217, c218, c219, c220, c221, c222, c223, c224, c225, c226, c227, c228, c229, c230, c231, c232, c233, c234, c235, c236, c237, c238, c239, c240, c241, c242, c243, c244, c245, c246, c247, c248, c249, c250, c251, c252, c253, c254, c255, c256, c257, c258, c259, c260, c261, c262, c263, c264, c265, c266, c267, c268, c269, c270, c271, c272, c273, c274, c275, c276, c277, c278, c279, c280, c281, c282, c283, c284, c285, c286, c287, c288, c289, c290, c291, c292, c293, c294, c295, c296, c297, c298, c299, c300, c301, c302, c303, c304, c305], []⟩ Wa := by
  have HBW : Hid (Below w.heap.size w Wa) := hO.bel
  have C : Calls Try.prog 9 #[.slice (some ⟨O, 0, none⟩) n (n + 2)] Wa (CNewPost l Wa) := cnew_any Wa _ n (n + 2) O 0 _ l hln (fun _ => rfl) (hO.sec hln)
  have HO : Hid (O1 w.heap.size w Wa O n l qs n) := hO
  have HIN : Hid (∀ W', Below w.heap.size w W' → SecIn W' B off vs l) := fun W' h => hin.keep h
  have HAS : Hid (∀ W', Below w.heap.size w W' → AskIn W' D dff xs) := fun W' h => has.keep h
  have HAO : Hid (0 < n → ao = some ⟨B, off, none⟩) := hao
  have HLN : Hid (l.length = n) := hln
  have HBG : Hid (∀ i, i < l.length → (l.getD i (0, [])).2.length ≤ 140737488351232) := hbg
  have HBIG : Hid (∀ (i : Nat) (a : AskV), xs[i]? = some a → a.b.length ≤ 140737488351232) := hbig
  have HM : Hid (xs.length = m) := hm
  have HM47 : Hid (m ≤ 140737488355328) := hm47
  have HQO : Hid (0 < m → qo = some ⟨D, dff, none⟩) := hqo
  clear hO hin has hao hln hbg hbig hm hm47 hqo
  conv => arg 2; whnf
  refine wp_seq_k fun K hK => ?_
  have HKK : Hid _ := hK
  clear hK
  go_wp2_with fail
  refine C.mono ?_
  clear C
  rintro e w5 ⟨b5, h5⟩
  have HB5 : Hid (Below Wa.heap.size Wa w5) := b5
  have HW5 : Hid (Below w.heap.size w w5) := HBW.out.trans (b5.mono HBW.out.size)
  clear b5
  have R := rnew_any w5 ao n cap B off vs l HLN.out HAO.out (HIN.out _ HW5.out)
  rcases h5 with ⟨er, i, hne, rfl⟩ | ⟨hne, g, b, cs, rfl, hk⟩
  · have HE : Hid (newE l = some (er, i)) := hne
    clear hne
    go_wp2
    refine HKK.out _ _ ?_
    clear HKK
    refine wp_seq_k fun K hK => ?_
    have HKK : Hid _ := hK
    clear hK
    go_wp2_with fail
    refine R.mono ?_
    clear R
    rintro e w6 ⟨b6, h6⟩
    have HB6 : Hid (Below Wa.heap.size Wa w6) := HB5.out.trans (b6.mono HB5.out.size)
    have HW6 : Hid (Below w.heap.size w w6) := HW5.out.trans (b6.mono HW5.out.size)
    clear b6
    rcases h6 with ⟨er2, i2, hne2, rfl⟩ | ⟨hne2, _⟩
    rotate_left
    · rw [HE.out] at hne2; cases hne2
    rw [HE.out] at hne2
    injection hne2 with hne2
    injection hne2 with e1 e2
    subst e1 e2
    go_wp2
    refine HKK.out _ _ ?_
    clear HKK
    refine wp_seq_k fun K hK => ?_
    have HKK : Hid _ := hK
    clear hK
    go_wp2
    refine HKK.out _ _ ?_
    refine st8 _ _ _ _ _ _ _ _ _ _ _ _ _ _ _ _ _ _ _ _ _ _ _ _ _ _ _ _ _ _ _ _ _ _ _ _ _ _ _ _ _ _ _ _ _ _ _ _ _ _ _ _ _ _ _ _ _ _ _ _ _ _ _ _ _ _ _ _ _ _ _ _ _ _ _ _ _ _ _ _ _ _ _ _ _ _ _ _ _ _ _ _ _ _ _ _ _ _ _ _ _ _ _ _ _ _ _ _ _ _ _ _ _ _ _ _ _ _ _ _ _ _ _ _ _ _ _ _ _ _ _ _ _ _ _ _ _ _ _ _ _ _ _ _ _ _ _ _ _ _ _ _ _ _ _ _ _ _ _ _ _ _ _ _ _ _ _ _ _ _ _ _ _ _ _ _ _ _ _ _ _ _ _ _ _ _ _ _ _ _ _ _ _ _ _ _ _ _ _ _ _ _ _ _ _ _ _ _ _ _ _ _ _ _ _ _ _ _ _ _ _ _ _ _ _ _ _ _ _ _ _ _ _ _ _ _ _ _ _ _ _ _ _ _ _ _ _ _ _ _ _ _ _ _ _ _ _ _ _ _ _ _ _ _ _ _ _ _ _ _ _ _ _ _ _ _ _ _ _ _ _ _ _ _ _ _ _ _ _ _ _ _ _ _ _ _ _ _ _ _ _ _ _ _ ao n cap qo m qc w.heap.size Wa.heap.size w6 O l qs (HO.out.start HB6.out) B off vs HLN.out hn HAO.out (fun W' h => HIN.out W' (HW6.out.trans h)) HBG.out ?_
    intro wr hO2 c2 c3 c4 c6 c7 c8 c10 c11 c13 c14 c15 c16 c17 c18 c19 c20 c21 c22 c23 c24 c25 c26 c27 c28 c29 c30 c31 c32 c33 c34 c35 c36 c37 c38 c39 c40 c41 c42 c43 c44 c45 c46 c47 c48 c49 c50 c51 c52 c53 c54 c55 c56 c57 c58 c59 c60 c61 c62 c63 c64 c65 c66 c67 c68 c69 c70 c71 c72 c73 c74 c75 c76 c77 c78 c79 c80 c81 c82 c83 c84 c85 c86 c87 c88 c89 c90 c91 c92 c93 c94 c95 c96 c97 c98 c99 c100 c101 c102 c103 c104 c105 c106 c107 c108 c109 c110 c111 c112 c113 c114 c115 c116 c117 c118 c119 c120 c121 c122 c123 c124 c125 c126 c127 c128 c129 c130 c131 c132 c133 c134 c135 c136 c137 c138 c139 c140 c141 c142 c143 c144 c145 c146 c147 c148 c149 c150 c151 c152 c153 c154 c155 c156 c157 c158 c159 c160 c161 c162 c163 c164 c165 c166 c167 c168 c169 c170 c171 c172 c173 c174 c175 c176 c177 c178 c179 c180 c181 c182 c183 c184 c185 c186 c187 c188 c189 c190 c191 c192 c193 c194 c195 c196 c197 c198 c199 c200 c201 c202 c203 c204 c205 c206 c207 c208 c209 c210 c211 c212 c213 c214 c215 c216 c217 c218 c219 c220 c221 c222 c223 c224 c225 c226 c227 c228 c229 c230 c231 c232 c233 c234 c235 c236 c237 c238 c239 c240 c241 c242 c243 c244 c245 c246 c247 c248 c249 c250 c251 c252 c253 c254 c255 c256 c257 c258 c259 c260 c261 c262 c263 c264 c265 c266 c267 c268 c269 c270 c271 c272 c273 c274 c275 c276 c277 c278 c279 c280 c281 c282 c283 c284 c285 c286 c287 c288 c289 c290 c291 c292 c293 c294 c295 c296 c297 c298 c299 c300 c301 c302 c303 c304 c305
    obtain ⟨CC, hr, _, _, _, hz0, hz1, hz2⟩ := hO2.row
    exact st9n _ _ _ _ _ _ _ _ _ _ _ _ _ _ _ _ _ _ _ _ _ _ _ _ _ _ _ _ _ _ _ _ _ _ _ _ _ _ _ _ _ _ _ _ _ _ _ _ _ _ _ _ _ _ _ _ _ _ _ _ _ _ _ _ _ _ _ _ _ _ _ _ _ _ _ _ _ _ _ _ _ _ _ _ _ _ _ _ _ _ _ _ _ _ _ _ _ _ _ _ _ _ _ _ _ _ _ _ _ _ _ _ _ _ _ _ _ _ _ _ _ _ _ _ _ _ _ _ _ _ _ _ _ _ _ _ _ _ _ _ _ _ _ _ _ _ _ _ _ _ _ _ _ _ _ _ _ _ _ _ _ _ _ _ _ _ _ _ _ _ _ _ _ _ _ _ _ _ _ _ _ _ _ _ _ _ _ _ _ _ _ _ _ _ _ _ _ _ _ _ _ _ _ _ _ _ _ _ _ _ _ _ _ _ _ _ _ _ _ _ _ _ _ _ _ _ _ _ _ _ _ _ _ _ _ _ _ _ _ _ _ _ _ _ _ _ _ _ _ _ _ _ _ _ _ _ _ _ _ _ _ _ _ _ _ _ _ _ _ _ _ _ _ _ _ _ _ _ _ _ _ _ _ _ _ _ _ _ _ _ _ _ _ _ _ _ _ _ _ _ _ _ w wr (HW6.out.trans hO2.bel) ao n cap qo m qc O hn (hr.cell _ _ hz0) (hr.cell _ _ hz1) (hr.cell _ _ hz2)
  · have HE : Hid (newE l = none) := hne
    have HK : Hid (KgO Wa.heap.size w5.heap.size w5 g b cs l) := hk
    clear hne hk
    go_wp2
    refine HKK.out _ _ ?_
    clear HKK
    refine wp_seq_k fun K hK => ?_
    have HKK : Hid _ := hK
    clear hK
    go_wp2_with fail
    refine R.mono ?_
    clear R
    rintro e w6 ⟨b6, h6⟩
    have HB6 : Hid (Below Wa.heap.size Wa w6) := HB5.out.trans (b6.mono HB5.out.size)
    have HW6 : Hid (Below w.heap.size w w6) := HW5.out.trans (b6.mono HW5.out.size)
    have HK6 : Hid (KgO Wa.heap.size w5.heap.size w6 g b cs l) := HK.out.below b6
    have HZ6 : Hid (w5.heap.size ≤ w6.heap.size) := b6.size
    clear b6
    rcases h6 with ⟨er2, i2, hne2, _⟩ | ⟨_, ao2, cap2, vs2, rfl, hr⟩
    · rw [HE.out] at hne2; cases hne2
    have HR : Hid (RgO w5.heap.size w6 w5.heap.size ao2 cap2 vs2 l) := hr
    clear hr
    go_wp2
    refine HKK.out _ _ ?_
    clear HKK
    refine wp_seq_k fun K hK => ?_
    have HKK : Hid _ := hK
    clear hK
    go_wp2
    refine HKK.out _ _ ?_
    refine st8 _ _ _ _ _ _ _ _ _ _ _ _ _ _ _ _ _ _ _ _ _ _ _ _ _ _ _ _ _ _ _ _ _ _ _ _ _ _ _ _ _ _ _ _ _ _ _ _ _ _ _ _ _ _ _ _ _ _ _ _ _ _ _ _ _ _ _ _ _ _ _ _ _ _ _ _ _ _ _ _ _ _ _ _ _ _ _ _ _ _ _ _ _ _ _ _ _ _ _ _ _ _ _ _ _ _ _ _ _ _ _ _ _ _ _ _ _ _ _ _ _ _ _ _ _ _ _ _ _ _ _ _ _ _ _ _ _ _ _ _ _ _ _ _ _ _ _ _ _ _ _ _ _ _ _ _ _ _ _ _ _ _ _ _ _ _ _ _ _ _ _ _ _ _ _ _ _ _ _ _ _ _ _ _ _ _ _ _ _ _ _ _ _ _ _ _ _ _ _ _ _ _ _ _ _ _ _ _ _ _ _ _ _ _ _ _ _ _ _ _ _ _ _ _ _ _ _ _ _ _ _ _ _ _ _ _ _ _ _ _ _ _ _ _ _ _ _ _ _ _ _ _ _ _ _ _ _ _ _ _ _ _ _ _ _ _ _ _ _ _ _ _ _ _ _ _ _ _ _ _ _ _ _ _ _ _ _ _ _ _ _ _ _ _ _ _ _ _ _ _ _ _ _ _ ao n cap qo m qc w.heap.size Wa.heap.size w6 O l qs (HO.out.start HB6.out) B off vs HLN.out hn HAO.out (fun W' h => HIN.out W' (HW6.out.trans h)) HBG.out ?_
    intro wr hO2 c2 c3 c4 c6 c7 c8 c10 c11 c13 c14 c15 c16 c17 c18 c19 c20 c21 c22 c23 c24 c25 c26 c27 c28 c29 c30 c31 c32 c33 c34 c35 c36 c37 c38 c39 c40 c41 c42 c43 c44 c45 c46 c47 c48 c49 c50 c51 c52 c53 c54 c55 c56 c57 c58 c59 c60 c61 c62 c63 c64 c65 c66 c67 c68 c69 c70 c71 c72 c73 c74 c75 c76 c77 c78 c79 c80 c81 c82 c83 c84 c85 c86 c87 c88 c89 c90 c91 c92 c93 c94 c95 c96 c97 c98 c99 c100 c101 c102 c103 c104 c105 c106 c107 c108 c109 c110 c111 c112 c113 c114 c115 c116 c117 c118 c119 c120 c121 c122 c123 c124 c125 c126 c127 c128 c129 c130 c131 c132 c133 c134 c135 c136 c137 c138 c139 c140 c141 c142 c143 c144 c145 c146 c147 c148 c149 c150 c151 c152 c153 c154 c155 c156 c157 c158 c159 c160 c161 c162 c163 c164 c165 c166 c167 c168 c169 c170 c171 c172 c173 c174 c175 c176 c177 c178 c179 c180 c181 c182 c183 c184 c185 c186 c187 c188 c189 c190 c191 c192 c193 c194 c195 c196 c197 c198 c199 c200 c201 c202 c203 c204 c205 c206 c207 c208 c209 c210 c211 c212 c213 c214 c215 c216 c217 c218 c219 c220 c221 c222 c223 c224 c225 c226 c227 c228 c229 c230 c231 c232 c233 c234 c235 c236 c237 c238 c239 c240 c241 c242 c243 c244 c245 c246 c247 c248 c249 c250 c251 c252 c253 c254 c255 c256 c257 c258 c259 c260 c261 c262 c263 c264 c265 c266 c267 c268 c269 c270 c271 c272 c273 c274 c275 c276 c277 c278 c279 c280 c281 c282 c283 c284 c285 c286 c287 c288 c289 c290 c291 c292 c293 c294 c295 c296 c297 c298 c299 c300 c301 c302 c303 c304 c305
    obtain ⟨CC, hr, _, _, _, hz0, hz1, hz2⟩ := hO2.row
    have hsz := hO2.bel.size
    have kr : KgO Wa.heap.size w5.heap.size wr g b cs l := HK6.out.keep hsz fun j h1 h2 => hO2.mid j h1 (Nat.lt_of_lt_of_le h2 HZ6.out)
    have rr : RgO w5.heap.size wr w5.heap.size ao2 cap2 vs2 l := HR.out.stay hsz HZ6.out fun j h1 h2 => hO2.mid j (Nat.le_trans HB5.out.size h1) h2
    have br : Below w.heap.size w wr := HW6.out.trans hO2.bel
    exact st9s _ _ _ _ _ _ _ _ _ _ _ _ _ _ _ _ _ _ _ _ _ _ _ _ _ _ _ _ _ _ _ _ _ _ _ _ _ _ _ _ _ _ _ _ _ _ _ _ _ _ _ _ _ _ _ _ _ _ _ _ _ _ _ _ _ _ _ _ _ _ _ _ _ _ _ _ _ _ _ _ _ _ _ _ _ _ _ _ _ _ _ _ _ _ _ _ _ _ _ _ _ _ _ _ _ _ _ _ _ _ _ _ _ _ _ _ _ _ _ _ _ _ _ _ _ _ _ _ _ _ _ _ _ _ _ _ _ _ _ _ _ _ _ _ _ _ _ _ _ _ _ _ _ _ _ _ _ _ _ _ _ _ _ _ _ _ _ _ _ _ _ _ _ _ _ _ _ _ _ _ _ _ _ _ _ _ _ _ _ _ _ _ _ _ _ _ _ _ _ _ _ _ _ _ _ _ _ _ _ _ _ _ _ _ _ _ _ _ _ _ _ _ _ _ _ _ _ _ _ _ _ _ _ _ _ _ _ _ _ _ _ _ _ _ _ _ _ _ _ _ _ _ _ _ _ _ _ _ _ _ _ _ _ _ _ _ _ _ _ _ _ _ _ _ _ _ _ _ _ _ _ _ _ _ _ _ _ _ _ _ _ _ _ _ _ _ _ _ _ _ _ w wr wr.heap.size (fun W' h => br.trans (h.mono br.size)) ao n cap (fun W' h => kr.below h) (fun W' h => (rr.keep h).to) (newE_none HE.out).1 (newE_256 HE.out) qo m qc D dff xs HM.out HM47.out HQO.out (fun W' h => HAS.out W' (br.trans (h.mono br.size))) HBIG.out rfl O hn (hr.cell _ _ hz0) (hr.cell _ _ hz1) (hr.cell _ _ hz2)

end Go.Proofs.Ytepafpnpmpijeaa
