import Derived.Test.YtepafpnpmpijeaaK12S5
import Derived.ArgAppend

/-! KeysKeeps: the row of its own, made, and one secret more within its room. -/
namespace Go.Proofs.Ytepafpnpmpijeaa
open Go.RowKit
set_option linter.unusedVariables false

def z2 : Array Value := #[.int .i64 0, .slice none 0 0]
theorem made_at (m j : Nat) (hj : j < m) : (madeCells z2 m).toList[j]? = some (if j % 2 = 0 then .int .i64 0 else .slice none 0 0) := by
  unfold madeCells
  rw [Array.toList_map, List.getElem?_map, Array.toList_range, List.getElem?_range hj]
  show some (z2[j % 2]!) = _
  have h2 : j % 2 = 0 ∨ j % 2 = 1 := by omega
  rcases h2 with h | h <;> rw [h] <;> rfl
/-- make of secrets. -/
theorem wpList_make_sec {ops : Array Oper} {rest : List Oper} {o : Oper} {a : Act} {w : World} {Q : Exit → Act → World → Prop} (hg : o.guard = none) (l c : Operand) (hop : o.op = Op.makeSlice 23 l c)
    (m : Nat) (C : Int) (hl : a.eval l = .int .i64 0) (hc : a.eval c = .int .i64 C) (hC : C = (m : Int)) (hm : m ≤ 1000000)
    (hK : wpList Try.prog ops Q rest (a.put o.dst (.slice (some ⟨w.heap.size, 0, none⟩) 0 m)) (w.alloc (.cells (madeCells z2 (m * 2)) 42))) :
    wpList Try.prog ops Q (o :: rest) a w := by
  obtain ⟨i0, hi, hz0, hz1, hz2⟩ := info_parts el_secs.info
  refine wpList_plain hg fun K hK' => ?_
  subst hC
  have hrun := run_make (P := Try.prog) w 23 42 i0 (.agg #[.int .i64 0, .slice none 0 0]) Try.underlying23 hi hz0 .i64 .i64 (0 : Int) (m : Int) (by omega) (by omega) (by rw [hz2]; omega) (by omega)
  rw [hz1] at hrun
  unfold Oper.wp
  simp [execOp, hop, hl, hc, hrun, Result.andThen]
  exact hK' _ _ hK
/-- append within the room: what stands behind stays. -/
theorem wpList_append_exact {ops : Array Oper} {rest : List Oper} {o : Oper} {a : Act} {w : World} {Q : Exit → Act → World → Prop} (hgd : o.guard = none) (s x : Operand)
    (ho : o.op = .call { callee := .builtin .append, args := #[s, x], argTypes := #[23, 23] })
    (O k cap : Nat) (C : List Value) (hs : a.eval s = .slice (some ⟨O, 0, none⟩) k cap) (hr : Row w O 42 C) (hC : (k + 1) * 2 ≤ C.length) (hroom : k + 1 ≤ cap)
    (M : Nat) (v0 v1 : Value) (hx : a.eval x = .slice (some ⟨M, 0, none⟩) 1 1) (hM : Row w M 42 [v0, v1]) (h0 : v0.oneCell' = true) (h1 : v1.oneCell' = true)
    (h : ∀ w', Row w' O 42 (C.take (k * 2) ++ [v0, v1] ++ C.drop (k * 2 + 2)) → SameBut O w w' → wpList Try.prog ops Q rest (a.put o.dst (.slice (some ⟨O, 0, none⟩) (k + 1) cap)) w') : wpList Try.prog ops Q (o :: rest) a w := by
  obtain ⟨i0, hi, hz0, hz1, hz2⟩ := info_parts el_secs.info
  refine wpList_plain hgd fun K hK => ?_
  have hone : ∀ u ∈ [v0, v1], u.oneCell' = true := by
    intro u hu
    simp at hu
    rcases hu with rfl | rfl
    · exact h0
    · exact h1
  have hrun := run_append_room_cells (P := Try.prog) w 23 o.type 42 i0 Try.underlying23 hi O 0 k cap ⟨M, 0, none⟩ 1 1 [v0, v1] (by rw [hz1]; rfl) (fun j u hu => by rw [Addr.add_mid, Nat.zero_add]; exact hM.cell j u hu) hone hroom
    (fun j hj => by
      rw [hz1, Nat.zero_add]
      have hj2 : j < 2 := hj
      have hlt : k * 2 + j < C.length := by omega
      rw [hr.cell (k * 2 + j) _ (List.getElem?_eq_getElem hlt)]; rfl)
    (fun j hj => by rw [hz1, Nat.zero_add]; exact hr.frozen _)
  rw [hz1, Nat.zero_add] at hrun
  unfold Oper.wp execOp
  simp only [ho, resolve, invoke, builtin, Sem.run_bind, Sem.run_pure, Result.andThen_ok, List.map_toArray, List.map_cons, List.map_nil, hs, hx, hrun]
  exact hK _ _ (h _ (Row.setCells [v0, v1] (k * 2) w C hr (by simp; omega)) (SameBut.setCells O [v0, v1] (k * 2) w))
theorem O1.zero (N : Nat) (w W : World) (hb : Below N w W) (hN : N ≤ W.heap.size) (n : Nat) (l : Secs) : O1 N w (W.alloc (.cells (madeCells z2 ((n + 2) * 2)) 42)) W.heap.size n l [] 0 := by
  have hb2 : Below W.heap.size W (W.alloc (.cells (madeCells z2 ((n + 2) * 2)) 42)) := (Below.refl _ _).alloc (Nat.le_refl _) _
  refine ⟨⟨(madeCells z2 ((n + 2) * 2)).toList, Row.at W _ _ _ _ rfl (by simp), by rw [Array.length_toList, size_madeCells], fun i hi => absurd hi (by omega), fun i p hp => by simp at hp, fun i _ hi => ⟨?_, ?_⟩⟩, rfl, fun i p hp => by simp at hp, fun i j p p' hp => by simp at hp, hb.trans (hb2.mono hN), ⟨hN, by simp⟩, fun i p hp => by simp at hp⟩
  · rw [made_at _ _ (by omega), if_pos (by omega)]
  · rw [made_at _ _ (by omega), if_neg (by omega)]
theorem set2_at (C : List Value) (k : Nat) (v0 v1 : Value) (hC : (k + 1) * 2 ≤ C.length) (j : Nat) : (C.take (k * 2) ++ [v0, v1] ++ C.drop (k * 2 + 2))[j]? = if j = k * 2 then some v0 else if j = k * 2 + 1 then some v1 else C[j]? := by
  have hl : (C.take (k * 2)).length = k * 2 := by rw [List.length_take]; omega
  by_cases h1 : j < k * 2
  · rw [if_neg (by omega), if_neg (by omega), List.append_assoc, List.getElem?_append_left (by omega), List.getElem?_take, if_pos h1]
  · by_cases h2 : j = k * 2
    · subst h2
      rw [if_pos rfl, List.append_assoc, List.getElem?_append_right (by omega), hl, Nat.sub_self]; rfl
    · by_cases h3 : j = k * 2 + 1
      · subst h3
        rw [if_neg (by omega), if_pos rfl, List.append_assoc, List.getElem?_append_right (by omega), hl, Nat.add_sub_cancel_left]; rfl
      · rw [if_neg h2, if_neg h3, List.getElem?_append_right (by simp [hl]; omega)]
        simp only [List.length_append, hl, List.length_cons, List.length_nil, List.getElem?_drop]
        congr 1
        omega
/-- One secret more. -/
theorem O1.push {N : Nat} {w wr W2 w3 : World} {O n : Nat} {l : Secs} {qs : List (Nat × Nat)} {k : Nat} (h : O1 N w wr O n l qs k) (hk : k < n) (C : List Value) (hcl : C.length = (n + 2) * 2) (hck : ∀ i, i < k → C[i * 2]? = some (.int .i64 (l.getD i (0, [])).1)) (hcs : ∀ (i : Nat) (p : Nat × Nat), qs[i]? = some p → C[i * 2 + 1]? = some (.slice (some ⟨p.1, 0, none⟩) (l.getD i (0, [])).2.length p.2)) (hz : ∀ i, k ≤ i → i < n + 2 → C[i * 2]? = some (.int .i64 0) ∧ C[i * 2 + 1]? = some (.slice none 0 0))
    (b2 : Below wr.heap.size wr W2) (hN : N ≤ wr.heap.size) (q c : Nat) (ho : Own wr.heap.size W2 (.slice (some ⟨q, 0, none⟩) ((l.getD k (0, [])).2.length + 3) c) ((l.getD k (0, [])).2 ++ mk3)) (h3 : SameBut O W2 w3)
    (hr3 : Row w3 O 42 (C.take (k * 2) ++ [.int .i64 (l.getD k (0, [])).1, .slice (some ⟨q, 0, none⟩) (l.getD k (0, [])).2.length c] ++ C.drop (k * 2 + 2))) : O1 N w w3 O n l (qs ++ [(q, c)]) (k + 1) := by
  have hqO : q ≠ O := by
    have h1 := ho.lt.1
    have h2 := h.hO.2
    omega
  have hat := set2_at C k (.int .i64 (l.getD k (0, [])).1) (.slice (some ⟨q, 0, none⟩) (l.getD k (0, [])).2.length c) (by omega)
  have hlen := h.len
  have old : ∀ (i : Nat) (p : Nat × Nat), (qs ++ [(q, c)])[i]? = some p → (i < k ∧ qs[i]? = some p) ∨ (i = k ∧ p = (q, c)) := by
    intro i p hp
    rcases Nat.lt_or_ge i qs.length with h1 | h1
    · rw [List.getElem?_append_left h1] at hp
      exact .inl ⟨by omega, hp⟩
    · have h2 := (List.getElem?_eq_some_iff.1 hp).1
      simp at h2
      obtain rfl : i = qs.length := by omega
      simp at hp
      exact .inr ⟨hlen, hp.symm⟩
  refine ⟨⟨_, hr3, ?_, ?_, ?_, ?_⟩, ?_, ?_, ?_, ?_, ⟨h.hO.1, ?_⟩, ?_⟩
  · simp only [List.length_append, List.length_take, List.length_drop, List.length_cons, List.length_nil]; omega
  · intro i hi
    rw [hat]
    by_cases he : i = k
    · subst he; rw [if_pos rfl]
    · rw [if_neg (by omega), if_neg (by omega)]; exact hck i (by omega)
  · intro i p hp
    rw [hat]
    rcases old i p hp with ⟨h1, h2⟩ | ⟨rfl, rfl⟩
    · rw [if_neg (by omega), if_neg (by omega)]; exact hcs i p h2
    · rw [if_neg (by omega), if_pos rfl]
  · intro i hi hin
    rw [hat, hat, if_neg (by omega), if_neg (by omega), if_neg (by omega), if_neg (by omega)]
    exact hz i (by omega) hin
  · rw [List.length_append, hlen]; rfl
  · intro i p hp
    rcases old i p hp with ⟨h1, h2⟩ | ⟨rfl, rfl⟩
    · exact ((h.own i p h2).keep b2).but h3 (fun e => by injection e with e; injection e with e; exact h.hq i p h2 e)
    · exact (own_le ho hN).but h3 (fun e => by injection e with e; injection e with e; exact hqO e)
  · intro i j p p' hp hp' he
    rcases old i p hp with ⟨h1, h2⟩ | ⟨rfl, rfl⟩ <;> rcases old j p' hp' with ⟨h4, h5⟩ | ⟨rfl, rfl⟩
    · exact h.sep i j p p' h2 h5 he
    · have h6 := (h.own i p h2).lt.2
      have h7 := ho.lt.1
      have h8 : p.1 = q := he
      omega
    · have h6 := (h.own j p' h5).lt.2
      have h7 := ho.lt.1
      have h8 : q = p'.1 := he
      omega
    · rfl
  · exact h3.below (h.bel.trans (b2.mono hN)) h.hO.1
  · rw [h3.size]
    exact Nat.lt_of_lt_of_le h.hO.2 b2.size
  · intro i p hp
    rcases old i p hp with ⟨h1, h2⟩ | ⟨rfl, rfl⟩
    · exact h.hq i p h2
    · exact hqO
end Go.Proofs.Ytepafpnpmpijeaa


/-! KeysKeeps: the secrets are copied into a row of its own. (Printed by tools/genst4.py.) -/
namespace Go.Proofs.Ytepafpnpmpijeaa
open Go.RowKit
set_option linter.unusedVariables false

structure E9 (W1 : World) (S : Nat) (bo : Option Addr) (bc : Nat) (bs : List By) (L : Nat → Bool) (x52 x53 x54 x55 x56 x57 x58 x59 x8 : Value) (W : World) : Prop where
  x : BX W1 bs (L 4) (L 7) (L 8) x56 x59 x8 W
  p0 : L 0 = true → x52 = .pointer (some ⟨S, 1, none⟩)
  p1 : L 1 = true → x53 = .slice bo bs.length bc
  p2 : L 2 = true → x54 = .int .i64 (bs.length : Int)
  p3 : L 3 = true → x55 = .int .i64 ((bs.length : Int) + 3)
  p5 : L 5 = true → x57 = .pointer (some ⟨S, 1, none⟩)
  p6 : L 6 = true → x58 = .slice bo bs.length bc
section
variable {W1 : World} {S : Nat} {bo : Option Addr} {bc : Nat} {bs : List By} {L : Nat → Bool} {x52 x53 x54 x55 x56 x57 x58 x59 x8 : Value} {W W2 : World}
theorem E9.s0 (h : E9 W1 S bo bc bs L x52 x53 x54 x55 x56 x57 x58 x59 x8 W) : E9 W1 S bo bc bs (upd L 0) (.pointer (some ⟨S, 1, none⟩)) x53 x54 x55 x56 x57 x58 x59 x8 W :=
  ⟨h.x, fun _ => rfl, h.p1, h.p2, h.p3, h.p5, h.p6⟩
theorem E9.s1 (h : E9 W1 S bo bc bs L x52 x53 x54 x55 x56 x57 x58 x59 x8 W) : E9 W1 S bo bc bs (upd L 1) x52 (.slice bo bs.length bc) x54 x55 x56 x57 x58 x59 x8 W :=
  ⟨h.x, h.p0, fun _ => rfl, h.p2, h.p3, h.p5, h.p6⟩
theorem E9.s2 (h : E9 W1 S bo bc bs L x52 x53 x54 x55 x56 x57 x58 x59 x8 W) : E9 W1 S bo bc bs (upd L 2) x52 x53 (.int .i64 (bs.length : Int)) x55 x56 x57 x58 x59 x8 W :=
  ⟨h.x, h.p0, h.p1, fun _ => rfl, h.p3, h.p5, h.p6⟩
theorem E9.s3 (h : E9 W1 S bo bc bs L x52 x53 x54 x55 x56 x57 x58 x59 x8 W) : E9 W1 S bo bc bs (upd L 3) x52 x53 x54 (.int .i64 ((bs.length : Int) + 3)) x56 x57 x58 x59 x8 W :=
  ⟨h.x, h.p0, h.p1, h.p2, fun _ => rfl, h.p5, h.p6⟩
theorem E9.s4 (h : E9 W1 S bo bc bs L x52 x53 x54 x55 x56 x57 x58 x59 x8 W) {v : Value} (hX : BX W1 bs ((upd L 4) 4) ((upd L 4) 7) ((upd L 4) 8) v x59 x8 W2) : E9 W1 S bo bc bs (upd L 4) x52 x53 x54 x55 v x57 x58 x59 x8 W2 :=
  ⟨hX, h.p0, h.p1, h.p2, h.p3, h.p5, h.p6⟩
theorem E9.s5 (h : E9 W1 S bo bc bs L x52 x53 x54 x55 x56 x57 x58 x59 x8 W) : E9 W1 S bo bc bs (upd L 5) x52 x53 x54 x55 x56 (.pointer (some ⟨S, 1, none⟩)) x58 x59 x8 W :=
  ⟨h.x, h.p0, h.p1, h.p2, h.p3, fun _ => rfl, h.p6⟩
theorem E9.s6 (h : E9 W1 S bo bc bs L x52 x53 x54 x55 x56 x57 x58 x59 x8 W) : E9 W1 S bo bc bs (upd L 6) x52 x53 x54 x55 x56 x57 (.slice bo bs.length bc) x59 x8 W :=
  ⟨h.x, h.p0, h.p1, h.p2, h.p3, h.p5, fun _ => rfl⟩
theorem E9.s7 (h : E9 W1 S bo bc bs L x52 x53 x54 x55 x56 x57 x58 x59 x8 W) {v : Value} (hX : BX W1 bs ((upd L 7) 4) ((upd L 7) 7) ((upd L 7) 8) x56 v x8 W2) : E9 W1 S bo bc bs (upd L 7) x52 x53 x54 x55 x56 x57 x58 v x8 W2 :=
  ⟨hX, h.p0, h.p1, h.p2, h.p3, h.p5, h.p6⟩
theorem E9.s8 (h : E9 W1 S bo bc bs L x52 x53 x54 x55 x56 x57 x58 x59 x8 W) {v : Value} (hX : BX W1 bs ((upd L 8) 4) ((upd L 8) 7) ((upd L 8) 8) x56 x59 v W2) : E9 W1 S bo bc bs (upd L 8) x52 x53 x54 x55 x56 x57 x58 x59 v W2 :=
  ⟨hX, h.p0, h.p1, h.p2, h.p3, h.p5, h.p6⟩
end
@[reducible] def IE9 (W1 : World) (S : Nat) (bo : Option Addr) (bc : Nat) (bs : List By) (y0 y1 y2 y3 y4 y5 y6 y7 y9 y10 y11 y12 y13 y14 y15 y16 y17 y18 y19 y20 y21 y22 y23 y24 y25 y26 y27 y28 y29 y30 y31 y32 y33 y34 y35 y36 y37 y38 y39 y40 y41 y42 y43 y44 y45 y46 y47 y48 y49 y50 y51 y60 y61 y62 y63 y64 y65 y66 y67 y68 y69 y70 y71 y72 y73 y74 y75 y76 y77 y78 y79 y80 y81 y82 y83 y84 y85 y86 y87 y88 y89 y90 y91 y92 y93 y94 y95 y96 y97 y98 y99 y100 y101 y102 y103 y104 y105 y106 y107 y108 y109 y110 y111 y112 y113 y114 y115 y116 y117 y118 y119 y120 y121 y122 y123 y124 y125 y126 y127 y128 y129 y130 y131 y132 y133 y134 y135 y136 y137 y138 y139 y140 y141 y142 y143 y144 y145 y146 y147 y148 y149 y150 y151 y152 y153 y154 y155 y156 y157 y158 y159 y160 y161 y162 y163 y164 y165 y166 y167 y168 y169 y170 y171 y172 y173 y174 y175 y176 y177 y178 y179 y180 y181 y182 y183 y184 y185 y186 y187 y188 y189 y190 y191 y192 y193 y194 y195 y196 y197 y198 y199 y200 y201 y202 y203 y204 y205 y206 y207 y208 y209 y210 y211 y212 y213 y214 y215 y216 y217 y218 y219 y220 y221 y222 y223 y224 y225 y226 y227 y228 y229 y230 y231 y232 y233 y234 y235 y236 y237 y238 y239 y240 y241 y242 y243 y244 y245 y246 y247 y248 y249 y250 y251 y252 y253 y254 y255 y256 y257 y258 y259 y260 y261 y262 y263 y264 y265 y266 y267 y268 y269 y270 y271 y272 y273 y274 y275 y276 y277 y278 y279 y280 y281 y282 y283 y284 y285 y286 y287 y288 y289 y290 y291 y292 y293 y294 y295 y296 y297 y298 y299 y300 y301 y302 y303 y304 y305 : Value) : (Nat → Bool) → Act → World → Prop := fun L a W => ∃ x52 x53 x54 x55 x56 x57 x58 x59 x8, a = ⟨#[y0, y1, y2, y3, y4, y5, y6, y7, x8, y9, y10, y11, y12, y13, y14, y15, y16, y17, y18, y19, y20, y21, y22, y23, y24, y25, y26, y27, y28, y29, y30, y31, y32, y33, y34, y35, y36, y37, y38, y39, y40, y41, y42, y43, y44, y45, y46, y47, y48, y49, y50, y51, x52, x53, x54, x55, x56, x57, x58, x59, y60, y61, y62, y63, y64, y65, y66, y67, y68, y69, y70, y71, y72, y73, y74, y75, y76, y77, y78, y79, y80, y81, y82, y83, y84, y85, y86, y87, y88, y89, y90, y91, y92, y93, y94, y95, y96, y97, y98, y99, y100, y101, y102, y103, y104, y105, y106, y107, y108, y109, y110, y111, y112, y113, y114, y115, y116, y117, y118, y119, y120, y121, y122, y123, y124, y125, y126, y127, y128, y129, y130, y131, y132, y133, y134, y135, y136, y137, y138, y139, y140, y141, y142, y143, y144, y145, y146, y147, y148, y149, y150, y151, y152, y153, y154, y155, y156, y157, y158, y159, y160, y161, y162, y163, y164, y165, y166, y167, y168, y169, y170, y171, y172, y173, y174, y175, y176, y177, y178, y179, y180, y181, y182, y183, y184, y185, y186, y187, y188, y189, y190, y191, y192, y193, y194, y195, y196, y197, y198, y199, y200, y201, y202, y203, y204, y205, y206, y207, y208, y209, y210, y211, y212, y213, y214, y215, y216, y217, y218, y219, y220, y221, y222, y223, y224, y225, y226, y227, y228, y229, y230, y231, y232, y233, y234, y235, y236, y237, y238, y239, y240, y241, y242, y243, y244, y245, y246, y247, y248, y249, y250, y251, y252, y253, y254, y255, y256, y257, y258, y259, y260, y261, y262, y263, y264, y265, y266, y267, y268, y269, y270, y271, y272, y273, y274, y275, y276, y277, y278, y279, y280, y281, y282, y283, y284, y285, y286, y287, y288, y289, y290, y291, y292, y293, y294, y295, y296, y297, y298, y299, y300, y301, y302, y303, y304, y305], []⟩ ∧ E9 W1 S bo bc bs L x52 x53 x54 x55 x56 x57 x58 x59 x8 W
theorem E9.step {W1 : World} {S : Nat} {bo : Option Addr} {bc : Nat} {bs : List By} {y0 y1 y2 y3 y4 y5 y6 y7 y9 y10 y11 y12 y13 y14 y15 y16 y17 y18 y19 y20 y21 y22 y23 y24 y25 y26 y27 y28 y29 y30 y31 y32 y33 y34 y35 y36 y37 y38 y39 y40 y41 y42 y43 y44 y45 y46 y47 y48 y49 y50 y51 y60 y61 y62 y63 y64 y65 y66 y67 y68 y69 y70 y71 y72 y73 y74 y75 y76 y77 y78 y79 y80 y81 y82 y83 y84 y85 y86 y87 y88 y89 y90 y91 y92 y93 y94 y95 y96 y97 y98 y99 y100 y101 y102 y103 y104 y105 y106 y107 y108 y109 y110 y111 y112 y113 y114 y115 y116 y117 y118 y119 y120 y121 y122 y123 y124 y125 y126 y127 y128 y129 y130 y131 y132 y133 y134 y135 y136 y137 y138 y139 y140 y141 y142 y143 y144 y145 y146 y147 y148 y149 y150 y151 y152 y153 y154 y155 y156 y157 y158 y159 y160 y161 y162 y163 y164 y165 y166 y167 y168 y169 y170 y171 y172 y173 y174 y175 y176 y177 y178 y179 y180 y181 y182 y183 y184 y185 y186 y187 y188 y189 y190 y191 y192 y193 y194 y195 y196 y197 y198 y199 y200 y201 y202 y203 y204 y205 y206 y207 y208 y209 y210 y211 y212 y213 y214 y215 y216 y217 y218 y219 y220 y221 y222 y223 y224 y225 y226 y227 y228 y229 y230 y231 y232 y233 y234 y235 y236 y237 y238 y239 y240 y241 y242 y243 y244 y245 y246 y247 y248 y249 y250 y251 y252 y253 y254 y255 y256 y257 y258 y259 y260 y261 y262 y263 y264 y265 y266 y267 y268 y269 y270 y271 y272 y273 y274 y275 y276 y277 y278 y279 y280 y281 y282 y283 y284 y285 y286 y287 y288 y289 y290 y291 y292 y293 y294 y295 y296 y297 y298 y299 y300 y301 y302 y303 y304 y305 : Value} {P : Program} {ops : Array Oper} {Q : Exit → Act → World → Prop} {i : Nat} {o : Oper} (hq : ∀ x52 x53 x54 x55 x56 x57 x58 x59 x8 (L : Nat → Bool) (W : World), E9 W1 S bo bc bs L x52 x53 x54 x55 x56 x57 x58 x59 x8 W → L i = false → (∀ j ∈ onesOf o, L j = true) → ∀ K : Act → World → Prop, Shut (∀ a' w', IE9 W1 S bo bc bs y0 y1 y2 y3 y4 y5 y6 y7 y9 y10 y11 y12 y13 y14 y15 y16 y17 y18 y19 y20 y21 y22 y23 y24 y25 y26 y27 y28 y29 y30 y31 y32 y33 y34 y35 y36 y37 y38 y39 y40 y41 y42 y43 y44 y45 y46 y47 y48 y49 y50 y51 y60 y61 y62 y63 y64 y65 y66 y67 y68 y69 y70 y71 y72 y73 y74 y75 y76 y77 y78 y79 y80 y81 y82 y83 y84 y85 y86 y87 y88 y89 y90 y91 y92 y93 y94 y95 y96 y97 y98 y99 y100 y101 y102 y103 y104 y105 y106 y107 y108 y109 y110 y111 y112 y113 y114 y115 y116 y117 y118 y119 y120 y121 y122 y123 y124 y125 y126 y127 y128 y129 y130 y131 y132 y133 y134 y135 y136 y137 y138 y139 y140 y141 y142 y143 y144 y145 y146 y147 y148 y149 y150 y151 y152 y153 y154 y155 y156 y157 y158 y159 y160 y161 y162 y163 y164 y165 y166 y167 y168 y169 y170 y171 y172 y173 y174 y175 y176 y177 y178 y179 y180 y181 y182 y183 y184 y185 y186 y187 y188 y189 y190 y191 y192 y193 y194 y195 y196 y197 y198 y199 y200 y201 y202 y203 y204 y205 y206 y207 y208 y209 y210 y211 y212 y213 y214 y215 y216 y217 y218 y219 y220 y221 y222 y223 y224 y225 y226 y227 y228 y229 y230 y231 y232 y233 y234 y235 y236 y237 y238 y239 y240 y241 y242 y243 y244 y245 y246 y247 y248 y249 y250 y251 y252 y253 y254 y255 y256 y257 y258 y259 y260 y261 y262 y263 y264 y265 y266 y267 y268 y269 y270 y271 y272 y273 y274 y275 y276 y277 y278 y279 y280 y281 y282 y283 y284 y285 y286 y287 y288 y289 y290 y291 y292 y293 y294 y295 y296 y297 y298 y299 y300 y301 y302 y303 y304 y305 (upd L i) a' w' → K a' w') → if Region.wanted o (yielded ops (⟨#[y0, y1, y2, y3, y4, y5, y6, y7, x8, y9, y10, y11, y12, y13, y14, y15, y16, y17, y18, y19, y20, y21, y22, y23, y24, y25, y26, y27, y28, y29, y30, y31, y32, y33, y34, y35, y36, y37, y38, y39, y40, y41, y42, y43, y44, y45, y46, y47, y48, y49, y50, y51, x52, x53, x54, x55, x56, x57, x58, x59, y60, y61, y62, y63, y64, y65, y66, y67, y68, y69, y70, y71, y72, y73, y74, y75, y76, y77, y78, y79, y80, y81, y82, y83, y84, y85, y86, y87, y88, y89, y90, y91, y92, y93, y94, y95, y96, y97, y98, y99, y100, y101, y102, y103, y104, y105, y106, y107, y108, y109, y110, y111, y112, y113, y114, y115, y116, y117, y118, y119, y120, y121, y122, y123, y124, y125, y126, y127, y128, y129, y130, y131, y132, y133, y134, y135, y136, y137, y138, y139, y140, y141, y142, y143, y144, y145, y146, y147, y148, y149, y150, y151, y152, y153, y154, y155, y156, y157, y158, y159, y160, y161, y162, y163, y164, y165, y166, y167, y168, y169, y170, y171, y172, y173, y174, y175, y176, y177, y178, y179, y180, y181, y182, y183, y184, y185, y186, y187, y188, y189, y190, y191, y192, y193, y194, y195, y196, y197, y198, y199, y200, y201, y202, y203, y204, y205, y206, y207, y208, y209, y210, y211, y212, y213, y214, y215, y216, y217, y218, y219, y220, y221, y222, y223, y224, y225, y226, y227, y228, y229, y230, y231, y232, y233, y234, y235, y236, y237, y238, y239, y240, y241, y242, y243, y244, y245, y246, y247, y248, y249, y250, y251, y252, y253, y254, y255, y256, y257, y258, y259, y260, y261, y262, y263, y264, y265, y266, y267, y268, y269, y270, y271, y272, y273, y274, y275, y276, y277, y278, y279, y280, y281, y282, y283, y284, y285, y286, y287, y288, y289, y290, y291, y292, y293, y294, y295, y296, y297, y298, y299, y300, y301, y302, y303, y304, y305], []⟩ : Act).tmps) = true then Oper.wp P o ⟨#[y0, y1, y2, y3, y4, y5, y6, y7, x8, y9, y10, y11, y12, y13, y14, y15, y16, y17, y18, y19, y20, y21, y22, y23, y24, y25, y26, y27, y28, y29, y30, y31, y32, y33, y34, y35, y36, y37, y38, y39, y40, y41, y42, y43, y44, y45, y46, y47, y48, y49, y50, y51, x52, x53, x54, x55, x56, x57, x58, x59, y60, y61, y62, y63, y64, y65, y66, y67, y68, y69, y70, y71, y72, y73, y74, y75, y76, y77, y78, y79, y80, y81, y82, y83, y84, y85, y86, y87, y88, y89, y90, y91, y92, y93, y94, y95, y96, y97, y98, y99, y100, y101, y102, y103, y104, y105, y106, y107, y108, y109, y110, y111, y112, y113, y114, y115, y116, y117, y118, y119, y120, y121, y122, y123, y124, y125, y126, y127, y128, y129, y130, y131, y132, y133, y134, y135, y136, y137, y138, y139, y140, y141, y142, y143, y144, y145, y146, y147, y148, y149, y150, y151, y152, y153, y154, y155, y156, y157, y158, y159, y160, y161, y162, y163, y164, y165, y166, y167, y168, y169, y170, y171, y172, y173, y174, y175, y176, y177, y178, y179, y180, y181, y182, y183, y184, y185, y186, y187, y188, y189, y190, y191, y192, y193, y194, y195, y196, y197, y198, y199, y200, y201, y202, y203, y204, y205, y206, y207, y208, y209, y210, y211, y212, y213, y214, y215, y216, y217, y218, y219, y220, y221, y222, y223, y224, y225, y226, y227, y228, y229, y230, y231, y232, y233, y234, y235, y236, y237, y238, y239, y240, y241, y242, y243, y244, y245, y246, y247, y248, y249, y250, y251, y252, y253, y254, y255, y256, y257, y258, y259, y260, y261, y262, y263, y264, y265, y266, y267, y268, y269, y270, y271, y272, y273, y274, y275, y276, y277, y278, y279, y280, y281, y282, y283, y284, y285, y286, y287, y288, y289, y290, y291, y292, y293, y294, y295, y296, y297, y298, y299, y300, y301, y302, y303, y304, y305], []⟩ W K Q else K ((⟨#[y0, y1, y2, y3, y4, y5, y6, y7, x8, y9, y10, y11, y12, y13, y14, y15, y16, y17, y18, y19, y20, y21, y22, y23, y24, y25, y26, y27, y28, y29, y30, y31, y32, y33, y34, y35, y36, y37, y38, y39, y40, y41, y42, y43, y44, y45, y46, y47, y48, y49, y50, y51, x52, x53, x54, x55, x56, x57, x58, x59, y60, y61, y62, y63, y64, y65, y66, y67, y68, y69, y70, y71, y72, y73, y74, y75, y76, y77, y78, y79, y80, y81, y82, y83, y84, y85, y86, y87, y88, y89, y90, y91, y92, y93, y94, y95, y96, y97, y98, y99, y100, y101, y102, y103, y104, y105, y106, y107, y108, y109, y110, y111, y112, y113, y114, y115, y116, y117, y118, y119, y120, y121, y122, y123, y124, y125, y126, y127, y128, y129, y130, y131, y132, y133, y134, y135, y136, y137, y138, y139, y140, y141, y142, y143, y144, y145, y146, y147, y148, y149, y150, y151, y152, y153, y154, y155, y156, y157, y158, y159, y160, y161, y162, y163, y164, y165, y166, y167, y168, y169, y170, y171, y172, y173, y174, y175, y176, y177, y178, y179, y180, y181, y182, y183, y184, y185, y186, y187, y188, y189, y190, y191, y192, y193, y194, y195, y196, y197, y198, y199, y200, y201, y202, y203, y204, y205, y206, y207, y208, y209, y210, y211, y212, y213, y214, y215, y216, y217, y218, y219, y220, y221, y222, y223, y224, y225, y226, y227, y228, y229, y230, y231, y232, y233, y234, y235, y236, y237, y238, y239, y240, y241, y242, y243, y244, y245, y246, y247, y248, y249, y250, y251, y252, y253, y254, y255, y256, y257, y258, y259, y260, y261, y262, y263, y264, y265, y266, y267, y268, y269, y270, y271, y272, y273, y274, y275, y276, y277, y278, y279, y280, y281, y282, y283, y284, y285, y286, y287, y288, y289, y290, y291, y292, y293, y294, y295, y296, y297, y298, y299, y300, y301, y302, y303, y304, y305], []⟩ : Act).put o.dst undef) W) : StepI P ops (IE9 W1 S bo bc bs y0 y1 y2 y3 y4 y5 y6 y7 y9 y10 y11 y12 y13 y14 y15 y16 y17 y18 y19 y20 y21 y22 y23 y24 y25 y26 y27 y28 y29 y30 y31 y32 y33 y34 y35 y36 y37 y38 y39 y40 y41 y42 y43 y44 y45 y46 y47 y48 y49 y50 y51 y60 y61 y62 y63 y64 y65 y66 y67 y68 y69 y70 y71 y72 y73 y74 y75 y76 y77 y78 y79 y80 y81 y82 y83 y84 y85 y86 y87 y88 y89 y90 y91 y92 y93 y94 y95 y96 y97 y98 y99 y100 y101 y102 y103 y104 y105 y106 y107 y108 y109 y110 y111 y112 y113 y114 y115 y116 y117 y118 y119 y120 y121 y122 y123 y124 y125 y126 y127 y128 y129 y130 y131 y132 y133 y134 y135 y136 y137 y138 y139 y140 y141 y142 y143 y144 y145 y146 y147 y148 y149 y150 y151 y152 y153 y154 y155 y156 y157 y158 y159 y160 y161 y162 y163 y164 y165 y166 y167 y168 y169 y170 y171 y172 y173 y174 y175 y176 y177 y178 y179 y180 y181 y182 y183 y184 y185 y186 y187 y188 y189 y190 y191 y192 y193 y194 y195 y196 y197 y198 y199 y200 y201 y202 y203 y204 y205 y206 y207 y208 y209 y210 y211 y212 y213 y214 y215 y216 y217 y218 y219 y220 y221 y222 y223 y224 y225 y226 y227 y228 y229 y230 y231 y232 y233 y234 y235 y236 y237 y238 y239 y240 y241 y242 y243 y244 y245 y246 y247 y248 y249 y250 y251 y252 y253 y254 y255 y256 y257 y258 y259 y260 y261 y262 y263 y264 y265 y266 y267 y268 y269 y270 y271 y272 y273 y274 y275 y276 y277 y278 y279 y280 y281 y282 y283 y284 y285 y286 y287 y288 y289 y290 y291 y292 y293 y294 y295 y296 y297 y298 y299 y300 y301 y302 y303 y304 y305) Q i o := by
  rintro L a W ⟨x52, x53, x54, x55, x56, x57, x58, x59, x8, rfl, h⟩
  exact hq _ _ _ _ _ _ _ _ _ _ _ h
theorem E9.ends {W1 : World} {S : Nat} {bo : Option Addr} {bc : Nat} {bs : List By} {y0 y1 y2 y3 y4 y5 y6 y7 y9 y10 y11 y12 y13 y14 y15 y16 y17 y18 y19 y20 y21 y22 y23 y24 y25 y26 y27 y28 y29 y30 y31 y32 y33 y34 y35 y36 y37 y38 y39 y40 y41 y42 y43 y44 y45 y46 y47 y48 y49 y50 y51 y60 y61 y62 y63 y64 y65 y66 y67 y68 y69 y70 y71 y72 y73 y74 y75 y76 y77 y78 y79 y80 y81 y82 y83 y84 y85 y86 y87 y88 y89 y90 y91 y92 y93 y94 y95 y96 y97 y98 y99 y100 y101 y102 y103 y104 y105 y106 y107 y108 y109 y110 y111 y112 y113 y114 y115 y116 y117 y118 y119 y120 y121 y122 y123 y124 y125 y126 y127 y128 y129 y130 y131 y132 y133 y134 y135 y136 y137 y138 y139 y140 y141 y142 y143 y144 y145 y146 y147 y148 y149 y150 y151 y152 y153 y154 y155 y156 y157 y158 y159 y160 y161 y162 y163 y164 y165 y166 y167 y168 y169 y170 y171 y172 y173 y174 y175 y176 y177 y178 y179 y180 y181 y182 y183 y184 y185 y186 y187 y188 y189 y190 y191 y192 y193 y194 y195 y196 y197 y198 y199 y200 y201 y202 y203 y204 y205 y206 y207 y208 y209 y210 y211 y212 y213 y214 y215 y216 y217 y218 y219 y220 y221 y222 y223 y224 y225 y226 y227 y228 y229 y230 y231 y232 y233 y234 y235 y236 y237 y238 y239 y240 y241 y242 y243 y244 y245 y246 y247 y248 y249 y250 y251 y252 y253 y254 y255 y256 y257 y258 y259 y260 y261 y262 y263 y264 y265 y266 y267 y268 y269 y270 y271 y272 y273 y274 y275 y276 y277 y278 y279 y280 y281 y282 y283 y284 y285 y286 y287 y288 y289 y290 y291 y292 y293 y294 y295 y296 y297 y298 y299 y300 y301 y302 y303 y304 y305 : Value} {mm_ : Nat} {Q : Exit → Act → World → Prop} (hq : ∀ x52 x53 x54 x55 x56 x57 x58 x59 x8 (L : Nat → Bool) (W : World), (∀ j, j < mm_ → L j = true) → E9 W1 S bo bc bs L x52 x53 x54 x55 x56 x57 x58 x59 x8 W → Q .normal ⟨#[y0, y1, y2, y3, y4, y5, y6, y7, x8, y9, y10, y11, y12, y13, y14, y15, y16, y17, y18, y19, y20, y21, y22, y23, y24, y25, y26, y27, y28, y29, y30, y31, y32, y33, y34, y35, y36, y37, y38, y39, y40, y41, y42, y43, y44, y45, y46, y47, y48, y49, y50, y51, x52, x53, x54, x55, x56, x57, x58, x59, y60, y61, y62, y63, y64, y65, y66, y67, y68, y69, y70, y71, y72, y73, y74, y75, y76, y77, y78, y79, y80, y81, y82, y83, y84, y85, y86, y87, y88, y89, y90, y91, y92, y93, y94, y95, y96, y97, y98, y99, y100, y101, y102, y103, y104, y105, y106, y107, y108, y109, y110, y111, y112, y113, y114, y115, y116, y117, y118, y119, y120, y121, y122, y123, y124, y125, y126, y127, y128, y129, y130, y131, y132, y133, y134, y135, y136, y137, y138, y139, y140, y141, y142, y143, y144, y145, y146, y147, y148, y149, y150, y151, y152, y153, y154, y155, y156, y157, y158, y159, y160, y161, y162, y163, y164, y165, y166, y167, y168, y169, y170, y171, y172, y173, y174, y175, y176, y177, y178, y179, y180, y181, y182, y183, y184, y185, y186, y187, y188, y189, y190, y191, y192, y193, y194, y195, y196, y197, y198, y199, y200, y201, y202, y203, y204, y205, y206, y207, y208, y209, y210, y211, y212, y213, y214, y215, y216, y217, y218, y219, y220, y221, y222, y223, y224, y225, y226, y227, y228, y229, y230, y231, y232, y233, y234, y235, y236, y237, y238, y239, y240, y241, y242, y243, y244, y245, y246, y247, y248, y249, y250, y251, y252, y253, y254, y255, y256, y257, y258, y259, y260, y261, y262, y263, y264, y265, y266, y267, y268, y269, y270, y271, y272, y273, y274, y275, y276, y277, y278, y279, y280, y281, y282, y283, y284, y285, y286, y287, y288, y289, y290, y291, y292, y293, y294, y295, y296, y297, y298, y299, y300, y301, y302, y303, y304, y305], []⟩ W) : ∀ L a' w', (∀ j, j < mm_ → L j = true) → IE9 W1 S bo bc bs y0 y1 y2 y3 y4 y5 y6 y7 y9 y10 y11 y12 y13 y14 y15 y16 y17 y18 y19 y20 y21 y22 y23 y24 y25 y26 y27 y28 y29 y30 y31 y32 y33 y34 y35 y36 y37 y38 y39 y40 y41 y42 y43 y44 y45 y46 y47 y48 y49 y50 y51 y60 y61 y62 y63 y64 y65 y66 y67 y68 y69 y70 y71 y72 y73 y74 y75 y76 y77 y78 y79 y80 y81 y82 y83 y84 y85 y86 y87 y88 y89 y90 y91 y92 y93 y94 y95 y96 y97 y98 y99 y100 y101 y102 y103 y104 y105 y106 y107 y108 y109 y110 y111 y112 y113 y114 y115 y116 y117 y118 y119 y120 y121 y122 y123 y124 y125 y126 y127 y128 y129 y130 y131 y132 y133 y134 y135 y136 y137 y138 y139 y140 y141 y142 y143 y144 y145 y146 y147 y148 y149 y150 y151 y152 y153 y154 y155 y156 y157 y158 y159 y160 y161 y162 y163 y164 y165 y166 y167 y168 y169 y170 y171 y172 y173 y174 y175 y176 y177 y178 y179 y180 y181 y182 y183 y184 y185 y186 y187 y188 y189 y190 y191 y192 y193 y194 y195 y196 y197 y198 y199 y200 y201 y202 y203 y204 y205 y206 y207 y208 y209 y210 y211 y212 y213 y214 y215 y216 y217 y218 y219 y220 y221 y222 y223 y224 y225 y226 y227 y228 y229 y230 y231 y232 y233 y234 y235 y236 y237 y238 y239 y240 y241 y242 y243 y244 y245 y246 y247 y248 y249 y250 y251 y252 y253 y254 y255 y256 y257 y258 y259 y260 y261 y262 y263 y264 y265 y266 y267 y268 y269 y270 y271 y272 y273 y274 y275 y276 y277 y278 y279 y280 y281 y282 y283 y284 y285 y286 y287 y288 y289 y290 y291 y292 y293 y294 y295 y296 y297 y298 y299 y300 y301 y302 y303 y304 y305 L a' w' → Q .normal a' w' := by
  rintro L a W hall ⟨x52, x53, x54, x55, x56, x57, x58, x59, x8, rfl, h⟩
  exact hq _ _ _ _ _ _ _ _ _ _ _ hall h
structure E10 (W1 : World) (N0 : Nat) (ao : Option Addr) (c S : Nat) (bo : Option Addr) (bc : Nat) (bs : List By) (L : Nat → Bool) (x60 x61 x62 x63 x64 x65 x66 x8 : Value) (W : World) : Prop where
  x : BY N0 W1 ao c bs [161#8, 162#8, 163#8] (L 1) (L 2) (L 6) (L 7) x61 x62 x66 x8 W
  p0 : L 0 = true → x60 = .slice ao bs.length c
  p3 : L 3 = true → x63 = .pointer (some ⟨S, 1, none⟩)
  p4 : L 4 = true → x64 = .slice bo bs.length bc
  p5 : L 5 = true → x65 = .int .i64 (bs.length : Int)
  c6_2 : L 6 = true → L 2 = true
  c2_0 : L 2 = true → L 0 = true
section
variable {W1 : World} {N0 : Nat} {ao : Option Addr} {c S : Nat} {bo : Option Addr} {bc : Nat} {bs : List By} {L : Nat → Bool} {x60 x61 x62 x63 x64 x65 x66 x8 : Value} {W W2 : World}
theorem E10.s0 (h : E10 W1 N0 ao c S bo bc bs L x60 x61 x62 x63 x64 x65 x66 x8 W) : E10 W1 N0 ao c S bo bc bs (upd L 0) (.slice ao bs.length c) x61 x62 x63 x64 x65 x66 x8 W :=
  ⟨h.x, fun _ => rfl, h.p3, h.p4, h.p5, h.c6_2, fun _ => rfl⟩
theorem E10.s1 (h : E10 W1 N0 ao c S bo bc bs L x60 x61 x62 x63 x64 x65 x66 x8 W) {v : Value} (hX : BY N0 W1 ao c bs [161#8, 162#8, 163#8] ((upd L 1) 1) ((upd L 1) 2) ((upd L 1) 6) ((upd L 1) 7) v x62 x66 x8 W2) : E10 W1 N0 ao c S bo bc bs (upd L 1) x60 v x62 x63 x64 x65 x66 x8 W2 :=
  ⟨hX, h.p0, h.p3, h.p4, h.p5, h.c6_2, h.c2_0⟩
theorem E10.s2 (h : E10 W1 N0 ao c S bo bc bs L x60 x61 x62 x63 x64 x65 x66 x8 W) {v : Value} (hX : BY N0 W1 ao c bs [161#8, 162#8, 163#8] ((upd L 2) 1) ((upd L 2) 2) ((upd L 2) 6) ((upd L 2) 7) x61 v x66 x8 W2) (hc0 : L 0 = true) : E10 W1 N0 ao c S bo bc bs (upd L 2) x60 x61 v x63 x64 x65 x66 x8 W2 :=
  ⟨hX, h.p0, h.p3, h.p4, h.p5, fun _ => rfl, fun _ => hc0⟩
theorem E10.s3 (h : E10 W1 N0 ao c S bo bc bs L x60 x61 x62 x63 x64 x65 x66 x8 W) : E10 W1 N0 ao c S bo bc bs (upd L 3) x60 x61 x62 (.pointer (some ⟨S, 1, none⟩)) x64 x65 x66 x8 W :=
  ⟨h.x, h.p0, fun _ => rfl, h.p4, h.p5, h.c6_2, h.c2_0⟩
theorem E10.s4 (h : E10 W1 N0 ao c S bo bc bs L x60 x61 x62 x63 x64 x65 x66 x8 W) : E10 W1 N0 ao c S bo bc bs (upd L 4) x60 x61 x62 x63 (.slice bo bs.length bc) x65 x66 x8 W :=
  ⟨h.x, h.p0, h.p3, fun _ => rfl, h.p5, h.c6_2, h.c2_0⟩
theorem E10.s5 (h : E10 W1 N0 ao c S bo bc bs L x60 x61 x62 x63 x64 x65 x66 x8 W) : E10 W1 N0 ao c S bo bc bs (upd L 5) x60 x61 x62 x63 x64 (.int .i64 (bs.length : Int)) x66 x8 W :=
  ⟨h.x, h.p0, h.p3, h.p4, fun _ => rfl, h.c6_2, h.c2_0⟩
theorem E10.s6 (h : E10 W1 N0 ao c S bo bc bs L x60 x61 x62 x63 x64 x65 x66 x8 W) {v : Value} (hX : BY N0 W1 ao c bs [161#8, 162#8, 163#8] ((upd L 6) 1) ((upd L 6) 2) ((upd L 6) 6) ((upd L 6) 7) x61 x62 v x8 W2) (hc2 : L 2 = true) : E10 W1 N0 ao c S bo bc bs (upd L 6) x60 x61 x62 x63 x64 x65 v x8 W2 :=
  ⟨hX, h.p0, h.p3, h.p4, h.p5, fun _ => hc2, h.c2_0⟩
theorem E10.s7 (h : E10 W1 N0 ao c S bo bc bs L x60 x61 x62 x63 x64 x65 x66 x8 W) {v : Value} (hX : BY N0 W1 ao c bs [161#8, 162#8, 163#8] ((upd L 7) 1) ((upd L 7) 2) ((upd L 7) 6) ((upd L 7) 7) x61 x62 x66 v W2) : E10 W1 N0 ao c S bo bc bs (upd L 7) x60 x61 x62 x63 x64 x65 x66 v W2 :=
  ⟨hX, h.p0, h.p3, h.p4, h.p5, h.c6_2, h.c2_0⟩
end
@[reducible] def IE10 (W1 : World) (N0 : Nat) (ao : Option Addr) (c S : Nat) (bo : Option Addr) (bc : Nat) (bs : List By) (y0 y1 y2 y3 y4 y5 y6 y7 y9 y10 y11 y12 y13 y14 y15 y16 y17 y18 y19 y20 y21 y22 y23 y24 y25 y26 y27 y28 y29 y30 y31 y32 y33 y34 y35 y36 y37 y38 y39 y40 y41 y42 y43 y44 y45 y46 y47 y48 y49 y50 y51 y52 y53 y54 y55 y56 y57 y58 y59 y67 y68 y69 y70 y71 y72 y73 y74 y75 y76 y77 y78 y79 y80 y81 y82 y83 y84 y85 y86 y87 y88 y89 y90 y91 y92 y93 y94 y95 y96 y97 y98 y99 y100 y101 y102 y103 y104 y105 y106 y107 y108 y109 y110 y111 y112 y113 y114 y115 y116 y117 y118 y119 y120 y121 y122 y123 y124 y125 y126 y127 y128 y129 y130 y131 y132 y133 y134 y135 y136 y137 y138 y139 y140 y141 y142 y143 y144 y145 y146 y147 y148 y149 y150 y151 y152 y153 y154 y155 y156 y157 y158 y159 y160 y161 y162 y163 y164 y165 y166 y167 y168 y169 y170 y171 y172 y173 y174 y175 y176 y177 y178 y179 y180 y181 y182 y183 y184 y185 y186 y187 y188 y189 y190 y191 y192 y193 y194 y195 y196 y197 y198 y199 y200 y201 y202 y203 y204 y205 y206 y207 y208 y209 y210 y211 y212 y213 y214 y215 y216 y217 y218 y219 y220 y221 y222 y223 y224 y225 y226 y227 y228 y229 y230 y231 y232 y233 y234 y235 y236 y237 y238 y239 y240 y241 y242 y243 y244 y245 y246 y247 y248 y249 y250 y251 y252 y253 y254 y255 y256 y257 y258 y259 y260 y261 y262 y263 y264 y265 y266 y267 y268 y269 y270 y271 y272 y273 y274 y275 y276 y277 y278 y279 y280 y281 y282 y283 y284 y285 y286 y287 y288 y289 y290 y291 y292 y293 y294 y295 y296 y297 y298 y299 y300 y301 y302 y303 y304 y305 : Value) : (Nat → Bool) → Act → World → Prop := fun L a W => ∃ x60 x61 x62 x63 x64 x65 x66 x8, a = ⟨#[y0, y1, y2, y3, y4, y5, y6, y7, x8, y9, y10, y11, y12, y13, y14, y15, y16, y17, y18, y19, y20, y21, y22, y23, y24, y25, y26, y27, y28, y29, y30, y31, y32, y33, y34, y35, y36, y37, y38, y39, y40, y41, y42, y43, y44, y45, y46, y47, y48, y49, y50, y51, y52, y53, y54, y55, y56, y57, y58, y59, x60, x61, x62, x63, x64, x65, x66, y67, y68, y69, y70, y71, y72, y73, y74, y75, y76, y77, y78, y79, y80, y81, y82, y83, y84, y85, y86, y87, y88, y89, y90, y91, y92, y93, y94, y95, y96, y97, y98, y99, y100, y101, y102, y103, y104, y105, y106, y107, y108, y109, y110, y111, y112, y113, y114, y115, y116, y117, y118, y119, y120, y121, y122, y123, y124, y125, y126, y127, y128, y129, y130, y131, y132, y133, y134, y135, y136, y137, y138, y139, y140, y141, y142, y143, y144, y145, y146, y147, y148, y149, y150, y151, y152, y153, y154, y155, y156, y157, y158, y159, y160, y161, y162, y163, y164, y165, y166, y167, y168, y169, y170, y171, y172, y173, y174, y175, y176, y177, y178, y179, y180, y181, y182, y183, y184, y185, y186, y187, y188, y189, y190, y191, y192, y193, y194, y195, y196, y197, y198, y199, y200, y201, y202, y203, y204, y205, y206, y207, y208, y209, y210, y211, y212, y213, y214, y215, y216, y217, y218, y219, y220, y221, y222, y223, y224, y225, y226, y227, y228, y229, y230, y231, y232, y233, y234, y235, y236, y237, y238, y239, y240, y241, y242, y243, y244, y245, y246, y247, y248, y249, y250, y251, y252, y253, y254, y255, y256, y257, y258, y259, y260, y261, y262, y263, y264, y265, y266, y267, y268, y269, y270, y271, y272, y273, y274, y275, y276, y277, y278, y279, y280, y281, y282, y283, y284, y285, y286, y287, y288, y289, y290, y291, y292, y293, y294, y295, y296, y297, y298, y299, y300, y301, y302, y303, y304, y305], []⟩ ∧ E10 W1 N0 ao c S bo bc bs L x60 x61 x62 x63 x64 x65 x66 x8 W
theorem E10.step {W1 : World} {N0 : Nat} {ao : Option Addr} {c S : Nat} {bo : Option Addr} {bc : Nat} {bs : List By} {y0 y1 y2 y3 y4 y5 y6 y7 y9 y10 y11 y12 y13 y14 y15 y16 y17 y18 y19 y20 y21 y22 y23 y24 y25 y26 y27 y28 y29 y30 y31 y32 y33 y34 y35 y36 y37 y38 y39 y40 y41 y42 y43 y44 y45 y46 y47 y48 y49 y50 y51 y52 y53 y54 y55 y56 y57 y58 y59 y67 y68 y69 y70 y71 y72 y73 y74 y75 y76 y77 y78 y79 y80 y81 y82 y83 y84 y85 y86 y87 y88 y89 y90 y91 y92 y93 y94 y95 y96 y97 y98 y99 y100 y101 y102 y103 y104 y105 y106 y107 y108 y109 y110 y111 y112 y113 y114 y115 y116 y117 y118 y119 y120 y121 y122 y123 y124 y125 y126 y127 y128 y129 y130 y131 y132 y133 y134 y135 y136 y137 y138 y139 y140 y141 y142 y143 y144 y145 y146 y147 y148 y149 y150 y151 y152 y153 y154 y155 y156 y157 y158 y159 y160 y161 y162 y163 y164 y165 y166 y167 y168 y169 y170 y171 y172 y173 y174 y175 y176 y177 y178 y179 y180 y181 y182 y183 y184 y185 y186 y187 y188 y189 y190 y191 y192 y193 y194 y195 y196 y197 y198 y199 y200 y201 y202 y203 y204 y205 y206 y207 y208 y209 y210 y211 y212 y213 y214 y215 y216 y217 y218 y219 y220 y221 y222 y223 y224 y225 y226 y227 y228 y229 y230 y231 y232 y233 y234 y235 y236 y237 y238 y239 y240 y241 y242 y243 y244 y245 y246 y247 y248 y249 y250 y251 y252 y253 y254 y255 y256 y257 y258 y259 y260 y261 y262 y263 y264 y265 y266 y267 y268 y269 y270 y271 y272 y273 y274 y275 y276 y277 y278 y279 y280 y281 y282 y283 y284 y285 y286 y287 y288 y289 y290 y291 y292 y293 y294 y295 y296 y297 y298 y299 y300 y301 y302 y303 y304 y305 : Value} {P : Program} {ops : Array Oper} {Q : Exit → Act → World → Prop} {i : Nat} {o : Oper} (hq : ∀ x60 x61 x62 x63 x64 x65 x66 x8 (L : Nat → Bool) (W : World), E10 W1 N0 ao c S bo bc bs L x60 x61 x62 x63 x64 x65 x66 x8 W → L i = false → (∀ j ∈ onesOf o, L j = true) → ∀ K : Act → World → Prop, Shut (∀ a' w', IE10 W1 N0 ao c S bo bc bs y0 y1 y2 y3 y4 y5 y6 y7 y9 y10 y11 y12 y13 y14 y15 y16 y17 y18 y19 y20 y21 y22 y23 y24 y25 y26 y27 y28 y29 y30 y31 y32 y33 y34 y35 y36 y37 y38 y39 y40 y41 y42 y43 y44 y45 y46 y47 y48 y49 y50 y51 y52 y53 y54 y55 y56 y57 y58 y59 y67 y68 y69 y70 y71 y72 y73 y74 y75 y76 y77 y78 y79 y80 y81 y82 y83 y84 y85 y86 y87 y88 y89 y90 y91 y92 y93 y94 y95 y96 y97 y98 y99 y100 y101 y102 y103 y104 y105 y106 y107 y108 y109 y110 y111 y112 y113 y114 y115 y116 y117 y118 y119 y120 y121 y122 y123 y124 y125 y126 y127 y128 y129 y130 y131 y132 y133 y134 y135 y136 y137 y138 y139 y140 y141 y142 y143 y144 y145 y146 y147 y148 y149 y150 y151 y152 y153 y154 y155 y156 y157 y158 y159 y160 y161 y162 y163 y164 y165 y166 y167 y168 y169 y170 y171 y172 y173 y174 y175 y176 y177 y178 y179 y180 y181 y182 y183 y184 y185 y186 y187 y188 y189 y190 y191 y192 y193 y194 y195 y196 y197 y198 y199 y200 y201 y202 y203 y204 y205 y206 y207 y208 y209 y210 y211 y212 y213 y214 y215 y216 y217 y218 y219 y220 y221 y222 y223 y224 y225 y226 y227 y228 y229 y230 y231 y232 y233 y234 y235 y236 y237 y238 y239 y240 y241 y242 y243 y244 y245 y246 y247 y248 y249 y250 y251 y252 y253 y254 y255 y256 y257 y258 y259 y260 y261 y262 y263 y264 y265 y266 y267 y268 y269 y270 y271 y272 y273 y274 y275 y276 y277 y278 y279 y280 y281 y282 y283 y284 y285 y286 y287 y288 y289 y290 y291 y292 y293 y294 y295 y296 y297 y298 y299 y300 y301 y302 y303 y304 y305 (upd L i) a' w' → K a' w') → if Region.wanted o (yielded ops (⟨#[y0, y1, y2, y3, y4, y5, y6, y7, x8, y9, y10, y11, y12, y13, y14, y15, y16, y17, y18, y19, y20, y21, y22, y23, y24, y25, y26, y27, y28, y29, y30, y31, y32, y33, y34, y35, y36, y37, y38, y39, y40, y41, y42, y43, y44, y45, y46, y47, y48, y49, y50, y51, y52, y53, y54, y55, y56, y57, y58, y59, x60, x61, x62, x63, x64, x65, x66, y67, y68, y69, y70, y71, y72, y73, y74, y75, y76, y77, y78, y79, y80, y81, y82, y83, y84, y85, y86, y87, y88, y89, y90, y91, y92, y93, y94, y95, y96, y97, y98, y99, y100, y101, y102, y103, y104, y105, y106, y107, y108, y109, y110, y111, y112, y113, y114, y115, y116, y117, y118, y119, y120, y121, y122, y123, y124, y125, y126, y127, y128, y129, y130, y131, y132, y133, y134, y135, y136, y137, y138, y139, y140, y141, y142, y143, y144, y145, y146, y147, y148, y149, y150, y151, y152, y153, y154, y155, y156, y157, y158, y159, y160, y161, y162, y163, y164, y165, y166, y167, y168, y169, y170, y171, y172, y173, y174, y175, y176, y177, y178, y179, y180, y181, y182, y183, y184, y185, y186, y187, y188, y189, y190, y191, y192, y193, y194, y195, y196, y197, y198, y199, y200, y201, y202, y203, y204, y205, y206, y207, y208, y209, y210, y211, y212, y213, y214, y215, y216, y217, y218, y219, y220, y221, y222, y223, y224, y225, y226, y227, y228, y229, y230, y231, y232, y233, y234, y235, y236, y237, y238, y239, y240, y241, y242, y243, y244, y245, y246, y247, y248, y249, y250, y251, y252, y253, y254, y255, y256, y257, y258, y259, y260, y261, y262, y263, y264, y265, y266, y267, y268, y269, y270, y271, y272, y273, y274, y275, y276, y277, y278, y279, y280, y281, y282, y283, y284, y285, y286, y287, y288, y289, y290, y291, y292, y293, y294, y295, y296, y297, y298, y299, y300, y301, y302, y303, y304, y305], []⟩ : Act).tmps) = true then Oper.wp P o ⟨#[y0, y1, y2, y3, y4, y5, y6, y7, x8, y9, y10, y11, y12, y13, y14, y15, y16, y17, y18, y19, y20, y21, y22, y23, y24, y25, y26, y27, y28, y29, y30, y31, y32, y33, y34, y35, y36, y37, y38, y39, y40, y41, y42, y43, y44, y45, y46, y47, y48, y49, y50, y51, y52, y53, y54, y55, y56, y57, y58, y59, x60, x61, x62, x63, x64, x65, x66, y67, y68, y69, y70, y71, y72, y73, y74, y75, y76, y77, y78, y79, y80, y81, y82, y83, y84, y85, y86, y87, y88, y89, y90, y91, y92, y93, y94, y95, y96, y97, y98, y99, y100, y101, y102, y103, y104, y105, y106, y107, y108, y109, y110, y111, y112, y113, y114, y115, y116, y117, y118, y119, y120, y121, y122, y123, y124, y125, y126, y127, y128, y129, y130, y131, y132, y133, y134, y135, y136, y137, y138, y139, y140, y141, y142, y143, y144, y145, y146, y147, y148, y149, y150, y151, y152, y153, y154, y155, y156, y157, y158, y159, y160, y161, y162, y163, y164, y165, y166, y167, y168, y169, y170, y171, y172, y173, y174, y175, y176, y177, y178, y179, y180, y181, y182, y183, y184, y185, y186, y187, y188, y189, y190, y191, y192, y193, y194, y195, y196, y197, y198, y199, y200, y201, y202, y203, y204, y205, y206, y207, y208, y209, y210, y211, y212, y213, y214, y215, y216, y217, y218, y219, y220, y221, y222, y223, y224, y225, y226, y227, y228, y229, y230, y231, y232, y233, y234, y235, y236, y237, y238, y239, y240, y241, y242, y243, y244, y245, y246, y247, y248, y249, y250, y251, y252, y253, y254, y255, y256, y257, y258, y259, y260, y261, y262, y263, y264, y265, y266, y267, y268, y269, y270, y271, y272, y273, y274, y275, y276, y277, y278, y279, y280, y281, y282, y283, y284, y285, y286, y287, y288, y289, y290, y291, y292, y293, y294, y295, y296, y297, y298, y299, y300, y301, y302, y303, y304, y305], []⟩ W K Q else K ((⟨#[y0, y1, y2, y3, y4, y5, y6, y7, x8, y9, y10, y11, y12, y13, y14, y15, y16, y17, y18, y19, y20, y21, y22, y23, y24, y25, y26, y27, y28, y29, y30, y31, y32, y33, y34, y35, y36, y37, y38, y39, y40, y41, y42, y43, y44, y45, y46, y47, y48, y49, y50, y51, y52, y53, y54, y55, y56, y57, y58, y59, x60, x61, x62, x63, x64, x65, x66, y67, y68, y69, y70, y71, y72, y73, y74, y75, y76, y77, y78, y79, y80, y81, y82, y83, y84, y85, y86, y87, y88, y89, y90, y91, y92, y93, y94, y95, y96, y97, y98, y99, y100, y101, y102, y103, y104, y105, y106, y107, y108, y109, y110, y111, y112, y113, y114, y115, y116, y117, y118, y119, y120, y121, y122, y123, y124, y125, y126, y127, y128, y129, y130, y131, y132, y133, y134, y135, y136, y137, y138, y139, y140, y141, y142, y143, y144, y145, y146, y147, y148, y149, y150, y151, y152, y153, y154, y155, y156, y157, y158, y159, y160, y161, y162, y163, y164, y165, y166, y167, y168, y169, y170, y171, y172, y173, y174, y175, y176, y177, y178, y179, y180, y181, y182, y183, y184, y185, y186, y187, y188, y189, y190, y191, y192, y193, y194, y195, y196, y197, y198, y199, y200, y201, y202, y203, y204, y205, y206, y207, y208, y209, y210, y211, y212, y213, y214, y215, y216, y217, y218, y219, y220, y221, y222, y223, y224, y225, y226, y227, y228, y229, y230, y231, y232, y233, y234, y235, y236, y237, y238, y239, y240, y241, y242, y243, y244, y245, y246, y247, y248, y249, y250, y251, y252, y253, y254, y255, y256, y257, y258, y259, y260, y261, y262, y263, y264, y265, y266, y267, y268, y269, y270, y271, y272, y273, y274, y275, y276, y277, y278, y279, y280, y281, y282, y283, y284, y285, y286, y287, y288, y289, y290, y291, y292, y293, y294, y295, y296, y297, y298, y299, y300, y301, y302, y303, y304, y305], []⟩ : Act).put o.dst undef) W) : StepI P ops (IE10 W1 N0 ao c S bo bc bs y0 y1 y2 y3 y4 y5 y6 y7 y9 y10 y11 y12 y13 y14 y15 y16 y17 y18 y19 y20 y21 y22 y23 y24 y25 y26 y27 y28 y29 y30 y31 y32 y33 y34 y35 y36 y37 y38 y39 y40 y41 y42 y43 y44 y45 y46 y47 y48 y49 y50 y51 y52 y53 y54 y55 y56 y57 y58 y59 y67 y68 y69 y70 y71 y72 y73 y74 y75 y76 y77 y78 y79 y80 y81 y82 y83 y84 y85 y86 y87 y88 y89 y90 y91 y92 y93 y94 y95 y96 y97 y98 y99 y100 y101 y102 y103 y104 y105 y106 y107 y108 y109 y110 y111 y112 y113 y114 y115 y116 y117 y118 y119 y120 y121 y122 y123 y124 y125 y126 y127 y128 y129 y130 y131 y132 y133 y134 y135 y136 y137 y138 y139 y140 y141 y142 y143 y144 y145 y146 y147 y148 y149 y150 y151 y152 y153 y154 y155 y156 y157 y158 y159 y160 y161 y162 y163 y164 y165 y166 y167 y168 y169 y170 y171 y172 y173 y174 y175 y176 y177 y178 y179 y180 y181 y182 y183 y184 y185 y186 y187 y188 y189 y190 y191 y192 y193 y194 y195 y196 y197 y198 y199 y200 y201 y202 y203 y204 y205 y206 y207 y208 y209 y210 y211 y212 y213 y214 y215 y216 y217 y218 y219 y220 y221 y222 y223 y224 y225 y226 y227 y228 y229 y230 y231 y232 y233 y234 y235 y236 y237 y238 y239 y240 y241 y242 y243 y244 y245 y246 y247 y248 y249 y250 y251 y252 y253 y254 y255 y256 y257 y258 y259 y260 y261 y262 y263 y264 y265 y266 y267 y268 y269 y270 y271 y272 y273 y274 y275 y276 y277 y278 y279 y280 y281 y282 y283 y284 y285 y286 y287 y288 y289 y290 y291 y292 y293 y294 y295 y296 y297 y298 y299 y300 y301 y302 y303 y304 y305) Q i o := by
  rintro L a W ⟨x60, x61, x62, x63, x64, x65, x66, x8, rfl, h⟩
  exact hq _ _ _ _ _ _ _ _ _ _ h
theorem E10.ends {W1 : World} {N0 : Nat} {ao : Option Addr} {c S : Nat} {bo : Option Addr} {bc : Nat} {bs : List By} {y0 y1 y2 y3 y4 y5 y6 y7 y9 y10 y11 y12 y13 y14 y15 y16 y17 y18 y19 y20 y21 y22 y23 y24 y25 y26 y27 y28 y29 y30 y31 y32 y33 y34 y35 y36 y37 y38 y39 y40 y41 y42 y43 y44 y45 y46 y47 y48 y49 y50 y51 y52 y53 y54 y55 y56 y57 y58 y59 y67 y68 y69 y70 y71 y72 y73 y74 y75 y76 y77 y78 y79 y80 y81 y82 y83 y84 y85 y86 y87 y88 y89 y90 y91 y92 y93 y94 y95 y96 y97 y98 y99 y100 y101 y102 y103 y104 y105 y106 y107 y108 y109 y110 y111 y112 y113 y114 y115 y116 y117 y118 y119 y120 y121 y122 y123 y124 y125 y126 y127 y128 y129 y130 y131 y132 y133 y134 y135 y136 y137 y138 y139 y140 y141 y142 y143 y144 y145 y146 y147 y148 y149 y150 y151 y152 y153 y154 y155 y156 y157 y158 y159 y160 y161 y162 y163 y164 y165 y166 y167 y168 y169 y170 y171 y172 y173 y174 y175 y176 y177 y178 y179 y180 y181 y182 y183 y184 y185 y186 y187 y188 y189 y190 y191 y192 y193 y194 y195 y196 y197 y198 y199 y200 y201 y202 y203 y204 y205 y206 y207 y208 y209 y210 y211 y212 y213 y214 y215 y216 y217 y218 y219 y220 y221 y222 y223 y224 y225 y226 y227 y228 y229 y230 y231 y232 y233 y234 y235 y236 y237 y238 y239 y240 y241 y242 y243 y244 y245 y246 y247 y248 y249 y250 y251 y252 y253 y254 y255 y256 y257 y258 y259 y260 y261 y262 y263 y264 y265 y266 y267 y268 y269 y270 y271 y272 y273 y274 y275 y276 y277 y278 y279 y280 y281 y282 y283 y284 y285 y286 y287 y288 y289 y290 y291 y292 y293 y294 y295 y296 y297 y298 y299 y300 y301 y302 y303 y304 y305 : Value} {mm_ : Nat} {Q : Exit → Act → World → Prop} (hq : ∀ x60 x61 x62 x63 x64 x65 x66 x8 (L : Nat → Bool) (W : World), (∀ j, j < mm_ → L j = true) → E10 W1 N0 ao c S bo bc bs L x60 x61 x62 x63 x64 x65 x66 x8 W → Q .normal ⟨#[y0, y1, y2, y3, y4, y5, y6, y7, x8, y9, y10, y11, y12, y13, y14, y15, y16, y17, y18, y19, y20, y21, y22, y23, y24, y25, y26, y27, y28, y29, y30, y31, y32, y33, y34, y35, y36, y37, y38, y39, y40, y41, y42, y43, y44, y45, y46, y47, y48, y49, y50, y51, y52, y53, y54, y55, y56, y57, y58, y59, x60, x61, x62, x63, x64, x65, x66, y67, y68, y69, y70, y71, y72, y73, y74, y75, y76, y77, y78, y79, y80, y81, y82, y83, y84, y85, y86, y87, y88, y89, y90, y91, y92, y93, y94, y95, y96, y97, y98, y99, y100, y101, y102, y103, y104, y105, y106, y107, y108, y109, y110, y111, y112, y113, y114, y115, y116, y117, y118, y119, y120, y121, y122, y123, y124, y125, y126, y127, y128, y129, y130, y131, y132, y133, y134, y135, y136, y137, y138, y139, y140, y141, y142, y143, y144, y145, y146, y147, y148, y149, y150, y151, y152, y153, y154, y155, y156, y157, y158, y159, y160, y161, y162, y163, y164, y165, y166, y167, y168, y169, y170, y171, y172, y173, y174, y175, y176, y177, y178, y179, y180, y181, y182, y183, y184, y185, y186, y187, y188, y189, y190, y191, y192, y193, y194, y195, y196, y197, y198, y199, y200, y201, y202, y203, y204, y205, y206, y207, y208, y209, y210, y211, y212, y213, y214, y215, y216, y217, y218, y219, y220, y221, y222, y223, y224, y225, y226, y227, y228, y229, y230, y231, y232, y233, y234, y235, y236, y237, y238, y239, y240, y241, y242, y243, y244, y245, y246, y247, y248, y249, y250, y251, y252, y253, y254, y255, y256, y257, y258, y259, y260, y261, y262, y263, y264, y265, y266, y267, y268, y269, y270, y271, y272, y273, y274, y275, y276, y277, y278, y279, y280, y281, y282, y283, y284, y285, y286, y287, y288, y289, y290, y291, y292, y293, y294, y295, y296, y297, y298, y299, y300, y301, y302, y303, y304, y305], []⟩ W) : ∀ L a' w', (∀ j, j < mm_ → L j = true) → IE10 W1 N0 ao c S bo bc bs y0 y1 y2 y3 y4 y5 y6 y7 y9 y10 y11 y12 y13 y14 y15 y16 y17 y18 y19 y20 y21 y22 y23 y24 y25 y26 y27 y28 y29 y30 y31 y32 y33 y34 y35 y36 y37 y38 y39 y40 y41 y42 y43 y44 y45 y46 y47 y48 y49 y50 y51 y52 y53 y54 y55 y56 y57 y58 y59 y67 y68 y69 y70 y71 y72 y73 y74 y75 y76 y77 y78 y79 y80 y81 y82 y83 y84 y85 y86 y87 y88 y89 y90 y91 y92 y93 y94 y95 y96 y97 y98 y99 y100 y101 y102 y103 y104 y105 y106 y107 y108 y109 y110 y111 y112 y113 y114 y115 y116 y117 y118 y119 y120 y121 y122 y123 y124 y125 y126 y127 y128 y129 y130 y131 y132 y133 y134 y135 y136 y137 y138 y139 y140 y141 y142 y143 y144 y145 y146 y147 y148 y149 y150 y151 y152 y153 y154 y155 y156 y157 y158 y159 y160 y161 y162 y163 y164 y165 y166 y167 y168 y169 y170 y171 y172 y173 y174 y175 y176 y177 y178 y179 y180 y181 y182 y183 y184 y185 y186 y187 y188 y189 y190 y191 y192 y193 y194 y195 y196 y197 y198 y199 y200 y201 y202 y203 y204 y205 y206 y207 y208 y209 y210 y211 y212 y213 y214 y215 y216 y217 y218 y219 y220 y221 y222 y223 y224 y225 y226 y227 y228 y229 y230 y231 y232 y233 y234 y235 y236 y237 y238 y239 y240 y241 y242 y243 y244 y245 y246 y247 y248 y249 y250 y251 y252 y253 y254 y255 y256 y257 y258 y259 y260 y261 y262 y263 y264 y265 y266 y267 y268 y269 y270 y271 y272 y273 y274 y275 y276 y277 y278 y279 y280 y281 y282 y283 y284 y285 y286 y287 y288 y289 y290 y291 y292 y293 y294 y295 y296 y297 y298 y299 y300 y301 y302 y303 y304 y305 L a' w' → Q .normal a' w' := by
  rintro L a W hall ⟨x60, x61, x62, x63, x64, x65, x66, x8, rfl, h⟩
  exact hq _ _ _ _ _ _ _ _ _ _ hall h
set_option maxHeartbeats 4000000 in
set_option maxRecDepth 1000000 in
theorem st4 (c2 c3 c4 c6 c7 c8 c9 c10 c11 c12 c13 c14 c15 c16 c17 c18 c19 c20 c21 c22 c23 c24 c25 c26 c27 c28 c29 c30 c31 c32 c33 c34 c35 c36 c37 c38 c39 c40 c41 c42 c43 c44 c45 c46 c47 c48 c49 c50 c51 c52 c53 c54 c55 c56 c57 c58 c59 c60 c61 c62 c63 c64 c65 c66 c67 c68 c69 c70 c71 c72 c73 c74 c75 c76 c77 c78 c79 c80 c81 c82 c83 c84 c85 c86 c87 c88 c89 c90 c91 c92 c93 c94 c95 c96 c97 c98 c99 c100 c101 c102 c103 c104 c105 c106 c107 c108 c109 c110 c111 c112 c113 c114 c115 c116 c117 c118 c119 c120 c121 c122 c123 c124 c125 c126 c127 c128 c129 c130 c131 c132 c133 c134 c135 c136 c137 c138 c139 c140 c141 c142 c143 c144 c145 c146 c147 c148 c149 c150 c151 c152 c153 c154 c155 c156 c157 c158 c159 c160 c161 c162 c163 c164 c165 c166 c167 c168 c169 c170 c171 c172 c173 c174 c175 c176 c177 c178 c179 c180 c181 c182 c183 c184 c185 c186 c187 c188 c189 c190 c191 c192 c193 c194 c195 c196 c197 c198 c199 c200 c201 c202 c203 c204 c205 c206 c207 c208 c209 c210 c211 c212 c213 c214 c215 c216 c217 c218 c219 c220 c221 c222 c223 c224 c225 c226 c227 c228 c229 c230 c231 c232 c233 c234 c235 c236 c237 c238 c239 c240 c241 c242 c243 c244 c245 c246 c247 c248 c249 c250 c251 c252 c253 c254 c255 c256 c257 c258 c259 c260 c261 c262 c263 c264 c265 c266 c267 c268 c269 c270 c271 c272 c273 c274 c275 c276 c277 c278 c279 c280 c281 c282 c283 c284 c285 c286 c287 c288 c289 c290 c291 c292 c293 c294 c295 c296 c297 c298 c299 c300 c301 c302 c303 c304 c305 : Value) (w Wa : World) (ao : Option Addr) (n cap : Nat) (B off : Nat) (vs : List Value) (l : Secs) (hln : l.length = n) (hn : n ≤ 70) (hao : 0 < n → ao = some ⟨B, off, none⟩) (hin : SecIn w B off vs l) (hbg : ∀ i, i < l.length → (l.getD i (0, [])).2.length ≤ 140737488351232)
    (qo : Option Addr) (m qc D dff : Nat) (xs : List AskV) (hm : xs.length = m) (hm47 : m ≤ 140737488355328) (hqo : 0 < m → qo = some ⟨D, dff, none⟩) (has : AskIn w D dff xs) (hbig : ∀ (i : Nat) (a : AskV), xs[i]? = some a → a.b.length ≤ 140737488351232)
    (O : Nat) (hO : O1 w.heap.size w Wa O n l [] 0) :
    Code.wp Try.prog (dropS 4 (Try.f6.body.getD .skip)) (bodyPost Try.prog Try.f6 (KP w)) ⟨#[.slice ao n cap, .slice qo m qc, c2, c3, c4, .slice (some ⟨O, 0, none⟩) 0 (n + 2), c6, c7, c8, c9, c10, c11, c12, c13, c14, c15, c16, c17, c18, c19, c20, c21, c22, c23, c24, c25, c26, c27, c28, c29, c30, c31, c32, c33, c34, c35, c36, c37, c38, c39, c40, c41, c42, c43, c44, c45, c46, c47, c48, c49, c50, c51, c52, c53, c54, c55, c56, c57, c58, c59, c60, c61, c62, c63, c64, c65, c66, c67, c68, c69, c70, c71, c72, c73, c74, c75, c76, c77, c78, c79, c80, c81, c82, c83, c84, c85, c86, c87, c88, c89, c90, c91, c92, c93, c94, c95, c96, c97, c98, c99, c100, c101, c102, c103, c104, c105, c106, c107, c108, c109, c110, c111, c112, c113, c114, c115, c116, c117, c118, c119, c120, c121, c122, c123, c124, c125, c126, c127, c128, c129, c130, c131, c132, c133, c134, c135, c136, c137, c138, c139, c140, c141, c142, c143, c144, c145, c146, c147, c148, c149, c150, c151, c152, c153, c154, c155, c156, c157, c158, c159, c160, c161, c162, c163, c164, c165, c166, c167, c168, c169, c170, c171, c172, c173, c174, c175, c176, c177, c178, c179, c180, c181, c182, c183, c184, c185, c186, c187, c188, c189, c190, c191, c192, c193, c194, c195, c196, c197, c198, c199, c200, c201, c202, c203, c204, c205, c206, c207, c208, c209, c210, c211, c212, c213, c214, c215, c216, c217, c218, c219, c220, c221, c222, c223, c224, c225, c226, c227, c228, c229, c230, c231, c232, c233, c234, c235, c236, c237, c238, c239, c240, c241, c242, c243, c244, c245, c246, c247, c248, c249, c250, c251, c252, c253, c254, c255, c256, c257, c258, c259, c260, c261, c262, c263, c264, c265, c266, c267, c268, c269, c270, c271, c272, c273, c274, c275, c276, c277, c278, c279, c280, c281, c282, c283, c284, c285, c286, c287, c288, c289, c290, c291, c292, c293, c294, c295, c296, c297, c298, c299, c300, c301, c302, c303, c304, c305], []⟩ Wa := by
  have NXT : Hid (∀ (W' : World) (qs : List (Nat × Nat)), O1 w.heap.size w W' O n l qs n → ∀ (c2 c3 c4 c6 c7 c8 c9 c10 c11 c12 c13 c14 c15 c16 c17 c18 c19 c20 c21 c22 c23 c24 c25 c26 c27 c28 c29 c30 c31 c32 c33 c34 c35 c36 c37 c38 c39 c40 c41 c42 c43 c44 c45 c46 c47 c48 c49 c50 c51 c52 c53 c54 c55 c56 c57 c58 c59 c60 c61 c62 c63 c64 c65 c66 c67 c68 c69 c70 c71 c72 c73 c74 c75 c76 c77 c78 c79 c80 c81 c82 c83 c84 c85 c86 c87 c88 c89 c90 c91 c92 c93 c94 c95 c96 c97 c98 c99 c100 c101 c102 c103 c104 c105 c106 c107 c108 c109 c110 c111 c112 c113 c114 c115 c116 c117 c118 c119 c120 c121 c122 c123 c124 c125 c126 c127 c128 c129 c130 c131 c132 c133 c134 c135 c136 c137 c138 c139 c140 c141 c142 c143 c144 c145 c146 c147 c148 c149 c150 c151 c152 c153 c154 c155 c156 c157 c158 c159 c160 c161 c162 c163 c164 c165 c166 c167 c168 c169 c170 c171 c172 c173 c174 c175 c176 c177 c178 c179 c180 c181 c182 c183 c184 c185 c186 c187 c188 c189 c190 c191 c192 c193 c194 c195 c196 c197 c198 c199 c200 c201 c202 c203 c204 c205 c206 c207 c208 c209 c210 c211 c212 c213 c214 c215 c216 c217 c218 c219 c220 c221 c222 c223 c224 c225 c226 c227 c228 c229 c230 c231 c232 c233 c234 c235 c236 c237 c238 c239 c240 c241 c242 c243 c244 c245 c246 c247 c248 c249 c250 c251 c252 c253 c254 c255 c256 c257 c258 c259 c260 c261 c262 c263 c264 c265 c266 c267 c268 c269 c270 c271 c272 c273 c274 c275 c276 c277 c278 c279 c280 c281 c282 c283 c284 c285 c286 c287 c288 c289 c290 c291 c292 c293 c294 c295 c296 c297 c298 c299 c300 c301 c302 c303 c304 c305 : Value), Code.wp Try.prog (dropS 5 (Try.f6.body.getD .skip)) (bodyPost Try.prog Try.f6 (KP w)) ⟨#[.slice ao n cap, .slice qo m qc, c2, c3, c4, .slice (some ⟨O, 0, none⟩) n (n + 2), c6, c7, c8, c9, c10, c11, c12, c13, c14, c15, c16, c17, c18, c19, c20, c21, c22, c23, c24, c25, c26, c27, c28, c29, c30, c31, c32, c33, c34, c35, c36, c37, c38, c39, c40, c41, c42, c43, c44, c45, c46, c47, c48, c49, c50, c51, c52, c53, c54, c55, c56, c57, c58, c59, c60, c61, c62, c63, c64, c65, c66, c67, c68, c69, c70, c71, c72, c73, c74, c75, c76, c77, c78, c79, c80, c81, c82, c83, c84, c85, c86, c87, c88, c89, c90, c91, c92, c93, c94, c95, c96, c97, c98, c99, c100, c101, c102, c103, c104, c105, c106, c107, c108, c109, c110, c111, c112, c113, c114, c115, c116, c117, c118, c119, c120, c121, c122, c123, c124, c125, c126, c127, c128, c129, c130, c131, c132, c133, c134, c135, c136, c137, c138, c139, c140, c141, c142, c143, c144, c145, c146, c147, c148, c149, c150, c151, c152, c153, c154, c155, c156, c157, c158, c159, c160, c161, c162, c163, c164, c165, c166, c167, c168, c169, c170, c171, c172, c173, c174, c175, c176, c177, c178, c179, c180, c181, c182, c183, c184, c185, c186, c187, c188, c189, c190, c191, c192, c193, c194, c195, c196, c197, c198, c199, c200, c201, c202, c203, c204, c205, c206, c207, c208, c209, c210, c211, c212, c213, c214, c215, c216, c217, c218, c219, c220, c221, c222, c223, c224, c225, c226, c227, c228, c229, c230, c231, c232, c233, c234, c235, c236, c237, c238, c239, c240, c241, c242, c243, c244, c245, c246, c247, c248, c249, c250, c251, c252, c253, c254, c255, c256, c257, c258, c259, c260, c261, c262, c263, c264, c265, c266, c267, c268, c269, c270, c271, c272, c273, c274, c275, c276, c277, c278, c279, c280, c281, c282, c283, c284, c285, c286, c287, c288, c289, c290, c291, c292, c293, c294, c295, c296, c297, c298, c299, c300, c301, c302, c303, c304, c305], []⟩ W') := fun W' qs h c2 c3 c4 c6 c7 c8 c9 c10 c11 c12 c13 c14 c15 c16 c17 c18 c19 c20 c21 c22 c23 c24 c25 c26 c27 c28 c29 c30 c31 c32 c33 c34 c35 c36 c37 c38 c39 c40 c41 c42 c43 c44 c45 c46 c47 c48 c49 c50 c51 c52 c53 c54 c55 c56 c57 c58 c59 c60 c61 c62 c63 c64 c65 c66 c67 c68 c69 c70 c71 c72 c73 c74 c75 c76 c77 c78 c79 c80 c81 c82 c83 c84 c85 c86 c87 c88 c89 c90 c91 c92 c93 c94 c95 c96 c97 c98 c99 c100 c101 c102 c103 c104 c105 c106 c107 c108 c109 c110 c111 c112 c113 c114 c115 c116 c117 c118 c119 c120 c121 c122 c123 c124 c125 c126 c127 c128 c129 c130 c131 c132 c133 c134 c135 c136 c137 c138 c139 c140 c141 c142 c143 c144 c145 c146 c147 c148 c149 c150 c151 c152 c153 c154 c155 c156 c157 c158 c159 c160 c161 c162 c163 c164 c165 c166 c167 c168 c169 c170 c171 c172 c173 c174 c175 c176 c177 c178 c179 c180 c181 c182 c183 c184 c185 c186 c187 c188 c189 c190 c191 c192 c193 c194 c195 c196 c197 c198 c199 c200 c201 c202 c203 c204 c205 c206 c207 c208 c209 c210 c211 c212 c213 c214 c215 c216 c217 c218 c219 c220 c221 c222 c223 c224 c225 c226 c227 c228 c229 c230 c231 c232 c233 c234 c235 c236 c237 c238 c239 c240 c241 c242 c243 c244 c245 c246 c247 c248 c249 c250 c251 c252 c253 c254 c255 c256 c257 c258 c259 c260 c261 c262 c263 c264 c265 c266 c267 c268 c269 c270 c271 c272 c273 c274 c275 c276 c277 c278 c279 c280 c281 c282 c283 c284 c285 c286 c287 c288 c289 c290 c291 c292 c293 c294 c295 c296 c297 c298 c299 c300 c301 c302 c303 c304 c305 => st5 c2 c3 c4 c6 c7 c8 c9 c10 c11 c12 c13 c14 c15 c16 c17 c18 c19 c20 c21 c22 c23 c24 c25 c26 c27 c28 c29 c30 c31 c32 c33 c34 c35 c36 c37 c38 c39 c40 c41 c42 c43 c44 c45 c46 c47 c48 c49 c50 c51 c52 c53 c54 c55 c56 c57 c58 c59 c60 c61 c62 c63 c64 c65 c66 c67 c68 c69 c70 c71 c72 c73 c74 c75 c76 c77 c78 c79 c80 c81 c82 c83 c84 c85 c86 c87 c88 c89 c90 c91 c92 c93 c94 c95 c96 c97 c98 c99 c100 c101 c102 c103 c104 c105 c106 c107 c108 c109 c110 c111 c112 c113 c114 c115 c116 c117 c118 c119 c120 c121 c122 c123 c124 c125 c126 c127 c128 c129 c130 c131 c132 c133 c134 c135 c136 c137 c138 c139 c140 c141 c142 c143 c144 c145 c146 c147 c148 c149 c150 c151 c152 c153 c154 c155 c156 c157 c158 c159 c160 c161 c162 c163 c164 c165 c166 c167 c168 c169 c170 c171 c172 c173 c174 c175 c176 c177 c178 c179 c180 c181 c182 c183 c184 c185 c186 c187 c188 c189 c190 c191 c192 c193 c194 c195 c196 c197 c198 c199 c200 c201 c202 c203 c204 c205 c206 c207 c208 c209 c210 c211 c212 c213 c214 c215 c216 c217 c218 c219 c220 c221 c222 c223 c224 c225 c226 c227 c228 c229 c230 c231 c232 c233 c234 c235 c236 c237 c238 c239 c240 c241 c242 c243 c244 c245 c246 c247 c248 c249 c250 c251 c252 c253 c254 c255 c256 c257 c258 c259 c260 c261 c262 c263 c264 c265 c266 c267 c268 c269 c270 c271 c272 c273 c274 c275 c276 c277 c278 c279 c280 c281 c282 c283 c284 c285 c286 c287 c288 c289 c290 c291 c292 c293 c294 c295 c296 c297 c298 c299 c300 c301 c302 c303 c304 c305 w W' ao n cap B off vs l hln hn hao hin hbg qo m qc D dff xs hm hm47 hqo has hbig O qs h
  have HO0 : Hid (O1 w.heap.size w Wa O n l [] 0) := hO
  have HIN : Hid (∀ W', Below w.heap.size w W' → SecIn W' B off vs l) := fun W' h => hin.keep h
  have HAO : Hid (0 < n → ao = some ⟨B, off, none⟩) := hao
  have HLN : Hid (l.length = n) := hln
  have HBG : Hid (∀ i, i < l.length → (l.getD i (0, [])).2.length ≤ 140737488351232) := hbg
  clear hO hin has hao hln hbg hbig hm hm47 hqo
  conv => arg 2; whnf
  refine wp_seq_k fun K hK => ?_
  have HKK : Hid _ := hK
  clear hK
  go_wp2
  go_loopw [5, 48] (fun ov iv wr => ∃ (k : Nat) (qs : List (Nat × Nat)), k ≤ n ∧ ov = .slice (some ⟨O, 0, none⟩) k (n + 2) ∧ iv = .int .i64 k ∧ Hid (O1 w.heap.size w wr O n l qs k)) (fun _ iv _ => n - (intOf iv).toNat)
  case atStart => exact ⟨0, [], by omega, rfl, rfl, HO0⟩
  case round =>
    clear HO0
    obtain ⟨k, qs, hk, rfl, rfl, HO⟩ := hrel
    by_cases hlt : k < n
    · obtain rfl := HAO.out (by omega)
      have y0 : (0 : Int) ≤ (k : Int) := by omega
      have y1 : (k : Int) < (n : Int) := by omega
      obtain ⟨wo, hwo⟩ : ∃ wo, wo = wr := ⟨wr, rfl⟩
      subst hwo
      have hkl : k < l.length := by rw [HLN.out]; exact hlt
      obtain ⟨C, hr, hcl, hck, hcs, hz⟩ := HO.out.row
      have HROW : Hid (Row wo O 42 C) := hr
      have HCL : Hid (C.length = (n + 2) * 2) := hcl
      have HNW : Hid (w.heap.size ≤ wo.heap.size) := HO.out.bel.size
      have HPU : Hid (∀ (W2 w3 : World) (q c : Nat), Below wo.heap.size wo W2 → Own wo.heap.size W2 (.slice (some ⟨q, 0, none⟩) ((l.getD k (0, [])).2.length + 3) c) ((l.getD k (0, [])).2 ++ mk3) → SameBut O W2 w3 → Row w3 O 42 (C.take (k * 2) ++ [.int .i64 (l.getD k (0, [])).1, .slice (some ⟨q, 0, none⟩) (l.getD k (0, [])).2.length c] ++ C.drop (k * 2 + 2)) → O1 w.heap.size w w3 O n l (qs ++ [(q, c)]) (k + 1)) :=
        fun W2 w3 q c b2 ho h3 hr3 => HO.out.push hlt C hcl hck hcs hz b2 HNW.out q c ho h3 hr3
      have hsc := HIN.out _ HO.out.bel
      obtain ⟨bo, bc, ev, hbb, hbc, hbn⟩ := hsc.bytes k hkl
      have hrg : wo.rangeAt B (off + k * 2) [.int .i64 (l.getD k (0, [])).1, .slice bo (l.getD k (0, [])).2.length bc] := by
        intro q v hv
        match q, hv with
        | 0, hv => injection hv with hv; subst hv; exact hsc.key k hkl
        | 1, hv => injection hv with hv; subst hv; rw [← ev]; exact hsc.sl k hkl
      have HIB0 : Hid (IsB wo bo (l.getD k (0, [])).2) := hbb
      have HBIG : Hid ((l.getD k (0, [])).2.length ≤ 140737488351232) := HBG.out k hkl
      have HNIL : Hid (bo = none → bc = 0) := hbn
      clear hr hcl hck hcs hz hsc hbb hbc hbn ev hkl HO
      generalize (l.getD k (0, [])).1 = kk at *
      generalize (l.getD k (0, [])).2 = bs at *
      generalize hS : wo.heap.size = S at *
      have hOS : O < S := by rw [← hS]; exact HROW.out.lt
      go_wp2_with (first | (refine wpList_load_mid rfl 42 (.tmp 50) rfl B (off + k * 2) rfl [.int .i64 kk, .slice bo bs.length bc] _ hrg Try.underlying42 rfl (by kernel_rfl) ?_) | (refine wpList_store_Row rfl 42 _ _ rfl S 42 0 [.int .i64 0, .slice none 0 0] [.int .i64 kk, .slice bo bs.length bc] (Row.at wo _ _ _ _ hS.symm rfl) (by simp) rfl rfl (by kernel_rfl) (by intro u hu; simp at hu; rcases hu with rfl | rfl <;> rfl) ?_; intro w4 hr4 hs4; have r4 : Hid (Row w4 S 42 [.int .i64 kk, .slice bo bs.length bc]) := row_whole hr4 (by simp); have b4 : Hid (Below S wo w4) := hs4.below ((Below.refl _ _).alloc (by omega) _) (Nat.le_refl _); clear hr4 hs4 hrg))
      have HC : Hid (∀ W', Below w4.heap.size w4 W' → W'.cell? ⟨S, 1, none⟩ = some (.slice bo bs.length bc)) := fun W' h => (r4.out.below h r4.out.lt).cell 1 _ rfl
      have HIB : Hid (∀ W', Below w4.heap.size w4 W' → IsB W' bo bs) := fun W' h => HIB0.out.below (b4.out.trans (h.mono (by rw [← hS]; exact b4.out.size))) (by rw [hS]; exact Nat.le_refl _)
      have HWR : Hid (IntKind.i64.wrap ((bs.length : Int) + 3) = (bs.length : Int) + 3) := by
        show _ = _
        have := HBIG.out
        exact i64_in _ (by omega) (by omega)
      refine wp_region_inv (IE9 w4 S bo bc bs _ _ _ _ _ _ _ _ _ _ _ _ _ _ _ _ _ _ _ _ _ _ _ _ _ _ _ _ _ _ _ _ _ _ _ _ _ _ _ _ _ _ _ _ _ _ _ _ _ _ _ _ _ _ _ _ _ _ _ _ _ _ _ _ _ _ _ _ _ _ _ _ _ _ _ _ _ _ _ _ _ _ _ _ _ _ _ _ _ _ _ _ _ _ _ _ _ _ _ _ _ _ _ _ _ _ _ _ _ _ _ _ _ _ _ _ _ _ _ _ _ _ _ _ _ _ _ _ _ _ _ _ _ _ _ _ _ _ _ _ _ _ _ _ _ _ _ _ _ _ _ _ _ _ _ _ _ _ _ _ _ _ _ _ _ _ _ _ _ _ _ _ _ _ _ _ _ _ _ _ _ _ _ _ _ _ _ _ _ _ _ _ _ _ _ _ _ _ _ _ _ _ _ _ _ _ _ _ _ _ _ _ _ _ _ _ _ _ _ _ _ _ _ _ _ _ _ _ _ _ _ _ _ _ _ _ _ _ _ _ _ _ _ _ _ _ _ _ _ _ _ _ _ _ _ _ _ _ _ _ _ _ _ _ _ _ _ _ _ _ _ _ _ _ _ _ _ _ _ _ _ _ _ _ _ _ _ _ _ _ _ _ _ _ _ _ _) (by kernel_rfl) (by kernel_rfl) ⟨_, _, _, _, _, _, _, _, _, rfl, ⟨BX.zero _ _ _ _ _, fun k => (by cases k), fun k => (by cases k), fun k => (by cases k), fun k => (by cases k), fun k => (by cases k), fun k => (by cases k)⟩⟩ ?_ ?_
      · refine .cons ?_ (.cons ?_ (.cons ?_ (.cons ?_ (.cons ?_ (.cons ?_ (.cons ?_ (.cons ?_ (.cons ?_ .nil))))))))
        all_goals (refine E9.step ?_; intro x52 x53 x54 x55 x56 x57 x58 x59 x8 L W hI hL hd K hK)
        · rw [if_pos (by rfl)]
          go_simp
          exact hK.out _ _ ⟨_, _, _, _, _, _, _, _, _, rfl, hI.s0⟩
        · have hx0 := hI.p0 (hd 0 (by decide))
          subst hx0
          rw [if_pos (by rfl)]
          have hc := HC.out _ hI.x.bel
          go_simp
          exact hK.out _ _ ⟨_, _, _, _, _, _, _, _, _, rfl, hI.s1⟩
        · have hx1 := hI.p1 (hd 1 (by decide))
          subst hx1
          rw [if_pos (by rfl)]
          go_simp
          exact hK.out _ _ ⟨_, _, _, _, _, _, _, _, _, rfl, hI.s2⟩
        · have hx2 := hI.p2 (hd 2 (by decide))
          subst hx2
          rw [if_pos (by rfl)]
          have hw := HWR.out
          go_simp
          exact hK.out _ _ ⟨_, _, _, _, _, _, _, _, _, rfl, hI.s3⟩
        · have hx3 := hI.p3 (hd 3 (by decide))
          subst hx3
          refine step_make_room rfl _ (.tmp 55) rfl (bs.length + 3) _ rfl rfl (by omega) (by have := HBIG.out; omega) ?_
          intro W2 ho4 hb4
          have hX := hI.x.s4 hL ho4 hb4
          exact hK.out _ _ ⟨_, _, _, _, _, _, _, _, _, rfl, hI.s4 hX⟩
        · rw [if_pos (by rfl)]
          go_simp
          exact hK.out _ _ ⟨_, _, _, _, _, _, _, _, _, rfl, hI.s5⟩
        · have hx5 := hI.p5 (hd 5 (by decide))
          subst hx5
          rw [if_pos (by rfl)]
          have hc := HC.out _ hI.x.bel
          go_simp
          exact hK.out _ _ ⟨_, _, _, _, _, _, _, _, _, rfl, hI.s6⟩
        · have hx6 := hI.p6 (hd 6 (by decide))
          subst hx6
          obtain ⟨ao4, c4, e4, ho4⟩ := hI.x.p4 (hd 4 (by decide)) hL
          have ob := HIB.out _ hI.x.bel
          refine step_append_more rfl (.tmp 56) (.tmp 58) rfl _ _ ao4 0 c4 [] e4 rfl ho4 hI.x.bel bo bs.length bc bs rfl rfl ob HNIL.out (by have := HBIG.out; omega) ?_
          intro ao7 c7 W2 ho7 hb7
          rw [Nat.zero_add] at ho7
          rw [Nat.zero_add]
          rw [List.nil_append] at ho7
          have hX := hI.x.s7 (hd 4 (by decide)) hL ho7 hb7
          exact hK.out _ _ ⟨_, _, _, _, _, _, _, _, _, rfl, hI.s7 hX⟩
        · rw [if_pos (by rfl)]
          have hX := hI.x.s8 (hd 7 (by decide))
          go_simp
          exact hK.out _ _ ⟨_, _, _, _, _, _, _, _, _, rfl, hI.s8 hX⟩
      · refine E9.ends ?_; intro x52 x53 x54 x55 x56 x57 x58 x59 x8 L W hall hI
        have hx0 := hI.p0 (hall 0 (by decide))
        subst hx0
        have hx1 := hI.p1 (hall 1 (by decide))
        subst hx1
        have hx2 := hI.p2 (hall 2 (by decide))
        subst hx2
        have hx3 := hI.p3 (hall 3 (by decide))
        subst hx3
        have hx5 := hI.p5 (hall 5 (by decide))
        subst hx5
        have hx6 := hI.p6 (hall 6 (by decide))
        subst hx6
        have hXe := hI.x
        rw [hall 4 (by decide)] at hXe
        rw [hall 7 (by decide)] at hXe
        rw [hall 8 (by decide)] at hXe
        clear hI hall
        try dsimp only
        obtain ⟨ao5, c5, e5, ho5⟩ := hXe.p7 rfl
        have e8 := hXe.p8 rfl
        subst e8
        subst e5
        have b5 := hXe.bel
        clear hXe HIB HC HWR
        obtain ⟨w5, hw5⟩ : ∃ w5, w5 = W := ⟨W, rfl⟩
        subst hw5
        generalize hG1 : w4.heap.size = G1 at *
        have hSG : S < G1 := by rw [← hG1]; exact r4.out.lt
        have r5 : Hid (Row w5 S 42 [.int .i64 kk, .slice bo bs.length bc]) := r4.out.below b5 hSG
        have b05 : Hid (Below S wo w5) := b4.out.trans (b5.mono (by omega))
        have HN0 : Hid (G1 ≤ w5.heap.size) := ho5.2
        have HC2 : Hid (∀ W', Below G1 w5 W' → W'.cell? ⟨S, 1, none⟩ = some (.slice bo bs.length bc)) := fun W' h => (r5.out.below h hSG).cell 1 _ rfl
        have HZ : Hid (∀ x1 x2 x6, BY G1 w5 ao5 c5 bs [161#8, 162#8, 163#8] false false false false x1 x2 x6 (.slice ao5 bs.length c5) w5.drew) := fun _ _ _ => BY.zero G1 w5 ao5 c5 bs _ ho5 _ _ _
        clear b5 ho5 r4 b4 hG1
        go_wp2_with fail
        refine wp_region_inv (IE10 w5 G1 ao5 c5 S bo bc bs _ _ _ _ _ _ _ _ _ _ _ _ _ _ _ _ _ _ _ _ _ _ _ _ _ _ _ _ _ _ _ _ _ _ _ _ _ _ _ _ _ _ _ _ _ _ _ _ _ _ _ _ _ _ _ _ _ _ _ _ _ _ _ _ _ _ _ _ _ _ _ _ _ _ _ _ _ _ _ _ _ _ _ _ _ _ _ _ _ _ _ _ _ _ _ _ _ _ _ _ _ _ _ _ _ _ _ _ _ _ _ _ _ _ _ _ _ _ _ _ _ _ _ _ _ _ _ _ _ _ _ _ _ _ _ _ _ _ _ _ _ _ _ _ _ _ _ _ _ _ _ _ _ _ _ _ _ _ _ _ _ _ _ _ _ _ _ _ _ _ _ _ _ _ _ _ _ _ _ _ _ _ _ _ _ _ _ _ _ _ _ _ _ _ _ _ _ _ _ _ _ _ _ _ _ _ _ _ _ _ _ _ _ _ _ _ _ _ _ _ _ _ _ _ _ _ _ _ _ _ _ _ _ _ _ _ _ _ _ _ _ _ _ _ _ _ _ _ _ _ _ _ _ _ _ _ _ _ _ _ _ _ _ _ _ _ _ _ _ _ _ _ _ _ _ _ _ _ _ _ _ _ _ _ _ _ _ _ _ _ _ _ _ _ _ _ _ _) (by kernel_rfl) (by kernel_rfl) ⟨_, _, _, _, _, _, _, _, rfl, ⟨HZ.out _ _ _, fun k => (by cases k), fun k => (by cases k), fun k => (by cases k), fun k => (by cases k), fun k => (by cases k), fun k => (by cases k)⟩⟩ ?_ ?_
        · refine .cons ?_ (.cons ?_ (.cons ?_ (.cons ?_ (.cons ?_ (.cons ?_ (.cons ?_ (.cons ?_ .nil)))))))
          all_goals (refine E10.step ?_; intro x60 x61 x62 x63 x64 x65 x66 x8 L W hI hL hd K hK)
          · rw [if_pos (by rfl)]
            have h2 : L 2 = false := ff hI.c2_0 hL
            have e8 := hI.x.p0 (ff hI.x.c7 (ff hI.x.c6 h2))
            subst e8
            go_simp
            exact hK.out _ _ ⟨_, _, _, _, _, _, _, _, rfl, hI.s0⟩
          · rw [if_pos (by rfl)]
            have hX := hI.x.s1 hL HN0.out
            go_simp
            exact hK.out _ _ ⟨_, _, _, _, _, _, _, _, rfl, hI.s1 hX⟩
          · have hx0 := hI.p0 (hd 0 (by decide))
            subst hx0
            have h1 := hd 1 (by decide)
            obtain ⟨M1, e1, r1⟩ := hI.x.p1 h1 hL
            have ow := hI.x.own hL
            refine step_append_more rfl (.tmp 60) (.tmp 61) rfl _ _ _ bs.length _ bs rfl rfl ow hI.x.bel (some ⟨M1, 0, none⟩) 3 3 [161#8, 162#8, 163#8] e1 rfl (row_isb r1) (fun h => by cases h) (by have := HBIG.out; omega) ?_
            intro ao7 c7 W2 ho7 hb7
            obtain ⟨q7, rfl, _, _⟩ := ho7.at (by omega)
            have hX := hI.x.s2 h1 hL ho7 hb7
            exact hK.out _ _ ⟨_, _, _, _, _, _, _, _, rfl, hI.s2 hX (hd 0 (by decide))⟩
          · rw [if_pos (by rfl)]
            go_simp
            exact hK.out _ _ ⟨_, _, _, _, _, _, _, _, rfl, hI.s3⟩
          · have hx3 := hI.p3 (hd 3 (by decide))
            subst hx3
            rw [if_pos (by rfl)]
            have hc := HC2.out _ hI.x.bel
            go_simp
            exact hK.out _ _ ⟨_, _, _, _, _, _, _, _, rfl, hI.s4⟩
          · have hx4 := hI.p4 (hd 4 (by decide))
            subst hx4
            rw [if_pos (by rfl)]
            go_simp
            exact hK.out _ _ ⟨_, _, _, _, _, _, _, _, rfl, hI.s5⟩
          · have hx5 := hI.p5 (hd 5 (by decide))
            subst hx5
            rw [if_pos (by rfl)]
            obtain ⟨q7, c7, e7, ho7, _, _⟩ := hI.x.p2 (hd 2 (by decide))
            have hX := hI.x.s6 (hd 2 (by decide)) hL e7
            have hcap := own_cap ho7
            have g1 : (0 : Int) ≤ (bs.length : Int) := by omega
            have g2 : (bs.length : Int) ≤ (c7 : Int) := by have : bs.length + 3 ≤ c7 := hcap; omega
            clear ho7 hcap
            subst e7
            go_simp
            exact hK.out _ _ ⟨_, _, _, _, _, _, _, _, rfl, hI.s6 hX (hd 2 (by decide))⟩
          · have hL0 := (hI.c2_0 (hI.c6_2 (hd 6 (by decide))))
            rw [if_pos (by rfl)]
            have hX := hI.x.s7 (hd 6 (by decide))
            go_simp
            exact hK.out _ _ ⟨_, _, _, _, _, _, _, _, rfl, hI.s7 hX⟩
        · refine E10.ends ?_; intro x60 x61 x62 x63 x64 x65 x66 x8 L W hall hI
          have hx0 := hI.p0 (hall 0 (by decide))
          subst hx0
          have hx3 := hI.p3 (hall 3 (by decide))
          subst hx3
          have hx4 := hI.p4 (hall 4 (by decide))
          subst hx4
          have hx5 := hI.p5 (hall 5 (by decide))
          subst hx5
          have hXe := hI.x
          rw [hall 1 (by decide)] at hXe
          rw [hall 2 (by decide)] at hXe
          rw [hall 6 (by decide)] at hXe
          rw [hall 7 (by decide)] at hXe
          clear hI hall
          try dsimp only
          obtain ⟨q6, c6, e6, ho6, _, h7⟩ := hXe.p2 rfl
          have e8 := h7 rfl
          subst e8
          have b6 := hXe.bel
          have r6 := r5.out.below b6 hSG
          have b06 : Hid (Below S wo W) := b05.out.trans (b6.mono (by omega))
          have HO6 : Hid (Own G1 W (.slice (some ⟨q6, 0, none⟩) (bs.length + 3) c6) (bs ++ mk3)) := ho6
          clear hXe h7 e6 HZ HC2 b6 r5 b05 ho6
          have c0 := r6.cell 0 _ rfl
          have ba : Hid (Below W.heap.size W (W.alloc (.cells #[.int .i64 kk, .slice (some ⟨q6, 0, none⟩) bs.length c6] 42))) := (Below.refl _ _).alloc (Nat.le_refl _) _
          have rB : Hid (Row (W.alloc (.cells #[.int .i64 kk, .slice (some ⟨q6, 0, none⟩) bs.length c6] 42)) W.heap.size 42 [.int .i64 kk, .slice (some ⟨q6, 0, none⟩) bs.length c6]) := Row.at W _ _ _ _ rfl rfl
          have b07 : Hid (Below S wo (W.alloc (.cells #[.int .i64 kk, .slice (some ⟨q6, 0, none⟩) bs.length c6] 42))) := b06.out.trans (ba.out.mono (by rw [← hS]; exact b06.out.size))
          have rO : Hid (Row (W.alloc (.cells #[.int .i64 kk, .slice (some ⟨q6, 0, none⟩) bs.length c6] 42)) O 42 C) := HROW.out.below b07.out hOS
          have HO7 : Hid (Own S (W.alloc (.cells #[.int .i64 kk, .slice (some ⟨q6, 0, none⟩) bs.length c6] 42)) (.slice (some ⟨q6, 0, none⟩) (bs.length + 3) c6) (bs ++ mk3)) := own_le (HO6.out.keep ba.out) (by omega)
          go_wp2_with (at_builtin; refine wpList_append_exact rfl (.tmp 67) (.tmp 72) rfl O k (n + 2) C rfl rO.out (by rw [HCL.out]; omega) (by omega) W.heap.size _ _ rfl rB.out rfl rfl ?_; intro w3 hr3 hs3)
          exact ⟨⟨k + 1, qs ++ [(q6, c6)], by omega, rfl, by go_num, HPU.out _ _ _ _ b07.out HO7.out hs3 hr3⟩, by simp [intOf]; omega⟩
    · obtain rfl : k = n := by omega
      have y1 : ¬ ((k : Nat) : Int) < (k : Int) := by omega
      go_wp2
      refine HKK.out _ _ ?_
      exact NXT.out _ _ HO.out _ _ _ _ _ _ _ _ _ _ _ _ _ _ _ _ _ _ _ _ _ _ _ _ _ _ _ _ _ _ _ _ _ _ _ _ _ _ _ _ _ _ _ _ _ _ _ _ _ _ _ _ _ _ _ _ _ _ _ _ _ _ _ _ _ _ _ _ _ _ _ _ _ _ _ _ _ _ _ _ _ _ _ _ _ _ _ _ _ _ _ _ _ _ _ _ _ _ _ _ _ _ _ _ _ _ _ _ _ _ _ _ _ _ _ _ _ _ _ _ _ _ _ _ _ _ _ _ _ _ _ _ _ _ _ _ _ _ _ _ _ _ _ _ _ _ _ _ _ _ _ _ _ _ _ _ _ _ _ _ _ _ _ _ _ _ _ _ _ _ _ _ _ _ _ _ _ _ _ _ _ _ _ _ _ _ _ _ _ _ _ _ _ _ _ _ _ _ _ _ _ _ _ _ _ _ _ _ _ _ _ _ _ _ _ _ _ _ _ _ _ _ _ _ _ _ _ _ _ _ _ _ _ _ _ _ _ _ _ _ _ _ _ _ _ _ _ _ _ _ _ _ _ _ _ _ _ _ _ _ _ _ _ _ _ _ _ _ _ _ _ _ _ _ _ _ _ _ _ _ _ _ _ _ _ _ _ _ _ _ _ _ _ _ _ _ _ _ _ _ _ _ _

end Go.Proofs.Ytepafpnpmpijeaa
