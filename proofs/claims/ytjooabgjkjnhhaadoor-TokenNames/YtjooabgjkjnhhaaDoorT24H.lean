
import Derived.Test.YtjooabgjkjnhhaaDoorT24G
/-! The reference's token: Get, whole. (Printed by tools/gent24b.py.) -/
namespace Go.Proofs.YtjooabgjkjnhhaaDoor
open Go.RowKit
set_option linter.unusedVariables false
set_option linter.unusedSimpArgs false
set_option maxHeartbeats 4000000 in
set_option maxRecDepth 100000 in
theorem gst2 (c1 c4 c5 c6 c7 c8 c9 c10 c11 c12 c13 c14 c15 c16 c17 c18 c19 c20 c21 c22 c23 c24 c25 c26 c27 c28 c29 c30 c31 c32 c33 c34 c35 c36 c37 c38 c39 c40 c41 c42 c43 c44 c45 c46 c47 c48 c49 c50 c51 c52 c53 c54 c55 c56 c57 c58 c59 c60 c61 c62 c63 c64 c65 c66 c67 c68 c69 c70 c71 c72 c73 c74 c75 c76 c77 c78 c79 c80 c81 c82 c83 c84 c85 c86 c87 c88 c89 c90 c91 c92 c93 c94 c95 c96 c97 c98 c99 c100 c101 c102 c103 c104 c105 c106 c107 c108 c109 c110 c111 c112 c113 c114 c115 c116 c117 c118 c119 c120 c121 c122 c123 c124 c125 c126 c127 c128 c129 c130 c131 c132 c133 c134 c135 c136 c137 c138 c139 c140 c141 c142 c143 c144 c145 c146 c147 c148 c149 : Value) (w Wa : World) (B off n cap : Nat) (b : List By) (hB : BI w B off n cap b) (hG : GP w Wa) (hs0 : scan24 b 0 8 = none) : Code.wp Tryd.prog (dropS 2 (Tryd.f12.body.getD .skip)) (bodyPost Tryd.prog Tryd.f12 (GetP b w)) ⟨#[.slice (some ⟨B, off, none⟩) n cap, c1, .pointer (some ⟨w.heap.size, 0, none⟩), .pointer (some ⟨w.heap.size + 1, 0, none⟩), c4, c5, c6, c7, c8, c9, c10, c11, c12, c13, c14, c15, c16, c17, c18, c19, c20, c21, c22, c23, c24, c25, c26, c27, c28, c29, c30, c31, c32, c33, c34, c35, c36, c37, c38, c39, c40, c41, c42, c43, c44, c45, c46, c47, c48, c49, c50, c51, c52, c53, c54, c55, c56, c57, c58, c59, c60, c61, c62, c63, c64, c65, c66, c67, c68, c69, c70, c71, c72, c73, c74, c75, c76, c77, c78, c79, c80, c81, c82, c83, c84, c85, c86, c87, c88, c89, c90, c91, c92, c93, c94, c95, c96, c97, c98, c99, c100, c101, c102, c103, c104, c105, c106, c107, c108, c109, c110, c111, c112, c113, c114, c115, c116, c117, c118, c119, c120, c121, c122, c123, c124, c125, c126, c127, c128, c129, c130, c131, c132, c133, c134, c135, c136, c137, c138, c139, c140, c141, c142, c143, c144, c145, c146, c147, c148, c149], []⟩ Wa := by
  obtain ⟨h8, hh⟩ := scan24_none 8 0 (by omega) hs0
  have p5 : (b.getD 5 0).toNat ≤ 63 := of_decide_eq_true (show decide ((b.getD 5 0).toNat ≤ 63) = true from hh 5 (by omega) (by omega))
  have p6 : 1 ≤ (b.getD 6 0).toNat ∧ (b.getD 6 0).toNat ≤ 64 := of_decide_eq_true (show decide (1 ≤ (b.getD 6 0).toNat ∧ (b.getD 6 0).toNat ≤ 64) = true from hh 6 (by omega) (by omega))
  have p7 : (b.getD 7 0).toNat ≤ 32 := of_decide_eq_true (show decide ((b.getD 7 0).toNat ≤ 32) = true from hh 7 (by omega) (by omega))
  have HGR : getR b = if n < 8 + (b.getD 6 0).toNat then .error (6, n) else match csR b (8 + (b.getD 6 0).toNat) (b.getD 7 0).toNat with
    | .error x => .error x
    | .ok l => if n < 8 + (b.getD 6 0).toNat + 26 * (b.getD 7 0).toNat + 32 then .error (6, n) else if 8 + (b.getD 6 0).toNat + 26 * (b.getD 7 0).toNat + 32 < n then .error (7, 8 + (b.getD 6 0).toNat + 26 * (b.getD 7 0).toNat + 32) else .ok ⟨((b.getD 5 0).toNat : Int), (b.drop 8).take (b.getD 6 0).toNat, l, b.drop (8 + (b.getD 6 0).toNat + 26 * (b.getD 7 0).toNat)⟩ := by
    unfold getR
    rw [hs0, hB.len]
    rfl
  have h8n : 8 ≤ n := by rw [← hB.len]; omega
  have B5 : Hid (∀ W, Below w.heap.size w W → W.cell? ⟨B, off + 5, none⟩ = some (.int .u8 ((b.getD 5 0).toNat : Int))) := fun W hW => hB.cell W hW 5 (by omega)
  have B6 : Hid (∀ W, Below w.heap.size w W → W.cell? ⟨B, off + 6, none⟩ = some (.int .u8 ((b.getD 6 0).toNat : Int))) := fun W hW => hB.cell W hW 6 (by omega)
  have i5 : (5 : Int) < (n : Int) := by omega
  have i6 : (6 : Int) < (n : Int) := by omega
  have i8 : (8 : Int) ≤ (n : Int) := by omega
  obtain ⟨k7, hk7⟩ : ∃ k7, (b.getD 7 0).toNat = k7 := ⟨_, rfl⟩
  rw [hk7] at HGR p7
  generalize (b.getD 5 0).toNat = k5 at *
  generalize (b.getD 6 0).toNat = k6 at *
  clear hh h8
  have HKK : Hid (k5 ≤ 63 ∧ 1 ≤ k6 ∧ k6 ≤ 64 ∧ k7 ≤ 32 ∧ 8 ≤ n) := ⟨p5, p6.1, p6.2, p7, h8n⟩
  have z6 : IntKind.i64.wrap (8 + (k6 : Int)) = ((8 + k6 : Nat) : Int) := by rw [i64_in _ (by omega) (by omega)]; push_cast; rfl
  have zk5 : IntKind.i64.wrap (k5 : Int) = (k5 : Int) := i64_in _ (by omega) (by omega)
  have zk6 : IntKind.i64.wrap (k6 : Int) = (k6 : Int) := i64_in _ (by omega) (by omega)
  have c5 := B5.out Wa hG.bel
  have HG5 : Hid (∀ w5, Row w5 Wa.heap.size 28 (zTk.take 0 ++ tkK k5 ++ zTk.drop (0 + (tkK k5).length)) → SameBut Wa.heap.size (Wa.alloc (.cells zTk.toArray 28)) w5 → GP w w5 ∧ Row w5 Wa.heap.size 28 (tkK k5) ∧ w.heap.size + 2 ≤ Wa.heap.size) := fun w5 hr5 hs5 =>
    ⟨(hG.keep ((Below.refl _ _).alloc (Nat.le_refl _) _)).but hs5 (by have := hG.wrg.lt; omega), row_whole hr5 (by simp [tkK, zTk, tkC]), by have := hG.wrg.lt; omega⟩
  have HRZ : Hid (Row (Wa.alloc (.cells zTk.toArray 28)) Wa.heap.size 28 zTk) := Row.at Wa 28 zTk _ _ rfl rfl
  have HBI : Hid (BI w B off n cap b) := hB
  clear hs0 p5 p6 p7 h8n
  obtain ⟨p0, hp0⟩ : ∃ p0, p0 = 8 + k6 := ⟨_, rfl⟩
  rw [← hp0] at HGR z6
  have HP0 : Hid (p0 = 8 + k6) := hp0
  clear hp0
  conv => arg 2; whnf
  by_cases h6 : n < p0
  · have HX : Hid (getR b = .error (6, n)) := by rw [if_pos h6] at HGR; exact HGR
    clear HGR hB hG hk7 HBI
    go_wp2_with (first
      | (have hz := HRZ; clear hz; refine wpList_store_Row rfl 28 _ _ rfl Wa.heap.size 28 0 zTk (tkK k5) HRZ.out (Nat.le_refl _) rfl rfl (by kernel_rfl) (tkC_one _ _ _ _ _ _ _ _) ?_; intro w5 hr5 hs5; have HG6 : Hid (GP w w5 ∧ Row w5 Wa.heap.size 28 (tkK k5) ∧ w.heap.size + 2 ≤ Wa.heap.size) := HG5.out w5 hr5 hs5; have c6 := B6.out w5 HG6.out.1.bel; clear HRZ HG5 hr5 hs5 c5; have HG : Hid (GP w w5) := HG6.out.1)
      | (have hz := HG; clear hz; refine wpList_store_Row rfl 28 _ _ rfl w.heap.size 28 0 zTk zTk HG.out.tok (Nat.le_refl _) rfl rfl (by kernel_rfl) (tkC_one _ _ _ _ _ _ _ _) ?_; intro w2 hr2 hs2)
      | (have hz := HG; clear hz; refine wpList_store_Row rfl 44 _ _ rfl (w.heap.size + 1) 44 0 _ [.int .i64 6, .int .i64 (n : Int)] (HG.out.wrg.but hs2 (by omega)) (Nat.le_refl _) rfl rfl (by kernel_rfl) (by simp [Value.oneCell']) ?_; intro w3 hr3 hs3))
    have q2 := (row_whole hr2 (by simp)).but hs3 (by omega)
    have q3 := row_whole hr3 (by simp)
    refine bodyPost_ret_by (results_rowrow Tryd.results12 _ w3 w.heap.size 28 (w.heap.size + 1) 44 _ _ _ _ rfl q2 Tryd.underlying28 rfl (by kernel_rfl) rfl q3 Tryd.underlying44 rfl (by kernel_rfl)) rfl ?_
    exact GetP.bad (hs3.below (hs2.below HG.out.bel (Nat.le_refl _)) (by omega)) HX.out
  · rw [if_neg h6] at HGR
    have HID : Hid (((b.drop 8).take k6).length = k6) := by show _ = _; rw [List.length_take, List.length_drop, hB.len]; have := HP0.out; omega
    have HIB : Hid (∀ W, Below w.heap.size w W → IsB W (some ⟨B, off + 8, none⟩) ((b.drop 8).take k6)) := fun W hW => by
      refine .inr ⟨B, off + 8, rfl, fun j v hj => ?_⟩
      have hjl := (List.getElem?_eq_some_iff.1 hj).1
      rw [HID.out] at hjl
      rw [List.getElem?_take, if_pos hjl, List.getElem?_drop] at hj
      have := hB.cell W hW (8 + j) (by have := HP0.out; omega)
      rw [Nat.add_assoc, this]
      have hl8 := (List.getElem?_eq_some_iff.1 hj).1
      rw [getD_lt hl8]
      rw [List.getElem?_eq_getElem hl8] at hj
      injection hj with hj
      rw [hj]; rfl
    obtain ⟨ID, hID⟩ : ∃ ID, ID = (b.drop 8).take k6 := ⟨_, rfl⟩
    rw [← hID] at HID HIB HGR
    have NXT : Hid (∀ c1 c4 c7 c8 c9 c10 c11 c12 c13 c14 c15 c16 c17 c18 c19 c20 c21 c22 c23 c24 c25 c26 c27 c28 c29 c30 c31 c32 c33 c34 c35 c36 c37 c38 c39 c40 c41 c42 c43 c44 c45 c46 c47 c48 c49 c50 c51 c52 c53 c54 c55 c56 c57 c58 c59 c60 c61 c62 c63 c64 c65 c66 c67 c68 c69 c70 c71 c72 c73 c74 c75 c76 c77 c78 c79 c80 c81 c82 c83 c84 c85 c86 c87 c88 c89 c90 c91 c92 c93 c94 c95 c96 c97 c98 c99 c100 c101 c102 c103 c104 c105 c106 c107 c108 c109 c110 c111 c112 c113 c114 c115 c116 c117 c118 c119 c120 c121 c122 c123 c124 c125 c126 c127 c128 c129 c130 c131 c132 c133 c134 c135 c136 c137 c138 c139 c140 c141 c142 c143 c144 c145 c146 c147 c148 c149 Wb g io ic, GW w b g (k5 : Int) ID io ic [] none 0 (List.replicate 32 0) Wb → Code.wp Tryd.prog (dropS 7 (Tryd.f12.body.getD .skip)) (bodyPost Tryd.prog Tryd.f12 (GetP b w)) ⟨#[.slice (some ⟨B, off, none⟩) n cap, c1, .pointer (some ⟨w.heap.size, 0, none⟩), .pointer (some ⟨w.heap.size + 1, 0, none⟩), c4, .pointer (some ⟨g, 0, none⟩), .int .i64 (p0 : Int), c7, c8, c9, c10, c11, c12, c13, c14, c15, c16, c17, c18, c19, c20, c21, c22, c23, c24, c25, c26, c27, c28, c29, c30, c31, c32, c33, c34, c35, c36, c37, c38, c39, c40, c41, c42, c43, c44, c45, c46, c47, c48, c49, c50, c51, c52, c53, c54, c55, c56, c57, c58, c59, c60, c61, c62, c63, c64, c65, c66, c67, c68, c69, c70, c71, c72, c73, c74, c75, c76, c77, c78, c79, c80, c81, c82, c83, c84, c85, c86, c87, c88, c89, c90, c91, c92, c93, c94, c95, c96, c97, c98, c99, c100, c101, c102, c103, c104, c105, c106, c107, c108, c109, c110, c111, c112, c113, c114, c115, c116, c117, c118, c119, c120, c121, c122, c123, c124, c125, c126, c127, c128, c129, c130, c131, c132, c133, c134, c135, c136, c137, c138, c139, c140, c141, c142, c143, c144, c145, c146, c147, c148, c149], []⟩ Wb) := fun c1 c4 c7 c8 c9 c10 c11 c12 c13 c14 c15 c16 c17 c18 c19 c20 c21 c22 c23 c24 c25 c26 c27 c28 c29 c30 c31 c32 c33 c34 c35 c36 c37 c38 c39 c40 c41 c42 c43 c44 c45 c46 c47 c48 c49 c50 c51 c52 c53 c54 c55 c56 c57 c58 c59 c60 c61 c62 c63 c64 c65 c66 c67 c68 c69 c70 c71 c72 c73 c74 c75 c76 c77 c78 c79 c80 c81 c82 c83 c84 c85 c86 c87 c88 c89 c90 c91 c92 c93 c94 c95 c96 c97 c98 c99 c100 c101 c102 c103 c104 c105 c106 c107 c108 c109 c110 c111 c112 c113 c114 c115 c116 c117 c118 c119 c120 c121 c122 c123 c124 c125 c126 c127 c128 c129 c130 c131 c132 c133 c134 c135 c136 c137 c138 c139 c140 c141 c142 c143 c144 c145 c146 c147 c148 c149 Wb g io ic hW2 => gst7 c1 c4 c7 c8 c9 c10 c11 c12 c13 c14 c15 c16 c17 c18 c19 c20 c21 c22 c23 c24 c25 c26 c27 c28 c29 c30 c31 c32 c33 c34 c35 c36 c37 c38 c39 c40 c41 c42 c43 c44 c45 c46 c47 c48 c49 c50 c51 c52 c53 c54 c55 c56 c57 c58 c59 c60 c61 c62 c63 c64 c65 c66 c67 c68 c69 c70 c71 c72 c73 c74 c75 c76 c77 c78 c79 c80 c81 c82 c83 c84 c85 c86 c87 c88 c89 c90 c91 c92 c93 c94 c95 c96 c97 c98 c99 c100 c101 c102 c103 c104 c105 c106 c107 c108 c109 c110 c111 c112 c113 c114 c115 c116 c117 c118 c119 c120 c121 c122 c123 c124 c125 c126 c127 c128 c129 c130 c131 c132 c133 c134 c135 c136 c137 c138 c139 c140 c141 c142 c143 c144 c145 c146 c147 c148 c149 w Wb B off n cap p0 g k7 b ID (k5 : Int) io ic hB hW2 (by have := HP0.out; have := HKK.out; omega) (by have := HKK.out; omega) hk7 (by have := HKK.out; omega) (by rw [HID.out]; have := HKK.out; omega) HGR
    have q1 : (8 : Int) ≤ (p0 : Int) := by have := HP0.out; omega
    have q2 : (p0 : Int) ≤ (cap : Int) := by have := hB.cap; omega
    have q3 : ¬ (n : Int) < (p0 : Int) := by omega
    have q4 : ¬ cap = 8 := by have := hB.cap; have := HKK.out; have := HP0.out; omega
    have q5 : p0 - 8 = k6 := by have := HP0.out; omega
    have q6 : 8 ≤ p0 := by have := HP0.out; omega
    have q7 : p0 ≤ cap := by have := hB.cap; omega
    clear HGR hB hG hk7 hID
    refine wp_seq_k fun K hK => ?_
    have HKS : Hid _ := hK
    clear hK
    go_wp2_with (have hz := HRZ; clear hz; refine wpList_store_Row rfl 28 _ _ rfl Wa.heap.size 28 0 zTk (tkK k5) HRZ.out (Nat.le_refl _) rfl rfl (by kernel_rfl) (tkC_one _ _ _ _ _ _ _ _) ?_; intro w5 hr5 hs5; have HG6 : Hid (GP w w5 ∧ Row w5 Wa.heap.size 28 (tkK k5) ∧ w.heap.size + 2 ≤ Wa.heap.size) := HG5.out w5 hr5 hs5; have c6 := B6.out w5 HG6.out.1.bel; clear HRZ HG5 hr5 hs5 c5)
    refine HKS.out _ _ ?_
    clear HKS
    generalize Wa.heap.size = g at *
    refine wp_seq_k fun K hK => ?_
    have HKS : Hid _ := hK
    clear hK
    go_wp2
    refine HKS.out _ _ ?_
    clear HKS c6
    refine wp_seq_k fun K hK => ?_
    have HKS : Hid _ := hK
    clear hK
    go_wp2
    refine HKS.out _ _ ?_
    clear HKS
    refine wp_seq_k fun K hK => ?_
    have HKS : Hid _ := hK
    clear hK
    go_wp2
    refine HKS.out _ _ ?_
    clear HKS
    refine wp_seq_k fun K hK => ?_
    have HKS : Hid _ := hK
    clear hK
    go_wp2_with (first
      | (at_builtin; have hz := HG6; clear hz; refine wpList_append_more rfl (.tmp 51) (.tmp 54) rfl w5.heap.size w5 (some ⟨w5.heap.size, 0, none⟩) 0 0 [] rfl rfl (own_empty _ w5 (Nat.le_refl _) #[] rfl) ((Below.refl _ _).alloc (Nat.le_refl _) _) (some ⟨B, off + 8, none⟩) k6 (cap - 8) ID rfl HID.out (HIB.out _ (HG6.out.1.keep ((Below.refl _ _).alloc (Nat.le_refl _) _)).bel) (by simp) (by have := HKK.out; omega) ?_
         intro ao6 q6 w6 ho6 hb6
         have hg6 := HG6.out.1.keep hb6
         have r6 := HG6.out.2.1.below hb6 HG6.out.2.1.lt
         have HW6 : Hid (GP w w6 ∧ Row w6 g 28 (tkK k5) ∧ w.heap.size + 2 ≤ g ∧ Own (w.heap.size + 2) w6 (.slice ao6 k6 q6) ID) := ⟨hg6, r6, HG6.out.2.2, by have := own_le ho6 (by have := HG6.out.1.wrg.lt; omega : w.heap.size + 2 ≤ w5.heap.size); simpa using this⟩
         have cg1 := r6.cell 1 _ rfl
         have fg1 : w6.frozen? ⟨g, 1, none⟩ = false := r6.frozen 1
         clear HG6 ho6 hb6 hg6 r6))
    refine HKS.out _ _ ?_
    have h := HW6.out
    have hN := GW.first (b := b) (id := ID) (io := ao6) (ic := q6) h.1 h.2.2.1 h.2.1 (by rw [HID.out]; exact h.2.2.2)
    rw [HID.out] at hN
    exact NXT.out _ _ _ _ _ _ _ _ _ _ _ _ _ _ _ _ _ _ _ _ _ _ _ _ _ _ _ _ _ _ _ _ _ _ _ _ _ _ _ _ _ _ _ _ _ _ _ _ _ _ _ _ _ _ _ _ _ _ _ _ _ _ _ _ _ _ _ _ _ _ _ _ _ _ _ _ _ _ _ _ _ _ _ _ _ _ _ _ _ _ _ _ _ _ _ _ _ _ _ _ _ _ _ _ _ _ _ _ _ _ _ _ _ _ _ _ _ _ _ _ _ _ _ _ _ _ _ _ _ _ _ _ _ _ _ _ _ _ _ _ _ _ _ _ _ _ g ao6 q6 (by simpa using hN)

end Go.Proofs.YtjooabgjkjnhhaaDoor
