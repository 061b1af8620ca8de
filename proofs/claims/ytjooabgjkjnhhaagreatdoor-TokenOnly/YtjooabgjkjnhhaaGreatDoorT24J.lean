import Derived.Test.YtjooabgjkjnhhaaGreatDoorT24G
import Derived.Test.YtjooabgjkjnhhaaGreatDoorWords
import Derived.Test.YtjooabgjkjnhhaaGreatDoorRows
import Derived.DeepKeys
import Derived.Test.YtjooabgjkjnhhaaGreatDoorOpenA
import Derived.Lib.ConvBytes

/-! The reference's token: Get, whole. (Printed by tools/gent24b.py.) -/
namespace Go.Proofs.YtjooabgjkjnhhaaGreatDoor
open Go.RowKit
set_option linter.unusedVariables false
set_option linter.unusedSimpArgs false
set_option maxHeartbeats 4000000 in
set_option maxRecDepth 100000 in
theorem gst2 (c1 c4 c5 c6 c7 c8 c9 c10 c11 c12 c13 c14 c15 c16 c17 c18 c19 c20 c21 c22 c23 c24 c25 c26 c27 c28 c29 c30 c31 c32 c33 c34 c35 c36 c37 c38 c39 c40 c41 c42 c43 c44 c45 c46 c47 c48 c49 c50 c51 c52 c53 c54 c55 c56 c57 c58 c59 c60 c61 c62 c63 c64 c65 c66 c67 c68 c69 c70 c71 c72 c73 c74 c75 c76 c77 c78 c79 c80 c81 c82 c83 c84 c85 c86 c87 c88 c89 c90 c91 c92 c93 c94 c95 c96 c97 c98 c99 c100 c101 c102 c103 c104 c105 c106 c107 c108 c109 c110 c111 c112 c113 c114 c115 c116 c117 c118 c119 c120 c121 c122 c123 c124 c125 c126 c127 c128 c129 c130 c131 c132 c133 c134 c135 c136 c137 c138 c139 c140 c141 c142 c143 c144 c145 c146 c147 c148 c149 : Value) (w Wa : World) (B off n cap : Nat) (b : List By) (hB : BI w B off n cap b) (hG : GP w Wa) (hs0 : scan24 b 0 8 = none) : Code.wp Tryz.prog (dropS 2 (Tryz.f24.body.getD .skip)) (bodyPost Tryz.prog Tryz.f24 (GetP b w)) ⟨#[.slice (some ⟨B, off, none⟩) n cap, c1, .pointer (some ⟨w.heap.size, 0, none⟩), .pointer (some ⟨w.heap.size + 1, 0, none⟩), c4, c5, c6, c7, c8, c9, c10, c11, c12, c13, c14, c15, c16, c17, c18, c19, c20, c21, c22, c23, c24, c25, c26, c27, c28, c29, c30, c31, c32, c33, c34, c35, c36, c37, c38, c39, c40, c41, c42, c43, c44, c45, c46, c47, c48, c49, c50, c51, c52, c53, c54, c55, c56, c57, c58, c59, c60, c61, c62, c63, c64, c65, c66, c67, c68, c69, c70, c71, c72, c73, c74, c75, c76, c77, c78, c79, c80, c81, c82, c83, c84, c85, c86, c87, c88, c89, c90, c91, c92, c93, c94, c95, c96, c97, c98, c99, c100, c101, c102, c103, c104, c105, c106, c107, c108, c109, c110, c111, c112, c113, c114, c115, c116, c117, c118, c119, c120, c121, c122, c123, c124, c125, c126, c127, c128, c129, c130, c131, c132, c133, c134, c135, c136, c137, c138, c139, c140, c141, c142, c143, c144, c145, c146, c147, c148, c149], []⟩ Wa := by
  obtain ⟨h8, hh⟩ := scan24_none 8 0 (by omega) hs0
  have p5 : (b.getD 5 0).toNat ≤ 63 := of_decide_eq_true (show decide ((b.getD 5 0).toNat ≤ 63) = true from hh 5 (by omega) (by omega))
  have p6 : 1 ≤ (b.getD 6 0).toNat ∧ (b.getD 6 0).toNat ≤ 64 := of_decide_eq_true (show decide (1 ≤ (b.getD 6 0).toNat ∧ (b.getD 6 0).toNat ≤ 64) = true from hh 6 (by omega) (by omega))
  have p7 : (b.getD 7 0).toNat ≤ 32 := of_decide_eq_true (show decide ((b.getD 7 0).toNat ≤ 32) = true from hh 7 (by omega) (by omega))
  have HGR : getR b = if n < 8 + (b.getD 6 0).toNat then .error (6, n) else match csR b (8 + (b.getD 6 0).toNat) (b.getD 7 0).toNat with
    | .error x => .error x
    | .ok l => if n < 8 + (b.getD 6 0).toNat + 26 * (b.getD 7 0).toNat + 32 then .error (6, n) else if 8 + (b.getD 6 0).toNat + 26 * (b.getD 7 0).toNat + 32 < n then .error (7, 8 + (b.getD 6 0).toNat + 26 * (b.getD 7 0).toNat + 32) else .ok ⟨((b.getD 5 0).toNat : Int), (b.drop 8).take (b.getD 6 0).toNat, l, b.drop (8 + (b.getD 6 0).toNat + 26 * (b.getD 7 0).toNat)⟩ := by
    unfold getR
    rw [hs0, hB.len]
    rfl
  have h8n : 8 ≤ n := by rw [← hB.len]; omega
  have B5 : Hid (∀ W, Below w.heap.size w W → W.cell? ⟨B, off + 5, none⟩ = some (.int .u8 ((b.getD 5 0).toNat : Int))) := fun W hW => hB.cell W hW 5 (by omega)
  have B6 : Hid (∀ W, Below w.heap.size w W → W.cell? ⟨B, off + 6, none⟩ = some (.int .u8 ((b.getD 6 0).toNat : Int))) := fun W hW => hB.cell W hW 6 (by omega)
  have i5 : (5 : Int) < (n : Int) := by omega
  have i6 : (6 : Int) < (n : Int) := by omega
  have i8 : (8 : Int) ≤ (n : Int) := by omega
  obtain ⟨k7, hk7⟩ : ∃ k7, (b.getD 7 0).toNat = k7 := ⟨_, rfl⟩
  rw [hk7] at HGR p7
  generalize (b.getD 5 0).toNat = k5 at *
  generalize (b.getD 6 0).toNat = k6 at *
  clear hh h8
  have HKK : Hid (k5 ≤ 63 ∧ 1 ≤ k6 ∧ k6 ≤ 64 ∧ k7 ≤ 32 ∧ 8 ≤ n) := ⟨p5, p6.1, p6.2, p7, h8n⟩
  have z6 : IntKind.i64.wrap (8 + (k6 : Int)) = ((8 + k6 : Nat) : Int) := by rw [i64_in _ (by omega) (by omega)]; push_cast; rfl
  have zk5 : IntKind.i64.wrap (k5 : Int) = (k5 : Int) := i64_in _ (by omega) (by omega)
  have zk6 : IntKind.i64.wrap (k6 : Int) = (k6 : Int) := i64_in _ (by omega) (by omega)
  have c5 := B5.out Wa hG.bel
  have HG5 : Hid (∀ w5, Row w5 Wa.heap.size 28 (zTk.take 0 ++ tkK k5 ++ zTk.drop (0 + (tkK k5).length)) → SameBut Wa.heap.size (Wa.alloc (.cells zTk.toArray 28)) w5 → GP w w5 ∧ Row w5 Wa.heap.size 28 (tkK k5) ∧ w.heap.size + 2 ≤ Wa.heap.size) := fun w5 hr5 hs5 =>
    ⟨(hG.keep ((Below.refl _ _).alloc (Nat.le_refl _) _)).but hs5 (by have := hG.wrg.lt; omega), row_whole hr5 (by simp [tkK, zTk, tkC]), by have := hG.wrg.lt; omega⟩
  have HRZ : Hid (Row (Wa.alloc (.cells zTk.toArray 28)) Wa.heap.size 28 zTk) := Row.at Wa 28 zTk _ _ rfl rfl
  have HBI : Hid (BI w B off n cap b) := hB
  clear hs0 p5 p6 p7 h8n
  obtain ⟨p0, hp0⟩ : ∃ p0, p0 = 8 + k6 := ⟨_, rfl⟩
  rw [← hp0] at HGR z6
  have HP0 : Hid (p0 = 8 + k6) := hp0
  clear hp0
  conv => arg 2; whnf
  by_cases h6 : n < p0
  · have HX : Hid (getR b = .error (6, n)) := by rw [if_pos h6] at HGR; exact HGR
    clear HGR hB hG hk7 HBI
    go_wp2_with (first
      | (have hz := HRZ; clear hz; refine wpList_store_Row rfl 28 _ _ rfl Wa.heap.size 28 0 zTk (tkK k5) HRZ.out (Nat.le_refl _) rfl rfl (by kernel_rfl) (tkC_one _ _ _ _ _ _ _ _) ?_; intro w5 hr5 hs5; have HG6 : Hid (GP w w5 ∧ Row w5 Wa.heap.size 28 (tkK k5) ∧ w.heap.size + 2 ≤ Wa.heap.size) := HG5.out w5 hr5 hs5; have c6 := B6.out w5 HG6.out.1.bel; clear HRZ HG5 hr5 hs5 c5; have HG : Hid (GP w w5) := HG6.out.1)
      | (have hz := HG; clear hz; refine wpList_store_Row rfl 28 _ _ rfl w.heap.size 28 0 zTk zTk HG.out.tok (Nat.le_refl _) rfl rfl (by kernel_rfl) (tkC_one _ _ _ _ _ _ _ _) ?_; intro w2 hr2 hs2)
      | (have hz := HG; clear hz; refine wpList_store_Row rfl 73 _ _ rfl (w.heap.size + 1) 73 0 _ [.int .i64 6, .int .i64 (n : Int)] (HG.out.wrg.but hs2 (by omega)) (Nat.le_refl _) rfl rfl (by kernel_rfl) (by simp [Value.oneCell']) ?_; intro w3 hr3 hs3))
    have q2 := (row_whole hr2 (by simp)).but hs3 (by omega)
    have q3 := row_whole hr3 (by simp)
    refine bodyPost_ret_by (results_rowrow Tryz.results24 _ w3 w.heap.size 28 (w.heap.size + 1) 73 _ _ _ _ rfl q2 Tryz.underlying28 rfl (by kernel_rfl) rfl q3 Tryz.underlying73 rfl (by kernel_rfl)) rfl ?_
    exact GetP.bad (hs3.below (hs2.below HG.out.bel (Nat.le_refl _)) (by omega)) HX.out
  · rw [if_neg h6] at HGR
    have HID : Hid (((b.drop 8).take k6).length = k6) := by show _ = _; rw [List.length_take, List.length_drop, hB.len]; have := HP0.out; omega
    have HIB : Hid (∀ W, Below w.heap.size w W → IsB W (some ⟨B, off + 8, none⟩) ((b.drop 8).take k6)) := fun W hW => by
      refine .inr ⟨B, off + 8, rfl, fun j v hj => ?_⟩
      have hjl := (List.getElem?_eq_some_iff.1 hj).1
      rw [HID.out] at hjl
      rw [List.getElem?_take, if_pos hjl, List.getElem?_drop] at hj
      have := hB.cell W hW (8 + j) (by have := HP0.out; omega)
      rw [Nat.add_assoc, this]
      have hl8 := (List.getElem?_eq_some_iff.1 hj).1
      rw [getD_lt hl8]
      rw [List.getElem?_eq_getElem hl8] at hj
      injection hj with hj
      rw [hj]; rfl
    obtain ⟨ID, hID⟩ : ∃ ID, ID = (b.drop 8).take k6 := ⟨_, rfl⟩
    rw [← hID] at HID HIB HGR
    have NXT : Hid (∀ c1 c4 c7 c8 c9 c10 c11 c12 c13 c14 c15 c16 c17 c18 c19 c20 c21 c22 c23 c24 c25 c26 c27 c28 c29 c30 c31 c32 c33 c34 c35 c36 c37 c38 c39 c40 c41 c42 c43 c44 c45 c46 c47 c48 c49 c50 c51 c52 c53 c54 c55 c56 c57 c58 c59 c60 c61 c62 c63 c64 c65 c66 c67 c68 c69 c70 c71 c72 c73 c74 c75 c76 c77 c78 c79 c80 c81 c82 c83 c84 c85 c86 c87 c88 c89 c90 c91 c92 c93 c94 c95 c96 c97 c98 c99 c100 c101 c102 c103 c104 c105 c106 c107 c108 c109 c110 c111 c112 c113 c114 c115 c116 c117 c118 c119 c120 c121 c122 c123 c124 c125 c126 c127 c128 c129 c130 c131 c132 c133 c134 c135 c136 c137 c138 c139 c140 c141 c142 c143 c144 c145 c146 c147 c148 c149 Wb g io ic, GW w b g (k5 : Int) ID io ic [] none 0 (List.replicate 32 0) Wb → Code.wp Tryz.prog (dropS 7 (Tryz.f24.body.getD .skip)) (bodyPost Tryz.prog Tryz.f24 (GetP b w)) ⟨#[.slice (some ⟨B, off, none⟩) n cap, c1, .pointer (some ⟨w.heap.size, 0, none⟩), .pointer (some ⟨w.heap.size + 1, 0, none⟩), c4, .pointer (some ⟨g, 0, none⟩), .int .i64 (p0 : Int), c7, c8, c9, c10, c11, c12, c13, c14, c15, c16, c17, c18, c19, c20, c21, c22, c23, c24, c25, c26, c27, c28, c29, c30, c31, c32, c33, c34, c35, c36, c37, c38, c39, c40, c41, c42, c43, c44, c45, c46, c47, c48, c49, c50, c51, c52, c53, c54, c55, c56, c57, c58, c59, c60, c61, c62, c63, c64, c65, c66, c67, c68, c69, c70, c71, c72, c73, c74, c75, c76, c77, c78, c79, c80, c81, c82, c83, c84, c85, c86, c87, c88, c89, c90, c91, c92, c93, c94, c95, c96, c97, c98, c99, c100, c101, c102, c103, c104, c105, c106, c107, c108, c109, c110, c111, c112, c113, c114, c115, c116, c117, c118, c119, c120, c121, c122, c123, c124, c125, c126, c127, c128, c129, c130, c131, c132, c133, c134, c135, c136, c137, c138, c139, c140, c141, c142, c143, c144, c145, c146, c147, c148, c149], []⟩ Wb) := fun c1 c4 c7 c8 c9 c10 c11 c12 c13 c14 c15 c16 c17 c18 c19 c20 c21 c22 c23 c24 c25 c26 c27 c28 c29 c30 c31 c32 c33 c34 c35 c36 c37 c38 c39 c40 c41 c42 c43 c44 c45 c46 c47 c48 c49 c50 c51 c52 c53 c54 c55 c56 c57 c58 c59 c60 c61 c62 c63 c64 c65 c66 c67 c68 c69 c70 c71 c72 c73 c74 c75 c76 c77 c78 c79 c80 c81 c82 c83 c84 c85 c86 c87 c88 c89 c90 c91 c92 c93 c94 c95 c96 c97 c98 c99 c100 c101 c102 c103 c104 c105 c106 c107 c108 c109 c110 c111 c112 c113 c114 c115 c116 c117 c118 c119 c120 c121 c122 c123 c124 c125 c126 c127 c128 c129 c130 c131 c132 c133 c134 c135 c136 c137 c138 c139 c140 c141 c142 c143 c144 c145 c146 c147 c148 c149 Wb g io ic hW2 => gst7 c1 c4 c7 c8 c9 c10 c11 c12 c13 c14 c15 c16 c17 c18 c19 c20 c21 c22 c23 c24 c25 c26 c27 c28 c29 c30 c31 c32 c33 c34 c35 c36 c37 c38 c39 c40 c41 c42 c43 c44 c45 c46 c47 c48 c49 c50 c51 c52 c53 c54 c55 c56 c57 c58 c59 c60 c61 c62 c63 c64 c65 c66 c67 c68 c69 c70 c71 c72 c73 c74 c75 c76 c77 c78 c79 c80 c81 c82 c83 c84 c85 c86 c87 c88 c89 c90 c91 c92 c93 c94 c95 c96 c97 c98 c99 c100 c101 c102 c103 c104 c105 c106 c107 c108 c109 c110 c111 c112 c113 c114 c115 c116 c117 c118 c119 c120 c121 c122 c123 c124 c125 c126 c127 c128 c129 c130 c131 c132 c133 c134 c135 c136 c137 c138 c139 c140 c141 c142 c143 c144 c145 c146 c147 c148 c149 w Wb B off n cap p0 g k7 b ID (k5 : Int) io ic hB hW2 (by have := HP0.out; have := HKK.out; omega) (by have := HKK.out; omega) hk7 (by have := HKK.out; omega) (by rw [HID.out]; have := HKK.out; omega) HGR
    have q1 : (8 : Int) ≤ (p0 : Int) := by have := HP0.out; omega
    have q2 : (p0 : Int) ≤ (cap : Int) := by have := hB.cap; omega
    have q3 : ¬ (n : Int) < (p0 : Int) := by omega
    have q4 : ¬ cap = 8 := by have := hB.cap; have := HKK.out; have := HP0.out; omega
    have q5 : p0 - 8 = k6 := by have := HP0.out; omega
    have q6 : 8 ≤ p0 := by have := HP0.out; omega
    have q7 : p0 ≤ cap := by have := hB.cap; omega
    clear HGR hB hG hk7 hID
    refine wp_seq_k fun K hK => ?_
    have HKS : Hid _ := hK
    clear hK
    go_wp2_with (have hz := HRZ; clear hz; refine wpList_store_Row rfl 28 _ _ rfl Wa.heap.size 28 0 zTk (tkK k5) HRZ.out (Nat.le_refl _) rfl rfl (by kernel_rfl) (tkC_one _ _ _ _ _ _ _ _) ?_; intro w5 hr5 hs5; have HG6 : Hid (GP w w5 ∧ Row w5 Wa.heap.size 28 (tkK k5) ∧ w.heap.size + 2 ≤ Wa.heap.size) := HG5.out w5 hr5 hs5; have c6 := B6.out w5 HG6.out.1.bel; clear HRZ HG5 hr5 hs5 c5)
    refine HKS.out _ _ ?_
    clear HKS
    generalize Wa.heap.size = g at *
    refine wp_seq_k fun K hK => ?_
    have HKS : Hid _ := hK
    clear hK
    go_wp2
    refine HKS.out _ _ ?_
    clear HKS c6
    refine wp_seq_k fun K hK => ?_
    have HKS : Hid _ := hK
    clear hK
    go_wp2
    refine HKS.out _ _ ?_
    clear HKS
    refine wp_seq_k fun K hK => ?_
    have HKS : Hid _ := hK
    clear hK
    go_wp2
    refine HKS.out _ _ ?_
    clear HKS
    refine wp_seq_k fun K hK => ?_
    have HKS : Hid _ := hK
    clear hK
    go_wp2_with (first
      | (at_builtin; have hz := HG6; clear hz; refine wpList_append_more rfl (.tmp 51) (.tmp 54) rfl w5.heap.size w5 (some ⟨w5.heap.size, 0, none⟩) 0 0 [] rfl rfl (own_empty _ w5 (Nat.le_refl _) #[] rfl) ((Below.refl _ _).alloc (Nat.le_refl _) _) (some ⟨B, off + 8, none⟩) k6 (cap - 8) ID rfl HID.out (HIB.out _ (HG6.out.1.keep ((Below.refl _ _).alloc (Nat.le_refl _) _)).bel) (by simp) (by have := HKK.out; omega) ?_
         intro ao6 q6 w6 ho6 hb6
         have hg6 := HG6.out.1.keep hb6
         have r6 := HG6.out.2.1.below hb6 HG6.out.2.1.lt
         have HW6 : Hid (GP w w6 ∧ Row w6 g 28 (tkK k5) ∧ w.heap.size + 2 ≤ g ∧ Own (w.heap.size + 2) w6 (.slice ao6 k6 q6) ID) := ⟨hg6, r6, HG6.out.2.2, by have := own_le ho6 (by have := HG6.out.1.wrg.lt; omega : w.heap.size + 2 ≤ w5.heap.size); simpa using this⟩
         have cg1 := r6.cell 1 _ rfl
         have fg1 : w6.frozen? ⟨g, 1, none⟩ = false := r6.frozen 1
         clear HG6 ho6 hb6 hg6 r6))
    refine HKS.out _ _ ?_
    have h := HW6.out
    have hN := GW.first (b := b) (id := ID) (io := ao6) (ic := q6) h.1 h.2.2.1 h.2.1 (by rw [HID.out]; exact h.2.2.2)
    rw [HID.out] at hN
    exact NXT.out _ _ _ _ _ _ _ _ _ _ _ _ _ _ _ _ _ _ _ _ _ _ _ _ _ _ _ _ _ _ _ _ _ _ _ _ _ _ _ _ _ _ _ _ _ _ _ _ _ _ _ _ _ _ _ _ _ _ _ _ _ _ _ _ _ _ _ _ _ _ _ _ _ _ _ _ _ _ _ _ _ _ _ _ _ _ _ _ _ _ _ _ _ _ _ _ _ _ _ _ _ _ _ _ _ _ _ _ _ _ _ _ _ _ _ _ _ _ _ _ _ _ _ _ _ _ _ _ _ _ _ _ _ _ _ _ _ _ _ _ _ _ _ _ _ _ g ao6 q6 (by simpa using hN)

end Go.Proofs.YtjooabgjkjnhhaaGreatDoor


/-! The reference's token: Get, whole. (Printed by tools/gent24b.py.) -/
namespace Go.Proofs.YtjooabgjkjnhhaaGreatDoor
open Go.RowKit
set_option linter.unusedVariables false
set_option linter.unusedSimpArgs false
set_option maxHeartbeats 4000000 in
set_option maxRecDepth 100000 in
theorem r24Get_any (ao : Option Addr) (n cap : Nat) (b : List By) (hb0 : b.length = n) (w : World) (hb : IsB w ao b) (hcap : n ≤ cap) (hn : n ≤ 140737488351232) :
    Calls Tryz.prog 24 #[.slice ao n cap] w (GetP b w) := by
  have P0 : Hid (GP w ((w.alloc (.cells zTk.toArray 28)).alloc (.cells #[.int .i64 0, .int .i64 0] 73))) := GP.start w
  have HB0 : Hid (b.length = n) := hb0
  have HB : Hid (IsB w ao b) := hb
  have HC : Hid (n ≤ cap ∧ n ≤ 140737488351232) := ⟨hcap, hn⟩
  clear hb hb0 hcap hn
  go_enter Tryz.func24, Tryz.ntmps24
  refine wp_seq_k fun K hK => ?_
  have HKS : Hid _ := hK
  clear hK
  go_wp2_with fail
  refine HKS.out _ _ ?_
  clear HKS
  refine wp_seq_k fun K hK => ?_
  have HKS : Hid _ := hK
  clear hK
  go_wp2_with fail
  go_loopw [4] (fun i wr => ∃ q : Nat, q ≤ 8 ∧ i = .int .i64 q ∧ Hid (q ≤ n) ∧ Hid (scan24 b 0 8 = scan24 b q (8 - q)) ∧ Hid (GP w wr)) (fun i _ => 8 - (intOf i).toNat)
  case atStart => exact ⟨0, by omega, rfl, Nat.zero_le _, rfl, P0⟩
  case round =>
    clear P0
    obtain ⟨q, hq, rfl, HQN, HQ, HG⟩ := hrel
    by_cases hq8 : q < 8
    · have i2 : (q : Int) < 8 := by omega
      obtain ⟨hs1, hs2⟩ := scan24_at HB0.out hq8 HQ.out
      by_cases hqe : q = n
      · have i3 : ((q : Int) == (n : Int)) = true := by rw [hqe]; simp
        have HX : Hid (getR b = .error (6, q)) := hs1 hqe
        clear hs1 hs2 HQ
        subst hqe
        go_wp2_with (first
          | (have hz := HG; clear hz; refine wpList_store_Row rfl 28 _ _ rfl w.heap.size 28 0 zTk zTk HG.out.tok (Nat.le_refl _) rfl rfl (by kernel_rfl) (tkC_one _ _ _ _ _ _ _ _) ?_; intro w2 hr2 hs2)
          | (have hz := HG; clear hz; refine wpList_store_Row rfl 73 _ _ rfl (w.heap.size + 1) 73 0 _ [.int .i64 6, .int .i64 (q : Int)] (HG.out.wrg.but hs2 (by omega)) (Nat.le_refl _) rfl rfl (by kernel_rfl) (by simp [Value.oneCell']) ?_; intro w3 hr3 hs3))
        have q2 := (row_whole hr2 (by simp)).but hs3 (by omega)
        have q3 := row_whole hr3 (by simp)
        refine bodyPost_ret_by (results_rowrow Tryz.results24 _ w3 w.heap.size 28 (w.heap.size + 1) 73 _ _ _ _ rfl q2 Tryz.underlying28 rfl (by kernel_rfl) rfl q3 Tryz.underlying73 rfl (by kernel_rfl)) rfl ?_
        exact GetP.bad (hs3.below (hs2.below HG.out.bel (Nat.le_refl _)) (by omega)) HX.out
      · have i3 : ((q : Int) == (n : Int)) = false := by rw [beq_eq_false_iff_ne]; omega
        have i4 : (q : Int) < (n : Int) := by have := HQN.out; omega
        have i5 : (0 : Int) ≤ (q : Int) := by omega
        obtain ⟨B, off, rfl⟩ : ∃ B off, ao = some ⟨B, off, none⟩ := by
          rcases HB.out with e | ⟨B, off, e, _⟩
          · have := HB0.out; rw [e] at this; simp at this; omega
          · exact ⟨B, off, e⟩
        have hc := bytes_at HB.out HG.out.bel q (by rw [HB0.out]; omega)
        have F := r24head_any q hq8 (b.getD q 0) wr
        have HL8 : Hid (q < 8 ∧ q < n) := ⟨hq8, by omega⟩
        have HSQ : Hid (∀ v, v = hd24 q (b.getD q 0).toNat → (v = false → getR b = .error (5, q)) ∧ (v = true → scan24 b 0 8 = scan24 b (q + 1) (8 - (q + 1)))) := hs2 hqe
        clear hs1 hs2 HQ
        generalize hv : hd24 q (b.getD q 0).toNat = v at *
        generalize (b.getD q 0).toNat = y at *
        obtain ⟨s1, s2⟩ := HSQ.out v rfl
        clear HSQ hv
        have z1 : IntKind.i64.wrap ((q : Int) + 1) = (q : Int) + 1 := i64_in _ (by omega) (by omega)
        cases v with
        | false =>
          have HX : Hid (getR b = .error (5, q)) := s1 rfl
          clear s1 s2
          go_wp2_with (first
            | (go_at_call 45; refine F.mono ?_; clear F; rintro e w4 ⟨rfl, hb4⟩; have HG4 : Hid (GP w w4) := HG.out.keep hb4; clear hb4 HG; have HG := HG4; clear HG4)
            | (have hz := HG; clear hz; refine wpList_store_Row rfl 28 _ _ rfl w.heap.size 28 0 zTk zTk HG.out.tok (Nat.le_refl _) rfl rfl (by kernel_rfl) (tkC_one _ _ _ _ _ _ _ _) ?_; intro w2 hr2 hs2)
            | (have hz := HG; clear hz; refine wpList_store_Row rfl 73 _ _ rfl (w.heap.size + 1) 73 0 _ [.int .i64 5, .int .i64 (q : Int)] (HG.out.wrg.but hs2 (by omega)) (Nat.le_refl _) rfl rfl (by kernel_rfl) (by simp [Value.oneCell']) ?_; intro w3 hr3 hs3))
          have q2 := (row_whole hr2 (by simp)).but hs3 (by omega)
          have q3 := row_whole hr3 (by simp)
          refine bodyPost_ret_by (results_rowrow Tryz.results24 _ w3 w.heap.size 28 (w.heap.size + 1) 73 _ _ _ _ rfl q2 Tryz.underlying28 rfl (by kernel_rfl) rfl q3 Tryz.underlying73 rfl (by kernel_rfl)) rfl ?_
          exact GetP.bad (hs3.below (hs2.below HG.out.bel (Nat.le_refl _)) (by omega)) HX.out
        | true =>
          have HSN : Hid (scan24 b 0 8 = scan24 b (q + 1) (8 - (q + 1))) := s2 rfl
          clear s1 s2
          go_wp2_with (go_at_call 45; refine F.mono ?_; clear F; rintro e w4 ⟨rfl, hb4⟩; have HG4 : Hid (GP w w4) := HG.out.keep hb4; clear hb4 HG)
          exact ⟨⟨q + 1, HL8.out.1, by go_num, HL8.out.2, HSN, HG4⟩, by have := HL8.out; simp [intOf]; omega⟩
    · obtain rfl : q = 8 := by omega
      have i2 : ¬ ((8 : Nat) : Int) < 8 := by omega
      have hs0 : scan24 b 0 8 = none := by rw [HQ.out]; rfl
      obtain ⟨h8, _⟩ := scan24_none 8 0 (by omega) hs0
      obtain ⟨B, off, rfl⟩ : ∃ B off, ao = some ⟨B, off, none⟩ := by
        rcases HB.out with e | ⟨B, off, e, _⟩
        · rw [e] at h8; simp at h8
        · exact ⟨B, off, e⟩
      have HBI : Hid (BI w B off n cap b) := ⟨HB0.out, fun W hW j hj => bytes_at HB.out hW j (by rw [HB0.out]; exact hj), HC.out.1, HC.out.2⟩
      have HS0 : Hid (scan24 b 0 8 = none) := hs0
      clear hs0 h8 HQ HQN hq8 hq
      go_wp2
      refine HKS.out _ _ ?_
      exact gst2 _ _ _ _ _ _ _ _ _ _ _ _ _ _ _ _ _ _ _ _ _ _ _ _ _ _ _ _ _ _ _ _ _ _ _ _ _ _ _ _ _ _ _ _ _ _ _ _ _ _ _ _ _ _ _ _ _ _ _ _ _ _ _ _ _ _ _ _ _ _ _ _ _ _ _ _ _ _ _ _ _ _ _ _ _ _ _ _ _ _ _ _ _ _ _ _ _ _ _ _ _ _ _ _ _ _ _ _ _ _ _ _ _ _ _ _ _ _ _ _ _ _ _ _ _ _ _ _ _ _ _ _ _ _ _ _ _ _ _ _ _ _ _ _ _ _ _ w _ B off n cap b HBI.out HG.out HS0.out
end Go.Proofs.YtjooabgjkjnhhaaGreatDoor


namespace Go.Proofs.YtjooabgjkjnhhaaGreatDoor
open Go.RowKit

theorem mapM_some {α β : Type} {f : α → Option β} (g : α → β) : ∀ (l : List α), (∀ x ∈ l, f x = some (g x)) → l.mapM f = some (l.map g)
  | [], _ => rfl
  | x :: l, h => by
    rw [List.mapM_cons, h x (by simp), mapM_some g l (fun y hy => h y (by simp [hy]))]
    rfl

theorem Tryz.cells26 : Tryz.prog.cellsOf 26 = 32 := by kernel_rfl
theorem Tryz.cells5 : Tryz.prog.cellsOf 5 = 1 := by kernel_rfl

end Go.Proofs.YtjooabgjkjnhhaaGreatDoor


/-! Two hashes held against each other; a whole row loaded where a guard lets it. -/
namespace Go.Proofs.YtjooabgjkjnhhaaGreatDoor
open Go.RowKit
set_option linter.unusedVariables false
set_option maxRecDepth 100000

def hashLits (bs : List By) : List Lit := ((List.range 32).map fun i => [Lit.int .u8 ((bs.getD i 0).toNat : Int)]).flatten
theorem hash_key_at (bs : List By) (hl : bs.length = 32) : Tryz.prog.keyLits 2 26 (bs.map B8) = some (hashLits bs) := by
  have hu : Tryz.prog.underlying 26 = some (.array 32 5) := Tryz.underlying26
  unfold Program.keyLits
  simp only [hu]
  rw [if_pos (by rw [Tryz.cells26, List.length_map, hl])]
  rw [mapM_some (fun i => [Lit.int .u8 ((bs.getD i 0).toNat : Int)])]
  · rfl
  · intro i hi
    rw [List.mem_range] at hi
    have e : ((bs.map B8).drop (i * Tryz.prog.cellsOf 5)).take (Tryz.prog.cellsOf 5) = [.int .u8 ((bs.getD i 0).toNat : Int)] := by
      rw [Tryz.cells5, Nat.mul_one, List.drop_eq_getElem_cons (by rw [List.length_map, hl]; exact hi)]
      simp [B8, hl, hi]
    rw [e]
    unfold Program.keyLits
    have h8 := b8_lt (bs.getD i 0)
    simp only [Tryz.underlying5]
    rw [if_pos ⟨trivial, WalkArith.wf_u8 (by omega)⟩]
theorem flat_one {α β : Type} (g : α → β) : ∀ l : List α, (l.map fun i => [g i]).flatten = l.map g
  | [] => rfl
  | x :: l => by simp [flat_one g l]
theorem hashLits_inj {a b : List By} (ha : a.length = 32) (hb : b.length = 32) (h : hashLits a = hashLits b) : a = b := by
  unfold hashLits at h
  rw [flat_one (fun i => Lit.int .u8 ((a.getD i 0).toNat : Int)), flat_one (fun i => Lit.int .u8 ((b.getD i 0).toNat : Int)), List.map_inj_left] at h
  refine List.ext_getElem (by rw [ha, hb]) fun i h1 h2 => ?_
  have := h i (by rw [List.mem_range]; omega)
  rw [getD_lt h1, getD_lt h2] at this
  injection this with _ e
  exact BitVec.eq_of_toNat_eq (by omega)
theorem eq_any (a b : List By) (ha : a.length = 32) (hb : b.length = 32) (r : Bool) (hr0 : r = decide (a = b)) (w : World) : (Op.equalIn 10000 26 (.agg (a.map B8).toArray) (.agg (b.map B8).toArray)).run Tryz.prog w = .ok r w := by
  have hf : ∀ bs : List By, bs.length = 32 → (Value.agg (bs.map B8).toArray).formed Tryz.prog 26 = true := fun bs hl => by
    simp [Value.formed, Tryz.underlying26, Tryz.cells26, hl]
  have hk : ∀ bs : List By, bs.length = 32 → Tryz.prog.keyLits 2 26 (Value.agg (bs.map B8).toArray).cells.toList = some (hashLits bs) := fun bs hl => by simpa [Value.cells] using hash_key_at bs hl
  obtain ⟨q, hr, hiff⟩ := run_equalIn_deep (P := Tryz.prog) 9998 2 26 (by kernel_rfl) w 2 2 _ _ _ _ (hf a ha) (hf b hb) (hk a ha) (hk b hb)
  rw [hr, hr0]
  congr 1
  rw [Bool.eq_iff_iff, hiff, decide_eq_true_iff]
  exact ⟨hashLits_inj ha hb, fun h => by rw [h]⟩

theorem wpList_load_whole_g {ops : Array Oper} {rest : List Oper} {op : Oper} {a : Act} {w : World} {Q : Exit → Act → World → Prop} (hw : Region.wanted op (yielded ops a.tmps) = true) (ty : TypeId) (x : Operand) (ho : op.op = .load ty x)
    (g t n : Nat) (cs : List Value) (hr : Row w g t cs) (hx : a.eval x = .pointer (some ⟨g, 0, none⟩)) (d : TypeDesc) (hn : cs.length = n)
    (hu : Tryz.prog.underlying ty = some d) (hd : d.isRow = true) (hi : (Tryz.prog.info? ty).map (·.size) = some n)
    (h : wpList Tryz.prog ops Q rest (a.put op.dst (.agg cs.toArray)) w) : wpList Tryz.prog ops Q (op :: rest) a w := by
  refine wpList_step fun K hK => ?_
  rw [if_pos hw]
  exact wp_load_mid ty x ho g 0 hx _ d (by have := hr.range 0 cs.length; simpa using this) hu hd (by rw [hn]; exact hi) (hK _ _ h)
end Go.Proofs.YtjooabgjkjnhhaaGreatDoor


/-! The reference's token: Same, Few; the law's caveat. -/
namespace Go.Proofs.YtjooabgjkjnhhaaGreatDoor
open Go.RowKit
set_option linter.unusedVariables false
set_option linter.unusedSimpArgs false
set_option maxRecDepth 100000

theorem fold_push : ∀ (l : List Int) (r : ByteArray), (l.foldl (fun r n => r.push (UInt8.ofNat n.toNat)) r).data.toList = r.data.toList ++ l.map fun n => UInt8.ofNat n.toNat
  | [], r => by simp
  | n :: l, r => by
    rw [List.foldl_cons, fold_push l]
    simp [ByteArray.push]
theorem strOf_data (bs : List By) : (strOf bs).data.toList = bs.map fun b => UInt8.ofNat b.toNat := by
  unfold strOf
  rw [fold_push]
  simp
theorem strOf_inj {a b : List By} (h : strOf a = strOf b) : a = b := by
  have h1 : (strOf a).data.toList = (strOf b).data.toList := by rw [h]
  rw [strOf_data, strOf_data] at h1
  have key : ∀ (a b : List By), (a.map fun x => UInt8.ofNat x.toNat) = (b.map fun x => UInt8.ofNat x.toNat) → a = b := by
    intro a
    induction a with
    | nil => intro b h; cases b with | nil => rfl | cons y b => cases h
    | cons x a ih =>
      intro b h
      cases b with
      | nil => cases h
      | cons y b =>
        rw [List.map_cons, List.map_cons] at h
        injection h with h1 h2
        have h3 : x.toNat = y.toNat := by
          have := congrArg UInt8.toNat h1
          have hx := x.isLt
          have hy := y.isLt
          simpa [UInt8.toNat_ofNat, Nat.mod_eq_of_lt hx, Nat.mod_eq_of_lt hy] using this
        rw [BitVec.eq_of_toNat_eq h3, ih b h2]
  exact key a b h1
theorem strOf_beq (a b : List By) (r : Bool) (hr : r = decide (a = b)) : ((strOf a).toList == (strOf b).toList) = r := by
  rw [hr]
  by_cases h : a = b
  · subst h; simp
  · rw [decide_eq_false h, beq_eq_false_iff_ne]
    intro e
    rw [ByteArray.toList_eq, ByteArray.toList_eq] at e
    refine h (strOf_inj ?_)
    have e2 : (strOf a).data = (strOf b).data := Array.toList_inj.1 e
    cases ha : strOf a
    cases hb : strOf b
    rw [ha, hb] at e2
    simp only at e2
    rw [e2]
theorem wpList_load_part_g {ops : Array Oper} {rest : List Oper} {op : Oper} {a : Act} {w : World} {Q : Exit → Act → World → Prop} (hw : Region.wanted op (yielded ops a.tmps) = true) (ty : TypeId) (x : Operand) (ho : op.op = .load ty x)
    (g o t n : Nat) (cs : List Value) (hr : Row w g t cs) (hx : a.eval x = .pointer (some ⟨g, o, none⟩)) (d : TypeDesc) (cs' : List Value) (hcs : (cs.drop o).take n = cs') (hn : cs'.length = n)
    (hu : Tryz.prog.underlying ty = some d) (hd : d.isRow = true) (hi : (Tryz.prog.info? ty).map (·.size) = some n)
    (h : wpList Tryz.prog ops Q rest (a.put op.dst (.agg cs'.toArray)) w) : wpList Tryz.prog ops Q (op :: rest) a w := by
  subst hcs
  refine wpList_step fun K hK => ?_
  rw [if_pos hw]
  exact wp_load_mid ty x ho g o hx _ d (hr.range o n) hu hd (by rw [hn]; exact hi) (hK _ _ h)

theorem step_load_part {ops : Array Oper} {op : Oper} {a : Act} {w : World} {K : Act → World → Prop} {Q : Exit → Act → World → Prop} {X : Prop} (hw : Region.wanted op (yielded ops a.tmps) = true) (ty : TypeId) (x : Operand) (ho : op.op = .load ty x)
    (g o t n : Nat) (cs : List Value) (hr : Row w g t cs) (hx : a.eval x = .pointer (some ⟨g, o, none⟩)) (d : TypeDesc) (cs' : List Value) (hcs : (cs.drop o).take n = cs') (hn : cs'.length = n)
    (hu : Tryz.prog.underlying ty = some d) (hd : d.isRow = true) (hi : (Tryz.prog.info? ty).map (·.size) = some n)
    (h : K (a.put op.dst (.agg cs'.toArray)) w) : if Region.wanted op (yielded ops a.tmps) = true then Oper.wp Tryz.prog op a w K Q else X := by
  subst hcs
  rw [if_pos hw]
  exact wp_load_mid ty x ho g o hx _ d (hr.range o n) hu hd (by rw [hn]; exact hi) h

def cvL (c : Cv) : List Lit := [.int .i64 c.k, .int .i64 c.s, .int .i64 c.f, .int .i64 c.t, .int .u64 (c.z : Int)]
theorem cvL_inj {c d : Cv} (h : cvL c = cvL d) : c = d := by
  unfold cvL at h
  simp only [List.cons.injEq, Lit.int.injEq, true_and, and_true, Int.natCast_inj] at h
  cases c; cases d
  simp_all
theorem cwf_i64 {x : Int} (h : -9223372036854775808 ≤ x ∧ x < 9223372036854775808) : (Lit.int .i64 x).wf = true := WalkArith.wf_i64 ⟨h.1, by omega⟩
theorem cwf_u64 {z : Nat} (h : z < 18446744073709551616) : (Lit.int .u64 (z : Int)).wf = true := by
  simp [Lit.wf, IntKind.min, IntKind.max, IntKind.signed, IntKind.bits]
  omega
theorem ckey_int {x : Int} (h : -9223372036854775808 ≤ x ∧ x < 9223372036854775808) (d : Nat) : Tryz.prog.keyLits (d + 1) 3 [.int .i64 x] = some [.int .i64 x] := by
  unfold Program.keyLits
  simp only [Tryz.underlying3]
  rw [if_pos ⟨trivial, cwf_i64 h⟩]
theorem ckey_int64 {x : Int} (h : -9223372036854775808 ≤ x ∧ x < 9223372036854775808) (d : Nat) : Tryz.prog.keyLits (d + 1) 2 [.int .i64 x] = some [.int .i64 x] := by
  unfold Program.keyLits
  simp only [Tryz.underlying2]
  rw [if_pos ⟨trivial, cwf_i64 h⟩]
theorem ckey_u64 {z : Nat} (h : z < 18446744073709551616) (d : Nat) : Tryz.prog.keyLits (d + 1) 48 [.int .u64 (z : Int)] = some [.int .u64 (z : Int)] := by
  unfold Program.keyLits
  simp only [Tryz.underlying48]
  rw [if_pos ⟨trivial, cwf_u64 h⟩]
theorem cv_key (c : Cv) (h : c.ok) : Tryz.prog.keyLits 2 50 (cvC c) = some (cvL c) := by
  obtain ⟨h1, h2, h3, h4, h5⟩ := h
  unfold Program.keyLits
  simp only [Tryz.underlying50]
  rw [if_pos ⟨by kernel_rfl, by kernel_rfl⟩]
  have k1 := ckey_int h1 0
  have k2 := ckey_int h2 0
  have k3 := ckey_int64 h3 0
  have k4 := ckey_int64 h4 0
  have k5 := ckey_u64 h5 0
  have f1 : Tryz.prog.keyLits 1 3 (((cvC c).drop 0).take (Tryz.prog.cellsOf 3)) = some [.int .i64 c.k] := by rw [show Tryz.prog.cellsOf 3 = 1 by kernel_rfl]; exact k1
  have f2 : Tryz.prog.keyLits 1 3 (((cvC c).drop 1).take (Tryz.prog.cellsOf 3)) = some [.int .i64 c.s] := by rw [show Tryz.prog.cellsOf 3 = 1 by kernel_rfl]; exact k2
  have f3 : Tryz.prog.keyLits 1 2 (((cvC c).drop 2).take (Tryz.prog.cellsOf 2)) = some [.int .i64 c.f] := by rw [show Tryz.prog.cellsOf 2 = 1 by kernel_rfl]; exact k3
  have f4 : Tryz.prog.keyLits 1 2 (((cvC c).drop 3).take (Tryz.prog.cellsOf 2)) = some [.int .i64 c.t] := by rw [show Tryz.prog.cellsOf 2 = 1 by kernel_rfl]; exact k4
  have f5 : Tryz.prog.keyLits 1 48 (((cvC c).drop 4).take (Tryz.prog.cellsOf 48)) = some [.int .u64 (c.z : Int)] := by rw [show Tryz.prog.cellsOf 48 = 1 by kernel_rfl]; exact k5
  simp only [List.mapM_cons, List.mapM_nil, f1, f2, f3, f4, f5, Option.pure_def, Option.bind_eq_bind, Option.bind_some, Option.map_some]
  simp [cvL]
theorem eqC_any (c d : Cv) (hc : c.ok) (hd : d.ok) (r : Bool) (hr0 : r = true ↔ c = d) (w : World) : (Op.equalIn 10000 50 (.agg (cvC c).toArray) (.agg (cvC d).toArray)).run Tryz.prog w = .ok r w := by
  have hf : ∀ c : Cv, (Value.agg (cvC c).toArray).formed Tryz.prog 50 = true := fun c => by
    simp [Value.formed, Tryz.underlying50, show Tryz.prog.cellsOf 50 = 5 by kernel_rfl, cvC]
  have hk : ∀ c : Cv, c.ok → Tryz.prog.keyLits 2 50 (Value.agg (cvC c).toArray).cells.toList = some (cvL c) := fun c h => by simpa [Value.cells] using cv_key c h
  obtain ⟨q, hr, hiff⟩ := run_equalIn_deep (P := Tryz.prog) 9998 2 50 (by kernel_rfl) w 2 2 _ _ _ _ (hf c) (hf d) (hk c hc) (hk d hd)
  rw [hr]
  congr 1
  rw [Bool.eq_iff_iff, hiff, hr0]
  exact ⟨cvL_inj, fun h => by rw [h]⟩
theorem tkC_tagpart (key : Int) (io : Option Addr) (n ic : Nat) (lo : Option Addr) (m lc : Nat) (tag : List By) (ht : tag.length = 32) : ((tkC key io n ic lo m lc tag).drop 3).take 32 = tag.map B8 := by
  have : (tkC key io n ic lo m lc tag).drop 3 = tag.map B8 := rfl
  rw [this, List.take_of_length_le (by simp [ht])]
end Go.Proofs.YtjooabgjkjnhhaaGreatDoor
