
import Derived.Test.YtjooabgjkjnhhaaGreatDoorT24On
/-! TokenOnly, whole. (Printed by tools/gent24c.py.) -/
namespace Go.Proofs.YtjooabgjkjnhhaaGreatDoor
open Go.RowKit
set_option linter.unusedVariables false
set_option linter.unusedSimpArgs false
set_option maxRecDepth 100000

structure ON10 (W1 : World) (ta : Tk) (ia : Option Addr) (ica : Nat) (tb : Tk) (ib : Option Addr) (icb : Nat) (CA CB : List Value) (L : Nat → Bool) (x73 x74 x75 x76 x18 x19 : Value) (W : World) : Prop where
  x : B10 W1 ta ia ica tb ib icb (L 1) (L 3) (L 4) (L 5) (L 6) (L 7) x74 x76 x18 x19 W
  p0 : L 0 = true → x73 = .agg CA.toArray
  p2 : L 2 = true → x75 = .agg CB.toArray
section
variable {W1 : World} {ta : Tk} {ia : Option Addr} {ica : Nat} {tb : Tk} {ib : Option Addr} {icb : Nat} {CA CB : List Value} {L : Nat → Bool} {x73 x74 x75 x76 x18 x19 : Value} {W W2 : World}
theorem ON10.s0 (h : ON10 W1 ta ia ica tb ib icb CA CB L x73 x74 x75 x76 x18 x19 W) : ON10 W1 ta ia ica tb ib icb CA CB (upd L 0) (.agg CA.toArray) x74 x75 x76 x18 x19 W :=
  ⟨h.x, fun _ => rfl, h.p2⟩
theorem ON10.s1 (h : ON10 W1 ta ia ica tb ib icb CA CB L x73 x74 x75 x76 x18 x19 W) {v : Value} (hX : B10 W1 ta ia ica tb ib icb ((upd L 1) 1) ((upd L 1) 3) ((upd L 1) 4) ((upd L 1) 5) ((upd L 1) 6) ((upd L 1) 7) v x76 x18 x19 W2) : ON10 W1 ta ia ica tb ib icb CA CB (upd L 1) x73 v x75 x76 x18 x19 W2 :=
  ⟨hX, h.p0, h.p2⟩
end
@[reducible] def ION10 (W1 : World) (ta : Tk) (ia : Option Addr) (ica : Nat) (tb : Tk) (ib : Option Addr) (icb : Nat) (CA CB : List Value) (y0 y1 y2 y3 y4 y5 y6 y7 y8 y9 y10 y11 y12 y13 y14 y15 y16 y17 y20 y21 y22 y23 y24 y25 y26 y27 y28 y29 y30 y31 y32 y33 y34 y35 y36 y37 y38 y39 y40 y41 y42 y43 y44 y45 y46 y47 y48 y49 y50 y51 y52 y53 y54 y55 y56 y57 y58 y59 y60 y61 y62 y63 y64 y65 y66 y67 y68 y69 y70 y71 y72 y77 y78 y79 y80 y81 y82 y83 y84 y85 y86 y87 y88 y89 y90 y91 y92 y93 y94 y95 y96 y97 y98 y99 y100 y101 y102 y103 y104 y105 y106 y107 y108 y109 y110 y111 y112 y113 y114 y115 y116 y117 y118 y119 y120 y121 y122 y123 : Value) : (Nat → Bool) → Act → World → Prop := fun L a W => ∃ x73 x74 x75 x76 x18 x19, a = ⟨#[y0, y1, y2, y3, y4, y5, y6, y7, y8, y9, y10, y11, y12, y13, y14, y15, y16, y17, x18, x19, y20, y21, y22, y23, y24, y25, y26, y27, y28, y29, y30, y31, y32, y33, y34, y35, y36, y37, y38, y39, y40, y41, y42, y43, y44, y45, y46, y47, y48, y49, y50, y51, y52, y53, y54, y55, y56, y57, y58, y59, y60, y61, y62, y63, y64, y65, y66, y67, y68, y69, y70, y71, y72, x73, x74, x75, x76, y77, y78, y79, y80, y81, y82, y83, y84, y85, y86, y87, y88, y89, y90, y91, y92, y93, y94, y95, y96, y97, y98, y99, y100, y101, y102, y103, y104, y105, y106, y107, y108, y109, y110, y111, y112, y113, y114, y115, y116, y117, y118, y119, y120, y121, y122, y123], []⟩ ∧ ON10 W1 ta ia ica tb ib icb CA CB L x73 x74 x75 x76 x18 x19 W
set_option maxHeartbeats 4000000 in
/-- From 'x, y := back(a), back(b)' on. -/
theorem on7 (c3 c4 c5 c6 c7 c8 c9 c10 c11 c12 c13 c15 c17 c18 c19 c20 c21 c22 c23 c24 c25 c26 c27 c28 c29 c30 c31 c32 c33 c34 c35 c36 c37 c38 c39 c40 c41 c42 c43 c44 c45 c46 c47 c48 c49 c50 c51 c52 c53 c54 c55 c56 c57 c58 c59 c60 c61 c62 c63 c64 c65 c66 c67 c68 c69 c70 c71 c72 c73 c74 c75 c76 c77 c78 c79 c80 c81 c82 c83 c84 c85 c86 c87 c88 c89 c90 c91 c92 c93 c94 c95 c96 c97 c98 c99 c100 c101 c102 c103 c104 c105 c106 c107 c108 c109 c110 c111 c112 c113 c114 c115 c116 c117 c118 c119 c120 c121 c122 c123 : Value) (w Wa : World) (s : List By) (so : Option Addr) (sc : Nat) (id : List By) (io : Option Addr) (ic : Nat) (id2 : List By) (jo : Option Addr) (jc : Nat) (O : OnM Wa s so sc id io ic id2 jo jc) (l k : List Cv) (hl : ∀ c ∈ l, c.ok) (hk : ∀ c ∈ k, c.ok) (Na Nb ga gb : Nat) (ia : Option Addr) (ica : Nat) (la : Option Addr) (lca : Nat) (ib : Option Addr) (icb : Nat) (lb : Option Addr) (lcb : Nat) (RA : TkR Na Wa ga (isT s id (l.take 32)) ia ica la lca) (RB : TkR Nb Wa gb (isT s id2 (k.take 32)) ib icb lb lcb) (hB : Below w.heap.size w Wa) : Code.wp Tryz.prog (dropS 7 (Tryz.f4.body.getD .skip)) (bodyPost Tryz.prog Tryz.f4 (OkP w)) ⟨#[.slice so s.length sc, .slice io id.length ic, .slice jo id2.length jc, c3, c4, c5, c6, c7, c8, c9, c10, c11, c12, c13, .pointer (some ⟨ga, 0, none⟩), c15, .pointer (some ⟨gb, 0, none⟩), c17, c18, c19, c20, c21, c22, c23, c24, c25, c26, c27, c28, c29, c30, c31, c32, c33, c34, c35, c36, c37, c38, c39, c40, c41, c42, c43, c44, c45, c46, c47, c48, c49, c50, c51, c52, c53, c54, c55, c56, c57, c58, c59, c60, c61, c62, c63, c64, c65, c66, c67, c68, c69, c70, c71, c72, c73, c74, c75, c76, c77, c78, c79, c80, c81, c82, c83, c84, c85, c86, c87, c88, c89, c90, c91, c92, c93, c94, c95, c96, c97, c98, c99, c100, c101, c102, c103, c104, c105, c106, c107, c108, c109, c110, c111, c112, c113, c114, c115, c116, c117, c118, c119, c120, c121, c122, c123], []⟩ Wa := by
  obtain ⟨ta, hta⟩ : ∃ ta, ta = isT s id (l.take 32) := ⟨_, rfl⟩
  obtain ⟨tb, htb⟩ : ∃ tb, tb = isT s id2 (k.take 32) := ⟨_, rfl⟩
  have FA : Hid (ta.key = 3 ∧ ta.id = id ∧ ta.tag = rightT tag s id ta.cs ∧ ta.cs.length ≤ 32 ∧ ∀ c ∈ ta.cs, c.ok ∧ cvMay c = true) := by
    rw [hta]
    refine ⟨rfl, rfl, rfl, isT_len, fun c hc => ?_⟩
    have h1 := List.mem_filter.1 hc
    exact ⟨hl c (List.mem_of_mem_take h1.1), h1.2⟩
  have FB : Hid (tb.key = 3 ∧ tb.id = id2 ∧ tb.tag = rightT tag s id2 tb.cs ∧ tb.cs.length ≤ 32 ∧ ∀ c ∈ tb.cs, c.ok ∧ cvMay c = true) := by
    rw [htb]
    refine ⟨rfl, rfl, rfl, isT_len, fun c hc => ?_⟩
    have h1 := List.mem_filter.1 hc
    exact ⟨hk c (List.mem_of_mem_take h1.1), h1.2⟩
  rw [← hta] at RA
  rw [← htb] at RB
  clear hta htb hl hk
  have NXT : Hid (∀ c3 c4 c5 c6 c7 c8 c9 c10 c11 c12 c13 c15 c17 c21 c22 c23 c24 c25 c26 c27 c28 c29 c30 c31 c32 c33 c34 c35 c36 c37 c38 c39 c40 c41 c42 c43 c44 c45 c46 c47 c48 c49 c50 c51 c52 c53 c54 c55 c56 c57 c58 c59 c60 c61 c62 c63 c64 c65 c66 c67 c68 c69 c70 c71 c72 c73 c74 c75 c76 c77 c78 c79 c80 c81 c82 c83 c84 c85 c86 c87 c88 c89 c90 c91 c92 c93 c94 c95 c96 c97 c98 c99 c100 c101 c102 c103 c104 c105 c106 c107 c108 c109 c110 c111 c112 c113 c114 c115 c116 c117 c118 c119 c120 c121 c122 c123 W (gx gy : Nat) (CA CB CX CY : List Value) (lo : Option Addr) (lc : Nat) (mo : Option Addr) (mc : Nat) (sm : Bool), OnM W s so sc id io ic id2 jo jc → OnT W s id id2 ta tb ga gb gx gy CA CB CX CY lo lc mo mc → (sm = true ↔ (id = id2 ∧ ta.cs = tb.cs)) → Below w.heap.size w W → Code.wp Tryz.prog (dropS 10 (Tryz.f4.body.getD .skip)) (bodyPost Tryz.prog Tryz.f4 (OkP w)) ⟨#[.slice so s.length sc, .slice io id.length ic, .slice jo id2.length jc, c3, c4, c5, c6, c7, c8, c9, c10, c11, c12, c13, .pointer (some ⟨ga, 0, none⟩), c15, .pointer (some ⟨gb, 0, none⟩), c17, .pointer (some ⟨gx, 0, none⟩), .pointer (some ⟨gy, 0, none⟩), .bool sm, c21, c22, c23, c24, c25, c26, c27, c28, c29, c30, c31, c32, c33, c34, c35, c36, c37, c38, c39, c40, c41, c42, c43, c44, c45, c46, c47, c48, c49, c50, c51, c52, c53, c54, c55, c56, c57, c58, c59, c60, c61, c62, c63, c64, c65, c66, c67, c68, c69, c70, c71, c72, c73, c74, c75, c76, c77, c78, c79, c80, c81, c82, c83, c84, c85, c86, c87, c88, c89, c90, c91, c92, c93, c94, c95, c96, c97, c98, c99, c100, c101, c102, c103, c104, c105, c106, c107, c108, c109, c110, c111, c112, c113, c114, c115, c116, c117, c118, c119, c120, c121, c122, c123], []⟩ W) := fun c3 c4 c5 c6 c7 c8 c9 c10 c11 c12 c13 c15 c17 c21 c22 c23 c24 c25 c26 c27 c28 c29 c30 c31 c32 c33 c34 c35 c36 c37 c38 c39 c40 c41 c42 c43 c44 c45 c46 c47 c48 c49 c50 c51 c52 c53 c54 c55 c56 c57 c58 c59 c60 c61 c62 c63 c64 c65 c66 c67 c68 c69 c70 c71 c72 c73 c74 c75 c76 c77 c78 c79 c80 c81 c82 c83 c84 c85 c86 c87 c88 c89 c90 c91 c92 c93 c94 c95 c96 c97 c98 c99 c100 c101 c102 c103 c104 c105 c106 c107 c108 c109 c110 c111 c112 c113 c114 c115 c116 c117 c118 c119 c120 c121 c122 c123 W gx gy CA CB CX CY lo lc mo mc sm h1 h2 h3 h4 => on10 c3 c4 c5 c6 c7 c8 c9 c10 c11 c12 c13 c15 c17 c21 c22 c23 c24 c25 c26 c27 c28 c29 c30 c31 c32 c33 c34 c35 c36 c37 c38 c39 c40 c41 c42 c43 c44 c45 c46 c47 c48 c49 c50 c51 c52 c53 c54 c55 c56 c57 c58 c59 c60 c61 c62 c63 c64 c65 c66 c67 c68 c69 c70 c71 c72 c73 c74 c75 c76 c77 c78 c79 c80 c81 c82 c83 c84 c85 c86 c87 c88 c89 c90 c91 c92 c93 c94 c95 c96 c97 c98 c99 c100 c101 c102 c103 c104 c105 c106 c107 c108 c109 c110 c111 c112 c113 c114 c115 c116 c117 c118 c119 c120 c121 c122 c123 w W s so sc id io ic id2 jo jc ta tb ga gb gx gy CA CB CX CY lo lc mo mc h1 h2 sm h3 h4
  have LA : Hid (ta.tag.length = 32) := RA.own.tag
  have LB : Hid (tb.tag.length = 32) := RB.own.tag
  have HO : Hid (OnM Wa s so sc id io ic id2 jo jc) := O
  have HRA : Hid (TkR Na Wa ga ta ia ica la lca) := RA
  have HRB : Hid (TkR Nb Wa gb tb ib icb lb lcb) := RB
  have HB : Hid (Below w.heap.size w Wa) := hB
  have BKA : Hid (∀ W, Below Wa.heap.size Wa W → Calls Tryz.prog 13 #[.agg (tkCells ta ia ica la lca).toArray] W (BackO ta ia ica W)) := fun W h => l24back_own ta ia ica la lca W (RA.keep h).own.v (by have := FA.out.2.2.2.1; omega)
  have BKB : Hid (∀ W, Below Wa.heap.size Wa W → Calls Tryz.prog 13 #[.agg (tkCells tb ib icb lb lcb).toArray] W (BackO tb ib icb W)) := fun W h => l24back_own tb ib icb lb lcb W (RB.keep h).own.v (by have := FB.out.2.2.2.1; omega)
  have OA : Hid (∀ W, Below Wa.heap.size Wa W → TkO 52 Na W ta ia ica la lca) := fun W h => (RA.keep h).own
  have OB : Hid (∀ W, Below Wa.heap.size Wa W → TkO 52 Nb W tb ib icb lb lcb) := fun W h => (RB.keep h).own
  obtain ⟨CA, hCA⟩ : ∃ CA, CA = tkCells ta ia ica la lca := ⟨_, rfl⟩
  obtain ⟨CB, hCB⟩ : ∃ CB, CB = tkCells tb ib icb lb lcb := ⟨_, rfl⟩
  have RRA : Hid (∀ W, Below Wa.heap.size Wa W → Row W ga 40 CA) := fun W h => by rw [hCA]; exact (RA.keep h).row
  have RRB : Hid (∀ W, Below Wa.heap.size Wa W → Row W gb 40 CB) := fun W h => by rw [hCB]; exact (RB.keep h).row
  have PCA : Hid ((CA.drop 3).take 32 = ta.tag.map B8) := by rw [hCA]; exact tkCells_tag LA.out _ _ _ _
  have PCB : Hid ((CB.drop 3).take 32 = tb.tag.map B8) := by rw [hCB]; exact tkCells_tag LB.out _ _ _ _
  have LCA : Hid (CA.length = 35) := by rw [hCA]; exact tkC_len LA.out
  have LCB : Hid (CB.length = 35) := by rw [hCB]; exact tkC_len LB.out
  have WCA : Hid ((CA.drop 0).take 35 = CA) := by show _ = _; rw [List.drop_zero, List.take_of_length_le (by rw [LCA.out]; exact Nat.le_refl _)]
  have WCB : Hid ((CB.drop 0).take 35 = CB) := by show _ = _; rw [List.drop_zero, List.take_of_length_le (by rw [LCB.out]; exact Nat.le_refl _)]
  have GLA : Hid (ga < Wa.heap.size) := RA.row.lt
  have GLB : Hid (gb < Wa.heap.size) := RB.row.lt
  rw [← hCA] at BKA
  rw [← hCB] at BKB
  clear hCA hCB RA RB O hB
  generalize s.length = ns at *
  generalize hn1 : id.length = n1 at *
  generalize hn2 : id2.length = n2 at *
  clear hn1 hn2
  conv => arg 2; whnf
  refine wp_seq_k fun K hK => ?_
  have HK : Hid _ := hK
  clear hK
  go_upto_region 10 with fail
  refine wp_region_inv (ION10 Wa ta ia ica tb ib icb CA CB _ _ _ _ _ _ _ _ _ _ _ _ _ _ _ _ _ _ _ _ _ _ _ _ _ _ _ _ _ _ _ _ _ _ _ _ _ _ _ _ _ _ _ _ _ _ _ _ _ _ _ _ _ _ _ _ _ _ _ _ _ _ _ _ _ _ _ _ _ _ _ _ _ _ _ _ _ _ _ _ _ _ _ _ _ _ _ _ _ _ _ _ _ _ _ _ _ _ _ _ _ _ _ _ _ _ _ _ _ _ _ _ _ _ _ _ _ _) (by kernel_rfl) (by kernel_rfl) ⟨_, _, _, _, _, _, rfl, ⟨⟨SB.zero _ _ _ _ _ _, SB.zero _ _ _ _ _ _, fun h => (by cases h)⟩, fun k => (by cases k), fun k => (by cases k)⟩⟩ ?_ ?_
  · refine .cons ?_ (.cons ?_ (.cons ?_ (.cons ?_ (.cons ?_ (.cons ?_ (.cons ?_ (.cons ?_ .nil)))))))
    all_goals (rintro L _ W ⟨x73, x74, x75, x76, x18, x19, rfl, hI⟩ hL hd K hK)
    · refine step_load_part (by rfl) 40 _ rfl ga 0 40 35 CA (RRA.out W hI.x.A.bel) rfl _ CA WCA.out LCA.out Tryz.underlying40 rfl (by kernel_rfl) ?_
      exact hK.out _ _ ⟨_, _, _, _, _, _, rfl, { hI with p0 := fun _ => rfl }⟩
    · obtain rfl := hI.p0 (hd 0 (by decide))
      rw [if_pos (by rfl)]
      go_simp
      refine (BKA.out W hI.x.A.bel).mono ?_
      rintro e W2 ⟨lo9, lc9, rfl, _, ho9, hb9⟩
      go_simp
      have hX := B10.mk (hI.x.A.call hL hb9 (tkO_back ((OA.out W hI.x.A.bel).keep hb9) ho9) (q' := true) rfl) (hI.x.B.keep hb9) hI.x.d
      exact hK.out _ _ ⟨_, _, _, _, _, _, rfl, { hI with x := hX }⟩
    · refine step_load_part (by rfl) 40 _ rfl gb 0 40 35 CB (RRB.out W hI.x.A.bel) rfl _ CB WCB.out LCB.out Tryz.underlying40 rfl (by kernel_rfl) ?_
      exact hK.out _ _ ⟨_, _, _, _, _, _, rfl, { hI with p2 := fun _ => rfl }⟩
    · obtain rfl := hI.p2 (hd 2 (by decide))
      rw [if_pos (by rfl)]
      go_simp
      refine (BKB.out W hI.x.A.bel).mono ?_
      rintro e W2 ⟨lo9, lc9, rfl, _, ho9, hb9⟩
      go_simp
      have hX := B10.mk (hI.x.A.keep hb9) (hI.x.B.call hL hb9 (tkO_back ((OB.out W hI.x.A.bel).keep hb9) ho9) (q' := true) rfl) hI.x.d
      exact hK.out _ _ ⟨_, _, _, _, _, _, rfl, { hI with x := hX }⟩
    · rw [if_pos (by rfl)]
      have hX := hI.x.al18 hL (q' := true) rfl
      go_simp
      exact hK.out _ _ ⟨_, _, _, _, _, _, rfl, { hI with x := hX }⟩
    · rw [if_pos (by rfl)]
      have hX := hI.x.al19 hL (q' := true) rfl
      go_simp
      exact hK.out _ _ ⟨_, _, _, _, _, _, rfl, { hI with x := hX }⟩
    · have h1 := hd 1 (by decide)
      have h4 := hd 4 (by decide)
      obtain ⟨lo9, lc9, e74, ho9, _⟩ := hI.x.A.v h1
      obtain ⟨g9, cs9, e18, hg9, hr9, hz9⟩ := hI.x.A.a h4
      obtain rfl := hz9 hL
      refine step_store_Row rfl 28 (.tmp 18) (.tmp 74) rfl g9 28 zTk (tkCells ta ia ica lo9 lc9) hr9 (by rw [tkCells_len LA.out]; rfl) e18 e74 (by rw [tkCells_len LA.out]; kernel_rfl) (tkCells_one _ _ _ _ _) ?_
      intro W2 hr2 hs2
      have hX := B10.mk (hI.x.A.store h1 h4 e74 e18 hg9 hr9 hr2 hs2 (q' := true) rfl) (hI.x.B.other hs2 hr9 hg9 (fun h5 g' e' => Ne.symm (hI.x.d h4 h5 _ _ e18 e'))) hI.x.d
      exact hK.out _ _ ⟨_, _, _, _, _, _, rfl, { hI with x := hX }⟩
    · have h1 := hd 3 (by decide)
      have h4 := hd 5 (by decide)
      obtain ⟨lo9, lc9, e74, ho9, _⟩ := hI.x.B.v h1
      obtain ⟨g9, cs9, e18, hg9, hr9, hz9⟩ := hI.x.B.a h4
      obtain rfl := hz9 hL
      refine step_store_Row rfl 28 (.tmp 19) (.tmp 76) rfl g9 28 zTk (tkCells tb ib icb lo9 lc9) hr9 (by rw [tkCells_len LB.out]; rfl) e18 e74 (by rw [tkCells_len LB.out]; kernel_rfl) (tkCells_one _ _ _ _ _) ?_
      intro W2 hr2 hs2
      have hX := B10.mk (hI.x.A.other hs2 hr9 hg9 (fun h5 g' e' => hI.x.d h5 h4 _ _ e' e18)) (hI.x.B.store h1 h4 e74 e18 hg9 hr9 hr2 hs2 (q' := true) rfl) hI.x.d
      exact hK.out _ _ ⟨_, _, _, _, _, _, rfl, { hI with x := hX }⟩
  · rintro L _ W hall ⟨x73, x74, x75, x76, x18, x19, rfl, hI⟩
    obtain rfl := hI.p0 (hall 0 (by decide))
    obtain rfl := hI.p2 (hall 2 (by decide))
    have hXe := hI.x
    rw [hall 1 (by decide)] at hXe
    rw [hall 3 (by decide)] at hXe
    rw [hall 4 (by decide)] at hXe
    rw [hall 5 (by decide)] at hXe
    rw [hall 6 (by decide)] at hXe
    rw [hall 7 (by decide)] at hXe
    clear hI hall
    try dsimp only
    obtain ⟨lo1, lc1, _, ho1, r1⟩ := hXe.A.v rfl
    obtain ⟨gx, e18, hgx, hrx⟩ := r1 rfl
    obtain ⟨lo2, lc2, _, ho2, r2⟩ := hXe.B.v rfl
    obtain ⟨gy, e19, hgy, hry⟩ := r2 rfl
    have hne := hXe.d rfl rfl _ _ e18 e19
    have hbel := hXe.A.bel
    subst e18; subst e19
    have HW : Hid (Below Wa.heap.size Wa W ∧ Row W gx 28 (tkCells ta ia ica lo1 lc1) ∧ Row W gy 28 (tkCells tb ib icb lo2 lc2) ∧ TkO 50 0 W ta ia ica lo1 lc1 ∧ TkO 50 0 W tb ib icb lo2 lc2 ∧ gx ≠ gy ∧ Wa.heap.size ≤ gx ∧ Wa.heap.size ≤ gy) := ⟨hbel, hrx, hry, ho1, ho2, hne, hgx, hgy⟩
    clear hXe ho1 r1 ho2 r2 hgx hgy hrx hry hne hbel
    go_wp2
    refine HK.out _ _ ?_
    clear HK
    obtain ⟨CX, hCX⟩ : ∃ CX, CX = tkCells ta ia ica lo1 lc1 := ⟨_, rfl⟩
    obtain ⟨CY, hCY⟩ : ∃ CY, CY = tkCells tb ib icb lo2 lc2 := ⟨_, rfl⟩
    have PX : Hid ((CX.drop 3).take 32 = ta.tag.map B8) := by rw [hCX]; exact tkCells_tag LA.out _ _ _ _
    have LX : Hid (CX.length = 35) := by rw [hCX]; exact tkC_len LA.out
    have LY : Hid (CY.length = 35) := by rw [hCY]; exact tkC_len LB.out
    have T32 : Hid ((ta.tag.map B8).length = 32) := by show _ = _; rw [List.length_map, LA.out]
    have RX : Hid (Row W gx 28 CX) := by rw [hCX]; exact HW.out.2.1
    have RY : Hid (Row W gy 28 CY) := by rw [hCY]; exact HW.out.2.2.1
    have FIN : Hid (∀ w2, Row w2 gy 28 (CY.take 3 ++ ta.tag.map B8 ++ CY.drop (3 + (ta.tag.map B8).length)) → SameBut gy W w2 → Below Wa.heap.size Wa w2 ∧ Row w2 gx 28 CX ∧ Row w2 gy 28 (tkCells ⟨tb.key, tb.id, tb.cs, ta.tag⟩ ib icb lo2 lc2) ∧ TkO 50 0 w2 ta ia ica lo1 lc1 ∧ TkO 50 0 w2 tb ib icb lo2 lc2) := fun w2 hr hs => by
      rw [hCY] at hr
      have e9 : (tkCells tb ib icb lo2 lc2).take 3 ++ ta.tag.map B8 ++ (tkCells tb ib icb lo2 lc2).drop (3 + (ta.tag.map B8).length) = tkCells ⟨tb.key, tb.id, tb.cs, ta.tag⟩ ib icb lo2 lc2 := tkC_settag _ _ _ _ _ _ _ _ _ LB.out LA.out
      rw [e9] at hr
      exact ⟨hs.below HW.out.1 HW.out.2.2.2.2.2.2.2, RX.out.but hs HW.out.2.2.2.2.2.1, hr, HW.out.2.2.2.1.but hs HW.out.2.2.1 (by decide) (by decide), HW.out.2.2.2.2.1.but hs HW.out.2.2.1 (by decide) (by decide)⟩
    have HCX : Hid (CX = tkCells ta ia ica lo1 lc1) := hCX
    clear hCX hCY HW
    refine wp_seq_k fun K hK => ?_
    have HK : Hid _ := hK
    clear hK
    go_wp2_with (first
      | (have hz := RX; clear hz; refine wpList_load_part_g ?_ 26 (.tmp 77) rfl gx 3 28 32 CX RX.out rfl _ (ta.tag.map B8) PX.out T32.out Tryz.underlying26 rfl (by kernel_rfl) ?_; · rfl)
      | (have hz := RY; clear hz; refine wpList_store_Row rfl 26 (.tmp 79) (.tmp 78) rfl gy 28 3 CY (ta.tag.map B8) RY.out (by rw [T32.out, LY.out]; exact Nat.le_refl _) rfl rfl (by rw [T32.out]; kernel_rfl) (B8_one _) ?_; intro w2 hr2 hs2; have HF : Hid _ := FIN.out w2 hr2 hs2; clear RY hr2 hs2 FIN))
    refine HK.out _ _ ?_
    clear HK
    obtain ⟨tc, htc⟩ : ∃ tc : Tk, tc = ⟨tb.key, tb.id, tb.cs, ta.tag⟩ := ⟨_, rfl⟩
    have HTC : Hid (tc = ⟨tb.key, tb.id, tb.cs, ta.tag⟩) := htc
    rw [← htc] at HF
    obtain ⟨CZ, hCZ⟩ : ∃ CZ, CZ = tkCells tc ib icb lo2 lc2 := ⟨_, rfl⟩
    have LZ : Hid (CZ.length = 35) := by rw [hCZ, htc]; exact tkC_len LA.out
    have HVC : Hid (TkV w2 tc ib icb lo2 lc2) := by
      have h := HF.out.2.2.2.2.v
      rw [htc]
      exact ⟨h.id, h.inil, h.ile, h.cs, h.lnil, h.lle, LA.out, h.ok, h.big⟩
    obtain ⟨sm, hsm⟩ : ∃ sm : Bool, (sm = true ↔ ta = tc) := by
      by_cases h : ta = tc
      · exact ⟨true, by simp [h]⟩
      · exact ⟨false, by simp [h]⟩
    have SMC : Calls Tryz.prog 12 #[.agg CX.toArray, .agg CZ.toArray] w2 fun e w' => e = .returned (.bool sm) ∧ Below w2.heap.size w2 w' := by
      rw [HCX.out, hCZ]
      exact r24Same_any ta tc ia ica lo1 lc1 ib icb lo2 lc2 w2 HF.out.2.2.2.1.v HVC.out (by have := FA.out.2.2.2.1; omega) sm hsm
    have HSM : Hid (sm = true ↔ (id = id2 ∧ ta.cs = tb.cs)) := by
      show _ ↔ _
      rw [hsm, HTC.out]
      have hA := FA.out
      have hBb := FB.out
      constructor
      · intro h
        have h1 := congrArg Tk.id h
        have h2 := congrArg Tk.cs h
        exact ⟨by rw [← hA.2.1, ← hBb.2.1]; exact h1, h2⟩
      · rintro ⟨h1, h2⟩
        exact tk_eq (by rw [hA.1]; exact hBb.1.symm) (by rw [hA.2.1, h1]; exact hBb.2.1.symm) rfl h2
    have RX2 : Hid (Row w2 gx 28 CX) := HF.out.2.1
    have RZ2 : Hid (Row w2 gy 28 CZ) := by rw [hCZ]; exact HF.out.2.2.1
    have HCZ : Hid (CZ[2]? = some (.slice lo2 tb.cs.length lc2)) := by rw [hCZ, htc]; rfl
    have HCX2 : Hid (CX[2]? = some (.slice lo1 ta.cs.length lc1)) := by rw [HCX.out]; rfl
    clear htc hCZ hsm
    refine wp_seq_k fun K hK => ?_
    have HK : Hid _ := hK
    clear hK
    go_wp2_with (first
      | (have hz := RX2; clear hz; refine wpList_load_Row rfl 28 (.tmp 18) rfl gx 28 CX RX2.out rfl _ Tryz.underlying28 rfl (by rw [LX.out]; kernel_rfl) ?_)
      | (have hz := RZ2; clear hz; refine wpList_load_Row rfl 28 (.tmp 19) rfl gy 28 CZ RZ2.out rfl _ Tryz.underlying28 rfl (by rw [LZ.out]; kernel_rfl) ?_))
    refine SMC.mono ?_
    clear SMC
    rintro e w3 ⟨rfl, hb3⟩
    dsimp only
    have HB3 : Hid (Below w2.heap.size w2 w3) := hb3
    have HA3 : Hid (Below Wa.heap.size Wa w3) := HF.out.1.trans (hb3.mono HF.out.1.size)
    clear hb3
    go_wp2
    refine HK.out _ _ ?_
    exact NXT.out _ _ _ _ _ _ _ _ _ _ _ _ _ _ _ _ _ _ _ _ _ _ _ _ _ _ _ _ _ _ _ _ _ _ _ _ _ _ _ _ _ _ _ _ _ _ _ _ _ _ _ _ _ _ _ _ _ _ _ _ _ _ _ _ _ _ _ _ _ _ _ _ _ _ _ _ _ _ _ _ _ _ _ _ _ _ _ _ _ _ _ _ _ _ _ _ _ _ _ _ _ _ _ _ _ _ _ _ _ _ _ _ _ _ _ _ w3 gx gy CA CB CX CZ lo1 lc1 lo2 lc2 sm (HO.out.keep HA3.out) ⟨RRA.out w3 HA3.out, RRB.out w3 HA3.out, RX2.out.below HB3.out RX2.out.lt, RZ2.out.below HB3.out RZ2.out.lt, PCA.out, PCB.out, HCX2.out, HCZ.out, HF.out.2.2.2.1.v.cs.keep HB3.out, HF.out.2.2.2.2.v.cs.keep HB3.out, FA.out.2.2.1, FB.out.2.2.1, FA.out.2.2.2.1, FB.out.2.2.2.1, FA.out.2.2.2.2, FB.out.2.2.2.2⟩ HSM.out (HB.out.trans (HA3.out.mono HB.out.size))
end Go.Proofs.YtjooabgjkjnhhaaGreatDoor
