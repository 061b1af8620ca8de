
import Derived.Test.YtjooabgjkjnhhaaGreatDoorT24Mk
/-! TokenMakes, whole. (Printed by tools/gent24c.py.) -/
namespace Go.Proofs.YtjooabgjkjnhhaaGreatDoor
open Go.RowKit
set_option linter.unusedVariables false
set_option linter.unusedSimpArgs false
set_option maxRecDepth 100000

theorem secE_256 {l : Secs} {i : Nat} (h : secE l i = none) : (l.getD i (0, [])).2.length ≤ 256 := by
  unfold secE at h
  by_cases h1 : (l.getD i (0, [])).1 < 0 ∨ 63 < (l.getD i (0, [])).1
  · rw [if_pos h1] at h; cases h
  · rw [if_neg h1] at h
    by_cases h2 : (l.getD i (0, [])).2.length < 1 ∨ 256 < (l.getD i (0, [])).2.length
    · rw [if_pos h2] at h; cases h
    · omega
theorem newE_256 {l : Secs} (h : newE l = none) : ∀ i, i < l.length → (l.getD i (0, [])).2.length ≤ 256 := fun i hi => secE_256 ((newE_none h).2 i hi)
structure MK12 (W1 : World) (x : Tk) (io : Option Addr) (ic : Nat) (T X : List Value) (Ev : Int) (L : Nat → Bool) (x76 x77 x78 x79 x80 x81 x82 x83 x84 x85 : Value) (W : World) : Prop where
  x : BS W1 x io ic (L 5) x81 W
  p0 : L 0 = true → x76 = .int .i64 Ev
  p1 : L 1 = true → x77 = .int .i64 Ev
  p2 : L 2 = true → x78 = .bool false
  p3 : L 3 = true → x79 = .bool false
  p4 : L 4 = true → x80 = .agg X.toArray
  p6 : L 6 = true → x82 = .agg T.toArray
  p7 : L 7 = true → x83 = .bool true
  p8 : L 8 = true → x84 = .bool false
  p9 : L 9 = true → x85 = .bool false
section
variable {W1 : World} {x : Tk} {io : Option Addr} {ic : Nat} {T X : List Value} {Ev : Int} {L : Nat → Bool} {x76 x77 x78 x79 x80 x81 x82 x83 x84 x85 : Value} {W W2 : World}
theorem MK12.s0 (h : MK12 W1 x io ic T X Ev L x76 x77 x78 x79 x80 x81 x82 x83 x84 x85 W) : MK12 W1 x io ic T X Ev (upd L 0) (.int .i64 Ev) x77 x78 x79 x80 x81 x82 x83 x84 x85 W :=
  ⟨h.x, fun _ => rfl, h.p1, h.p2, h.p3, h.p4, h.p6, h.p7, h.p8, h.p9⟩
theorem MK12.s1 (h : MK12 W1 x io ic T X Ev L x76 x77 x78 x79 x80 x81 x82 x83 x84 x85 W) : MK12 W1 x io ic T X Ev (upd L 1) x76 (.int .i64 Ev) x78 x79 x80 x81 x82 x83 x84 x85 W :=
  ⟨h.x, h.p0, fun _ => rfl, h.p2, h.p3, h.p4, h.p6, h.p7, h.p8, h.p9⟩
end
@[reducible] def IMK12 (W1 : World) (x : Tk) (io : Option Addr) (ic : Nat) (T X : List Value) (Ev : Int) (y0 y1 y2 y3 y4 y5 y6 y7 y8 y9 y10 y11 y12 y13 y14 y15 y16 y17 y18 y19 y20 y21 y22 y23 y24 y25 y26 y27 y28 y29 y30 y31 y32 y33 y34 y35 y36 y37 y38 y39 y40 y41 y42 y43 y44 y45 y46 y47 y48 y49 y50 y51 y52 y53 y54 y55 y56 y57 y58 y59 y60 y61 y62 y63 y64 y65 y66 y67 y68 y69 y70 y71 y72 y73 y74 y75 y86 y87 y88 y89 y90 y91 y92 y93 y94 y95 y96 y97 y98 y99 y100 y101 y102 y103 y104 y105 y106 y107 y108 y109 y110 y111 y112 y113 y114 y115 y116 y117 y118 y119 y120 y121 y122 y123 y124 y125 y126 y127 y128 : Value) : (Nat → Bool) → Act → World → Prop := fun L a W => ∃ x76 x77 x78 x79 x80 x81 x82 x83 x84 x85, a = ⟨#[y0, y1, y2, y3, y4, y5, y6, y7, y8, y9, y10, y11, y12, y13, y14, y15, y16, y17, y18, y19, y20, y21, y22, y23, y24, y25, y26, y27, y28, y29, y30, y31, y32, y33, y34, y35, y36, y37, y38, y39, y40, y41, y42, y43, y44, y45, y46, y47, y48, y49, y50, y51, y52, y53, y54, y55, y56, y57, y58, y59, y60, y61, y62, y63, y64, y65, y66, y67, y68, y69, y70, y71, y72, y73, y74, y75, x76, x77, x78, x79, x80, x81, x82, x83, x84, x85, y86, y87, y88, y89, y90, y91, y92, y93, y94, y95, y96, y97, y98, y99, y100, y101, y102, y103, y104, y105, y106, y107, y108, y109, y110, y111, y112, y113, y114, y115, y116, y117, y118, y119, y120, y121, y122, y123, y124, y125, y126, y127, y128], []⟩ ∧ MK12 W1 x io ic T X Ev L x76 x77 x78 x79 x80 x81 x82 x83 x84 x85 W
set_option maxHeartbeats 4000000 in
theorem makes24_any (C : Tok) (w : World) (hg : HG w) (so : Option Addr) (sc B off : Nat) (vs : List Value) (S : Secs) (hao : 0 < S.length → so = some ⟨B, off, none⟩) (hin : SecIn w B off vs S) (key : Int) (do_ : Option Addr) (dc : Nat) (id : List By) (hi : IsB w do_ id) (hic : id.length ≤ dc) (hin2 : do_ = none → dc = 0) (hib : id.length ≤ 140737488351232) (t : Tk) (io : Option Addr) (ic : Nat) (lo : Option Addr) (lc : Nat) (hv : TkV w t io ic lo lc) (no : Option Addr) (nc : Nat) (L : List Cv) (hL : CvsIn w no L) (hok : ∀ c ∈ L, c.ok) (hlb : L.length ≤ 140737488351232) :
    Calls Tryz.prog 3 #[.slice so S.length sc, .int .i64 key, .slice do_ id.length dc, .agg (tkCells t io ic lo lc).toArray, .slice no L.length nc] w (OkP w) := by
  obtain ⟨T, hT⟩ : ∃ T, T = tkCells t io ic lo lc := ⟨_, rfl⟩
  have LT : Hid (T.length = 35) := by rw [hT]; exact tkC_len hv.tag
  obtain ⟨W1, hW1⟩ : ∃ W1, W1 = w.alloc (.cells T.toArray 28) := ⟨_, rfl⟩
  have r1 : Row W1 w.heap.size 28 T := by rw [hW1]; exact Row.at w _ _ _ _ rfl rfl
  have b1 : Below w.heap.size w W1 := by rw [hW1]; exact (Below.refl _ _).alloc (Nat.le_refl _) _
  have AW := awake24_any C W1 (hg.below b1 hg.lt)
  have HB1 : Hid (Below w.heap.size w W1) := b1
  have RT : Hid (∀ W, Below W1.heap.size W1 W → Row W w.heap.size 28 T) := fun W h => r1.below h r1.lt
  have HC : Hid Tok := C
  have HT : Hid (tkCells t io ic lo lc = T) := hT.symm
  have NXT : Hid (t.cs.length ≤ 65536 → L.length ≤ 100 → ∀ c0 c1 c2 c3 c5 c6 c7 c9 c10 c11 c12 c13 c14 c15 c16 c17 c18 c19 c20 c21 c22 c23 c24 c25 c26 c27 c28 c29 c30 c31 c32 c33 c34 c35 c36 c37 c38 c39 c40 c41 c42 c43 c44 c45 c46 c47 c48 c49 c50 c51 c52 c53 c54 c55 c56 c57 c58 c59 c60 c61 c62 c63 c64 c65 c66 c67 c68 c69 c70 c71 c72 c73 c74 c75 c76 c77 c78 c79 c80 c81 c82 c83 c84 c85 c86 c87 c88 c89 c90 c91 c92 c93 c94 c95 c96 c97 c98 c99 c100 c101 c102 c103 c104 c105 c106 c107 c108 c109 c110 c111 c112 c113 c114 c115 c116 c117 c118 c119 c120 c121 c122 c123 c124 c125 c126 c127 c128 W, Below w.heap.size w W → Row W w.heap.size 28 T → Code.wp Tryz.prog (dropS 7 (Tryz.f3.body.getD .skip)) (bodyPost Tryz.prog Tryz.f3 (OkP w)) ⟨#[c0, c1, c2, c3, .slice no L.length nc, c5, c6, c7, .pointer (some ⟨w.heap.size, 0, none⟩), c9, c10, c11, c12, c13, c14, c15, c16, c17, c18, c19, c20, c21, c22, c23, c24, c25, c26, c27, c28, c29, c30, c31, c32, c33, c34, c35, c36, c37, c38, c39, c40, c41, c42, c43, c44, c45, c46, c47, c48, c49, c50, c51, c52, c53, c54, c55, c56, c57, c58, c59, c60, c61, c62, c63, c64, c65, c66, c67, c68, c69, c70, c71, c72, c73, c74, c75, c76, c77, c78, c79, c80, c81, c82, c83, c84, c85, c86, c87, c88, c89, c90, c91, c92, c93, c94, c95, c96, c97, c98, c99, c100, c101, c102, c103, c104, c105, c106, c107, c108, c109, c110, c111, c112, c113, c114, c115, c116, c117, c118, c119, c120, c121, c122, c123, c124, c125, c126, c127, c128], []⟩ W) := fun h1 h2 c0 c1 c2 c3 c5 c6 c7 c9 c10 c11 c12 c13 c14 c15 c16 c17 c18 c19 c20 c21 c22 c23 c24 c25 c26 c27 c28 c29 c30 c31 c32 c33 c34 c35 c36 c37 c38 c39 c40 c41 c42 c43 c44 c45 c46 c47 c48 c49 c50 c51 c52 c53 c54 c55 c56 c57 c58 c59 c60 c61 c62 c63 c64 c65 c66 c67 c68 c69 c70 c71 c72 c73 c74 c75 c76 c77 c78 c79 c80 c81 c82 c83 c84 c85 c86 c87 c88 c89 c90 c91 c92 c93 c94 c95 c96 c97 c98 c99 c100 c101 c102 c103 c104 c105 c106 c107 c108 c109 c110 c111 c112 c113 c114 c115 c116 c117 c118 c119 c120 c121 c122 c123 c124 c125 c126 c127 c128 W h h3 => mk7 c0 c1 c2 c3 c5 c6 c7 c9 c10 c11 c12 c13 c14 c15 c16 c17 c18 c19 c20 c21 c22 c23 c24 c25 c26 c27 c28 c29 c30 c31 c32 c33 c34 c35 c36 c37 c38 c39 c40 c41 c42 c43 c44 c45 c46 c47 c48 c49 c50 c51 c52 c53 c54 c55 c56 c57 c58 c59 c60 c61 c62 c63 c64 c65 c66 c67 c68 c69 c70 c71 c72 c73 c74 c75 c76 c77 c78 c79 c80 c81 c82 c83 c84 c85 c86 c87 c88 c89 c90 c91 c92 c93 c94 c95 c96 c97 c98 c99 c100 c101 c102 c103 c104 c105 c106 c107 c108 c109 c110 c111 c112 c113 c114 c115 c116 c117 c118 c119 c120 c121 c122 c123 c124 c125 c126 c127 c128 C w W w.heap.size t io ic lo lc h (Nat.le_refl _) (by rw [HT.out]; exact h3) hv h1 no nc L hL hok h2
  have CN : Hid (∀ W, Below w.heap.size w W → Calls Tryz.prog 8 #[.slice so S.length sc] W (CNewPost S W)) := fun W h => cnew_any W so S.length sc B off vs S rfl hao (hin.keep h)
  have RN : Hid (∀ W, Below w.heap.size w W → Calls Tryz.prog 9 #[.slice so S.length sc] W (RNewPost S W)) := fun W h => rnew_any W so S.length sc B off vs S rfl hao (hin.keep h)
  have HID : Hid ((∀ W, Below w.heap.size w W → IsB W do_ id) ∧ id.length ≤ dc ∧ (do_ = none → dc = 0) ∧ id.length ≤ 140737488351232) := ⟨fun W h => hi.below h (Nat.le_refl _), hic, hin2, hib⟩
  have HLB : Hid (L.length ≤ 140737488351232) := hlb
  have WW : Hid (∀ W, Below W1.heap.size W1 W → Below w.heap.size w W) := fun W h => b1.trans (h.mono b1.size)
  rw [← hT]
  clear hT r1 b1 hv C hg hL hok hlb hao hin hi hic hin2 hib
  generalize hns : S.length = ns at *
  generalize hni : id.length = ni at *
  generalize hnl : L.length = nl at *
  go_enter Tryz.func3, Tryz.ntmps3
  refine wp_seq_k fun K hK => ?_
  have HK : Hid _ := hK
  clear hK
  go_wp2
  refine HK.out _ _ ?_
  clear HK
  refine wp_at24 hW1 ?_
  clear hW1
  refine wp_seq_k fun K hK => ?_
  have HK : Hid _ := hK
  clear hK
  go_wp2_with fail
  refine AW.mono ?_
  clear AW
  rintro e w2 ⟨rfl, hb2⟩
  dsimp only
  have HB2 : Hid (Below W1.heap.size W1 w2) := hb2
  have R2 := RT.out w2 hb2
  have FW : Calls Tryz.prog 7 #[.agg T.toArray] w2 fun e w' => e = .returned (.bool (decide (t.cs.length ≤ 65536))) ∧ Below w2.heap.size w2 w' := by rw [← HT.out]; exact r24Few_any t io ic lo lc w2
  clear hb2
  go_wp2
  refine HK.out _ _ ?_
  clear HK
  refine wp_seq_k fun K hK => ?_
  have HK : Hid _ := hK
  clear hK
  by_cases hf : t.cs.length ≤ 65536
  · rw [decide_eq_true hf] at FW
    have HFW : Hid (t.cs.length ≤ 65536) := hf
    clear hf
    go_wp2_with (first
      | (have hz := R2; clear hz; refine wpList_load_Row rfl 28 (.tmp 8) rfl w.heap.size 28 T R2 rfl _ Tryz.underlying28 rfl (by rw [LT.out]; kernel_rfl) ?_; clear R2))
    refine FW.mono ?_
    clear FW
    rintro e w3 ⟨rfl, hb3⟩
    dsimp only
    have HB3 : Hid (Below W1.heap.size W1 w3) := HB2.out.trans (hb3.mono HB2.out.size)
    clear hb3 HB2
    by_cases hl : nl ≤ 100
    · have y1 : ¬ (100 : Int) < (nl : Int) := by omega
      have NX2 : Hid (∀ c0 c1 c2 c3 c5 c6 c7 c9 c10 c11 c12 c13 c14 c15 c16 c17 c18 c19 c20 c21 c22 c23 c24 c25 c26 c27 c28 c29 c30 c31 c32 c33 c34 c35 c36 c37 c38 c39 c40 c41 c42 c43 c44 c45 c46 c47 c48 c49 c50 c51 c52 c53 c54 c55 c56 c57 c58 c59 c60 c61 c62 c63 c64 c65 c66 c67 c68 c69 c70 c71 c72 c73 c74 c75 c76 c77 c78 c79 c80 c81 c82 c83 c84 c85 c86 c87 c88 c89 c90 c91 c92 c93 c94 c95 c96 c97 c98 c99 c100 c101 c102 c103 c104 c105 c106 c107 c108 c109 c110 c111 c112 c113 c114 c115 c116 c117 c118 c119 c120 c121 c122 c123 c124 c125 c126 c127 c128 W, Below w.heap.size w W → Row W w.heap.size 28 T → Code.wp Tryz.prog (dropS 7 (Tryz.f3.body.getD .skip)) (bodyPost Tryz.prog Tryz.f3 (OkP w)) ⟨#[c0, c1, c2, c3, .slice no nl nc, c5, c6, c7, .pointer (some ⟨w.heap.size, 0, none⟩), c9, c10, c11, c12, c13, c14, c15, c16, c17, c18, c19, c20, c21, c22, c23, c24, c25, c26, c27, c28, c29, c30, c31, c32, c33, c34, c35, c36, c37, c38, c39, c40, c41, c42, c43, c44, c45, c46, c47, c48, c49, c50, c51, c52, c53, c54, c55, c56, c57, c58, c59, c60, c61, c62, c63, c64, c65, c66, c67, c68, c69, c70, c71, c72, c73, c74, c75, c76, c77, c78, c79, c80, c81, c82, c83, c84, c85, c86, c87, c88, c89, c90, c91, c92, c93, c94, c95, c96, c97, c98, c99, c100, c101, c102, c103, c104, c105, c106, c107, c108, c109, c110, c111, c112, c113, c114, c115, c116, c117, c118, c119, c120, c121, c122, c123, c124, c125, c126, c127, c128], []⟩ W) := NXT.out HFW.out hl
      clear hl NXT
      go_wp2
      refine HK.out _ _ ?_
      clear HK
      clear y1
      refine wp_seq_k fun K hK => ?_
      have HK : Hid _ := hK
      clear hK
      have C3 := CN.out w3 (WW.out w3 HB3.out)
      go_wp2_with fail
      refine C3.mono ?_
      clear C3 CN
      rintro e w4 ⟨hb4, h4⟩
      have HB4 : Hid (Below W1.heap.size W1 w4) := HB3.out.trans (hb4.mono HB3.out.size)
      have R4 := RN.out w4 (WW.out w4 HB4.out)
      clear hb4 HB3 RN
      rcases h4 with ⟨er, i, hne, rfl⟩ | ⟨hne, g, b, cs, rfl, hkg⟩
      · have HE : Hid (newE S = some (er, i)) := hne
        clear hne
        dsimp only
        go_wp2
        refine HK.out _ _ ?_
        clear HK
        refine wp_seq_k fun K hK => ?_
        have HK : Hid _ := hK
        clear hK
        go_wp2_with fail
        refine R4.mono ?_
        clear R4
        rintro e w5 ⟨hb5, h5⟩
        have HB5 : Hid (Below W1.heap.size W1 w5) := HB4.out.trans (hb5.mono HB4.out.size)
        clear hb5 HB4
        rcases h5 with ⟨er2, i2, hne2, rfl⟩ | ⟨hne2, _⟩
        · rw [HE.out] at hne2
          injection hne2 with hne2
          injection hne2 with e1 e2
          subst e1 e2
          have e3 : (er == er) = true := by simp
          have e4 : (er != er) = false := by simp
          dsimp only
          go_wp2
          refine HK.out _ _ ?_
          clear HK
          refine wp_seq_k fun K hK => ?_
          have HK : Hid _ := hK
          clear hK
          go_wp2
          refine HK.out _ _ ?_
          clear HK
          refine wp_seq_k fun K hK => ?_
          have HK : Hid _ := hK
          clear hK
          go_wp2
          refine HK.out _ _ ?_
          exact NX2.out _ _ _ _ _ _ _ _ _ _ _ _ _ _ _ _ _ _ _ _ _ _ _ _ _ _ _ _ _ _ _ _ _ _ _ _ _ _ _ _ _ _ _ _ _ _ _ _ _ _ _ _ _ _ _ _ _ _ _ _ _ _ _ _ _ _ _ _ _ _ _ _ _ _ _ _ _ _ _ _ _ _ _ _ _ _ _ _ _ _ _ _ _ _ _ _ _ _ _ _ _ _ _ _ _ _ _ _ _ _ _ _ _ _ _ _ _ _ _ _ _ _ _ _ _ _ _ w5 (WW.out w5 HB5.out) (RT.out w5 HB5.out)
        · rw [HE.out] at hne2; cases hne2
      · have HE : Hid (newE S = none) := hne
        have HKG : Hid (∀ W, Below w4.heap.size w4 W → KgO _ _ W g b cs S) := fun W h => hkg.below h
        clear hne hkg
        dsimp only
        go_wp2
        refine HK.out _ _ ?_
        clear HK
        refine wp_seq_k fun K hK => ?_
        have HK : Hid _ := hK
        clear hK
        go_wp2_with fail
        refine R4.mono ?_
        clear R4
        rintro e w5 ⟨hb5, h5⟩
        have HB5 : Hid (Below W1.heap.size W1 w5) := HB4.out.trans (hb5.mono HB4.out.size)
        have HK5 : Hid (KgO _ _ w5 g b cs S) := HKG.out w5 hb5
        clear hb5 HKG
        rcases h5 with ⟨er2, i2, hne2, _⟩ | ⟨_, ro, rc, rs, rfl, hrg⟩
        · rw [HE.out] at hne2; cases hne2
        have HRG : Hid (RgAt w5 w4.heap.size ro rc rs S) := hrg.to
        have H64 : Hid (S.length ≤ 64) := (newE_none HE.out).1
        clear hrg HB4
        dsimp only
        generalize w4.heap.size = gr at *
        go_wp2
        refine HK.out _ _ ?_
        clear HK
        refine wp_seq_k fun K hK => ?_
        have HK : Hid _ := hK
        clear hK
        go_wp2
        refine HK.out _ _ ?_
        clear HK
        have I1 : Calls Tryz.prog 10 #[.pointer (some ⟨g, 0, none⟩), .int .i64 key, .slice do_ ni dc] w5 fun e w' => Below w5.heap.size w5 w' ∧ TkA (isxT S key id) (.int .i64 (isxE S key id)) w5 e w' := by
          have := ciss_any HC.out _ _ w5 g b cs S HK5.out (newE_256 HE.out) key do_ dc id (HID.out.1 w5 (WW.out w5 HB5.out)) (by rw [hni]; exact HID.out.2.1) HID.out.2.2.1 (by rw [hni]; exact HID.out.2.2.2)
          rw [hni] at this
          exact this
        have I2 : Hid (∀ W, Below w5.heap.size w5 W → Calls Tryz.prog 11 #[.pointer (some ⟨gr, 0, none⟩), .int .i64 key, .slice do_ ni dc] W fun e w' => Below W.heap.size W w' ∧ TkD (isxT S key id) (.int .i64 (isxE S key id)) W e w') := fun W h => by
          have := riss_any W gr ro rc rs S (HRG.out.keep h) H64.out (newE_256 HE.out) key do_ dc id (HID.out.1 W (WW.out W (HB5.out.trans (h.mono HB5.out.size)))) HID.out.2.2.1 (by rw [hni]; exact HID.out.2.2.2)
          rw [hni] at this
          exact this
        have HXC : Hid ((isxT S key id).cs.length ≤ 100) := by show _ ≤ _; rw [isxT_cs]; exact Nat.zero_le _
        clear HK5 HRG H64 HE HID HC hni
        generalize isxT S key id = x at *
        generalize isxE S key id = Ev at *
        refine wp_seq_k fun K hK => ?_
        have HK : Hid _ := hK
        clear hK
        go_wp2_with fail
        refine I1.mono ?_
        clear I1
        rintro e w6 ⟨hb6, io6, ic6, lo6, lc6, rfl, ho6⟩
        dsimp only
        have HB6 : Hid (Below w5.heap.size w5 w6) := hb6
        have HO6 : Hid (TkO 52 w5.heap.size w6 x io6 ic6 lo6 lc6) := ho6
        clear hb6 ho6
        go_wp2_with (first
          | (have hz := HO6; clear hz; refine wpList_store_Row rfl 40 (.tmp 17) (.tmp 67) rfl w6.heap.size 40 0 zTk (tkCells x io6 ic6 lo6 lc6) (zRow w6) (by rw [tkCells_len HO6.out.tag]; exact Nat.le_refl _) rfl rfl (by rw [tkCells_len HO6.out.tag]; kernel_rfl) (tkCells_one _ _ _ _ _) ?_; intro w7 hr hs; have HR6 : Hid (TkR w5.heap.size w7 w6.heap.size x io6 ic6 lo6 lc6 ∧ Below w6.heap.size w6 w7) := tkR_lay HO6.out hr hs; clear HO6 hr hs))
        have HB7 : Hid (Below w5.heap.size w5 w7) := HB6.out.trans (HR6.out.2.mono HB6.out.size)
        have HX7 : Hid (TkR w5.heap.size w7 w6.heap.size x io6 ic6 lo6 lc6) := HR6.out.1
        have I3 := I2.out w7 HB7.out
        clear HR6 HB6 I2
        go_wp2_with fail
        refine I3.mono ?_
        clear I3
        rintro e w8 ⟨hb8, io8, ic8, lo8, lc8, rfl, ho8⟩
        dsimp only
        have HB8 : Hid (Below w5.heap.size w5 w8) := HB7.out.trans (hb8.mono HB7.out.size)
        have HX8 : Hid (TkR w5.heap.size w8 w6.heap.size x io6 ic6 lo6 lc6) := HX7.out.keep hb8
        have HV8 : Hid (TkV w8 x io8 ic8 lo8 lc8) := ho8.v
        have Z8 : Hid (Row (w8.alloc (.cells zTk.toArray 28)) w8.heap.size 28 zTk) := Row.at w8 _ _ _ _ rfl rfl
        have TX : Hid (x.tag.length = 32) := HX8.out.own.tag
        clear hb8 ho8 HB7 HX7
        go_upto_region 12 with (first
          | (have hz := Z8; clear hz; refine wpList_store_Row rfl 28 (.tmp 19) (.tmp 74) rfl w8.heap.size 28 0 zTk (tkCells x io8 ic8 lo8 lc8) Z8.out (by rw [tkCells_len TX.out]; exact Nat.le_refl _) rfl rfl (by rw [tkCells_len TX.out]; kernel_rfl) (tkCells_one _ _ _ _ _) ?_; intro w9 hr9 hs9; have HR9 : Hid (Row w9 w8.heap.size 28 (tkCells x io8 ic8 lo8 lc8)) := row_whole hr9 (by rw [tkCells_len TX.out]; exact Nat.le_refl _); have HB9 : Hid (Below w8.heap.size w8 w9) := hs9.below ((Below.refl _ _).alloc (Nat.le_refl _) _) (Nat.le_refl _); clear Z8 hr9 hs9))
        have HX9 : Hid (TkR w5.heap.size w9 w6.heap.size x io6 ic6 lo6 lc6) := HX8.out.keep HB9.out
        have HV9 : Hid (TkV w9 x io8 ic8 lo8 lc8) := HV8.out.keep HB9.out
        have HW9 : Hid (Below W1.heap.size W1 w9) := HB5.out.trans ((HB8.out.trans (HB9.out.mono HB8.out.size)).mono HB5.out.size)
        clear HX8 HV8 HB8 HB9
        generalize w6.heap.size = G6x at *
        generalize w8.heap.size = G8x at *
        obtain ⟨X, hX0⟩ : ∃ X, X = tkCells x io6 ic6 lo6 lc6 := ⟨_, rfl⟩
        obtain ⟨Y, hY0⟩ : ∃ Y, Y = tkCells x io8 ic8 lo8 lc8 := ⟨_, rfl⟩
        have LX : Hid (X.length = 35) := by rw [hX0]; exact tkC_len TX.out
        have LY : Hid (Y.length = 35) := by rw [hY0]; exact tkC_len TX.out
        have XP : Hid ((X.drop 0).take 35 = X) := by show _ = _; rw [List.drop_zero, List.take_of_length_le (by rw [LX.out]; exact Nat.le_refl _)]
        have TP : Hid ((Y.drop 0).take 35 = Y) := by show _ = _; rw [List.drop_zero, List.take_of_length_le (by rw [LY.out]; exact Nat.le_refl _)]
        have RX : Hid (∀ W, Below w9.heap.size w9 W → Row W G6x 40 X) := fun W h => by rw [hX0]; exact HX9.out.row.below h HX9.out.row.lt
        have RY : Hid (∀ W, Below w9.heap.size w9 W → Row W G8x 28 Y) := fun W h => by rw [hY0]; exact HR9.out.below h HR9.out.lt
        have BKC : Hid (∀ W, Below w9.heap.size w9 W → Calls Tryz.prog 13 #[.agg X.toArray] W (BackP x io6 ic6 W)) := fun W h => by rw [hX0]; exact l24back_any x io6 ic6 lo6 lc6 W (HX9.out.own.v.keep h) (by have := HXC.out; omega)
        have SMC : Hid (∀ W lo9 lc9, Below w9.heap.size w9 W → TkV W x io6 ic6 lo9 lc9 → Calls Tryz.prog 12 #[.agg (tkCells x io6 ic6 lo9 lc9).toArray, .agg Y.toArray] W fun e w' => e = .returned (.bool true) ∧ Below W.heap.size W w') := fun W lo9 lc9 h hv => by rw [hY0]; exact r24Same_any x x io6 ic6 lo9 lc9 io8 ic8 lo8 lc8 W hv (HV9.out.keep h) (by have := HXC.out; omega) true (by simp)
        have e2 : (Ev == Ev) = true := by simp
        have e3 : (Ev != Ev) = false := by simp
        have LT2 : Hid (T.length = 35) := LT
        clear LT
        have LT : Hid (Y.length = 35) := LY
        clear hX0 hY0
        refine wp_region_inv (IMK12 w9 x io6 ic6 Y X Ev _ _ _ _ _ _ _ _ _ _ _ _ _ _ _ _ _ _ _ _ _ _ _ _ _ _ _ _ _ _ _ _ _ _ _ _ _ _ _ _ _ _ _ _ _ _ _ _ _ _ _ _ _ _ _ _ _ _ _ _ _ _ _ _ _ _ _ _ _ _ _ _ _ _ _ _ _ _ _ _ _ _ _ _ _ _ _ _ _ _ _ _ _ _ _ _ _ _ _ _ _ _ _ _ _ _ _ _ _ _ _ _ _ _ _ _ _ _ _) (by kernel_rfl) (by kernel_rfl) ⟨_, _, _, _, _, _, _, _, _, _, rfl, ⟨BS.zero _ _ _ _ _, fun k => (by cases k), fun k => (by cases k), fun k => (by cases k), fun k => (by cases k), fun k => (by cases k), fun k => (by cases k), fun k => (by cases k), fun k => (by cases k), fun k => (by cases k)⟩⟩ ?_ ?_
        · refine .cons ?_ (.cons ?_ (.cons ?_ (.cons ?_ (.cons ?_ (.cons ?_ (.cons ?_ (.cons ?_ (.cons ?_ (.cons ?_ .nil)))))))))
          all_goals (rintro L _ W ⟨x76, x77, x78, x79, x80, x81, x82, x83, x84, x85, rfl, hI⟩ hL hd K hK)
          · rw [if_pos (by rfl)]
            go_simp
            exact hK.out _ _ ⟨_, _, _, _, _, _, _, _, _, _, rfl, { hI with p0 := fun _ => rfl }⟩
          · rw [if_pos (by rfl)]
            go_simp
            exact hK.out _ _ ⟨_, _, _, _, _, _, _, _, _, _, rfl, { hI with p1 := fun _ => rfl }⟩
          · obtain rfl := hI.p0 (hd 0 (by decide))
            obtain rfl := hI.p1 (hd 1 (by decide))
            rw [if_pos (by rfl)]
            go_simp
            exact hK.out _ _ ⟨_, _, _, _, _, _, _, _, _, _, rfl, { hI with p2 := fun _ => rfl }⟩
          · obtain rfl := hI.p2 (hd 2 (by decide))
            rw [if_pos (by rfl)]
            go_simp
            exact hK.out _ _ ⟨_, _, _, _, _, _, _, _, _, _, rfl, { hI with p3 := fun _ => rfl }⟩
          · obtain rfl := hI.p3 (hd 3 (by decide))
            refine step_load_part (by rfl) 40 _ rfl G6x 0 40 35 X (RX.out W hI.x.bel) rfl _ X XP.out LX.out Tryz.underlying40 rfl (by kernel_rfl) ?_
            exact hK.out _ _ ⟨_, _, _, _, _, _, _, _, _, _, rfl, { hI with p4 := fun _ => rfl }⟩
          · obtain rfl := hI.p4 (hd 4 (by decide))
            obtain rfl := hI.p3 (hd 3 (by decide))
            rw [if_pos (by rfl)]
            go_simp
            refine (BKC.out W hI.x.bel).mono ?_
            rintro e W2 ⟨lo9, lc9, rfl, hv9, hb9⟩
            go_simp
            have hX := hI.x.s hb9 hv9 (q' := true)
            exact hK.out _ _ ⟨_, _, _, _, _, _, _, _, _, _, rfl, { hI with x := hX }⟩
          · obtain rfl := hI.p3 (hd 3 (by decide))
            refine step_load_part (by rfl) 28 _ rfl G8x 0 28 35 Y (RY.out W hI.x.bel) rfl _ Y TP.out LT.out Tryz.underlying28 rfl (by kernel_rfl) ?_
            exact hK.out _ _ ⟨_, _, _, _, _, _, _, _, _, _, rfl, { hI with p6 := fun _ => rfl }⟩
          · obtain rfl := hI.p6 (hd 6 (by decide))
            obtain rfl := hI.p3 (hd 3 (by decide))
            rw [if_pos (by rfl)]
            go_simp
            obtain ⟨lo9, lc9, e9, hv9⟩ := hI.x.p (hd 5 (by decide))
            subst e9
            refine (SMC.out W lo9 lc9 hI.x.bel hv9).mono ?_
            rintro e W2 ⟨rfl, hb9⟩
            go_simp
            have hX := hI.x.keep hb9
            exact hK.out _ _ ⟨_, _, _, _, _, _, _, _, _, _, rfl, { hI with x := hX, p7 := fun _ => rfl }⟩
          · obtain rfl := hI.p7 (hd 7 (by decide))
            obtain rfl := hI.p3 (hd 3 (by decide))
            rw [if_pos (by rfl)]
            go_simp
            exact hK.out _ _ ⟨_, _, _, _, _, _, _, _, _, _, rfl, { hI with p8 := fun _ => rfl }⟩
          · obtain rfl := hI.p3 (hd 3 (by decide))
            obtain rfl := hI.p8 (hd 8 (by decide))
            rw [if_pos (by rfl)]
            go_simp
            exact hK.out _ _ ⟨_, _, _, _, _, _, _, _, _, _, rfl, { hI with p9 := fun _ => rfl }⟩
        · rintro L _ W hall ⟨x76, x77, x78, x79, x80, x81, x82, x83, x84, x85, rfl, hI⟩
          obtain rfl := hI.p0 (hall 0 (by decide))
          obtain rfl := hI.p1 (hall 1 (by decide))
          obtain rfl := hI.p2 (hall 2 (by decide))
          obtain rfl := hI.p3 (hall 3 (by decide))
          obtain rfl := hI.p4 (hall 4 (by decide))
          obtain rfl := hI.p6 (hall 6 (by decide))
          obtain rfl := hI.p7 (hall 7 (by decide))
          obtain rfl := hI.p8 (hall 8 (by decide))
          obtain rfl := hI.p9 (hall 9 (by decide))
          have hXe := hI.x
          rw [hall 5 (by decide)] at hXe
          clear hI hall
          try dsimp only
          have HXX : Hid (Below W1.heap.size W1 W) := HW9.out.trans (hXe.bel.mono HW9.out.size)
          clear hXe
          go_wp2
          refine HK.out _ _ ?_
          exact NX2.out _ _ _ _ _ _ _ _ _ _ _ _ _ _ _ _ _ _ _ _ _ _ _ _ _ _ _ _ _ _ _ _ _ _ _ _ _ _ _ _ _ _ _ _ _ _ _ _ _ _ _ _ _ _ _ _ _ _ _ _ _ _ _ _ _ _ _ _ _ _ _ _ _ _ _ _ _ _ _ _ _ _ _ _ _ _ _ _ _ _ _ _ _ _ _ _ _ _ _ _ _ _ _ _ _ _ _ _ _ _ _ _ _ _ _ _ _ _ _ _ _ _ _ _ _ _ _ W (WW.out W HXX.out) (RT.out W HXX.out)
    · have y1 : (100 : Int) < (nl : Int) := by omega
      go_wp2
      go_ret
      exact ⟨rfl, WW.out w3 HB3.out⟩
  · rw [decide_eq_false hf] at FW
    clear hf
    go_wp2_with (first
      | (have hz := R2; clear hz; refine wpList_load_Row rfl 28 (.tmp 8) rfl w.heap.size 28 T R2 rfl _ Tryz.underlying28 rfl (by rw [LT.out]; kernel_rfl) ?_; clear R2))
    refine FW.mono ?_
    clear FW
    rintro e w3 ⟨rfl, hb3⟩
    dsimp only
    have HB3 : Hid (Below w.heap.size w w3) := HB1.out.trans ((HB2.out.trans (hb3.mono HB2.out.size)).mono HB1.out.size)
    clear hb3
    go_wp2
    go_ret
    exact ⟨rfl, HB3.out⟩
end Go.Proofs.YtjooabgjkjnhhaaGreatDoor
