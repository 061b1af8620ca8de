import Derived.Test.YtcpdanjbnijoiaaDoorArStep

/-! Area's statements: fixed. -/
namespace Go.Proofs.YtcpdanjbnijoiaaDoor
open Go.RowKit
set_option linter.unusedVariables false
set_option maxRecDepth 100000

theorem lay_ar {c : Cfg} {t : St} (hc : c.may = 0) (hf : Fit c t) (h8 : ∀ p ∈ t.pages, ∀ x ∈ p, x.length = 32) : (layS c t).Ar := ⟨lay_ok hc hf h8, hc, hf.1⟩

def fxaC : Cfg := ⟨4, 1, 1, 1, 1, 1, 1⟩
def fxa0 : RS := layS fxaC (freshC fxaC)
def fxaB : List By := List.replicate 33 0#8
def fxa1 : RS := (fxa0.awrite 0 fxaB).1
theorem fxa_may : fxaC.may = 0 := by decide +kernel
theorem fxa_size : fxaC.asize = 128 := by decide +kernel
theorem fxa_e1 : (fxa0.awrite 0 fxaB).2 = 0 := by decide +kernel
theorem fxa_r1 : (fxa1.aread 0).1 = [] ∧ (fxa1.aread 0).2 = 5 := by decide +kernel
theorem fxa_at : fxa1.at 2 1 = 0 := by decide +kernel
theorem fxa_c0 : (fxa1.cell 2 1).getD 0 0 = 0#8 ∧ (fxa1.cell 2 1).getD 1 0 = 255#8 ∧ (fxa1.cell 2 1).length = 32 := by decide +kernel
theorem fxa_n1 : fxa1.n = 2 := by decide +kernel
theorem fxa_n0 : fxa0.n < 4611686018427000000 := by decide +kernel
theorem fxa_8 : ∀ p ∈ (freshC fxaC).pages, ∀ x ∈ p, x.length = 32 := by decide +kernel
theorem fxa_a0 : fxa0.Ar := lay_ar fxa_may (fresh_fit fxa_may) fxa_8
theorem fxa_g0 : fxa0.Good := lay_good fxa_may (fresh_fit fxa_may)
theorem fxa_a1 : fxa1.Ar := (awrite_facts fxa_a0 fxa_g0 0 fxaB).1

theorem below_kept {w w1 w2 : World} {N : Nat} {L : List Nat} (hb : Below N w w1) (kl : KeptL L w1 w2) (hL : ∀ B ∈ L, N ≤ B) (hN : N ≤ w1.heap.size) : Below N w w2 :=
  hb.trans ⟨kl.os, kl.tape, kl.output, kl.size, fun k hk => kl.block k (by omega) (fun hm => by have := hL k hm; omega)⟩

set_option maxHeartbeats 1000000 in
theorem small_any (w : World) : Calls Tryd.prog 13 #[] w fun e w' => e = .returned (.agg fxaC.vals.toArray) ∧ Below w.heap.size w w' := by
  have r0 := Row.at w 23 [.int .i64 0, .int .i64 0, .int .i64 0, .int .i64 0, .int .i64 0, .int .i64 0, .int .i64 0] _ _ rfl rfl
  have b0 : ∀ o1, Below w.heap.size w (w.alloc o1) := fun o1 => (Below.refl _ _).alloc (Nat.le_refl _) _
  go_enter Tryd.func13, Tryd.ntmps13
  go_wp2_with (refine wpList_store_Row rfl 23 _ _ rfl w.heap.size 23 0 _ fxaC.vals r0 (Nat.le_refl _) rfl rfl (by kernel_rfl) (by intro v hv; simp [fxaC, Cfg.vals] at hv; rcases hv with rfl | rfl <;> rfl) ?_; intro w2 hr2 hs2)
  have q2 := row_whole hr2 (by simp [fxaC, Cfg.vals])
  exact bodyPost_ret_by (results_Row Tryd.results13 _ w2 w.heap.size 23 _ _ rfl q2 Tryd.underlying23 rfl (by kernel_rfl)) rfl ⟨rfl, hs2.below (b0 _) (Nat.le_refl _)⟩

set_option maxHeartbeats 4000000 in
theorem l14fixed_any (A : Are) (w : World) (hg : HG w) : Calls Tryd.prog 4 #[] w fun e w' => e = .returned (.bool true) ∧ Below w.heap.size w w' := by
  have HHG : Hid (HG w) := hg
  clear hg
  obtain ⟨s0, hs0⟩ : ∃ s, s = fxa0 := ⟨_, rfl⟩
  obtain ⟨s1, hs1⟩ : ∃ s, s = fxa1 := ⟨_, rfl⟩
  have SM : Hid (∀ W, Calls Tryd.prog 13 #[] W fun e w' => e = .returned (.agg fxaC.vals.toArray) ∧ Below W.heap.size W w') := fun W => small_any W
  have SZ : Hid (∀ W, Calls Tryd.prog 10 #[.agg fxaC.vals.toArray] W fun e w' => e = .returned (.int .i64 128) ∧ Below W.heap.size W w') := fun W => by
    have := A.size fxaC W
    rw [fxa_size] at this; exact this
  have HNEW : Hid (∀ W, Calls Tryd.prog 12 #[.agg fxaC.vals.toArray] W fun e w' => ∃ F, e = .returned (.tuple #[.pointer (some ⟨F.g, 0, none⟩), .int .i64 0]) ∧ CAt w' F s0 ⟨#[]⟩ ∧ (∀ B ∈ F.blocks, W.heap.size ≤ B) ∧ Below W.heap.size W w') := fun W => by
    refine (cnew_any fxaC W).mono ?_
    rintro e w' ⟨hb, ⟨h1, _⟩ | ⟨_, F, h1, h2, h3⟩⟩
    · exact absurd fxa_may h1
    · exact ⟨F, h1, by rw [hs0]; exact h2, h3, hb⟩
  have HWR : Hid (∀ F S W X, CAt W F s0 S → Row W X 5 ((List.replicate 33 (0 : By)).map B8) → X ∉ F.blocks → Calls Tryd.prog 7 #[.pointer (some ⟨F.g, 0, none⟩), .int .i64 0, .slice (some ⟨X, 0, none⟩) 33 33] W (CPost F s1 0 W)) := fun F S W X hW hr hX => by
    rw [hs0] at hW
    have := A.write F fxa0 S 0 (some ⟨X, 0, none⟩) 33 33 fxaB W rfl (by omega) (by omega) (fun h => by cases h) hW fxa_a0 fxa_g0 fxa_n0 (.inr ⟨X, 0, rfl, fun j v hj => by
      rw [Nat.zero_add]
      exact hr.cell j _ (by rw [List.getElem?_map]; show Option.map B8 (fxaB[j]?) = _; rw [hj]; rfl)⟩) (.inr fun B off e => by injection e with e; injection e with e; subst e; exact hX)
    rw [fxa_e1] at this
    rw [hs1]; exact this
  have HRD : Hid (∀ F S W, HG W → CAt W F s1 S → Calls Tryd.prog 14 #[.pointer (some ⟨F.g, 0, none⟩), .int .i64 0] W fun e w' => ∃ ao c, e = .returned (.tuple #[.slice ao 0 c, .int .i64 5]) ∧ Below W.heap.size W w') := fun F S W hgW hW => by
    rw [hs1] at hW
    have := A.read F fxa1 S 0 W hgW hW fxa_a1
    rw [fxa_r1.1, fxa_r1.2] at this
    exact this.mono fun e w' ⟨ao, c, h1, _, h2⟩ => ⟨ao, c, h1, h2⟩
  obtain ⟨CL, hCL⟩ : ∃ CL, CL = fxa1.cell 2 1 := ⟨_, rfl⟩
  have hc0 : CL.getD 0 0 = 0#8 ∧ CL.getD 1 0 = 255#8 ∧ CL.length = 32 := by rw [hCL]; exact fxa_c0
  have HCR : Hid (∀ F S W, CAt W F s1 S → Calls Tryd.prog 15 #[.pointer (some ⟨F.g, 0, none⟩), .int .i64 2, .int .i64 1] W fun e w' => e = .returned (.tuple #[.agg (CL.map B8).toArray, .int .i64 0]) ∧ Below W.heap.size W w') := fun F S W hW => by
    rw [hs1] at hW
    have := cread_any F fxa1 S 2 1 W hW
    rw [fxa_at, if_pos rfl] at this
    rw [hCL]; exact this
  have HAC : Hid (∀ F S W, CAt W F s1 S → Calls Tryd.prog 9 #[.pointer (some ⟨F.g, 0, none⟩)] W fun e w' => e = .returned (.int .i64 2) ∧ w' = W) := fun F S W hW => by
    rw [hs1] at hW
    have := cacts_any F fxa1 S W hW
    rw [fxa_n1] at this
    exact this
  clear hs0 hs1 hCL
  generalize fxaC.vals = CV at *
  go_enter Tryd.func4, Tryd.ntmps4
  go_wp2_with fail
  refine (SM.out _).mono ?_
  rintro e w0 ⟨rfl, hb0⟩
  dsimp only
  go_wp2_with fail
  refine (HNEW.out _).mono ?_
  rintro e w1 ⟨F, rfl, ca, hF, hb1⟩
  dsimp only
  have HFB : Hid (∀ B ∈ F.blocks, w.heap.size ≤ B) := fun B hB => Nat.le_trans hb0.size (hF B hB)
  have B1 : Hid (Below w.heap.size w w1) := hb0.trans (hb1.mono hb0.size)
  have CA1 : Hid (CAt w1 F s0 ⟨#[]⟩) := ca
  clear hb0 hb1 ca hF
  go_wp2_with (refine wpList_make_full rfl _ _ rfl .i64 .i64 33 rfl rfl (by omega) ?_; intro w2 hr2 hb2; have CA2 : Hid (CAt w2 F s0 ⟨#[]⟩) := CA1.out.below hb2 (Nat.le_refl _); have B2 : Hid (Below w.heap.size w w2) := B1.out.trans (hb2.mono B1.out.size); have HX2 : Hid (w1.heap.size ∉ F.blocks) := (fun h => by have := CA1.out.blt _ h; omega); clear hb2)
  refine (HWR.out F _ _ _ CA2.out hr2 HX2.out).mono ?_
  rintro e w3 ⟨rfl, ⟨S3, ca3⟩, kl3⟩
  dsimp only
  have B3 : Hid (Below w.heap.size w w3) := below_kept B2.out kl3 HFB.out B2.out.size
  clear kl3 hr2
  go_wp2_with fail
  refine (HRD.out F _ _ (HHG.out.below B3.out HHG.out.lt) ca3).mono ?_
  rintro e w4 ⟨ao, c, rfl, hb4⟩
  dsimp only
  have ca4 : CAt w4 F s1 S3 := ca3.below hb4 (Nat.le_refl _)
  have B4 : Hid (Below w.heap.size w w4) := B3.out.trans (hb4.mono B3.out.size)
  clear hb4 ca3
  go_wp2_with fail
  refine (HCR.out F _ _ ca4).mono ?_
  rintro e w5 ⟨rfl, hb5⟩
  dsimp only
  have ca5 : CAt w5 F s1 S3 := ca4.below hb5 (Nat.le_refl _)
  have B5 : Hid (Below w.heap.size w w5) := B4.out.trans (hb5.mono B4.out.size)
  clear hb5 ca4
  have lc : (CL.map B8).length = 32 := by rw [List.length_map]; exact hc0.2.2
  have HX0 : Hid ((CL.map B8)[0]? = some (.int .u8 0) ∧ (CL.map B8)[1]? = some (.int .u8 255)) := by
    have g : ∀ j, j < 32 → (CL.map B8)[j]? = some (B8 (CL.getD j 0)) := fun j hj => by
      rw [List.getElem?_map, List.getElem?_eq_getElem (by omega), List.getD_eq_getElem?_getD, List.getElem?_eq_getElem (by omega)]; rfl
    refine ⟨?_, ?_⟩
    · rw [g 0 (by omega), hc0.1]; rfl
    · rw [g 1 (by omega), hc0.2.1]; rfl
  have r9 := Row.at w5 40 (List.replicate 32 (.int .u8 0)) _ _ rfl rfl
  have b9 : Below w5.heap.size w5 (w5.alloc (.cells (List.replicate 32 (Value.int .u8 0)).toArray 40)) := (Below.refl _ _).alloc (Nat.le_refl _) _
  have HB9 : Hid (Below w5.heap.size w5 (w5.alloc (.cells (List.replicate 32 (Value.int .u8 0)).toArray 40))) := b9
  clear b9 hc0
  generalize hG : w5.heap.size = G at *
  go_wp2_with (refine wpList_store_Row rfl 40 _ _ rfl G 40 0 (List.replicate 32 (.int .u8 0)) (CL.map B8) r9 (by rw [lc]; exact Nat.le_refl _) rfl rfl (by rw [lc]; kernel_rfl) (B8_one _) ?_; intro w6 hr6 hs6)
  have r6 : Hid (Row w6 G 40 (CL.map B8)) := row_whole hr6 (by rw [lc]; exact Nat.le_refl _)
  have b6 : Below w5.heap.size w5 w6 := by rw [hG]; exact hs6.below HB9.out (Nat.le_refl _)
  have ca6 : CAt w6 F s1 S3 := ca5.below b6 (Nat.le_refl _)
  have B6 : Hid (Below w.heap.size w w6) := B5.out.trans (b6.mono B5.out.size)
  clear hr6 hs6 b6 HB9 r9 ca5 hG
  refine (SM.out _).mono ?_
  rintro e w7 ⟨rfl, hb7⟩
  dsimp only
  go_wp2_with fail
  refine (SZ.out _).mono ?_
  rintro e w8 ⟨rfl, hb8⟩
  dsimp only
  have b68 : Below w6.heap.size w6 w8 := hb7.trans (hb8.mono hb7.size)
  have ca8 : CAt w8 F s1 S3 := ca6.below b68 (Nat.le_refl _)
  have r8 := r6.out.below b68 r6.out.lt
  have B8' : Hid (Below w.heap.size w w8) := B6.out.trans (b68.mono B6.out.size)
  have x0 := r8.cell 0 _ HX0.out.1
  have x1 := r8.cell 1 _ HX0.out.2
  clear hb7 hb8 b68 ca6 r8
  go_wp2_with fail
  refine (HAC.out F _ _ ca8).mono ?_
  rintro e w9 ⟨rfl, rfl⟩
  dsimp only
  go_wp2
  go_ret
  exact ⟨rfl, B8'.out⟩
end Go.Proofs.YtcpdanjbnijoiaaDoor


/-! AreaWrites: a byte of an area. -/
namespace Go.Proofs.YtcpdanjbnijoiaaDoor
open Go.RowKit
set_option linter.unusedVariables false
set_option maxRecDepth 100000

/-- The byte number i of an area. -/
def RS.abyte (s : RS) (a : Int) (i : Nat) : By := (s.acell a (i / 32)).getD (i % 32) 0

set_option maxHeartbeats 1000000 in
theorem byteOf_any (s : RS) (hA : s.Ar) (v : SV) (w : World) (hv : StV w v s.st) (a : Int) (ha : a = 0 ∨ a = 1) (i : Nat) (hi : i < s.c.area.toNat * s.c.cells.toNat * 32) :
    Calls Tryd.prog 11 #[.agg (v.vals s.st).toArray, .agg s.c.vals.toArray, .int .i64 a, .int .i64 i] w fun e w' => e = .returned (.int .u8 ((s.abyte a i).toNat : Int)) ∧ Below w.heap.size w w' := by
  obtain ⟨n1, n2, n3⟩ := hA.nums ha
  have har := hA.area
  have hce := hA.cells
  have hMC : s.c.area.toNat * s.c.cells.toNat ≤ 64 * 256 := Nat.mul_le_mul (by omega) (by omega)
  have hi2 : i < 524288 := by omega
  obtain ⟨k, hk⟩ : ∃ k, i / 32 = k := ⟨_, rfl⟩
  have hkl : k < s.c.area.toNat * s.c.cells.toNat := by omega
  have hkc : k / s.c.cells.toNat < s.c.area.toNat := Nat.div_lt_of_lt_mul (by rw [Nat.mul_comm]; exact hkl)
  have hkm : k % s.c.cells.toNat < s.c.cells.toNat := Nat.mod_lt _ (by omega)
  obtain ⟨m1, m2, m3⟩ := n3 _ hkc
  obtain ⟨C, hC⟩ : ∃ C : Nat, s.c.cells = (C : Int) := Int.eq_ofNat_of_zero_le (by omega)
  have hCt : s.c.cells.toNat = C := by omega
  obtain ⟨B, off, qo, qc, e1, e2, e3⟩ := hv.page _ m2
  have hlen : (s.pages.getD (s.pgN a (k / s.c.cells.toNat)) []).length = C := by have := hA.pgLen m2; omega
  have h8 := hA.by8 m2
  rw [hCt] at hkc hkm m1 e2 e3 hlen h8
  have m2b := m2
  rw [hCt] at m2b
  have est : s.st.pages = s.pages := rfl
  rw [est] at e2 e3
  obtain ⟨q, qoff, e4, e5⟩ := e3.1.cell (k % C * 32 + i % 32) (.int .u8 ((s.abyte a i).toNat : Int)) (by
    rw [List.getElem?_map, Nat.mul_comm (k % C) 32, flat_get _ h8 _ _ (by rw [hlen]; exact hkm) (Nat.mod_lt _ (by omega))]
    unfold RS.abyte RS.acell
    rw [hk, hCt]; rfl)
  subst e4
  rw [hlen] at e2
  obtain ⟨W0, hW0⟩ : ∃ W0, W0 = (w.alloc (.cells (v.vals s.st).toArray 28)).alloc (.cells s.c.vals.toArray 23) := ⟨_, rfl⟩
  have bb : Below w.heap.size w W0 := by rw [hW0]; exact ((Below.refl _ _).alloc (Nat.le_refl _) _).alloc (by simp) _
  have r4 : Row W0 w.heap.size 28 (v.vals s.st) := by rw [hW0]; exact (Row.at _ _ _ _ _ rfl rfl : Row (w.alloc _) _ _ _).alloc _
  have r5 : Row W0 (w.heap.size + 1) 23 s.c.vals := by rw [hW0]; exact Row.at _ _ _ _ _ (by simp) rfl
  have x0 := r4.cell 0 (.slice v.po s.pages.length v.pc) rfl
  have x1 := r5.cell 0 (.int .i64 s.c.cells) rfl
  have x2 := r5.cell 6 (.int .i64 s.c.area) rfl
  rw [e1] at x0
  rw [hC] at x1
  have f2 := (World.cell?_of_block (bb.block B (World.block_lt_of_cell? _ _ e2))).trans e2
  have f5 := (World.cell?_of_block (bb.block q (World.block_lt_of_cell? _ _ e5))).trans e5
  rw [← Nat.add_assoc] at f5
  have q1 : (i : Int) / 32 = (k : Int) := by omega
  have q1t : Int.tdiv (i : Int) 32 = (k : Int) := by rw [Int.tdiv_eq_ediv_of_nonneg (by omega)]; omega
  have q2 : (k : Int) / (C : Int) = ((k / C : Nat) : Int) := by rw [Int.natCast_ediv]
  have q3 : (k : Int) % (C : Int) = ((k % C : Nat) : Int) := by rw [Int.natCast_emod]
  have q4 : (i : Int) % 32 = ((i % 32 : Nat) : Int) := by omega
  have q3t : Int.tmod (k : Int) (C : Int) = ((k % C : Nat) : Int) := rfl
  have q4t : Int.tmod (i : Int) 32 = ((i % 32 : Nat) : Int) := rfl
  have wk : IntKind.i64.wrap (k : Int) = (k : Int) := i64_in _ (by omega) (by omega)
  have kd0 : k / C ≤ k := Nat.div_le_self _ _
  have hC2 : ¬ C = 0 := by omega
  have wkd : IntKind.i64.wrap ((k / C : Nat) : Int) = ((k / C : Nat) : Int) := by
    have hkd : k / C < 16384 := by omega
    generalize k / C = z at hkd
    exact i64_in _ (by omega) (by omega)
  have g1 : ((k % C : Nat) : Int) < (C : Int) := by omega
  have g2 : (0 : Int) ≤ ((k % C : Nat) : Int) := by omega
  have g3 : ((i % 32 : Nat) : Int) < 32 := by omega
  have g4 : (0 : Int) ≤ ((i % 32 : Nat) : Int) := by omega
  have g5 : ((s.pgN a (k / C) : Nat) : Int) < (s.pages.length : Int) := by omega
  have g6 : (0 : Int) ≤ ((s.pgN a (k / C) : Nat) : Int) := by omega
  have HBB : Hid (Below w.heap.size w W0) := bb
  clear hv e3 e2 e5 h8 hlen bb r4 r5 m2 m2b m3 n3 hkl hkc hkm hMC hA est hi kd0 hce hC hCt
  generalize s.abyte a i = Y at *
  generalize s.pgN a (k / C) = PN at *
  generalize hkd : k / C = KD at *
  generalize hkm : k % C = KM at *
  generalize hIM : i % 32 = IM at *
  generalize s.c.area = AR at *
  generalize hAA : a * AR = AA at *
  generalize v.vals s.st = VS at *
  generalize s.c.vals = VC at *
  generalize s.pages.length = PL at *
  clear hkd hkm hIM hk
  go_enter Tryd.func11, Tryd.ntmps11
  go_upto_region 1 with fail
  rw [← hW0]
  clear hW0
  go_wp2
  go_quiet (fail)
  go_wp2
  go_ret
  exact ⟨rfl, Below_dr HBB.out ⟨nq, rfl⟩⟩
end Go.Proofs.YtcpdanjbnijoiaaDoor


/-! AreaWrites cut into stages. -/
namespace Go.Proofs.YtcpdanjbnijoiaaDoor
open Go.RowKit
set_option linter.unusedVariables false

def dropS : Nat → Code → Code
  | 0, c => c
  | n + 1, .seq _ b => dropS n b
  | _ + 1, c => c
def KP (w : World) : Ending → World → Prop := fun e w' => e = .returned (.bool true) ∧ Below w.heap.size w w'
end Go.Proofs.YtcpdanjbnijoiaaDoor


/-! AreaWrites: its last statements. (Printed by tools/genaw14.py.) -/
namespace Go.Proofs.YtcpdanjbnijoiaaDoor
open Go.RowKit
set_option linter.unusedVariables false
set_option maxRecDepth 1000000

/-- What stands in memory behind State. -/
structure WW (w : World) (c : Cfg) (v0 v1 : SV) (t0 : St) (s1 : RS) (G : RF) (S : ByteArray) (bo : Option Addr) (b : List By) (g6 g7 g17 : Nat) (W : World) : Prop where
  bel : Below w.heap.size w W
  r6 : Row W g6 23 c.vals
  r7 : Row W g7 28 (v0.vals t0)
  r17 : Row W g17 28 (v1.vals s1.st)
  sv0 : StV W v0 t0
  sv1 : StV W v1 s1.st
  ca : CAt W G s1 S
  isb : IsB W bo b
theorem WW.below {w : World} {c : Cfg} {v0 v1 : SV} {t0 : St} {s1 : RS} {G : RF} {S : ByteArray} {bo : Option Addr} {b : List By} {g6 g7 g17 : Nat} {W W2 : World} (h : WW w c v0 v1 t0 s1 G S bo b g6 g7 g17 W) (hb : Below W.heap.size W W2) : WW w c v0 v1 t0 s1 G S bo b g6 g7 g17 W2 :=
  ⟨h.bel.trans (hb.mono h.bel.size), h.r6.below hb h.r6.lt, h.r7.below hb h.r7.lt, h.r17.below hb h.r17.lt, h.sv0.below hb (Nat.le_refl _), h.sv1.below hb (Nat.le_refl _), h.ca.below hb (Nat.le_refl _), h.isb.below hb (Nat.le_refl _)⟩

set_option maxHeartbeats 1500000 in
theorem aw21 (c0 c1 c2 c3 c4 c5 c6 c7 c8 c9 c10 c11 c12 c13 c15 c16 c17 c18 c19 c20 c21 c23 c24 c25 c26 c28 c29 c30 c33 c34 c35 c36 c37 c38 c39 c40 c41 c42 c43 c44 c45 c46 c47 c48 c49 c50 c51 c52 c53 c54 c55 c56 c57 c58 c59 c60 c61 c62 c63 c64 c65 c66 c67 c68 c69 c70 c71 c72 c73 c74 c75 c76 c77 c78 c79 c80 c81 c82 c83 c84 c85 c86 c87 c88 c89 c90 c91 c92 c93 c94 c95 c96 c97 c98 c99 c100 c101 c102 c103 c104 c105 c106 c107 c108 c109 c110 c111 c112 c113 c114 c115 c116 c117 c118 c119 c120 c121 c122 c123 c124 c125 c126 c127 c128 c129 c130 c131 c132 c133 c134 c135 c136 c137 c138 c139 c140 c141 c142 c143 c144 c145 c146 c147 c148 c149 c150 c151 c152 c153 c154 c155 c156 c157 c158 c159 c160 c161 c162 c163 c164 c165 c166 c167 c168 c169 c170 c171 c172 c173 c174 c175 c176 c177 c178 c179 c180 c181 c182 c183 c184 c185 c186 c187 c188 c189 c190 c191 c192 c193 c194 c195 c196 c197 c198 c199 c200 c201 c202 c203 c204 c205 c206 c207 c208 c209 c210 c211 c212 c213 c214 c215 c216 c217 c218 c219 c220 c221 c222 c223 c224 c225 c226 c227 c228 c229 c230 c231 c232 c233 c234 c235 c236 c237 c238 c239 c240 c241 c242 c243 c244 c245 c246 c247 c248 c249 c250 c251 c252 c253 c254 c255 c256 c257 c258 c259 c260 c261 c262 c263 c264 c265 c266 c267 c268 c269 c270 c271 c272 c273 c274 c275 c276 c277 c278 c279 c280 c281 c282 c283 c284 c285 c286 c287 c288 c289 c290 c291 c292 c293 c294 c295 c296 c297 c298 c299 c300 : Value) (w Wa : World) (hbw : Below w.heap.size w Wa) (G : RF) (s1 : RS) (S : ByteArray) (ca : CAt Wa G s1 S) (wh bl : Bool) (E K : Int) (hE : 0 ≤ E ∧ E ≤ 1000) (hK : 0 ≤ K ∧ K ≤ 1000000)
    (hx : (s1.n = E + K ∧ wh = true) ∨ (s1.n < E + K ∧ (bl = true ∨ s1.n = E))) : Code.wp Tryd.prog (dropS 21 (Tryd.f3.body.getD .skip)) (bodyPost Tryd.prog Tryd.f3 (KP w)) ⟨#[c0, c1, c2, c3, c4, c5, c6, c7, c8, c9, c10, c11, c12, c13, .pointer (some ⟨G.g, 0, none⟩), c15, c16, c17, c18, c19, c20, c21, .bool wh, c23, c24, c25, c26, .bool bl, c28, c29, c30, .int .i64 K, .int .i64 E, c33, c34, c35, c36, c37, c38, c39, c40, c41, c42, c43, c44, c45, c46, c47, c48, c49, c50, c51, c52, c53, c54, c55, c56, c57, c58, c59, c60, c61, c62, c63, c64, c65, c66, c67, c68, c69, c70, c71, c72, c73, c74, c75, c76, c77, c78, c79, c80, c81, c82, c83, c84, c85, c86, c87, c88, c89, c90, c91, c92, c93, c94, c95, c96, c97, c98, c99, c100, c101, c102, c103, c104, c105, c106, c107, c108, c109, c110, c111, c112, c113, c114, c115, c116, c117, c118, c119, c120, c121, c122, c123, c124, c125, c126, c127, c128, c129, c130, c131, c132, c133, c134, c135, c136, c137, c138, c139, c140, c141, c142, c143, c144, c145, c146, c147, c148, c149, c150, c151, c152, c153, c154, c155, c156, c157, c158, c159, c160, c161, c162, c163, c164, c165, c166, c167, c168, c169, c170, c171, c172, c173, c174, c175, c176, c177, c178, c179, c180, c181, c182, c183, c184, c185, c186, c187, c188, c189, c190, c191, c192, c193, c194, c195, c196, c197, c198, c199, c200, c201, c202, c203, c204, c205, c206, c207, c208, c209, c210, c211, c212, c213, c214, c215, c216, c217, c218, c219, c220, c221, c222, c223, c224, c225, c226, c227, c228, c229, c230, c231, c232, c233, c234, c235, c236, c237, c238, c239, c240, c241, c242, c243, c244, c245, c246, c247, c248, c249, c250, c251, c252, c253, c254, c255, c256, c257, c258, c259, c260, c261, c262, c263, c264, c265, c266, c267, c268, c269, c270, c271, c272, c273, c274, c275, c276, c277, c278, c279, c280, c281, c282, c283, c284, c285, c286, c287, c288, c289, c290, c291, c292, c293, c294, c295, c296, c297, c298, c299, c300], []⟩ Wa := by
  have HAC : Hid (Calls Tryd.prog 9 #[.pointer (some ⟨G.g, 0, none⟩)] Wa fun e w' => e = .returned (.int .i64 s1.n) ∧ w' = Wa) := cacts_any G s1 S Wa ca
  have HB : Hid (Below w.heap.size w Wa) := hbw
  have wr : IntKind.i64.wrap (E + K) = E + K := i64_in _ (by omega) (by omega)
  generalize s1.n = n1 at *
  obtain ⟨M, hM⟩ : ∃ M, M = E + K := ⟨_, rfl⟩
  rw [← hM] at hx
  replace wr : IntKind.i64.wrap (E + K) = M := by rw [wr, hM]
  clear hM ca hE hK hbw
  conv => arg 2; whnf
  rcases hx with ⟨rfl, rfl⟩ | ⟨h1, h2⟩
  · have e1 : (n1 == n1) = true := by simp
    go_wp2_with fail
    refine HAC.out.mono ?_
    rintro e w1 ⟨rfl, rfl⟩
    dsimp only
    go_wp2
    go_ret
    exact ⟨rfl, HB.out⟩
  · have e1 : (n1 == M) = false := by simp; omega
    go_wp2_with fail
    refine HAC.out.mono ?_
    rintro e w1 ⟨rfl, rfl⟩
    dsimp only
    go_wp2_with fail
    refine HAC.out.mono ?_
    rintro e w1 ⟨rfl, rfl⟩
    dsimp only
    cases bl with
    | true =>
      go_wp2
      go_ret
      exact ⟨rfl, HB.out⟩
    | false =>
      obtain rfl : n1 = E := by rcases h2 with h2 | h2; · cases h2
                                · exact h2
      have e2 : (n1 == n1) = true := by simp
      go_wp2_with fail
      refine HAC.out.mono ?_
      rintro e w1 ⟨rfl, rfl⟩
      dsimp only
      go_wp2
      go_ret
      exact ⟨rfl, HB.out⟩
end Go.Proofs.YtcpdanjbnijoiaaDoor
