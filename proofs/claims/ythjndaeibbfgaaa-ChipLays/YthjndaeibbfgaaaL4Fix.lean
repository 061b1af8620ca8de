import Derived.Test.YthjndaeibbfgaaaL4A
/-! The statements' own function fixed. -/
namespace Go.Proofs.Ythjndaeibbfgaaa
open Go.RowKit

theorem wpList_load_Row_g {ops : Array Oper} {rest : List Oper} {o : Oper} {a : Act} {w : World} {Q : Exit → Act → World → Prop} (hw : Region.wanted o (yielded ops a.tmps) = true) (ty : TypeId) (x : Operand) (ho : o.op = .load ty x)
    (g t : Nat) (cs : List Value) (hr : Row w g t cs) (hx : a.eval x = .pointer (some ⟨g, 0, none⟩)) (d : TypeDesc) (hu : Try.prog.underlying ty = some d) (hd : d.isRow = true) (hi : (Try.prog.info? ty).map (·.size) = some cs.length)
    (h : wpList Try.prog ops Q rest (a.put o.dst (.agg cs.toArray)) w) : wpList Try.prog ops Q (o :: rest) a w := by
  refine wpList_step fun K hK => ?_
  rw [if_pos hw]
  have hl := run_loadVar_mid (P := Try.prog) w g 0 ty cs d (by have := hr.range 0 cs.length; simpa using this) hu hd hi
  unfold Oper.wp execOp
  simp only [ho, hx, Instr.loadAt, Instr.sureAddr, Sem.run_bind, Sem.run_pure, Result.andThen_ok, hl]
  exact hK _ _ h

def fixC : Cfg := ⟨4, 1, 2, 1, 1, 1, 0⟩
def fix0 : RS := layS fixC (freshC fixC)
def fix1 : RS := fix0.program 0 1 (List.replicate 32 0#8)
def fix2 : RS := { fix1 with wait := max (-1) 0, mask := [1#8] }
def fix3 : RS := fix2.blow 2
def fix4 : RS := { fix3 with gone := false }
theorem fix_may : fixC.may = 0 := by decide +kernel
theorem fix_e1 : fix0.programE 0 1 = 0 := by decide +kernel
theorem fix_at : fix1.at 0 1 = 0 := by decide +kernel
theorem fix_cell : fix1.cell 0 1 = List.replicate 32 0#8 := by decide +kernel
theorem fix_e3 : fix2.blowE 2 = 8 := by decide +kernel
theorem fix_f4 : fix4.fuse 2 = 0 := by decide +kernel
theorem fix_b4 : fix4.blown.getD 2 false = true := by decide +kernel
theorem fix_n4 : fix4.n = 2 := by decide +kernel
theorem fix_n0 : 0 ≤ fix0.n ∧ fix0.n < 4611686018427387904 ∧ fix0.wait < 9223372036854775808 := by decide +kernel
theorem fix_n2 : 0 ≤ fix2.n ∧ fix2.n < 4611686018427387904 ∧ fix2.wait < 9223372036854775808 := by decide +kernel

theorem isb_one (W : World) : IsB (W.alloc (.cells #[.int .u8 1] 5)) (some ⟨W.heap.size, 0, none⟩) [1#8] := by
  refine .inr ⟨W.heap.size, 0, rfl, fun j v hj => ?_⟩
  have hr : Row (W.alloc (.cells #[.int .u8 1] 5)) W.heap.size 5 [.int .u8 1] := Row.at _ _ _ _ _ rfl rfl
  cases j with
  | zero =>
    simp at hj
    subst hj
    rw [Nat.add_zero]
    exact hr.cell 0 _ rfl
  | succ j => simp at hj

set_option maxHeartbeats 4000000 in
set_option maxRecDepth 100000 in
theorem fixed_any (w : World) : Calls Try.prog 6 #[] w fun e w' => e = .returned (.bool true) ∧ Below w.heap.size w w' := by
  obtain ⟨s0, hs0⟩ : ∃ s, s = fix0 := ⟨_, rfl⟩
  obtain ⟨s1, hs1⟩ : ∃ s, s = fix1 := ⟨_, rfl⟩
  obtain ⟨s2, hs2⟩ : ∃ s, s = fix2 := ⟨_, rfl⟩
  obtain ⟨s3, hs3⟩ : ∃ s, s = fix3 := ⟨_, rfl⟩
  obtain ⟨s4, hs4⟩ : ∃ s, s = fix4 := ⟨_, rfl⟩
  obtain ⟨Z, hZ⟩ : ∃ Z, Z = List.replicate 32 (0#8 : By) := ⟨_, rfl⟩
  have hZl : Z.length = 32 := by rw [hZ]; simp
  have HNEW : Hid (∀ W, Calls Try.prog 7 #[.agg #[.int .i64 4, .int .i64 1, .int .i64 2, .int .i64 1, .int .i64 1, .int .i64 1, .int .i64 0]] W fun e w' => ∃ F, e = .returned (.tuple #[.pointer (some ⟨F.g, 0, none⟩), .int .i64 0]) ∧ CAt w' F s0 ⟨#[]⟩ ∧ (∀ B ∈ F.blocks, W.heap.size ≤ B) ∧ Below W.heap.size W w') := fun W => by
    refine (cnew_any fixC W).mono ?_
    rintro e w' ⟨hb, ⟨h1, _⟩ | ⟨_, F, h1, h2, h3⟩⟩
    · exact absurd fix_may h1
    · exact ⟨F, h1, by rw [hs0]; exact h2, h3, hb⟩
  have HPR : Hid (∀ F S W, CAt W F s0 S → Calls Try.prog 23 #[.pointer (some ⟨F.g, 0, none⟩), .int .i64 0, .int .i64 1, .agg (Z.map B8).toArray] W (CPost F s1 0 W)) := fun F S W hW => by
    rw [hs0] at hW
    have := cprogram_any F fix0 S 0 1 Z hZl W hW fix_n0.1 fix_n0.2.1 fix_n0.2.2
    rw [fix_e1, hZ] at this
    rw [hs1, hZ]; exact this
  have HRD : Hid (∀ F S W, CAt W F s1 S → Calls Try.prog 24 #[.pointer (some ⟨F.g, 0, none⟩), .int .i64 0, .int .i64 1] W fun e w' => e = .returned (.tuple #[.agg (Z.map B8).toArray, .int .i64 0]) ∧ Below W.heap.size W w') := fun F S W hW => by
    rw [hs1] at hW
    have := cread_any F fix1 S 0 1 W hW
    rw [fix_at, if_pos rfl] at this
    have e : fix1.cell (0 : Int).toNat (1 : Int).toNat = Z := by rw [hZ]; exact fix_cell
    rw [e] at this
    exact this
  have HCU : Hid (∀ F S W, CAt W F s1 S → F.g < W.heap.size → Calls Try.prog 18 #[.pointer (some ⟨F.g, 0, none⟩), .int .i64 0, .slice (some ⟨W.heap.size, 0, none⟩) 1 1] (W.alloc (.cells #[.int .u8 1] 5)) fun e w' => e = .returned (.tuple #[]) ∧ (∃ S', CAt w' F s2 S') ∧ SameBut F.g (W.alloc (.cells #[.int .u8 1] 5)) w') := fun F S W hW hg => by
    have h1 : CAt (W.alloc (.cells #[.int .u8 1] 5)) F s1 S := hW.below ((Below.refl _ _).alloc (Nat.le_refl _) _) (Nat.le_refl _)
    rw [hs1] at h1
    have := ccut_any F fix1 S 0 (some ⟨W.heap.size, 0, none⟩) 1 1 [1#8] rfl _ h1 (isb_one W) (.inr fun B off e => by injection e with e; injection e with e; omega) (by omega) (by omega) (by omega)
    rw [hs2]; exact this
  have HBL : Hid (∀ F S W, CAt W F s2 S → Calls Try.prog 25 #[.pointer (some ⟨F.g, 0, none⟩), .int .i64 2] W (CPost F s3 8 W)) := fun F S W hW => by
    rw [hs2] at hW
    have := cblow_any F fix2 S 2 W hW fix_n2.1 fix_n2.2.1 fix_n2.2.2
    rw [fix_e3] at this
    rw [hs3]; exact this
  have HRE : Hid (∀ F S W, CAt W F s3 S → Calls Try.prog 26 #[.pointer (some ⟨F.g, 0, none⟩)] W fun e w' => e = .returned (.tuple #[]) ∧ CAt w' F s4 S ∧ SameBut F.g W w') := fun F S W hW => by
    rw [hs3] at hW
    have := crestore_any F fix3 S W hW
    rw [hs4]; exact this
  have HBN : Hid (∀ F S W, CAt W F s4 S → Calls Try.prog 27 #[.pointer (some ⟨F.g, 0, none⟩), .int .i64 2] W fun e w' => e = .returned (.tuple #[.bool true, .int .i64 0]) ∧ w' = W) := fun F S W hW => by
    rw [hs4] at hW
    have := cblown_any F fix4 S 2 W hW
    rw [fix_f4, if_pos rfl] at this
    have e : fix4.blown.getD (2 : Int).toNat false = true := fix_b4
    rw [e] at this
    exact this
  have HAC : Hid (∀ F S W, CAt W F s4 S → Calls Try.prog 21 #[.pointer (some ⟨F.g, 0, none⟩)] W fun e w' => e = .returned (.int .i64 2) ∧ w' = W) := fun F S W hW => by
    rw [hs4] at hW
    have := cacts_any F fix4 S W hW
    rw [fix_n4] at this
    exact this
  have hbz : Hid (∀ W : World, (Op.equalIn 10000 49 (.agg (Z.map B8).toArray) (.agg (Z.map B8).toArray)).run Try.prog W = .ok true W) := fun W => by have := eq_cell Z Z hZl hZl W; simpa using this
  have hZ32 : Hid ((Z.map B8).toArray = #[.int .u8 0, .int .u8 0, .int .u8 0, .int .u8 0, .int .u8 0, .int .u8 0, .int .u8 0, .int .u8 0, .int .u8 0, .int .u8 0, .int .u8 0, .int .u8 0, .int .u8 0, .int .u8 0, .int .u8 0, .int .u8 0, .int .u8 0, .int .u8 0, .int .u8 0, .int .u8 0, .int .u8 0, .int .u8 0, .int .u8 0, .int .u8 0, .int .u8 0, .int .u8 0, .int .u8 0, .int .u8 0, .int .u8 0, .int .u8 0, .int .u8 0, .int .u8 0]) := by rw [hZ]; exact rfl
  clear hs0 hs1 hs2 hs3 hs4 hZ
  go_enter Try.func6, Try.ntmps6
  go_wp2_with fail
  refine (HNEW.out _).mono ?_
  rintro e w1 ⟨F, rfl, ca, hF, hb1⟩
  have hgN : w.heap.size ≤ F.g := hF F.g (by simp [RF.blocks])
  have HPR2 : Hid (∀ F S W, CAt W F s0 S → Calls Try.prog 23 #[.pointer (some ⟨F.g, 0, none⟩), .int .i64 0, .int .i64 1, .agg #[.int .u8 0, .int .u8 0, .int .u8 0, .int .u8 0, .int .u8 0, .int .u8 0, .int .u8 0, .int .u8 0, .int .u8 0, .int .u8 0, .int .u8 0, .int .u8 0, .int .u8 0, .int .u8 0, .int .u8 0, .int .u8 0, .int .u8 0, .int .u8 0, .int .u8 0, .int .u8 0, .int .u8 0, .int .u8 0, .int .u8 0, .int .u8 0, .int .u8 0, .int .u8 0, .int .u8 0, .int .u8 0, .int .u8 0, .int .u8 0, .int .u8 0, .int .u8 0]] W (CPost F s1 0 W)) := fun F S W hW => by rw [← hZ32.out]; exact HPR.out F S W hW
  have hbz2 : ∀ W : World, (Op.equalIn 10000 49 (.agg (Z.map B8).toArray) (.agg #[.int .u8 0, .int .u8 0, .int .u8 0, .int .u8 0, .int .u8 0, .int .u8 0, .int .u8 0, .int .u8 0, .int .u8 0, .int .u8 0, .int .u8 0, .int .u8 0, .int .u8 0, .int .u8 0, .int .u8 0, .int .u8 0, .int .u8 0, .int .u8 0, .int .u8 0, .int .u8 0, .int .u8 0, .int .u8 0, .int .u8 0, .int .u8 0, .int .u8 0, .int .u8 0, .int .u8 0, .int .u8 0, .int .u8 0, .int .u8 0, .int .u8 0, .int .u8 0])).run Try.prog W = .ok true W := fun W => by rw [← hZ32.out]; exact hbz.out W
  go_wp2_with fail
  refine (HPR2.out F _ _ ca).mono ?_
  rintro e w2 ⟨rfl, ⟨S2, ca2⟩, kl2⟩
  have hb2 : Below w.heap.size w w2 := hb1.trans ⟨kl2.os, kl2.tape, kl2.output, kl2.size, fun k hk => kl2.block k (by have := hb1.size; omega) (fun hm => by have := hF k hm; omega)⟩
  clear kl2 ca hb1
  go_wp2_with fail
  refine (HRD.out F _ _ ca2).mono ?_
  rintro e w3 ⟨rfl, hb3⟩
  have ca3 : CAt w3 F s1 S2 := ca2.below hb3 (Nat.le_refl _)
  have bb3 := hb2.trans (hb3.mono hb2.size)
  clear ca2 hb2 hb3
  generalize hLB : w3.heap.size = LB at *
  go_wp2_with (refine wpList_store_Row rfl 49 _ _ rfl LB 49 0 ((List.replicate 32 (0 : By)).map B8) (Z.map B8) (Row.at _ _ _ _ _ hLB.symm rfl) (by simp [hZl]) rfl rfl (by rw [List.length_map, hZl]; kernel_rfl) (B8_one _) ?_; intro w4 hr4 hs4)
  have rl4 := row_whole hr4 (by simp [hZl])
  have bl4 : Below w3.heap.size w3 w4 := hs4.below ((Below.refl _ _).alloc (Nat.le_refl _) _) (by omega)
  have ca4 : CAt w4 F s1 S2 := ca3.below bl4 (Nat.le_refl _)
  have bb4 := bb3.trans (bl4.mono bb3.size)
  have hLg : LB ∉ F.blocks := fun hm => by have := ca3.blt LB hm; omega
  clear hr4 hs4 bl4 ca3 bb3
  go_wp2_with fail
  refine (HCU.out F S2 w4 ca4 ca4.row.lt).mono ?_
  rintro e w5 ⟨rfl, ⟨S5, ca5⟩, sb5⟩
  have rl5 : Row w5 LB 49 (Z.map B8) := (rl4.alloc _).but sb5 (fun e => hLg (e ▸ (by simp [RF.blocks])))
  have bb5 : Below w.heap.size w w5 := sb5.below (bb4.alloc bb4.size _) hgN
  clear rl4 sb5 bb4 ca4
  go_wp2_with fail
  refine (HBL.out F _ _ ca5).mono ?_
  rintro e w6 ⟨rfl, ⟨S6, ca6⟩, kl6⟩
  have rl6 : Row w6 LB 49 (Z.map B8) := (kl6.block LB rl5.lt hLg).trans rl5
  have bb6 : Below w.heap.size w w6 := bb5.trans ⟨kl6.os, kl6.tape, kl6.output, kl6.size, fun k hk => kl6.block k (by have := bb5.size; omega) (fun hm => by have := hF k hm; omega)⟩
  clear rl5 bb5 kl6 ca5
  go_wp2_with fail
  refine (HRE.out F _ _ ca6).mono ?_
  rintro e w7 ⟨rfl, ca7, sb7⟩
  have rl7 : Row w7 LB 49 (Z.map B8) := rl6.but sb7 (fun e => hLg (e ▸ (by simp [RF.blocks])))
  have bb7 : Below w.heap.size w w7 := sb7.below bb6 hgN
  clear rl6 bb6 sb7 ca6
  go_wp2_with fail
  refine (HBN.out F _ _ ca7).mono ?_
  rintro e w8 ⟨rfl, rfl⟩
  go_wp2_with (first
    | (refine wpList_load_Row_g (by rfl) 49 _ rfl LB 49 _ rl7 rfl _ Try.underlying49 rfl (by rw [List.length_map, hZl]; kernel_rfl) ?_)
    | (refine (HAC.out F _ _ ca7).mono ?_; rintro e w9 ⟨rfl, rfl⟩))
  go_ret
  exact ⟨rfl, bb7⟩
end Go.Proofs.Ythjndaeibbfgaaa
