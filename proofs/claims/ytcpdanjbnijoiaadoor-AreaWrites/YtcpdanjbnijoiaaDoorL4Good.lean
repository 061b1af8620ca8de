import Derived.Test.YtcpdanjbnijoiaaDoorC4First

/-! The code's chip: New. (Printed by tools/genfirst.py.) -/
namespace Go.Proofs.YtcpdanjbnijoiaaDoor
open Go.RowKit

@[reducible] def IYN (W1 : World) (t : St) (cf : List Value) (a1 : Value) (y0 y1 y4 y5 y6 y7 y8 y9 : Value) : (Nat → Bool) → Act → World → Prop := fun L a W => ∃ xA xB xC xD xE xF xG pB eB bB ps g, a = ⟨#[y0, y1, xF, xG, y4, y5, y6, y7, y8, y9, xA, xB, xC, xD, xE], []⟩ ∧ YI W1 t cf a1 L xA xB xC xD xE xF xG pB eB bB ps g W

/-- What a chip of a config holds at first. -/
def freshC (c : Cfg) : St := freshN (2 + 2 * c.area).toNat c.cells.toNat (c.slots * c.fuses + c.keys).toNat
theorem freshN_8 (np n nb : Nat) : ∀ p ∈ (freshN np n nb).pages, ∀ x ∈ p, x.length = 32 := by
  intro p hp x hx
  unfold freshN at hp
  rw [(List.mem_replicate.1 hp).2] at hx
  rw [(List.mem_replicate.1 hx).2]; simp
theorem fresh_fit {c : Cfg} (hc : c.may = 0) : Fit c (freshC c) := by
  obtain ⟨_, ⟨q1, q2⟩, ⟨f1, f2⟩, ⟨k1, k2⟩, ⟨a1, a2⟩, ⟨m1, m2⟩, _⟩ := may_facts hc
  refine ⟨?_, ?_, ?_, ?_⟩
  · show ((List.replicate (2 + 2 * c.area).toNat _).length : Int) = _
    rw [List.length_replicate]; omega
  · show ((List.replicate (2 + 2 * c.area).toNat _).length : Int) = _
    rw [List.length_replicate]; omega
  · show ((List.replicate (c.slots * c.fuses + c.keys).toNat _).length : Int) = _
    rw [List.length_replicate]; omega
  · intro p hp
    have hp' : p < (2 + 2 * c.area).toNat := by simpa [freshC, freshN] using hp
    refine ⟨?_, ?_⟩
    · show (((List.replicate (2 + 2 * c.area).toNat _).getD p []).length : Int) = _
      rw [getD_rep _ _ _ _ hp', List.length_replicate]; omega
    · show 0 ≤ (List.replicate (2 + 2 * c.area).toNat (0 : Int)).getD p 0
      rw [getD_rep _ _ _ _ hp']; omega
theorem fresh_ok {c : Cfg} (hc : c.may = 0) : (layS c (freshC c)).Ok := lay_ok hc (fresh_fit hc) (freshN_8 _ _ _)

def NewPost (c : Cfg) (w : World) (e : Ending) (w' : World) : Prop := Below w.heap.size w w' ∧ ((c.may ≠ 0 ∧ e = .returned (.tuple #[.pointer none, .int .i64 c.may])) ∨ (c.may = 0 ∧ ∃ F, e = .returned (.tuple #[.pointer (some ⟨F.g, 0, none⟩), .int .i64 0]) ∧ CAt w' F (layS c (freshC c)) ⟨#[]⟩ ∧ ∀ B ∈ F.blocks, w.heap.size ≤ B))

set_option maxHeartbeats 4000000 in
set_option maxRecDepth 100000 in
theorem cnew_any (c : Cfg) (w : World) :
    Calls Tryd.prog 12 #[.agg c.vals.toArray] w (NewPost c w) := by
  have HMAY : Hid (∀ W, Calls Tryd.prog 16 #[.agg c.vals.toArray] W fun e w' => e = .returned (.int .i64 c.may) ∧ Below W.heap.size W w') := fun W => cmay_any c W
  have HC0 : Hid (c.may = 0 → ∀ W, Calls Tryd.prog 26 #[.agg c.vals.toArray] W (AgainPost (freshC c) W)) := by
    intro hc W
    obtain ⟨_, ⟨q1, q2⟩, ⟨f1, f2⟩, ⟨k1, k2⟩, ⟨a1, a2⟩, ⟨m1, m2⟩, _⟩ := may_facts hc
    exact cfirst_any c.cells c.slots c.fuses c.step c.keys c.erases c.area (2 + 2 * c.area).toNat c.cells.toNat (c.slots * c.fuses + c.keys).toNat (by omega) (by omega) (by omega) a1 a2 (by omega) ⟨m1, m2⟩ k1 k2 W
  have HOK : Hid (c.may = 0 → (layS c (freshC c)).Ok) := fun h1 => fresh_ok h1
  have r0 : Row (w.alloc (.cells c.vals.toArray 23)) w.heap.size 23 c.vals := Row.at _ _ _ _ _ rfl rfl
  have bb : Below w.heap.size w (w.alloc (.cells c.vals.toArray 23)) := (Below.refl _ _).alloc (Nat.le_refl _) _
  obtain ⟨T0, hT0⟩ : ∃ T0, T0 = freshC c := ⟨_, rfl⟩
  rw [← hT0] at HC0 HOK
  have HT0 : Hid (T0 = freshC c) := hT0
  clear hT0
  obtain ⟨cells, slots, fuses, step, keys, erases, area⟩ := c
  simp only [Cfg.vals] at HMAY HC0 r0 bb ⊢
  obtain ⟨mv, hmv⟩ : ∃ mv, mv = Cfg.may ⟨cells, slots, fuses, step, keys, erases, area⟩ := ⟨_, rfl⟩
  rw [← hmv] at HMAY HC0 HOK
  have HMV : Hid (mv = Cfg.may ⟨cells, slots, fuses, step, keys, erases, area⟩) := hmv
  clear hmv
  generalize hW0 : w.alloc (.cells [Value.int .i64 cells, .int .i64 slots, .int .i64 fuses, .int .i64 step, .int .i64 keys, .int .i64 erases, .int .i64 area].toArray 23) = W0 at *
  have c0 := r0.cell 0 _ rfl
  have c1 := r0.cell 1 _ rfl
  have c2 := r0.cell 2 _ rfl
  have c3 := r0.cell 3 _ rfl
  have c4 := r0.cell 4 _ rfl
  have c5 := r0.cell 5 _ rfl
  have c6 := r0.cell 6 _ rfl
  by_cases hm : mv = 0
  · subst hm
    have hm' : ((0 : Int) != 0) = false := rfl
    have HC : Hid (∀ W, Calls Tryd.prog 26 #[.agg [Value.int .i64 cells, .int .i64 slots, .int .i64 fuses, .int .i64 step, .int .i64 keys, .int .i64 erases, .int .i64 area].toArray] W (AgainPost T0 W)) := fun W => HC0.out rfl W
    have HOK2 : Hid ((layS ⟨cells, slots, fuses, step, keys, erases, area⟩ T0).Ok) := HOK.out rfl
    clear HC0 HOK
    go_enter Tryd.func12, Tryd.ntmps12
    go_wp2_with (refine (HMAY.out _).mono ?_; rintro e w2 ⟨rfl, hb1⟩; have r0 : Row w2 w.heap.size 23 _ := (hb1.block _ r0.lt).trans r0; have bb := bb.trans (hb1.mono bb.size); clear hb1; have c0 := r0.cell 0 _ rfl; have c1 := r0.cell 1 _ rfl; have c2 := r0.cell 2 _ rfl; have c3 := r0.cell 3 _ rfl; have c4 := r0.cell 4 _ rfl; have c5 := r0.cell 5 _ rfl; have c6 := r0.cell 6 _ rfl)
    refine wp_region_inv (IYN w2 T0 [.int .i64 cells, .int .i64 slots, .int .i64 fuses, .int .i64 step, .int .i64 keys, .int .i64 erases, .int .i64 area] (.agg #[.int .i64 cells, .int .i64 slots, .int .i64 fuses, .int .i64 step, .int .i64 keys, .int .i64 erases, .int .i64 area]) _ _ _ _ _ _ _ _) (by kernel_rfl) (by kernel_rfl) ⟨_, _, _, _, _, _, _, _, _, _, _, _, rfl, YI.zero w2 T0 [.int .i64 cells, .int .i64 slots, .int .i64 fuses, .int .i64 step, .int .i64 keys, .int .i64 erases, .int .i64 area] (.agg #[.int .i64 cells, .int .i64 slots, .int .i64 fuses, .int .i64 step, .int .i64 keys, .int .i64 erases, .int .i64 area]) _ _ _ _ _ _ _⟩ ?_ ?_
    · refine .cons ?_ (.cons ?_ (.cons ?_ (.cons ?_ (.cons ?_ (.cons ?_ (.cons ?_ .nil))))))
      all_goals (rintro L a W ⟨xA, xB, xC, xD, xE, xF, xG, pB, eB, bB, ps, g, rfl, hI⟩ hL hd K hK)
      · have rc : Row W w.heap.size 23 _ := (hI.bel.block _ r0.lt).trans r0
        have c0 := rc.cell 0 _ rfl
        have c1 := rc.cell 1 _ rfl
        have c2 := rc.cell 2 _ rfl
        have c3 := rc.cell 3 _ rfl
        have c4 := rc.cell 4 _ rfl
        have c5 := rc.cell 5 _ rfl
        have c6 := rc.cell 6 _ rfl
        rw [if_pos (by rfl)]
        go_simp
        exact hK.out _ _ ⟨_, _, _, _, _, _, _, _, _, _, _, _, rfl, hI.s0⟩
      · have rc : Row W w.heap.size 23 _ := (hI.bel.block _ r0.lt).trans r0
        have c0 := rc.cell 0 _ rfl
        have c1 := rc.cell 1 _ rfl
        have c2 := rc.cell 2 _ rfl
        have c3 := rc.cell 3 _ rfl
        have c4 := rc.cell 4 _ rfl
        have c5 := rc.cell 5 _ rfl
        have c6 := rc.cell 6 _ rfl
        rw [if_pos (by rfl)]
        go_simp
        exact hK.out _ _ ⟨_, _, _, _, _, _, _, _, _, _, _, _, rfl, hI.s1⟩
      · have hx := hI.e1 (hd 1 (by decide))
        subst hx
        rw [if_pos (by rfl)]
        go_simp
        refine (HC.out _).mono ?_
        rintro e w3 ⟨pB', eB', bB', ps', rfl, hos, hb3⟩
        exact hK.out _ _ ⟨_, _, _, _, _, _, _, _, _, _, _, _, rfl, hI.s2 hL hos hb3⟩
      · have hx := hI.e0 (hd 0 (by decide))
        have hy := (hI.e2 (hd 2 (by decide))).1
        subst hx hy
        rw [if_pos (by rfl)]
        simp only [ownVals]
        go_simp
        exact hK.out _ _ ⟨_, _, _, _, _, _, _, _, _, _, _, _, rfl, hI.s3 (hd 2 (by decide))⟩
      · have hx := hI.e3 (hd 3 (by decide))
        subst hx
        rw [if_pos (by rfl)]
        simp only [newCells]
        go_simp
        exact hK.out _ _ ⟨_, _, _, _, _, _, _, _, _, _, _, _, rfl, hI.s4 hL (hd 3 (by decide))⟩
      · have hx := (hI.e4 (hd 4 (by decide))).1
        subst hx
        rw [if_pos (by rfl)]
        go_simp
        exact hK.out _ _ ⟨_, _, _, _, _, _, _, _, _, _, _, _, rfl, hI.s5 (hd 4 (by decide))⟩
      · rw [if_pos (by rfl)]
        go_simp
        exact hK.out _ _ ⟨_, _, _, _, _, _, _, _, _, _, _, _, rfl, hI.s6⟩
    · rintro L a W hall ⟨xA, xB, xC, xD, xE, xF, xG, pB, eB, bB, ps, g, rfl, hI⟩
      have hx5 := hI.e5 (hall 5 (by decide))
      have hx6 := hI.e6 (hall 6 (by decide))
      obtain ⟨_, q1, q2, q3, q4⟩ := hI.e4 (hall 4 (by decide))
      obtain ⟨_, hos⟩ := hI.e2 (hall 2 (by decide))
      have hbel := hI.bel
      subst hx5 hx6
      clear hI hall
      try dsimp only
      have bbW := bb.trans (hbel.mono bb.size)
      have hfin : NewPost ⟨cells, slots, fuses, step, keys, erases, area⟩ w (.returned (.tuple #[.pointer (some ⟨g, 0, none⟩), .int .i64 0])) W := by
        refine ⟨bbW, .inr ⟨HMV.out.symm, ownF g T0 pB eB bB ps, rfl, ?_, ?_⟩⟩
        · rw [← HT0.out]; exact new_cat hos q1 HOK2.out q4
        · have hsz := bb.size
          intro B hB
          have := ownF_blocks hos q2 B hB
          omega
      clear q1 hos
      go_wp2
      go_ret2
      exact hfin
  · have hm' : (mv != 0) = true := by simpa using hm
    have HMN : Hid (¬ mv = 0) := hm
    clear hm HC0 HOK
    go_enter Tryd.func12, Tryd.ntmps12
    go_wp2_with (refine (HMAY.out _).mono ?_; rintro e w1 ⟨rfl, hb1⟩; have bb := bb.trans (hb1.mono bb.size); clear hb1)
    go_ret2
    refine ⟨bb, .inl ⟨by rw [← HMV.out]; exact HMN.out, ?_⟩⟩
    rw [← HMV.out]; rfl
end Go.Proofs.YtcpdanjbnijoiaaDoor


/-! The statements' own functions: done, mixed. -/
namespace Go.Proofs.YtcpdanjbnijoiaaDoor
open Go.RowKit

/-- A step, as values. -/
def stepVals (k a b : Int) (x : List By) (mo : Option Addr) (ml mc : Nat) : List Value := [.int .i64 k, .int .i64 a, .int .i64 b] ++ x.map B8 ++ [.slice mo ml mc]

/-- An act, as 'done' does it. -/
def RS.doneS (s : RS) (k a b : Int) (x : List By) : RS := if k = 2 then s.program a b x else if k = 3 then s.erase a else s.blow a
def RS.doneE (s : RS) (k a b : Int) : Int := if k = 2 then s.programE a b else if k = 3 then s.eraseE a else s.blowE a

theorem CPost.above {F : RF} {s' : RS} {r : Int} {w0 w w' : World} {e : Ending} (h : CPost F s' r w e w') (hb : Below w0.heap.size w0 w) : CPost F s' r w0 e w' := by
  obtain ⟨h1, h2, h3⟩ := h
  refine ⟨h1, h2, ((KeptL.refl F.blocks w0).below hb (Nat.le_refl _)).trans ?_⟩
  exact h3

end Go.Proofs.YtcpdanjbnijoiaaDoor


/-! The statements' own function fixed. -/
namespace Go.Proofs.YtcpdanjbnijoiaaDoor
open Go.RowKit

theorem wpList_load_Row_g {ops : Array Oper} {rest : List Oper} {o : Oper} {a : Act} {w : World} {Q : Exit → Act → World → Prop} (hw : Region.wanted o (yielded ops a.tmps) = true) (ty : TypeId) (x : Operand) (ho : o.op = .load ty x)
    (g t : Nat) (cs : List Value) (hr : Row w g t cs) (hx : a.eval x = .pointer (some ⟨g, 0, none⟩)) (d : TypeDesc) (hu : Tryd.prog.underlying ty = some d) (hd : d.isRow = true) (hi : (Tryd.prog.info? ty).map (·.size) = some cs.length)
    (h : wpList Tryd.prog ops Q rest (a.put o.dst (.agg cs.toArray)) w) : wpList Tryd.prog ops Q (o :: rest) a w := by
  refine wpList_step fun K hK => ?_
  rw [if_pos hw]
  have hl := run_loadVar_mid (P := Tryd.prog) w g 0 ty cs d (by have := hr.range 0 cs.length; simpa using this) hu hd hi
  unfold Oper.wp execOp
  simp only [ho, hx, Instr.loadAt, Instr.sureAddr, Sem.run_bind, Sem.run_pure, Result.andThen_ok, hl]
  exact hK _ _ h

def fixC : Cfg := ⟨4, 1, 2, 1, 1, 1, 0⟩
def fix0 : RS := layS fixC (freshC fixC)
def fix1 : RS := fix0.program 0 1 (List.replicate 32 0#8)
def fix2 : RS := { fix1 with wait := max (-1) 0, mask := [1#8] }
def fix3 : RS := fix2.blow 2
def fix4 : RS := { fix3 with gone := false }
theorem fix_may : fixC.may = 0 := by decide +kernel
theorem fix_e1 : fix0.programE 0 1 = 0 := by decide +kernel
theorem fix_at : fix1.at 0 1 = 0 := by decide +kernel
theorem fix_cell : fix1.cell 0 1 = List.replicate 32 0#8 := by decide +kernel
theorem fix_e3 : fix2.blowE 2 = 8 := by decide +kernel
theorem fix_f4 : fix4.fuse 2 = 0 := by decide +kernel
theorem fix_b4 : fix4.blown.getD 2 false = true := by decide +kernel
theorem fix_n4 : fix4.n = 2 := by decide +kernel
theorem fix_n0 : 0 ≤ fix0.n ∧ fix0.n < 4611686018427387904 ∧ fix0.wait < 9223372036854775808 := by decide +kernel
theorem fix_n2 : 0 ≤ fix2.n ∧ fix2.n < 4611686018427387904 ∧ fix2.wait < 9223372036854775808 := by decide +kernel

theorem isb_one (W : World) : IsB (W.alloc (.cells #[.int .u8 1] 5)) (some ⟨W.heap.size, 0, none⟩) [1#8] := by
  refine .inr ⟨W.heap.size, 0, rfl, fun j v hj => ?_⟩
  have hr : Row (W.alloc (.cells #[.int .u8 1] 5)) W.heap.size 5 [.int .u8 1] := Row.at _ _ _ _ _ rfl rfl
  cases j with
  | zero =>
    simp at hj
    subst hj
    rw [Nat.add_zero]
    exact hr.cell 0 _ rfl
  | succ j => simp at hj

end Go.Proofs.YtcpdanjbnijoiaaDoor


/-! What a step of the statement's script needs. -/
namespace Go.Proofs.YtcpdanjbnijoiaaDoor
open Go.RowKit

theorem own_nilcap {N : Nat} {w : World} {ao : Option Addr} {n c : Nat} {m : List By} (h : Own N w (.slice ao n c) m) : ao = none → c = 0 := by
  rintro rfl
  rcases h.1.2 with ⟨h1, _⟩ | ⟨g, c', cur, h1, _⟩
  · injection h1
  · cases h1

theorem conv_string (w : World) (ao : Option Addr) (n cap : Nat) (bs : List By) (hn : bs.length = n) (hb : IsB w ao bs) :
    (convert 29 9 (.slice ao n cap)).run Tryd.prog w = .ok (.string (strOf bs)) w := by
  subst hn
  rw [run_convert_bytes_string w 29 9 5 ao bs.length cap Tryd.underlying29 Tryd.underlying5 Tryd.underlying9]
  have key : ∀ a : Addr, (∀ j v, (bs.map B8)[j]? = some v → w.cell? (a.add j) = some v) → (Conv.bytesToString (.slice (some a) bs.length cap)).run Tryd.prog w = .ok (.string (strOf bs)) w := by
    intro a h
    have hl := run_loadCells_list (P := Tryd.prog) w a (bs.map B8) h
    rw [List.length_map] at hl
    have e : bs.map B8 = (bs.map fun b => (b.toNat : Int)).map (Value.int .u8) := by
      rw [List.map_map]; rfl
    rw [e] at hl
    exact run_bytesToString w a bs.length cap _ hl
  rcases hb with rfl | ⟨B, off, rfl, hc⟩
  · cases ao with
    | none => rfl
    | some a => exact key a (by simp)
  · refine key _ ?_
    intro j u hu
    rw [Addr.add_mid]
    rw [List.getElem?_map] at hu
    cases hj : bs[j]? with
    | none => rw [hj] at hu; cases hu
    | some v =>
      rw [hj] at hu
      injection hu with hu
      rw [← hu]; exact hc j v hj

/-- What stays true of a chip's numbers. -/
structure RS.Good (s : RS) : Prop where
  n0 : 0 ≤ s.n
  wt : s.wait < 9223372036854775808
  ce : s.c.erases ≤ 65536
  e0 : ∀ e ∈ s.erases, 0 ≤ e
  ml : s.mask.length ≤ 140737488351232
  pos : 0 < s.pages.length
theorem RS.Good.act {s : RS} (h : s.Good) : s.act.Good := by
  refine ⟨by show 0 ≤ s.n + 1; have := h.n0; omega, ?_, h.ce, h.e0, h.ml, h.pos⟩
  show (if s.wait = 0 then -1 else if 0 < s.wait then s.wait - 1 else s.wait) < _
  have := h.wt
  split
  · omega
  · split <;> omega
theorem RS.Good.program {s : RS} (h : s.Good) (p c : Int) (x : List By) : (s.program p c x).Good ∧ (s.program p c x).n ≤ s.n + 1 := by
  unfold RS.program
  split
  · have k := h.act
    refine ⟨⟨k.n0, k.wt, k.ce, k.e0, k.ml, ?_⟩, by show s.n + 1 ≤ _; omega⟩
    show 0 < (s.pages.set _ _).length
    rw [List.length_set]; exact h.pos
  · exact ⟨h, by omega⟩
theorem RS.Good.erase {s : RS} (h : s.Good) (p : Int) : (s.erase p).Good ∧ (s.erase p).n ≤ s.n + 1 := by
  unfold RS.erase
  split
  · have k := h.act
    refine ⟨⟨k.n0, k.wt, k.ce, ?_, k.ml, ?_⟩, by show s.n + 1 ≤ _; omega⟩
    · intro e he
      have he' : e ∈ s.erases.set p.toNat (s.erases.getD p.toNat 0 + 1) := he
      rcases List.mem_or_eq_of_mem_set he' with h1 | rfl
      · exact h.e0 e h1
      · have : 0 ≤ s.erases.getD p.toNat 0 := by
          rw [List.getD_eq_getElem?_getD]
          cases hq : s.erases[p.toNat]? with
          | none => simp
          | some v => exact h.e0 v (List.mem_of_getElem? hq)
        omega
    · show 0 < (s.pages.set _ _).length
      rw [List.length_set]; exact h.pos
  · exact ⟨h, by omega⟩
theorem RS.Good.blow {s : RS} (h : s.Good) (i : Int) : (s.blow i).Good ∧ (s.blow i).n ≤ s.n + 1 := by
  unfold RS.blow
  split
  · have k := h.act
    exact ⟨⟨k.n0, k.wt, k.ce, k.e0, k.ml, k.pos⟩, by show s.n + 1 ≤ _; omega⟩
  · exact ⟨h, by omega⟩

theorem blocks_mask {F : RF} {mo : Option Addr} {mc : Nat} {mb : Option Nat} {B : Nat} (h : B ∈ ({ F with mo := mo, mcap := mc, mb := mb } : RF).blocks) : B ∈ F.blocks ∨ mb = some B := by
  simp only [RF.blocks, List.mem_cons, List.mem_append] at h ⊢
  rcases h with h | h | h | h | h | h
  · exact .inl (.inl h)
  · exact .inl (.inr (.inl h))
  · exact .inl (.inr (.inr (.inl h)))
  · exact .inl (.inr (.inr (.inr (.inl h))))
  · exact .inl (.inr (.inr (.inr (.inr (.inl h)))))
  · exact .inr (by simpa using h)
theorem isb_keep {w w' : World} {ao : Option Addr} {m : List By} (h : IsB w ao m) (hb : ∀ B off, m ≠ [] → ao = some ⟨B, off, none⟩ → w'.heap[B]? = w.heap[B]?) : IsB w' ao m := by
  by_cases he : m = []
  · exact .inl he
  · rcases h with h | ⟨B, off, h1, hc⟩
    · exact .inl h
    · exact .inr ⟨B, off, h1, fun j v hj => (World.cell?_of_block (hb B off he h1)).trans (hc j v hj)⟩
theorem lay_good {c : Cfg} {t : St} (hc : c.may = 0) (hf : Fit c t) : (layS c t).Good := by
  have hm := may_facts hc
  have hp := (may_parts hc).2.2.2.2
  obtain ⟨f1, f2, f3, f4⟩ := hf
  refine ⟨by show (0 : Int) ≤ 0; omega, by show (-1 : Int) < _; omega, hm.2.2.2.2.2.2.2, ?_, by show (0 : Nat) ≤ _; omega, ?_⟩
  · intro e he
    obtain ⟨j, hj⟩ := List.mem_iff_getElem?.1 he
    have hj' : t.erases[j]? = some e := hj
    have hl := (List.getElem?_eq_some_iff.1 hj').1
    have := (f4 j (by omega)).2
    rw [List.getD_eq_getElem?_getD, hj'] at this
    exact this
  · show 0 < t.pages.length
    omega
def badK (c : Cfg) : Int := if c.may = 0 then 5 else c.may
def CLayP (K : Int) (OK : Prop) (s : RS) (w : World) (e : Ending) (w' : World) : Prop := Below w.heap.size w w' ∧ ((¬ OK ∧ e = .returned (.tuple #[.pointer none, .int .i64 K])) ∨ (OK ∧ ∃ F, e = .returned (.tuple #[.pointer (some ⟨F.g, 0, none⟩), .int .i64 0]) ∧ CAt w' F s ⟨#[]⟩ ∧ ∀ B ∈ F.blocks, w.heap.size ≤ B))
theorem clayp {c : Cfg} {t : St} {w : World} {e : Ending} {w' : World} (h : LayPost c t w e w') : CLayP (badK c) (c.may = 0 ∧ Fit c t) (layS c t) w e w' := by
  obtain ⟨h1, h2⟩ := h
  refine ⟨h1, ?_⟩
  rcases h2 with ⟨a, b⟩ | ⟨a, b, d⟩ | ⟨a, b, d⟩
  · exact .inl ⟨fun k => a k.1, by rw [b, badK, if_neg a]⟩
  · exact .inl ⟨fun k => b k.2, by rw [d, badK, if_pos a]⟩
  · exact .inr ⟨⟨a, b⟩, d⟩

theorem pn_below {w W : World} {v : SV} {t : St} (h : StV w v t) (hW : Below w.heap.size w W) (hnp : ∀ B off p n qc, v.po = some ⟨B, off, none⟩ → p < t.pages.length → w.cell? ⟨B, off + p, none⟩ = some (.slice none n qc) → qc = 0) : ∀ B off p n qc, v.po = some ⟨B, off, none⟩ → p < t.pages.length → W.cell? ⟨B, off + p, none⟩ = some (.slice none n qc) → qc = 0 := by
  intro B off p n qc e1 e2 e3
  obtain ⟨B', off', qo, qc', f1, f2, _⟩ := h.page p e2
  rw [e1] at f1
  injection f1 with f1
  injection f1 with f3 f4
  subst f3 f4
  refine hnp B off p n qc e1 e2 ?_
  rw [← e3]
  exact (hW.cell (World.block_lt_of_cell? _ _ f2)).symm

end Go.Proofs.YtcpdanjbnijoiaaDoor
