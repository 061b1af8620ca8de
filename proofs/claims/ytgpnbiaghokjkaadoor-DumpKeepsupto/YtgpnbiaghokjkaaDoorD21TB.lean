import Derived.Test.YtgpnbiaghokjkaaDoorD21T9
import Derived.Recover
import Derived.Defers
/-! Layer 21, the landed code: read. -/
namespace Go.Proofs.YtgpnbiaghokjkaaDoor
open Go.RowKit
set_option linter.unusedVariables false
set_option linter.unusedSimpArgs false
set_option maxRecDepth 100000

theorem cell_same {w w' : World} {b o : Nat} {n : Option Nat} (h : w'.heap[b]? = w.heap[b]?) : w'.cell? ⟨b, o, n⟩ = w.cell? ⟨b, o, n⟩ := by
  simp only [World.cell?, h]
/-- What read leaves. -/
def RdP (R : Nat) (T : List By) (w : World) (e : Ending) (w' : World) : Prop :=
  BX w.heap.size R w w' ∧
  ((e = .returned (.tuple #[]) ∧ ∃ c t N ln pg cl pB eB bB ps, codeP T = .ok (c, t) ∧ w.heap.size ≤ N ∧ RdM N R ln c t pB eB bB ps pg cl w' ∧ Smol t) ∨
   (∃ k ln, e = pan k ∧ codeP T = .error (k, ln) ∧ LnAt R ln w'))
/-- What is behind the last line. -/
theorem end_step (N R : Nat) (T : List By) (ls : List (List By)) (W : World) (hls : splitL T = ls) (hp : Pro N R ls ls.length W) :
    Calls Tryd.prog 45 #[.pointer (some ⟨R, 0, none⟩)] (W.setCell ⟨R, 0, none⟩ (.int .i64 ((ls.length + 1 : Nat) : Int))) fun e W' => BX N R W W' ∧
      ((e = .returned (.tuple #[]) ∧ ∃ c t ln pg cl pB eB bB ps, codeP T = .ok (c, t) ∧ RdM N R ln c t pB eB bB ps pg cl W' ∧ Smol t) ∨ (∃ k ln, e = pan k ∧ codeP T = .error (k, ln) ∧ LnAt R ln W')) := by
  have b0 : BX N R W (W.setCell ⟨R, 0, none⟩ (.int .i64 ((ls.length + 1 : Nat) : Int))) := (BX.refl _).but (SameBut.setCell _ _ _ _) (.inl rfl)
  rcases hp with ⟨e0, hr, hN⟩ | ⟨e1, L1, c, pB, eB, bB, ps, h0, hc, hm, hM⟩ | ⟨h2, L1, L2, c, v, t, pg, cl, pB, eB, bB, ps, h0, hc, hm, h1, hb, hM, hS, hR⟩
  · have hr1 : Row (W.setCell ⟨R, 0, none⟩ (.int .i64 ((ls.length + 1 : Nat) : Int))) R 61 (rd0 (ls.length + 1)) := hr.set 0 _
    refine (end_any R 0 0 0 none _ (hr1.cell 11 _ rfl) (hr1.cell 8 _ rfl)).mono ?_
    rintro e W' ⟨he, hd⟩
    have hle : splitL T = [] := by rw [hls]; exact List.length_eq_zero_iff.1 e0
    refine ⟨b0.dr hd, .inr ⟨5, 1, by rw [he]; rfl, cp0 hle, ?_⟩⟩
    have := (hr1.dr hd).cell 0 _ rfl
    rw [e0] at this
    exact this
  · have hM2 := hM.setLn (ls.length + 1)
    refine (end_any R 0 _ _ _ _ hM2.c11 hM2.c8).mono ?_
    rintro e W' ⟨he, hd⟩
    refine ⟨b0.dr hd, .inr ⟨5, 2, by rw [he]; rfl, cp2n hls h0 hc hm e1, ?_⟩⟩
    have := (hM2.dr hd).c0
    rw [e1] at this
    exact this
  · have hM2 := hM.setLn (ls.length + 1)
    refine (end_any R pg _ _ _ _ hM2.c11 hM2.c8).mono ?_
    rintro e W' ⟨he, hd⟩
    have hcp := cp3 hls h0 hc hm h1 hb
    rw [hR, List.drop_of_length_le (Nat.le_refl _), runC] at hcp
    rw [hS.p] at he
    by_cases hk : 0 < pg ∧ pg = Mm c
    · rw [if_pos hk] at hcp
      rw [decide_eq_true hk] at he
      exact ⟨b0.dr hd, .inl ⟨he, c, t, _, pg, cl, pB, eB, bB, ps, hcp, hM2.dr hd, hS.smol hm⟩⟩
    · rw [if_neg hk] at hcp
      rw [decide_eq_false hk] at he
      exact ⟨b0.dr hd, .inr ⟨5, ls.length + 1, he, hcp, (hM2.dr hd).c0⟩⟩
/-- The call of the iterator, with read's rounds. -/
theorem read_call (R : Nat) (T : List By) (ls : List (List By)) (hls : splitL T = ls) (hT : T.length ≤ 140737488355328) (w w2 : World) (hr : Row w R 61 (rd0 0)) (hz2 : w2.heap.size = w.heap.size + 2) (B2 : Row w2 w.heap.size 59 [.pointer (some ⟨R, 0, none⟩)]) (E2 : w2.cell? ⟨w.heap.size + 1, 0, none⟩ = some (.string (strOf T))) (b2 : Below w.heap.size w w2)
    (r : Loop) (hst : r.state = .ready) (hpd : r.pending = none) (hfn : ∃ g, Tryd.prog.funcs[r.fn]? = some g) (hpar : r.params = #[7]) (v0 v1 v3 v4 v5 v6 v7 v8 v9 v10 v11 v12 v13 v14 v15 v16 v17 v18 v19 v20 v21 v22 v23 v24 v25 v26 : Value) (htm : r.tmps = #[v0, v1, .pointer (some ⟨w.heap.size, 0, none⟩), v3, v4, v5, v6, v7, v8, v9, v10, v11, v12, v13, v14, v15, v16, v17, v18, v19, v20, v21, v22, v23, v24, v25, v26]) (hc : rfOf21 (Tryd.f28.body.getD .skip) = some (r.assign, r.body)) :
    Calls Tryd.prog 56 #[.func (.yield (w2.heap.size + 1)) #[] #[], .pointer (some ⟨w.heap.size + 1, 0, none⟩)] ((w2.alloc (.deferred (some []))).alloc (.loop r)) fun e W' =>
      ((∃ v, e = .returned v) ∧ Pro (w.heap.size + 4) R ls ls.length W' ∧ BX w.heap.size R w W' ∧ W'.heap[w.heap.size + 3]? = some (.loop r) ∧ W'.heap[w.heap.size + 2]? = some (.deferred (some [])) ∧ Row W' w.heap.size 59 [.pointer (some ⟨R, 0, none⟩)]) ∨ ((∃ k, e = pan k) ∧ PD w.heap.size R (w.heap.size + 2) T w e W') := by
  obtain ⟨w5, hw5⟩ : ∃ w5, w5 = (w2.alloc (.deferred (some []))).alloc (.loop r) := ⟨_, rfl⟩
  have hb5 : Below w2.heap.size w2 w5 := by rw [hw5]; exact ((Below.refl _ _).alloc (Nat.le_refl _) _).alloc (by simp) _
  have hz5 : w5.heap.size = w.heap.size + 4 := by rw [hw5]; simp; omega
  have L5 : w5.heap[w.heap.size + 3]? = some (.loop r) := by
    rw [hw5]
    have := World.alloc_heap_new (w2.alloc (.deferred (some []))) (.loop r)
    rw [World.size_alloc, hz2] at this
    exact this
  have D5 : w5.heap[w.heap.size + 2]? = some (.deferred (some [])) := by
    rw [hw5]
    have := World.alloc_heap_new w2 (.deferred (some []))
    rw [hz2] at this
    exact (Below.heap_alloc _ _ _ (by simp; omega)).trans this
  have hRl := hr.lt
  have B5 : Row w5 w.heap.size 59 [.pointer (some ⟨R, 0, none⟩)] := B2.below hb5 (by omega)
  have r5 : Row w5 R 61 (rd0 0) := (hr.below b2 hRl).below hb5 (by omega)
  have E5 : w5.cell? ⟨w.heap.size + 1, 0, none⟩ = some (.string (strOf T)) := (hb5.cell (by show w.heap.size + 1 < w2.heap.size; omega)).trans E2
  have hbx : BX w.heap.size R w w5 := .of (b2.trans (hb5.mono (by omega)))
  rw [← hw5, hz2]
  clear hw5
  have h0 : JD (w.heap.size + 4) R ls w5 0 w5 := ⟨.refl _, .inl ⟨rfl, r5, by omega⟩⟩
  have := lines1_any (w.heap.size + 3) (w.heap.size + 1) T hT w5 (JD (w.heap.size + 4) R ls w5) (PD w.heap.size R (w.heap.size + 2) T w) ?_ E5 h0
  · rw [hls] at this
    refine this.mono ?_
    rintro e W' (⟨h1, h2, h3⟩ | h)
    · refine .inl ⟨h1, h3, ?_, (h2.block _ (by omega) (by omega)).trans L5, (h2.block _ (by omega) (by omega)).trans D5, (h2.block _ (by omega) (by omega)).trans B5⟩
      exact ⟨h2.os.trans hbx.os, h2.tape.trans hbx.tape, h2.output.trans hbx.output, Nat.le_trans hbx.size h2.size, fun k hk hn => (h2.block k (by omega) hn).trans (hbx.block k hk hn)⟩
    · exact .inr h
  rw [hls]
  intro i L W hi hj
  have LW : W.heap[w.heap.size + 3]? = some (.loop r) := (hj.1.block _ (by omega) (by omega)).trans L5
  have hy : (Instr.yield (w.heap.size + 3) #[.string (strOf L)]).run Tryd.prog W = .ok (.round (w.heap.size + 3) r.fn #[v0, v1, .pointer (some ⟨w.heap.size, 0, none⟩), v3, v4, v5, v6, .string (strOf L), v8, v9, v10, v11, v12, v13, v14, v15, v16, v17, v18, v19, v20, v21, v22, v23, v24, v25, v26] r.assign r.body) W := by
    simpa [hpar, htm] using run_yield (P := Tryd.prog) (args := #[.string (strOf L)]) LW (by rw [hpar]; rfl)
  exact ⟨_, _, _, _, hy, fun m => dround m w w5 w.heap.size (w.heap.size + 4) R w.heap.size (w.heap.size + 2) (w.heap.size + 3) r T ls hls hT hst hpd hfn L5 D5 B5 (by omega) (by omega) (by omega) (by omega) (by omega) (by omega) (by omega) (by omega) (by omega) (by omega) hbx i L W hi hj _ _ _ _ _ _ _ _ _ _ _ _ _ _ _ _ _ _ _ _ _ _ _ _ _ _ _ hc⟩
set_option maxHeartbeats 4000000 in
theorem read_any (R : Nat) (T : List By) (hT : T.length ≤ 140737488355328) (w : World) (hr : Row w R 61 (rd0 0)) :
    Calls Tryd.prog 28 #[.pointer (some ⟨R, 0, none⟩), .string (strOf T)] w (RdP R T w) := by
  obtain ⟨ls, hls⟩ : ∃ ls, splitL T = ls := ⟨_, rfl⟩
  have hRl := hr.lt
  refine calls_loop Tryd.func28 rfl ?_
  simp only [Tryd.ntmps28, List.size_toArray, List.length_cons, List.length_nil, Nat.reduceAdd, Nat.reduceSub, Array.replicate_succ, Array.replicate_zero, List.push_toArray, List.append_toArray, List.nil_append, List.cons_append]
  obtain ⟨ST, hST⟩ : ∃ ST, strOf T = ST := ⟨_, rfl⟩
  rw [hST]
  have HST : Hid (strOf T = ST) := hST
  clear hST
  have HLN : Hid (∀ W : World, Calls Tryd.prog 43 #[.string ST] W fun e w' => e = .returned (.func (.func 56) #[] #[.pointer (some ⟨W.heap.size, 0, none⟩)]) ∧ w' = W.alloc (.cells #[.string ST] 9)) := fun W => lines_any ST W
  go_wp2_with (refine (HLN.out _).mono ?_; rintro e w2 ⟨rfl, hw2⟩; have HW2 : Hid (w2 = (w.alloc (.cells #[.pointer (some ⟨R, 0, none⟩)] 59)).alloc (.cells #[.string ST] 9)) := hw2; clear hw2)
  have hw2 := HW2.out
  have hz2 : w2.heap.size = w.heap.size + 2 := by rw [hw2]; simp
  have B2 : Row w2 w.heap.size 59 [.pointer (some ⟨R, 0, none⟩)] := by rw [hw2]; exact (Row.at w _ _ _ _ rfl rfl).alloc _
  have E2 : w2.cell? ⟨w.heap.size + 1, 0, none⟩ = some (.string (strOf T)) := by
    rw [hw2, HST.out]
    exact (Row.at (w.alloc _) 9 [.string ST] _ _ (by simp) rfl : Row _ (w.heap.size + 1) 9 [.string ST]).cell 0 _ rfl
  have b2 : Below w.heap.size w w2 := by rw [hw2]; exact ((Below.refl _ _).alloc (Nat.le_refl _) _).alloc (by simp) _
  clear hw2 HLN HW2
  refine ⟨w2.heap.size + 1, _, _, _, _, _, _, _, run_enterLoop_outer _ _ _ _ _, rfl, rfl, ?_⟩
  conv =>
    arg 3
    simp [rangeCall, go_sem]
  refine (read_call R T ls hls hT w w2 hr hz2 B2 E2 b2 _ rfl rfl ⟨_, Tryd.func28⟩ rfl _ _ _ _ _ _ _ _ _ _ _ _ _ _ _ _ _ _ _ _ _ _ _ _ _ _ rfl rfl).mono ?_
  rintro e W6 (⟨⟨v, rfl⟩, hp, hb, hL6, hD6, hB6⟩ | ⟨⟨k, rfl⟩, k', ln, he, hk, hln, hb, hD6⟩)
  · obtain ⟨W7, e7, s7⟩ : ∃ W7, (Instr.endLoop (w2.heap.size + 1)).run Tryd.prog W6 = .ok none W7 ∧ SameBut (w.heap.size + 3) W6 W7 := by
      rw [hz2]
      exact ⟨_, run_endLoop hL6 (by simp), putObj_same _ _ _⟩
    refine ⟨W7, e7, ?_⟩
    have hp7 : Pro (w.heap.size + 4) R ls ls.length W7 := hp.off s7 (by omega) (by omega)
    have hb7 : BX w.heap.size R w W7 := hb.but s7 (.inr (by omega))
    have D7 : W7.heap[w.heap.size + 2]? = some (.deferred (some [])) := (s7.block _ (by omega)).trans hD6
    have B7 : Row W7 w.heap.size 59 [.pointer (some ⟨R, 0, none⟩)] := hB6.but s7 (by omega)
    have HES : Hid (Calls Tryd.prog 45 #[.pointer (some ⟨R, 0, none⟩)] (W7.setCell ⟨R, 0, none⟩ (.int .i64 ((ls.length : Int) + 1))) fun e W' => BX (w.heap.size + 4) R W7 W' ∧
      ((e = .returned (.tuple #[]) ∧ ∃ c t ln pg cl pB eB bB ps, codeP T = .ok (c, t) ∧ RdM (w.heap.size + 4) R ln c t pB eB bB ps pg cl W' ∧ Smol t) ∨ (∃ k ln, e = pan k ∧ codeP T = .error (k, ln) ∧ LnAt R ln W'))) := end_step (w.heap.size + 4) R T ls W7 hls hp7
    obtain ⟨cR, fR, hsz7⟩ := hp7.ln
    have fR0 := fR 0
    have cB := B7.cell 0 _ rfl
    have cB2 : (W7.setCell ⟨R, 0, none⟩ (.int .i64 ((ls.length : Int) + 1))).cell? ⟨w.heap.size, 0, none⟩ = some (.pointer (some ⟨R, 0, none⟩)) := (B7.but (SameBut.setCell _ _ _ _) (by omega)).cell 0 _ rfl
    have hmany : ls.length ≤ T.length := by rw [← hls]; exact splitF_many _ _
    have wk : IntKind.i64.wrap ((ls.length : Int) + 1) = (ls.length : Int) + 1 := i64_in _ (by omega) (by omega)
    have hne : ¬ w.heap.size = R := by omega
    have HB7 : Hid (BX w.heap.size R w W7) := hb7
    have HD7 : Hid (W7.heap[w.heap.size + 2]? = some (.deferred (some []))) := D7
    have HZ2 : Hid (w2.heap.size = w.heap.size + 2) := hz2
    have HRl : Hid (R < w.heap.size) := hRl
    clear hp hb hL6 hD6 hB6 e7 s7 hp7 hb7 D7 B7 hr hz2 B2 E2 b2 fR hmany HST
    generalize hn : ls.length = NL at *
    clear hn
    dsimp only
    go_wp2_with fail
    refine HES.out.mono ?_
    clear HES
    rintro e W8 ⟨hb8, h8⟩
    have D8 : W8.heap[w.heap.size + 2]? = some (.deferred (some [])) := (hb8.block _ (by omega) (by have := HRl.out; omega)).trans HD7.out
    have b8 : BX w.heap.size R w W8 := ⟨hb8.os.trans HB7.out.os, hb8.tape.trans HB7.out.tape, hb8.output.trans HB7.out.output, Nat.le_trans HB7.out.size hb8.size, fun k hk hn => (hb8.block k (by omega) hn).trans (HB7.out.block k hk hn)⟩
    have s9 := putObj_same W8 (w.heap.size + 2) (.deferred none)
    have b9 : BX w.heap.size R w (W8.putObj (w.heap.size + 2) (.deferred none)) := b8.but s9 (.inr (by omega))
    rcases h8 with ⟨rfl, c, t, ln, pg, cl, pB, eB, bB, ps, hk, hM, hsm⟩ | ⟨k, ln, rfl, hk, hln⟩
    · dsimp only
      go_wp2
      refine ⟨by simp, .inl ⟨w.heap.size + 2, _, by rw [HZ2.out], run_takeDeferred D8, ?_⟩⟩
      refine ⟨.tuple #[], by simp [results, Tryd.results28], b9, .inl ⟨rfl, c, t, w.heap.size + 4, ln, pg, cl, pB, eB, bB, ps, hk, by omega, hM.off s9 (by omega) (by have := HRl.out; omega), hsm⟩⟩
    · refine ⟨by simp, .inl ⟨w.heap.size + 2, _, by rw [HZ2.out], run_takeDeferred D8, ?_⟩⟩
      refine ⟨b9, .inr ⟨k, ln, rfl, hk, ?_⟩⟩
      unfold LnAt at hln ⊢
      rw [← hln]
      exact cell_same (s9.block R (by have := HRl.out; omega))
  · obtain rfl : k = k' := by injection he with he; injection he with he; injection he with he; injection he with _ he; injection he
    have s9 := putObj_same W6 (w.heap.size + 2) (.deferred none)
    refine ⟨by simp, .inl ⟨w.heap.size + 2, _, by rw [hz2], run_takeDeferred hD6, ?_⟩⟩
    refine ⟨hb.but s9 (.inr (by omega)), .inr ⟨k, ln, rfl, hk, ?_⟩⟩
    unfold LnAt at hln ⊢
    rw [← hln]
    exact cell_same (s9.block R (by omega))
end Go.Proofs.YtgpnbiaghokjkaaDoor

/-! Layer 21, the landed code: what Parse catches. -/
namespace Go.Proofs.YtgpnbiaghokjkaaDoor
open Go.RowKit
set_option linter.unusedVariables false
set_option linter.unusedSimpArgs false
set_option maxRecDepth 100000

theorem if_nil (w : World) : (binOp BinOp.eql 20 .nilIface .nilIface).run Tryd.prog w = .ok (.bool true) w := by kernel_rfl
theorem if_k (k : Int) (w : World) : (binOp BinOp.eql 20 (.iface 30 (.int .i64 k)) .nilIface).run Tryd.prog w = .ok (.bool false) w := by kernel_rfl
theorem if_11 (w : World) : (binOp BinOp.eql 20 (.iface 30 (.int .i64 1)) (.iface 30 (.int .i64 1))).run Tryd.prog w = .ok (.bool true) w := by kernel_rfl
theorem if_51 (w : World) : (binOp BinOp.eql 20 (.iface 30 (.int .i64 5)) (.iface 30 (.int .i64 1))).run Tryd.prog w = .ok (.bool false) w := by kernel_rfl
theorem if_55 (w : World) : (binOp BinOp.eql 20 (.iface 30 (.int .i64 5)) (.iface 30 (.int .i64 5))).run Tryd.prog w = .ok (.bool true) w := by kernel_rfl
/-- Nothing to catch. -/
theorem catch_idle (a b c : Addr) (w : World) :
    CallsD Tryd.prog 27 #[.pointer (some a), .pointer (some b), .pointer (some c)] .returning w fun e u' w' => e = .returned (.tuple #[]) ∧ u' = .returning ∧ w' = w := by
  have q0 := if_nil
  refine callsD_of_wpS Tryd.func27 rfl fun c₀ cs hu => ?_
  apply wpS_seq
  apply wpS_region
  simp [wpOpsS, go_sem, recoverD, hu, Tryd.ntmps27, Exit.thenS]
  refine wpS_of_wp ?_
  rw [show (#[.pointer (some a), .pointer (some b), .pointer (some c)] ++ ((Array.replicate 20 undef).setIfInBounds 1 (.nilIface)).setIfInBounds 0 (.nilIface) : Array Value) = #[.pointer (some a), .pointer (some b), .pointer (some c), .nilIface, .nilIface, undef, undef, undef, undef, undef, undef, undef, undef, undef, undef, undef, undef, undef, undef, undef, undef, undef, undef] from by kernel_rfl]
  go_wp2
  cases c₀
  simp_all [bodyPostS, results, Tryd.results27]
set_option maxHeartbeats 1000000 in
/-- The number 1 is caught: the error, and the reader's line. -/
theorem catch_1 (A B C R : Nat) (ln : Nat) (e0 : Value) (a0 : Value) (older : List PanicEntry) (w : World) (ha : w.cell? ⟨A, 0, none⟩ = some (.pointer (some ⟨R, 0, none⟩))) (hl : LnAt R ln w) (hB : Row w B 30 [e0]) (hC : Row w C 3 [a0]) (hBC : B ≠ C) :
    CallsD Tryd.prog 27 #[.pointer (some ⟨A, 0, none⟩), .pointer (some ⟨B, 0, none⟩), .pointer (some ⟨C, 0, none⟩)] (.panicking ({ v := .iface 30 (.int .i64 1), recovered := false } :: older)) w fun e u' w' =>
      e = .returned (.tuple #[]) ∧ u' = .panicking ({ v := .iface 30 (.int .i64 1), recovered := true } :: older) ∧ w' = (w.setCell ⟨B, 0, none⟩ (.int .i64 1)).setCell ⟨C, 0, none⟩ (.int .i64 (ln : Int)) := by
  have q0 := if_k 1
  have q1 := if_11
  have q2 := if_51
  have q3 := if_55
  unfold LnAt at hl
  have cB := hB.cell 0 _ rfl
  have fB := hB.frozen 0
  have cC := hC.cell 0 _ rfl
  have fC := hC.frozen 0
  have cC2 : (w.setCell ⟨B, 0, none⟩ (.int .i64 1)).cell? ⟨C, 0, none⟩ = some a0 := (hC.but (SameBut.setCell _ _ _ _) (Ne.symm hBC)).cell 0 _ rfl
  have fC2 : (w.setCell ⟨B, 0, none⟩ (.int .i64 1)).frozen? ⟨C, 0, none⟩ = false := (hC.but (SameBut.setCell _ _ _ _) (Ne.symm hBC)).frozen 0
  clear hB hC
  obtain ⟨a, hA⟩ : ∃ a : Addr, a = ⟨A, 0, none⟩ := ⟨_, rfl⟩
  obtain ⟨b, hB⟩ : ∃ a : Addr, a = ⟨B, 0, none⟩ := ⟨_, rfl⟩
  obtain ⟨c, hC⟩ : ∃ a : Addr, a = ⟨C, 0, none⟩ := ⟨_, rfl⟩
  rw [← hA] at ha ⊢
  rw [← hB] at cB fB cC2 fC2 ⊢
  rw [← hC] at cC fC cC2 fC2 ⊢
  clear hA hB hC
  refine callsD_of_wpS Tryd.func27 rfl fun c₀ cs hu => ?_
  apply wpS_seq
  apply wpS_region
  simp [wpOpsS, go_sem, recoverD, hu, Tryd.ntmps27, Exit.thenS]
  refine wpS_of_wp ?_
  rw [show (#[.pointer (some a), .pointer (some b), .pointer (some c)] ++ ((Array.replicate 20 undef).setIfInBounds 1 (.iface 30 (.int .i64 1))).setIfInBounds 0 (.iface 30 (.int .i64 1)) : Array Value) = #[.pointer (some a), .pointer (some b), .pointer (some c), .iface 30 (.int .i64 1), .iface 30 (.int .i64 1), undef, undef, undef, undef, undef, undef, undef, undef, undef, undef, undef, undef, undef, undef, undef, undef, undef, undef] from by kernel_rfl]
  go_wp2
  cases c₀
  simp_all [bodyPostS, results, Tryd.results27]
set_option maxHeartbeats 1000000 in
/-- The number 5 is caught: the error, and the reader's line. -/
theorem catch_5 (A B C R : Nat) (ln : Nat) (e0 : Value) (a0 : Value) (older : List PanicEntry) (w : World) (ha : w.cell? ⟨A, 0, none⟩ = some (.pointer (some ⟨R, 0, none⟩))) (hl : LnAt R ln w) (hB : Row w B 30 [e0]) (hC : Row w C 3 [a0]) (hBC : B ≠ C) :
    CallsD Tryd.prog 27 #[.pointer (some ⟨A, 0, none⟩), .pointer (some ⟨B, 0, none⟩), .pointer (some ⟨C, 0, none⟩)] (.panicking ({ v := .iface 30 (.int .i64 5), recovered := false } :: older)) w fun e u' w' =>
      e = .returned (.tuple #[]) ∧ u' = .panicking ({ v := .iface 30 (.int .i64 5), recovered := true } :: older) ∧ w' = (w.setCell ⟨B, 0, none⟩ (.int .i64 5)).setCell ⟨C, 0, none⟩ (.int .i64 (ln : Int)) := by
  have q0 := if_k 5
  have q1 := if_11
  have q2 := if_51
  have q3 := if_55
  unfold LnAt at hl
  have cB := hB.cell 0 _ rfl
  have fB := hB.frozen 0
  have cC := hC.cell 0 _ rfl
  have fC := hC.frozen 0
  have cC2 : (w.setCell ⟨B, 0, none⟩ (.int .i64 5)).cell? ⟨C, 0, none⟩ = some a0 := (hC.but (SameBut.setCell _ _ _ _) (Ne.symm hBC)).cell 0 _ rfl
  have fC2 : (w.setCell ⟨B, 0, none⟩ (.int .i64 5)).frozen? ⟨C, 0, none⟩ = false := (hC.but (SameBut.setCell _ _ _ _) (Ne.symm hBC)).frozen 0
  clear hB hC
  obtain ⟨a, hA⟩ : ∃ a : Addr, a = ⟨A, 0, none⟩ := ⟨_, rfl⟩
  obtain ⟨b, hB⟩ : ∃ a : Addr, a = ⟨B, 0, none⟩ := ⟨_, rfl⟩
  obtain ⟨c, hC⟩ : ∃ a : Addr, a = ⟨C, 0, none⟩ := ⟨_, rfl⟩
  rw [← hA] at ha ⊢
  rw [← hB] at cB fB cC2 fC2 ⊢
  rw [← hC] at cC fC cC2 fC2 ⊢
  clear hA hB hC
  refine callsD_of_wpS Tryd.func27 rfl fun c₀ cs hu => ?_
  apply wpS_seq
  apply wpS_region
  simp [wpOpsS, go_sem, recoverD, hu, Tryd.ntmps27, Exit.thenS]
  refine wpS_of_wp ?_
  rw [show (#[.pointer (some a), .pointer (some b), .pointer (some c)] ++ ((Array.replicate 20 undef).setIfInBounds 1 (.iface 30 (.int .i64 5))).setIfInBounds 0 (.iface 30 (.int .i64 5)) : Array Value) = #[.pointer (some a), .pointer (some b), .pointer (some c), .iface 30 (.int .i64 5), .iface 30 (.int .i64 5), undef, undef, undef, undef, undef, undef, undef, undef, undef, undef, undef, undef, undef, undef, undef, undef, undef, undef] from by kernel_rfl]
  go_wp2
  cases c₀
  simp_all [bodyPostS, results, Tryd.results27]
end Go.Proofs.YtgpnbiaghokjkaaDoor
