import Derived.Test.YtikakngpbahhgaaMEqs
/-! MacEquals: any two rows of bytes; one and itself with one byte turned. -/
namespace Go.Proofs.Ytikakngpbahhgaa.macEquals
open Go.ChangeShapes Go.WideShapes Go.ChangeAt Go.RowKit
open Go.ChangeMaps (open_string shut_string)
set_option linter.unusedVariables false

theorem own : ownKnob Try.prog.godebug = none := by kernel_rfl
theorem laidOut : laidOutB Try.prog = true := by kernel_rfl

theorem trod_struct4 {H : Type} {enc : TypeId × Value → H} {w : World} {t : TypeId} {f0 f1 f2 f3 : Field} {fuel : Nat} {cs : List Value} {x : DataW H × List MemPlace} (ht : Try.prog.underlying t = some (.struct #[f0, f1, f2, f3]))
    (h : DataW.trod enc Try.prog w 0 (fun _ => true) true fuel t cs = some x) :
    ∃ y0 y1 y2 y3 n, x = (.agg [y0.1, y1.1, y2.1, y3.1], y0.2 ++ (y1.2 ++ (y2.2 ++ y3.2))) ∧ cs.length = Try.prog.cellsOf t ∧ DataW.trod enc Try.prog w 0 (fun _ => true) true n f0.type ((cs.drop f0.offset).take (Try.prog.cellsOf f0.type)) = some y0 ∧
      DataW.trod enc Try.prog w 0 (fun _ => true) true n f1.type ((cs.drop f1.offset).take (Try.prog.cellsOf f1.type)) = some y1 ∧ DataW.trod enc Try.prog w 0 (fun _ => true) true n f2.type ((cs.drop f2.offset).take (Try.prog.cellsOf f2.type)) = some y2 ∧
      DataW.trod enc Try.prog w 0 (fun _ => true) true n f3.type ((cs.drop f3.offset).take (Try.prog.cellsOf f3.type)) = some y3 := by
  obtain ⟨xs, n, _, rfl, hl, hlen, hf⟩ := DataW.trod_struct ht h
  match xs, hlen with
  | [y0, y1, y2, y3], _ => exact ⟨y0, y1, y2, y3, n, by simp, hl, by simpa using hf 0 f0 rfl, by simpa using hf 1 f1 rfl, by simpa using hf 2 f2 rfl, by simpa using hf 3 f3 rfl⟩

theorem open_two {H : Type} {enc : TypeId × Value → H} {W : World} {n : Nat} {cs : Array Value} {x : DataW H × List MemPlace}
    (h : DataW.trod enc Try.prog W 0 (fun _ => true) true n 30 (Value.agg cs).cells.toList = some x) (hsz : ∀ k ∈ x.1.weights Try.prog 30, k ≤ reachBytes) :
    ∃ a0 len0 cap0 a1 len1 cap1 pl, ∃ (y : By) (bs0 bs1 : List By), cs = #[.slice a0 len0 cap0, .slice a1 len1 cap1, .int .i64 pl, .int .u8 (y.toNat : Int)] ∧ bs0.length = len0 ∧ bs1.length = len1 ∧ IsB W a0 bs0 ∧ IsB W a1 bs1 ∧ (a0 = none → cap0 = 0) ∧ len0 ≤ 140737488351232 ∧ len1 ≤ 140737488351232 := by
  obtain ⟨y0, y1, y2, y3, n', rfl, hl4, t0, t1, t2, t3⟩ := trod_struct4 Try.underlying30 h
  have hl : cs.toList.length = 4 := hl4
  obtain ⟨l⟩ := cs
  simp only [Value.cells] at t0 t1 t2 t3 hl
  match l, hl with
  | [c0, c1, c2, c3], _ =>
    rw [show Try.prog.cellsOf 22 = 1 by kernel_rfl] at t0 t1
    rw [show Try.prog.cellsOf 3 = 1 by kernel_rfl] at t2
    rw [show Try.prog.cellsOf 5 = 1 by kernel_rfl] at t3
    simp only [List.drop_zero, List.take_succ_cons, List.take_zero, List.drop_succ_cons] at t0 t1 t2 t3
    obtain ⟨z2, e2, _, _⟩ := DataW.trod_int Try.underlying3 t2
    obtain ⟨z3, e3, _, w3⟩ := DataW.trod_int Try.underlying5 t3
    injection e2 with e2 _
    injection e3 with e3 _
    subst e2
    subst e3
    have s0 : ∃ a len cap, c0 = .slice a len cap := by
      rcases open_ints Try.underlying22 Try.underlying5 (by kernel_rfl) t0 with ⟨e, _⟩ | ⟨a, len, cap, zs, e, _⟩
      · injection e with e _; exact ⟨none, 0, 0, e⟩
      · injection e with e _; exact ⟨_, _, _, e⟩
    have s1 : ∃ a len cap, c1 = .slice a len cap := by
      rcases open_ints Try.underlying22 Try.underlying5 (by kernel_rfl) t1 with ⟨e, _⟩ | ⟨a, len, cap, zs, e, _⟩
      · injection e with e _; exact ⟨none, 0, 0, e⟩
      · injection e with e _; exact ⟨_, _, _, e⟩
    obtain ⟨a0, len0, cap0, rfl⟩ := s0
    obtain ⟨a1, len1, cap1, rfl⟩ := s1
    obtain ⟨bs0, hl0, ib0, hn0, hc0, hm0⟩ := open_bytes t0 (fun k hk => hsz k (by
      simp only [DataW.weights, Try.underlying30]
      exact DataW.weights_mem_each (j := 0) (t := 22) (d := y0.1) rfl rfl _ hk))
    obtain ⟨bs1, hl1, ib1, hn1, hc1, hm1⟩ := open_bytes t1 (fun k hk => hsz k (by
      simp only [DataW.weights, Try.underlying30]
      exact DataW.weights_mem_each (j := 1) (t := 22) (d := y1.1) rfl rfl _ hk))
    refine ⟨a0, len0, cap0, a1, len1, cap1, z2, BitVec.ofNat 8 z3.toNat, bs0, bs1, ?_, hl0, hl1, ib0, ib1, hn0, hm0, hm1⟩
    have h4 := bounds_u8 w3
    have : ((BitVec.ofNat 8 z3.toNat).toNat : Int) = z3 := by
      rw [BitVec.toNat_ofNat]; omega
    rw [this]

set_option maxRecDepth 100000 in
theorem lifted (os : Os) (started : os.Started) (H : Type) (enc : TypeId × Value → H) :
    ReturnsInHanded {} Try.checked os 4 .any (Rows.macEqualsSpec.pre6 enc Try.prog Try.f4 Rows.macEqualsRow.domain false) (Rows.macEqualsSpec.post enc Try.prog Try.f4 false true false false) := by
  refine returnsInHanded_of_change_sized (C := Try.checked) own started (by kernel_rfl) Try.func4
    (ChangeSpec.witness6 (enc := enc) (C := Try.checked) false ⟨#[], #[.agg #[.slice none 0 0, .slice none 0 0, .int .i64 0, .int .u8 0]], []⟩ 8 (by kernel_rfl) (by kernel_rfl) (by kernel_rfl) (by kernel_rfl)) ?_
  intro W base args ds gs before hval0 hW hcnd hsz0 _
  have hsz : (DataW.weightsEach Try.prog (Try.f4.params.toList ++ Rows.macEqualsSpec.plain.varTypes Try.prog) (ds ++ gs)).all (· ≤ reachBytes) = true := hsz0
  clear hsz0
  have hval : ∀ (j : Nat) t v, Try.f4.params[j]? = some t → args[j]? = some v → Value.okWide Try.prog W .any base t v := hval0
  have hW' := hW
  obtain ⟨p, q, hA0, hV, rfl, hfz, hnd⟩ := hW
  have hA : DataW.TrodAll enc Try.prog W 0 (fun _ => true) true Try.f4.params.toList args.toList ds p := hA0
  rw [Try.params4] at hA hval hsz
  obtain ⟨v0, vs0, d0, ds0, p0, q0, hargs, rfl, rfl, h0, r0⟩ := trodAll_cons hA
  obtain ⟨rfl, rfl, rfl⟩ := trodAll_nil r0
  obtain rfl : args = #[v0] := by cases args; simp_all
  obtain ⟨rfl, rfl⟩ := trodVars_none hV
  obtain ⟨cs, rfl, hcsz⟩ := okWide_struct Try.underlying30 (hval 0 30 v0 rfl rfl)
  have k0 := h0
  have lt0 : ∀ x ∈ p0, x.block < W.heap.size := by obtain ⟨m, hm⟩ := k0; exact DataW.trod_lt m _ _ _ hm
  obtain ⟨f0, hf0⟩ := h0
  obtain ⟨a0, len0, cap0, a1, len1, cap1, pl, x, bs0, bs1, hcs, hl0, hl1, ib0, ib1, hn0, hm0, hm1⟩ := open_two hf0 (fun k hk => by
    have := List.all_eq_true.1 hsz _ (DataW.weights_mem_each (j := 0) (t := 30) (d := d0) rfl rfl k hk)
    simpa using this)
  subst hcs
  clear hA0 hval0
  refine (equals_any a0 a1 len0 cap0 len1 cap1 bs0 bs1 pl x hl0 hl1 W ib0 ib1 hn0 hm0 hm1).mono fun e W' ⟨he, bel⟩ => ?_
  subst he
  exact ⟨_, rfl, _, _, _, [], _, [], hW', trodAll_mk1 (shut_bool Try.underlying4 _), (trodAll_cons_mk (Below.trod laidOut (by kernel_rfl) (of_decide_eq_true (by kernel_rfl)) k0 bel lt0) trodAll_mk0), rfl, bel.frame _, fun h => by cases h⟩

theorem over : Rows.macEqualsRow.holds Try.pinned (OpenSpec.ofChange Rows.macEqualsSpec) :=
  OpenClaim.holds_of_wide 4 Try.f4 rfl rfl rfl rfl rfl rfl rfl ⟨rfl, rfl, rfl, rfl, rfl⟩ rfl rfl rfl rfl rfl (by kernel_rfl) Try.func4 (by kernel_rfl)
    (of_decide_eq_true (by kernel_rfl)) (by unfold Func.isWrapper; first | (rw [if_pos (by decide +kernel)]; kernel_rfl) | (rw [if_neg (by decide +kernel)]; exact ⟨rfl, rfl⟩))
    (fun os started H enc _ => lifted os started H enc)

theorem proved : Rows.MacEqualsSaid := over
end Go.Proofs.Ytikakngpbahhgaa.macEquals

namespace Go.Proofs.Ytikakngpbahhgaa
theorem macEquals_holds : Rows.MacEqualsSaid := macEquals.proved
#print axioms macEquals_holds
end Go.Proofs.Ytikakngpbahhgaa
