import Derived.Test.YthjndaeibbfgaaaL4GameA
import Derived.Test.YthjndaeibbfgaaaL4Lays
/-! A script that came in. -/
namespace Go.Proofs.Ythjndaeibbfgaaa
open Go.RowKit
section
variable {H : Type} {enc : TypeId × Value → H} {W : World} {n : Nat} {cs : List Value} {x : DataW H × List MemPlace}

theorem open_steps (h : DataW.trod enc Try.prog W 0 (fun _ => true) true n 24 cs = some x) (hsz : ∀ k ∈ x.1.weights Try.prog 24, k ≤ reachBytes) :
    ∃ (a : Option Addr) (len cap : Nat), cs = [.slice a len cap] ∧ len ≤ 1152921504606846976 ∧ ∀ j, j < len → ∃ SB off o, a = some ⟨SB, off, none⟩ ∧ SB < W.heap.size ∧ SIOk W W.heap.size SB off j o := by
  rcases Deep.open_slice Try.underlying24 h with ⟨rfl, rfl⟩ | ⟨a, len, cap, m, n', D, Pl, rfl, hb, hl, hm, hmm, rfl, hel⟩
  · exact ⟨none, 0, 0, rfl, by simp, by simp⟩
  · rw [show Try.prog.cellsOf 52 = 36 by kernel_rfl] at hel
    simp at hmm
    subst hmm
    simp only [DataW.weights, Try.underlying24] at hsz
    have hlen : len ≤ 1152921504606846976 := by
      have h1 := hsz _ (List.mem_cons_self ..)
      rw [show Try.prog.bytesOf 52 = 80 by kernel_rfl] at h1
      simp only [List.length_map, List.length_range, reachBytes] at h1
      omega
    refine ⟨some a, len, m, rfl, hlen, fun j hj => ?_⟩
    obtain ⟨b, off, spot⟩ := a
    obtain ⟨cs', h1, h2⟩ := hel j (by omega)
    obtain ⟨_, hl3, hc⟩ := World.cells?_some h1
    obtain ⟨k, ka, kb, xs, mo, mc, mm, e, hx, ib, hn, hmc, hml, ha⟩ := open_step h2 (fun k hk => hsz k (by
      refine List.mem_cons_of_mem _ (List.mem_append.2 (.inl (weights_all (d := D j) ?_ hk)))
      exact List.mem_map.2 ⟨j, List.mem_range.2 hj, rfl⟩))
    subst e
    have hspot : spot = none := by
      obtain ⟨cs0, k1, _⟩ := hel 0 (by omega)
      obtain ⟨_, hl0, hc0⟩ := World.cells?_some k1
      have h2 := hc0 0 (by omega)
      rw [List.getElem?_eq_getElem (by omega)] at h2
      simpa [Addr.add] using World.cell?_spot h2
    subst hspot
    have hrg : W.rangeAt b (off + j * 36) (stepVals k ka kb xs mo mm.length mc) := fun i v hv => by
      have hil := (List.getElem?_eq_some_iff.1 hv).1
      have h3 := hc i (by omega)
      rw [add_add, hv] at h3
      rw [← h3, Nat.add_assoc]
    have hb0 : b < W.heap.size := World.block_lt_of_cell? _ _ (hrg 0 _ rfl)
    refine ⟨b, off, ⟨k, ka, kb, xs, mo, mc, mm⟩, rfl, hb0, ⟨hrg, hx, ib, hn, hmc, by simp only [reachBytes] at hml; omega, ha, ?_⟩⟩
    rcases ib with h0 | ⟨B, off', h4, h5⟩
    · exact .inl h0
    · by_cases he : mm = []
      · exact .inl he
      · refine .inr fun B2 off2 h6 => ?_
        have h7 : mo = some ⟨B2, off2, none⟩ := h6
        rw [h4] at h7
        injection h7 with h7
        injection h7 with g1 g2
        subst g1 g2
        cases mm with
        | nil => exact absurd rfl he
        | cons v r => exact World.block_lt_of_cell? _ _ (h5 0 v rfl)
end
end Go.Proofs.Ythjndaeibbfgaaa

/-! ChipLays: a chip laid over a state does what the document's does, and nothing of the state is shared. -/
namespace Go.Proofs.Ythjndaeibbfgaaa.chipLays
open Go.ChangeShapes Go.WideShapes Go.ChangeAt Go.RowKit
set_option linter.unusedVariables false

theorem own : ownKnob Try.prog.godebug = none := by kernel_rfl
theorem laidOut : laidOutB Try.prog = true := by kernel_rfl

set_option maxRecDepth 100000 in
theorem lifted (os : Os) (started : os.Started) (H : Type) (enc : TypeId × Value → H) :
    ReturnsInHanded {} Try.checked os 4 .any (Rows.chipLaysSpec.pre6 enc Try.prog Try.f4 Rows.chipLaysRow.domain false) (Rows.chipLaysSpec.post enc Try.prog Try.f4 false true false false) := by
  refine returnsInHanded_of_change_sized (C := Try.checked) own started (by kernel_rfl) Try.func4
    (ChangeSpec.witness6 (enc := enc) (C := Try.checked) false ⟨#[], #[.agg #[.int .i64 0, .int .i64 0, .int .i64 0, .int .i64 0, .int .i64 0, .int .i64 0, .int .i64 0], .agg #[.slice none 0 0, .slice none 0 0, .slice none 0 0], .slice none 0 0], []⟩ 8 (by kernel_rfl) (by kernel_rfl) (by kernel_rfl) (by kernel_rfl)) ?_
  intro W base args ds gs before hval0 hW hcnd hsz0 _
  have hsz : (DataW.weightsEach Try.prog (Try.f4.params.toList ++ Rows.chipLaysSpec.plain.varTypes Try.prog) (ds ++ gs)).all (· ≤ reachBytes) = true := hsz0
  clear hsz0
  have hval : ∀ (j : Nat) t v, Try.f4.params[j]? = some t → args[j]? = some v → Value.okWide Try.prog W .any base t v := hval0
  have hW' := hW
  obtain ⟨p, q, hA0, hV, rfl, hfz, hnd⟩ := hW
  have hA : DataW.TrodAll enc Try.prog W 0 (fun _ => true) true Try.f4.params.toList args.toList ds p := hA0
  rw [Try.params4] at hA hval hsz
  obtain ⟨v0, vs0, d0, ds0, p0, q0, hargs, rfl, rfl, h0, r0⟩ := trodAll_cons hA
  obtain ⟨v1, vs1, d1, ds1, p1, q1, rfl, rfl, rfl, h1, r1⟩ := trodAll_cons r0
  obtain ⟨v2, vs2, d2, ds2, p2, q2, rfl, rfl, rfl, h2, r2⟩ := trodAll_cons r1
  obtain ⟨rfl, rfl, rfl⟩ := trodAll_nil r2
  obtain rfl : args = #[v0, v1, v2] := by cases args; simp_all
  obtain ⟨rfl, rfl⟩ := trodVars_none hV
  obtain ⟨c0, rfl, _⟩ := okWide_struct Try.underlying23 (hval 0 23 v0 rfl rfl)
  obtain ⟨c1, rfl, _⟩ := okWide_struct Try.underlying40 (hval 1 40 v1 rfl rfl)
  obtain ⟨a1, len1, cap1, rfl⟩ := okWide_slice Try.underlying24 (hval 2 24 v2 rfl rfl)
  have k0 := h0
  have k1 := h1
  have k2 := h2
  have lt0 : ∀ x ∈ p0, x.block < W.heap.size := by obtain ⟨m, hm⟩ := k0; exact DataW.trod_lt m _ _ _ hm
  have lt1 : ∀ x ∈ p1, x.block < W.heap.size := by obtain ⟨m, hm⟩ := k1; exact DataW.trod_lt m _ _ _ hm
  have lt2 : ∀ x ∈ p2, x.block < W.heap.size := by obtain ⟨m, hm⟩ := k2; exact DataW.trod_lt m _ _ _ hm
  obtain ⟨f0, hf0⟩ := h0
  obtain ⟨f1, hf1⟩ := h1
  obtain ⟨f2, hf2⟩ := h2
  obtain ⟨c, hc⟩ := open_cfg hf0
  obtain ⟨v, t, hv, hin⟩ := open_state hf1 (fun k hk => by
    have := List.all_eq_true.1 hsz _ (DataW.weights_mem_each (j := 1) (t := 40) (d := d1) rfl rfl k hk)
    simpa using this)
  obtain ⟨so, n, cap, hs, hn, hso⟩ := open_steps hf2 (fun k hk => by
    have := List.all_eq_true.1 hsz _ (DataW.weights_mem_each (j := 2) (t := 24) (d := d2) rfl rfl k hk)
    simpa using this)
  have e0 : (Value.agg c0).cells.toList = c0.toList := by simp [Value.cells]
  have e1 : (Value.agg c1).cells.toList = c1.toList := by simp [Value.cells]
  rw [e0] at hc
  rw [e1] at hv
  simp [Value.cells] at hs
  obtain ⟨rfl, rfl, rfl⟩ := hs
  obtain rfl : c0 = c.vals.toArray := by rw [← hc]
  obtain rfl : c1 = (v.vals t).toArray := by rw [← hv]
  clear hA0 hval0
  refine (lays_any c v t W hin a1 len1 cap1 hn hso).mono fun e W' ⟨he, bel⟩ => ?_
  subst he
  exact ⟨_, rfl, _, _, _, [], _, [], hW', trodAll_mk1 (shut_bool Try.underlying4 _), (trodAll_cons_mk (Below.trod laidOut (by kernel_rfl) (of_decide_eq_true (by kernel_rfl)) k0 bel lt0) (trodAll_cons_mk (Below.trod laidOut (by kernel_rfl) (of_decide_eq_true (by kernel_rfl)) k1 bel lt1) (trodAll_cons_mk (Below.trod laidOut (by kernel_rfl) (of_decide_eq_true (by kernel_rfl)) k2 bel lt2) trodAll_mk0))), rfl, bel.frame _, fun h => by cases h⟩

theorem over : Rows.chipLaysRow.holds Try.pinned (OpenSpec.ofChange Rows.chipLaysSpec) :=
  OpenClaim.holds_of_wide 4 Try.f4 rfl rfl rfl rfl rfl rfl rfl ⟨rfl, rfl, rfl, rfl, rfl⟩ rfl rfl rfl rfl rfl (by kernel_rfl) Try.func4 (by kernel_rfl)
    (of_decide_eq_true (by kernel_rfl)) (by unfold Func.isWrapper; first | (rw [if_pos (by decide +kernel)]; kernel_rfl) | (rw [if_neg (by decide +kernel)]; exact ⟨rfl, rfl⟩))
    (fun os started H enc _ => lifted os started H enc)

theorem proved : Rows.ChipLaysSaid := over
end Go.Proofs.Ythjndaeibbfgaaa.chipLays

namespace Go.Proofs.Ythjndaeibbfgaaa
theorem chipLays_holds : Rows.ChipLaysSaid := chipLays.proved
#print axioms chipLays_holds
end Go.Proofs.Ythjndaeibbfgaaa
