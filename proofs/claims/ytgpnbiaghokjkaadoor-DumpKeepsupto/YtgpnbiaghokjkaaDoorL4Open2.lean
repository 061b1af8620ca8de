
import Derived.Test.YtgpnbiaghokjkaaDoorL4Open
/-! Configs, states and steps that come in. -/
namespace Go.Proofs.YtgpnbiaghokjkaaDoor
set_option maxRecDepth 100000
open Go.ChangeShapes Go.WideShapes Go.ChangeAt Go.RowKit

section
variable {H : Type} {enc : TypeId × Value → H} {W : World} {n : Nat} {cs : List Value} {x : DataW H × List MemPlace}

theorem int_at {m i : Nat} {xs : List (DataW H × List MemPlace)} (hl : i < cs.length) (hx : i < xs.length) (h : DataW.trod enc Tryd.prog W 0 (fun _ => true) true m 3 ((cs.drop i).take (Tryd.prog.cellsOf 3)) = xs[i]?) : ∃ z, cs[i]? = some (.int .i64 z) ∧ -9223372036854775808 ≤ z ∧ z < 9223372036854775808 := by
  rw [show Tryd.prog.cellsOf 3 = 1 by kernel_rfl, List.getElem?_eq_getElem hx, List.drop_eq_getElem_cons hl] at h
  obtain ⟨z, e1, _, hw⟩ := DataW.trod_int Tryd.underlying3 h
  simp only [List.take_succ_cons, List.take_zero] at e1
  injection e1 with e1 _
  refine ⟨z, by rw [List.getElem?_eq_getElem hl, e1], ?_⟩
  simp only [Lit.wf, IntKind.min, IntKind.max, IntKind.signed, IntKind.bits, Bool.and_eq_true, decide_eq_true_eq] at hw
  simp at hw
  omega

theorem seven {v0 v1 v2 v3 v4 v5 v6 : Value} (hl : cs.length = 7) (h0 : cs[0]? = some v0) (h1 : cs[1]? = some v1) (h2 : cs[2]? = some v2) (h3 : cs[3]? = some v3) (h4 : cs[4]? = some v4) (h5 : cs[5]? = some v5) (h6 : cs[6]? = some v6) : cs = [v0, v1, v2, v3, v4, v5, v6] := by
  match cs, hl with
  | [a0, a1, a2, a3, a4, a5, a6], _ =>
    simp at h0 h1 h2 h3 h4 h5 h6
    subst h0 h1 h2 h3 h4 h5 h6; rfl

theorem open_cfg (h : DataW.trod enc Tryd.prog W 0 (fun _ => true) true n 24 cs = some x) : ∃ c : Cfg, cs = c.vals := by
  obtain ⟨xs, m, rfl, rfl, hl, hx, hf⟩ := DataW.trod_struct Tryd.underlying24 h
  have hl7 : cs.length = 7 := by rw [hl]; kernel_rfl
  have hx7 : xs.length = 7 := hx
  obtain ⟨z0, e0, _⟩ := int_at (i := 0) (by omega) (by omega) (hf 0 _ rfl)
  obtain ⟨z1, e1, _⟩ := int_at (i := 1) (by omega) (by omega) (hf 1 _ rfl)
  obtain ⟨z2, e2, _⟩ := int_at (i := 2) (by omega) (by omega) (hf 2 _ rfl)
  obtain ⟨z3, e3, _⟩ := int_at (i := 3) (by omega) (by omega) (hf 3 _ rfl)
  obtain ⟨z4, e4, _⟩ := int_at (i := 4) (by omega) (by omega) (hf 4 _ rfl)
  obtain ⟨z5, e5, _⟩ := int_at (i := 5) (by omega) (by omega) (hf 5 _ rfl)
  obtain ⟨z6, e6, _⟩ := int_at (i := 6) (by omega) (by omega) (hf 6 _ rfl)
  exact ⟨⟨z0, z1, z2, z3, z4, z5, z6⟩, seven hl7 e0 e1 e2 e3 e4 e5 e6⟩

/-- What is known of a state that came in. -/
structure StIn (W : World) (v : SV) (t : St) : Prop where
  view : StV W v t
  en : v.eo = none → v.ec = 0
  bn : v.bo = none → v.bc = 0
  pn : ∀ B off p k qc, v.po = some ⟨B, off, none⟩ → p < t.pages.length → W.cell? ⟨B, off + p, none⟩ = some (.slice none k qc) → qc = 0
  l1 : t.pages.length * 24 ≤ reachBytes
  l2 : t.erases.length * 8 ≤ reachBytes
  l3 : t.blown.length ≤ reachBytes
  lp : ∀ p ∈ t.pages, p.length * 32 ≤ reachBytes

theorem open_state (h : DataW.trod enc Tryd.prog W 0 (fun _ => true) true n 29 cs = some x) (hsz : ∀ k ∈ x.1.weights Tryd.prog 29, k ≤ reachBytes) : ∃ (v : SV) (t : St), cs = v.vals t ∧ StIn W v t := by
  obtain ⟨y0, y1, y2, m, rfl, hl, t0, t1, t2⟩ := Deep.trod_struct3 Tryd.underlying29 h
  have hl3 : cs.length = 3 := by rw [hl]; kernel_rfl
  have hw : ∀ (j : Nat) (T : TypeId) (d : DataW H), [25, 26, 27][j]? = some T → [y0.1, y1.1, y2.1][j]? = some d → ∀ k ∈ d.weights Tryd.prog T, k ≤ reachBytes := by
    intro j T d h1 h2 k hk
    refine hsz k ?_
    simp only [DataW.weights, Tryd.underlying29]
    exact DataW.weights_mem_each (j := j) (t := T) (d := d) h1 h2 k hk
  obtain ⟨po, pc, zs, e0, i0, n0, _, b0, f0⟩ := open_pages t0 (hw 0 _ _ rfl rfl)
  obtain ⟨eo, ec, es, e1, i1, n1, _, b1⟩ := open_intsL t1 (hw 1 _ _ rfl rfl)
  obtain ⟨bo, bc, bs, e2, i2, n2, _, b2⟩ := open_boolsL t2 (hw 2 _ _ rfl rfl)
  refine ⟨⟨po, pc, eo, ec, bo, bc⟩, ⟨zs.map (·.2.2), es, bs⟩, ?_, ?_⟩
  · match cs, hl3 with
    | [a0, a1, a2], _ =>
      rw [show Tryd.prog.cellsOf _ = 1 by kernel_rfl] at e0 e1 e2
      simp only [List.drop_zero, List.take_succ_cons, List.take_zero, List.drop_succ_cons] at e0 e1 e2
      injection e0 with e0 _
      injection e1 with e1 _
      injection e2 with e2 _
      subst e0 e1 e2
      simp [SV.vals]
  · have hpg : StV W ⟨po, pc, eo, ec, bo, bc⟩ ⟨zs.map (·.2.2), es, bs⟩ := by
      refine ⟨⟨zs.map (fun z => (z.1, z.2.1)), by simp, ?_, ?_⟩, i1, i2, ?_⟩
      · have : List.zipWith (fun (q : Option Addr × Nat) p => Value.slice q.1 (List.length p) q.2) (zs.map (fun z => (z.1, z.2.1))) (zs.map (·.2.2)) = zs.map fun z => .slice z.1 z.2.2.length z.2.1 := by
          rw [List.zipWith_map]
          clear i0 e0 b0 f0
          induction zs with
          | nil => rfl
          | cons z zs ih => simp
        show IsL W po (List.zipWith _ (zs.map (fun z => (z.1, z.2.1))) (zs.map (·.2.2)))
        rw [this]; exact i0
      · intro i q p hq hp
        rw [List.getElem?_map] at hq
        have hp' : (zs.map (·.2.2))[i]? = some p := hp
        rw [List.getElem?_map] at hp'
        cases hz : zs[i]? with
        | none => rw [hz] at hq; cases hq
        | some z =>
          rw [hz] at hq hp'
          injection hq with hq
          injection hp' with hp'
          subst hq hp'
          exact (f0 z (List.mem_of_getElem? hz)).2.1
      · intro p hp
        obtain ⟨z, hz, rfl⟩ := List.mem_map.1 hp
        exact (f0 z hz).1
    refine ⟨hpg, n1, n2, ?_, by simpa using b0, b1, by show bs.length ≤ _; omega, ?_⟩
    · intro B off p k qc h1 h2 h3
      have h2' : p < zs.length := by simpa using h2
      rcases i0 with h0 | ⟨B', off', h4, hc⟩
      · have : zs.length = 0 := by have := congrArg List.length h0; simpa using this
        omega
      · have h4' : po = some ⟨B', off', none⟩ := h4
        have h1' : po = some ⟨B, off, none⟩ := h1
        rw [h4'] at h1'
        injection h1' with h1'
        injection h1' with g1 g2
        subst g1 g2
        have h5 := hc p _ (by rw [List.getElem?_map, List.getElem?_eq_getElem h2']; rfl)
        rw [h5] at h3
        injection h3 with h3
        injection h3 with g1 g2 g3
        have := (f0 zs[p] (List.getElem_mem h2')).2.2.1 g1
        omega
    · intro p hp
      obtain ⟨z, hz, rfl⟩ := List.mem_map.1 hp
      exact (f0 z hz).2.2.2.2

end
end Go.Proofs.YtgpnbiaghokjkaaDoor
