import Derived.Test.YtikakngpbahhgaaMRel
/-! A script that came in, laid open. -/
namespace Go.Proofs.Ytikakngpbahhgaa
open Go.ChangeShapes Go.WideShapes Go.ChangeAt Go.RowKit

theorem list_of {α : Type} (p : Nat → α → Prop) : ∀ (n : Nat), (∀ i, i < n → ∃ x, p i x) → ∃ l : List α, l.length = n ∧ ∀ i x, l[i]? = some x → p i x
  | 0, _ => ⟨[], rfl, by simp⟩
  | n + 1, h => by
    obtain ⟨l, h1, h2⟩ := list_of p n (fun i hi => h i (by omega))
    obtain ⟨y, hy⟩ := h n (by omega)
    refine ⟨l ++ [y], by simp [h1], fun i x hx => ?_⟩
    by_cases hi : i < l.length
    · rw [List.getElem?_append_left hi] at hx
      exact h2 i x hx
    · have hl := (List.getElem?_eq_some_iff.1 hx).1
      simp at hl
      obtain rfl : i = l.length := by omega
      rw [List.getElem?_append_right (Nat.le_refl _)] at hx
      simp at hx
      subst hx
      rw [h1]; exact hy

theorem weights_all {H : Type} {P : Program} {e : TypeId} {n : Nat} {d : DataW H} : ∀ {l : List (DataW H)}, d ∈ l → n ∈ d.weights P e → n ∈ DataW.weightsAll P e l
  | [], h, _ => by cases h
  | x :: r, h, hn => by
    simp only [DataW.weightsAll, List.mem_append]
    rcases List.mem_cons.1 h with rfl | h
    · exact .inl hn
    · exact .inr (weights_all h hn)

theorem open_op {H : Type} {enc : TypeId × Value → H} {W : World} {n : Nat} {cs : List Value} {x : DataW H × List MemPlace} {b off i : Nat} (hcs : W.cells? 0 (Addr.add ⟨b, off, none⟩ (i * 3)) 3 = some cs)
    (h : DataW.trod enc Try.prog W 0 (fun _ => true) true n 35 cs = some x) (hsz : ∀ k ∈ x.1.weights Try.prog 35, k ≤ reachBytes) : ∃ o : Sc, ScOk W b off i o := by
  obtain ⟨y0, y1, y2, n', rfl, hl3, t0, t1, t2⟩ := Deep.trod_struct3 Try.underlying35 h
  obtain ⟨_, hl, hcell⟩ := World.cells?_some hcs
  match cs, hl with
  | [c0, c1, c2], _ =>
    rw [show Try.prog.cellsOf 3 = 1 by kernel_rfl] at t0 t1
    rw [show Try.prog.cellsOf 22 = 1 by kernel_rfl] at t2
    simp only [List.drop_zero, List.take_succ_cons, List.take_zero, List.drop_succ_cons] at t0 t1 t2
    obtain ⟨z0, e0, _, _⟩ := DataW.trod_int Try.underlying3 t0
    obtain ⟨z1, e1, _, _⟩ := DataW.trod_int Try.underlying3 t1
    injection e0 with e0 _
    injection e1 with e1 _
    subst e0
    subst e1
    have k0 := hcell 0 (by omega)
    have k1 := hcell 1 (by omega)
    have k2 := hcell 2 (by omega)
    rw [Addr.add_mid, Addr.add_mid] at k0 k1 k2
    rcases open_ints Try.underlying22 Try.underlying5 (by kernel_rfl) t2 with ⟨e2, _⟩ | ⟨a, len, cap, zs, e2, _, hlc, hm, hz, hx, hc, hwz⟩
    · injection e2 with e2 _
      subst e2
      exact ⟨⟨z0, z1, none, 0, []⟩, k0, k1, k2, .inl rfl, fun _ => rfl, by simp, by simp⟩
    · injection e2 with e2 _
      subst e2
      simp at hz
      obtain ⟨bs, hbl, isb⟩ := isB_row (len := len) (by omega) hc hwz
      have hw : (zs.length) * Try.prog.bytesOf 5 ≤ reachBytes := by
        refine hsz _ ?_
        simp only [DataW.weights, Try.underlying35]
        refine DataW.weights_mem_each (j := 2) (t := 22) (d := y2.1) rfl rfl _ ?_
        rw [hx]
        simp [DataW.weights, Try.underlying22, lits]
        left
        congr 1
        omega
      rw [show Try.prog.bytesOf 5 = 1 by kernel_rfl] at hw
      simp only [reachBytes] at hw
      refine ⟨⟨z0, z1, some a, cap, bs⟩, k0, k1, ?_, isb, (fun e => by cases e), by show bs.length ≤ cap; omega, by show bs.length ≤ _; omega⟩
      show _ = some (Value.slice (some a) bs.length cap)
      rw [hbl]; exact k2

theorem open_script {H : Type} {enc : TypeId × Value → H} {W : World} {fuel : Nat} {cs : List Value} {x : DataW H × List MemPlace} (h : DataW.trod enc Try.prog W 0 (fun _ => true) true fuel 33 cs = some x) (hsz : ∀ k ∈ x.1.weights Try.prog 33, k ≤ reachBytes) :
    ∃ (a : Option Addr) (b off cap : Nat) (ops : List Sc), cs = [.slice a ops.length cap] ∧ ops.length ≤ 140737488351232 ∧ (0 < ops.length → a = some ⟨b, off, none⟩) ∧ ∀ i o, ops[i]? = some o → ScOk W b off i o := by
  rcases Deep.open_slice Try.underlying33 h with ⟨rfl, rfl⟩ | ⟨a, len, cap, m, n, D, Pl, rfl, hb, hl, hm, hmm, rfl, hel⟩
  · exact ⟨none, 0, 0, 0, [], rfl, by simp, by simp, by simp⟩
  · rw [show Try.prog.cellsOf 35 = 3 by kernel_rfl] at hel
    simp at hmm
    subst hmm
    simp only [DataW.weights, Try.underlying33] at hsz
    have hlen : len ≤ 140737488351232 := by
      have h1 := hsz _ (List.mem_cons_self ..)
      rw [show Try.prog.bytesOf 35 = 40 by kernel_rfl] at h1
      simp only [List.length_map, List.length_range, reachBytes] at h1
      omega
    by_cases h0 : 0 < len
    · obtain ⟨b, off, spot⟩ := a
      have hspot : spot = none := by
        obtain ⟨cs', h1, _⟩ := hel 0 (by omega)
        obtain ⟨_, hl3, hc⟩ := World.cells?_some h1
        have h2 := hc 0 (by omega)
        rw [List.getElem?_eq_getElem (by omega)] at h2
        simpa [Addr.add] using World.cell?_spot h2
      subst hspot
      obtain ⟨ops, ho1, ho2⟩ := list_of (fun i o => ScOk W b off i o) len (fun i hi => by
        obtain ⟨cs', h1, h2⟩ := hel i (by omega)
        refine open_op h1 h2 (fun k hk => hsz k ?_)
        refine List.mem_cons_of_mem _ (List.mem_append.2 (.inl (weights_all (d := D i) ?_ hk)))
        exact List.mem_map.2 ⟨i, List.mem_range.2 hi, rfl⟩)
      subst ho1
      exact ⟨_, b, off, m, ops, rfl, hlen, fun _ => rfl, ho2⟩
    · obtain rfl : len = 0 := by omega
      exact ⟨some a, 0, 0, m, [], rfl, by simp, by simp, by simp⟩
end Go.Proofs.Ytikakngpbahhgaa
