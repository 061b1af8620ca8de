
import Derived.Test.YtjooabgjkjnhhaaGreatDoorT24Op
/-! Secrets that came in, laid open (as K12Open). -/
namespace Go.Proofs.YtjooabgjkjnhhaaGreatDoor
open Go.ChangeShapes Go.WideShapes Go.ChangeAt Go.RowKit
set_option maxRecDepth 100000

structure SecOk (W : World) (b off i : Nat) (o : Int × Value × List By) : Prop where
  key : W.cell? ⟨b, off + i * 2, none⟩ = some (.int .i64 o.1)
  sl : W.cell? ⟨b, off + i * 2 + 1, none⟩ = some o.2.1
  bytes : ∃ bo c, o.2.1 = .slice bo o.2.2.length c ∧ IsB W bo o.2.2 ∧ o.2.2.length ≤ c ∧ (bo = none → c = 0)
  big : o.2.2.length ≤ 140737488351232

section
variable {H : Type} {enc : TypeId × Value → H} {W : World} {n : Nat} {cs : List Value} {x : DataW H × List MemPlace}
theorem open_sec {b off i : Nat} (hcs : W.cells? 0 (Addr.add ⟨b, off, none⟩ (i * 2)) 2 = some cs) (h : DataW.trod enc Tryz.prog W 0 (fun _ => true) true n 57 cs = some x) (hsz : ∀ k ∈ x.1.weights Tryz.prog 57, k ≤ reachBytes) : ∃ o, SecOk W b off i o := by
  obtain ⟨y0, y1, n', rfl, hl2, t0, t1⟩ := trod_struct2 Tryz.underlying57 h
  obtain ⟨_, hl, hcell⟩ := World.cells?_some hcs
  match cs, hl with
  | [c0, c1], _ =>
    rw [show Tryz.prog.cellsOf 3 = 1 by kernel_rfl] at t0
    rw [show Tryz.prog.cellsOf 23 = 1 by kernel_rfl] at t1
    simp only [List.drop_zero, List.take_succ_cons, List.take_zero, List.drop_succ_cons] at t0 t1
    obtain ⟨z0, e0, _, _⟩ := DataW.trod_int Tryz.underlying3 t0
    injection e0 with e0 _
    subst e0
    have k0 := hcell 0 (by omega)
    have k1 := hcell 1 (by omega)
    rw [Addr.add_mid, Addr.add_mid] at k0 k1
    have s3 : ∃ a len cap, c1 = .slice a len cap := by
      rcases open_ints Tryz.underlying23 Tryz.underlying5 (by kernel_rfl) t1 with ⟨e, _⟩ | ⟨a, len, cap, zs, e, _⟩
      · injection e with e _; exact ⟨none, 0, 0, e⟩
      · injection e with e _; exact ⟨_, _, _, e⟩
    obtain ⟨a, len, cap, rfl⟩ := s3
    obtain ⟨p, hl3, ib3, hn3, hc3, hm3⟩ := open_bytes t1 (fun k hk => hsz k (by
      simp only [DataW.weights, Tryz.underlying57]
      exact DataW.weights_mem_each (j := 1) (t := 23) (d := y1.1) rfl rfl _ hk))
    subst hl3
    exact ⟨(z0, .slice a p.length cap, p), k0, k1, ⟨a, cap, rfl, ib3, hc3, hn3⟩, hm3⟩

theorem open_secrets (h : DataW.trod enc Tryz.prog W 0 (fun _ => true) true n 22 cs = some x) (hsz : ∀ k ∈ x.1.weights Tryz.prog 22, k ≤ reachBytes) :
    ∃ (a : Option Addr) (b off cap : Nat) (vs : List Value) (l : Secs), cs = [.slice a l.length cap] ∧ l.length ≤ cap ∧ l.length ≤ 140737488351232 ∧ (0 < l.length → a = some ⟨b, off, none⟩) ∧ SecIn W b off vs l ∧ ∀ i, i < l.length → (l.getD i (0, [])).2.length ≤ 140737488351232 := by
  rcases Deep.open_slice Tryz.underlying22 h with ⟨rfl, rfl⟩ | ⟨a, len, cap, m, n, D, Pl, rfl, hb, hl, hm, hmm, rfl, hel⟩
  · exact ⟨none, 0, 0, 0, [], [], rfl, by simp, by simp, by simp, ⟨fun i hi => absurd hi (by simp), fun i hi => absurd hi (by simp), fun i hi => absurd hi (by simp)⟩, fun i hi => absurd hi (by simp)⟩
  · rw [show Tryz.prog.cellsOf 57 = 2 by kernel_rfl] at hel
    simp at hmm
    subst hmm
    simp only [DataW.weights, Tryz.underlying22] at hsz
    have hlen : len ≤ 140737488351232 := by
      have h1 := hsz _ (List.mem_cons_self ..)
      rw [show Tryz.prog.bytesOf 57 = 32 by kernel_rfl] at h1
      simp only [List.length_map, List.length_range, reachBytes] at h1
      omega
    by_cases h0 : 0 < len
    · obtain ⟨b, off, spot⟩ := a
      have hspot : spot = none := by
        obtain ⟨cs', h1, _⟩ := hel 0 (by omega)
        obtain ⟨_, hl3, hc⟩ := World.cells?_some h1
        have h2 := hc 0 (by omega)
        rw [List.getElem?_eq_getElem (by omega)] at h2
        simpa [Addr.add] using World.cell?_spot h2
      subst hspot
      obtain ⟨os, ho1, ho2⟩ := list_of (fun i o => SecOk W b off i o) len (fun i hi => by
        obtain ⟨cs', h1, h2⟩ := hel i (by omega)
        refine open_sec h1 h2 (fun k hk => hsz k ?_)
        refine List.mem_cons_of_mem _ (List.mem_append.2 (.inl (weights_all (d := D i) ?_ hk)))
        exact List.mem_map.2 ⟨i, List.mem_range.2 hi, rfl⟩)
      subst ho1
      have hg : ∀ i, i < os.length → ∃ o, os[i]? = some o ∧ SecOk W b off i o ∧ (os.map fun o => (o.1, o.2.2)).getD i (0, []) = (o.1, o.2.2) ∧ (os.map fun o => o.2.1).getD i undef = o.2.1 := by
        intro i hi
        refine ⟨os[i], List.getElem?_eq_getElem hi, ho2 i _ (List.getElem?_eq_getElem hi), ?_, ?_⟩ <;> simp [List.getD_eq_getElem?_getD, hi]
      refine ⟨_, b, off, m, os.map fun o => o.2.1, os.map fun o => (o.1, o.2.2), by rw [List.length_map], by rw [List.length_map]; omega, by rw [List.length_map]; exact hlen, fun _ => rfl, ⟨fun i hi => ?_, fun i hi => ?_, fun i hi => ?_⟩, fun i hi => ?_⟩
      all_goals (obtain ⟨o, _, hok, e1, e2⟩ := hg i (by simpa using hi))
      · rw [e1]; exact hok.key
      · rw [e2]; exact hok.sl
      · rw [e1, e2]; exact hok.bytes
      · rw [e1]; exact hok.big
    · obtain rfl : len = 0 := by omega
      exact ⟨some a, 0, 0, m, [], [], rfl, by simp, by simp, by simp, ⟨fun i hi => absurd hi (by simp), fun i hi => absurd hi (by simp), fun i hi => absurd hi (by simp)⟩, fun i hi => absurd hi (by simp)⟩
end
end Go.Proofs.YtjooabgjkjnhhaaGreatDoor
