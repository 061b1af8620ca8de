import Derived.Test.YtpcgkjngpdplmaaGreatDoorOpenA
import Derived.Test.YtpcgkjngpdplmaaGreatDoorN19T
import Derived.JoinedCond
import Derived.Test.YtpcgkjngpdplmaaGreatDoorI11Code
import Derived.SizedLaws
import Derived.WalkKit
import Derived.ProofKit
import Derived.OpenShut
import Derived.ShutString
import Derived.ChangeOld
import Derived.ChangeSame
import Derived.ChangeVars
import Derived.JoinedOf
import Derived.Below
import Derived.LaidLaws
import Derived.LaidHandle
import Derived.Stop.Joined
import Derived.Deep.Slices
import Derived.Deep.Strs

/-! A script and answers that came in, laid open. -/
namespace Go.Proofs.YtpcgkjngpdplmaaGreatDoor
open Go.ChangeShapes Go.WideShapes Go.ChangeAt Go.RowKit
set_option linter.unusedVariables false
set_option maxRecDepth 100000
structure SecOk19 (W : World) (b off i : Nat) (o : Int × Value × List By) : Prop where
  key : W.cell? ⟨b, off + i * 2, none⟩ = some (.int .i64 o.1)
  sl : W.cell? ⟨b, off + i * 2 + 1, none⟩ = some o.2.1
  bytes : ∃ bo c, o.2.1 = .slice bo o.2.2.length c ∧ IsB W bo o.2.2 ∧ o.2.2.length ≤ c ∧ (bo = none → c = 0)
  big : o.2.2.length ≤ 140737488351232

theorem wf_i64 {z : Int} (h : (Lit.int .i64 z).wf = true) : -9223372036854775808 ≤ z ∧ z ≤ 9223372036854775807 := by
  simp only [Lit.wf, IntKind.min, IntKind.max, IntKind.signed, IntKind.bits, Bool.and_eq_true, decide_eq_true_eq] at h
  simp at h
  omega
section
variable {H : Type} {enc : TypeId × Value → H} {W : World} {n : Nat} {cs : List Value} {x : DataW H × List MemPlace}

theorem open_in19 (h : DataW.trod enc Tryz.prog W 0 (fun _ => true) true n 32 cs = some x) (hsz : ∀ k ∈ x.1.weights Tryz.prog 32, k ≤ reachBytes) :
    ∃ (a : Option Addr) (cap : Nat) (bs : List By), cs = [.slice a bs.length cap] ∧ IsB W a bs ∧ (a = none → cap = 0) ∧ bs.length ≤ cap ∧ bs.length ≤ 140737488351232 := by
  have s3 : ∃ a len cap, cs = [.slice a len cap] := by
    rcases open_ints Tryz.underlying32 Tryz.underlying5 (by kernel_rfl) h with ⟨e, _⟩ | ⟨a, len, cap, zs, e, _⟩
    · exact ⟨none, 0, 0, e⟩
    · exact ⟨_, _, _, e⟩
  obtain ⟨a, len, cap, rfl⟩ := s3
  obtain ⟨p, hl3, ib3, hn3, hc3, hm3⟩ := open_bytes h hsz
  subst hl3
  exact ⟨a, cap, p, rfl, ib3, hn3, hc3, hm3⟩
theorem int_in19 {t m i : Nat} {y : DataW H × List MemPlace} (ht : Tryz.prog.underlying t = some (.int .i64)) (hc : Tryz.prog.cellsOf t = 1) (hl : i < cs.length) (h : DataW.trod enc Tryz.prog W 0 (fun _ => true) true m t ((cs.drop i).take (Tryz.prog.cellsOf t)) = some y) : ∃ z, cs[i]? = some (.int .i64 z) ∧ (Lit.int .i64 z).wf = true := by
  rw [hc, List.drop_eq_getElem_cons hl] at h
  obtain ⟨z, e1, _, hw⟩ := DataW.trod_int ht h
  simp only [List.take_succ_cons, List.take_zero] at e1
  injection e1 with e1 _
  exact ⟨z, by rw [List.getElem?_eq_getElem hl, e1], hw⟩
theorem open_astep (h : DataW.trod enc Tryz.prog W 0 (fun _ => true) true n 34 cs = some x) (hsz : ∀ k ∈ x.1.weights Tryz.prog 34, k ≤ reachBytes) :
    ∃ (o : SP) (mo : Option Addr) (mc : Nat), cs = spC o mo mc ∧ IsB W mo o.b ∧ (mo = none → mc = 0) ∧ o.b.length ≤ mc ∧ o.b.length ≤ 140737488351232 := by
  obtain ⟨ys, m, rfl, rfl, hl, hx, hf⟩ := DataW.trod_struct Tryz.underlying34 h
  have hl4 : cs.length = 4 := by rw [hl]; kernel_rfl
  have hx4 : ys.length = 4 := hx
  have g0 : DataW.trod enc Tryz.prog W 0 (fun _ => true) true m 3 ((cs.drop 0).take (Tryz.prog.cellsOf 3)) = ys[0]? := hf 0 _ rfl
  have g1 : DataW.trod enc Tryz.prog W 0 (fun _ => true) true m 3 ((cs.drop 1).take (Tryz.prog.cellsOf 3)) = ys[1]? := hf 1 _ rfl
  have g2 : DataW.trod enc Tryz.prog W 0 (fun _ => true) true m 2 ((cs.drop 2).take (Tryz.prog.cellsOf 2)) = ys[2]? := hf 2 _ rfl
  have g3 : DataW.trod enc Tryz.prog W 0 (fun _ => true) true m 32 ((cs.drop 3).take (Tryz.prog.cellsOf 32)) = ys[3]? := hf 3 _ rfl
  rw [List.getElem?_eq_getElem (by omega)] at g0 g1 g2 g3
  obtain ⟨z0, e0, _⟩ := int_in19 Tryz.underlying3 (by kernel_rfl) (by omega) g0
  obtain ⟨z1, e1, _⟩ := int_in19 Tryz.underlying3 (by kernel_rfl) (by omega) g1
  obtain ⟨z2, e2, _⟩ := int_in19 Tryz.underlying2 (by kernel_rfl) (by omega) g2
  obtain ⟨mo, mc, mm, e4, ib, hn, hc, hm⟩ := open_in19 g3 (fun k hk => hsz k (by
    simp only [DataW.weights, Tryz.underlying34]
    exact DataW.weights_mem_each (j := 3) (t := 32) (d := ys[3].1) rfl (by rw [List.getElem?_map, List.getElem?_eq_getElem (by omega)]; rfl) k hk))
  refine ⟨⟨z0, z1, z2, mm⟩, mo, mc, ?_, ib, hn, hc, hm⟩
  rw [show Tryz.prog.cellsOf 32 = 1 by kernel_rfl] at e4
  match cs, hl4 with
  | [a0, a1, a2, a3], _ =>
    simp at e0 e1 e2 e4
    subst e0 e1 e2 e4; rfl
theorem open_asteps (h : DataW.trod enc Tryz.prog W 0 (fun _ => true) true n 25 cs = some x) (hsz : ∀ k ∈ x.1.weights Tryz.prog 25, k ≤ reachBytes) :
    ∃ (a : Option Addr) (cap : Nat) (S : List SP), cs = [.slice a S.length cap] ∧ S.length ≤ cap ∧ (a = none → cap = 0) ∧ S.length ≤ 2932031007402 ∧ (∀ o ∈ S, o.b.length ≤ 140737488351232) ∧ StpIn W a S := by
  rcases Deep.open_slice Tryz.underlying25 h with ⟨rfl, rfl⟩ | ⟨a, len, cap, m, n', D, Pl, rfl, hb, hl, hm, hmm, rfl, hel⟩
  · exact ⟨none, 0, [], rfl, by simp, fun _ => rfl, by simp, by simp, fun i hi => absurd hi (by simp)⟩
  · rw [show Tryz.prog.cellsOf 34 = 4 by kernel_rfl] at hel
    simp at hmm
    subst hmm
    simp only [DataW.weights, Tryz.underlying25] at hsz
    have hlen : len ≤ 2932031007402 := by
      have h1 := hsz _ (List.mem_cons_self ..)
      rw [show Tryz.prog.bytesOf 34 = 48 by kernel_rfl] at h1
      simp only [List.length_map, List.length_range, reachBytes] at h1
      omega
    obtain ⟨b, off, spot⟩ := a
    obtain ⟨os, ho1, ho2⟩ := list_of (fun i (o : SP × Option Addr × Nat) => spot = none ∧ W.rangeAt b (off + i * 4) (spC o.1 o.2.1 o.2.2) ∧ IsB W o.2.1 o.1.b ∧ o.1.b.length ≤ o.2.2 ∧ (o.2.1 = none → o.2.2 = 0) ∧ o.1.b.length ≤ 140737488351232) len (fun i hi => by
      obtain ⟨cs', h1, h2⟩ := hel i (by omega)
      obtain ⟨_, hl3, hc⟩ := World.cells?_some h1
      obtain ⟨o, mo, mc, e, ib, hn, hmc, hml⟩ := open_astep h2 (fun k hk => hsz k (by
        refine List.mem_cons_of_mem _ (List.mem_append.2 (.inl (weights_all (d := D i) ?_ hk)))
        exact List.mem_map.2 ⟨i, List.mem_range.2 hi, rfl⟩))
      subst e
      have hspot : spot = none := by
        obtain ⟨cs0, k1, _⟩ := hel 0 (by omega)
        obtain ⟨_, hl0, hc0⟩ := World.cells?_some k1
        have h2 := hc0 0 (by omega)
        rw [List.getElem?_eq_getElem (by omega)] at h2
        simpa [Addr.add] using World.cell?_spot h2
      subst hspot
      refine ⟨(o, mo, mc), rfl, fun j v hv => ?_, ib, hmc, hn, hml⟩
      have hil : j < 4 := (List.getElem?_eq_some_iff.1 hv).1
      have h3 := hc j (by omega)
      rw [Addr.add_mid, Addr.add_mid, hv] at h3
      rw [← h3])
    subst ho1
    refine ⟨some ⟨b, off, spot⟩, m, os.map (·.1), by rw [List.length_map], by rw [List.length_map]; omega, fun h => (by cases h), by rw [List.length_map]; exact hlen, fun o ho => ?_, fun i hi => ?_⟩
    · obtain ⟨p, hp, rfl⟩ := List.mem_map.1 ho
      obtain ⟨i, hi, rfl⟩ := List.getElem_of_mem hp
      exact (ho2 i _ (List.getElem?_eq_getElem hi)).2.2.2.2.2
    rw [List.length_map] at hi
    obtain ⟨g0, g1, g2, g3, g4, _⟩ := ho2 i _ (List.getElem?_eq_getElem hi)
    subst g0
    rw [List.getElem_map]
    exact ⟨b, off, os[i].2.1, os[i].2.2, rfl, g1 0 _ rfl, g1 1 _ rfl, g1 2 _ rfl, g1 3 _ rfl, g2, g3, g4⟩
theorem open_ans19 (h : DataW.trod enc Tryz.prog W 0 (fun _ => true) true n 39 cs = some x) : ∃ (a : AN) (acts : Int), cs = anC a acts ∧ a.Wf := by
  obtain ⟨ys, m, rfl, rfl, hl, hx, hf⟩ := DataW.trod_struct Tryz.underlying39 h
  have hl4 : cs.length = 36 := by rw [hl]; kernel_rfl
  have hx4 : ys.length = 5 := hx
  have g0 : DataW.trod enc Tryz.prog W 0 (fun _ => true) true m 35 ((cs.drop 0).take (Tryz.prog.cellsOf 35)) = ys[0]? := hf 0 _ rfl
  have g1 : DataW.trod enc Tryz.prog W 0 (fun _ => true) true m 2 ((cs.drop 1).take (Tryz.prog.cellsOf 2)) = ys[1]? := hf 1 _ rfl
  have g2 : DataW.trod enc Tryz.prog W 0 (fun _ => true) true m 4 ((cs.drop 2).take (Tryz.prog.cellsOf 4)) = ys[2]? := hf 2 _ rfl
  have g3 : DataW.trod enc Tryz.prog W 0 (fun _ => true) true m 37 ((cs.drop 3).take (Tryz.prog.cellsOf 37)) = ys[3]? := hf 3 _ rfl
  have g4 : DataW.trod enc Tryz.prog W 0 (fun _ => true) true m 3 ((cs.drop 35).take (Tryz.prog.cellsOf 3)) = ys[4]? := hf 4 _ rfl
  rw [List.getElem?_eq_getElem (by omega)] at g0 g1 g2 g3 g4
  obtain ⟨z0, e0, hw0⟩ := int_in19 Tryz.underlying35 (by kernel_rfl) (by omega) g0
  obtain ⟨z1, e1, hw1⟩ := int_in19 Tryz.underlying2 (by kernel_rfl) (by omega) g1
  obtain ⟨z4, e4, _⟩ := int_in19 Tryz.underlying3 (by kernel_rfl) (by omega) g4
  obtain ⟨bs, hbs, e3⟩ := open_hash g3
  rw [show Tryz.prog.cellsOf 37 = 32 by kernel_rfl] at e3
  rw [show Tryz.prog.cellsOf 4 = 1 by kernel_rfl, List.drop_eq_getElem_cons (by omega)] at g2
  obtain ⟨q, e2, _⟩ := DataW.trod_bool Tryz.underlying4 g2
  simp only [List.take_succ_cons, List.take_zero] at e2
  injection e2 with e2 _
  refine ⟨⟨z0, z1, q, bs⟩, z4, ?_, wf_i64 hw0, wf_i64 hw1, hbs⟩
  apply List.ext_getElem?
  intro i
  unfold anC
  by_cases h0 : i = 0
  · subst h0; exact e0
  · by_cases h1 : i = 1
    · subst h1; exact e1
    · by_cases h2 : i = 2
      · subst h2; rw [List.getElem?_eq_getElem (by omega), e2]; rfl
      · rw [List.getElem?_append_right (by simp; omega)]
        by_cases h35 : i < 35
        · rw [List.getElem?_append_left (by simp [hbs]; omega), ← e3, List.getElem?_take, if_pos (by simp; omega), List.getElem?_drop]
          congr 1
          simp; omega
        · by_cases h36 : i = 35
          · subst h36; rw [e4, List.getElem?_append_right (by simp [hbs])]; simp [hbs]
          · rw [List.getElem?_eq_none (by omega), List.getElem?_eq_none (by simp [hbs]; omega)]
theorem open_answers (h : DataW.trod enc Tryz.prog W 0 (fun _ => true) true n 26 cs = some x) (hsz : ∀ k ∈ x.1.weights Tryz.prog 26, k ≤ reachBytes) :
    ∃ (a : Option Addr) (cap : Nat) (A : List AN), cs = [.slice a A.length cap] ∧ A.length ≤ cap ∧ (a = none → cap = 0) ∧ A.length ≤ 140737488351232 ∧ AnsIn W a A := by
  rcases Deep.open_slice Tryz.underlying26 h with ⟨rfl, rfl⟩ | ⟨a, len, cap, m, n', D, Pl, rfl, hb, hl, hm, hmm, rfl, hel⟩
  · exact ⟨none, 0, [], rfl, by simp, fun _ => rfl, by simp, fun i hi => absurd hi (by simp)⟩
  · rw [show Tryz.prog.cellsOf 39 = 36 by kernel_rfl] at hel
    simp at hmm
    subst hmm
    simp only [DataW.weights, Tryz.underlying26] at hsz
    have hlen : len ≤ 140737488351232 := by
      have h1 := hsz _ (List.mem_cons_self ..)
      rw [show Tryz.prog.bytesOf 39 = 64 by kernel_rfl] at h1
      simp only [List.length_map, List.length_range, reachBytes] at h1
      omega
    obtain ⟨b, off, spot⟩ := a
    obtain ⟨os, ho1, ho2⟩ := list_of (fun i (o : AN × Int) => spot = none ∧ W.rangeAt b (off + i * 36) (anC o.1 o.2) ∧ o.1.Wf) len (fun i hi => by
      obtain ⟨cs', h1, h2⟩ := hel i (by omega)
      obtain ⟨_, hl3, hc⟩ := World.cells?_some h1
      obtain ⟨a, acts, e, ha⟩ := open_ans19 h2
      subst e
      have hspot : spot = none := by
        obtain ⟨cs0, k1, _⟩ := hel 0 (by omega)
        obtain ⟨_, hl0, hc0⟩ := World.cells?_some k1
        have h2 := hc0 0 (by omega)
        rw [List.getElem?_eq_getElem (by omega)] at h2
        simpa [Addr.add] using World.cell?_spot h2
      subst hspot
      refine ⟨(a, acts), rfl, fun j v hv => ?_, ha⟩
      have hil : j < 36 := by
        have := (List.getElem?_eq_some_iff.1 hv).1
        rw [anC_len ha.h] at this
        exact this
      have h3 := hc j (by omega)
      rw [Addr.add_mid, Addr.add_mid, hv] at h3
      rw [← h3])
    subst ho1
    refine ⟨some ⟨b, off, spot⟩, m, os.map (·.1), by rw [List.length_map], by rw [List.length_map]; omega, fun h => (by cases h), by rw [List.length_map]; exact hlen, fun i hi => ?_⟩
    rw [List.length_map] at hi
    obtain ⟨g0, g1, g2⟩ := ho2 i _ (List.getElem?_eq_getElem hi)
    subst g0
    rw [List.getElem_map]
    exact ⟨b, off, os[i].2, rfl, g1, g2⟩
theorem open_sec19 {b off i : Nat} (hcs : W.cells? 0 (Addr.add ⟨b, off, none⟩ (i * 2)) 2 = some cs) (h : DataW.trod enc Tryz.prog W 0 (fun _ => true) true n 79 cs = some x) (hsz : ∀ k ∈ x.1.weights Tryz.prog 79, k ≤ reachBytes) : ∃ o, SecOk19 W b off i o := by
  obtain ⟨y0, y1, n', rfl, hl2, t0, t1⟩ := trod_struct2 Tryz.underlying79 h
  obtain ⟨_, hl, hcell⟩ := World.cells?_some hcs
  match cs, hl with
  | [c0, c1], _ =>
    rw [show Tryz.prog.cellsOf 3 = 1 by kernel_rfl] at t0
    rw [show Tryz.prog.cellsOf 32 = 1 by kernel_rfl] at t1
    simp only [List.drop_zero, List.take_succ_cons, List.take_zero, List.drop_succ_cons] at t0 t1
    obtain ⟨z0, e0, _, _⟩ := DataW.trod_int Tryz.underlying3 t0
    injection e0 with e0 _
    subst e0
    have k0 := hcell 0 (by omega)
    have k1 := hcell 1 (by omega)
    rw [Addr.add_mid, Addr.add_mid] at k0 k1
    have s3 : ∃ a len cap, c1 = .slice a len cap := by
      rcases open_ints Tryz.underlying32 Tryz.underlying5 (by kernel_rfl) t1 with ⟨e, _⟩ | ⟨a, len, cap, zs, e, _⟩
      · injection e with e _; exact ⟨none, 0, 0, e⟩
      · injection e with e _; exact ⟨_, _, _, e⟩
    obtain ⟨a, len, cap, rfl⟩ := s3
    obtain ⟨p, hl3, ib3, hn3, hc3, hm3⟩ := open_bytes t1 (fun k hk => hsz k (by
      simp only [DataW.weights, Tryz.underlying79]
      exact DataW.weights_mem_each (j := 1) (t := 32) (d := y1.1) rfl rfl _ hk))
    subst hl3
    exact ⟨(z0, .slice a p.length cap, p), k0, k1, ⟨a, cap, rfl, ib3, hc3, hn3⟩, hm3⟩

theorem open_secrets19 (h : DataW.trod enc Tryz.prog W 0 (fun _ => true) true n 24 cs = some x) (hsz : ∀ k ∈ x.1.weights Tryz.prog 24, k ≤ reachBytes) :
    ∃ (a : Option Addr) (b off cap : Nat) (vs : List Value) (l : Secs), cs = [.slice a l.length cap] ∧ (a = none → cap = 0) ∧ l.length ≤ cap ∧ l.length ≤ 140737488351232 ∧ (0 < l.length → a = some ⟨b, off, none⟩) ∧ SecIn W b off vs l ∧ ∀ i, i < l.length → (l.getD i (0, [])).2.length ≤ 140737488351232 := by
  rcases Deep.open_slice Tryz.underlying24 h with ⟨rfl, rfl⟩ | ⟨a, len, cap, m, n, D, Pl, rfl, hb, hl, hm, hmm, rfl, hel⟩
  · exact ⟨none, 0, 0, 0, [], [], rfl, fun _ => rfl, by simp, by simp, by simp, ⟨fun i hi => absurd hi (by simp), fun i hi => absurd hi (by simp), fun i hi => absurd hi (by simp)⟩, fun i hi => absurd hi (by simp)⟩
  · rw [show Tryz.prog.cellsOf 79 = 2 by kernel_rfl] at hel
    simp at hmm
    subst hmm
    simp only [DataW.weights, Tryz.underlying24] at hsz
    have hlen : len ≤ 140737488351232 := by
      have h1 := hsz _ (List.mem_cons_self ..)
      rw [show Tryz.prog.bytesOf 79 = 32 by kernel_rfl] at h1
      simp only [List.length_map, List.length_range, reachBytes] at h1
      omega
    by_cases h0 : 0 < len
    · obtain ⟨b, off, spot⟩ := a
      have hspot : spot = none := by
        obtain ⟨cs', h1, _⟩ := hel 0 (by omega)
        obtain ⟨_, hl3, hc⟩ := World.cells?_some h1
        have h2 := hc 0 (by omega)
        rw [List.getElem?_eq_getElem (by omega)] at h2
        simpa [Addr.add] using World.cell?_spot h2
      subst hspot
      obtain ⟨os, ho1, ho2⟩ := list_of (fun i o => SecOk19 W b off i o) len (fun i hi => by
        obtain ⟨cs', h1, h2⟩ := hel i (by omega)
        refine open_sec19 h1 h2 (fun k hk => hsz k ?_)
        refine List.mem_cons_of_mem _ (List.mem_append.2 (.inl (weights_all (d := D i) ?_ hk)))
        exact List.mem_map.2 ⟨i, List.mem_range.2 hi, rfl⟩)
      subst ho1
      have hg : ∀ i, i < os.length → ∃ o, os[i]? = some o ∧ SecOk19 W b off i o ∧ (os.map fun o => (o.1, o.2.2)).getD i (0, []) = (o.1, o.2.2) ∧ (os.map fun o => o.2.1).getD i undef = o.2.1 := by
        intro i hi
        refine ⟨os[i], List.getElem?_eq_getElem hi, ho2 i _ (List.getElem?_eq_getElem hi), ?_, ?_⟩ <;> simp [List.getD_eq_getElem?_getD, hi]
      refine ⟨_, b, off, m, os.map fun o => o.2.1, os.map fun o => (o.1, o.2.2), by rw [List.length_map], fun h => (by cases h), by rw [List.length_map]; omega, by rw [List.length_map]; exact hlen, fun _ => rfl, ⟨fun i hi => ?_, fun i hi => ?_, fun i hi => ?_⟩, fun i hi => ?_⟩
      all_goals (obtain ⟨o, _, hok, e1, e2⟩ := hg i (by simpa using hi))
      · rw [e1]; exact hok.key
      · rw [e2]; exact hok.sl
      · rw [e1, e2]; exact hok.bytes
      · rw [e1]; exact hok.big
    · obtain rfl : len = 0 := by omega
      exact ⟨some a, 0, 0, m, [], [], rfl, fun h => (by cases h), by simp, by simp, by simp, ⟨fun i hi => absurd hi (by simp), fun i hi => absurd hi (by simp), fun i hi => absurd hi (by simp)⟩, fun i hi => absurd hi (by simp)⟩

theorem open_cfg19 (h : DataW.trod enc Tryz.prog W 0 (fun _ => true) true n 23 cs = some x) : ∃ c : Cfg, cs = c.vals := by
  obtain ⟨ys, m, rfl, rfl, hl, hx, hf⟩ := DataW.trod_struct Tryz.underlying23 h
  have hl4 : cs.length = 7 := by rw [hl]; kernel_rfl
  have hx4 : ys.length = 7 := hx
  have g0 : DataW.trod enc Tryz.prog W 0 (fun _ => true) true m 3 ((cs.drop 0).take (Tryz.prog.cellsOf 3)) = ys[0]? := hf 0 _ rfl
  have g1 : DataW.trod enc Tryz.prog W 0 (fun _ => true) true m 3 ((cs.drop 1).take (Tryz.prog.cellsOf 3)) = ys[1]? := hf 1 _ rfl
  have g2 : DataW.trod enc Tryz.prog W 0 (fun _ => true) true m 3 ((cs.drop 2).take (Tryz.prog.cellsOf 3)) = ys[2]? := hf 2 _ rfl
  have g3 : DataW.trod enc Tryz.prog W 0 (fun _ => true) true m 3 ((cs.drop 3).take (Tryz.prog.cellsOf 3)) = ys[3]? := hf 3 _ rfl
  have g4 : DataW.trod enc Tryz.prog W 0 (fun _ => true) true m 3 ((cs.drop 4).take (Tryz.prog.cellsOf 3)) = ys[4]? := hf 4 _ rfl
  have g5 : DataW.trod enc Tryz.prog W 0 (fun _ => true) true m 3 ((cs.drop 5).take (Tryz.prog.cellsOf 3)) = ys[5]? := hf 5 _ rfl
  have g6 : DataW.trod enc Tryz.prog W 0 (fun _ => true) true m 3 ((cs.drop 6).take (Tryz.prog.cellsOf 3)) = ys[6]? := hf 6 _ rfl
  rw [List.getElem?_eq_getElem (by omega)] at g0 g1 g2 g3 g4 g5 g6
  obtain ⟨z0, e0, _⟩ := int_in19 Tryz.underlying3 (by kernel_rfl) (by omega) g0
  obtain ⟨z1, e1, _⟩ := int_in19 Tryz.underlying3 (by kernel_rfl) (by omega) g1
  obtain ⟨z2, e2, _⟩ := int_in19 Tryz.underlying3 (by kernel_rfl) (by omega) g2
  obtain ⟨z3, e3, _⟩ := int_in19 Tryz.underlying3 (by kernel_rfl) (by omega) g3
  obtain ⟨z4, e4, _⟩ := int_in19 Tryz.underlying3 (by kernel_rfl) (by omega) g4
  obtain ⟨z5, e5, _⟩ := int_in19 Tryz.underlying3 (by kernel_rfl) (by omega) g5
  obtain ⟨z6, e6, _⟩ := int_in19 Tryz.underlying3 (by kernel_rfl) (by omega) g6
  refine ⟨⟨z0, z1, z2, z3, z4, z5, z6⟩, ?_⟩
  match cs, hl4 with
  | [a0, a1, a2, a3, a4, a5, a6], _ =>
    simp at e0 e1 e2 e3 e4 e5 e6
    subst e0 e1 e2 e3 e4 e5 e6; rfl
end
end Go.Proofs.YtpcgkjngpdplmaaGreatDoor


/-! The listed variable: what it holds. -/
namespace Go.Proofs.YtpcgkjngpdplmaaGreatDoor
open Go.ChangeShapes Go.WideShapes Go.ChangeAt Go.RowKit
set_option maxRecDepth 100000

def laidL : List (String × DataW Unit) := [("errors.errorType", Rows.laid_errors_errorType)]
theorem Tryz.et : Tryz.prog.globalNamed "errors.errorType" = some 0 := by kernel_rfl
theorem Tryz.rt : (Tryz.prog.cutTypes.find? (·.1 == "internal/reflectlite.rtype")).map (·.2) = some 191 := by kernel_rfl
theorem Tryz.oneRow : ((List.range 241).filter fun t => Tryz.prog.rowNamed t [101, 114, 114, 111, 114]) = [143] := by kernel_rfl
theorem Tryz.size : Tryz.prog.types.size = 241 := by kernel_rfl

theorem handle_of_laid {W : World} (h : laidMetH Tryz.prog laidL W) : HG W := by
  have h' : laidMet Tryz.prog [] W ∧ handlesMet Tryz.prog laidL W := h
  obtain ⟨name, u, ty, e1, e2, e3, e4, e5⟩ := h'.2 _ (List.mem_singleton.2 rfl)
  have en : name = [101, 114, 114, 111, 114] := (Option.some.inj e1).symm
  subst en
  obtain rfl := Option.some.inj (Tryz.rt.symm.trans e2)
  have hm : ty ∈ (List.range 241).filter fun t => Tryz.prog.rowNamed t [101, 114, 114, 111, 114] := List.mem_filter.2 ⟨List.mem_range.2 (by rw [← Tryz.size]; exact e3), e4⟩
  rw [Tryz.oneRow] at hm
  obtain rfl := List.mem_singleton.1 hm
  have hh : typeHandle Tryz.prog 143 = .pointer (some ⟨1, 143, none⟩) := by kernel_rfl
  rw [hh] at e5
  have := World.var?_cell Tryz.et e5 0
  unfold HG
  simpa using this

/-- That the condition can be met: one such world. -/
def laidOf (w0 : World) : World :=
  { w0 with heap := w0.heap.modify 0 fun
      | .cells _ t frozen => .cells #[.iface 191 (.agg #[.pointer (some ⟨1, 143, none⟩)])] t frozen
      | o => o }
theorem laidWorld_met (os : Os) (args : Array Value) : laidMetH Tryz.prog laidL ((laidOf (World.holding Tryz.prog os ⟨#[], #[], []⟩)).forCall (fun _ _ => 0) ⟨#[], args, []⟩).memory :=
  laidMetH_of_parts (laidMet_nil _ _) (by kernel_rfl)
end Go.Proofs.YtpcgkjngpdplmaaGreatDoor
