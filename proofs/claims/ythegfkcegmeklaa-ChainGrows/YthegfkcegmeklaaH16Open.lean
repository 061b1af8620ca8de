
import Derived.Test.YthegfkcegmeklaaOpenA
import Derived.Test.YthegfkcegmeklaaH16Bks
/-! Events, steps and questions that came in, laid open. -/
namespace Go.Proofs.Ythegfkcegmeklaa
open Go.ChangeShapes Go.WideShapes Go.ChangeAt Go.RowKit
set_option maxRecDepth 100000
section
variable {H : Type} {enc : TypeId × Value → H} {W : World} {n : Nat} {cs : List Value} {x : DataW H × List MemPlace}

theorem okw_hash {r : Reach} {b0 : Nat} {v : Value} (h : Value.okWide Try.prog W r b0 32 v) : ∃ cs, v = .agg cs ∧ True := by
  simp only [Value.okWide, Try.underlying32] at h
  obtain ⟨cs, h1, _⟩ := h
  exact ⟨cs, h1, trivial⟩
theorem open_event (h : DataW.trod enc Try.prog W 0 (fun _ => true) true n 35 cs = some x) : ∃ e : EvV, cs = evC e ∧ EvOk e := by
  obtain ⟨y0, y1, n', rfl, hl2, t0, t1⟩ := trod_struct2 Try.underlying35 h
  have hl : cs.length = 33 := by rw [hl2]; kernel_rfl
  have t0 : DataW.trod enc Try.prog W 0 (fun _ => true) true n' 32 ((cs.drop 0).take (Try.prog.cellsOf 32)) = some y0 := t0
  have t1 : DataW.trod enc Try.prog W 0 (fun _ => true) true n' 33 ((cs.drop 32).take (Try.prog.cellsOf 33)) = some y1 := t1
  rw [show Try.prog.cellsOf 32 = 32 by kernel_rfl] at t0
  obtain ⟨d, hd, e0⟩ := open_hash t0
  have hx : ∃ z, cs[32]? = some (.int .i64 z) ∧ -9223372036854775808 ≤ z ∧ z ≤ 9223372036854775807 := by
    rw [show Try.prog.cellsOf 33 = 1 by kernel_rfl, List.drop_eq_getElem_cons (by omega)] at t1
    obtain ⟨z, e1, _, hw⟩ := DataW.trod_int Try.underlying33 t1
    simp only [List.take_succ_cons, List.take_zero] at e1
    injection e1 with e1 _
    refine ⟨z, by rw [List.getElem?_eq_getElem (by omega), e1], ?_⟩
    simp only [Lit.wf, IntKind.min, IntKind.max, IntKind.signed, IntKind.bits, Bool.and_eq_true, decide_eq_true_eq] at hw
    simp at hw
    omega
  obtain ⟨z, e1, hz⟩ := hx
  refine ⟨(d, z), ?_, hd, hz⟩
  apply List.ext_getElem?
  intro i
  by_cases hi : i < 32
  · have : ((cs.drop 0).take 32)[i]? = (d.map B8)[i]? := by rw [e0]
    rw [List.drop_zero, List.getElem?_take_of_lt hi] at this
    unfold evC
    rw [List.getElem?_append_left (by rw [List.length_map]; show i < d.length; omega)]
    exact this
  · by_cases h2 : i = 32
    · subst h2
      rw [e1]
      unfold evC
      rw [List.getElem?_append_right (by rw [List.length_map]; show d.length ≤ 32; omega), List.length_map]
      have : EvV.d (d, z) = d := rfl
      rw [this, hd]; rfl
    · rw [List.getElem?_eq_none (by omega), List.getElem?_eq_none]
      rw [evC_len ⟨hd, hz⟩]; omega

theorem open_events (h : DataW.trod enc Try.prog W 0 (fun _ => true) true n 27 cs = some x) (hsz : ∀ k ∈ x.1.weights Try.prog 27, k ≤ reachBytes) :
    ∃ (a : Option Addr) (b off cap : Nat) (xs : List EvV), cs = [.slice a xs.length cap] ∧ xs.length ≤ cap ∧ xs.length ≤ 140737488355328 ∧ (0 < xs.length → a = some ⟨b, off, none⟩) ∧ EvIn W b off xs := by
  rcases Deep.open_slice Try.underlying27 h with ⟨rfl, rfl⟩ | ⟨a, len, cap, m, n, D, Pl, rfl, hb, hl, hm, hmm, rfl, hel⟩
  · exact ⟨none, 0, 0, 0, [], rfl, by simp, by simp, by simp, ⟨fun i x hi => by simp at hi, fun i x hi => by simp at hi⟩⟩
  · rw [show Try.prog.cellsOf 35 = 33 by kernel_rfl] at hel
    simp at hmm
    subst hmm
    simp only [DataW.weights, Try.underlying27] at hsz
    have hlen : len ≤ 140737488355328 := by
      have h1 := hsz _ (List.mem_cons_self ..)
      rw [show Try.prog.bytesOf 35 = 40 by kernel_rfl] at h1
      simp only [List.length_map, List.length_range, reachBytes] at h1
      omega
    by_cases h0 : 0 < len
    · obtain ⟨b, off, spot⟩ := a
      have hspot : spot = none := by
        obtain ⟨cs', h1, _⟩ := hel 0 (by omega)
        obtain ⟨_, hl3, hc⟩ := World.cells?_some h1
        have h2 := hc 0 (by omega)
        rw [List.getElem?_eq_getElem (by omega)] at h2
        simpa [Addr.add] using World.cell?_spot h2
      subst hspot
      obtain ⟨os, ho1, ho2⟩ := list_of (fun i (o : EvV) => W.rangeAt b (off + i * 33) (evC o) ∧ EvOk o) len (fun i hi => by
        obtain ⟨cs', h1, h2⟩ := hel i (by omega)
        obtain ⟨_, hl3, hc⟩ := World.cells?_some h1
        obtain ⟨o, rfl, hok⟩ := open_event h2
        refine ⟨o, fun j v hj => ?_, hok⟩
        have hj2 := (List.getElem?_eq_some_iff.1 hj).1
        have := hc j (by omega)
        rw [Addr.add_mid, Addr.add_mid] at this
        rw [this]; exact hj)
      subst ho1
      exact ⟨_, b, off, m, os, rfl, by omega, hlen, fun _ => rfl, ⟨fun i x hi => (ho2 i x hi).1, fun i x hi => (ho2 i x hi).2⟩⟩
    · obtain rfl : len = 0 := by omega
      exact ⟨some a, 0, 0, m, [], rfl, by simp, by simp, by simp, ⟨fun i x hi => by simp at hi, fun i x hi => by simp at hi⟩⟩

/-- Bytes that came in, within a struct. -/
theorem open_in (h : DataW.trod enc Try.prog W 0 (fun _ => true) true n 36 cs = some x) (hsz : ∀ k ∈ x.1.weights Try.prog 36, k ≤ reachBytes) :
    ∃ (a : Option Addr) (cap : Nat) (bs : List By), cs = [.slice a bs.length cap] ∧ IsB W a bs ∧ (a = none → cap = 0) ∧ bs.length ≤ cap ∧ bs.length ≤ 140737488351232 := by
  have s3 : ∃ a len cap, cs = [.slice a len cap] := by
    rcases open_ints Try.underlying36 Try.underlying5 (by kernel_rfl) h with ⟨e, _⟩ | ⟨a, len, cap, zs, e, _⟩
    · exact ⟨none, 0, 0, e⟩
    · exact ⟨_, _, _, e⟩
  obtain ⟨a, len, cap, rfl⟩ := s3
  obtain ⟨p, hl3, ib3, hn3, hc3, hm3⟩ := open_bytes h hsz
  subst hl3
  exact ⟨a, cap, p, rfl, ib3, hn3, hc3, hm3⟩

theorem int_in {m i : Nat} {y : DataW H × List MemPlace} (hl : i < cs.length) (h : DataW.trod enc Try.prog W 0 (fun _ => true) true m 3 ((cs.drop i).take (Try.prog.cellsOf 3)) = some y) : ∃ z, cs[i]? = some (.int .i64 z) := by
  rw [show Try.prog.cellsOf 3 = 1 by kernel_rfl, List.drop_eq_getElem_cons hl] at h
  obtain ⟨z, e1, _, hw⟩ := DataW.trod_int Try.underlying3 h
  simp only [List.take_succ_cons, List.take_zero] at e1
  injection e1 with e1 _
  exact ⟨z, by rw [List.getElem?_eq_getElem hl, e1]⟩
theorem one_in {i : Nat} {v : Value} (hl : i < cs.length) (h : (cs.drop i).take 1 = [v]) : cs[i]? = some v := by
  rw [List.drop_eq_getElem_cons hl] at h
  simp only [List.take_succ_cons, List.take_zero] at h
  injection h with h _
  rw [List.getElem?_eq_getElem hl, h]

theorem open_op (h : DataW.trod enc Try.prog W 0 (fun _ => true) true n 38 cs = some x) (hsz : ∀ k ∈ x.1.weights Try.prog 38, k ≤ reachBytes) :
    ∃ (k on : Int) (e : EvV) (ko : Option Addr) (kc : Nat) (key : List By) (no : Option Addr) (nc : Nat) (nonce : List By), cs = opC k on e ko key.length kc no nonce.length nc ∧ EvOk e ∧ IsB W ko key ∧ ((ko = none → kc = 0) ∧ key.length ≤ kc) ∧ key.length ≤ 140737488351232 ∧ IsB W no nonce ∧ ((no = none → nc = 0) ∧ nonce.length ≤ nc) ∧ nonce.length ≤ 140737488351232 := by
  obtain ⟨ys, m, rfl, rfl, hl, hx, hf⟩ := DataW.trod_struct Try.underlying38 h
  have hl37 : cs.length = 37 := by rw [hl]; kernel_rfl
  have hx5 : ys.length = 5 := hx
  have t0 : DataW.trod enc Try.prog W 0 (fun _ => true) true m 3 ((cs.drop 0).take (Try.prog.cellsOf 3)) = ys[0]? := hf 0 _ rfl
  have t1 : DataW.trod enc Try.prog W 0 (fun _ => true) true m 3 ((cs.drop 1).take (Try.prog.cellsOf 3)) = ys[1]? := hf 1 _ rfl
  have t2 : DataW.trod enc Try.prog W 0 (fun _ => true) true m 35 ((cs.drop 2).take (Try.prog.cellsOf 35)) = ys[2]? := hf 2 _ rfl
  have t3 : DataW.trod enc Try.prog W 0 (fun _ => true) true m 36 ((cs.drop 35).take (Try.prog.cellsOf 36)) = ys[3]? := hf 3 _ rfl
  have t4 : DataW.trod enc Try.prog W 0 (fun _ => true) true m 36 ((cs.drop 36).take (Try.prog.cellsOf 36)) = ys[4]? := hf 4 _ rfl
  rw [List.getElem?_eq_getElem (by omega)] at t0 t1 t2 t3 t4
  obtain ⟨k, ek⟩ := int_in (by omega) t0
  obtain ⟨on, eo⟩ := int_in (by omega) t1
  obtain ⟨e, ee, hok⟩ := open_event t2
  obtain ⟨ko, kc, key, e3, ib3, hn3, hc3, hm3⟩ := open_in t3 (fun k hk => hsz k (by
    simp only [DataW.weights, Try.underlying38]
    exact DataW.weights_mem_each (j := 3) (t := 36) (d := ys[3].1) rfl (by rw [List.getElem?_map, List.getElem?_eq_getElem (by omega)]; rfl) k hk))
  obtain ⟨no, nc, nonce, e4, ib4, hn4, hc4, hm4⟩ := open_in t4 (fun k hk => hsz k (by
    simp only [DataW.weights, Try.underlying38]
    exact DataW.weights_mem_each (j := 4) (t := 36) (d := ys[4].1) rfl (by rw [List.getElem?_map, List.getElem?_eq_getElem (by omega)]; rfl) k hk))
  rw [show Try.prog.cellsOf 36 = 1 by kernel_rfl] at e3 e4
  rw [show Try.prog.cellsOf 35 = 33 by kernel_rfl] at ee
  have c3 := one_in (by omega) e3
  have c4 := one_in (by omega) e4
  refine ⟨k, on, e, ko, kc, key, no, nc, nonce, ?_, hok, ib3, ⟨hn3, hc3⟩, hm3, ib4, ⟨hn4, hc4⟩, hm4⟩
  apply List.ext_getElem?
  intro i
  by_cases h0 : i = 0
  · subst h0; rw [ek, opC_k]
  by_cases h1 : i = 1
  · subst h1; rw [eo, opC_on]
  by_cases h35 : i = 35
  · subst h35; rw [c3, opC_key hok]
  by_cases h36 : i = 36
  · subst h36; rw [c4, opC_nonce hok]
  by_cases hb : i < 37
  · obtain ⟨j, rfl⟩ : ∃ j, i = 2 + j := ⟨i - 2, by omega⟩
    have hj : j < 33 := by omega
    have e5 : ((cs.drop 2).take 33)[j]? = (evC e)[j]? := by rw [ee]
    rw [List.getElem?_take_of_lt hj, List.getElem?_drop] at e5
    rw [e5, List.getElem?_eq_getElem (by rw [evC_len hok]; omega)]
    exact (opC_ev (List.getElem?_eq_getElem (by rw [evC_len hok]; omega))).symm
  · rw [List.getElem?_eq_none (by omega), List.getElem?_eq_none (by rw [opC_len hok]; omega)]

theorem open_ops (h : DataW.trod enc Try.prog W 0 (fun _ => true) true n 23 cs = some x) (hsz : ∀ k ∈ x.1.weights Try.prog 23, k ≤ reachBytes) :
    ∃ (a : Option Addr) (len cap : Nat), cs = [.slice a len cap] ∧ len * 104 ≤ 140737488355328 ∧ ∀ j, j < len → ∃ SB off, a = some ⟨SB, off, none⟩ ∧ SB < W.heap.size ∧ OpIn W SB (off + j * 37) := by
  rcases Deep.open_slice Try.underlying23 h with ⟨rfl, rfl⟩ | ⟨a, len, cap, m, n', D, Pl, rfl, hb, hl, hm, hmm, rfl, hel⟩
  · exact ⟨none, 0, 0, rfl, by simp, by simp⟩
  · rw [show Try.prog.cellsOf 38 = 37 by kernel_rfl] at hel
    simp at hmm
    subst hmm
    simp only [DataW.weights, Try.underlying23] at hsz
    have hlen : len * 104 ≤ 140737488355328 := by
      have h1 := hsz _ (List.mem_cons_self ..)
      rw [show Try.prog.bytesOf 38 = 104 by kernel_rfl] at h1
      simp only [List.length_map, List.length_range, reachBytes] at h1
      omega
    refine ⟨some a, len, m, rfl, hlen, fun j hj => ?_⟩
    obtain ⟨b, off, spot⟩ := a
    obtain ⟨cs', h1, h2⟩ := hel j (by omega)
    obtain ⟨_, hl3, hc⟩ := World.cells?_some h1
    obtain ⟨k, on, e, ko, kc, key, no, nc, nonce, e0, hok, i1, i2, i3, i4, i5, i6⟩ := open_op h2 (fun k hk => hsz k (by
      refine List.mem_cons_of_mem _ (List.mem_append.2 (.inl (weights_all (d := D j) ?_ hk)))
      exact List.mem_map.2 ⟨j, List.mem_range.2 hj, rfl⟩))
    subst e0
    have hspot : spot = none := by
      obtain ⟨cs0, k1, _⟩ := hel 0 (by omega)
      obtain ⟨_, hl0, hc0⟩ := World.cells?_some k1
      have h2 := hc0 0 (by omega)
      rw [List.getElem?_eq_getElem (by omega)] at h2
      simpa [Addr.add] using World.cell?_spot h2
    subst hspot
    have hrg : W.rangeAt b (off + j * 37) (opC k on e ko key.length kc no nonce.length nc) := fun i v hv => by
      have hil := (List.getElem?_eq_some_iff.1 hv).1
      have h3 := hc i (by omega)
      rw [Addr.add_mid, Addr.add_mid, hv] at h3
      exact h3
    have hb0 : b < W.heap.size := World.block_lt_of_cell? _ _ (hrg 0 _ opC_k)
    exact ⟨b, off, rfl, hb0, k, on, e, ko, _, kc, key, no, _, nc, nonce, hrg, hok, rfl, i1, i2, i3, rfl, i4, i5, i6⟩

/-- The cells of a question that came in. -/
theorem open_asked (h : DataW.trod enc Try.prog W 0 (fun _ => true) true n 46 cs = some x) (hsz : ∀ k ∈ x.1.weights Try.prog 46, k ≤ reachBytes) :
    ∃ (ko : Option Addr) (kc : Nat) (key : List By) (no : Option Addr) (nc : Nat) (nonce : List By) (ao : Option Addr) (cap B off : Nat) (xs : List EvV) (q : List By), cs = askC ko key.length kc no nonce.length nc ao xs.length cap q ∧ q.length = 32 ∧ IsB W ko key ∧ ((ko = none → kc = 0) ∧ key.length ≤ kc) ∧ key.length ≤ 140737488351232 ∧ IsB W no nonce ∧ ((no = none → nc = 0) ∧ nonce.length ≤ nc) ∧ nonce.length ≤ 140737488351232 ∧ xs.length ≤ cap ∧ xs.length ≤ 140737488355328 ∧ (0 < xs.length → ao = some ⟨B, off, none⟩) ∧ EvIn W B off xs := by
  obtain ⟨ys, m, rfl, rfl, hl, hx, hf⟩ := DataW.trod_struct Try.underlying46 h
  have hl35 : cs.length = 35 := by rw [hl]; kernel_rfl
  have hx4 : ys.length = 4 := hx
  have t0 : DataW.trod enc Try.prog W 0 (fun _ => true) true m 36 ((cs.drop 0).take (Try.prog.cellsOf 36)) = ys[0]? := hf 0 _ rfl
  have t1 : DataW.trod enc Try.prog W 0 (fun _ => true) true m 36 ((cs.drop 1).take (Try.prog.cellsOf 36)) = ys[1]? := hf 1 _ rfl
  have t2 : DataW.trod enc Try.prog W 0 (fun _ => true) true m 27 ((cs.drop 2).take (Try.prog.cellsOf 27)) = ys[2]? := hf 2 _ rfl
  have t3 : DataW.trod enc Try.prog W 0 (fun _ => true) true m 32 ((cs.drop 3).take (Try.prog.cellsOf 32)) = ys[3]? := hf 3 _ rfl
  rw [List.getElem?_eq_getElem (by omega)] at t0 t1 t2 t3
  obtain ⟨ko, kc, key, e0, ib0, hn0, hc0, hm0⟩ := open_in t0 (fun k hk => hsz k (by
    simp only [DataW.weights, Try.underlying46]
    exact DataW.weights_mem_each (j := 0) (t := 36) (d := ys[0].1) rfl (by rw [List.getElem?_map, List.getElem?_eq_getElem (by omega)]; rfl) k hk))
  obtain ⟨no, nc, nonce, e1, ib1, hn1, hc1, hm1⟩ := open_in t1 (fun k hk => hsz k (by
    simp only [DataW.weights, Try.underlying46]
    exact DataW.weights_mem_each (j := 1) (t := 36) (d := ys[1].1) rfl (by rw [List.getElem?_map, List.getElem?_eq_getElem (by omega)]; rfl) k hk))
  obtain ⟨ao, B, off, cap, xs, e2, hcp, hxl, hao, hin⟩ := open_events t2 (fun k hk => hsz k (by
    simp only [DataW.weights, Try.underlying46]
    exact DataW.weights_mem_each (j := 2) (t := 27) (d := ys[2].1) rfl (by rw [List.getElem?_map, List.getElem?_eq_getElem (by omega)]; rfl) k hk))
  obtain ⟨q, hq, e3⟩ := open_hash t3
  rw [show Try.prog.cellsOf 36 = 1 by kernel_rfl] at e0 e1
  rw [show Try.prog.cellsOf 27 = 1 by kernel_rfl] at e2
  rw [show Try.prog.cellsOf 32 = 32 by kernel_rfl] at e3
  have c0 := one_in (by omega) e0
  have c1 := one_in (by omega) e1
  have c2 := one_in (by omega) e2
  refine ⟨ko, kc, key, no, nc, nonce, ao, cap, B, off, xs, q, ?_, hq, ib0, ⟨hn0, hc0⟩, hm0, ib1, ⟨hn1, hc1⟩, hm1, hcp, hxl, hao, hin⟩
  match cs, hl35 with
  | a0 :: a1 :: a2 :: r, hl35 =>
    simp only [List.getElem?_cons_zero, List.getElem?_cons_succ] at c0 c1 c2
    injection c0 with c0
    injection c1 with c1
    injection c2 with c2
    subst c0 c1 c2
    simp only [List.drop_succ_cons, List.drop_zero] at e3
    rw [List.take_of_length_le (by simp at hl35; omega)] at e3
    rw [e3]; rfl
end
end Go.Proofs.Ythegfkcegmeklaa
