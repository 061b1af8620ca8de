
import Derived.Test.YthegfkcegmeklaaI11Mem
import Derived.SizedLaws
import Derived.WalkKit
import Derived.ProofKit
import Derived.OpenShut
import Derived.ShutString
import Derived.ChangeOld
import Derived.Below
import Derived.Deep.Slices
import Derived.Deep.Strs
/-! Bytes, hashes and rows of single cells that came in, laid open. -/
namespace Go.Proofs.Ythegfkcegmeklaa
open Go.ChangeShapes Go.WideShapes Go.ChangeAt Go.RowKit
set_option maxRecDepth 100000

theorem knob : ownKnob Try.prog.godebug = none := by kernel_rfl
theorem laidOut : laidOutB Try.prog = true := by kernel_rfl
theorem isB_row {W : World} {x : Addr} {len : Nat} {zs : List Int} (hl : len ≤ zs.length) (hcell : ∀ i, i < zs.length → W.cell? (x.add i) = some (.int .u8 (zs.getD i 0))) (hwz : ∀ n ∈ zs, (Lit.int .u8 n).wf = true) :
    ∃ bs : List By, bs.length = len ∧ IsB W (some x) bs := by
  refine ⟨(zs.take len).map (fun z => BitVec.ofNat 8 z.toNat), by simp; omega, ?_⟩
  by_cases h0 : len = 0
  · left; simp [h0]
  · right
    obtain ⟨b, off, spot⟩ := x
    have hc0 := hcell 0 (by omega)
    have hspot : spot = none := by simpa [Addr.add] using World.cell?_spot hc0
    subst hspot
    refine ⟨b, off, rfl, fun j v hj => ?_⟩
    rw [List.getElem?_map, List.getElem?_take] at hj
    split at hj
    · have hjz : j < zs.length := by omega
      rw [List.getElem?_eq_getElem hjz] at hj
      injection hj with hj
      subst hj
      have h1 := hcell j hjz
      rw [Addr.add_mid] at h1
      rw [h1]
      have h2 : zs.getD j 0 = zs[j] := by simp [hjz]
      have h3 := hwz zs[j] (List.getElem_mem hjz)
      have h4 := bounds_u8 h3
      rw [h2]
      unfold B8
      rw [BitVec.toNat_ofNat]
      congr 2
      omega
    · cases hj

theorem open_bytes {H : Type} {enc : TypeId × Value → H} {W : World} {n : Nat} {a : Option Addr} {len cap : Nat} {x : DataW H × List MemPlace}
    (h : DataW.trod enc Try.prog W 0 (fun _ => true) true n 36 [.slice a len cap] = some x) (hsz : ∀ k ∈ x.1.weights Try.prog 36, k ≤ reachBytes) :
    ∃ bs : List By, bs.length = len ∧ IsB W a bs ∧ (a = none → cap = 0) ∧ len ≤ cap ∧ len ≤ 140737488351232 := by
  rcases open_ints Try.underlying36 Try.underlying5 (by kernel_rfl) h with ⟨e2, _⟩ | ⟨a', len', cap', zs, e2, _, hlc, hm, hz, hx, hc, hwz⟩
  · injection e2 with e2 _
    injection e2 with e1 e2 e3
    subst e1; subst e2; subst e3
    exact ⟨[], rfl, .inl rfl, fun _ => rfl, Nat.le_refl _, by omega⟩
  · injection e2 with e2 _
    injection e2 with e1 e2 e3
    subst e1; subst e2; subst e3
    simp at hz
    obtain ⟨bs, hbl, isb⟩ := isB_row (len := len) (by omega) hc hwz
    have hw : (zs.length) * Try.prog.bytesOf 5 ≤ reachBytes := by
      refine hsz _ ?_
      rw [hx]
      simp [DataW.weights, Try.underlying36, lits]
      left
      congr 1
      omega
    rw [show Try.prog.bytesOf 5 = 1 by kernel_rfl] at hw
    simp only [reachBytes] at hw
    exact ⟨bs, hbl, isb, (fun e => by cases e), hlc, by omega⟩
theorem list_of {α : Type} (p : Nat → α → Prop) : ∀ (n : Nat), (∀ i, i < n → ∃ x, p i x) → ∃ l : List α, l.length = n ∧ ∀ i x, l[i]? = some x → p i x
  | 0, _ => ⟨[], rfl, by simp⟩
  | n + 1, h => by
    obtain ⟨l, h1, h2⟩ := list_of p n (fun i hi => h i (by omega))
    obtain ⟨y, hy⟩ := h n (by omega)
    refine ⟨l ++ [y], by simp [h1], fun i x hx => ?_⟩
    by_cases hi : i < l.length
    · rw [List.getElem?_append_left hi] at hx
      exact h2 i x hx
    · have hl := (List.getElem?_eq_some_iff.1 hx).1
      simp at hl
      obtain rfl : i = l.length := by omega
      rw [List.getElem?_append_right (Nat.le_refl _)] at hx
      simp at hx
      subst hx
      rw [h1]; exact hy


theorem weights_all {H : Type} {P : Program} {e : TypeId} {n : Nat} {d : DataW H} : ∀ {l : List (DataW H)}, d ∈ l → n ∈ d.weights P e → n ∈ DataW.weightsAll P e l
  | [], h, _ => by cases h
  | x :: r, h, hn => by
    simp only [DataW.weightsAll, List.mem_append]
    rcases List.mem_cons.1 h with rfl | h
    · exact .inl hn
    · exact .inr (weights_all h hn)


section
variable {H : Type} {enc : TypeId × Value → H} {W : World} {n : Nat} {cs : List Value} {x : DataW H × List MemPlace}

theorem open_hash (h : DataW.trod enc Try.prog W 0 (fun _ => true) true n 32 cs = some x) : ∃ bs : List By, bs.length = 32 ∧ cs = bs.map B8 := by
  obtain ⟨xs, m, rfl, rfl, hl, hx, hel⟩ := DataW.trod_array Try.underlying32 h
  rw [show Try.prog.cellsOf 32 = 32 by kernel_rfl] at hl
  rw [show Try.prog.cellsOf 5 = 1 by kernel_rfl] at hel
  obtain ⟨bs, hb1, hb2⟩ := list_of (fun i (b : By) => cs[i]? = some (B8 b)) 32 (fun i hi => by
    have h1 := hel i hi
    rw [List.getElem?_eq_getElem (by omega), Nat.mul_one, List.drop_eq_getElem_cons (by omega)] at h1
    obtain ⟨z, e1, _, hw⟩ := DataW.trod_int Try.underlying5 h1
    simp only [List.take_succ_cons, List.take_zero] at e1
    injection e1 with e1 _
    have hb := bounds_u8 hw
    refine ⟨BitVec.ofNat 8 z.toNat, ?_⟩
    rw [List.getElem?_eq_getElem (by omega), e1]
    unfold B8
    rw [BitVec.toNat_ofNat]
    congr 2
    omega)
  refine ⟨bs, hb1, ?_⟩
  apply List.ext_getElem?
  intro i
  by_cases hi : i < 32
  · have hbl : i < bs.length := by omega
    rw [hb2 i bs[i] (List.getElem?_eq_getElem hbl), List.getElem?_map, List.getElem?_eq_getElem hbl]; rfl
  · rw [List.getElem?_eq_none (by omega), List.getElem?_eq_none (by rw [List.length_map]; omega)]

theorem open_ones {t e bytes : Nat} (ht : Try.prog.underlying t = some (.slice e)) (hc : Try.prog.cellsOf e = 1) (hby : Try.prog.bytesOf e = bytes) {α : Type} (f : α → Value)
    (hel : ∀ (m : Nat) (v : Value) (y : DataW H × List MemPlace), DataW.trod enc Try.prog W 0 (fun _ => true) true m e [v] = some y → (∀ k ∈ y.1.weights Try.prog e, k ≤ reachBytes) → ∃ z, v = f z)
    (h : DataW.trod enc Try.prog W 0 (fun _ => true) true n t cs = some x) (hsz : ∀ k ∈ x.1.weights Try.prog t, k ≤ reachBytes) :
    ∃ (a : Option Addr) (cap : Nat) (zs : List α), cs = [.slice a zs.length cap] ∧ IsL W a (zs.map f) ∧ (a = none → cap = 0) ∧ zs.length ≤ cap ∧ zs.length * bytes ≤ reachBytes := by
  rcases Deep.open_slice1 ht hc h with ⟨rfl, rfl⟩ | ⟨a, len, cap, m, n', V, D, Pl, rfl, hb, hl, hm, hmm, rfl, hx⟩
  · exact ⟨none, 0, [], rfl, .inl rfl, fun _ => rfl, by simp, by simp⟩
  · simp at hmm
    subst hmm
    simp only [DataW.weights, ht] at hsz
    have hlen : len * bytes ≤ reachBytes := by
      have h1 := hsz _ (List.mem_cons_self ..)
      rw [hby] at h1
      simp only [List.length_map, List.length_range] at h1
      have : len * bytes ≤ (len + (m - len)) * bytes := Nat.mul_le_mul_right _ (by omega)
      omega
    by_cases h0 : 0 < len
    · obtain ⟨b, off, spot⟩ := a
      have hspot : spot = none := by
        have h1 := (hx 0 (by omega)).1
        simpa [Addr.add] using World.cell?_spot h1
      subst hspot
      obtain ⟨zs, hz1, hz2⟩ := list_of (fun i (z : α) => W.cell? ⟨b, off + i, none⟩ = some (f z)) len (fun i hi => by
        obtain ⟨h1, h2⟩ := hx i (by omega)
        obtain ⟨z, hz⟩ := hel _ _ _ h2 (fun k hk => hsz k (List.mem_cons_of_mem _ (List.mem_append.2 (.inl (weights_all (d := D i) (List.mem_map.2 ⟨i, List.mem_range.2 hi, rfl⟩) hk)))))
        refine ⟨z, ?_⟩
        rw [Addr.add_mid] at h1
        rw [h1, hz])
      subst hz1
      refine ⟨some ⟨b, off, none⟩, m, zs, rfl, .inr ⟨b, off, rfl, fun j v hj => ?_⟩, (fun e => by cases e), by omega, hlen⟩
      rw [List.getElem?_map] at hj
      cases hzj : zs[j]? with
      | none => rw [hzj] at hj; cases hj
      | some z =>
        rw [hzj] at hj
        injection hj with hj
        rw [← hj]
        exact hz2 j z hzj
    · obtain rfl : len = 0 := by omega
      exact ⟨some a, m, [], rfl, .inl rfl, (fun e => by cases e), by simp, by simp⟩
end
end Go.Proofs.Ythegfkcegmeklaa
