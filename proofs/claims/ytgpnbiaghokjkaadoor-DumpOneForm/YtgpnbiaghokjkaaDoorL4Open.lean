
import Derived.Test.YtgpnbiaghokjkaaDoorL4Fix
import Derived.SizedLaws
import Derived.WalkKit
import Derived.ProofKit
import Derived.OpenShut
import Derived.ShutString
import Derived.ChangeOld
import Derived.Below
import Derived.Deep.Slices
import Derived.Deep.Strs
/-! What comes in, laid open: configs, states, steps, bytes. -/
namespace Go.Proofs.YtgpnbiaghokjkaaDoor
set_option maxRecDepth 100000
open Go.ChangeShapes Go.WideShapes Go.ChangeAt Go.RowKit

theorem list_of {α : Type} (p : Nat → α → Prop) : ∀ (n : Nat), (∀ i, i < n → ∃ x, p i x) → ∃ l : List α, l.length = n ∧ ∀ i x, l[i]? = some x → p i x
  | 0, _ => ⟨[], rfl, by simp⟩
  | n + 1, h => by
    obtain ⟨l, h1, h2⟩ := list_of p n (fun i hi => h i (by omega))
    obtain ⟨y, hy⟩ := h n (by omega)
    refine ⟨l ++ [y], by simp [h1], fun i x hx => ?_⟩
    by_cases hi : i < l.length
    · rw [List.getElem?_append_left hi] at hx
      exact h2 i x hx
    · have hl := (List.getElem?_eq_some_iff.1 hx).1
      simp at hl
      obtain rfl : i = l.length := by omega
      rw [List.getElem?_append_right (Nat.le_refl _)] at hx
      simp at hx
      subst hx
      rw [h1]; exact hy

theorem weights_all {H : Type} {P : Program} {e : TypeId} {n : Nat} {d : DataW H} : ∀ {l : List (DataW H)}, d ∈ l → n ∈ d.weights P e → n ∈ DataW.weightsAll P e l
  | [], h, _ => by cases h
  | x :: r, h, hn => by
    simp only [DataW.weightsAll, List.mem_append]
    rcases List.mem_cons.1 h with rfl | h
    · exact .inl hn
    · exact .inr (weights_all h hn)

section
variable {H : Type} {enc : TypeId × Value → H} {W : World} {n : Nat} {cs : List Value} {x : DataW H × List MemPlace}

theorem open_cell (h : DataW.trod enc Tryd.prog W 0 (fun _ => true) true n 56 cs = some x) : ∃ bs : List By, bs.length = 32 ∧ cs = bs.map B8 := by
  obtain ⟨xs, m, rfl, rfl, hl, hx, hel⟩ := DataW.trod_array Tryd.underlying56 h
  rw [Tryd.cellsCell] at hl
  rw [Tryd.cellsU8] at hel
  obtain ⟨bs, hb1, hb2⟩ := list_of (fun i (b : By) => cs[i]? = some (B8 b)) 32 (fun i hi => by
    have h1 := hel i hi
    rw [List.getElem?_eq_getElem (by omega), Nat.mul_one, List.drop_eq_getElem_cons (by omega)] at h1
    obtain ⟨z, e1, _, hw⟩ := DataW.trod_int Tryd.underlying5 h1
    simp only [List.take_succ_cons, List.take_zero] at e1
    injection e1 with e1 _
    have hb := bounds_u8 hw
    refine ⟨BitVec.ofNat 8 z.toNat, ?_⟩
    rw [List.getElem?_eq_getElem (by omega), e1]
    unfold B8
    rw [BitVec.toNat_ofNat]
    congr 2
    omega)
  refine ⟨bs, hb1, ?_⟩
  apply List.ext_getElem?
  intro i
  by_cases hi : i < 32
  · have hbl : i < bs.length := by omega
    rw [hb2 i bs[i] (List.getElem?_eq_getElem hbl), List.getElem?_map, List.getElem?_eq_getElem hbl]; rfl
  · rw [List.getElem?_eq_none (by omega), List.getElem?_eq_none (by rw [List.length_map]; omega)]

theorem add_add (b off i j : Nat) : (Addr.add ⟨b, off, none⟩ i).add j = ⟨b, off + (i + j), none⟩ := by
  rw [Addr.add_mid, Addr.add_mid, Nat.add_assoc]

theorem flat_div (p : List (List By)) (h8 : ∀ x ∈ p, x.length = 32) (j : Nat) (hj : j < p.flatten.length) : p.flatten[j]? = some ((p.getD (j / 32) []).getD (j % 32) 0) ∧ j / 32 < p.length := by
  have hl := flat_len p h8
  have h1 : j / 32 < p.length := by omega
  have := flat_get p h8 (j / 32) (j % 32) h1 (by omega)
  rw [show 32 * (j / 32) + j % 32 = j by omega] at this
  exact ⟨this, h1⟩

theorem open_cells (h : DataW.trod enc Tryd.prog W 0 (fun _ => true) true n 57 cs = some x) (hsz : ∀ k ∈ x.1.weights Tryd.prog 57, k ≤ reachBytes) :
    ∃ (a : Option Addr) (cap : Nat) (p : List (List By)), cs = [.slice a p.length cap] ∧ (∀ x ∈ p, x.length = 32) ∧ IsL W a (p.flatten.map B8) ∧ (a = none → cap = 0) ∧ p.length ≤ cap ∧ p.length * 32 ≤ reachBytes := by
  rcases Deep.open_slice Tryd.underlying57 h with ⟨rfl, rfl⟩ | ⟨a, len, cap, m, n', D, Pl, rfl, hb, hl, hm, hmm, rfl, hel⟩
  · exact ⟨none, 0, [], rfl, by simp, .inl rfl, fun _ => rfl, by simp, by simp⟩
  · rw [Tryd.cellsCell] at hel
    simp at hmm
    subst hmm
    simp only [DataW.weights, Tryd.underlying57] at hsz
    have hlen : len * 32 ≤ reachBytes := by
      have h1 := hsz _ (List.mem_cons_self ..)
      rw [show Tryd.prog.bytesOf 56 = 32 by kernel_rfl] at h1
      simp only [List.length_map, List.length_range] at h1
      have : len * 32 ≤ (len + (m - len)) * 32 := Nat.mul_le_mul_right _ (by omega)
      omega
    by_cases h0 : 0 < len
    · obtain ⟨b, off, spot⟩ := a
      have hspot : spot = none := by
        obtain ⟨cs', h1, _⟩ := hel 0 (by omega)
        obtain ⟨_, hl3, hc⟩ := World.cells?_some h1
        have h2 := hc 0 (by omega)
        rw [List.getElem?_eq_getElem (by omega)] at h2
        simpa [Addr.add] using World.cell?_spot h2
      subst hspot
      obtain ⟨p, hp1, hp2⟩ := list_of (fun i (bs : List By) => bs.length = 32 ∧ ∀ j v, bs[j]? = some v → W.cell? ⟨b, off + (i * 32 + j), none⟩ = some (B8 v)) len (fun i hi => by
        obtain ⟨cs', h1, h2⟩ := hel i (by omega)
        obtain ⟨bs, hb1, rfl⟩ := open_cell h2
        obtain ⟨_, hl3, hc⟩ := World.cells?_some h1
        refine ⟨bs, hb1, fun j v hj => ?_⟩
        have hjl := (List.getElem?_eq_some_iff.1 hj).1
        have h3 := hc j (by omega)
        rw [add_add, List.getElem?_map, hj] at h3
        exact h3)
      subst hp1
      have h8 : ∀ x ∈ p, x.length = 32 := fun x hx => by
        obtain ⟨i, hi⟩ := List.mem_iff_getElem?.1 hx
        exact (hp2 i x hi).1
      refine ⟨some ⟨b, off, none⟩, m, p, rfl, h8, .inr ⟨b, off, rfl, fun j v hj => ?_⟩, (fun e => by cases e), by omega, hlen⟩
      have hjl := (List.getElem?_eq_some_iff.1 hj).1
      rw [List.length_map] at hjl
      obtain ⟨f1, f2⟩ := flat_div p h8 j hjl
      rw [List.getElem?_map, f1] at hj
      injection hj with hj
      subst hj
      have hg : p[j / 32]? = some (p.getD (j / 32) []) := by rw [List.getD_eq_getElem?_getD, List.getElem?_eq_getElem f2]; rfl
      obtain ⟨g1, g2⟩ := hp2 (j / 32) _ hg
      have := g2 (j % 32) ((p.getD (j / 32) []).getD (j % 32) 0) (by rw [List.getD_eq_getElem?_getD (l := p.getD (j / 32) []), List.getElem?_eq_getElem (by omega)]; rfl)
      rw [show j / 32 * 32 + j % 32 = j by omega] at this
      exact this
    · obtain rfl : len = 0 := by omega
      exact ⟨some a, m, [], rfl, by simp, .inl rfl, (fun e => by cases e), by simp, by simp⟩

theorem open_ones {t e bytes : Nat} (ht : Tryd.prog.underlying t = some (.slice e)) (hc : Tryd.prog.cellsOf e = 1) (hby : Tryd.prog.bytesOf e = bytes) {α : Type} (f : α → Value)
    (hel : ∀ (m : Nat) (v : Value) (y : DataW H × List MemPlace), DataW.trod enc Tryd.prog W 0 (fun _ => true) true m e [v] = some y → (∀ k ∈ y.1.weights Tryd.prog e, k ≤ reachBytes) → ∃ z, v = f z)
    (h : DataW.trod enc Tryd.prog W 0 (fun _ => true) true n t cs = some x) (hsz : ∀ k ∈ x.1.weights Tryd.prog t, k ≤ reachBytes) :
    ∃ (a : Option Addr) (cap : Nat) (zs : List α), cs = [.slice a zs.length cap] ∧ IsL W a (zs.map f) ∧ (a = none → cap = 0) ∧ zs.length ≤ cap ∧ zs.length * bytes ≤ reachBytes := by
  rcases Deep.open_slice1 ht hc h with ⟨rfl, rfl⟩ | ⟨a, len, cap, m, n', V, D, Pl, rfl, hb, hl, hm, hmm, rfl, hx⟩
  · exact ⟨none, 0, [], rfl, .inl rfl, fun _ => rfl, by simp, by simp⟩
  · simp at hmm
    subst hmm
    simp only [DataW.weights, ht] at hsz
    have hlen : len * bytes ≤ reachBytes := by
      have h1 := hsz _ (List.mem_cons_self ..)
      rw [hby] at h1
      simp only [List.length_map, List.length_range] at h1
      have : len * bytes ≤ (len + (m - len)) * bytes := Nat.mul_le_mul_right _ (by omega)
      omega
    by_cases h0 : 0 < len
    · obtain ⟨b, off, spot⟩ := a
      have hspot : spot = none := by
        have h1 := (hx 0 (by omega)).1
        simpa [Addr.add] using World.cell?_spot h1
      subst hspot
      obtain ⟨zs, hz1, hz2⟩ := list_of (fun i (z : α) => W.cell? ⟨b, off + i, none⟩ = some (f z)) len (fun i hi => by
        obtain ⟨h1, h2⟩ := hx i (by omega)
        obtain ⟨z, hz⟩ := hel _ _ _ h2 (fun k hk => hsz k (List.mem_cons_of_mem _ (List.mem_append.2 (.inl (weights_all (d := D i) (List.mem_map.2 ⟨i, List.mem_range.2 hi, rfl⟩) hk)))))
        refine ⟨z, ?_⟩
        rw [Addr.add_mid] at h1
        rw [h1, hz])
      subst hz1
      refine ⟨some ⟨b, off, none⟩, m, zs, rfl, .inr ⟨b, off, rfl, fun j v hj => ?_⟩, (fun e => by cases e), by omega, hlen⟩
      rw [List.getElem?_map] at hj
      cases hzj : zs[j]? with
      | none => rw [hzj] at hj; cases hj
      | some z =>
        rw [hzj] at hj
        injection hj with hj
        rw [← hj]
        exact hz2 j z hzj
    · obtain rfl : len = 0 := by omega
      exact ⟨some a, m, [], rfl, .inl rfl, (fun e => by cases e), by simp, by simp⟩

theorem open_intsL (h : DataW.trod enc Tryd.prog W 0 (fun _ => true) true n 26 cs = some x) (hsz : ∀ k ∈ x.1.weights Tryd.prog 26, k ≤ reachBytes) :
    ∃ (a : Option Addr) (cap : Nat) (zs : List Int), cs = [.slice a zs.length cap] ∧ IsL W a (zs.map (Value.int .i64)) ∧ (a = none → cap = 0) ∧ zs.length ≤ cap ∧ zs.length * 8 ≤ reachBytes :=
  open_ones Tryd.underlying26 (by kernel_rfl) (by kernel_rfl) (Value.int .i64) (fun m v y hy _ => by
    obtain ⟨z, e1, _, _⟩ := DataW.trod_int Tryd.underlying3 hy
    injection e1 with e1 _
    exact ⟨z, e1⟩) h hsz
theorem open_boolsL (h : DataW.trod enc Tryd.prog W 0 (fun _ => true) true n 27 cs = some x) (hsz : ∀ k ∈ x.1.weights Tryd.prog 27, k ≤ reachBytes) :
    ∃ (a : Option Addr) (cap : Nat) (zs : List Bool), cs = [.slice a zs.length cap] ∧ IsL W a (zs.map Value.bool) ∧ (a = none → cap = 0) ∧ zs.length ≤ cap ∧ zs.length * 1 ≤ reachBytes :=
  open_ones Tryd.underlying27 (by kernel_rfl) (by kernel_rfl) Value.bool (fun m v y hy _ => by
    cases m with
    | zero => simp [DataW.trod] at hy
    | succ m =>
      unfold DataW.trod at hy
      rw [Tryd.underlying4] at hy
      cases v <;> simp at hy
      exact ⟨_, rfl⟩) h hsz
/-- The pages of a state. -/
theorem open_pages (h : DataW.trod enc Tryd.prog W 0 (fun _ => true) true n 25 cs = some x) (hsz : ∀ k ∈ x.1.weights Tryd.prog 25, k ≤ reachBytes) :
    ∃ (a : Option Addr) (cap : Nat) (zs : List (Option Addr × Nat × List (List By))), cs = [.slice a zs.length cap] ∧ IsL W a (zs.map fun z => .slice z.1 z.2.2.length z.2.1) ∧ (a = none → cap = 0) ∧ zs.length ≤ cap ∧ zs.length * 24 ≤ reachBytes ∧
      ∀ z ∈ zs, (∀ x ∈ z.2.2, x.length = 32) ∧ IsL W z.1 (z.2.2.flatten.map B8) ∧ (z.1 = none → z.2.1 = 0) ∧ z.2.2.length ≤ z.2.1 ∧ z.2.2.length * 32 ≤ reachBytes := by
  obtain ⟨a, cap, zs, e1, e2, e3, e4, e5⟩ := open_ones (α := { z : Option Addr × Nat × List (List By) // (∀ x ∈ z.2.2, x.length = 32) ∧ IsL W z.1 (z.2.2.flatten.map B8) ∧ (z.1 = none → z.2.1 = 0) ∧ z.2.2.length ≤ z.2.1 ∧ z.2.2.length * 32 ≤ reachBytes }) Tryd.underlying25 (by kernel_rfl) (by kernel_rfl : Tryd.prog.bytesOf 57 = 24) (fun z => .slice z.1.1 z.1.2.2.length z.1.2.1) (fun m v y hy hw => by
    obtain ⟨a, cap, p, e1, e2⟩ := open_cells hy hw
    injection e1 with e1 _
    exact ⟨⟨(a, cap, p), e2⟩, e1⟩) h hsz
  refine ⟨a, cap, zs.map (·.1), by rw [List.length_map]; exact e1, by rw [List.map_map]; exact e2, e3, by rw [List.length_map]; exact e4, by rw [List.length_map]; exact e5, ?_⟩
  intro z hz
  obtain ⟨y, hy, rfl⟩ := List.mem_map.1 hz
  exact y.2
end
end Go.Proofs.YtgpnbiaghokjkaaDoor
