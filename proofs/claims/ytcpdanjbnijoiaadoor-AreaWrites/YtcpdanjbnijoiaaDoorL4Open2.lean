import Derived.Test.YtcpdanjbnijoiaaDoorArWPgs
import Derived.Test.YtcpdanjbnijoiaaDoorL4Good
import Derived.SizedLaws
import Derived.WalkKit
import Derived.ProofKit
import Derived.OpenShut
import Derived.ShutString
import Derived.ChangeOld
import Derived.Below
import Derived.Deep.Slices
import Derived.Deep.Strs

/-! AreaWrites: what Write leaves, told as the statement asks it. -/
namespace Go.Proofs.YtcpdanjbnijoiaaDoor
open Go.RowKit
set_option linter.unusedVariables false

theorem sumTo_sub (f g : Nat → Int) : ∀ m, sumTo (fun p => f p - g p) m = sumTo f m - sumTo g m
  | 0 => by unfold sumTo; rfl
  | m + 1 => by
    have ih := sumTo_sub f g m
    have e1 : sumTo (fun p => f p - g p) (m + 1) = sumTo (fun p => f p - g p) m + (f m - g m) := rfl
    have e2 : sumTo f (m + 1) = sumTo f m + f m := rfl
    have e3 : sumTo g (m + 1) = sumTo g m + g m := rfl
    omega
theorem cellOf_get (b : List By) (j : Nat) : (cellOf b (j / 32)).getD (j % 32) 0 = b.getD j 255#8 := by
  unfold cellOf
  have h : j % 32 < 32 := Nat.mod_lt _ (by omega)
  rw [List.getD_eq_getElem?_getD, List.getElem?_map, List.getElem?_range h]
  show b.getD (32 * (j / 32) + j % 32) 255#8 = _
  congr 1
  omega
theorem blankC_get (j : Nat) (hj : j < 32) : blankC.getD (j % 32) 0 = 255#8 := by
  rw [Nat.mod_eq_of_lt hj]
  unfold blankC
  rw [List.getD_eq_getElem?_getD, List.getElem?_replicate, if_pos hj]; rfl

theorem awf_dE {a : Int} {b : List By} {s t : RS} {e : Int} (h : AWF a b s t e) : dE t s.st a s.c.area.toNat = t.esum a - s.esum a := by
  unfold dE RS.esum
  rw [h.c, ← sumTo_sub]
  exact sumTo_congr fun j _ => by
    unfold RS.era
    rw [pgN_c h.c]; rfl

theorem awf_fins {a : Int} (ha : a = 0 ∨ a = 1) {b : List By} {s t : RS} {e : Int} (hs : s.Ar) (hn : s.n = 0) (hb : (b.length : Int) ≤ s.c.asize) (h : AWF a b s t e) : Fins t s.st a s.c b e := by
  have hA := hs.area
  have hC := hs.cells
  have hMC : s.c.area.toNat * s.c.cells.toNat ≤ 64 * 256 := Nat.mul_le_mul (by omega) (by omega)
  have hsz : s.c.asize = ((s.c.area.toNat * s.c.cells.toNat * 32 : Nat) : Int) := by
    rw [hs.asize, Int.natCast_mul, Int.natCast_mul, Int.toNat_of_nonneg hA.1, Int.toNat_of_nonneg (by omega)]; rfl
  have hdE := awf_dE h
  generalize hMCe : s.c.area.toNat * s.c.cells.toNat = MC at *
  have he : e = 0 ∨ e = 8 := by
    rcases h.e with h1 | h1 | h1
    · exact .inl h1.1
    · exact .inr h1.1
    · exact .inr h1.1
  refine .inr ⟨he, ⟨by omega, ha, h.ar, h.c, h.el.symm, fun q => h.pe q⟩, MC * 32, by rw [h.c, hMCe], by omega, ?_⟩
  intro wh fi bl h1 h2 h3
  have hcell : ∀ j, j < MC * 32 → t.acell a (j / 32) = cellOf b (j / 32) → t.abyte a j = b.getD j 255#8 := fun j hj hc => by
    unfold RS.abyte; rw [hc]; exact cellOf_get b j
  rcases h.e with ⟨e0, hc⟩ | ⟨e8, hn2, hc⟩ | ⟨e8, hn2, hc⟩
  · refine .inl ⟨e0, h1 fun j _ hj => hcell j hj (hc _ (by omega)), h2 fun j _ hj => hcell j hj (hc _ (by omega))⟩
  · refine .inr ⟨e8, .inl ⟨by rw [hdE]; omega, h1 fun j h32 hj => hcell j hj (hc _ (by omega) (by omega))⟩⟩
  · refine .inr ⟨e8, .inr ⟨by rw [hdE]; omega, ?_⟩⟩
    rcases hc with hc | hc
    · refine .inl (h3 fun j hj _ => ?_)
      unfold RS.abyte
      rw [Nat.div_eq_of_lt hj, hc]; exact blankC_get j hj
    · exact .inr (by rw [hdE]; omega)

/-- All that AreaWrites asks of Write, as plain data. -/
structure Wrt (s s1 : RS) (a : Int) (b : List By) (f : Int) : Prop where
  bl : s.blown = s1.blown
  pl : s.pages.length = s1.pages.length
  pg : ∀ p, p < s1.pages.length → ¬ (Mine a s.c.area p ∧ (f = 0 ∨ f = 8)) → s.pages.getD p [] = s1.pages.getD p []
  fin : Fins s1 s.st a s.c b f
theorem Wrt.refl (s : RS) (a : Int) (b : List By) (f : Int) (hn : s.n = 0) (h0 : f ≠ 0) (h8 : f ≠ 8) : Wrt s s a b f := ⟨rfl, rfl, fun _ _ _ => rfl, .inl ⟨h0, h8, hn⟩⟩
theorem awrite_wrt (s : RS) (hA : s.Ar) (hg : s.gone = false) (hn : s.n = 0) (a : Int) (b : List By) : Wrt s (s.awrite a b).1 a b (s.awrite a b).2 := by
  unfold RS.awrite
  split
  · rename_i h0
    obtain ⟨_, ha⟩ := areaE_zero h0
    split
    · exact Wrt.refl s a b 1 hn (by decide) (by decide)
    · rename_i hb0
      split
      · exact Wrt.refl s a b 4 hn (by decide) (by decide)
      · rename_i hb1
        split
        · exact Wrt.refl s a b 9 hn (by decide) (by decide)
        · rename_i hw
          have F := awf ha b s hA hg (by omega) (by omega) (by simpa using hw)
          refine ⟨F.bl.symm, F.pl.symm, fun p hp hm => (F.oth p fun j hj e => hm ⟨?_, ?_⟩).symm, awf_fins ha hA hn (by omega) F⟩
          · have h1 := (hA.pg ha hj).1
            have h2 := hA.area
            rw [← e] at h1
            refine ⟨ha, by omega, ?_⟩
            rw [Int.add_mul, Int.one_mul]; omega
          · rcases F.e with h1 | h1 | h1
            · exact .inl h1.1
            · exact .inr h1.1
            · exact .inr h1.1
  · rename_i h0
    have h2 : s.areaE a = 2 := by
      rcases areaE_or s a with h | ⟨_, h⟩
      · rw [hg] at h; exact absurd h.2 (by decide)
      · rcases h with h | h
        · exact h.1
        · exact absurd h.1 h0
    exact Wrt.refl s a b _ hn (by show s.areaE a ≠ 0; exact h0) (by show s.areaE a ≠ 8; rw [h2]; decide)
end Go.Proofs.YtcpdanjbnijoiaaDoor


/-! What comes in, laid open: configs, states, steps, bytes. -/
namespace Go.Proofs.YtcpdanjbnijoiaaDoor
set_option maxRecDepth 100000
open Go.ChangeShapes Go.WideShapes Go.ChangeAt Go.RowKit

theorem list_of {α : Type} (p : Nat → α → Prop) : ∀ (n : Nat), (∀ i, i < n → ∃ x, p i x) → ∃ l : List α, l.length = n ∧ ∀ i x, l[i]? = some x → p i x
  | 0, _ => ⟨[], rfl, by simp⟩
  | n + 1, h => by
    obtain ⟨l, h1, h2⟩ := list_of p n (fun i hi => h i (by omega))
    obtain ⟨y, hy⟩ := h n (by omega)
    refine ⟨l ++ [y], by simp [h1], fun i x hx => ?_⟩
    by_cases hi : i < l.length
    · rw [List.getElem?_append_left hi] at hx
      exact h2 i x hx
    · have hl := (List.getElem?_eq_some_iff.1 hx).1
      simp at hl
      obtain rfl : i = l.length := by omega
      rw [List.getElem?_append_right (Nat.le_refl _)] at hx
      simp at hx
      subst hx
      rw [h1]; exact hy

theorem weights_all {H : Type} {P : Program} {e : TypeId} {n : Nat} {d : DataW H} : ∀ {l : List (DataW H)}, d ∈ l → n ∈ d.weights P e → n ∈ DataW.weightsAll P e l
  | [], h, _ => by cases h
  | x :: r, h, hn => by
    simp only [DataW.weightsAll, List.mem_append]
    rcases List.mem_cons.1 h with rfl | h
    · exact .inl hn
    · exact .inr (weights_all h hn)

section
variable {H : Type} {enc : TypeId × Value → H} {W : World} {n : Nat} {cs : List Value} {x : DataW H × List MemPlace}

theorem open_cell (h : DataW.trod enc Tryd.prog W 0 (fun _ => true) true n 40 cs = some x) : ∃ bs : List By, bs.length = 32 ∧ cs = bs.map B8 := by
  obtain ⟨xs, m, rfl, rfl, hl, hx, hel⟩ := DataW.trod_array Tryd.underlying40 h
  rw [Tryd.cellsCell] at hl
  rw [Tryd.cellsU8] at hel
  obtain ⟨bs, hb1, hb2⟩ := list_of (fun i (b : By) => cs[i]? = some (B8 b)) 32 (fun i hi => by
    have h1 := hel i hi
    rw [List.getElem?_eq_getElem (by omega), Nat.mul_one, List.drop_eq_getElem_cons (by omega)] at h1
    obtain ⟨z, e1, _, hw⟩ := DataW.trod_int Tryd.underlying5 h1
    simp only [List.take_succ_cons, List.take_zero] at e1
    injection e1 with e1 _
    have hb := bounds_u8 hw
    refine ⟨BitVec.ofNat 8 z.toNat, ?_⟩
    rw [List.getElem?_eq_getElem (by omega), e1]
    unfold B8
    rw [BitVec.toNat_ofNat]
    congr 2
    omega)
  refine ⟨bs, hb1, ?_⟩
  apply List.ext_getElem?
  intro i
  by_cases hi : i < 32
  · have hbl : i < bs.length := by omega
    rw [hb2 i bs[i] (List.getElem?_eq_getElem hbl), List.getElem?_map, List.getElem?_eq_getElem hbl]; rfl
  · rw [List.getElem?_eq_none (by omega), List.getElem?_eq_none (by rw [List.length_map]; omega)]

theorem add_add (b off i j : Nat) : (Addr.add ⟨b, off, none⟩ i).add j = ⟨b, off + (i + j), none⟩ := by
  rw [Addr.add_mid, Addr.add_mid, Nat.add_assoc]

theorem flat_div (p : List (List By)) (h8 : ∀ x ∈ p, x.length = 32) (j : Nat) (hj : j < p.flatten.length) : p.flatten[j]? = some ((p.getD (j / 32) []).getD (j % 32) 0) ∧ j / 32 < p.length := by
  have hl := flat_len p h8
  have h1 : j / 32 < p.length := by omega
  have := flat_get p h8 (j / 32) (j % 32) h1 (by omega)
  rw [show 32 * (j / 32) + j % 32 = j by omega] at this
  exact ⟨this, h1⟩

theorem open_cells (h : DataW.trod enc Tryd.prog W 0 (fun _ => true) true n 38 cs = some x) (hsz : ∀ k ∈ x.1.weights Tryd.prog 38, k ≤ reachBytes) :
    ∃ (a : Option Addr) (cap : Nat) (p : List (List By)), cs = [.slice a p.length cap] ∧ (∀ x ∈ p, x.length = 32) ∧ IsL W a (p.flatten.map B8) ∧ (a = none → cap = 0) ∧ p.length ≤ cap ∧ p.length * 32 ≤ reachBytes := by
  rcases Deep.open_slice Tryd.underlying38 h with ⟨rfl, rfl⟩ | ⟨a, len, cap, m, n', D, Pl, rfl, hb, hl, hm, hmm, rfl, hel⟩
  · exact ⟨none, 0, [], rfl, by simp, .inl rfl, fun _ => rfl, by simp, by simp⟩
  · rw [Tryd.cellsCell] at hel
    simp at hmm
    subst hmm
    simp only [DataW.weights, Tryd.underlying38] at hsz
    have hlen : len * 32 ≤ reachBytes := by
      have h1 := hsz _ (List.mem_cons_self ..)
      rw [show Tryd.prog.bytesOf 40 = 32 by kernel_rfl] at h1
      simp only [List.length_map, List.length_range] at h1
      have : len * 32 ≤ (len + (m - len)) * 32 := Nat.mul_le_mul_right _ (by omega)
      omega
    by_cases h0 : 0 < len
    · obtain ⟨b, off, spot⟩ := a
      have hspot : spot = none := by
        obtain ⟨cs', h1, _⟩ := hel 0 (by omega)
        obtain ⟨_, hl3, hc⟩ := World.cells?_some h1
        have h2 := hc 0 (by omega)
        rw [List.getElem?_eq_getElem (by omega)] at h2
        simpa [Addr.add] using World.cell?_spot h2
      subst hspot
      obtain ⟨p, hp1, hp2⟩ := list_of (fun i (bs : List By) => bs.length = 32 ∧ ∀ j v, bs[j]? = some v → W.cell? ⟨b, off + (i * 32 + j), none⟩ = some (B8 v)) len (fun i hi => by
        obtain ⟨cs', h1, h2⟩ := hel i (by omega)
        obtain ⟨bs, hb1, rfl⟩ := open_cell h2
        obtain ⟨_, hl3, hc⟩ := World.cells?_some h1
        refine ⟨bs, hb1, fun j v hj => ?_⟩
        have hjl := (List.getElem?_eq_some_iff.1 hj).1
        have h3 := hc j (by omega)
        rw [add_add, List.getElem?_map, hj] at h3
        exact h3)
      subst hp1
      have h8 : ∀ x ∈ p, x.length = 32 := fun x hx => by
        obtain ⟨i, hi⟩ := List.mem_iff_getElem?.1 hx
        exact (hp2 i x hi).1
      refine ⟨some ⟨b, off, none⟩, m, p, rfl, h8, .inr ⟨b, off, rfl, fun j v hj => ?_⟩, (fun e => by cases e), by omega, hlen⟩
      have hjl := (List.getElem?_eq_some_iff.1 hj).1
      rw [List.length_map] at hjl
      obtain ⟨f1, f2⟩ := flat_div p h8 j hjl
      rw [List.getElem?_map, f1] at hj
      injection hj with hj
      subst hj
      have hg : p[j / 32]? = some (p.getD (j / 32) []) := by rw [List.getD_eq_getElem?_getD, List.getElem?_eq_getElem f2]; rfl
      obtain ⟨g1, g2⟩ := hp2 (j / 32) _ hg
      have := g2 (j % 32) ((p.getD (j / 32) []).getD (j % 32) 0) (by rw [List.getD_eq_getElem?_getD (l := p.getD (j / 32) []), List.getElem?_eq_getElem (by omega)]; rfl)
      rw [show j / 32 * 32 + j % 32 = j by omega] at this
      exact this
    · obtain rfl : len = 0 := by omega
      exact ⟨some a, m, [], rfl, by simp, .inl rfl, (fun e => by cases e), by simp, by simp⟩

theorem spot_none {a : Addr} {v : Value} (h : W.cell? a = some v) : a.spot = none := World.cell?_spot h

theorem open_ones {t e bytes : Nat} (ht : Tryd.prog.underlying t = some (.slice e)) (hc : Tryd.prog.cellsOf e = 1) (hby : Tryd.prog.bytesOf e = bytes) {α : Type} (f : α → Value)
    (hel : ∀ (m : Nat) (v : Value) (y : DataW H × List MemPlace), DataW.trod enc Tryd.prog W 0 (fun _ => true) true m e [v] = some y → (∀ k ∈ y.1.weights Tryd.prog e, k ≤ reachBytes) → ∃ z, v = f z)
    (h : DataW.trod enc Tryd.prog W 0 (fun _ => true) true n t cs = some x) (hsz : ∀ k ∈ x.1.weights Tryd.prog t, k ≤ reachBytes) :
    ∃ (a : Option Addr) (cap : Nat) (zs : List α), cs = [.slice a zs.length cap] ∧ IsL W a (zs.map f) ∧ (a = none → cap = 0) ∧ zs.length ≤ cap ∧ zs.length * bytes ≤ reachBytes := by
  rcases Deep.open_slice1 ht hc h with ⟨rfl, rfl⟩ | ⟨a, len, cap, m, n', V, D, Pl, rfl, hb, hl, hm, hmm, rfl, hx⟩
  · exact ⟨none, 0, [], rfl, .inl rfl, fun _ => rfl, by simp, by simp⟩
  · simp at hmm
    subst hmm
    simp only [DataW.weights, ht] at hsz
    have hlen : len * bytes ≤ reachBytes := by
      have h1 := hsz _ (List.mem_cons_self ..)
      rw [hby] at h1
      simp only [List.length_map, List.length_range] at h1
      have : len * bytes ≤ (len + (m - len)) * bytes := Nat.mul_le_mul_right _ (by omega)
      omega
    by_cases h0 : 0 < len
    · obtain ⟨b, off, spot⟩ := a
      have hspot : spot = none := by
        have h1 := (hx 0 (by omega)).1
        simpa [Addr.add] using World.cell?_spot h1
      subst hspot
      obtain ⟨zs, hz1, hz2⟩ := list_of (fun i (z : α) => W.cell? ⟨b, off + i, none⟩ = some (f z)) len (fun i hi => by
        obtain ⟨h1, h2⟩ := hx i (by omega)
        obtain ⟨z, hz⟩ := hel _ _ _ h2 (fun k hk => hsz k (List.mem_cons_of_mem _ (List.mem_append.2 (.inl (weights_all (d := D i) (List.mem_map.2 ⟨i, List.mem_range.2 hi, rfl⟩) hk)))))
        refine ⟨z, ?_⟩
        rw [Addr.add_mid] at h1
        rw [h1, hz])
      subst hz1
      refine ⟨some ⟨b, off, none⟩, m, zs, rfl, .inr ⟨b, off, rfl, fun j v hj => ?_⟩, (fun e => by cases e), by omega, hlen⟩
      rw [List.getElem?_map] at hj
      cases hzj : zs[j]? with
      | none => rw [hzj] at hj; cases hj
      | some z =>
        rw [hzj] at hj
        injection hj with hj
        rw [← hj]
        exact hz2 j z hzj
    · obtain rfl : len = 0 := by omega
      exact ⟨some a, m, [], rfl, .inl rfl, (fun e => by cases e), by simp, by simp⟩

theorem open_intsL (h : DataW.trod enc Tryd.prog W 0 (fun _ => true) true n 25 cs = some x) (hsz : ∀ k ∈ x.1.weights Tryd.prog 25, k ≤ reachBytes) :
    ∃ (a : Option Addr) (cap : Nat) (zs : List Int), cs = [.slice a zs.length cap] ∧ IsL W a (zs.map (Value.int .i64)) ∧ (a = none → cap = 0) ∧ zs.length ≤ cap ∧ zs.length * 8 ≤ reachBytes :=
  open_ones Tryd.underlying25 (by kernel_rfl) (by kernel_rfl) (Value.int .i64) (fun m v y hy _ => by
    obtain ⟨z, e1, _, _⟩ := DataW.trod_int Tryd.underlying3 hy
    injection e1 with e1 _
    exact ⟨z, e1⟩) h hsz
theorem open_boolsL (h : DataW.trod enc Tryd.prog W 0 (fun _ => true) true n 26 cs = some x) (hsz : ∀ k ∈ x.1.weights Tryd.prog 26, k ≤ reachBytes) :
    ∃ (a : Option Addr) (cap : Nat) (zs : List Bool), cs = [.slice a zs.length cap] ∧ IsL W a (zs.map Value.bool) ∧ (a = none → cap = 0) ∧ zs.length ≤ cap ∧ zs.length * 1 ≤ reachBytes :=
  open_ones Tryd.underlying26 (by kernel_rfl) (by kernel_rfl) Value.bool (fun m v y hy _ => by
    cases m with
    | zero => simp [DataW.trod] at hy
    | succ m =>
      unfold DataW.trod at hy
      rw [Tryd.underlying4] at hy
      cases v <;> simp at hy
      exact ⟨_, rfl⟩) h hsz
theorem open_bytesL (h : DataW.trod enc Tryd.prog W 0 (fun _ => true) true n 29 cs = some x) (hsz : ∀ k ∈ x.1.weights Tryd.prog 29, k ≤ reachBytes) :
    ∃ (a : Option Addr) (cap : Nat) (zs : List By), cs = [.slice a zs.length cap] ∧ IsB W a zs ∧ (a = none → cap = 0) ∧ zs.length ≤ cap ∧ zs.length * 1 ≤ reachBytes := by
  obtain ⟨a, cap, zs, e1, e2, e3⟩ := open_ones (α := By) Tryd.underlying29 (by kernel_rfl) (by kernel_rfl : Tryd.prog.bytesOf 5 = 1) B8 (fun m v y hy _ => by
    obtain ⟨z, e1, _, hw⟩ := DataW.trod_int Tryd.underlying5 hy
    injection e1 with e1 _
    have hb := bounds_u8 hw
    refine ⟨BitVec.ofNat 8 z.toNat, ?_⟩
    rw [e1]
    unfold B8
    rw [BitVec.toNat_ofNat]
    congr 1
    omega) h hsz
  refine ⟨a, cap, zs, e1, ?_, e3⟩
  rcases e2 with e2 | ⟨B, off, rfl, hc⟩
  · exact .inl (by simpa using e2)
  · exact .inr ⟨B, off, rfl, fun j v hj => hc j _ (by rw [List.getElem?_map, hj]; rfl)⟩

/-- The pages of a state. -/
theorem open_pages (h : DataW.trod enc Tryd.prog W 0 (fun _ => true) true n 24 cs = some x) (hsz : ∀ k ∈ x.1.weights Tryd.prog 24, k ≤ reachBytes) :
    ∃ (a : Option Addr) (cap : Nat) (zs : List (Option Addr × Nat × List (List By))), cs = [.slice a zs.length cap] ∧ IsL W a (zs.map fun z => .slice z.1 z.2.2.length z.2.1) ∧ (a = none → cap = 0) ∧ zs.length ≤ cap ∧ zs.length * 24 ≤ reachBytes ∧
      ∀ z ∈ zs, (∀ x ∈ z.2.2, x.length = 32) ∧ IsL W z.1 (z.2.2.flatten.map B8) ∧ (z.1 = none → z.2.1 = 0) ∧ z.2.2.length ≤ z.2.1 ∧ z.2.2.length * 32 ≤ reachBytes := by
  obtain ⟨a, cap, zs, e1, e2, e3, e4, e5⟩ := open_ones (α := { z : Option Addr × Nat × List (List By) // (∀ x ∈ z.2.2, x.length = 32) ∧ IsL W z.1 (z.2.2.flatten.map B8) ∧ (z.1 = none → z.2.1 = 0) ∧ z.2.2.length ≤ z.2.1 ∧ z.2.2.length * 32 ≤ reachBytes }) Tryd.underlying24 (by kernel_rfl) (by kernel_rfl : Tryd.prog.bytesOf 38 = 24) (fun z => .slice z.1.1 z.1.2.2.length z.1.2.1) (fun m v y hy hw => by
    obtain ⟨a, cap, p, e1, e2⟩ := open_cells hy hw
    injection e1 with e1 _
    exact ⟨⟨(a, cap, p), e2⟩, e1⟩) h hsz
  refine ⟨a, cap, zs.map (·.1), by rw [List.length_map]; exact e1, by rw [List.map_map]; exact e2, e3, by rw [List.length_map]; exact e4, by rw [List.length_map]; exact e5, ?_⟩
  intro z hz
  obtain ⟨y, hy, rfl⟩ := List.mem_map.1 hz
  exact y.2
end
end Go.Proofs.YtcpdanjbnijoiaaDoor


/-! Configs, states and steps that come in. -/
namespace Go.Proofs.YtcpdanjbnijoiaaDoor
set_option maxRecDepth 100000
open Go.ChangeShapes Go.WideShapes Go.ChangeAt Go.RowKit

section
variable {H : Type} {enc : TypeId × Value → H} {W : World} {n : Nat} {cs : List Value} {x : DataW H × List MemPlace}

theorem int_at {m i : Nat} {xs : List (DataW H × List MemPlace)} (hl : i < cs.length) (hx : i < xs.length) (h : DataW.trod enc Tryd.prog W 0 (fun _ => true) true m 3 ((cs.drop i).take (Tryd.prog.cellsOf 3)) = xs[i]?) : ∃ z, cs[i]? = some (.int .i64 z) ∧ -9223372036854775808 ≤ z ∧ z < 9223372036854775808 := by
  rw [show Tryd.prog.cellsOf 3 = 1 by kernel_rfl, List.getElem?_eq_getElem hx, List.drop_eq_getElem_cons hl] at h
  obtain ⟨z, e1, _, hw⟩ := DataW.trod_int Tryd.underlying3 h
  simp only [List.take_succ_cons, List.take_zero] at e1
  injection e1 with e1 _
  refine ⟨z, by rw [List.getElem?_eq_getElem hl, e1], ?_⟩
  simp only [Lit.wf, IntKind.min, IntKind.max, IntKind.signed, IntKind.bits, Bool.and_eq_true, decide_eq_true_eq] at hw
  simp at hw
  omega

theorem seven {v0 v1 v2 v3 v4 v5 v6 : Value} (hl : cs.length = 7) (h0 : cs[0]? = some v0) (h1 : cs[1]? = some v1) (h2 : cs[2]? = some v2) (h3 : cs[3]? = some v3) (h4 : cs[4]? = some v4) (h5 : cs[5]? = some v5) (h6 : cs[6]? = some v6) : cs = [v0, v1, v2, v3, v4, v5, v6] := by
  match cs, hl with
  | [a0, a1, a2, a3, a4, a5, a6], _ =>
    simp at h0 h1 h2 h3 h4 h5 h6
    subst h0 h1 h2 h3 h4 h5 h6; rfl

theorem open_cfg (h : DataW.trod enc Tryd.prog W 0 (fun _ => true) true n 23 cs = some x) : ∃ c : Cfg, cs = c.vals := by
  obtain ⟨xs, m, rfl, rfl, hl, hx, hf⟩ := DataW.trod_struct Tryd.underlying23 h
  have hl7 : cs.length = 7 := by rw [hl]; kernel_rfl
  have hx7 : xs.length = 7 := hx
  obtain ⟨z0, e0, _⟩ := int_at (i := 0) (by omega) (by omega) (hf 0 _ rfl)
  obtain ⟨z1, e1, _⟩ := int_at (i := 1) (by omega) (by omega) (hf 1 _ rfl)
  obtain ⟨z2, e2, _⟩ := int_at (i := 2) (by omega) (by omega) (hf 2 _ rfl)
  obtain ⟨z3, e3, _⟩ := int_at (i := 3) (by omega) (by omega) (hf 3 _ rfl)
  obtain ⟨z4, e4, _⟩ := int_at (i := 4) (by omega) (by omega) (hf 4 _ rfl)
  obtain ⟨z5, e5, _⟩ := int_at (i := 5) (by omega) (by omega) (hf 5 _ rfl)
  obtain ⟨z6, e6, _⟩ := int_at (i := 6) (by omega) (by omega) (hf 6 _ rfl)
  exact ⟨⟨z0, z1, z2, z3, z4, z5, z6⟩, seven hl7 e0 e1 e2 e3 e4 e5 e6⟩

/-- What is known of a state that came in. -/
structure StIn (W : World) (v : SV) (t : St) : Prop where
  view : StV W v t
  en : v.eo = none → v.ec = 0
  bn : v.bo = none → v.bc = 0
  pn : ∀ B off p k qc, v.po = some ⟨B, off, none⟩ → p < t.pages.length → W.cell? ⟨B, off + p, none⟩ = some (.slice none k qc) → qc = 0
  l1 : t.pages.length * 24 ≤ reachBytes
  l2 : t.erases.length * 8 ≤ reachBytes
  l3 : t.blown.length ≤ reachBytes
  lp : ∀ p ∈ t.pages, p.length * 32 ≤ reachBytes

theorem one_take (i : Nat) (h : i < cs.length) : (cs.drop i).take 1 = [cs[i]] := by
  rw [List.drop_eq_getElem_cons h]; rfl

theorem open_state (h : DataW.trod enc Tryd.prog W 0 (fun _ => true) true n 28 cs = some x) (hsz : ∀ k ∈ x.1.weights Tryd.prog 28, k ≤ reachBytes) : ∃ (v : SV) (t : St), cs = v.vals t ∧ StIn W v t := by
  obtain ⟨y0, y1, y2, m, rfl, hl, t0, t1, t2⟩ := Deep.trod_struct3 Tryd.underlying28 h
  have hl3 : cs.length = 3 := by rw [hl]; kernel_rfl
  have hw : ∀ (j : Nat) (T : TypeId) (d : DataW H), [24, 25, 26][j]? = some T → [y0.1, y1.1, y2.1][j]? = some d → ∀ k ∈ d.weights Tryd.prog T, k ≤ reachBytes := by
    intro j T d h1 h2 k hk
    refine hsz k ?_
    simp only [DataW.weights, Tryd.underlying28]
    exact DataW.weights_mem_each (j := j) (t := T) (d := d) h1 h2 k hk
  obtain ⟨po, pc, zs, e0, i0, n0, _, b0, f0⟩ := open_pages t0 (hw 0 _ _ rfl rfl)
  obtain ⟨eo, ec, es, e1, i1, n1, _, b1⟩ := open_intsL t1 (hw 1 _ _ rfl rfl)
  obtain ⟨bo, bc, bs, e2, i2, n2, _, b2⟩ := open_boolsL t2 (hw 2 _ _ rfl rfl)
  refine ⟨⟨po, pc, eo, ec, bo, bc⟩, ⟨zs.map (·.2.2), es, bs⟩, ?_, ?_⟩
  · match cs, hl3 with
    | [a0, a1, a2], _ =>
      rw [show Tryd.prog.cellsOf _ = 1 by kernel_rfl] at e0 e1 e2
      simp only [List.drop_zero, List.take_succ_cons, List.take_zero, List.drop_succ_cons] at e0 e1 e2
      injection e0 with e0 _
      injection e1 with e1 _
      injection e2 with e2 _
      subst e0 e1 e2
      simp [SV.vals]
  · have hpg : StV W ⟨po, pc, eo, ec, bo, bc⟩ ⟨zs.map (·.2.2), es, bs⟩ := by
      refine ⟨⟨zs.map (fun z => (z.1, z.2.1)), by simp, ?_, ?_⟩, i1, i2, ?_⟩
      · have : List.zipWith (fun (q : Option Addr × Nat) p => Value.slice q.1 (List.length p) q.2) (zs.map (fun z => (z.1, z.2.1))) (zs.map (·.2.2)) = zs.map fun z => .slice z.1 z.2.2.length z.2.1 := by
          rw [List.zipWith_map]
          clear i0 e0 b0 f0
          induction zs with
          | nil => rfl
          | cons z zs ih => simp
        show IsL W po (List.zipWith _ (zs.map (fun z => (z.1, z.2.1))) (zs.map (·.2.2)))
        rw [this]; exact i0
      · intro i q p hq hp
        rw [List.getElem?_map] at hq
        have hp' : (zs.map (·.2.2))[i]? = some p := hp
        rw [List.getElem?_map] at hp'
        cases hz : zs[i]? with
        | none => rw [hz] at hq; cases hq
        | some z =>
          rw [hz] at hq hp'
          injection hq with hq
          injection hp' with hp'
          subst hq hp'
          exact (f0 z (List.mem_of_getElem? hz)).2.1
      · intro p hp
        obtain ⟨z, hz, rfl⟩ := List.mem_map.1 hp
        exact (f0 z hz).1
    refine ⟨hpg, n1, n2, ?_, by simpa using b0, b1, by show bs.length ≤ _; omega, ?_⟩
    · intro B off p k qc h1 h2 h3
      have h2' : p < zs.length := by simpa using h2
      rcases i0 with h0 | ⟨B', off', h4, hc⟩
      · have : zs.length = 0 := by have := congrArg List.length h0; simpa using this
        omega
      · have h4' : po = some ⟨B', off', none⟩ := h4
        have h1' : po = some ⟨B, off, none⟩ := h1
        rw [h4'] at h1'
        injection h1' with h1'
        injection h1' with g1 g2
        subst g1 g2
        have h5 := hc p _ (by rw [List.getElem?_map, List.getElem?_eq_getElem h2']; rfl)
        rw [h5] at h3
        injection h3 with h3
        injection h3 with g1 g2 g3
        have := (f0 zs[p] (List.getElem_mem h2')).2.2.1 g1
        omega
    · intro p hp
      obtain ⟨z, hz, rfl⟩ := List.mem_map.1 hp
      exact (f0 z hz).2.2.2.2

end
end Go.Proofs.YtcpdanjbnijoiaaDoor
