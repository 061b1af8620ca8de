
import Derived.Test.YtnpbgfnahkmhoaaDoorI11Rows
import Derived.SizedLaws
import Derived.WalkKit
import Derived.ProofKit
import Derived.OpenShut
import Derived.ShutString
import Derived.ChangeOld
import Derived.ChangeSame
import Derived.ChangeVars
import Derived.JoinedOf
import Derived.Below
import Derived.LaidLaws
import Derived.LaidHandle
import Derived.Stop.Joined
import Derived.Deep.Slices
import Derived.Deep.Strs
/-! What comes in, laid open: bytes, hashes, images; the listed variable. -/
namespace Go.Proofs.YtnpbgfnahkmhoaaDoor
open Go.ChangeShapes Go.WideShapes Go.ChangeAt Go.RowKit
set_option maxRecDepth 100000

def laidL : List (String × DataW Unit) := [("errors.errorType", Rows.laid_errors_errorType)]
theorem knob : ownKnob Tryd.prog.godebug = none := by kernel_rfl
theorem laidOut : laidOutB Tryd.prog = true := by kernel_rfl
theorem Tryd.et : Tryd.prog.globalNamed "errors.errorType" = some 0 := by kernel_rfl
theorem Tryd.rt : (Tryd.prog.cutTypes.find? (·.1 == "internal/reflectlite.rtype")).map (·.2) = some 102 := by kernel_rfl
theorem Tryd.oneRow : ((List.range 150).filter fun t => Tryd.prog.rowNamed t [101, 114, 114, 111, 114]) = [35] := by kernel_rfl
theorem Tryd.size : Tryd.prog.types.size = 150 := by kernel_rfl

theorem handle_of_laid {W : World} (h : laidMetH Tryd.prog laidL W) : HG W := by
  have h' : laidMet Tryd.prog [] W ∧ handlesMet Tryd.prog laidL W := h
  obtain ⟨name, u, ty, e1, e2, e3, e4, e5⟩ := h'.2 _ (List.mem_singleton.2 rfl)
  have en : name = [101, 114, 114, 111, 114] := (Option.some.inj e1).symm
  subst en
  obtain rfl := Option.some.inj (Tryd.rt.symm.trans e2)
  have hm : ty ∈ (List.range 150).filter fun t => Tryd.prog.rowNamed t [101, 114, 114, 111, 114] := List.mem_filter.2 ⟨List.mem_range.2 (by rw [← Tryd.size]; exact e3), e4⟩
  rw [Tryd.oneRow] at hm
  obtain rfl := List.mem_singleton.1 hm
  have hh : typeHandle Tryd.prog 35 = .pointer (some ⟨1, 35, none⟩) := by kernel_rfl
  rw [hh] at e5
  have := World.var?_cell Tryd.et e5 0
  unfold HG
  simpa using this

/-- That the condition can be met: one such world. -/
def laidOf (w0 : World) : World :=
  { w0 with heap := w0.heap.modify 0 fun
      | .cells _ t frozen => .cells #[.iface 102 (.agg #[.pointer (some ⟨1, 35, none⟩)])] t frozen
      | o => o }
theorem laidWorld_met (os : Os) (args : Array Value) : laidMetH Tryd.prog laidL ((laidOf (World.holding Tryd.prog os ⟨#[], #[], []⟩)).forCall (fun _ _ => 0) ⟨#[], args, []⟩).memory :=
  laidMetH_of_parts (laidMet_nil _ _) (by kernel_rfl)

theorem isB_row {W : World} {x : Addr} {len : Nat} {zs : List Int} (hl : len ≤ zs.length) (hcell : ∀ i, i < zs.length → W.cell? (x.add i) = some (.int .u8 (zs.getD i 0))) (hwz : ∀ n ∈ zs, (Lit.int .u8 n).wf = true) :
    ∃ bs : List By, bs.length = len ∧ IsB W (some x) bs := by
  refine ⟨(zs.take len).map (fun z => BitVec.ofNat 8 z.toNat), by simp; omega, ?_⟩
  by_cases h0 : len = 0
  · left; simp [h0]
  · right
    obtain ⟨b, off, spot⟩ := x
    have hc0 := hcell 0 (by omega)
    have hspot : spot = none := by simpa [Addr.add] using World.cell?_spot hc0
    subst hspot
    refine ⟨b, off, rfl, fun j v hj => ?_⟩
    rw [List.getElem?_map, List.getElem?_take] at hj
    split at hj
    · have hjz : j < zs.length := by omega
      rw [List.getElem?_eq_getElem hjz] at hj
      injection hj with hj
      subst hj
      have h1 := hcell j hjz
      rw [Addr.add_mid] at h1
      rw [h1]
      have h2 : zs.getD j 0 = zs[j] := by simp [hjz]
      have h3 := hwz zs[j] (List.getElem_mem hjz)
      have h4 := bounds_u8 h3
      rw [h2]
      unfold B8
      rw [BitVec.toNat_ofNat]
      congr 2
      omega
    · cases hj

theorem open_bytes {H : Type} {enc : TypeId × Value → H} {W : World} {n : Nat} {a : Option Addr} {len cap : Nat} {x : DataW H × List MemPlace}
    (h : DataW.trod enc Tryd.prog W 0 (fun _ => true) true n 23 [.slice a len cap] = some x) (hsz : ∀ k ∈ x.1.weights Tryd.prog 23, k ≤ reachBytes) :
    ∃ bs : List By, bs.length = len ∧ IsB W a bs ∧ (a = none → cap = 0) ∧ len ≤ cap ∧ len ≤ 140737488351232 := by
  rcases open_ints Tryd.underlying23 Tryd.underlying5 (by kernel_rfl) h with ⟨e2, _⟩ | ⟨a', len', cap', zs, e2, _, hlc, hm, hz, hx, hc, hwz⟩
  · injection e2 with e2 _
    injection e2 with e1 e2 e3
    subst e1; subst e2; subst e3
    exact ⟨[], rfl, .inl rfl, fun _ => rfl, Nat.le_refl _, by omega⟩
  · injection e2 with e2 _
    injection e2 with e1 e2 e3
    subst e1; subst e2; subst e3
    simp at hz
    obtain ⟨bs, hbl, isb⟩ := isB_row (len := len) (by omega) hc hwz
    have hw : (zs.length) * Tryd.prog.bytesOf 5 ≤ reachBytes := by
      refine hsz _ ?_
      rw [hx]
      simp [DataW.weights, Tryd.underlying23, lits]
      left
      congr 1
      omega
    rw [show Tryd.prog.bytesOf 5 = 1 by kernel_rfl] at hw
    simp only [reachBytes] at hw
    exact ⟨bs, hbl, isb, (fun e => by cases e), hlc, by omega⟩
theorem list_of {α : Type} (p : Nat → α → Prop) : ∀ (n : Nat), (∀ i, i < n → ∃ x, p i x) → ∃ l : List α, l.length = n ∧ ∀ i x, l[i]? = some x → p i x
  | 0, _ => ⟨[], rfl, by simp⟩
  | n + 1, h => by
    obtain ⟨l, h1, h2⟩ := list_of p n (fun i hi => h i (by omega))
    obtain ⟨y, hy⟩ := h n (by omega)
    refine ⟨l ++ [y], by simp [h1], fun i x hx => ?_⟩
    by_cases hi : i < l.length
    · rw [List.getElem?_append_left hi] at hx
      exact h2 i x hx
    · have hl := (List.getElem?_eq_some_iff.1 hx).1
      simp at hl
      obtain rfl : i = l.length := by omega
      rw [List.getElem?_append_right (Nat.le_refl _)] at hx
      simp at hx
      subst hx
      rw [h1]; exact hy


theorem weights_all {H : Type} {P : Program} {e : TypeId} {n : Nat} {d : DataW H} : ∀ {l : List (DataW H)}, d ∈ l → n ∈ d.weights P e → n ∈ DataW.weightsAll P e l
  | [], h, _ => by cases h
  | x :: r, h, hn => by
    simp only [DataW.weightsAll, List.mem_append]
    rcases List.mem_cons.1 h with rfl | h
    · exact .inl hn
    · exact .inr (weights_all h hn)


section
variable {H : Type} {enc : TypeId × Value → H} {W : World} {n : Nat} {cs : List Value} {x : DataW H × List MemPlace}

theorem open_hash (h : DataW.trod enc Tryd.prog W 0 (fun _ => true) true n 25 cs = some x) : ∃ bs : List By, bs.length = 32 ∧ cs = bs.map B8 := by
  obtain ⟨xs, m, rfl, rfl, hl, hx, hel⟩ := DataW.trod_array Tryd.underlying25 h
  rw [show Tryd.prog.cellsOf 25 = 32 by kernel_rfl] at hl
  rw [show Tryd.prog.cellsOf 5 = 1 by kernel_rfl] at hel
  obtain ⟨bs, hb1, hb2⟩ := list_of (fun i (b : By) => cs[i]? = some (B8 b)) 32 (fun i hi => by
    have h1 := hel i hi
    rw [List.getElem?_eq_getElem (by omega), Nat.mul_one, List.drop_eq_getElem_cons (by omega)] at h1
    obtain ⟨z, e1, _, hw⟩ := DataW.trod_int Tryd.underlying5 h1
    simp only [List.take_succ_cons, List.take_zero] at e1
    injection e1 with e1 _
    have hb := bounds_u8 hw
    refine ⟨BitVec.ofNat 8 z.toNat, ?_⟩
    rw [List.getElem?_eq_getElem (by omega), e1]
    unfold B8
    rw [BitVec.toNat_ofNat]
    congr 2
    omega)
  refine ⟨bs, hb1, ?_⟩
  apply List.ext_getElem?
  intro i
  by_cases hi : i < 32
  · have hbl : i < bs.length := by omega
    rw [hb2 i bs[i] (List.getElem?_eq_getElem hbl), List.getElem?_map, List.getElem?_eq_getElem hbl]; rfl
  · rw [List.getElem?_eq_none (by omega), List.getElem?_eq_none (by rw [List.length_map]; omega)]

theorem open_ones {t e bytes : Nat} (ht : Tryd.prog.underlying t = some (.slice e)) (hc : Tryd.prog.cellsOf e = 1) (hby : Tryd.prog.bytesOf e = bytes) {α : Type} (f : α → Value)
    (hel : ∀ (m : Nat) (v : Value) (y : DataW H × List MemPlace), DataW.trod enc Tryd.prog W 0 (fun _ => true) true m e [v] = some y → (∀ k ∈ y.1.weights Tryd.prog e, k ≤ reachBytes) → ∃ z, v = f z)
    (h : DataW.trod enc Tryd.prog W 0 (fun _ => true) true n t cs = some x) (hsz : ∀ k ∈ x.1.weights Tryd.prog t, k ≤ reachBytes) :
    ∃ (a : Option Addr) (cap : Nat) (zs : List α), cs = [.slice a zs.length cap] ∧ IsL W a (zs.map f) ∧ (a = none → cap = 0) ∧ zs.length ≤ cap ∧ zs.length * bytes ≤ reachBytes := by
  rcases Deep.open_slice1 ht hc h with ⟨rfl, rfl⟩ | ⟨a, len, cap, m, n', V, D, Pl, rfl, hb, hl, hm, hmm, rfl, hx⟩
  · exact ⟨none, 0, [], rfl, .inl rfl, fun _ => rfl, by simp, by simp⟩
  · simp at hmm
    subst hmm
    simp only [DataW.weights, ht] at hsz
    have hlen : len * bytes ≤ reachBytes := by
      have h1 := hsz _ (List.mem_cons_self ..)
      rw [hby] at h1
      simp only [List.length_map, List.length_range] at h1
      have : len * bytes ≤ (len + (m - len)) * bytes := Nat.mul_le_mul_right _ (by omega)
      omega
    by_cases h0 : 0 < len
    · obtain ⟨b, off, spot⟩ := a
      have hspot : spot = none := by
        have h1 := (hx 0 (by omega)).1
        simpa [Addr.add] using World.cell?_spot h1
      subst hspot
      obtain ⟨zs, hz1, hz2⟩ := list_of (fun i (z : α) => W.cell? ⟨b, off + i, none⟩ = some (f z)) len (fun i hi => by
        obtain ⟨h1, h2⟩ := hx i (by omega)
        obtain ⟨z, hz⟩ := hel _ _ _ h2 (fun k hk => hsz k (List.mem_cons_of_mem _ (List.mem_append.2 (.inl (weights_all (d := D i) (List.mem_map.2 ⟨i, List.mem_range.2 hi, rfl⟩) hk)))))
        refine ⟨z, ?_⟩
        rw [Addr.add_mid] at h1
        rw [h1, hz])
      subst hz1
      refine ⟨some ⟨b, off, none⟩, m, zs, rfl, .inr ⟨b, off, rfl, fun j v hj => ?_⟩, (fun e => by cases e), by omega, hlen⟩
      rw [List.getElem?_map] at hj
      cases hzj : zs[j]? with
      | none => rw [hzj] at hj; cases hj
      | some z =>
        rw [hzj] at hj
        injection hj with hj
        rw [← hj]
        exact hz2 j z hzj
    · obtain rfl : len = 0 := by omega
      exact ⟨some a, m, [], rfl, .inl rfl, (fun e => by cases e), by simp, by simp⟩


/-- Rows of bytes that came in. -/
theorem open_rows {a : Option Addr} {len cap : Nat} (h : DataW.trod enc Tryd.prog W 0 (fun _ => true) true n 32 [.slice a len cap] = some x) (hsz : ∀ k ∈ x.1.weights Tryd.prog 32, k ≤ reachBytes) :
    ∃ ll : List Rw, ll.length = len ∧ RowsIn W a ll ∧ len ≤ 140737488355328 := by
  obtain ⟨a', cap', zs, e1, e2, e3, e4, e5⟩ := open_ones (α := { z : Rw // OkR W z }) Tryd.underlying32 (by kernel_rfl) (by kernel_rfl : Tryd.prog.bytesOf 23 = 24) (fun z => z.1.val) (fun m v y hy hw => by
    have s3 : ∃ a len cap, v = .slice a len cap := by
      rcases open_ints Tryd.underlying23 Tryd.underlying5 (by kernel_rfl) hy with ⟨e, _⟩ | ⟨a, len, cap, zs, e, _⟩
      · injection e with e _; exact ⟨none, 0, 0, e⟩
      · injection e with e _; exact ⟨_, _, _, e⟩
    obtain ⟨a2, l2, c2, rfl⟩ := s3
    obtain ⟨bs, hl, hb, hn, hc, hm⟩ := open_bytes hy hw
    refine ⟨⟨⟨a2, c2, bs⟩, ⟨hb, hn, by rw [hl]; exact hc, by rw [hl]; exact hm⟩⟩, ?_⟩
    show _ = Value.slice a2 bs.length c2
    rw [hl]) h hsz
  injection e1 with e1 _
  injection e1 with f1 f2 f3
  subst f1 f2 f3
  refine ⟨zs.map (·.1), by simp, ⟨?_, ?_⟩, by unfold reachBytes at e5; omega⟩
  · rcases e2 with e2 | ⟨B, off, h1, h2⟩
    · left; simpa using e2
    · right
      refine ⟨B, off, h1, fun j r hj => h2 j _ ?_⟩
      rw [List.getElem?_map] at hj ⊢
      cases hz : zs[j]? with
      | none => rw [hz] at hj; cases hj
      | some z => rw [hz] at hj; injection hj with hj; subst hj; rfl
  · intro r hr
    obtain ⟨z, hz, rfl⟩ := List.mem_map.1 hr
    exact z.2
end

theorem trod_struct5 {H : Type} {enc : TypeId × Value → H} {w : World} {t : TypeId} {f0 f1 f2 f3 f4 : Field} {fuel : Nat} {cs : List Value} {x : DataW H × List MemPlace} (ht : Tryd.prog.underlying t = some (.struct #[f0, f1, f2, f3, f4]))
    (h : DataW.trod enc Tryd.prog w 0 (fun _ => true) true fuel t cs = some x) :
    ∃ y0 y1 y2 y3 y4 n, x = (.agg [y0.1, y1.1, y2.1, y3.1, y4.1], y0.2 ++ (y1.2 ++ (y2.2 ++ (y3.2 ++ y4.2)))) ∧ cs.length = Tryd.prog.cellsOf t ∧ DataW.trod enc Tryd.prog w 0 (fun _ => true) true n f0.type ((cs.drop f0.offset).take (Tryd.prog.cellsOf f0.type)) = some y0 ∧
      DataW.trod enc Tryd.prog w 0 (fun _ => true) true n f1.type ((cs.drop f1.offset).take (Tryd.prog.cellsOf f1.type)) = some y1 ∧ DataW.trod enc Tryd.prog w 0 (fun _ => true) true n f2.type ((cs.drop f2.offset).take (Tryd.prog.cellsOf f2.type)) = some y2 ∧
      DataW.trod enc Tryd.prog w 0 (fun _ => true) true n f3.type ((cs.drop f3.offset).take (Tryd.prog.cellsOf f3.type)) = some y3 ∧ DataW.trod enc Tryd.prog w 0 (fun _ => true) true n f4.type ((cs.drop f4.offset).take (Tryd.prog.cellsOf f4.type)) = some y4 := by
  obtain ⟨xs, n, _, rfl, hl, hlen, hf⟩ := DataW.trod_struct ht h
  match xs, hlen with
  | [y0, y1, y2, y3, y4], _ => exact ⟨y0, y1, y2, y3, y4, n, by simp, hl, by simpa using hf 0 f0 rfl, by simpa using hf 1 f1 rfl, by simpa using hf 2 f2 rfl, by simpa using hf 3 f3 rfl, by simpa using hf 4 f4 rfl⟩

/-- An image that came in. -/
theorem open_image {H : Type} {enc : TypeId × Value → H} {W : World} {n : Nat} {cs : Array Value} {x : DataW H × List MemPlace}
    (h : DataW.trod enc Tryd.prog W 0 (fun _ => true) true n 27 (Value.agg cs).cells.toList = some x) (hsz : ∀ k ∈ x.1.weights Tryd.prog 27, k ≤ reachBytes) :
    ∃ (s k v : Int) (a : Option Addr) (len cap : Nat) (p t : List By), cs = (imgC s k v (.slice a len cap) t).toArray ∧ p.length = len ∧ t.length = 32 ∧ IsB W a p ∧ (a = none → cap = 0) ∧ len ≤ cap ∧ len ≤ 140737488351232 := by
  obtain ⟨y0, y1, y2, y3, y4, n', rfl, hl5, t0, t1, t2, t3, t4⟩ := trod_struct5 Tryd.underlying27 h
  have hl : cs.toList.length = 36 := hl5
  obtain ⟨l⟩ := cs
  simp only [Value.cells] at t0 t1 t2 t3 t4 hl
  match l, hl with
  | c0 :: c1 :: c2 :: c3 :: r, hl =>
    rw [show Tryd.prog.cellsOf 3 = 1 by kernel_rfl] at t0 t1
    rw [show Tryd.prog.cellsOf 2 = 1 by kernel_rfl] at t2
    rw [show Tryd.prog.cellsOf 23 = 1 by kernel_rfl] at t3
    rw [show Tryd.prog.cellsOf 25 = 32 by kernel_rfl] at t4
    simp only [List.drop_zero, List.take_succ_cons, List.take_zero, List.drop_succ_cons] at t0 t1 t2 t3 t4
    obtain ⟨z0, e0, _, _⟩ := DataW.trod_int Tryd.underlying3 t0
    obtain ⟨z1, e1, _, _⟩ := DataW.trod_int Tryd.underlying3 t1
    obtain ⟨z2, e2, _, _⟩ := DataW.trod_int Tryd.underlying2 t2
    injection e0 with e0 _
    injection e1 with e1 _
    injection e2 with e2 _
    subst e0 e1 e2
    have s3 : ∃ a len cap, c3 = .slice a len cap := by
      rcases open_ints Tryd.underlying23 Tryd.underlying5 (by kernel_rfl) t3 with ⟨e, _⟩ | ⟨a, len, cap, zs, e, _⟩
      · injection e with e _; exact ⟨none, 0, 0, e⟩
      · injection e with e _; exact ⟨_, _, _, e⟩
    obtain ⟨a, len, cap, rfl⟩ := s3
    obtain ⟨p, hl3, ib3, hn3, hc3, hm3⟩ := open_bytes t3 (fun k hk => hsz k (by
      simp only [DataW.weights, Tryd.underlying27]
      exact DataW.weights_mem_each (j := 3) (t := 23) (d := y3.1) rfl rfl _ hk))
    obtain ⟨t, ht, e4⟩ := open_hash t4
    rw [List.take_of_length_le (by simp at hl; omega)] at e4
    exact ⟨z0, z1, z2, a, len, cap, p, t, by rw [e4]; rfl, hl3, ht, ib3, hn3, hc3, hm3⟩
end Go.Proofs.YtnpbgfnahkmhoaaDoor
