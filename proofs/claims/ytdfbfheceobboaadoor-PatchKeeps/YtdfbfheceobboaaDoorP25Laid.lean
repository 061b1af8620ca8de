import Derived.Test.YtdfbfheceobboaaDoorP25Sm
import Derived.Lib.SlBytesConst
import Derived.Test.YtdfbfheceobboaaDoorI11Inv
import Derived.Test.YtdfbfheceobboaaDoorP25A
import Derived.SizedLaws
import Derived.WalkKit
import Derived.ProofKit
import Derived.OpenShut
import Derived.ShutString
import Derived.ChangeOld
import Derived.ChangeSame
import Derived.ChangeVars
import Derived.JoinedOf
import Derived.Below
import Derived.LaidLaws
import Derived.LaidHandle
import Derived.Stop.Joined
import Derived.Deep.Slices
import Derived.Deep.Strs

/-! The law of layer 25: fixed. -/
namespace Go.Proofs.YtdfbfheceobboaaDoor
open Go.RowKit
set_option linter.unusedVariables false

def abc : List By := [97#8, 98#8, 99#8]
def abd : List By := [97#8, 98#8, 100#8]
theorem sha_abc : sha abd ≠ sha abc := by decide +kernel
theorem most_abc : mostN abc abd = 85 := by decide +kernel
theorem read_nil : readR [] = .error (6, 0) := by rfl
/-- What Apply makes of a patch that was made. -/
theorem apply_made {M J : List By → List By → List By} (P : Pch M J) {old new : List By} (h1 : old.length ≤ 524288) (h2 : new.length ≤ 524288) : applyR old (M old new) = .ok new := by
  obtain ⟨x, hr, hb, ha, ho, hn, ht, _⟩ := P.made old new h1 h2
  unfold applyR
  rw [hr]
  dsimp only
  rw [if_neg (by rintro (h | h); exact h hb.symm; exact h ho.symm), ht, if_neg (by rw [hn]; exact fun h => h rfl)]
theorem apply_other {M J : List By → List By → List By} (P : Pch M J) {old new other : List By} (h1 : old.length ≤ 524288) (h2 : new.length ≤ 524288) (h : other.length ≠ old.length ∨ sha other ≠ sha old) : applyR other (M old new) = .error (11, 5) := by
  obtain ⟨x, hr, hb, ha, ho, hn, ht, _⟩ := P.made old new h1 h2
  unfold applyR
  rw [hr]
  dsimp only
  rw [if_pos (by rw [hb, ho]; exact h)]
abbrev zInf : List Value := z32b.map B8 ++ z32b.map B8 ++ [.int .i64 0, .int .i64 0, .int .i64 0, .int .i64 0]
theorem zInf_eq : infoC zX = zInf := rfl
theorem isb_mk25 {w : World} {g t : Nat} {fz : Nat × Nat} {l : List By} (h : w.heap[g]? = some (.cells (l.map B8).toArray t fz)) : IsB w (some ⟨g, 0, none⟩) l :=
  .inr ⟨g, 0, rfl, fun j v hj => by rw [Nat.zero_add, cell_of_row w g j _ t fz h]; simp [hj]⟩
theorem mk_abc {M J : List By → List By → List By} (P : Pch M J) : (M abc abd).length ≤ 85 := by
  obtain ⟨x, _, _, _, _, _, _, h⟩ := P.made abc abd (by decide) (by decide)
  rw [most_abc] at h
  exact h

set_option maxHeartbeats 4000000 in
set_option maxRecDepth 100000 in
theorem fixed25_any {M J : List By → List By → List By} (P : Pch M J) (w : World) (hg : HG w) : Calls Tryd.prog 9 #[] w fun e w' => e = .returned (.bool true) ∧ Below w.heap.size w w' := by
  obtain ⟨w1, hw1⟩ : ∃ w1, w1 = (w.alloc (.cells (abc.map B8).toArray 5 (3, 4))).alloc (.cells (abd.map B8).toArray 5 (3, 4)) := ⟨_, rfl⟩
  have b1 : Below w.heap.size w w1 := by rw [hw1]; exact ((Below.refl _ _).alloc (Nat.le_refl _) _).alloc (by simp) _
  have ra : IsB w1 (some ⟨w.heap.size, 0, none⟩) abc := by rw [hw1]; exact isb_mk25 ((Below.heap_alloc _ _ _ (by simp)).trans (heap_alloc_new w _))
  have rb : IsB w1 (some ⟨w.heap.size + 1, 0, none⟩) abd := by rw [hw1]; exact isb_mk25 (by have := heap_alloc_new (w.alloc (.cells (abc.map B8).toArray 5 (3, 4))) (.cells (abd.map B8).toArray 5 (3, 4)); simpa using this)
  have KA : Hid (∀ W : World, _) := fun W => Lib.run_convert_bytes_const (P := Tryd.prog) W 22 5 #[.int .u8 97, .int .u8 98, .int .u8 99] 3 3 Tryd.underlying22 Tryd.underlying5
  have KB : Hid (∀ W : World, _) := fun W => Lib.run_convert_bytes_const (P := Tryd.prog) W 22 5 #[.int .u8 97, .int .u8 98, .int .u8 100] 3 3 Tryd.underlying22 Tryd.underlying5
  have kc1 := KA.out w
  have kc2 := fun o1 : Obj => KB.out (w.alloc o1)
  have hz : ∀ o1 : Obj, (w.alloc o1).heap.size = w.heap.size + 1 := fun o1 => by simp
  simp only [hz] at kc2
  have HGB : Hid (∀ W, Below w.heap.size w W → HG W) := fun W h => hg.below h hg.lt
  have MK := P.make w1 (some ⟨w.heap.size, 0, none⟩) 3 3 abc (some ⟨w.heap.size + 1, 0, none⟩) 3 3 abd (HGB.out _ b1) rfl (by omega) (Nat.le_refl _) (fun h => by cases h) ra rfl (by omega) (Nat.le_refl _) (fun h => by cases h) rb
  rw [hw1] at MK
  have HP : Hid (Pch M J) := P
  have hl85 := mk_abc P
  clear ra rb hg P hz
  go_enter Tryd.func9, Tryd.ntmps9
  go_wp2_with fail
  refine MK.mono ?_
  rw [← hw1]
  clear MK hw1 kc1 kc2
  rintro e w2 ⟨hb2, b, hbv, rfl⟩
  rw [if_pos (by decide)] at hbv
  rw [if_pos (by decide)]
  have B2 : Hid (Below w.heap.size w w2) := b1.trans (hb2.mono b1.size)
  obtain ⟨bo, bc, rfl, hbi, hbn, hbc⟩ := hbv.eq
  have HBI : Hid (∀ W, Below w2.heap.size w2 W → IsB W bo (M abc abd)) := fun W h => hbi.below h (Nat.le_refl _)
  clear hb2 b1 hbv hbi
  dsimp only
  -- Apply of the old row
  have A1 := HP.out.apply (w2.alloc (.cells (abc.map B8).toArray 5 (3, 4))) (some ⟨w2.heap.size, 0, none⟩) 3 3 abc bo (M abc abd).length bc (M abc abd) (HGB.out _ (B2.out.alloc B2.out.size _)) rfl (by omega) (Nat.le_refl _) (fun h => by cases h) (isb_mk25 (heap_alloc_new w2 _)) rfl (by omega) hbc hbn (HBI.out _ ((Below.refl _ _).alloc (Nat.le_refl _) _))
  have kc3 := KA.out w2
  go_wp2_with fail
  refine A1.mono ?_
  clear A1 kc3
  rintro e w3 ⟨hb3, hm⟩
  rw [apply_made HP.out (by decide) (by decide)] at hm
  obtain ⟨v3, rfl, hv3⟩ := hm
  obtain ⟨ao3, c3, rfl, hi3, _, _⟩ := hv3.eq
  have l3 : abd.length = 3 := rfl
  rw [l3]
  have HI3 : Hid (∀ W, Below w3.heap.size w3 W → IsB W ao3 abd) := fun W h => hi3.below h (Nat.le_refl _)
  clear hi3 hv3 l3
  have b23 : Below w2.heap.size w2 w3 := ((Below.refl _ _).alloc (Nat.le_refl _) _).trans (hb3.mono (by simp))
  have B3 : Hid (Below w.heap.size w w3) := B2.out.trans (b23.mono B2.out.size)
  have HB23 : Hid (Below w2.heap.size w2 w3) := b23
  clear hb3 b23
  dsimp only
  -- Apply of another one
  have A2 := HP.out.apply (w3.alloc (.cells (abd.map B8).toArray 5 (3, 4))) (some ⟨w3.heap.size, 0, none⟩) 3 3 abd bo (M abc abd).length bc (M abc abd) (HGB.out _ (B3.out.alloc B3.out.size _)) rfl (by omega) (Nat.le_refl _) (fun h => by cases h) (isb_mk25 (heap_alloc_new w3 _)) rfl (by omega) hbc hbn (HBI.out _ (HB23.out.alloc HB23.out.size _))
  have kc4 := KB.out w3
  go_wp2_with fail
  refine A2.mono ?_
  clear A2 kc4
  rintro e w4 ⟨hb4, hm⟩
  rw [apply_other HP.out (by decide) (by decide) (.inr sha_abc)] at hm
  obtain ⟨v4, e4, rfl, _, he4⟩ := hm
  have b34 : Below w3.heap.size w3 w4 := ((Below.refl _ _).alloc (Nat.le_refl _) _).trans (hb4.mono (by simp))
  have B4 : Hid (Below w.heap.size w w4) := B3.out.trans (b34.mono B3.out.size)
  have HI4 : Hid (∀ W, Below w4.heap.size w4 W → IsB W ao3 abd) := fun W h => HI3.out W (b34.trans (h.mono b34.size))
  have HE4 : Hid (ErrV w4 11 5 e4) := he4
  clear hb4 b34 HI3 he4 B3 HB23 HBI
  dsimp only
  -- Read of nothing
  have R1 := HP.out.read w4 none 0 0 [] (HGB.out _ B4.out) rfl (by omega) (Nat.le_refl _) (fun _ => rfl) (.inl rfl)
  go_wp2_with fail
  refine R1.mono ?_
  clear R1
  rintro e w5 ⟨hb5, hm⟩
  rw [read_nil] at hm
  obtain ⟨e5, rfl, he5⟩ := hm
  have B5 : Hid (Below w.heap.size w w5) := B4.out.trans (hb5.mono B4.out.size)
  have HI5 : Hid (∀ W, Below w5.heap.size w5 W → IsB W ao3 abd) := fun W h => HI4.out W (hb5.trans (h.mono hb5.size))
  have H45 : Hid (ErrV w5 11 5 e4) := HE4.out.keep hb5
  have HE5 : Hid (ErrV w5 6 0 e5) := he5
  obtain ⟨ZI, hZI⟩ : ∃ ZI : Array Value, ZI = (infoC zX).toArray := ⟨_, rfl⟩
  have HZI : Hid (ZI = (infoC zX).toArray) := hZI
  rw [← hZI]
  dsimp only
  clear hb5 HI4 HE4 he5 hZI
  have y85 : ((M abc abd).length : Int) ≤ 85 := by omega
  generalize (M abc abd).length = ml at *
  go_wp2_with (first
    | (have hz := HI5; clear hz; refine wpList_store_Row rfl 47 (.tmp 7) (.tmp 33) rfl w5.heap.size 47 0 zInf zInf (Row.at w5 _ _ _ _ rfl rfl) (Nat.le_refl _) rfl (congrArg Value.agg (HZI.out.trans (congrArg List.toArray zInf_eq))) (by kernel_rfl) (infoC_one zX) ?_; intro w6 hr6 hs6; have b6 : Below w5.heap.size w5 w6 := hs6.below ((Below.refl _ _).alloc (Nat.le_refl _) _) (Nat.le_refl _); have B6 : Hid (Below w.heap.size w w6) := B5.out.trans (b6.mono B5.out.size); have cv := conv_bytes w6 ao3 3 c3 abd rfl (HI5.out _ b6); have H46 : Hid (ErrV w6 11 5 e4) := H45.out.keep b6; have H56 : Hid (ErrV w6 6 0 e5) := HE5.out.keep b6; have hS : strOf abd = { data := #[97, 98, 100] } := rfl; rw [hS] at cv; clear hr6 hs6 b6 HI5 H45 HE5 hS)
    | (have hz := H46; clear hz; go_at_call 18; refine (is_wrong _ (HGB.out _ B6.out) 11 5 (by omega) _ H46.out).mono ?_; rintro e w7 ⟨rfl, hb7⟩; have B7 : Hid (Below w.heap.size w w7) := B6.out.trans (hb7.mono B6.out.size); have H57 : Hid (ErrV w7 6 0 e5) := H56.out.keep hb7; clear hb7 H46 H56 B6 cv)
    | (have hz := H57; clear hz; go_at_call 18; refine (is_wrong _ (HGB.out _ B7.out) 6 0 (by omega) _ H57.out).mono ?_; rintro e w8 ⟨rfl, hb8⟩; have B8 : Hid (Below w.heap.size w w8) := B7.out.trans (hb8.mono B7.out.size); clear hb8 H57 B7))
  go_ret
  exact ⟨rfl, B8.out⟩
end Go.Proofs.YtdfbfheceobboaaDoor


/-! The law of layer 25: PatchNames, PatchReads. -/
namespace Go.Proofs.YtdfbfheceobboaaDoor
open Go.RowKit
set_option linter.unusedVariables false

def aT (old p : List By) : List By × Nat × Nat := match applyR old p with | .error (k, a) => ([], k, a) | .ok m => (m, 0, 0)
end Go.Proofs.YtdfbfheceobboaaDoor


/-! The law of layer 25: PatchMakes. -/
namespace Go.Proofs.YtdfbfheceobboaaDoor
open Go.RowKit
set_option linter.unusedVariables false

/-- A row of bytes that came in, or was told. -/
structure RowIn (w : World) (ao : Option Addr) (c : Nat) (m : List By) : Prop where
  len : m.length ≤ 140737488351232
  cap : m.length ≤ c
  nil : ao = none → c = 0
  isb : IsB w ao m
theorem RowIn.keep {w w' : World} {ao : Option Addr} {c : Nat} {m : List By} (h : RowIn w ao c m) (hb : Below w.heap.size w w') : RowIn w' ao c m := ⟨h.len, h.cap, h.nil, h.isb.below hb (Nat.le_refl _)⟩
section
variable {M J : List By → List By → List By}
end

end Go.Proofs.YtdfbfheceobboaaDoor


/-! The law of layer 25: PatchChains. (Printed by tools/genlw25.py.) -/
namespace Go.Proofs.YtdfbfheceobboaaDoor
open Go.RowKit
set_option linter.unusedVariables false

section
variable {M J : List By → List By → List By}
end
theorem applyR_len {old p m : List By} (h : applyR old p = .ok m) : m.length ≤ 524288 := by
  unfold applyR at h
  cases hq : readR p with
  | error ka => rw [hq] at h; cases h
  | ok x =>
    rw [hq] at h
    dsimp only at h
    have ok := readR_ok hq
    split at h
    · cases h
    · rename_i hne
      have h1 : old.length = x.before := Classical.byContradiction fun h => hne (.inl h)
      split at h
      · cases h
      · injection h with h
        rw [← h, tells_len ok h1 (fun y hy => hy), ok.sum]
        exact ok.aft
theorem aT_len (old p : List By) : (aT old p).1.length ≤ 524288 := by
  unfold aT
  cases h : applyR old p with
  | error ka => simp
  | ok m => exact applyR_len h
/-- What Join answers, in one row. -/
def jT (J : List By → List By → List By) (p q : List By) : List By × Nat × Nat := match joinsR p q with | .error (k, a) => ([], k, a) | .ok _ => (J p q, 0, 0)
section
variable {W1 : World} {ge gf : Nat} {oo tt : Option Addr} {on oc tn tc : Nat} {S1 : ByteArray} {L : Nat → Bool} {x111 x112 x113 x114 x115 x116 x117 x118 x119 x120 x121 x122 x123 x124 x125 x2 : Value} {W W2 : World}
end
section
variable {W1 : World} {ge gf : Nat} {oo tt : Option Addr} {on oc tn tc : Nat} {S1 : ByteArray} {L : Nat → Bool} {x111 x112 x113 x114 x115 x116 x117 x118 x119 x120 x121 x122 x123 x124 x125 x2 : Value} {W W2 : World}
end
/-- Four rows of bytes in a struct. -/
structure R4In (w : World) (a b c q : List By) (ao bo co qo : Option Addr) (ac bc cc qc : Nat) : Prop where
  a : RowIn w ao ac a
  b : RowIn w bo bc b
  c : RowIn w co cc c
  q : RowIn w qo qc q
theorem R4In.keep {w w' : World} {a b c q : List By} {ao bo co qo : Option Addr} {ac bc cc qc : Nat} (h : R4In w a b c q ao bo co qo ac bc cc qc) (hb : Below w.heap.size w w') : R4In w' a b c q ao bo co qo ac bc cc qc := ⟨h.a.keep hb, h.b.keep hb, h.c.keep hb, h.q.keep hb⟩

end Go.Proofs.YtdfbfheceobboaaDoor


/-! Patch's statements: four rows of bytes in a struct that came in. -/
namespace Go.Proofs.YtdfbfheceobboaaDoor
open Go.ChangeShapes Go.WideShapes Go.ChangeAt Go.RowKit
set_option maxRecDepth 100000
section
variable {H : Type} {enc : TypeId × Value → H} {W : World} {n : Nat} {cs : List Value} {x : DataW H × List MemPlace}
theorem open_in25 (h : DataW.trod enc Tryd.prog W 0 (fun _ => true) true n 22 cs = some x) (hsz : ∀ k ∈ x.1.weights Tryd.prog 22, k ≤ reachBytes) :
    ∃ (a : Option Addr) (cap : Nat) (bs : List By), cs = [.slice a bs.length cap] ∧ RowIn W a cap bs := by
  rcases open_ints Tryd.underlying22 Tryd.underlying5 (by kernel_rfl) h with ⟨e2, _⟩ | ⟨a', len', cap', zs, e2, _⟩
  · subst e2
    obtain ⟨bs, hl, ib, hn, hc, hm⟩ := open_bytes h hsz
    exact ⟨_, _, bs, by rw [hl], ⟨by omega, by omega, hn, ib⟩⟩
  · subst e2
    obtain ⟨bs, hl, ib, hn, hc, hm⟩ := open_bytes h hsz
    exact ⟨_, _, bs, by rw [hl], ⟨by omega, by omega, hn, ib⟩⟩
theorem open_rows25 (h : DataW.trod enc Tryd.prog W 0 (fun _ => true) true n 24 cs = some x) (hsz : ∀ k ∈ x.1.weights Tryd.prog 24, k ≤ reachBytes) :
    ∃ (a b c q : List By) (ao bo co qo : Option Addr) (ac bc cc qc : Nat), cs = [.slice ao a.length ac, .slice bo b.length bc, .slice co c.length cc, .slice qo q.length qc] ∧ R4In W a b c q ao bo co qo ac bc cc qc := by
  obtain ⟨ys, m, rfl, rfl, hl, hx, hf⟩ := DataW.trod_struct Tryd.underlying24 h
  have hl4 : cs.length = 4 := by rw [hl]; kernel_rfl
  have hx4 : ys.length = 4 := hx
  have key : ∀ i, (hi : i < 4) → ∃ (a : Option Addr) (cap : Nat) (bs : List By), (cs.drop i).take 1 = [.slice a bs.length cap] ∧ RowIn W a cap bs := fun i hi => by
    have h4 : DataW.trod enc Tryd.prog W 0 (fun _ => true) true m 22 ((cs.drop i).take (Tryd.prog.cellsOf 22)) = ys[i]? := by
      match i, hi with
      | 0, _ => exact hf 0 _ rfl
      | 1, _ => exact hf 1 _ rfl
      | 2, _ => exact hf 2 _ rfl
      | 3, _ => exact hf 3 _ rfl
    rw [List.getElem?_eq_getElem (by omega), show Tryd.prog.cellsOf 22 = 1 by kernel_rfl] at h4
    refine open_in25 h4 (fun k hk => hsz k ?_)
    simp only [DataW.weights, Tryd.underlying24]
    refine DataW.weights_mem_each (j := i) (t := 22) (d := ys[i].1) ?_ (by rw [List.getElem?_map, List.getElem?_eq_getElem (by omega)]; rfl) k hk
    match i, hi with
    | 0, _ => rfl
    | 1, _ => rfl
    | 2, _ => rfl
    | 3, _ => rfl
  obtain ⟨ao, ac, a, e0, r0⟩ := key 0 (by omega)
  obtain ⟨bo, bc, b, e1, r1⟩ := key 1 (by omega)
  obtain ⟨co, cc, c, e2, r2⟩ := key 2 (by omega)
  obtain ⟨qo, qc, q, e3, r3⟩ := key 3 (by omega)
  refine ⟨a, b, c, q, ao, bo, co, qo, ac, bc, cc, qc, ?_, ⟨r0, r1, r2, r3⟩⟩
  match cs, hl4 with
  | [a0, a1, a2, a3], _ =>
    simp at e0 e1 e2 e3
    subst e0 e1 e2 e3; rfl
end
end Go.Proofs.YtdfbfheceobboaaDoor


/-! The listed variable: what it holds. -/
namespace Go.Proofs.YtdfbfheceobboaaDoor
open Go.ChangeShapes Go.WideShapes Go.ChangeAt Go.RowKit
set_option maxRecDepth 100000

def laidL : List (String × DataW Unit) := [("errors.errorType", Rows.laid_errors_errorType)]
theorem Tryd.et : Tryd.prog.globalNamed "errors.errorType" = some 0 := by kernel_rfl
theorem Tryd.rt : (Tryd.prog.cutTypes.find? (·.1 == "internal/reflectlite.rtype")).map (·.2) = some 136 := by kernel_rfl
theorem Tryd.oneRow : ((List.range 177).filter fun t => Tryd.prog.rowNamed t [101, 114, 114, 111, 114]) = [30] := by kernel_rfl
theorem Tryd.size : Tryd.prog.types.size = 177 := by kernel_rfl

theorem handle_of_laid {W : World} (h : laidMetH Tryd.prog laidL W) : HG W := by
  have h' : laidMet Tryd.prog [] W ∧ handlesMet Tryd.prog laidL W := h
  obtain ⟨name, u, ty, e1, e2, e3, e4, e5⟩ := h'.2 _ (List.mem_singleton.2 rfl)
  have en : name = [101, 114, 114, 111, 114] := (Option.some.inj e1).symm
  subst en
  obtain rfl := Option.some.inj (Tryd.rt.symm.trans e2)
  have hm : ty ∈ (List.range 177).filter fun t => Tryd.prog.rowNamed t [101, 114, 114, 111, 114] := List.mem_filter.2 ⟨List.mem_range.2 (by rw [← Tryd.size]; exact e3), e4⟩
  rw [Tryd.oneRow] at hm
  obtain rfl := List.mem_singleton.1 hm
  have hh : typeHandle Tryd.prog 30 = .pointer (some ⟨1, 30, none⟩) := by kernel_rfl
  rw [hh] at e5
  have := World.var?_cell Tryd.et e5 0
  unfold HG
  simpa using this

/-- That the condition can be met: one such world. -/
def laidOf (w0 : World) : World :=
  { w0 with heap := w0.heap.modify 0 fun
      | .cells _ t frozen => .cells #[.iface 136 (.agg #[.pointer (some ⟨1, 30, none⟩)])] t frozen
      | o => o }
theorem laidWorld_met (os : Os) (args : Array Value) : laidMetH Tryd.prog laidL ((laidOf (World.holding Tryd.prog os ⟨#[], #[], []⟩)).forCall (fun _ _ => 0) ⟨#[], args, []⟩).memory :=
  laidMetH_of_parts (laidMet_nil _ _) (by kernel_rfl)
end Go.Proofs.YtdfbfheceobboaaDoor
