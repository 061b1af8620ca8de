import Derived.Test.YtpcgkjngpdplmaaGreatDoorA
import Derived.Deep.RegionHeld3
import Derived.Test.YtpcgkjngpdplmaaGreatDoorR4Inv
import Derived.Deep.DeepCutAuto
import Derived.Deep.AppendLies
import Derived.Laws.AppendOwnNone
import Derived.StillTailTactics
import Derived.Deep.RegionLaw
import Derived.Laws.BytesString
import Derived.Laws.OwnMore
import Derived.SizedLaws
import Derived.WalkKit
import Derived.ProofKit
import Derived.OpenShut
import Derived.ShutString
import Derived.ChangeOld
import Derived.Below
import Derived.Deep.Slices
import Derived.Deep.Strs

namespace Go.Proofs.YtpcgkjngpdplmaaGreatDoor
open Go.RowKit

end Go.Proofs.YtpcgkjngpdplmaaGreatDoor


namespace Go.Proofs.YtpcgkjngpdplmaaGreatDoor
open Go.RowKit

set_option maxHeartbeats 400000 in
set_option maxRecDepth 100000 in
theorem firstState_any (w : World) : Calls Tryz.prog 113 #[] w fun e w' => e = .returned (.agg (init8.list.map U).toArray) ∧ Below w.heap.size w w' := by
  go_enter Tryz.func113, Tryz.ntmps113
  go_wp2_with (refine wpList_store_Row rfl 136 _ _ rfl w.heap.size 136 0 ((List.replicate 8 (0 : Wd)).map U) (init8.list.map U) (Row.at _ _ _ _ _ rfl rfl) (by simp [S8.list]) rfl rfl (by kernel_rfl) (U_one _) ?_; intro w1 hr hs)
  exact bodyPost_ret_by (results_Row Tryz.results113 _ w1 w.heap.size 136 _ _ rfl (by simpa [S8.list] using hr) Tryz.underlying136 rfl (by kernel_rfl)) rfl ⟨rfl, hs.below ((Below.refl _ _).alloc (Nat.le_refl _) _) (Nat.le_refl _)⟩

theorem row64 {w : World} {g : Nat} {l : List Wd} (hl : l.length = 64) (h : Row w g 138 (((List.replicate 64 (0 : Wd)).map U).take 0 ++ l.map U ++ ((List.replicate 64 (0 : Wd)).map U).drop (0 + (l.map U).length))) : Row w g 138 (l.map U) := by
  rw [List.take_zero, List.nil_append, List.drop_eq_nil_of_le (by simp [hl]), List.append_nil] at h
  exact h

set_option maxHeartbeats 400000 in
set_option maxRecDepth 100000 in
theorem roundWords_any (w : World) : Calls Tryz.prog 114 #[] w fun e w' => e = .returned (.agg (Kt.map U).toArray) ∧ Below w.heap.size w w' := by
  go_enter Tryz.func114, Tryz.ntmps114
  go_wp2_with (refine wpList_store_Row rfl 138 _ _ rfl w.heap.size 138 0 ((List.replicate 64 (0 : Wd)).map U) (Kt.map U) (Row.at _ _ _ _ _ rfl rfl) (by rw [List.length_map, Kt_len, List.length_map, List.length_replicate]; decide) rfl rfl (by kernel_rfl) (U_one _) ?_; intro w1 hr0 hs; have hr := row64 Kt_len hr0; clear hr0)
  exact bodyPost_ret_by (results_Row Tryz.results114 _ w1 w.heap.size 138 _ _ rfl hr Tryz.underlying138 rfl (by kernel_rfl)) rfl ⟨rfl, hs.below ((Below.refl _ _).alloc (Nat.le_refl _) _) (Nat.le_refl _)⟩

end Go.Proofs.YtpcgkjngpdplmaaGreatDoor


namespace Go.Proofs.YtpcgkjngpdplmaaGreatDoor
open Go.RowKit

end Go.Proofs.YtpcgkjngpdplmaaGreatDoor


namespace Go.Proofs.YtpcgkjngpdplmaaGreatDoor
open Go.RowKit

theorem Tryz.info5 : (Tryz.prog.info? 5).map (fun i => (i.zero, i.size, i.bytes)) = some (some (.int .u8 0), 1, 1) := by kernel_rfl

def slen : Value → Nat
  | .slice _ n _ => n
  | _ => 0

end Go.Proofs.YtpcgkjngpdplmaaGreatDoor


namespace Go.Proofs.YtpcgkjngpdplmaaGreatDoor
open Go.RowKit

/-- Bytes that lie in a block from its place o on. -/
def Lies (w : World) (g o : Nat) (m : List By) : Prop := ∀ j, j < m.length → w.cell? ⟨g, o + j, none⟩ = some (B8 (m.getD j 0))
theorem hs_succ (m : List By) (n : Nat) : comp (hs m n) (pc m n) = hs m (n + 1) := by simp only [hs]
/-- The first k bytes of a row, zeros behind them. -/
def part (l : List By) (n k : Nat) : List By := l.take k ++ List.replicate (n - k) 0
theorem part_all (l : List By) (n : Nat) (hl : l.length = n) : part l n n = l := by simp [part, ← hl]
theorem map_set_B8 (l : List By) (i : Nat) (x : By) : (l.map B8).set i (.int .u8 (x.toNat : Int)) = (l.set i x).map B8 := by
  rw [List.map_set]; rfl
theorem out_len (s : S8) : (out s).length = 32 := rfl
end Go.Proofs.YtpcgkjngpdplmaaGreatDoor


namespace Go.Proofs.YtpcgkjngpdplmaaGreatDoor
open Go.RowKit
set_option maxRecDepth 100000

theorem conv_bytes (w : World) (ao : Option Addr) (n cap : Nat) (bs : List By) (hn : bs.length = n) (hb : IsB w ao bs) :
    (convert 32 9 (.slice ao n cap)).run Tryz.prog w = .ok (.string (strOf bs)) w := by
  subst hn
  rw [run_convert_bytes_string w 32 9 5 ao bs.length cap Tryz.underlying32 Tryz.underlying5 Tryz.underlying9]
  have key : ∀ a : Addr, (∀ j v, (bs.map B8)[j]? = some v → w.cell? (a.add j) = some v) → (Conv.bytesToString (.slice (some a) bs.length cap)).run Tryz.prog w = .ok (.string (strOf bs)) w := by
    intro a h
    have hl := run_loadCells_list (P := Tryz.prog) w a (bs.map B8) h
    rw [List.length_map] at hl
    have e : bs.map B8 = (bs.map fun b => (b.toNat : Int)).map (Value.int .u8) := by
      rw [List.map_map]; rfl
    rw [e] at hl
    exact run_bytesToString w a bs.length cap _ hl
  rcases hb with rfl | ⟨B, off, rfl, hc⟩
  · cases ao with
    | none => rfl
    | some a => exact key a (by simp)
  · refine key _ ?_
    intro j u hu
    rw [Addr.add_mid]
    rw [List.getElem?_map] at hu
    cases hj : bs[j]? with
    | none => rw [hj] at hu; cases hu
    | some v => rw [hj] at hu; injection hu with hu; subst hu; exact hc j v hj

end Go.Proofs.YtpcgkjngpdplmaaGreatDoor


/-! Own rows written into; append onto nil of any length; append onto an own slice, and where its answer lies; results of two. -/
namespace Go.Proofs.YtpcgkjngpdplmaaGreatDoor
open Go.RowKit

theorem results_rowtmp {fn : Func} {p u : Tmp} {ty : TypeId} (h : fn.results = #[.cell p ty, .tmp u]) (tmps : Array Value) (w : World) (g t : Nat) (cs : List Value) (d : TypeDesc)
    (hp : tmps.getD p undef = .pointer (some ⟨g, 0, none⟩)) (hr : Row w g t cs) (hu : Tryz.prog.underlying ty = some d) (hd : d.isRow = true) (hi : (Tryz.prog.info? ty).map (·.size) = some cs.length) :
    (results fn tmps).run Tryz.prog w = .ok (.tuple #[.agg cs.toArray, tmps.getD u undef]) w := by
  rw [results_cell_tmp h]
  have hl := run_loadVar_mid (P := Tryz.prog) w g 0 ty cs d (by have := hr.range 0 cs.length; simpa using this) hu hd hi
  simp [hp, asAddr, hl]
theorem getD_lt {l : List By} {j : Nat} (h : j < l.length) : l.getD j 0 = l[j] := by simp [h]
set_option maxRecDepth 100000

theorem Own.but {N : Nat} {w w' : World} {ao : Option Addr} {n c k : Nat} {m : List By} (h : Own N w (.slice ao n c) m) (hs : SameBut k w w') (hk : ao ≠ some ⟨k, 0, none⟩) : Own N w' (.slice ao n c) m := by
  refine ⟨⟨h.1.1, ?_⟩, by rw [hs.size]; exact h.2⟩
  rcases h.1.2 with h1 | ⟨g, cap, cur, e, h2, h3, h4⟩
  · exact .inl h1
  · refine .inr ⟨g, cap, cur, e, h2, (hs.block g ?_).trans h3, h4⟩
    intro e2
    subst e2
    injection e with e1
    exact hk e1
theorem own_le {N N' : Nat} {w : World} {v : Value} {m : List By} (h : Own N w v m) (hN : N' ≤ N) : Own N' w v m := by
  refine ⟨⟨h.1.1, ?_⟩, Nat.le_trans hN h.2⟩
  rcases h.1.2 with h0 | ⟨g, c, cur, e, hg, r⟩
  · exact .inl h0
  · exact .inr ⟨g, c, cur, e, Nat.le_trans hN hg, r⟩
theorem Own.lt {N : Nat} {w : World} {q n c : Nat} {m : List By} (h : Own N w (.slice (some ⟨q, 0, none⟩) n c) m) : N ≤ q ∧ q < w.heap.size := h.1.lt q rfl

end Go.Proofs.YtpcgkjngpdplmaaGreatDoor


/-! Bytes, hashes and rows of single cells that came in, laid open. -/
namespace Go.Proofs.YtpcgkjngpdplmaaGreatDoor
open Go.ChangeShapes Go.WideShapes Go.ChangeAt Go.RowKit
set_option maxRecDepth 100000

theorem knob : ownKnob Tryz.prog.godebug = none := by kernel_rfl
theorem laidOut : laidOutB Tryz.prog = true := by kernel_rfl
theorem isB_row {W : World} {x : Addr} {len : Nat} {zs : List Int} (hl : len ≤ zs.length) (hcell : ∀ i, i < zs.length → W.cell? (x.add i) = some (.int .u8 (zs.getD i 0))) (hwz : ∀ n ∈ zs, (Lit.int .u8 n).wf = true) :
    ∃ bs : List By, bs.length = len ∧ IsB W (some x) bs := by
  refine ⟨(zs.take len).map (fun z => BitVec.ofNat 8 z.toNat), by simp; omega, ?_⟩
  by_cases h0 : len = 0
  · left; simp [h0]
  · right
    obtain ⟨b, off, spot⟩ := x
    have hc0 := hcell 0 (by omega)
    have hspot : spot = none := by simpa [Addr.add] using World.cell?_spot hc0
    subst hspot
    refine ⟨b, off, rfl, fun j v hj => ?_⟩
    rw [List.getElem?_map, List.getElem?_take] at hj
    split at hj
    · have hjz : j < zs.length := by omega
      rw [List.getElem?_eq_getElem hjz] at hj
      injection hj with hj
      subst hj
      have h1 := hcell j hjz
      rw [Addr.add_mid] at h1
      rw [h1]
      have h2 : zs.getD j 0 = zs[j] := by simp [hjz]
      have h3 := hwz zs[j] (List.getElem_mem hjz)
      have h4 := bounds_u8 h3
      rw [h2]
      unfold B8
      rw [BitVec.toNat_ofNat]
      congr 2
      omega
    · cases hj

theorem open_bytes {H : Type} {enc : TypeId × Value → H} {W : World} {n : Nat} {a : Option Addr} {len cap : Nat} {x : DataW H × List MemPlace}
    (h : DataW.trod enc Tryz.prog W 0 (fun _ => true) true n 32 [.slice a len cap] = some x) (hsz : ∀ k ∈ x.1.weights Tryz.prog 32, k ≤ reachBytes) :
    ∃ bs : List By, bs.length = len ∧ IsB W a bs ∧ (a = none → cap = 0) ∧ len ≤ cap ∧ len ≤ 140737488351232 := by
  rcases open_ints Tryz.underlying32 Tryz.underlying5 (by kernel_rfl) h with ⟨e2, _⟩ | ⟨a', len', cap', zs, e2, _, hlc, hm, hz, hx, hc, hwz⟩
  · injection e2 with e2 _
    injection e2 with e1 e2 e3
    subst e1; subst e2; subst e3
    exact ⟨[], rfl, .inl rfl, fun _ => rfl, Nat.le_refl _, by omega⟩
  · injection e2 with e2 _
    injection e2 with e1 e2 e3
    subst e1; subst e2; subst e3
    simp at hz
    obtain ⟨bs, hbl, isb⟩ := isB_row (len := len) (by omega) hc hwz
    have hw : (zs.length) * Tryz.prog.bytesOf 5 ≤ reachBytes := by
      refine hsz _ ?_
      rw [hx]
      simp [DataW.weights, Tryz.underlying32, lits]
      left
      congr 1
      omega
    rw [show Tryz.prog.bytesOf 5 = 1 by kernel_rfl] at hw
    simp only [reachBytes] at hw
    exact ⟨bs, hbl, isb, (fun e => by cases e), hlc, by omega⟩
theorem list_of {α : Type} (p : Nat → α → Prop) : ∀ (n : Nat), (∀ i, i < n → ∃ x, p i x) → ∃ l : List α, l.length = n ∧ ∀ i x, l[i]? = some x → p i x
  | 0, _ => ⟨[], rfl, by simp⟩
  | n + 1, h => by
    obtain ⟨l, h1, h2⟩ := list_of p n (fun i hi => h i (by omega))
    obtain ⟨y, hy⟩ := h n (by omega)
    refine ⟨l ++ [y], by simp [h1], fun i x hx => ?_⟩
    by_cases hi : i < l.length
    · rw [List.getElem?_append_left hi] at hx
      exact h2 i x hx
    · have hl := (List.getElem?_eq_some_iff.1 hx).1
      simp at hl
      obtain rfl : i = l.length := by omega
      rw [List.getElem?_append_right (Nat.le_refl _)] at hx
      simp at hx
      subst hx
      rw [h1]; exact hy

theorem weights_all {H : Type} {P : Program} {e : TypeId} {n : Nat} {d : DataW H} : ∀ {l : List (DataW H)}, d ∈ l → n ∈ d.weights P e → n ∈ DataW.weightsAll P e l
  | [], h, _ => by cases h
  | x :: r, h, hn => by
    simp only [DataW.weightsAll, List.mem_append]
    rcases List.mem_cons.1 h with rfl | h
    · exact .inl hn
    · exact .inr (weights_all h hn)

section
variable {H : Type} {enc : TypeId × Value → H} {W : World} {n : Nat} {cs : List Value} {x : DataW H × List MemPlace}

theorem open_hash (h : DataW.trod enc Tryz.prog W 0 (fun _ => true) true n 37 cs = some x) : ∃ bs : List By, bs.length = 32 ∧ cs = bs.map B8 := by
  obtain ⟨xs, m, rfl, rfl, hl, hx, hel⟩ := DataW.trod_array Tryz.underlying37 h
  rw [show Tryz.prog.cellsOf 37 = 32 by kernel_rfl] at hl
  rw [show Tryz.prog.cellsOf 5 = 1 by kernel_rfl] at hel
  obtain ⟨bs, hb1, hb2⟩ := list_of (fun i (b : By) => cs[i]? = some (B8 b)) 32 (fun i hi => by
    have h1 := hel i hi
    rw [List.getElem?_eq_getElem (by omega), Nat.mul_one, List.drop_eq_getElem_cons (by omega)] at h1
    obtain ⟨z, e1, _, hw⟩ := DataW.trod_int Tryz.underlying5 h1
    simp only [List.take_succ_cons, List.take_zero] at e1
    injection e1 with e1 _
    have hb := bounds_u8 hw
    refine ⟨BitVec.ofNat 8 z.toNat, ?_⟩
    rw [List.getElem?_eq_getElem (by omega), e1]
    unfold B8
    rw [BitVec.toNat_ofNat]
    congr 2
    omega)
  refine ⟨bs, hb1, ?_⟩
  apply List.ext_getElem?
  intro i
  by_cases hi : i < 32
  · have hbl : i < bs.length := by omega
    rw [hb2 i bs[i] (List.getElem?_eq_getElem hbl), List.getElem?_map, List.getElem?_eq_getElem hbl]; rfl
  · rw [List.getElem?_eq_none (by omega), List.getElem?_eq_none (by rw [List.length_map]; omega)]

end
end Go.Proofs.YtpcgkjngpdplmaaGreatDoor
