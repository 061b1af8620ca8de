
import Derived.Test.YtgpnbiaghokjkaaDoorD21SpM
import Derived.Test.YtgpnbiaghokjkaaDoorL4Open2
import Derived.ChangeMaps5
import Derived.Deep.Strs
import Derived.JoinedCond
import Derived.Deep.CondSized
/-! Layer 21: chips, texts that came in, laid open. -/
namespace Go.Proofs.YtgpnbiaghokjkaaDoor
set_option maxRecDepth 100000
open Go.ChangeShapes Go.WideShapes Go.ChangeAt Go.RowKit

theorem own21 : ownKnob Tryd.prog.godebug = none := by kernel_rfl
theorem laid21 : laidOutB Tryd.prog = true := by kernel_rfl
section
variable {H : Type} {enc : TypeId × Value → H} {W : World} {n : Nat} {cs : List Value} {x : DataW H × List MemPlace}
theorem open_intsB (h : DataW.trod enc Tryd.prog W 0 (fun _ => true) true n 26 cs = some x) (hsz : ∀ k ∈ x.1.weights Tryd.prog 26, k ≤ reachBytes) :
    ∃ (a : Option Addr) (cap : Nat) (zs : List Int), cs = [.slice a zs.length cap] ∧ IsL W a (zs.map (Value.int .i64)) ∧ ∀ z ∈ zs, -9223372036854775808 ≤ z ∧ z < 9223372036854775808 := by
  obtain ⟨a, cap, zs, e1, e2, _⟩ := open_ones (α := { z : Int // -9223372036854775808 ≤ z ∧ z < 9223372036854775808 }) Tryd.underlying26 (by kernel_rfl) (by kernel_rfl : Tryd.prog.bytesOf 3 = 8) (fun z => Value.int .i64 z.1) (fun m v y hy _ => by
    obtain ⟨z, e1, _, hw⟩ := DataW.trod_int Tryd.underlying3 hy
    injection e1 with e1 _
    simp only [Lit.wf, IntKind.min, IntKind.max, IntKind.signed, IntKind.bits, Bool.and_eq_true, decide_eq_true_eq] at hw
    simp at hw
    exact ⟨⟨z, by omega⟩, e1⟩) h hsz
  refine ⟨a, cap, zs.map (·.1), by rw [List.length_map]; exact e1, by rw [List.map_map]; exact e2, fun z hz => ?_⟩
  obtain ⟨y, _, rfl⟩ := List.mem_map.1 hz
  exact y.2
theorem isL_same {W : World} {a : Option Addr} {xs ys : List Int} (h1 : IsL W a (xs.map (Value.int .i64))) (h2 : IsL W a (ys.map (Value.int .i64))) (hl : xs.length = ys.length) : xs = ys := by
  apply List.ext_getElem hl
  intro i g1 g2
  obtain ⟨B, off, e1, c1⟩ := h1.cell i (.int .i64 xs[i]) (by rw [List.getElem?_map, List.getElem?_eq_getElem g1]; rfl)
  obtain ⟨B2, off2, e2, c2⟩ := h2.cell i (.int .i64 ys[i]) (by rw [List.getElem?_map, List.getElem?_eq_getElem g2]; rfl)
  rw [e1] at e2
  injection e2 with e2
  injection e2 with e2 e3
  subst e2 e3
  rw [c1] at c2
  injection c2 with c2
  injection c2
/-- A chip that came in: its numbers of erases are ints. -/
theorem open_chip (h : DataW.trod enc Tryd.prog W 0 (fun _ => true) true n 29 cs = some x) (hsz : ∀ k ∈ x.1.weights Tryd.prog 29, k ≤ reachBytes) :
    ∃ (v : SV) (t : St), cs = v.vals t ∧ StIn W v t ∧ Lens t ∧ ∀ e ∈ t.erases, -9223372036854775808 ≤ e ∧ e < 9223372036854775808 := by
  obtain ⟨v, t, hv, hin⟩ := open_state h hsz
  obtain ⟨y0, y1, y2, m, rfl, hl, t0, t1, t2⟩ := Deep.trod_struct3 Tryd.underlying29 h
  obtain ⟨a, cap, zs, e1, e2, e3⟩ := open_intsB t1 (fun k hk => hsz k (by
    simp only [DataW.weights, Tryd.underlying29]
    exact DataW.weights_mem_each (j := 1) (t := 26) (d := y1.1) rfl rfl k hk))
  have hr : reachBytes = 140737488351232 := by kernel_rfl
  refine ⟨v, t, hv, hin, ⟨?_, ?_, ?_, fun p hp => ?_⟩, ?_⟩
  · have := hin.l1; omega
  · have := hin.l2; omega
  · have := hin.l3; omega
  · have := hin.lp p hp; omega
  · rw [hv, show Tryd.prog.cellsOf _ = 1 by kernel_rfl] at e1
    have e4 : [Value.slice v.eo t.erases.length v.ec] = [.slice a zs.length cap] := e1
    injection e4 with e4 _
    injection e4 with e5 e6 e7
    have hin2 := hin.view.er
    rw [e5] at hin2
    rw [isL_same hin2 e2 e6]
    exact e3
end
end Go.Proofs.YtgpnbiaghokjkaaDoor
