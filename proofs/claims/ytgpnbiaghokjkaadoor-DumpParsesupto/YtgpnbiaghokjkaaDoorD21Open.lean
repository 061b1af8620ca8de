import Derived.Test.YtgpnbiaghokjkaaDoorD21P7
import Derived.Test.YtgpnbiaghokjkaaDoorD21TC
import Derived.Test.YtgpnbiaghokjkaaDoorC4New
import Derived.SizedLaws
import Derived.WalkKit
import Derived.ProofKit
import Derived.OpenShut
import Derived.ShutString
import Derived.ChangeOld
import Derived.Below
import Derived.Deep.Slices
import Derived.Deep.Strs
import Derived.Test.YtgpnbiaghokjkaaDoorD21KpM
import Derived.ChangeMaps5
import Derived.JoinedCond
import Derived.Deep.CondSized
/-! Layer 21: the landed code keeps its contracts. -/
namespace Go.Proofs.YtgpnbiaghokjkaaDoor
open Go.RowKit
theorem ParO.parP {T : List By} {w w' : World} {e : Ending} (h : ParO T w e w') : ParP T w e w' := by
  obtain ⟨v, qs, h1, h2, _, h3⟩ := h
  exact ⟨v, h1, h2, h3⟩
theorem dmpOf : Dmp := ⟨fun c v t w hq h hl he => print_any c v t w hq h hl he, fun T w hT => (parse_own T (by omega) w).mono fun e w' h => h.parP⟩
end Go.Proofs.YtgpnbiaghokjkaaDoor


/-! The statements' own functions: done, mixed. -/
namespace Go.Proofs.YtgpnbiaghokjkaaDoor
open Go.RowKit

end Go.Proofs.YtgpnbiaghokjkaaDoor


/-! The statements' own function fixed. -/
namespace Go.Proofs.YtgpnbiaghokjkaaDoor
open Go.RowKit

end Go.Proofs.YtgpnbiaghokjkaaDoor


/-! What comes in, laid open: configs, states, steps, bytes. -/
namespace Go.Proofs.YtgpnbiaghokjkaaDoor
set_option maxRecDepth 100000
open Go.ChangeShapes Go.WideShapes Go.ChangeAt Go.RowKit

section
variable {H : Type} {enc : TypeId × Value → H} {W : World} {n : Nat} {cs : List Value} {x : DataW H × List MemPlace}

end
end Go.Proofs.YtgpnbiaghokjkaaDoor


/-! Configs, states and steps that come in. -/
namespace Go.Proofs.YtgpnbiaghokjkaaDoor
set_option maxRecDepth 100000
open Go.ChangeShapes Go.WideShapes Go.ChangeAt Go.RowKit

section
variable {H : Type} {enc : TypeId × Value → H} {W : World} {n : Nat} {cs : List Value} {x : DataW H × List MemPlace}

end
end Go.Proofs.YtgpnbiaghokjkaaDoor


/-! Layer 21: chips, texts that came in, laid open. -/
namespace Go.Proofs.YtgpnbiaghokjkaaDoor
set_option maxRecDepth 100000
open Go.ChangeShapes Go.WideShapes Go.ChangeAt Go.RowKit

theorem own21 : ownKnob Tryd.prog.godebug = none := by kernel_rfl
theorem laid21 : laidOutB Tryd.prog = true := by kernel_rfl
section
variable {H : Type} {enc : TypeId × Value → H} {W : World} {n : Nat} {cs : List Value} {x : DataW H × List MemPlace}
/-- The texts of a slice of texts. -/
theorem open_texts (h : DataW.trod enc Tryd.prog W 0 (fun _ => true) true n 34 cs = some x) (hu : Rows.uptoBulk x.1 ≤ 1048576) :
    ∃ (ao : Option Addr) (cap : Nat) (Ts : List (List By)), cs = [.slice ao Ts.length cap] ∧ IsL W ao (Ts.map strV) ∧ Ts.length ≤ 1048576 ∧ ∀ T ∈ Ts, T.length ≤ 1048576 := by
  rcases Deep.open_strs Tryd.underlying34 Tryd.underlying9 (by kernel_rfl) h with ⟨rfl, rfl⟩ | ⟨a, len, cap, m, Sx, rfl, _, hlc, _, hm, rfl, hc⟩
  · exact ⟨none, 0, [], rfl, .inl rfl, by simp, fun T hT => by cases hT⟩
  · have hlm : len ≤ m := by rw [hm]; split <;> omega
    have hall : ∀ (l : List Nat), (∀ i ∈ l, (Sx i).size < Rows.uptoBulkAll (l.map fun i => (DataW.lit (Lit.string (Sx i).data.toList) : DataW H))) ∧ l.length ≤ Rows.uptoBulkAll (l.map fun i => (DataW.lit (Lit.string (Sx i).data.toList) : DataW H)) := by
      intro l
      induction l with
      | nil => exact ⟨fun i hi => (by cases hi), by simp⟩
      | cons a l ih =>
        have e : Rows.uptoBulkAll ((a :: l).map fun i => (DataW.lit (Lit.string (Sx i).data.toList) : DataW H)) = ((Sx a).size + 1) + Rows.uptoBulkAll (l.map fun i => (DataW.lit (Lit.string (Sx i).data.toList) : DataW H)) := by
          simp only [List.map_cons, Rows.uptoBulkAll, Rows.uptoBulk]
          rfl
        rw [e]
        refine ⟨fun i hi => ?_, ?_⟩
        · rcases List.mem_cons.1 hi with rfl | hi
          · omega
          · have := ih.1 i hi; omega
        · have := ih.2
          rw [List.length_cons]; omega
    obtain ⟨h1, h2⟩ := hall (List.range len)
    simp only [Rows.uptoBulk] at hu
    rw [List.length_range] at h2
    refine ⟨some a, cap, (List.range len).map fun i => toL (Sx i), by simp, ?_, by simp; omega, fun T hT => ?_⟩
    · by_cases h0 : len = 0
      · subst h0; exact .inl rfl
      · obtain ⟨b, off, spot⟩ := a
        have hc0 := (hc 0 (by omega)).1
        have hspot : spot = none := by simpa [Addr.add] using World.cell?_spot hc0
        subst hspot
        refine .inr ⟨b, off, rfl, fun j v hj => ?_⟩
        rw [List.getElem?_map, List.getElem?_map] at hj
        by_cases hjl : j < len
        · rw [List.getElem?_range hjl] at hj
          injection hj with hj
          subst hj
          have := (hc j (by omega)).1
          rw [Addr.add_mid] at this
          show _ = some (Value.string (strOf (toL (Sx j))))
          rw [this, strOf_toL]
        · rw [List.getElem?_eq_none (by simpa using hjl)] at hj
          cases hj
    · obtain ⟨i, hi, rfl⟩ := List.mem_map.1 hT
      rw [toL_len]
      have := h1 i hi
      omega
end
end Go.Proofs.YtgpnbiaghokjkaaDoor
