
import Derived.Test.YtplpoehfdhkhmaaDoorP25X1
/-! The law of layer 25: PatchMakes. -/
namespace Go.Proofs.YtplpoehfdhkhmaaDoor
open Go.RowKit
set_option linter.unusedVariables false

/-- A row of bytes that came in, or was told. -/
structure RowIn (w : World) (ao : Option Addr) (c : Nat) (m : List By) : Prop where
  len : m.length <= 140737488351232
  cap : m.length <= c
  nil : ao = none -> c = 0
  isb : IsB w ao m
theorem RowIn.keep {w w' : World} {ao : Option Addr} {c : Nat} {m : List By} (h : RowIn w ao c m) (hb : Below w.heap.size w w') : RowIn w' ao c m := ⟨h.len, h.cap, h.nil, h.isb.below hb (Nat.le_refl _)⟩
theorem BV.rowIn {w : World} {v : Value} {m : List By} (h : BV w v m) (hl : m.length <= 140737488351232) : ∃ ao c, v = .slice ao m.length c /\ RowIn w ao c m := by
  obtain ⟨ao, c, e, hi, h1, h2⟩ := h.eq
  exact ⟨ao, c, e, hl, h2, h1, hi⟩
section
variable {M J : List By -> List By -> List By}
theorem Pch.jo (P : Pch M J) {w : World} (hg : HG w) {ao : Option Addr} {c : Nat} {p : List By} (ho : RowIn w ao c p) {po : Option Addr} {pc : Nat} {q : List By} (hp : RowIn w po pc q) : Calls Tryd.prog 19 #[.slice ao p.length c, .slice po q.length pc] w (CJo J w p q) :=
  P.join w ao _ c p po _ pc q hg rfl ho.len ho.cap ho.nil ho.isb rfl hp.len hp.cap hp.nil hp.isb
theorem rd_ref {w : World} {po : Option Addr} {pc : Nat} {p : List By} (hp : RowIn w po pc p) : Calls Tryd.prog 11 #[.slice po p.length pc] w (RdP w p) := rdC_any w po _ pc p rfl hp.len hp.cap hp.isb
end

end Go.Proofs.YtplpoehfdhkhmaaDoor
