import Derived.Test.YtljjfhllpbcpeaaR5Open
import Derived.JoinedCond
import Derived.Deep.CondSized
/-! What the bulk's bound says of a slice of bytes. -/
namespace Go.Proofs.Ytljjfhllpbcpeaa
open Go.ChangeShapes Go.WideShapes Go.ChangeAt Go.RowKit

theorem bulk_pos {H : Type} (d : DataW H) : 1 ≤ Rows.uptoBulk d := by
  cases d with
  | lit l => cases l <;> simp [Rows.uptoBulk]
  | _ => simp [Rows.uptoBulk]
theorem bulk_count {H : Type} : ∀ l : List (DataW H), l.length ≤ Rows.uptoBulkAll l
  | [] => by simp [Rows.uptoBulkAll]
  | d :: r => by
    have h1 := bulk_pos d
    have h2 := bulk_count r
    simp only [Rows.uptoBulkAll, List.length_cons]; omega

theorem open_bulk {H : Type} {enc : TypeId × Value → H} {W : World} {n : Nat} {a : Option Addr} {len cap : Nat} {x : DataW H × List MemPlace}
    (h : DataW.trod enc Try.prog W 0 (fun _ => true) true n 23 [.slice a len cap] = some x) : len ≤ Rows.uptoBulk x.1 := by
  rcases open_ints Try.underlying23 Try.underlying5 (by kernel_rfl) h with ⟨e2, _⟩ | ⟨a', len', cap', zs, e2, _, hlc, hm, hz, hx, hc, hwz⟩
  · injection e2 with e2 _
    injection e2 with e1 e2 e3
    omega
  · injection e2 with e2 _
    injection e2 with e1 e2 e3
    subst e1; subst e2; subst e3
    simp at hz
    rw [hx]
    simp only [Rows.uptoBulk]
    have h1 := bulk_count (lits (H := H) .u8 (zs.take len))
    simp [lits] at h1 ⊢
    omega
end Go.Proofs.Ytljjfhllpbcpeaa
