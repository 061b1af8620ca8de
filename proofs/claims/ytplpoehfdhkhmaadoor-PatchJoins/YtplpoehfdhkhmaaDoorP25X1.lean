
import Derived.Test.YtplpoehfdhkhmaaDoorP25Fx
/-! The law of layer 25: PatchNames, PatchReads. -/
namespace Go.Proofs.YtplpoehfdhkhmaaDoor
open Go.RowKit
set_option linter.unusedVariables false

/-- An error as the program tells it: none, or one in memory. -/
def ErO (W : World) (k a : Nat) (v : Value) : Prop := (k = 0 /\ a = 0 /\ v = .nilIface) ∨ (k ≠ 0 /\ ErrV W k a v)
theorem ErO.keep {W W2 : World} {k a : Nat} {v : Value} (h : ErO W k a v) (hb : Below W.heap.size W W2) : ErO W2 k a v := by
  rcases h with h | ⟨h1, h2⟩
  · exact .inl h
  · exact .inr ⟨h1, h2.keep hb⟩
theorem is_any (w : World) (hg : HG w) (k a : Nat) (v : Value) (h : ErO w k a v) : Calls Tryd.prog 14 #[v, .agg #[.int .i64 (k : Int), .int .i64 (a : Int)]] w fun e w' => e = .returned (.bool true) /\ Below w.heap.size w w' := by
  rcases h with ⟨rfl, rfl, rfl⟩ | ⟨h1, h2⟩
  · exact is_nil w
  · exact is_wrong w hg k a h1 v h2
/-- What reading tells, in one row: a patch (nothing, with an error), an error's number and its place. -/
def rT (p : List By) : PX × Nat × Nat := match readR p with | .error (k, a) => (zX, k, a) | .ok x => (x, 0, 0)
theorem rdp_uni {w : World} {p : List By} {e : Ending} {w' : World} (h : RdP w p e w') : Below w.heap.size w w' /\ ∃ C, e = .returned (.tuple #[.agg C.toArray, .agg #[.int .i64 ((rT p).2.1 : Int), .int .i64 ((rT p).2.2 : Int)]]) /\ PxV w.heap.size w' (rT p).1 C := by
  refine ⟨h.1, ?_⟩
  have h2 := h.2
  unfold rT
  cases hr : readR p with
  | error ka =>
    rw [hr] at h2
    exact ⟨zPx, h2, zX_pxv _ _⟩
  | ok x =>
    rw [hr] at h2
    exact h2
end Go.Proofs.YtplpoehfdhkhmaaDoor
