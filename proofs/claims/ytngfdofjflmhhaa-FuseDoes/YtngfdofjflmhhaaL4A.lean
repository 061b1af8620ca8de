
import Derived.Test.YtngfdofjflmhhaaC4New
/-! The statements' own functions: done, mixed. -/
namespace Go.Proofs.Ytngfdofjflmhhaa
open Go.RowKit

/-- A step, as values. -/
def stepVals (k a b : Int) (x : List By) (mo : Option Addr) (ml mc : Nat) : List Value := [.int .i64 k, .int .i64 a, .int .i64 b] ++ x.map B8 ++ [.slice mo ml mc]

/-- An act, as 'done' does it. -/
def RS.doneS (s : RS) (k a b : Int) (x : List By) : RS := if k = 2 then s.program a b x else if k = 3 then s.erase a else s.blow a
def RS.doneE (s : RS) (k a b : Int) : Int := if k = 2 then s.programE a b else if k = 3 then s.eraseE a else s.blowE a

theorem CPost.above {F : RF} {s' : RS} {r : Int} {w0 w w' : World} {e : Ending} (h : CPost F s' r w e w') (hb : Below w0.heap.size w0 w) : CPost F s' r w0 e w' := by
  obtain ⟨h1, h2, h3⟩ := h
  refine ⟨h1, h2, ((KeptL.refl F.blocks w0).below hb (Nat.le_refl _)).trans ?_⟩
  exact h3

end Go.Proofs.Ytngfdofjflmhhaa
