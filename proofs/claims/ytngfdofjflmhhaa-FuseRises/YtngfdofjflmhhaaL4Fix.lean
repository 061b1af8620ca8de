
import Derived.Test.YtngfdofjflmhhaaL4A
/-! The statements' own function fixed. -/
namespace Go.Proofs.Ytngfdofjflmhhaa
open Go.RowKit

theorem wpList_load_Row_g {ops : Array Oper} {rest : List Oper} {o : Oper} {a : Act} {w : World} {Q : Exit → Act → World → Prop} (hw : Region.wanted o (yielded ops a.tmps) = true) (ty : TypeId) (x : Operand) (ho : o.op = .load ty x)
    (g t : Nat) (cs : List Value) (hr : Row w g t cs) (hx : a.eval x = .pointer (some ⟨g, 0, none⟩)) (d : TypeDesc) (hu : Try.prog.underlying ty = some d) (hd : d.isRow = true) (hi : (Try.prog.info? ty).map (·.size) = some cs.length)
    (h : wpList Try.prog ops Q rest (a.put o.dst (.agg cs.toArray)) w) : wpList Try.prog ops Q (o :: rest) a w := by
  refine wpList_step fun K hK => ?_
  rw [if_pos hw]
  have hl := run_loadVar_mid (P := Try.prog) w g 0 ty cs d (by have := hr.range 0 cs.length; simpa using this) hu hd hi
  unfold Oper.wp execOp
  simp only [ho, hx, Instr.loadAt, Instr.sureAddr, Sem.run_bind, Sem.run_pure, Result.andThen_ok, hl]
  exact hK _ _ h

def fixC : Cfg := ⟨4, 1, 2, 1, 1, 1, 0⟩
def fix0 : RS := layS fixC (freshC fixC)
def fix1 : RS := fix0.program 0 1 (List.replicate 32 0#8)
def fix2 : RS := { fix1 with wait := max (-1) 0, mask := [1#8] }
def fix3 : RS := fix2.blow 2
def fix4 : RS := { fix3 with gone := false }
theorem fix_may : fixC.may = 0 := by decide +kernel
theorem fix_e1 : fix0.programE 0 1 = 0 := by decide +kernel
theorem fix_at : fix1.at 0 1 = 0 := by decide +kernel
theorem fix_cell : fix1.cell 0 1 = List.replicate 32 0#8 := by decide +kernel
theorem fix_e3 : fix2.blowE 2 = 8 := by decide +kernel
theorem fix_f4 : fix4.fuse 2 = 0 := by decide +kernel
theorem fix_b4 : fix4.blown.getD 2 false = true := by decide +kernel
theorem fix_n4 : fix4.n = 2 := by decide +kernel
theorem fix_n0 : 0 ≤ fix0.n ∧ fix0.n < 4611686018427387904 ∧ fix0.wait < 9223372036854775808 := by decide +kernel
theorem fix_n2 : 0 ≤ fix2.n ∧ fix2.n < 4611686018427387904 ∧ fix2.wait < 9223372036854775808 := by decide +kernel

theorem isb_one (W : World) : IsB (W.alloc (.cells #[.int .u8 1] 5)) (some ⟨W.heap.size, 0, none⟩) [1#8] := by
  refine .inr ⟨W.heap.size, 0, rfl, fun j v hj => ?_⟩
  have hr : Row (W.alloc (.cells #[.int .u8 1] 5)) W.heap.size 5 [.int .u8 1] := Row.at _ _ _ _ _ rfl rfl
  cases j with
  | zero =>
    simp at hj
    subst hj
    rw [Nat.add_zero]
    exact hr.cell 0 _ rfl
  | succ j => simp at hj

end Go.Proofs.Ytngfdofjflmhhaa
