
import Derived.Test.YthegfkcegmeklaaH16Code
/-! The quotes of the law's fixed are unlike (reckoned). -/
namespace Go.Proofs.Ythegfkcegmeklaa
open Go.RowKit
set_option linter.unusedVariables false

def oEv : EvV := ⟨List.replicate 32 0#8, 0⟩
theorem oEv_ok : EvOk oEv := by unfold EvOk; decide
theorem quot_unlike : ¬ quot [1#8] [3#8] [oEv] = quot [1#8] [2#8] [oEv] := by decide +kernel
theorem chk_like : chk [1#8] [2#8] [oEv] (quot [1#8] [2#8] [oEv]) = 0 := by unfold chk; rw [if_neg (by decide), if_pos rfl]
theorem chk_unlike : chk [1#8] [3#8] [oEv] (quot [1#8] [2#8] [oEv]) = 19 := by unfold chk; rw [if_neg (by decide), if_neg quot_unlike]
theorem reg_one (x : EvV) : reg [x] = extend (List.replicate 32 0#8) (measure x) := reg_push [] x

theorem wpList_load_Row_g {ops : Array Oper} {rest : List Oper} {o : Oper} {a : Act} {w : World} {Q : Exit → Act → World → Prop} (hw : Region.wanted o (yielded ops a.tmps) = true) (ty : TypeId) (x : Operand) (ho : o.op = .load ty x)
    (g t : Nat) (cs : List Value) (hr : Row w g t cs) (hx : a.eval x = .pointer (some ⟨g, 0, none⟩)) (d : TypeDesc) (hu : Try.prog.underlying ty = some d) (hd : d.isRow = true) (hi : (Try.prog.info? ty).map (·.size) = some cs.length)
    (h : wpList Try.prog ops Q rest (a.put o.dst (.agg cs.toArray)) w) : wpList Try.prog ops Q (o :: rest) a w := by
  refine wpList_step fun K hK => ?_
  rw [if_pos hw]
  have hl := run_loadVar_mid (P := Try.prog) w g 0 ty cs d (by have := hr.range 0 cs.length; simpa using this) hu hd hi
  unfold Oper.wp execOp
  simp only [ho, hx, Instr.loadAt, Instr.sureAddr, Sem.run_bind, Sem.run_pure, Result.andThen_ok, hl]
  exact hK _ _ h
end Go.Proofs.Ythegfkcegmeklaa
