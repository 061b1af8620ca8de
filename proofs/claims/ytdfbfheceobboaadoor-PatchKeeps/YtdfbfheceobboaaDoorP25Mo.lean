import Derived.Test.YtdfbfheceobboaaDoorRefOf
import Derived.Test.YtdfbfheceobboaaDoorRows
import Derived.DeepKeys
import Derived.Test.YtdfbfheceobboaaDoorI11Mem
import Derived.Test.YtdfbfheceobboaaDoorP25Wr
import Derived.Test.YtdfbfheceobboaaDoorI11Inv
import Derived.Great.BuildSlice
import Derived.BigQuiet

namespace Go.Proofs.YtdfbfheceobboaaDoor
open Go.RowKit

theorem mapM_some {α β : Type} {f : α → Option β} (g : α → β) : ∀ (l : List α), (∀ x ∈ l, f x = some (g x)) → l.mapM f = some (l.map g)
  | [], _ => rfl
  | x :: l, h => by
    rw [List.mapM_cons, h x (by simp), mapM_some g l (fun y hy => h y (by simp [hy]))]
    rfl

theorem Tryd.cells44 : Tryd.prog.cellsOf 44 = 32 := by kernel_rfl
theorem Tryd.cells5 : Tryd.prog.cellsOf 5 = 1 := by kernel_rfl

end Go.Proofs.YtdfbfheceobboaaDoor


/-! Two hashes held against each other; a whole row loaded where a guard lets it. -/
namespace Go.Proofs.YtdfbfheceobboaaDoor
open Go.RowKit
set_option linter.unusedVariables false
set_option maxRecDepth 100000

def hashLits (bs : List By) : List Lit := ((List.range 32).map fun i => [Lit.int .u8 ((bs.getD i 0).toNat : Int)]).flatten
theorem hash_key_at (bs : List By) (hl : bs.length = 32) : Tryd.prog.keyLits 2 44 (bs.map B8) = some (hashLits bs) := by
  have hu : Tryd.prog.underlying 44 = some (.array 32 5) := Tryd.underlying44
  unfold Program.keyLits
  simp only [hu]
  rw [if_pos (by rw [Tryd.cells44, List.length_map, hl])]
  rw [mapM_some (fun i => [Lit.int .u8 ((bs.getD i 0).toNat : Int)])]
  · rfl
  · intro i hi
    rw [List.mem_range] at hi
    have e : ((bs.map B8).drop (i * Tryd.prog.cellsOf 5)).take (Tryd.prog.cellsOf 5) = [.int .u8 ((bs.getD i 0).toNat : Int)] := by
      rw [Tryd.cells5, Nat.mul_one, List.drop_eq_getElem_cons (by rw [List.length_map, hl]; exact hi)]
      simp [B8, hl, hi]
    rw [e]
    unfold Program.keyLits
    have h8 := b8_lt (bs.getD i 0)
    simp only [Tryd.underlying5]
    rw [if_pos ⟨trivial, WalkArith.wf_u8 (by omega)⟩]
theorem flat_one {α β : Type} (g : α → β) : ∀ l : List α, (l.map fun i => [g i]).flatten = l.map g
  | [] => rfl
  | x :: l => by simp [flat_one g l]
theorem hashLits_inj {a b : List By} (ha : a.length = 32) (hb : b.length = 32) (h : hashLits a = hashLits b) : a = b := by
  unfold hashLits at h
  rw [flat_one (fun i => Lit.int .u8 ((a.getD i 0).toNat : Int)), flat_one (fun i => Lit.int .u8 ((b.getD i 0).toNat : Int)), List.map_inj_left] at h
  refine List.ext_getElem (by rw [ha, hb]) fun i h1 h2 => ?_
  have := h i (by rw [List.mem_range]; omega)
  rw [getD_lt h1, getD_lt h2] at this
  injection this with _ e
  exact BitVec.eq_of_toNat_eq (by omega)
theorem eq_any (a b : List By) (ha : a.length = 32) (hb : b.length = 32) (r : Bool) (hr0 : r = decide (a = b)) (w : World) : (Op.equalIn 10000 44 (.agg (a.map B8).toArray) (.agg (b.map B8).toArray)).run Tryd.prog w = .ok r w := by
  have hf : ∀ bs : List By, bs.length = 32 → (Value.agg (bs.map B8).toArray).formed Tryd.prog 44 = true := fun bs hl => by
    simp [Value.formed, Tryd.underlying44, Tryd.cells44, hl]
  have hk : ∀ bs : List By, bs.length = 32 → Tryd.prog.keyLits 2 44 (Value.agg (bs.map B8).toArray).cells.toList = some (hashLits bs) := fun bs hl => by simpa [Value.cells] using hash_key_at bs hl
  obtain ⟨q, hr, hiff⟩ := run_equalIn_deep (P := Tryd.prog) 9998 2 44 (by kernel_rfl) w 2 2 _ _ _ _ (hf a ha) (hf b hb) (hk a ha) (hk b hb)
  rw [hr, hr0]
  congr 1
  rw [Bool.eq_iff_iff, hiff, decide_eq_true_iff]
  exact ⟨hashLits_inj ha hb, fun h => by rw [h]⟩

end Go.Proofs.YtdfbfheceobboaaDoor


/-! The reference's patch: Apply. (Printed by tools/gen25.py.) -/
namespace Go.Proofs.YtdfbfheceobboaaDoor
open Go.RowKit
set_option linter.unusedVariables false

theorem step_load_rng25 {ops : Array Oper} {o : Oper} {a : Act} {w : World} {K : Act → World → Prop} {Q : Exit → Act → World → Prop} {X : Prop} (hw : Region.wanted o (yielded ops a.tmps) = true) (ty : TypeId) (x : Operand) (ho : o.op = .load ty x)
    (g off : Nat) (cs : List Value) (hr : w.rangeAt g off cs) (hx : a.eval x = .pointer (some ⟨g, off, none⟩)) (d : TypeDesc) (hu : Tryd.prog.underlying ty = some d) (hd : d.isRow = true) (hi : (Tryd.prog.info? ty).map (·.size) = some cs.length)
    (h : K (a.put o.dst (.agg cs.toArray)) w) : if Region.wanted o (yielded ops a.tmps) = true then Oper.wp Tryd.prog o a w K Q else X := by
  rw [if_pos hw]
  have hl := run_loadVar_mid (P := Tryd.prog) w g off ty cs d hr hu hd hi
  unfold Oper.wp execOp
  simp only [ho, hx, Instr.loadAt, Instr.sureAddr, Sem.run_bind, Sem.run_pure, Result.andThen_ok, hl]
  exact h
section
variable {W1 : World} {c : List Value} {g7 : Nat} {L : Nat → Bool} {x17 x4 : Value} {W W2 : World}
end
section
variable {W1 : World} {G : Nat} {ao : Option Addr} {n cap bf : Nat} {SO OC : List Value} {r : Bool} {L : Nat → Bool} {x18 x19 x20 x21 x22 x23 x24 x25 x26 x27 x28 x29 : Value} {W W2 : World}
end
section
variable {W1 : World} {G : Nat} {ao : Option Addr} {n cap bf : Nat} {SO OC : List Value} {r : Bool} {L : Nat → Bool} {x18 x19 x20 x21 x22 x23 x24 x25 x26 x27 x28 x29 : Value} {W W2 : World}
end
section
variable {W1 : World} {G : Nat} {bo : Option Addr} {m bc : Nat} {SB NC : List Value} {r : Bool} {L : Nat → Bool} {x34 x35 x36 x37 x38 : Value} {W W2 : World}
end
end Go.Proofs.YtdfbfheceobboaaDoor


/-! The reference's patch: Joins. (Printed by tools/gen25.py.) -/
namespace Go.Proofs.YtdfbfheceobboaaDoor
open Go.RowKit
set_option linter.unusedVariables false

/-- May two patches be joined? -/
def joinsR (p q : List By) : Except (Nat × Nat) (PX × PX) :=
  match readR p with
  | .error (e, a) => .error (e, a)
  | .ok x =>
    match readR q with
    | .error (e, a) => .error (e, a)
    | .ok y => if y.old ≠ x.new ∨ y.before ≠ x.after then .error (11, 5) else .ok (x, y)
section
variable {w : World} {c : List Value} {g8 : Nat} {l5 : Bool} {W W2 : World}
end

section
variable {w : World} {x y : PX} {C D : List Value} {G G9 : Nat} {l3 l4 : Bool} {W W2 : World}
end

section
variable {W1 : World} {c : List Value} {g8 : Nat} {L : Nat → Bool} {x18 x19 x20 : Value} {W W2 : World}
end
section
variable {W1 : World} {c : List Value} {g8 : Nat} {L : Nat → Bool} {x29 x30 x31 : Value} {W W2 : World}
end
section
variable {W1 : World} {x y : PX} {C E : List Value} {G G9 : Nat} {L : Nat → Bool} {x47 x48 x49 : Value} {W W2 : World}
end
end Go.Proofs.YtdfbfheceobboaaDoor


/-! The reference's patch: part. (Printed by tools/gen25.py.) -/
namespace Go.Proofs.YtdfbfheceobboaaDoor
open Go.RowKit
set_option linter.unusedVariables false

section
variable {w : World} {c : List Value} {gE : Nat} {l5 : Bool} {W W2 : World}
end
section
variable {w W : World} {gx : Nat} {old new : List By} {bef aft : Nat} {lo : Option Addr} {lc B0 : Nat} {l : List Pt}
end
section
variable {W1 : World} {c : List Value} {gE : Nat} {L : Nat → Bool} {x24 x25 x9 : Value} {W W2 : World}
end
section
variable {W1 : World} {c : List Value} {gE : Nat} {L : Nat → Bool} {x44 x45 x9 : Value} {W W2 : World}
end
section
variable {W1 : World} {c : List Value} {gE : Nat} {L : Nat → Bool} {x56 x57 x9 : Value} {W W2 : World}
end
section
variable {W1 : World} {c : List Value} {gE : Nat} {L : Nat → Bool} {x111 x112 x9 : Value} {W W2 : World}
end
section
variable {W1 : World} {c : List Value} {gE : Nat} {L : Nat → Bool} {x122 x123 x9 : Value} {W W2 : World}
end
section
variable {W1 : World} {G gx hv nn aft bef ff : Nat} {lo : Option Addr} {ln lc : Nat} {Y : List Value} {bb : Bool} {L : Nat → Bool} {x71 x72 x73 x74 x75 x76 x77 x78 x79 x80 x81 x82 x83 x84 x85 x86 x87 x88 x89 x90 x91 x92 x93 x94 x95 x96 x97 x98 x99 x100 x101 x102 x103 x104 x105 x106 x107 x108 x109 x110 : Value} {W W2 : World}
end
section
variable {W1 : World} {G gx hv nn aft bef ff : Nat} {lo : Option Addr} {ln lc : Nat} {Y : List Value} {bb : Bool} {L : Nat → Bool} {x71 x72 x73 x74 x75 x76 x77 x78 x79 x80 x81 x82 x83 x84 x85 x86 x87 x88 x89 x90 x91 x92 x93 x94 x95 x96 x97 x98 x99 x100 x101 x102 x103 x104 x105 x106 x107 x108 x109 x110 : Value} {W W2 : World}
end
section
variable {W1 : World} {G gx hv nn aft bef ff : Nat} {lo : Option Addr} {ln lc : Nat} {Y : List Value} {bb : Bool} {L : Nat → Bool} {x71 x72 x73 x74 x75 x76 x77 x78 x79 x80 x81 x82 x83 x84 x85 x86 x87 x88 x89 x90 x91 x92 x93 x94 x95 x96 x97 x98 x99 x100 x101 x102 x103 x104 x105 x106 x107 x108 x109 x110 : Value} {W W2 : World}
end
section
variable {W1 : World} {G gx hv nn aft bef ff : Nat} {lo : Option Addr} {ln lc : Nat} {Y : List Value} {bb : Bool} {L : Nat → Bool} {x71 x72 x73 x74 x75 x76 x77 x78 x79 x80 x81 x82 x83 x84 x85 x86 x87 x88 x89 x90 x91 x92 x93 x94 x95 x96 x97 x98 x99 x100 x101 x102 x103 x104 x105 x106 x107 x108 x109 x110 : Value} {W W2 : World}
end
section
variable {W1 : World} {G gx hv nn aft bef ff : Nat} {lo : Option Addr} {ln lc : Nat} {Y : List Value} {bb : Bool} {L : Nat → Bool} {x71 x72 x73 x74 x75 x76 x77 x78 x79 x80 x81 x82 x83 x84 x85 x86 x87 x88 x89 x90 x91 x92 x93 x94 x95 x96 x97 x98 x99 x100 x101 x102 x103 x104 x105 x106 x107 x108 x109 x110 : Value} {W W2 : World}
end
end Go.Proofs.YtdfbfheceobboaaDoor


/-! The reference's patch: part, way by way. (Printed by tools/genpt25.py.) -/
namespace Go.Proofs.YtdfbfheceobboaaDoor
open Go.RowKit
set_option linter.unusedVariables false

end Go.Proofs.YtdfbfheceobboaaDoor


/-! The reference's patch: part, way by way. (Printed by tools/genpt25.py.) -/
namespace Go.Proofs.YtdfbfheceobboaaDoor
open Go.RowKit
set_option linter.unusedVariables false

end Go.Proofs.YtdfbfheceobboaaDoor


/-! The reference's patch: part, way by way. (Printed by tools/genpt25.py.) -/
namespace Go.Proofs.YtdfbfheceobboaaDoor
open Go.RowKit
set_option linter.unusedVariables false

end Go.Proofs.YtdfbfheceobboaaDoor


/-! The reference's patch: part, way by way. (Printed by tools/genpt25.py.) -/
namespace Go.Proofs.YtdfbfheceobboaaDoor
open Go.RowKit
set_option linter.unusedVariables false

end Go.Proofs.YtdfbfheceobboaaDoor


/-! The reference's patch: part, way by way. (Printed by tools/genpt25.py.) -/
namespace Go.Proofs.YtdfbfheceobboaaDoor
open Go.RowKit
set_option linter.unusedVariables false

end Go.Proofs.YtdfbfheceobboaaDoor


/-! The reference's patch: part, whole; a part more. -/
namespace Go.Proofs.YtdfbfheceobboaaDoor
open Go.RowKit
set_option linter.unusedVariables false

end Go.Proofs.YtdfbfheceobboaaDoor


/-! The reference's patch: Read, what it needs. (Printed by tools/genrd25.py.) -/
namespace Go.Proofs.YtdfbfheceobboaaDoor
open Go.RowKit
set_option linter.unusedVariables false

section
variable {w : World} {c : List Value} {gE : Nat} {l3 : Bool} {W W2 : World}
end
section
variable {w : World} {p old new : List By} {bef aft G a hv : Nat} {l : List Pt} {lo : Option Addr} {lc : Nat} {W W2 : World}
end
section
variable {W1 : World} {c : List Value} {gE : Nat} {L : Nat → Bool} {x19 x20 : Value} {W W2 : World}
end
section
variable {W1 : World} {c : List Value} {gE : Nat} {L : Nat → Bool} {x36 x37 : Value} {W W2 : World}
end
end Go.Proofs.YtdfbfheceobboaaDoor


/-! The reference's patch: Read. (Printed by tools/genrd25.py.) -/
namespace Go.Proofs.YtdfbfheceobboaaDoor
open Go.RowKit
set_option linter.unusedVariables false

end Go.Proofs.YtdfbfheceobboaaDoor


/-! How long a patch may be, as data. -/
namespace Go.Proofs.YtdfbfheceobboaaDoor
open Go.RowKit
set_option linter.unusedVariables false

/-- How many bytes two rows have in common at their beginning. -/
def lcp : List By → List By → Nat
  | x :: xs, y :: ys => if x = y then lcp xs ys + 1 else 0
  | _, _ => 0
theorem lcp_step (u v : List By) (a : Nat) : lcp (u.drop a) (v.drop a) = if a < u.length ∧ a < v.length ∧ u.getD a 0 = v.getD a 0 then lcp (u.drop (a + 1)) (v.drop (a + 1)) + 1 else 0 := by
  by_cases hu : a < u.length
  · by_cases hv : a < v.length
    · rw [List.drop_eq_getElem_cons hu, List.drop_eq_getElem_cons hv, lcp]
      have e1 : u.getD a 0 = u[a] := getD_lt hu
      have e2 : v.getD a 0 = v[a] := getD_lt hv
      by_cases h : u[a] = v[a]
      · rw [if_pos h, if_pos ⟨hu, hv, by rw [e1, e2]; exact h⟩]
      · rw [if_neg h, if_neg (fun hh => h (by rw [← e1, ← e2]; exact hh.2.2))]
    · rw [if_neg (fun h => hv h.2.1), (List.drop_eq_nil_of_le (by omega) : v.drop a = [])]
      cases u.drop a <;> rfl
  · rw [if_neg (fun h => hu h.1), (List.drop_eq_nil_of_le (by omega) : u.drop a = [])]
    cases v.drop a <;> rfl
theorem lcp_le : ∀ (u v : List By), lcp u v ≤ u.length ∧ lcp u v ≤ v.length
  | [], v => by cases v <;> simp [lcp]
  | x :: xs, [] => by simp [lcp]
  | x :: xs, y :: ys => by
    rw [lcp]
    have := lcp_le xs ys
    split
    · simp only [List.length_cons]; omega
    · simp
/-- How many they have in common at the end of what is left. -/
def lcs (old new : List By) (a : Nat) : Nat := lcp (old.drop a).reverse (new.drop a).reverse
def mostN (old new : List By) : Nat :=
  if new.length = 0 then 77 else
    min (77 + (if 0 < lcp old new then 9 else 0) + (if 0 < lcs old new (lcp old new) then 9 else 0) + (if lcp old new + lcs old new (lcp old new) < new.length then 5 + new.length - lcp old new - lcs old new (lcp old new) else 0)) (82 + new.length)
theorem rev_getD (l : List By) (a z : Nat) (h : z < l.length - a) : (l.drop a).reverse.getD z 0 = l.getD (l.length - 1 - z) 0 := by
  have hl : z < (l.drop a).reverse.length := by rw [List.length_reverse, List.length_drop]; exact h
  rw [getD_lt hl, List.getElem_reverse, getD_lt (by omega), List.getElem_drop]
  congr 1
  rw [List.length_drop]
  omega
end Go.Proofs.YtdfbfheceobboaaDoor


/-! The reference's patch: Most. -/
namespace Go.Proofs.YtdfbfheceobboaaDoor
open Go.RowKit
set_option linter.unusedVariables false

theorem by_beq (x y : By) : (((x.toNat : Nat) : Int) == ((y.toNat : Nat) : Int)) = decide (x = y) := by
  rw [Bool.eq_iff_iff]
  simp only [beq_iff_eq, decide_eq_true_eq, Int.natCast_inj]
  exact ⟨fun h => BitVec.eq_of_toNat_eq h, fun h => by rw [h]⟩

end Go.Proofs.YtdfbfheceobboaaDoor
