import Derived.Test.YtplpoehfdhkhmaaDoorWords
import Derived.Test.YtplpoehfdhkhmaaDoorRows
import Derived.DeepKeys
import Derived.Test.YtplpoehfdhkhmaaDoorOpenA

namespace Go.Proofs.YtplpoehfdhkhmaaDoor
open Go.RowKit

theorem mapM_some {α β : Type} {f : α -> Option β} (g : α -> β) : ∀ (l : List α), (∀ x ∈ l, f x = some (g x)) -> l.mapM f = some (l.map g)
  | [], _ => rfl
  | x :: l, h => by
    rw [List.mapM_cons, h x (by simp), mapM_some g l (fun y hy => h y (by simp [hy]))]
    rfl

theorem Tryd.cells25 : Tryd.prog.cellsOf 25 = 32 := by kernel_rfl
theorem Tryd.cells5 : Tryd.prog.cellsOf 5 = 1 := by kernel_rfl

end Go.Proofs.YtplpoehfdhkhmaaDoor


/-! Two hashes held against each other; a whole row loaded where a guard lets it. -/
namespace Go.Proofs.YtplpoehfdhkhmaaDoor
open Go.RowKit
set_option linter.unusedVariables false
set_option maxRecDepth 100000

def hashLits (bs : List By) : List Lit := ((List.range 32).map fun i => [Lit.int .u8 ((bs.getD i 0).toNat : Int)]).flatten
theorem hash_key_at (bs : List By) (hl : bs.length = 32) : Tryd.prog.keyLits 2 25 (bs.map B8) = some (hashLits bs) := by
  have hu : Tryd.prog.underlying 25 = some (.array 32 5) := Tryd.underlying25
  unfold Program.keyLits
  simp only [hu]
  rw [if_pos (by rw [Tryd.cells25, List.length_map, hl])]
  rw [mapM_some (fun i => [Lit.int .u8 ((bs.getD i 0).toNat : Int)])]
  · rfl
  · intro i hi
    rw [List.mem_range] at hi
    have e : ((bs.map B8).drop (i * Tryd.prog.cellsOf 5)).take (Tryd.prog.cellsOf 5) = [.int .u8 ((bs.getD i 0).toNat : Int)] := by
      rw [Tryd.cells5, Nat.mul_one, List.drop_eq_getElem_cons (by rw [List.length_map, hl]; exact hi)]
      simp [B8, hl, hi]
    rw [e]
    unfold Program.keyLits
    have h8 := b8_lt (bs.getD i 0)
    simp only [Tryd.underlying5]
    rw [if_pos ⟨trivial, WalkArith.wf_u8 (by omega)⟩]
theorem flat_one {α β : Type} (g : α -> β) : ∀ l : List α, (l.map fun i => [g i]).flatten = l.map g
  | [] => rfl
  | x :: l => by simp [flat_one g l]
theorem hashLits_inj {a b : List By} (ha : a.length = 32) (hb : b.length = 32) (h : hashLits a = hashLits b) : a = b := by
  unfold hashLits at h
  rw [flat_one (fun i => Lit.int .u8 ((a.getD i 0).toNat : Int)), flat_one (fun i => Lit.int .u8 ((b.getD i 0).toNat : Int)), List.map_inj_left] at h
  refine List.ext_getElem (by rw [ha, hb]) fun i h1 h2 => ?_
  have := h i (by rw [List.mem_range]; omega)
  rw [getD_lt h1, getD_lt h2] at this
  injection this with _ e
  exact BitVec.eq_of_toNat_eq (by omega)
theorem eq_any (a b : List By) (ha : a.length = 32) (hb : b.length = 32) (r : Bool) (hr0 : r = decide (a = b)) (w : World) : (Op.equalIn 10000 25 (.agg (a.map B8).toArray) (.agg (b.map B8).toArray)).run Tryd.prog w = .ok r w := by
  have hf : ∀ bs : List By, bs.length = 32 -> (Value.agg (bs.map B8).toArray).formed Tryd.prog 25 = true := fun bs hl => by
    simp [Value.formed, Tryd.underlying25, Tryd.cells25, hl]
  have hk : ∀ bs : List By, bs.length = 32 -> Tryd.prog.keyLits 2 25 (Value.agg (bs.map B8).toArray).cells.toList = some (hashLits bs) := fun bs hl => by simpa [Value.cells] using hash_key_at bs hl
  obtain ⟨q, hr, hiff⟩ := run_equalIn_deep (P := Tryd.prog) 9998 2 25 (by kernel_rfl) w 2 2 _ _ _ _ (hf a ha) (hf b hb) (hk a ha) (hk b hb)
  rw [hr, hr0]
  congr 1
  rw [Bool.eq_iff_iff, hiff, decide_eq_true_iff]
  exact ⟨hashLits_inj ha hb, fun h => by rw [h]⟩

theorem wpList_load_whole_g {ops : Array Oper} {rest : List Oper} {op : Oper} {a : Act} {w : World} {Q : Exit -> Act -> World -> Prop} (hw : Region.wanted op (yielded ops a.tmps) = true) (ty : TypeId) (x : Operand) (ho : op.op = .load ty x)
    (g t n : Nat) (cs : List Value) (hr : Row w g t cs) (hx : a.eval x = .pointer (some ⟨g, 0, none⟩)) (d : TypeDesc) (hn : cs.length = n)
    (hu : Tryd.prog.underlying ty = some d) (hd : d.isRow = true) (hi : (Tryd.prog.info? ty).map (·.size) = some n)
    (h : wpList Tryd.prog ops Q rest (a.put op.dst (.agg cs.toArray)) w) : wpList Tryd.prog ops Q (op :: rest) a w := by
  refine wpList_step fun K hK => ?_
  rw [if_pos hw]
  exact wp_load_mid ty x ho g 0 hx _ d (by have := hr.range 0 cs.length; simpa using this) hu hd (by rw [hn]; exact hi) (hK _ _ h)
end Go.Proofs.YtplpoehfdhkhmaaDoor
