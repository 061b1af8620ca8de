
import Derived.Test.YtnpbgfnahkmhoaaDoorI11Ref2
import Derived.Test.YtnpbgfnahkmhoaaDoorEq
/-! The reference's Same. -/
namespace Go.Proofs.YtnpbgfnahkmhoaaDoor
open Go.RowKit

theorem wpList_load_part_g {ops : Array Oper} {rest : List Oper} {op : Oper} {a : Act} {w : World} {Q : Exit → Act → World → Prop} (hw : Region.wanted op (yielded ops a.tmps) = true) (ty : TypeId) (x : Operand) (ho : op.op = .load ty x)
    (g o t n : Nat) (cs : List Value) (hr : Row w g t cs) (hx : a.eval x = .pointer (some ⟨g, o, none⟩)) (d : TypeDesc) (cs' : List Value) (hcs : (cs.drop o).take n = cs') (hn : cs'.length = n)
    (hu : Tryd.prog.underlying ty = some d) (hd : d.isRow = true) (hi : (Tryd.prog.info? ty).map (·.size) = some n)
    (h : wpList Tryd.prog ops Q rest (a.put op.dst (.agg cs'.toArray)) w) : wpList Tryd.prog ops Q (op :: rest) a w := by
  subst hcs
  refine wpList_step fun K hK => ?_
  rw [if_pos hw]
  exact wp_load_mid ty x ho g o hx _ d (hr.range o n) hu hd (by rw [hn]; exact hi) (hK _ _ h)

theorem step_load_part {ops : Array Oper} {op : Oper} {a : Act} {w : World} {K : Act → World → Prop} {Q : Exit → Act → World → Prop} {X : Prop} (hw : Region.wanted op (yielded ops a.tmps) = true) (ty : TypeId) (x : Operand) (ho : op.op = .load ty x)
    (g o t n : Nat) (cs : List Value) (hr : Row w g t cs) (hx : a.eval x = .pointer (some ⟨g, o, none⟩)) (d : TypeDesc) (cs' : List Value) (hcs : (cs.drop o).take n = cs') (hn : cs'.length = n)
    (hu : Tryd.prog.underlying ty = some d) (hd : d.isRow = true) (hi : (Tryd.prog.info? ty).map (·.size) = some n)
    (h : K (a.put op.dst (.agg cs'.toArray)) w) : if Region.wanted op (yielded ops a.tmps) = true then Oper.wp Tryd.prog op a w K Q else X := by
  subst hcs
  rw [if_pos hw]
  exact wp_load_mid ty x ho g o hx _ d (hr.range o n) hu hd (by rw [hn]; exact hi) h

theorem take_all36 {cs : List Value} (h : cs.length = 36) : (cs.drop 0).take 36 = cs := by rw [List.drop_zero, List.take_of_length_le (by omega)]
theorem imgC_tagpart (s k v : Int) (pl : Value) (t : List By) (ht : t.length = 32) : ((imgC s k v pl t).drop 4).take 32 = t.map B8 := by
  have : (imgC s k v pl t).drop 4 = t.map B8 := rfl
  rw [this, List.take_of_length_le (by simp [ht])]

set_option maxHeartbeats 1000000 in
set_option maxRecDepth 100000 in
theorem same_eq (s k v : Int) (ao bo : Option Addr) (n c d : Nat) (p t : List By) (hp : p.length = n) (ht : t.length = 32) (w : World) (ha : IsB w ao p) (hb : IsB w bo p) :
    Calls Tryd.prog 16 #[.agg (imgC s k v (.slice ao n c) t).toArray, .agg (imgC s k v (.slice bo n d) t).toArray] w fun e w' => e = .returned (.bool true) ∧ Below w.heap.size w w' := by
  have b1 : ∀ o1 o2, Below w.heap.size w ((w.alloc o1).alloc o2) := fun o1 o2 => ((Below.refl _ _).alloc (Nat.le_refl _) o1).alloc (by simp) o2
  have cva := fun o1 o2 => conv_bytes ((w.alloc o1).alloc o2) ao n c p hp (ha.below (b1 o1 o2) (Nat.le_refl _))
  have cvb := fun o1 o2 => conv_bytes ((w.alloc o1).alloc o2) bo n d p hp (hb.below (b1 o1 o2) (Nat.le_refl _))
  have q1 := eq_self t ht
  have tp1 := imgC_tagpart s k v (.slice ao n c) t ht
  have tp2 := imgC_tagpart s k v (.slice bo n d) t ht
  have r1 := (Row.at w 27 (imgC s k v (.slice ao n c) t) _ _ rfl rfl).alloc (.cells (imgC s k v (.slice bo n d) t).toArray 27)
  have r2 : Row ((w.alloc (.cells (imgC s k v (.slice ao n c) t).toArray 27)).alloc (.cells (imgC s k v (.slice bo n d) t).toArray 27)) (w.heap.size + 1) 27 (imgC s k v (.slice bo n d) t) := Row.at _ _ _ _ _ (by simp) rfl
  have a0 := r1.cell 0 _ rfl; have a1 := r1.cell 1 _ rfl; have a2 := r1.cell 2 _ rfl; have a3 := r1.cell 3 _ rfl
  have c0 := r2.cell 0 _ rfl; have c1 := r2.cell 1 _ rfl; have c2 := r2.cell 2 _ rfl; have c3 := r2.cell 3 _ rfl
  have hbe := b1 (.cells (imgC s k v (.slice ao n c) t).toArray 27) (.cells (imgC s k v (.slice bo n d) t).toArray 27)
  replace cva := cva (.cells (imgC s k v (.slice ao n c) t).toArray 27) (.cells (imgC s k v (.slice bo n d) t).toArray 27)
  replace cvb := cvb (.cells (imgC s k v (.slice ao n c) t).toArray 27) (.cells (imgC s k v (.slice bo n d) t).toArray 27)
  generalize imgC s k v (.slice ao n c) t = I1 at *
  generalize imgC s k v (.slice bo n d) t = I2 at *
  have HT : Hid ((t.map B8).length = 32) := by show _ = _; rw [List.length_map, ht]
  clear b1 ha hb ht hp
  generalize strOf p = S at *
  go_enter Tryd.func16, Tryd.ntmps16
  go_wp2_with (first | (refine wpList_load_part_g ?_ 25 (.tmp 34) rfl w.heap.size 4 27 32 I1 r1 rfl _ (t.map B8) tp1 HT.out Tryd.underlying25 rfl (by kernel_rfl) ?_; · rfl) | (refine wpList_load_part_g ?_ 25 (.tmp 36) rfl (w.heap.size + 1) 4 27 32 I2 r2 rfl _ (t.map B8) tp2 HT.out Tryd.underlying25 rfl (by kernel_rfl) ?_; · rfl))
  go_ret
  exact ⟨rfl, hbe⟩
end Go.Proofs.YtnpbgfnahkmhoaaDoor
