
import Derived.Test.YtnpbgfnahkmhoaaDoorI11Rows
import Derived.Test.YtnpbgfnahkmhoaaDoorDig
/-! The law's wide and kept: bytes in memory of their own, with marked room behind them. -/
namespace Go.Proofs.YtnpbgfnahkmhoaaDoor
open Go.RowKit
set_option maxRecDepth 100000

/-- A slice without elements, with room. -/
theorem wpList_make_room {ops : Array Oper} {rest : List Oper} {o : Oper} {a : Act} {w : World} {Q : Exit → Act → World → Prop} (hg : o.guard = none) (l c : Operand) (hop : o.op = Op.makeSlice 23 l c)
    (m : Nat) (C : Int) (hl : a.eval l = .int .i64 0) (hc : a.eval c = .int .i64 C) (hC : C = (m : Int)) (hm : m ≤ 140737488355328)
    (hK : ∀ w', Own w.heap.size w' (.slice (some ⟨w.heap.size, 0, none⟩) 0 m) [] → Below w.heap.size w w' → wpList Tryd.prog ops Q rest (a.put o.dst (.slice (some ⟨w.heap.size, 0, none⟩) 0 m)) w') :
    wpList Tryd.prog ops Q (o :: rest) a w := by
  obtain ⟨i0, hi, hz0, hz1, hz2⟩ := info_parts Tryd.info5
  refine wpList_plain hg fun K hK' => ?_
  subst hC
  have hrun := run_make (P := Tryd.prog) w 23 5 i0 (.int .u8 0) Tryd.underlying23 hi hz0 .i64 .i64 (0 : Int) (m : Int) (by omega) (by omega) (by rw [hz2]; omega) (by omega)
  unfold Oper.wp
  simp [execOp, hop, hl, hc, hrun, Result.andThen]
  refine hK' _ _ (hK _ ?_ ?_)
  · refine ⟨⟨by simp, .inr ⟨w.heap.size, m, _, rfl, Nat.le_refl _, heap_alloc_new w _, by simp, by unfold maxLen; omega, ?_, by simp⟩⟩, by simp⟩
    rw [hz1, Nat.mul_one]
    have : (madeCells #[Value.int .u8 0] m).toList = (List.replicate m (0 : By)).map B8 := by
      rw [toList_madeCells_one]; simp [B8]
    have h2 : (madeCells #[Value.int .u8 0] m).size = m := by
      rw [← Array.length_toList, this]; simp
    simpa [Value.cells] using h2
  · exact (Below.refl _ _).alloc (Nat.le_refl _) _

def marks : List By := [161#8, 162#8, 163#8, 164#8, 165#8]

set_option maxHeartbeats 1000000 in
theorem wide_any (ao : Option Addr) (n cap : Nat) (bs : List By) (hn : bs.length = n) (w : World) (hb : IsB w ao bs) (hnil : ao = none → cap = 0) (hl : n ≤ 140737488351232) :
    Calls Tryd.prog 21 #[.slice ao n cap] w fun e w' => ∃ g c, e = .returned (.slice (some ⟨g, 0, none⟩) n c) ∧ Own w.heap.size w' (.slice (some ⟨g, 0, none⟩) (n + 5) c) (bs ++ marks) ∧ Below w.heap.size w w' := by
  have HN : Hid (bs.length = n) := hn
  have HNI : Hid (ao = none → cap = 0) := hnil
  have IB : Hid (∀ W, Below w.heap.size w W → IsB W ao bs) := fun W h => hb.below h (Nat.le_refl _)
  have z1 : IntKind.i64.wrap ((n : Int) + 5) = (n : Int) + 5 := i64_in _ (by omega) (by omega)
  clear hb hnil hn
  go_enter Tryd.func21, Tryd.ntmps21
  go_wp2_with (first | (refine wpList_make_room rfl _ _ rfl (n + 5) _ rfl rfl (by omega) (by omega) ?_; intro w1 ho1 hb1) | (at_builtin; refine wpList_append_more rfl (.tmp 7) (.tmp 8) rfl w.heap.size w _ 0 (n + 5) [] rfl rfl ho1 hb1 ao n cap bs rfl HN.out (IB.out _ hb1) HNI.out (by omega) ?_; intro ao2 c2 w2 ho2 hb2; rw [Nat.zero_add] at ho2; have om := ho2.keep ((Below.refl w2.heap.size w2).alloc (Nat.le_refl _) (.cells #[.int .u8 161, .int .u8 162, .int .u8 163, .int .u8 164, .int .u8 165] 5)); have bm : Below w.heap.size w (w2.alloc (.cells #[.int .u8 161, .int .u8 162, .int .u8 163, .int .u8 164, .int .u8 165] 5)) := hb2.alloc hb2.size _; have im : IsB (w2.alloc (.cells #[.int .u8 161, .int .u8 162, .int .u8 163, .int .u8 164, .int .u8 165] 5)) (some ⟨w2.heap.size, 0, none⟩) marks := row_isb (Row.at w2 5 (marks.map B8) _ _ rfl rfl)) | (at_builtin; refine wpList_append_more rfl (.tmp 10) (.tmp 11) rfl w.heap.size w ao2 n c2 ([] ++ bs) rfl (by simpa using HN.out) om bm _ 5 5 marks rfl rfl im (fun h => by cases h) (by omega) ?_; intro ao3 c3 w3 ho3 hb3; obtain ⟨g, rfl, _, _⟩ := ho3.at (by omega); have hc3 := own_cap ho3; have j1 : (n : Int) ≤ (c3 : Int) := by omega))
  go_ret
  exact ⟨g, c3, rfl, by simpa using ho3, hb3⟩

/-- The string of the marks. -/
theorem marks_str : strOf marks = { data := #[161, 162, 163, 164, 165] } := rfl

set_option maxHeartbeats 1000000 in
theorem kept_any (g n c : Nat) (ao : Option Addr) (cap : Nat) (bs : List By) (hn : bs.length = n) (w : World) (ho : IsB w (some ⟨g, 0, none⟩) (bs ++ marks)) (hc : n + 5 ≤ c) (hb : IsB w ao bs) (hl : n ≤ 140737488351232) :
    Calls Tryd.prog 22 #[.slice (some ⟨g, 0, none⟩) n c, .slice ao n cap] w fun e w' => e = .returned (.bool true) ∧ w' = w := by
  have i1 : IsB w (some ⟨g, 0, none⟩) bs := by have := isB_take ho n; rwa [List.take_left' hn] at this
  have i2 : IsB w (some ⟨g, n, none⟩) marks := by
    rcases ho with h | ⟨B, off, e, h⟩
    · simp [marks] at h
    · injection e with e; injection e with e1 e2; subst e1 e2
      refine .inr ⟨g, n, rfl, fun j v hj => ?_⟩
      have := h (n + j) v (by rw [List.getElem?_append_right (by rw [hn]; omega), hn, Nat.add_sub_cancel_left]; exact hj)
      rw [Nat.zero_add] at this; exact this
  have cv1 := conv_bytes w (some ⟨g, 0, none⟩) n c bs hn i1
  have cv2 := conv_bytes w ao n cap bs hn hb
  have cv3 := conv_bytes w (some ⟨g, n, none⟩) 5 (c - n) marks rfl i2
  rw [marks_str] at cv3
  have z1 : IntKind.i64.wrap ((n : Int) + 5) = (n : Int) + 5 := i64_in _ (by omega) (by omega)
  have j1 : (0 : Int) ≤ (n : Int) + 5 := by omega
  have j2 : (n : Int) + 5 ≤ (c : Int) := by omega
  have j3 : (n : Int) ≤ (n : Int) + 5 := by omega
  have t1 : ((n : Int) + 5).toNat = n + 5 := by omega
  have t2 : n + 5 - n = 5 := by omega
  have hcn : ¬ c = n := by omega
  generalize strOf bs = S at *
  clear i1 i2 ho hb hn hl hc
  go_enter Tryd.func22, Tryd.ntmps22
  go_wp2
  go_ret
  exact ⟨rfl, rfl⟩
end Go.Proofs.YtnpbgfnahkmhoaaDoor
