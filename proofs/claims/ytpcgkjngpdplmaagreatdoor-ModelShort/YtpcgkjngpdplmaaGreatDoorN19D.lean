
import Derived.Test.YtpcgkjngpdplmaaGreatDoorN19C
import Derived.Test.YtpcgkjngpdplmaaGreatDoorSched
import Derived.Great.BuildSlice
/-! The code's model: raise, read, bump, bumpTo, confirm. (Printed by tools/genn19.py.) -/
namespace Go.Proofs.YtpcgkjngpdplmaaGreatDoor
open Go.RowKit Go.Maps
set_option linter.unusedVariables false
set_option linter.unusedSimpArgs false

theorem el_csts : ElT 141 67 19 120 (.agg (csC zCS).toArray) := ⟨Tryz.underlying141, by kernel_rfl, rfl, by omega⟩
set_option maxRecDepth 100000 in
theorem wpList_buildC {ops : Array Oper} {rest : List Oper} {o : Oper} {a : Act} {w : World} {Q : Exit → Act → World → Prop} (hg : o.guard = none) (n : Nat) (ps : Array (Nat × Operand)) (ho : o.op = .buildSlice 141 n ps)
    (L : List CS) (hL : ∀ s ∈ L, s.num.length = 8) (hn : L.length = n) (h0 : 0 < n) (hm : n ≤ 1000) (hy : (ps.map fun (i, x) => (i, a.eval x)).toList = ((L.map fun s => Value.agg (csC s).toArray).zipIdx 0).map fun x => (x.2, x.1))
    (h : wpList Tryz.prog ops Q rest (a.put o.dst (.slice (some ⟨w.heap.size, 0, none⟩) n n)) (w.alloc (.cells (L.flatMap csC).toArray 67))) : wpList Tryz.prog ops Q (o :: rest) a w := by
  obtain ⟨i0, hi, hz0, hz1, hz2⟩ := info_parts el_csts.info
  refine wpList_buildSlice hg 141 67 n ps ho (L.flatMap csC).toArray i0 _ Tryz.underlying141 hi hz0 (by rw [hz1]; omega) (by rw [hz1]; omega) ?_ h
  rw [hz1, hy]
  rw [Great.fill_whole (s := 19) (by decide) (L.map fun s => Value.agg (csC s).toArray) _ (fun v hv => by
    obtain ⟨s, hs, rfl⟩ := List.mem_map.1 hv
    simpa [Value.cells] using csC_len (hL s hs)) (by simp [hn])]
  congr 2
  rw [List.flatMap_map]
  congr 1
theorem wpList_buildC2 {ops : Array Oper} {rest : List Oper} {o : Oper} {a : Act} {w : World} {Q : Exit → Act → World → Prop} (hg : o.guard = none) (y0 y1 : Operand) (ho : o.op = .buildSlice 141 2 #[(0, y0), (1, y1)])
    (s0 s1 : CS) (l0 : s0.num.length = 8) (l1 : s1.num.length = 8) (e0 : a.eval y0 = .agg (csC s0).toArray) (e1 : a.eval y1 = .agg (csC s1).toArray)
    (h : wpList Tryz.prog ops Q rest (a.put o.dst (.slice (some ⟨w.heap.size, 0, none⟩) 2 2)) (w.alloc (.cells ([s0, s1].flatMap csC).toArray 67))) : wpList Tryz.prog ops Q (o :: rest) a w :=
  wpList_buildC hg 2 _ ho [s0, s1] (by simp only [List.mem_cons, List.not_mem_nil, or_false]; rintro s (rfl | rfl) <;> assumption) rfl (by omega) (by omega) (by simp [e0, e1]) h
theorem wpList_buildC4 {ops : Array Oper} {rest : List Oper} {o : Oper} {a : Act} {w : World} {Q : Exit → Act → World → Prop} (hg : o.guard = none) (y0 y1 y2 y3 : Operand) (ho : o.op = .buildSlice 141 4 #[(0, y0), (1, y1), (2, y2), (3, y3)])
    (s0 s1 s2 s3 : CS) (l0 : s0.num.length = 8) (l1 : s1.num.length = 8) (l2 : s2.num.length = 8) (l3 : s3.num.length = 8) (e0 : a.eval y0 = .agg (csC s0).toArray) (e1 : a.eval y1 = .agg (csC s1).toArray) (e2 : a.eval y2 = .agg (csC s2).toArray) (e3 : a.eval y3 = .agg (csC s3).toArray)
    (h : wpList Tryz.prog ops Q rest (a.put o.dst (.slice (some ⟨w.heap.size, 0, none⟩) 4 4)) (w.alloc (.cells ([s0, s1, s2, s3].flatMap csC).toArray 67))) : wpList Tryz.prog ops Q (o :: rest) a w :=
  wpList_buildC hg 4 _ ho [s0, s1, s2, s3] (by simp only [List.mem_cons, List.not_mem_nil, or_false]; rintro s (rfl | rfl | rfl | rfl) <;> assumption) rfl (by omega) (by omega) (by simp [e0, e1, e2, e3]) h
/-- Beside what is told: an answer, a state, and another one in memory. -/
structure RZ (ab nb mb : Nat) (a : AN) (n : Nat) (L : List CS) (w : World) (T : TL) (X : List Value) (s t : CS) (W : World) : Prop where
  tel : TelQ ab nb mb a n L T w W
  x : Row W w.heap.size 39 X
  s : Row W (w.heap.size + 1) 67 (csC s)
  t : Row W (w.heap.size + 2) 67 (csC t)
section
variable {ab nb mb : Nat} {a : AN} {n : Nat} {L : List CS} {w W W' : World} {T U : TL} {X : List Value} {s t t' : CS}
theorem RZ.but (h : RZ ab nb mb a n L w T X s t W) (hs : SameBut (w.heap.size + 2) W W') (hr : Row W' (w.heap.size + 2) 67 (csC t')) : RZ ab nb mb a n L w T X s t' W' := ⟨h.tel.but hs (by omega), h.x.but hs (by omega), h.s.but hs (by omega), hr⟩
theorem RZ.set (h : RZ ab nb mb a n L w T X s t W) (k : Nat) (v : Value) (e : (csC t).set k v = csC t') : RZ ab nb mb a n L w T X s t' (W.setCell ⟨w.heap.size + 2, k, none⟩ v) := h.but (SameBut.setCell (w.heap.size + 2) k v W) (by rw [← e]; exact h.t.set k v)
theorem RZ.told (h : RZ ab nb mb a n L w T X s t W) (h2 : TelQ ab nb mb a n L U w W') (hg : W.grownBy W' (some mb)) : RZ ab nb mb a n L w U X s t W' :=
  have hm := h.tel.lm
  ⟨h2, h.x.grown hg (by omega), h.s.grown hg (by omega), h.t.grown hg (by omega)⟩
end
set_option maxHeartbeats 4000000 in
set_option maxRecDepth 100000 in
theorem raise_any {ab nb mb : Nat} {a : AN} {n : Nat} {L : List CS} {w : World} (h : Tel ab nb mb a n L w) (ha : a.Wf) (hn : n + 8 < 4611686018427387904) (c : Cfg) (g mg : Nat) (hl : w.cell? ⟨mg, 8, none⟩ = some (.int .i64 c.last)) (hc : c.last ≤ 4611686018427387904)
    (k : Nat) (hk : k < 8) (v : Int) (x : AN) (hx : x.Wf) (s : CS) (ho : s.Ok c g) (hs : s.Wf) :
    Calls Tryz.prog 64 #[.pointer (some ⟨mg, 0, none⟩), .int .i64 (k : Int), .int .i64 v, .agg (anC x 0).toArray, .agg (csC s).toArray, .func (.func 26) #[] #[.pointer (some ⟨ab, 0, none⟩), .pointer (some ⟨nb, 0, none⟩)]] w fun e W' => e = .returned (.tuple #[]) ∧ TelQ ab nb mb a n L (raiseC c k v x s) w W' := by
  obtain ⟨w1, hw1⟩ : ∃ w1, w1 = (w.alloc (.cells (anC x 0).toArray 39)).alloc (.cells (csC s).toArray 67) := ⟨_, rfl⟩
  have r0 : Row w1 w.heap.size 39 (anC x 0) := by rw [hw1]; exact (Row.at w 39 _ _ _ rfl rfl).alloc _
  have r1 : Row w1 (w.heap.size + 1) 67 (csC s) := by rw [hw1]; exact Row.at _ _ _ _ _ (by simp) rfl
  have F1 : TelQ ab nb mb a n L [] w w1 := by rw [hw1]; exact ((TelQ.nil h).alloc _).alloc _
  have cl : w1.cell? ⟨mg, 8, none⟩ = some (.int .i64 c.last) := by rw [hw1]; exact (((Below.refl w.heap.size w).alloc (Nat.le_refl _) _).alloc (by simp) _).cell (cell_lt hl) |>.trans hl
  have cn : w1.cell? ⟨w.heap.size + 1, k, none⟩ = some (.int .i64 (s.num.getD k 0)) := r1.cell k _ (csC_num hs.len k hk)
  have la : Hid ((anC x 0).length = 36) := anC_len hx.h
  have lc : Hid ((csC s).length = 19) := csC_len hs.len
  have y0 : (0 : Int) ≤ (k : Int) := by omega
  have y1 : (k : Int) < 8 := by omega
  unfold raiseC
  by_cases h1 : v ≤ s.num.getD k 0
  · rw [if_pos h1]
    have TE := tell_more F1 ha (by show n + 0 < _; omega) x hx s hs
    clear h ha hn hl ho hs F1 cl hx hc hk
    generalize s.num.getD k 0 = V at *
    generalize anC x 0 = X at *
    go_enter Tryz.func64, Tryz.ntmps64
    go_wp2_with (first
      | (rw [← hw1]; have hz := hw1; clear hz hw1)
      | (refine wpList_load_whole_g ?_ 39 (.tmp 9) rfl w.heap.size 39 36 X r0 rfl _ la.out Tryz.underlying39 rfl (by kernel_rfl) ?_; · rfl)
      | (refine wpList_load_whole_g ?_ 67 (.tmp 10) rfl (w.heap.size+1) 67 19 (csC s) r1 rfl _ lc.out Tryz.underlying67 rfl (by kernel_rfl) ?_; · rfl))
    refine TE.mono ?_
    rintro e w2 ⟨rfl, ht, _⟩
    dsimp only
    go_wp2
    refine bodyPost_ret (results_none rfl _ _ _) rfl ?_
    exact ⟨rfl, ht⟩
  · rw [if_neg h1]
    by_cases h2 : c.last < v
    · rw [if_pos h2]
      have TE := only_more F1 ha (by show n + 0 < _; omega) 10 (by omega) s hs
      clear h ha hn hl ho hs F1 hx hc hk
      generalize s.num.getD k 0 = V at *
      generalize c.last = LA at *
      generalize anC x 0 = X at *
      go_enter Tryz.func64, Tryz.ntmps64
      go_wp2_with (first
        | (rw [← hw1]; have hz := hw1; clear hz hw1)
        | (refine wpList_load_whole_g ?_ 67 (.tmp 10) rfl (w.heap.size+1) 67 19 (csC s) r1 rfl _ lc.out Tryz.underlying67 rfl (by kernel_rfl) ?_; · rfl))
      refine TE.mono ?_
      rintro e w2 ⟨rfl, ht, _⟩
      dsimp only
      go_wp2
      refine bodyPost_ret (results_none rfl _ _ _) rfl ?_
      exact ⟨rfl, ht⟩
    · rw [if_neg h2]
      have hr : (s.raised k v).Wf := (ho.raised k v (by have := ho.val k hk; omega) (by omega)).wf' hs
      have hs1 : w1.heap.size = w.heap.size + 2 := by rw [hw1]; simp
      obtain ⟨w2, hw2⟩ : ∃ w2, w2 = w1.alloc (.cells #[.int .i64 0, .int .i64 0, .int .i64 0, .int .i64 0, .int .i64 0, .int .i64 0, .int .i64 0, .int .i64 0, .int .u64 0, .int .i64 0, .int .i64 0, .bool false, .int .i64 0, .int .i64 0, .int .i16 0, .int .i8 0, .int .i8 0, .bool false, .bool false] 67) := ⟨_, rfl⟩
      have r2 : Row w2 (w.heap.size + 2) 67 (csC zCS) := by rw [hw2]; exact Row.at w1 67 (csC zCS) _ _ (by rw [hw1]; simp) rfl
      have Z2 : RZ ab nb mb a n L w [] (anC x 0) s zCS w2 := ⟨by rw [hw2]; exact F1.alloc _, by rw [hw2]; exact r0.alloc _, by rw [hw2]; exact r1.alloc _, r2⟩
      have es : Hid ((csC s).set k (.int .i64 v) = csC (s.raised k v)) := csC_setNum hs.len k hk v
      have en : Hid ((csC s)[k]? = some (.int .i64 (s.num.getD k 0))) := csC_num hs.len k hk
      have ld : Hid ((csC (s.raised k v)).length = 19) := csC_len hr.len
      have T1 : Hid (∀ W, TelQ ab nb mb a n L [] w W → _) := fun W hW => tell_more hW ha (by show n + 0 < _; omega) x hx (s.raised k v) hr
      have T2 : Hid (∀ W, TelQ ab nb mb a n L [(x, s.raised k v)] w W → _) := fun W hW => only_more hW ha (by show n + 1 < _; omega) 9 (by omega) s hs
      have T3 : Hid (∀ W, TelQ ab nb mb a n L [(x, s.raised k v), (an0 9, s)] w W → ∀ g, Row W g 67 ([s, s.raised k v].flatMap csC) → _) := fun W hW g hg => goes_more hW ha [s, s.raised k v] (by show n + 2 + 2 < _; omega) (by simp only [List.mem_cons, List.not_mem_nil, or_false]; rintro u (rfl | rfl) <;> assumption) g hg 2 2 rfl
      have l1 : Hid (s.num.length = 8) := hs.len
      have l2 : Hid ((s.raised k v).num.length = 8) := hr.len
      clear h ha hn hl ho hs F1 hx hc hk hr
      generalize s.raised k v = t at *
      generalize s.num.getD k 0 = V at *
      generalize c.last = LA at *
      generalize anC x 0 = X at *
      go_enter Tryz.func64, Tryz.ntmps64
      go_wp2_with (first
        | (rw [← hw1]; have hz := hw1; clear hz hw1)
        | (refine wpList_load_whole_g ?_ 67 (.tmp 10) rfl (w.heap.size+1) 67 19 (csC s) r1 rfl _ lc.out Tryz.underlying67 rfl (by kernel_rfl) ?_; · rfl)
        | (rw [← hw2]; have hz := hw2; clear hz hw2)
        | (refine wpList_store_Row rfl 67 (.tmp 12) (.tmp 32) rfl (w.heap.size + 2) 67 0 (csC zCS) (csC s) r2 (by rw [lc.out]; decide) rfl rfl (by rw [lc.out]; kernel_rfl) (csC_one _) ?_; intro w3 hr3 hs3; have Z3 : RZ ab nb mb a n L w [] X s s w3 := Z2.but hs3 (row_whole hr3 (by rw [lc.out]; decide)); clear hr3 hs3 Z2 r2; have c3 : w3.cell? ⟨w.heap.size + 2, k, none⟩ = some (.int .i64 V) := Z3.t.cell k _ en.out; have f3 : w3.frozen? ⟨w.heap.size + 2, k, none⟩ = false := Z3.t.frozen k; obtain ⟨w4, hw4⟩ : ∃ w4, w4 = w3.setCell ⟨w.heap.size + 2, k, none⟩ (.int .i64 v) := ⟨_, rfl⟩; have Z4 : RZ ab nb mb a n L w [] X s t w4 := (by rw [hw4]; exact Z3.set k _ es.out); have v0 := Z4.x; have r4 := Z4.t)
        | (rw [← hw4]; have hz := hw4; clear hz hw4)
        | (refine wpList_load_whole_g ?_ 39 (.tmp 9) rfl w.heap.size 39 36 X v0 rfl _ la.out Tryz.underlying39 rfl (by kernel_rfl) ?_; · rfl)
        | (refine wpList_load_whole_g ?_ 67 (.tmp 12) rfl (w.heap.size+2) 67 19 (csC t) r4 rfl _ ld.out Tryz.underlying67 rfl (by kernel_rfl) ?_; · rfl))
      refine (T1.out _ Z4.tel).mono ?_
      rintro e w5 ⟨rfl, h5, g5⟩
      dsimp only
      have Z5 := Z4.told h5 g5
      have p5 := Z5.s
      have HZ5 : Hid (RZ ab nb mb a n L w [(x, t)] X s t w5) := Z5
      clear h5 g5 Z5 Z4 v0 r4
      go_wp2_with (refine wpList_load_whole_g ?_ 67 (.tmp 10) rfl (w.heap.size+1) 67 19 (csC s) p5 rfl _ lc.out Tryz.underlying67 rfl (by kernel_rfl) ?_; · rfl)
      refine (T2.out _ HZ5.out.tel).mono ?_
      rintro e w6 ⟨rfl, h6, g6⟩
      dsimp only
      have Z6 := HZ5.out.told h6 g6
      have p6 := Z6.s
      have q6 := Z6.t
      have HZ6 : Hid (RZ ab nb mb a n L w [(x, t), (an0 9, s)] X s t w6) := Z6
      clear h6 g6 Z6 HZ5 p5
      go_wp2_with (first
        | (refine wpList_load_whole_g ?_ 67 (.tmp 10) rfl (w.heap.size+1) 67 19 (csC s) p6 rfl _ lc.out Tryz.underlying67 rfl (by kernel_rfl) ?_; · rfl)
        | (refine wpList_load_whole_g ?_ 67 (.tmp 12) rfl (w.heap.size+2) 67 19 (csC t) q6 rfl _ ld.out Tryz.underlying67 rfl (by kernel_rfl) ?_; · rfl)
        | (refine wpList_buildC2 rfl (.tmp 45) (.tmp 46) rfl s t l1.out l2.out rfl rfl ?_))
      refine (T3.out _ (HZ6.out.tel.alloc _) w6.heap.size (Row.at w6 67 ([s, t].flatMap csC) (csC s ++ csC t).toArray _ rfl (by simp))).mono ?_
      rintro e w7 ⟨rfl, h7, g7⟩
      dsimp only
      go_wp2
      go_end0
      exact ⟨rfl, h7⟩
end Go.Proofs.YtpcgkjngpdplmaaGreatDoor
