import Derived.Test.YtcpdanjbnijoiaaDoorR4Same
import Derived.Deep.RegionHeld3

namespace Go.Proofs.YtcpdanjbnijoiaaDoor
open Go.RowKit

theorem wpStill_load_range {P : Program} {ops : Array Oper} {rest : List Oper} {op : Oper} {a : Act} {w : World} {Q : Act → Prop} (hgd : op.guard = none) (ty : TypeId) (x : Operand) (ho : op.op = .load ty x)
    (g o n : Nat) (cs : List Value) (hr : w.rangeAt g o cs) (hx : a.eval x = .pointer (some ⟨g, o, none⟩)) (d : TypeDesc) (hn : cs.length = n)
    (hu : P.underlying ty = some d) (hd : d.isRow = true) (hi : (P.info? ty).map (·.size) = some n)
    (h : wpStill P ops w Q rest (a.put op.dst (.agg cs.toArray))) : wpStill P ops w Q (op :: rest) a := by
  refine wpStill_step (fun K hK => ?_)
  have hw : Region.wanted op (yielded ops a.tmps) = true := by unfold Region.wanted; simp [hgd]
  rw [if_pos hw]
  unfold Oper.still execOp
  simp only [ho, hx, Instr.loadAt, Instr.sureAddr, Sem.run_bind, Sem.run_pure, Result.andThen_ok, run_loadVar_mid w g o ty cs d hr hu hd (by rw [hn]; exact hi)]
  exact ⟨rfl, hK _ h⟩

theorem St_ext {a b : St} (h1 : a.pages = b.pages) (h2 : a.erases = b.erases) (h3 : a.blown = b.blown) : a = b := by
  cases a; cases b; simp only at h1 h2 h3; rw [h1, h2, h3]
theorem getD_ext {α : Type} (d : α) (x y : List α) (hl : x.length = y.length) (h : ∀ j, j < x.length → x.getD j d = y.getD j d) : x = y := by
  apply List.ext_getElem hl
  intro i hi hi'
  have := h i hi
  simpa [List.getD_eq_getElem?_getD, hi, hi'] using this

end Go.Proofs.YtcpdanjbnijoiaaDoor


/-! append(dst, src...) onto an own (or nil) slice of any element type. -/
namespace Go.Proofs.YtcpdanjbnijoiaaDoor
open Go.RowKit

/-- What is known of a slice type and its elements. -/
structure ElT (T e size bytes : Nat) (z : Value) : Prop where
  und : Tryd.prog.underlying T = some (.slice e)
  info : (Tryd.prog.info? e).map (fun i => (i.zero, i.size, i.bytes)) = some (some z, size, bytes)
  zs : z.cells.size = size
  pos : 0 < size

theorem run_append_gen {T e size bytes : Nat} {z : Value} (E : ElT T e size bytes z) (N : Nat) (a0 w : World) (ty : TypeId) (aoD : Option Addr) (nD capD : Nat) (vs : List Value) (hown : w.ownsRow N e size (.slice aoD nD capD) nD vs) (hN : N ≤ w.heap.size) (hbel : Below N a0 w)
    (ao : Option Addr) (n cap : Nat) (news : List Value) (hn : news.length = n * size) (hb : IsL w ao news) (h1 : ∀ u ∈ news, u.oneCell' = true) (hnil : ao = none → cap = 0) (hm : nD + n ≤ maxLen) (hl : (nD + n) * bytes ≤ 140737488355328) :
    ∃ ao' cap' w', (Builtin.append_ #[T, T] ty #[.slice aoD nD capD, .slice ao n cap]).run Tryd.prog w = .ok (.slice ao' (nD + n) cap') w' ∧ w'.ownsRow N e size (.slice ao' (nD + n) cap') (nD + n) (vs ++ news) ∧ Below N a0 w' ∧ w.heap.size ≤ w'.heap.size ∧ (∀ k, k < w.heap.size → (∀ g, aoD = some ⟨g, 0, none⟩ → k ≠ g) → w'.heap[k]? = w.heap[k]?) := by
  obtain ⟨i0, hi, hz0, hz1, hz2⟩ := info_parts E.info
  have some_case : ∀ ad : Addr, (∀ j u, news[j]? = some u → w.cell? (ad.add j) = some u) → ∃ ao' cap' w', (Builtin.append_ #[T, T] ty #[.slice aoD nD capD, .slice (some ad) n cap]).run Tryd.prog w = .ok (.slice ao' (nD + n) cap') w' ∧ w'.ownsRow N e size (.slice ao' (nD + n) cap') (nD + n) (vs ++ news) ∧ Below N a0 w' ∧ w.heap.size ≤ w'.heap.size ∧ (∀ k, k < w.heap.size → (∀ g, aoD = some ⟨g, 0, none⟩ → k ≠ g) → w'.heap[k]? = w.heap[k]?) := by
    intro ad hnews
    obtain ⟨v', w', r1, r2, r3, _⟩ := run_append_own (P := Tryd.prog) w N T ty e i0 z size bytes E.und hi hz0 hz1 hz2 E.zs E.pos _ nD vs hown ad n cap news hn hnews h1 hm hl hN
    have hform : ∃ ao' cap', v' = .slice ao' (nD + n) cap' := by
      rcases r2.2 with ⟨e1, e0⟩ | ⟨g, c, cur, e1, _⟩
      · exact ⟨none, 0, by rw [e1, e0]⟩
      · exact ⟨_, _, e1⟩
    obtain ⟨ao', cap', rfl⟩ := hform
    refine ⟨ao', cap', w', r1, r2, hbel.grown r3 hN (fun k hk => (hown.lt k hk).1), r3.size, fun k hk hne => r3.block k hk (fun e1 => ?_)⟩
    rcases hown.2 with ⟨e2, _⟩ | ⟨g, c, cur, e2, _⟩
    · rw [e2] at e1; simp [Value.ownBlock] at e1
    · injection e2 with e2
      rw [e2] at e1
      simp [Value.ownBlock] at e1
      exact hne g e2 e1
  rcases hb with rfl | ⟨B, off, rfl, hc⟩
  · have hn0 : n = 0 := by
      have hp := E.pos
      have h0 : n * size = 0 := by simpa using hn.symm
      rcases Nat.mul_eq_zero.1 h0 with h | h
      · exact h
      · omega
    cases ao with
    | none =>
      rw [hnil rfl, hn0]
      refine ⟨aoD, capD, w, ?_, by simpa using hown, hbel, Nat.le_refl _, fun _ _ _ => rfl⟩
      have := run_append_owned_none (P := Tryd.prog) (w := w) N T ty e i0 size E.und hi _ nD vs hown
      simpa using this
    | some ad => exact some_case ad (by simp)
  · refine some_case _ ?_
    intro j u hu
    rw [Addr.add_mid]
    exact hc j u hu

theorem step_append_gen {T e size bytes : Nat} {z : Value} (E : ElT T e size bytes z) {ops : Array Oper} {o : Oper} {a : Act} {w : World} {K : Act → World → Prop} {Q : Exit → Act → World → Prop} {X : Prop} (hgd : o.guard = none) (s x : Operand)
    (ho : o.op = .call { callee := .builtin .append, args := #[s, x], argTypes := #[T, T] })
    (N : Nat) (a0 : World) (aoD : Option Addr) (nD capD : Nat) (vs : List Value) (hs : a.eval s = .slice aoD nD capD) (hown : w.ownsRow N e size (.slice aoD nD capD) nD vs) (hN : N ≤ w.heap.size) (hbel : Below N a0 w)
    (ao : Option Addr) (n cap : Nat) (news : List Value) (hx : a.eval x = .slice ao n cap) (hn : news.length = n * size) (hb : IsL w ao news) (h1 : ∀ u ∈ news, u.oneCell' = true) (hnil : ao = none → cap = 0) (hm : nD + n ≤ maxLen) (hl : (nD + n) * bytes ≤ 140737488355328)
    (h : ∀ ao' cap' w', w'.ownsRow N e size (.slice ao' (nD + n) cap') (nD + n) (vs ++ news) → Below N a0 w' → w.heap.size ≤ w'.heap.size → (∀ k, k < w.heap.size → (∀ g, aoD = some ⟨g, 0, none⟩ → k ≠ g) → w'.heap[k]? = w.heap[k]?) → K (a.put o.dst (.slice ao' (nD + n) cap')) w') :
    if Region.wanted o (yielded ops a.tmps) = true then Oper.wp Tryd.prog o a w K Q else X := by
  have hw : Region.wanted o (yielded ops a.tmps) = true := by simp [Region.wanted, hgd]
  rw [if_pos hw]
  obtain ⟨ao', cap', w', hrun, h2, h3, h4, h5⟩ := run_append_gen E N a0 w o.type aoD nD capD vs hown hN hbel ao n cap news hn hb h1 hnil hm hl
  unfold Oper.wp execOp
  simp only [ho, resolve, invoke, builtin, Sem.run_bind, Sem.run_pure, Result.andThen_ok, List.map_toArray, List.map_cons, List.map_nil, hs, hx, hrun]
  exact h ao' cap' w' h2 h3 h4 h5

theorem wpList_append_gen {T e size bytes : Nat} {z : Value} (E : ElT T e size bytes z) {ops : Array Oper} {rest : List Oper} {o : Oper} {a : Act} {w : World} {Q : Exit → Act → World → Prop} (hgd : o.guard = none) (s x : Operand)
    (ho : o.op = .call { callee := .builtin .append, args := #[s, x], argTypes := #[T, T] })
    (N : Nat) (a0 : World) (aoD : Option Addr) (nD capD : Nat) (vs : List Value) (hs : a.eval s = .slice aoD nD capD) (hown : w.ownsRow N e size (.slice aoD nD capD) nD vs) (hN : N ≤ w.heap.size) (hbel : Below N a0 w)
    (ao : Option Addr) (n cap : Nat) (news : List Value) (hx : a.eval x = .slice ao n cap) (hn : news.length = n * size) (hb : IsL w ao news) (h1 : ∀ u ∈ news, u.oneCell' = true) (hnil : ao = none → cap = 0) (hm : nD + n ≤ maxLen) (hl : (nD + n) * bytes ≤ 140737488355328)
    (h : ∀ ao' cap' w', w'.ownsRow N e size (.slice ao' (nD + n) cap') (nD + n) (vs ++ news) → Below N a0 w' → w.heap.size ≤ w'.heap.size → (∀ k, k < w.heap.size → (∀ g, aoD = some ⟨g, 0, none⟩ → k ≠ g) → w'.heap[k]? = w.heap[k]?) → wpList Tryd.prog ops Q rest (a.put o.dst (.slice ao' (nD + n) cap')) w') : wpList Tryd.prog ops Q (o :: rest) a w := by
  refine wpList_plain hgd fun K hK => ?_
  obtain ⟨ao', cap', w', hrun, h2, h3, h4, h5⟩ := run_append_gen E N a0 w o.type aoD nD capD vs hown hN hbel ao n cap news hn hb h1 hnil hm hl
  unfold Oper.wp execOp
  simp only [ho, resolve, invoke, builtin, Sem.run_bind, Sem.run_pure, Result.andThen_ok, List.map_toArray, List.map_cons, List.map_nil, hs, hx, hrun]
  exact hK _ _ (h ao' cap' w' h2 h3 h4 h5)

theorem el_ints : ElT 25 3 1 8 (.int .i64 0) := ⟨Tryd.underlying25, by kernel_rfl, rfl, by omega⟩
theorem el_bools : ElT 26 4 1 1 (.bool false) := ⟨Tryd.underlying26, by kernel_rfl, rfl, by omega⟩
theorem el_cells : ElT 38 40 32 32 (.agg ((List.replicate 32 (0 : By)).map B8).toArray) := ⟨Tryd.underlying38, by kernel_rfl, rfl, by omega⟩
theorem el_pages : ElT 24 38 1 24 (.slice none 0 0) := ⟨Tryd.underlying24, by kernel_rfl, rfl, by omega⟩

/-- A slice without elements, made new. -/
theorem owns_empty (N : Nat) (w : World) (h : N ≤ w.heap.size) (e size : Nat) : (w.alloc (.cells #[] e)).ownsRow N e size (.slice (some ⟨w.heap.size, 0, none⟩) 0 0) 0 [] :=
  ⟨by simp, .inr ⟨w.heap.size, 0, #[], rfl, h, heap_alloc_new w _, by simp, by unfold maxLen; omega, by simp, by simp⟩⟩

end Go.Proofs.YtcpdanjbnijoiaaDoor


/-! The reference's Blank, Fits. -/
namespace Go.Proofs.YtcpdanjbnijoiaaDoor
open Go.RowKit
set_option linter.unusedVariables false

theorem blank_set (k : Nat) (hk : k < 32) : (List.replicate k (255#8 : By) ++ List.replicate (32 - k) 0).set k 255#8 = List.replicate (k + 1) 255#8 ++ List.replicate (32 - (k + 1)) 0 := by
  rw [List.set_append_right _ _ (by simp), List.length_replicate, Nat.sub_self, show 32 - k = (32 - (k + 1)) + 1 by omega, List.replicate_succ, List.set_cons_zero, List.replicate_succ', List.append_assoc]; rfl
theorem map_set_255 (l : List By) (k : Nat) : (l.map B8).set k (.int .u8 255) = (l.set k 255#8).map B8 := by rw [List.map_set]; rfl

/-- Has it the sizes of a config that may be? -/
def Fit (c : Cfg) (t : St) : Prop := (t.pages.length : Int) = 2 + 2 * c.area ∧ (t.erases.length : Int) = 2 + 2 * c.area ∧ (t.blown.length : Int) = c.slots * c.fuses + c.keys ∧ (∀ p, p < t.pages.length → ((t.pages.getD p []).length : Int) = c.cells ∧ 0 ≤ t.erases.getD p 0)

end Go.Proofs.YtcpdanjbnijoiaaDoor


/-! A drawn region by an invariant over what has come up: one step an operation, whatever the number of orders. -/
namespace Go.Proofs.YtcpdanjbnijoiaaDoor
open Go.RowKit

def onesOf (o : Oper) : List Nat := (o.after.toList.filter (Region.binds .any)).map (·.on)

/-- Each operation waits for earlier ones alone. -/
def dagB (ops : Array Oper) : Bool := (List.range ops.size).all fun i => ((ops[i]?).map fun o => (onesOf o).all (· < i)).getD true

/-- 'L' with number 'i' besides. -/
def upd (L : Nat → Bool) (i : Nat) : Nat → Bool := fun j => if j = i then true else L j

/-- One operation keeps the invariant. -/
def StepI (P : Program) (ops : Array Oper) (I : (Nat → Bool) → Act → World → Prop) (Q : Exit → Act → World → Prop) (i : Nat) (o : Oper) : Prop :=
  ∀ (L : Nat → Bool) (a : Act) (w : World), I L a w → L i = false → (∀ j ∈ onesOf o, L j = true) → ∀ K : Act → World → Prop, Shut (∀ a' w', I (upd L i) a' w' → K a' w') →
    if Region.wanted o (yielded ops a.tmps) = true then Oper.wp P o a w K Q else K (a.put o.dst undef) w

/-- All operations of a list, the first of them number 'n'. -/
def StepsI (P : Program) (ops : Array Oper) (I : (Nat → Bool) → Act → World → Prop) (Q : Exit → Act → World → Prop) : Nat → List Oper → Prop
  | _, [] => True
  | n, o :: r => StepI P ops I Q n o ∧ StepsI P ops I Q (n + 1) r

theorem StepsI.at {P : Program} {ops : Array Oper} {I : (Nat → Bool) → Act → World → Prop} {Q : Exit → Act → World → Prop} : ∀ (l : List Oper) (n : Nat), StepsI P ops I Q n l → ∀ (i : Nat) (o : Oper), l[i]? = some o → StepI P ops I Q (n + i) o
  | [], _, _, _, _, h => by simp at h
  | x :: r, n, hs, 0, o, h => by
    simp at h; subst h; exact hs.1
  | x :: r, n, hs, i + 1, o, h => by
    have := StepsI.at r (n + 1) hs.2 i o (by simpa using h)
    rw [show n + (i + 1) = n + 1 + i by omega]; exact this

def asL (l : Array Bool) : Nat → Bool := fun j => l.getD j false

theorem asL_set (l : Array Bool) (i : Nat) (h : i < l.size) : asL (l.setIfInBounds i true) = upd (asL l) i := by
  funext j
  unfold asL upd
  by_cases hj : j = i
  · subst hj; simp [h]
  · rw [if_neg hj, getD_set_ne false (fun e => hj e.symm)]

theorem wp_region_inv {P : Program} {ops : Array Oper} {Q : Exit → Act → World → Prop} {id : Nat} {a : Act} {w : World} (I : (Nat → Bool) → Act → World → Prop) (hm : P.follows .mixedOrders = true) (hd : dagB ops = true)
    (h0 : I (fun _ => false) a w.drew) (hs : StepsI P ops I Q 0 ops.toList) (he : ∀ L a' w', (∀ j, j < ops.size → L j = true) → I L a' w' → Q .normal a' w') : (Code.region id ops true).wp P Q a w := by
  have hall : ∀ l : Array Bool, l.size = ops.size → Region.ready .any ops l = [] → ∀ j, j < ops.size → asL l j = true := by
    intro l hl hr j
    induction j using Nat.strongRecOn with
    | _ j ih =>
      intro hj
      cases hb : asL l j with
      | true => rfl
      | false =>
        exfalso
        have hm : j ∈ Region.ready .any ops l := by
          rw [mem_ready]
          refine ⟨?_, ops[j], Array.getElem?_eq_getElem hj, fun e hme hbe => ?_⟩
          · unfold asL at hb
            simp [hl, hj] at hb ⊢; exact hb
          · have h1 : e.on ∈ onesOf ops[j] := by
              unfold onesOf
              exact List.mem_map.2 ⟨e, List.mem_filter.2 ⟨by simpa using hme, hbe⟩, rfl⟩
            unfold dagB at hd
            rw [List.all_eq_true] at hd
            have h2 := hd j (List.mem_range.2 hj)
            rw [Array.getElem?_eq_getElem hj] at h2
            simp only [Option.map_some, Option.getD_some, List.all_eq_true, decide_eq_true_eq] at h2
            have h3 := h2 _ h1
            exact ih _ h3 (by omega)
        rw [hr] at hm; cases hm
  have hmain : ∀ (fuel : Nat) (l : Array Bool) (a : Act) (w : World), l.size = ops.size → (l.toList.filter (! ·)).length ≤ fuel → I (asL l) a w → wpAny P .any ops Q fuel l a w := by
    intro fuel
    induction fuel with
    | zero =>
      intro l a w hl hc hI
      have hr : Region.ready .any ops l = [] := by
        apply List.eq_nil_iff_forall_not_mem.2
        intro j hj
        obtain ⟨h1, o, ho, _⟩ := mem_ready.1 hj
        have hlt : j < l.size := by rw [hl]; exact (Array.getElem?_eq_some_iff.1 ho).1
        have : l[j] ∈ l.toList.filter (! ·) := List.mem_filter.2 ⟨by simp, by simp [hlt] at h1; simp [h1]⟩
        have h2 := List.length_pos_of_mem this
        omega
      exact ⟨hr, he _ _ _ (hall l hl hr) hI⟩
    | succ fuel ih =>
      intro l a w hl hc hI
      refine ⟨fun hr => he _ _ _ (hall l hl hr) hI, fun i hi => ?_⟩
      obtain ⟨h1, o, ho, h2⟩ := mem_ready.1 hi
      have hlt : i < l.size := by rw [hl]; exact (Array.getElem?_eq_some_iff.1 ho).1
      have hfi : asL l i = false := by unfold asL; simp [hlt] at h1 ⊢; exact h1
      have hst := StepsI.at ops.toList 0 hs i o (by simpa using ho)
      rw [Nat.zero_add] at hst
      refine wpOp_step ho fun K hK => hst (asL l) a w hI hfi ?_ K ?_
      · intro j hj
        unfold onesOf at hj
        obtain ⟨e, hme, rfl⟩ := List.mem_map.1 hj
        obtain ⟨h3, h4⟩ := List.mem_filter.1 hme
        exact h2 e (by simpa using h3) h4
      · intro a' w' hI'
        refine hK a' w' (ih _ a' w' (by simpa using hl) ?_ (by rw [asL_set l i hlt]; exact hI'))
        have h5 : l[i] = false := by simp [hlt] at h1; exact h1
        have h6 : ((l.setIfInBounds i true).toList.filter (! ·)).length + 1 ≤ (l.toList.filter (! ·)).length := by
          rw [Array.toList_setIfInBounds]
          clear hI' hK hI hst hfi hc hl h2
          have h7 : l.toList[i]? = some false := by simp [hlt, h5]
          generalize l.toList = ll at h7 ⊢
          clear hi h1 h5 hlt ho
          induction ll generalizing i with
          | nil => simp at h7
          | cons y r ihl =>
            cases i with
            | zero => simp at h7; subst h7; simp
            | succ i =>
              have := ihl i (by simpa using h7)
              cases y <;> simp at this ⊢ <;> omega
        omega
  refine wp_region_any hm ?_
  refine hmain _ _ _ _ (by simp) ?_ ?_
  · refine Nat.le_trans (List.length_filter_le _ _) (by simp)
  · have : asL (Array.replicate ops.size false) = fun _ => false := by
      funext j; unfold asL
      by_cases hj : j < ops.size <;> simp [hj]
    rw [this]; exact h0

/-- The invariant, once for each operation. -/
theorem StepsI.cons {P : Program} {ops : Array Oper} {I : (Nat → Bool) → Act → World → Prop} {Q : Exit → Act → World → Prop} {n : Nat} {o : Oper} {r : List Oper} (h : StepI P ops I Q n o) (hr : StepsI P ops I Q (n + 1) r) : StepsI P ops I Q n (o :: r) := ⟨h, hr⟩
theorem StepsI.nil {P : Program} {ops : Array Oper} {I : (Nat → Bool) → Act → World → Prop} {Q : Exit → Act → World → Prop} {n : Nat} : StepsI P ops I Q n [] := trivial
end Go.Proofs.YtcpdanjbnijoiaaDoor
