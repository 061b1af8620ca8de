import Derived.Test.YtcpdanjbnijoiaaDoorR4EraseW
import Derived.Deep.AppendLies
import Derived.Laws.AppendOwnNone
import Derived.Deep.CutBlock
import Derived.Deep.DeepCutAuto
import Derived.DeepKeys
import Derived.StillTactics

/-! Bytes in a slice; append onto an own slice of bytes. -/
namespace Go.Proofs.YtcpdanjbnijoiaaDoor
open Go.RowKit
set_option maxRecDepth 100000

theorem Tryd.infoU8 : (Tryd.prog.info? 5).map (fun i => (i.zero, i.size, i.bytes)) = some (some (.int .u8 0), 1, 1) := by kernel_rfl

/-- The slice value holds these bytes. -/
def IsB (w : World) (ao : Option Addr) (m : List By) : Prop :=
  m = [] ∨ ∃ B off, ao = some ⟨B, off, none⟩ ∧ ∀ j v, m[j]? = some v → w.cell? ⟨B, off + j, none⟩ = some (B8 v)

theorem map_B8_one (x : By) : ([x].map B8) = [.int .u8 (x.toNat : Int)] := rfl

/-- What the walk knows of the row that it appends to. -/
def Own (N : Nat) (w : World) (v : Value) (m : List By) : Prop := w.ownsRow N 5 1 v m.length (m.map B8) ∧ N ≤ w.heap.size

theorem Own.grow {N : Nat} {w w1 : World} {v : Value} {m : List By} {x : By} (h : Own N w v m) {v' : Value} {n' : Nat} {o : Obj} (hn : n' = m.length + 1)
    (ho : w1.ownsRow N 5 1 v' n' (m.map B8 ++ [.int .u8 (x.toNat : Int)])) (hg : (w.alloc o).grownBy w1 v.ownBlock) : Own N w1 v' (m ++ [x]) := by
  refine ⟨?_, ?_⟩
  · have e : (m ++ [x]).length = n' := by simp [hn]
    rw [e, List.map_append, map_B8_one]
    exact ho
  · have := hg.size; have h2 := h.2; simp at this; omega
theorem Own.below {N : Nat} {a w w1 : World} {v : Value} {m : List By} {o : Obj} (h : Own N w v m) (hb : Below N a w) (hg : (w.alloc o).grownBy w1 v.ownBlock) : Below N a w1 :=
  (hb.alloc h.2 o).grown hg (by have := h.2; simp; omega) (fun k hk => (h.1.lt k hk).1)

theorem IsB.below {w w' : World} {ao : Option Addr} {m : List By} {N : Nat} (h : IsB w ao m) (hb : Below N w w') (hN : w.heap.size ≤ N) : IsB w' ao m := by
  rcases h with h | ⟨B, off, rfl, hc⟩
  · exact .inl h
  · refine .inr ⟨B, off, rfl, fun j v hj => ?_⟩
    have h1 := hc j v hj
    rw [hb.cell (p := ⟨B, off + j, none⟩) (by have := block_lt_of_cell h1; simp at this ⊢; omega)]
    exact h1

theorem wpList_append_one {ops : Array Oper} {rest : List Oper} {o : Oper} {a : Act} {w : World} {Q : Exit → Act → World → Prop} (hgd : o.guard = none) (s x : Operand)
    (ho : o.op = .call { callee := .builtin .append, args := #[s, x], argTypes := #[29, 29] })
    (N t : Nat) (a0 : World) (v : Value) (m : List By) (y : By) (yy : Int) (hyy : yy = (y.toNat : Int)) (g0 : Nat) (hg0 : g0 = w.heap.size) (hs : a.eval s = v) (hx : a.eval x = .slice (some ⟨g0, 0, none⟩) 1 1)
    (hown : Own N w v m) (hbel : Below N a0 w) (n : Nat) (hn : m.length = n) (hm : n < 140737488355328)
    (h : ∀ g cap w', Own N w' (.slice (some ⟨g, 0, none⟩) (n + 1) cap) (m ++ [y]) → Below N a0 w' → wpList Tryd.prog ops Q rest (a.put o.dst (.slice (some ⟨g, 0, none⟩) (n + 1) cap)) w') :
    wpList Tryd.prog ops Q (o :: rest) a (w.alloc (.cells #[.int .u8 yy] t)) := by
  obtain ⟨i0, hi, hz0, hz1, hz2⟩ := info_parts Tryd.infoU8
  subst hyy
  subst hg0
  subst hn
  refine wpList_append_lies (P := Tryd.prog) _ hgd s x 29 ho N 5 i0 (.int .u8 0) 1 1 Tryd.underlying29 hi hz0 hz1 hz2 rfl (by decide) v m.length (m.map B8) hs (hown.1.alloc _) ⟨w.heap.size, 0, none⟩ 1 1 [.int .u8 (y.toNat : Int)] hx rfl (cell_one_new _ _ _) ?_ (by decide) ?_ ?_ ?_ (w.heap.size + 1) (by simp) ?_
  · intro u hu; simp at hu; subst hu; rfl
  · unfold maxLen; omega
  · omega
  · have := hown.2; simp; omega
  · intro g cap w' h1 h2 _ _
    exact h g cap w' (hown.grow rfl h1 h2) (hown.below hbel h2)

/-- 'append(dst, src...)' where dst is the call's own (or nil) and src holds known bytes. -/
theorem run_append_more (N : Nat) (a0 w : World) (ty : TypeId) (aoD : Option Addr) (nD capD : Nat) (m : List By) (hD : m.length = nD) (hown : Own N w (.slice aoD nD capD) m) (hbel : Below N a0 w)
    (ao : Option Addr) (n cap : Nat) (bs : List By) (hn : bs.length = n) (hb : IsB w ao bs) (hnil : ao = none → cap = 0) (hl : nD + n ≤ 140737488353280) :
    ∃ ao' cap' w', (Builtin.append_ #[29, 29] ty #[.slice aoD nD capD, .slice ao n cap]).run Tryd.prog w = .ok (.slice ao' (nD + n) cap') w' ∧ Own N w' (.slice ao' (nD + n) cap') (m ++ bs) ∧ Below N a0 w' ∧ w.heap.size ≤ w'.heap.size ∧ (∀ k, k < w.heap.size → k < N → w'.heap[k]? = w.heap[k]?) := by
  obtain ⟨i0, hi, hz0, hz1, hz2⟩ := info_parts Tryd.infoU8
  subst hn
  subst hD
  have hN := hown.2
  have some_case : ∀ ad : Addr, (∀ j u, (bs.map B8)[j]? = some u → w.cell? (ad.add j) = some u) → ∃ ao' cap' w', (Builtin.append_ #[29, 29] ty #[.slice aoD m.length capD, .slice (some ad) bs.length cap]).run Tryd.prog w = .ok (.slice ao' (m.length + bs.length) cap') w' ∧ Own N w' (.slice ao' (m.length + bs.length) cap') (m ++ bs) ∧ Below N a0 w' ∧ w.heap.size ≤ w'.heap.size ∧ (∀ k, k < w.heap.size → k < N → w'.heap[k]? = w.heap[k]?) := by
    intro ad hnews
    obtain ⟨v', w', h1, h2, h3, _⟩ := run_append_own (P := Tryd.prog) w N 29 ty 5 i0 (.int .u8 0) 1 1 Tryd.underlying29 hi hz0 hz1 hz2 rfl (by decide) _ m.length (m.map B8) hown.1 ad bs.length cap (bs.map B8) (by simp) hnews (B8_one bs) (by unfold maxLen; omega) (by omega) hN
    have hbk : ∀ k, k < w.heap.size → k < N → w'.heap[k]? = w.heap[k]? := fun k hk hkN => h3.block k hk (fun e => by have := (hown.1.lt k e.symm).1; omega)
    have hform : ∃ ao' cap', v' = .slice ao' (m.length + bs.length) cap' := by
      rcases h2.2 with ⟨e, e0⟩ | ⟨g, c, cur, e, _⟩
      · exact ⟨none, 0, by rw [e, e0]⟩
      · exact ⟨_, _, e⟩
    obtain ⟨ao', cap', rfl⟩ := hform
    refine ⟨ao', cap', w', h1, ⟨?_, Nat.le_trans hN h3.size⟩, hbel.grown h3 hN (fun k hk => (hown.1.lt k hk).1), h3.size, hbk⟩
    rw [List.length_append, List.map_append]; exact h2
  rcases hb with rfl | ⟨B, off, rfl, hc⟩
  · cases ao with
    | none =>
      rw [hnil rfl]
      refine ⟨aoD, capD, w, ?_, ?_, hbel, Nat.le_refl _, fun _ _ _ => rfl⟩
      · have := run_append_owned_none (P := Tryd.prog) (w := w) N 29 ty 5 i0 1 Tryd.underlying29 hi _ m.length (m.map B8) hown.1
        simpa using this
      · simpa using hown
    | some ad => exact some_case ad (by simp)
  · refine some_case _ ?_
    intro j u hu
    rw [Addr.add_mid]
    rw [List.getElem?_map] at hu
    cases hj : bs[j]? with
    | none => rw [hj] at hu; cases hu
    | some v => rw [hj] at hu; injection hu with hu; subst hu; exact hc j v hj

theorem step_append_more {ops : Array Oper} {o : Oper} {a : Act} {w : World} {K : Act → World → Prop} {Q : Exit → Act → World → Prop} {E : Prop} (hgd : o.guard = none) (s x : Operand)
    (ho : o.op = .call { callee := .builtin .append, args := #[s, x], argTypes := #[29, 29] })
    (N : Nat) (a0 : World) (aoD : Option Addr) (nD capD : Nat) (m : List By) (hs : a.eval s = .slice aoD nD capD) (hD : m.length = nD) (hown : Own N w (.slice aoD nD capD) m) (hbel : Below N a0 w)
    (ao : Option Addr) (n cap : Nat) (bs : List By) (hx : a.eval x = .slice ao n cap) (hn : bs.length = n) (hb : IsB w ao bs) (hnil : ao = none → cap = 0) (hl : nD + n ≤ 140737488353280)
    (h : ∀ ao' cap' w', Own N w' (.slice ao' (nD + n) cap') (m ++ bs) → Below N a0 w' → K (a.put o.dst (.slice ao' (nD + n) cap')) w') :
    if Region.wanted o (yielded ops a.tmps) = true then Oper.wp Tryd.prog o a w K Q else E := by
  have hw : Region.wanted o (yielded ops a.tmps) = true := by simp [Region.wanted, hgd]
  rw [if_pos hw]
  obtain ⟨ao', cap', w', hrun, h2, h3, _⟩ := run_append_more N a0 w o.type aoD nD capD m hD hown hbel ao n cap bs hn hb hnil hl
  unfold Oper.wp execOp
  simp only [ho, resolve, invoke, builtin, Sem.run_bind, Sem.run_pure, Result.andThen_ok, List.map_toArray, List.map_cons, List.map_nil, hs, hx, hrun]
  exact h ao' cap' w' h2 h3

theorem wpList_append_more {ops : Array Oper} {rest : List Oper} {o : Oper} {a : Act} {w : World} {Q : Exit → Act → World → Prop} (hgd : o.guard = none) (s x : Operand)
    (ho : o.op = .call { callee := .builtin .append, args := #[s, x], argTypes := #[29, 29] })
    (N : Nat) (a0 : World) (aoD : Option Addr) (nD capD : Nat) (m : List By) (hs : a.eval s = .slice aoD nD capD) (hD : m.length = nD) (hown : Own N w (.slice aoD nD capD) m) (hbel : Below N a0 w)
    (ao : Option Addr) (n cap : Nat) (bs : List By) (hx : a.eval x = .slice ao n cap) (hn : bs.length = n) (hb : IsB w ao bs) (hnil : ao = none → cap = 0) (hl : nD + n ≤ 140737488353280)
    (h : ∀ ao' cap' w', Own N w' (.slice ao' (nD + n) cap') (m ++ bs) → Below N a0 w' → wpList Tryd.prog ops Q rest (a.put o.dst (.slice ao' (nD + n) cap')) w') : wpList Tryd.prog ops Q (o :: rest) a w := by
  refine wpList_plain hgd fun K hK => ?_
  obtain ⟨ao', cap', w', hrun, h2, h3, _⟩ := run_append_more N a0 w o.type aoD nD capD m hD hown hbel ao n cap bs hn hb hnil hl
  unfold Oper.wp execOp
  simp only [ho, resolve, invoke, builtin, Sem.run_bind, Sem.run_pure, Result.andThen_ok, List.map_toArray, List.map_cons, List.map_nil, hs, hx, hrun]
  exact hK _ _ (h ao' cap' w' h2 h3)

theorem own_cap {N : Nat} {w : World} {ao : Option Addr} {n c : Nat} {m : List By} (h : Own N w (.slice ao n c) m) : n ≤ c := by
  rcases h.1.2 with ⟨e, _⟩ | ⟨g, cap, cur, e, _, _, h4, _⟩
  · injection e with e1 e2 e3; omega
  · injection e with e1 e2 e3; omega
theorem own_nil (N : Nat) (w : World) (h : N ≤ w.heap.size) : Own N w (.slice none 0 0) [] := ⟨World.ownsRow_nil _ _ _ _, h⟩
/-- A slice without elements, made new. -/
theorem own_empty (N : Nat) (w : World) (h : N ≤ w.heap.size) (C : Array Value) (hC : C.size = 0) : Own N (w.alloc (.cells C 5)) (.slice (some ⟨w.heap.size, 0, none⟩) 0 0) [] := by
  have hC' : C = #[] := Array.eq_empty_of_size_eq_zero hC
  subst hC'
  refine ⟨⟨by simp, .inr ⟨w.heap.size, 0, #[], rfl, h, heap_alloc_new w _, by simp, by unfold maxLen; omega, by simp, by simp⟩⟩, by simp; omega⟩

theorem own_isb {N : Nat} {w : World} {ao : Option Addr} {n c : Nat} {m : List By} (h : Own N w (.slice ao n c) m) :
    m.length = n ∧ (ao = none → c = 0) ∧ m.length ≤ c ∧ (m = [] ∨ ∃ B off, ao = some ⟨B, off, none⟩ ∧ N ≤ B ∧ B < w.heap.size ∧ ∀ j v, m[j]? = some v → w.cell? ⟨B, off + j, none⟩ = some (B8 v)) := by
  have h1 := h.1
  rcases h.1.2 with ⟨e, e2⟩ | ⟨g, cap, cur, e, h2, h3, h4, _⟩
  · injection e with e1 e3 e4
    subst e4
    refine ⟨by omega, fun _ => rfl, by omega, .inl (List.length_eq_zero_iff.1 e2)⟩
  · injection e with e1 e3 e4
    subst e1
    subst e4
    refine ⟨e3.symm, (fun hh => by cases hh), h4, .inr ⟨g, 0, rfl, h2, (h1.lt g rfl).2, ?_⟩⟩
    intro j v hj
    have hjl : j < m.length := (List.getElem?_eq_some_iff.1 hj).1
    subst e3
    rw [Nat.zero_add, h1.cellAt j (by omega), List.getElem?_map, hj]; rfl

theorem own_IsB {N : Nat} {w : World} {ao : Option Addr} {n c : Nat} {m : List By} (h : Own N w (.slice ao n c) m) : IsB w ao m := by
  rcases (own_isb h).2.2.2 with h1 | ⟨B, off, h1, _, _, h2⟩
  · exact .inl h1
  · exact .inr ⟨B, off, h1, h2⟩
theorem own_form {N : Nat} {w : World} {v : Value} {m : List By} (h : Own N w v m) : ∃ ao c, v = .slice ao m.length c := by
  rcases h.1.2 with ⟨e, e0⟩ | ⟨g, c, cur, e, _⟩
  · exact ⟨none, 0, by rw [e, e0]⟩
  · exact ⟨_, _, e⟩
/-- What leaves all blocks from N on alone that are there leaves the row. -/
theorem Own.keep {N : Nat} {w w' : World} {v : Value} {m : List By} (h : Own N w v m) (hb : Below w.heap.size w w') : Own N w' v m := by
  refine ⟨⟨h.1.1, ?_⟩, Nat.le_trans h.2 hb.size⟩
  rcases h.1.2 with hn | ⟨g, cap, cur, e, h1, h2, h3⟩
  · exact .inl hn
  · refine .inr ⟨g, cap, cur, e, h1, ?_, h3⟩
    have hl : g < w.heap.size := (Array.getElem?_eq_some_iff.1 h2).1
    exact (hb.block g hl).trans h2
end Go.Proofs.YtcpdanjbnijoiaaDoor


/-! The reference's Cut; within, May, Blank. -/
namespace Go.Proofs.YtcpdanjbnijoiaaDoor
open Go.RowKit

theorem cells_mask (s : RS) (F : RF) (m : List By) (mo : Option Addr) (mc : Nat) (mb : Option Nat) : (s.cellsOf F).set 13 (.slice mo m.length mc) = ({ s with mask := m } : RS).cellsOf { F with mo := mo, mcap := mc, mb := mb } := rfl

theorem own_pre {N : Nat} {w : World} {ao : Option Addr} {n c : Nat} {m : List By} (h : Own N w (.slice ao n c) m) (hm : m ≠ []) : ∃ B, ao = some ⟨B, 0, none⟩ ∧ N ≤ B ∧ B < w.heap.size ∧ Pre w B 5 (m.map B8) := by
  rcases h.1.2 with ⟨_, e2⟩ | ⟨g, cap, cur, e, h2, h3, h4, h5, h6, h7⟩
  · exact absurd (List.length_eq_zero_iff.1 e2) hm
  · injection e with e1 e3 e4
    subst e1
    have hl : g < w.heap.size := (Array.getElem?_eq_some_iff.1 h3).1
    refine ⟨g, rfl, h2, hl, cur.toList.drop (m.map B8).length, ?_⟩
    unfold Row
    rw [h3]
    have : m.map B8 ++ cur.toList.drop (m.map B8).length = cur.toList := by
      have h8 : cur.toList.take (m.map B8).length = m.map B8 := by rw [List.length_map]; simpa using h7
      conv => lhs; lhs; rw [← h8]
      exact List.take_append_drop _ _
    rw [this]

end Go.Proofs.YtcpdanjbnijoiaaDoor


/-! The reference's within, May, Blank. -/
namespace Go.Proofs.YtcpdanjbnijoiaaDoor
open Go.RowKit

/-- May a config be? -/
def Cfg.a (c : Cfg) : Bool := decide (1 ≤ c.slots ∧ c.slots ≤ 8) && (decide (c.slots + 3 ≤ c.cells ∧ c.cells ≤ 256) && (decide (1 ≤ c.fuses ∧ c.fuses ≤ 64) && decide (1 ≤ c.step ∧ c.step ≤ 65536)))
def Cfg.b (c : Cfg) : Bool := decide (1 ≤ c.keys ∧ c.keys ≤ 64) && (decide (0 ≤ c.erases ∧ c.erases ≤ 65536) && decide (0 ≤ c.area ∧ c.area ≤ 64))
def Cfg.may (c : Cfg) : Int := if c.a && c.b then 0 else 1

end Go.Proofs.YtcpdanjbnijoiaaDoor


/-! What a chip holds, read; the reference's SameState. -/
namespace Go.Proofs.YtcpdanjbnijoiaaDoor
open Go.RowKit

/-- Values that lie in a row, one a cell. -/
def IsL (w : World) (ao : Option Addr) (vs : List Value) : Prop := vs = [] ∨ ∃ B off, ao = some ⟨B, off, none⟩ ∧ ∀ j v, vs[j]? = some v → w.cell? ⟨B, off + j, none⟩ = some v
theorem IsL.below {w w' : World} {ao : Option Addr} {vs : List Value} {N : Nat} (h : IsL w ao vs) (hb : Below N w w') (hN : w.heap.size ≤ N) : IsL w' ao vs := by
  rcases h with h | ⟨B, off, rfl, hc⟩
  · exact .inl h
  · refine .inr ⟨B, off, rfl, fun j v hj => ?_⟩
    have h1 := hc j v hj
    rw [hb.cell (p := ⟨B, off + j, none⟩) (by have := block_lt_of_cell h1; simp at this ⊢; omega)]
    exact h1
theorem IsL.dr {w w' : World} {ao : Option Addr} {vs : List Value} (h : IsL w ao vs) (d : Dr w w') : IsL w' ao vs := by
  rcases h with h | ⟨B, off, rfl, hc⟩
  · exact .inl h
  · exact .inr ⟨B, off, rfl, fun j v hj => d.cell (hc j v hj)⟩
theorem IsL.cell {w : World} {ao : Option Addr} {vs : List Value} (h : IsL w ao vs) (j : Nat) (v : Value) (hv : vs[j]? = some v) : ∃ B off, ao = some ⟨B, off, none⟩ ∧ w.cell? ⟨B, off + j, none⟩ = some v := by
  rcases h with rfl | ⟨B, off, rfl, hc⟩
  · simp at hv
  · exact ⟨B, off, rfl, hc j v hv⟩
theorem IsL.range {w : World} {ao : Option Addr} {vs : List Value} (h : IsL w ao vs) (o n : Nat) (hn : 0 < n) (ho : o + n ≤ vs.length) : ∃ B off, ao = some ⟨B, off, none⟩ ∧ w.rangeAt B (off + o) ((vs.drop o).take n) := by
  rcases h with rfl | ⟨B, off, rfl, hc⟩
  · simp at ho; omega
  · refine ⟨B, off, rfl, fun j v hv => ?_⟩
    rw [List.getElem?_take] at hv
    split at hv
    · rw [List.getElem?_drop] at hv
      have := hc (o + j) v hv
      rwa [← Nat.add_assoc] at this
    · cases hv

/-- What a chip holds. -/
structure St where
  pages : List (List (List By))
  erases : List Int
  blown : List Bool
def RS.st (s : RS) : St := ⟨s.pages, s.erases, s.blown⟩

/-- The three slices of an api.Chip. -/
structure SV where
  po : Option Addr
  pc : Nat
  eo : Option Addr
  ec : Nat
  bo : Option Addr
  bc : Nat
def SV.vals (v : SV) (t : St) : List Value := [.slice v.po t.pages.length v.pc, .slice v.eo t.erases.length v.ec, .slice v.bo t.blown.length v.bc]
structure StV (w : World) (v : SV) (t : St) : Prop where
  pg : ∃ pvs : List (Option Addr × Nat), pvs.length = t.pages.length ∧ IsL w v.po (List.zipWith (fun q p => Value.slice q.1 (List.length p) q.2) pvs t.pages) ∧ ∀ (i : Nat) (q : Option Addr × Nat) (p : List (List By)), pvs[i]? = some q → t.pages[i]? = some p → IsL w q.1 (p.flatten.map B8)
  er : IsL w v.eo (t.erases.map (Value.int .i64))
  bl : IsL w v.bo (t.blown.map Value.bool)
  by8 : ∀ p ∈ t.pages, ∀ x ∈ p, x.length = 32
theorem StV.below {w w' : World} {v : SV} {t : St} {N : Nat} (h : StV w v t) (hb : Below N w w') (hN : w.heap.size ≤ N) : StV w' v t := by
  obtain ⟨pvs, h1, h2, h3⟩ := h.pg
  exact ⟨⟨pvs, h1, h2.below hb hN, fun i q p hq hp => (h3 i q p hq hp).below hb hN⟩, h.er.below hb hN, h.bl.below hb hN, h.by8⟩
theorem StV.dr {w w' : World} {v : SV} {t : St} (h : StV w v t) (d : Dr w w') : StV w' v t := by
  obtain ⟨pvs, h1, h2, h3⟩ := h.pg
  exact ⟨⟨pvs, h1, h2.dr d, fun i q p hq hp => (h3 i q p hq hp).dr d⟩, h.er.dr d, h.bl.dr d, h.by8⟩
theorem StV.page {w : World} {v : SV} {t : St} (h : StV w v t) (p : Nat) (hp : p < t.pages.length) : ∃ B off qo qc, v.po = some ⟨B, off, none⟩ ∧ w.cell? ⟨B, off + p, none⟩ = some (.slice qo (t.pages.getD p []).length qc) ∧ IsL w qo ((t.pages.getD p []).flatten.map B8) ∧ ∀ x ∈ t.pages.getD p [], x.length = 32 := by
  obtain ⟨pvs, h1, h2, h3⟩ := h.pg
  have hq : pvs[p]? = some (pvs[p]'(by omega)) := List.getElem?_eq_getElem _
  have hpp : t.pages[p]? = some t.pages[p] := List.getElem?_eq_getElem hp
  have hd : t.pages.getD p [] = t.pages[p] := by rw [List.getD_eq_getElem?_getD, hpp]; rfl
  obtain ⟨B, off, e1, e2⟩ := h2.cell p _ (by rw [List.getElem?_zipWith, hq, hpp])
  rw [hd]
  exact ⟨B, off, _, _, e1, e2, h3 p _ _ hq hpp, h.by8 _ (List.getElem_mem hp)⟩

theorem mapM_some {α β : Type} {f : α → Option β} (g : α → β) : ∀ (l : List α), (∀ x ∈ l, f x = some (g x)) → l.mapM f = some (l.map g)
  | [], _ => rfl
  | x :: l, h => by
    rw [List.mapM_cons, h x (by simp), mapM_some g l (fun y hy => h y (by simp [hy]))]
    rfl
theorem Tryd.cellsCell : Tryd.prog.cellsOf 40 = 32 := by kernel_rfl
theorem Tryd.cellsU8 : Tryd.prog.cellsOf 5 = 1 := by kernel_rfl
def keyOf (bs : List By) : List Lit := ((List.range 32).map fun i => [Lit.int .u8 ((bs.getD i 0).toNat : Int)]).flatten
theorem cell_key (bs : List By) (hl : bs.length = 32) : Tryd.prog.keyLits 2 40 (bs.map B8) = some (keyOf bs) := by
  have hu : Tryd.prog.underlying 40 = some (.array 32 5) := Tryd.underlying40
  unfold Program.keyLits
  simp only [hu]
  rw [if_pos (by rw [Tryd.cellsCell, List.length_map, hl])]
  rw [mapM_some (fun i => [Lit.int .u8 ((bs.getD i 0).toNat : Int)])]
  · rfl
  · intro i hi
    rw [List.mem_range] at hi
    have e : ((bs.map B8).drop (i * Tryd.prog.cellsOf 5)).take (Tryd.prog.cellsOf 5) = [.int .u8 ((bs.getD i 0).toNat : Int)] := by
      rw [Tryd.cellsU8, Nat.mul_one, List.drop_eq_getElem_cons (by rw [List.length_map, hl]; exact hi)]
      simp [B8, hl, hi]
    rw [e]
    unfold Program.keyLits
    have h8 := b8_lt (bs.getD i 0)
    simp only [Tryd.underlying5]
    rw [if_pos ⟨trivial, WalkArith.wf_u8 (by omega)⟩]
theorem flat_one {α : Type} : ∀ l : List α, (l.map fun x => [x]).flatten = l
  | [] => rfl
  | x :: l => by rw [List.map_cons, List.flatten_cons, flat_one l]; rfl
theorem eq_cell (x y : List By) (hx : x.length = 32) (hy : y.length = 32) (w : World) : (Op.equalIn 10000 40 (.agg (x.map B8).toArray) (.agg (y.map B8).toArray)).run Tryd.prog w = .ok (decide (x = y)) w := by
  have hf : ∀ z : List By, z.length = 32 → (Value.agg (z.map B8).toArray).formed Tryd.prog 40 = true := fun z hz => by
    simp [Value.formed, Tryd.underlying40, Tryd.cellsCell, hz]
  have kz : ∀ z : List By, z.length = 32 → Tryd.prog.keyLits 2 40 (Value.agg (z.map B8).toArray).cells.toList = some (keyOf z) := fun z hz => by
    have e : (Value.agg (z.map B8).toArray).cells.toList = z.map B8 := by simp [Value.cells]
    rw [e]; exact cell_key z hz
  obtain ⟨r, hr, hiff⟩ := run_equalIn_deep (P := Tryd.prog) 9998 2 40 (by kernel_rfl) w 2 2 _ _ _ _ (hf x hx) (hf y hy) (kz x hx) (kz y hy)
  rw [hr]
  have : r = decide (x = y) := by
    by_cases hxy : x = y
    · rw [decide_eq_true hxy]
      refine hiff.2 ?_
      subst hxy; rfl
    · rw [decide_eq_false hxy]
      cases hb : r with
      | false => rfl
      | true =>
        exfalso
        have he := hiff.1 hb
        have f1 : ∀ z : List By, keyOf z = (List.range 32).map fun i => Lit.int .u8 ((z.getD i 0).toNat : Int) := fun z => by
          have := flat_one ((List.range 32).map fun i => Lit.int .u8 ((z.getD i 0).toNat : Int))
          rw [List.map_map] at this
          exact this
        rw [f1, f1] at he
        apply hxy
        apply List.ext_getElem (by omega)
        intro i hi hi'
        have h1 := congrArg (fun l => l[i]?) he
        simp only [List.getElem?_map, List.getElem?_range (show i < 32 by omega), Option.map_some, Option.some.injEq, Lit.int.injEq, true_and] at h1
        have h2 : (x.getD i 0).toNat = (y.getD i 0).toNat := by omega
        have h3 := BitVec.eq_of_toNat_eq h2
        simpa [List.getD_eq_getElem?_getD, hi, hi'] using h3
  rw [this]
end Go.Proofs.YtcpdanjbnijoiaaDoor
