import Derived.Test.YtgpnbiaghokjkaaDoorR4App
import Derived.Deep.CutBlock
import Derived.Deep.DeepCutAuto
import Derived.DeepKeys
import Derived.StillTactics

/-! The reference's Cut; within, May, Blank. -/
namespace Go.Proofs.YtgpnbiaghokjkaaDoor
open Go.RowKit

end Go.Proofs.YtgpnbiaghokjkaaDoor


/-! The reference's within, May, Blank. -/
namespace Go.Proofs.YtgpnbiaghokjkaaDoor
open Go.RowKit

/-- May a config be? -/
def Cfg.a (c : Cfg) : Bool := decide (1 ≤ c.slots ∧ c.slots ≤ 8) && (decide (c.slots + 3 ≤ c.cells ∧ c.cells ≤ 256) && (decide (1 ≤ c.fuses ∧ c.fuses ≤ 64) && decide (1 ≤ c.step ∧ c.step ≤ 65536)))
def Cfg.b (c : Cfg) : Bool := decide (1 ≤ c.keys ∧ c.keys ≤ 64) && (decide (0 ≤ c.erases ∧ c.erases ≤ 65536) && decide (0 ≤ c.area ∧ c.area ≤ 64))
def Cfg.may (c : Cfg) : Int := if c.a && c.b then 0 else 1

end Go.Proofs.YtgpnbiaghokjkaaDoor


/-! What a chip holds, read; the reference's SameState. -/
namespace Go.Proofs.YtgpnbiaghokjkaaDoor
open Go.RowKit

/-- Values that lie in a row, one a cell. -/
def IsL (w : World) (ao : Option Addr) (vs : List Value) : Prop := vs = [] ∨ ∃ B off, ao = some ⟨B, off, none⟩ ∧ ∀ j v, vs[j]? = some v → w.cell? ⟨B, off + j, none⟩ = some v
theorem IsL.below {w w' : World} {ao : Option Addr} {vs : List Value} {N : Nat} (h : IsL w ao vs) (hb : Below N w w') (hN : w.heap.size ≤ N) : IsL w' ao vs := by
  rcases h with h | ⟨B, off, rfl, hc⟩
  · exact .inl h
  · refine .inr ⟨B, off, rfl, fun j v hj => ?_⟩
    have h1 := hc j v hj
    rw [hb.cell (p := ⟨B, off + j, none⟩) (by have := block_lt_of_cell h1; simp at this ⊢; omega)]
    exact h1
theorem IsL.dr {w w' : World} {ao : Option Addr} {vs : List Value} (h : IsL w ao vs) (d : Dr w w') : IsL w' ao vs := by
  rcases h with h | ⟨B, off, rfl, hc⟩
  · exact .inl h
  · exact .inr ⟨B, off, rfl, fun j v hj => d.cell (hc j v hj)⟩
theorem IsL.cell {w : World} {ao : Option Addr} {vs : List Value} (h : IsL w ao vs) (j : Nat) (v : Value) (hv : vs[j]? = some v) : ∃ B off, ao = some ⟨B, off, none⟩ ∧ w.cell? ⟨B, off + j, none⟩ = some v := by
  rcases h with rfl | ⟨B, off, rfl, hc⟩
  · simp at hv
  · exact ⟨B, off, rfl, hc j v hv⟩
theorem IsL.range {w : World} {ao : Option Addr} {vs : List Value} (h : IsL w ao vs) (o n : Nat) (hn : 0 < n) (ho : o + n ≤ vs.length) : ∃ B off, ao = some ⟨B, off, none⟩ ∧ w.rangeAt B (off + o) ((vs.drop o).take n) := by
  rcases h with rfl | ⟨B, off, rfl, hc⟩
  · simp at ho; omega
  · refine ⟨B, off, rfl, fun j v hv => ?_⟩
    rw [List.getElem?_take] at hv
    split at hv
    · rw [List.getElem?_drop] at hv
      have := hc (o + j) v hv
      rwa [← Nat.add_assoc] at this
    · cases hv

/-- What a chip holds. -/
structure St where
  pages : List (List (List By))
  erases : List Int
  blown : List Bool
def RS.st (s : RS) : St := ⟨s.pages, s.erases, s.blown⟩

/-- The three slices of an api.Chip. -/
structure SV where
  po : Option Addr
  pc : Nat
  eo : Option Addr
  ec : Nat
  bo : Option Addr
  bc : Nat
def SV.vals (v : SV) (t : St) : List Value := [.slice v.po t.pages.length v.pc, .slice v.eo t.erases.length v.ec, .slice v.bo t.blown.length v.bc]
structure StV (w : World) (v : SV) (t : St) : Prop where
  pg : ∃ pvs : List (Option Addr × Nat), pvs.length = t.pages.length ∧ IsL w v.po (List.zipWith (fun q p => Value.slice q.1 (List.length p) q.2) pvs t.pages) ∧ ∀ (i : Nat) (q : Option Addr × Nat) (p : List (List By)), pvs[i]? = some q → t.pages[i]? = some p → IsL w q.1 (p.flatten.map B8)
  er : IsL w v.eo (t.erases.map (Value.int .i64))
  bl : IsL w v.bo (t.blown.map Value.bool)
  by8 : ∀ p ∈ t.pages, ∀ x ∈ p, x.length = 32
theorem StV.below {w w' : World} {v : SV} {t : St} {N : Nat} (h : StV w v t) (hb : Below N w w') (hN : w.heap.size ≤ N) : StV w' v t := by
  obtain ⟨pvs, h1, h2, h3⟩ := h.pg
  exact ⟨⟨pvs, h1, h2.below hb hN, fun i q p hq hp => (h3 i q p hq hp).below hb hN⟩, h.er.below hb hN, h.bl.below hb hN, h.by8⟩
theorem StV.page {w : World} {v : SV} {t : St} (h : StV w v t) (p : Nat) (hp : p < t.pages.length) : ∃ B off qo qc, v.po = some ⟨B, off, none⟩ ∧ w.cell? ⟨B, off + p, none⟩ = some (.slice qo (t.pages.getD p []).length qc) ∧ IsL w qo ((t.pages.getD p []).flatten.map B8) ∧ ∀ x ∈ t.pages.getD p [], x.length = 32 := by
  obtain ⟨pvs, h1, h2, h3⟩ := h.pg
  have hq : pvs[p]? = some (pvs[p]'(by omega)) := List.getElem?_eq_getElem _
  have hpp : t.pages[p]? = some t.pages[p] := List.getElem?_eq_getElem hp
  have hd : t.pages.getD p [] = t.pages[p] := by rw [List.getD_eq_getElem?_getD, hpp]; rfl
  obtain ⟨B, off, e1, e2⟩ := h2.cell p _ (by rw [List.getElem?_zipWith, hq, hpp])
  rw [hd]
  exact ⟨B, off, _, _, e1, e2, h3 p _ _ hq hpp, h.by8 _ (List.getElem_mem hp)⟩

theorem mapM_some {α β : Type} {f : α → Option β} (g : α → β) : ∀ (l : List α), (∀ x ∈ l, f x = some (g x)) → l.mapM f = some (l.map g)
  | [], _ => rfl
  | x :: l, h => by
    rw [List.mapM_cons, h x (by simp), mapM_some g l (fun y hy => h y (by simp [hy]))]
    rfl
theorem Tryd.cellsCell : Tryd.prog.cellsOf 56 = 32 := by kernel_rfl
theorem Tryd.cellsU8 : Tryd.prog.cellsOf 5 = 1 := by kernel_rfl
def keyOf (bs : List By) : List Lit := ((List.range 32).map fun i => [Lit.int .u8 ((bs.getD i 0).toNat : Int)]).flatten
theorem cell_key (bs : List By) (hl : bs.length = 32) : Tryd.prog.keyLits 2 56 (bs.map B8) = some (keyOf bs) := by
  have hu : Tryd.prog.underlying 56 = some (.array 32 5) := Tryd.underlying56
  unfold Program.keyLits
  simp only [hu]
  rw [if_pos (by rw [Tryd.cellsCell, List.length_map, hl])]
  rw [mapM_some (fun i => [Lit.int .u8 ((bs.getD i 0).toNat : Int)])]
  · rfl
  · intro i hi
    rw [List.mem_range] at hi
    have e : ((bs.map B8).drop (i * Tryd.prog.cellsOf 5)).take (Tryd.prog.cellsOf 5) = [.int .u8 ((bs.getD i 0).toNat : Int)] := by
      rw [Tryd.cellsU8, Nat.mul_one, List.drop_eq_getElem_cons (by rw [List.length_map, hl]; exact hi)]
      simp [B8, hl, hi]
    rw [e]
    unfold Program.keyLits
    have h8 := b8_lt (bs.getD i 0)
    simp only [Tryd.underlying5]
    rw [if_pos ⟨trivial, WalkArith.wf_u8 (by omega)⟩]
theorem flat_one {α : Type} : ∀ l : List α, (l.map fun x => [x]).flatten = l
  | [] => rfl
  | x :: l => by rw [List.map_cons, List.flatten_cons, flat_one l]; rfl
theorem eq_cell (x y : List By) (hx : x.length = 32) (hy : y.length = 32) (w : World) : (Op.equalIn 10000 56 (.agg (x.map B8).toArray) (.agg (y.map B8).toArray)).run Tryd.prog w = .ok (decide (x = y)) w := by
  have hf : ∀ z : List By, z.length = 32 → (Value.agg (z.map B8).toArray).formed Tryd.prog 56 = true := fun z hz => by
    simp [Value.formed, Tryd.underlying56, Tryd.cellsCell, hz]
  have kz : ∀ z : List By, z.length = 32 → Tryd.prog.keyLits 2 56 (Value.agg (z.map B8).toArray).cells.toList = some (keyOf z) := fun z hz => by
    have e : (Value.agg (z.map B8).toArray).cells.toList = z.map B8 := by simp [Value.cells]
    rw [e]; exact cell_key z hz
  obtain ⟨r, hr, hiff⟩ := run_equalIn_deep (P := Tryd.prog) 9998 2 56 (by kernel_rfl) w 2 2 _ _ _ _ (hf x hx) (hf y hy) (kz x hx) (kz y hy)
  rw [hr]
  have : r = decide (x = y) := by
    by_cases hxy : x = y
    · rw [decide_eq_true hxy]
      refine hiff.2 ?_
      subst hxy; rfl
    · rw [decide_eq_false hxy]
      cases hb : r with
      | false => rfl
      | true =>
        exfalso
        have he := hiff.1 hb
        have f1 : ∀ z : List By, keyOf z = (List.range 32).map fun i => Lit.int .u8 ((z.getD i 0).toNat : Int) := fun z => by
          have := flat_one ((List.range 32).map fun i => Lit.int .u8 ((z.getD i 0).toNat : Int))
          rw [List.map_map] at this
          exact this
        rw [f1, f1] at he
        apply hxy
        apply List.ext_getElem (by omega)
        intro i hi hi'
        have h1 := congrArg (fun l => l[i]?) he
        simp only [List.getElem?_map, List.getElem?_range (show i < 32 by omega), Option.map_some, Option.some.injEq, Lit.int.injEq, true_and] at h1
        have h2 : (x.getD i 0).toNat = (y.getD i 0).toNat := by omega
        have h3 := BitVec.eq_of_toNat_eq h2
        simpa [List.getD_eq_getElem?_getD, hi, hi'] using h3
  rw [this]
end Go.Proofs.YtgpnbiaghokjkaaDoor


namespace Go.Proofs.YtgpnbiaghokjkaaDoor
open Go.RowKit

theorem wpStill_load_range {P : Program} {ops : Array Oper} {rest : List Oper} {op : Oper} {a : Act} {w : World} {Q : Act → Prop} (hgd : op.guard = none) (ty : TypeId) (x : Operand) (ho : op.op = .load ty x)
    (g o n : Nat) (cs : List Value) (hr : w.rangeAt g o cs) (hx : a.eval x = .pointer (some ⟨g, o, none⟩)) (d : TypeDesc) (hn : cs.length = n)
    (hu : P.underlying ty = some d) (hd : d.isRow = true) (hi : (P.info? ty).map (·.size) = some n)
    (h : wpStill P ops w Q rest (a.put op.dst (.agg cs.toArray))) : wpStill P ops w Q (op :: rest) a := by
  refine wpStill_step (fun K hK => ?_)
  have hw : Region.wanted op (yielded ops a.tmps) = true := by unfold Region.wanted; simp [hgd]
  rw [if_pos hw]
  unfold Oper.still execOp
  simp only [ho, hx, Instr.loadAt, Instr.sureAddr, Sem.run_bind, Sem.run_pure, Result.andThen_ok, run_loadVar_mid w g o ty cs d hr hu hd (by rw [hn]; exact hi)]
  exact ⟨rfl, hK _ h⟩

theorem St_ext {a b : St} (h1 : a.pages = b.pages) (h2 : a.erases = b.erases) (h3 : a.blown = b.blown) : a = b := by
  cases a; cases b; simp only at h1 h2 h3; rw [h1, h2, h3]
theorem getD_ext {α : Type} (d : α) (x y : List α) (hl : x.length = y.length) (h : ∀ j, j < x.length → x.getD j d = y.getD j d) : x = y := by
  apply List.ext_getElem hl
  intro i hi hi'
  have := h i hi
  simpa [List.getD_eq_getElem?_getD, hi, hi'] using this

end Go.Proofs.YtgpnbiaghokjkaaDoor


/-! append(dst, src...) onto an own (or nil) slice of any element type. -/
namespace Go.Proofs.YtgpnbiaghokjkaaDoor
open Go.RowKit

/-- What is known of a slice type and its elements. -/
structure ElT (T e size bytes : Nat) (z : Value) : Prop where
  und : Tryd.prog.underlying T = some (.slice e)
  info : (Tryd.prog.info? e).map (fun i => (i.zero, i.size, i.bytes)) = some (some z, size, bytes)
  zs : z.cells.size = size
  pos : 0 < size

theorem run_append_gen {T e size bytes : Nat} {z : Value} (E : ElT T e size bytes z) (N : Nat) (a0 w : World) (ty : TypeId) (aoD : Option Addr) (nD capD : Nat) (vs : List Value) (hown : w.ownsRow N e size (.slice aoD nD capD) nD vs) (hN : N ≤ w.heap.size) (hbel : Below N a0 w)
    (ao : Option Addr) (n cap : Nat) (news : List Value) (hn : news.length = n * size) (hb : IsL w ao news) (h1 : ∀ u ∈ news, u.oneCell' = true) (hnil : ao = none → cap = 0) (hm : nD + n ≤ maxLen) (hl : (nD + n) * bytes ≤ 140737488355328) :
    ∃ ao' cap' w', (Builtin.append_ #[T, T] ty #[.slice aoD nD capD, .slice ao n cap]).run Tryd.prog w = .ok (.slice ao' (nD + n) cap') w' ∧ w'.ownsRow N e size (.slice ao' (nD + n) cap') (nD + n) (vs ++ news) ∧ Below N a0 w' ∧ w.heap.size ≤ w'.heap.size ∧ (∀ k, k < w.heap.size → (∀ g, aoD = some ⟨g, 0, none⟩ → k ≠ g) → w'.heap[k]? = w.heap[k]?) := by
  obtain ⟨i0, hi, hz0, hz1, hz2⟩ := info_parts E.info
  have some_case : ∀ ad : Addr, (∀ j u, news[j]? = some u → w.cell? (ad.add j) = some u) → ∃ ao' cap' w', (Builtin.append_ #[T, T] ty #[.slice aoD nD capD, .slice (some ad) n cap]).run Tryd.prog w = .ok (.slice ao' (nD + n) cap') w' ∧ w'.ownsRow N e size (.slice ao' (nD + n) cap') (nD + n) (vs ++ news) ∧ Below N a0 w' ∧ w.heap.size ≤ w'.heap.size ∧ (∀ k, k < w.heap.size → (∀ g, aoD = some ⟨g, 0, none⟩ → k ≠ g) → w'.heap[k]? = w.heap[k]?) := by
    intro ad hnews
    obtain ⟨v', w', r1, r2, r3, _⟩ := run_append_own (P := Tryd.prog) w N T ty e i0 z size bytes E.und hi hz0 hz1 hz2 E.zs E.pos _ nD vs hown ad n cap news hn hnews h1 hm hl hN
    have hform : ∃ ao' cap', v' = .slice ao' (nD + n) cap' := by
      rcases r2.2 with ⟨e1, e0⟩ | ⟨g, c, cur, e1, _⟩
      · exact ⟨none, 0, by rw [e1, e0]⟩
      · exact ⟨_, _, e1⟩
    obtain ⟨ao', cap', rfl⟩ := hform
    refine ⟨ao', cap', w', r1, r2, hbel.grown r3 hN (fun k hk => (hown.lt k hk).1), r3.size, fun k hk hne => r3.block k hk (fun e1 => ?_)⟩
    rcases hown.2 with ⟨e2, _⟩ | ⟨g, c, cur, e2, _⟩
    · rw [e2] at e1; simp [Value.ownBlock] at e1
    · injection e2 with e2
      rw [e2] at e1
      simp [Value.ownBlock] at e1
      exact hne g e2 e1
  rcases hb with rfl | ⟨B, off, rfl, hc⟩
  · have hn0 : n = 0 := by
      have hp := E.pos
      have h0 : n * size = 0 := by simpa using hn.symm
      rcases Nat.mul_eq_zero.1 h0 with h | h
      · exact h
      · omega
    cases ao with
    | none =>
      rw [hnil rfl, hn0]
      refine ⟨aoD, capD, w, ?_, by simpa using hown, hbel, Nat.le_refl _, fun _ _ _ => rfl⟩
      have := run_append_owned_none (P := Tryd.prog) (w := w) N T ty e i0 size E.und hi _ nD vs hown
      simpa using this
    | some ad => exact some_case ad (by simp)
  · refine some_case _ ?_
    intro j u hu
    rw [Addr.add_mid]
    exact hc j u hu

theorem step_append_gen {T e size bytes : Nat} {z : Value} (E : ElT T e size bytes z) {ops : Array Oper} {o : Oper} {a : Act} {w : World} {K : Act → World → Prop} {Q : Exit → Act → World → Prop} {X : Prop} (hgd : o.guard = none) (s x : Operand)
    (ho : o.op = .call { callee := .builtin .append, args := #[s, x], argTypes := #[T, T] })
    (N : Nat) (a0 : World) (aoD : Option Addr) (nD capD : Nat) (vs : List Value) (hs : a.eval s = .slice aoD nD capD) (hown : w.ownsRow N e size (.slice aoD nD capD) nD vs) (hN : N ≤ w.heap.size) (hbel : Below N a0 w)
    (ao : Option Addr) (n cap : Nat) (news : List Value) (hx : a.eval x = .slice ao n cap) (hn : news.length = n * size) (hb : IsL w ao news) (h1 : ∀ u ∈ news, u.oneCell' = true) (hnil : ao = none → cap = 0) (hm : nD + n ≤ maxLen) (hl : (nD + n) * bytes ≤ 140737488355328)
    (h : ∀ ao' cap' w', w'.ownsRow N e size (.slice ao' (nD + n) cap') (nD + n) (vs ++ news) → Below N a0 w' → w.heap.size ≤ w'.heap.size → (∀ k, k < w.heap.size → (∀ g, aoD = some ⟨g, 0, none⟩ → k ≠ g) → w'.heap[k]? = w.heap[k]?) → K (a.put o.dst (.slice ao' (nD + n) cap')) w') :
    if Region.wanted o (yielded ops a.tmps) = true then Oper.wp Tryd.prog o a w K Q else X := by
  have hw : Region.wanted o (yielded ops a.tmps) = true := by simp [Region.wanted, hgd]
  rw [if_pos hw]
  obtain ⟨ao', cap', w', hrun, h2, h3, h4, h5⟩ := run_append_gen E N a0 w o.type aoD nD capD vs hown hN hbel ao n cap news hn hb h1 hnil hm hl
  unfold Oper.wp execOp
  simp only [ho, resolve, invoke, builtin, Sem.run_bind, Sem.run_pure, Result.andThen_ok, List.map_toArray, List.map_cons, List.map_nil, hs, hx, hrun]
  exact h ao' cap' w' h2 h3 h4 h5

theorem wpList_append_gen {T e size bytes : Nat} {z : Value} (E : ElT T e size bytes z) {ops : Array Oper} {rest : List Oper} {o : Oper} {a : Act} {w : World} {Q : Exit → Act → World → Prop} (hgd : o.guard = none) (s x : Operand)
    (ho : o.op = .call { callee := .builtin .append, args := #[s, x], argTypes := #[T, T] })
    (N : Nat) (a0 : World) (aoD : Option Addr) (nD capD : Nat) (vs : List Value) (hs : a.eval s = .slice aoD nD capD) (hown : w.ownsRow N e size (.slice aoD nD capD) nD vs) (hN : N ≤ w.heap.size) (hbel : Below N a0 w)
    (ao : Option Addr) (n cap : Nat) (news : List Value) (hx : a.eval x = .slice ao n cap) (hn : news.length = n * size) (hb : IsL w ao news) (h1 : ∀ u ∈ news, u.oneCell' = true) (hnil : ao = none → cap = 0) (hm : nD + n ≤ maxLen) (hl : (nD + n) * bytes ≤ 140737488355328)
    (h : ∀ ao' cap' w', w'.ownsRow N e size (.slice ao' (nD + n) cap') (nD + n) (vs ++ news) → Below N a0 w' → w.heap.size ≤ w'.heap.size → (∀ k, k < w.heap.size → (∀ g, aoD = some ⟨g, 0, none⟩ → k ≠ g) → w'.heap[k]? = w.heap[k]?) → wpList Tryd.prog ops Q rest (a.put o.dst (.slice ao' (nD + n) cap')) w') : wpList Tryd.prog ops Q (o :: rest) a w := by
  refine wpList_plain hgd fun K hK => ?_
  obtain ⟨ao', cap', w', hrun, h2, h3, h4, h5⟩ := run_append_gen E N a0 w o.type aoD nD capD vs hown hN hbel ao n cap news hn hb h1 hnil hm hl
  unfold Oper.wp execOp
  simp only [ho, resolve, invoke, builtin, Sem.run_bind, Sem.run_pure, Result.andThen_ok, List.map_toArray, List.map_cons, List.map_nil, hs, hx, hrun]
  exact hK _ _ (h ao' cap' w' h2 h3 h4 h5)

theorem el_ints : ElT 26 3 1 8 (.int .i64 0) := ⟨Tryd.underlying26, by kernel_rfl, rfl, by omega⟩
theorem el_bools : ElT 27 4 1 1 (.bool false) := ⟨Tryd.underlying27, by kernel_rfl, rfl, by omega⟩
theorem el_cells : ElT 57 56 32 32 (.agg ((List.replicate 32 (0 : By)).map B8).toArray) := ⟨Tryd.underlying57, by kernel_rfl, rfl, by omega⟩
theorem el_pages : ElT 25 57 1 24 (.slice none 0 0) := ⟨Tryd.underlying25, by kernel_rfl, rfl, by omega⟩

/-- A slice without elements, made new. -/
theorem owns_empty (N : Nat) (w : World) (h : N ≤ w.heap.size) (e size : Nat) : (w.alloc (.cells #[] e)).ownsRow N e size (.slice (some ⟨w.heap.size, 0, none⟩) 0 0) 0 [] :=
  ⟨by simp, .inr ⟨w.heap.size, 0, #[], rfl, h, heap_alloc_new w _, by simp, by unfold maxLen; omega, by simp, by simp⟩⟩

end Go.Proofs.YtgpnbiaghokjkaaDoor


/-! The reference's Blank, Fits. -/
namespace Go.Proofs.YtgpnbiaghokjkaaDoor
open Go.RowKit
set_option linter.unusedVariables false

theorem blank_set (k : Nat) (hk : k < 32) : (List.replicate k (255#8 : By) ++ List.replicate (32 - k) 0).set k 255#8 = List.replicate (k + 1) 255#8 ++ List.replicate (32 - (k + 1)) 0 := by
  rw [List.set_append_right _ _ (by simp), List.length_replicate, Nat.sub_self, show 32 - k = (32 - (k + 1)) + 1 by omega, List.replicate_succ, List.set_cons_zero, List.replicate_succ', List.append_assoc]; rfl
theorem map_set_255 (l : List By) (k : Nat) : (l.map B8).set k (.int .u8 255) = (l.set k 255#8).map B8 := by rw [List.map_set]; rfl

/-- Has it the sizes of a config that may be? -/
def Fit (c : Cfg) (t : St) : Prop := (t.pages.length : Int) = 2 + 2 * c.area ∧ (t.erases.length : Int) = 2 + 2 * c.area ∧ (t.blown.length : Int) = c.slots * c.fuses + c.keys ∧ (∀ p, p < t.pages.length → ((t.pages.getD p []).length : Int) = c.cells ∧ 0 ≤ t.erases.getD p 0)

end Go.Proofs.YtgpnbiaghokjkaaDoor


/-! Layer 21 as plain data: chips as text, on lists of bytes. -/
namespace Go.Proofs.YtgpnbiaghokjkaaDoor
open Go.RowKit
set_option linter.unusedVariables false
set_option linter.unusedSimpArgs false

/-- A digit. -/
def dg (n : Nat) : By := BitVec.ofNat 8 (48 + n % 10)
/-- A number in digits, k + 1 of them at most. -/
def numF : Nat → Nat → List By
  | 0, n => [dg n]
  | k + 1, n => if n < 10 then [dg n] else numF k (n / 10) ++ [dg n]
def num (n : Nat) : List By := numF 20 n
/-- A digit of base sixteen. -/
def hx (n : Nat) : By := if n < 10 then BitVec.ofNat 8 (48 + n) else BitVec.ofNat 8 (87 + n)
def hexB (x : By) : List By := [hx (x.toNat / 16), hx (x.toNat % 16)]
def hexC (c : List By) : List By := c.flatMap hexB

def wChip : List By := [99#8, 104#8, 105#8, 112#8]
def wBlown : List By := [98#8, 108#8, 111#8, 119#8, 110#8]
def wPage : List By := [112#8, 97#8, 103#8, 101#8]
def wCell : List By := [99#8, 101#8, 108#8, 108#8]

/-- Numbers, a blank ahead of each. -/
def numsL (l : List Nat) : List By := l.flatMap fun n => 32#8 :: num n
def Cfg.nums (c : Cfg) : List Nat := [c.cells.toNat, c.slots.toNat, c.fuses.toNat, c.step.toNat, c.keys.toNat, c.erases.toNat, c.area.toNat]
/-- The places from i on that are true. -/
def trues : List Bool → Nat → List Nat
  | [], _ => []
  | b :: r, i => if b then i :: trues r (i + 1) else trues r (i + 1)
def cellL (i : Nat) (x : List By) : List By := wCell ++ 32#8 :: (num i ++ 32#8 :: (hexC x ++ [10#8]))
def cellsL : List (List By) → Nat → List By
  | [], _ => []
  | x :: r, i => (if x = List.replicate 32 255#8 then [] else cellL i x) ++ cellsL r (i + 1)
def headL (p : Nat) (e : Int) : List By := wPage ++ 32#8 :: (num p ++ 32#8 :: (num e.toNat ++ [10#8]))
def pagesL : List (List (List By)) → List Int → Nat → List By
  | [], _, _ => []
  | g :: r, es, p => headL p (es.headD 0) ++ cellsL g 0 ++ pagesL r es.tail (p + 1)
/-- The text of a chip. -/
def printL (c : Cfg) (t : St) : List By := (wChip ++ numsL c.nums ++ [10#8]) ++ (wBlown ++ numsL (trues t.blown 0) ++ [10#8]) ++ pagesL t.pages t.erases 0

/-- Up to the first line feed, and what is behind it. -/
def lineOf : List By → Option (List By × List By)
  | [] => none
  | x :: r => if x = 10#8 then some ([], r) else match lineOf r with | some (a, b) => some (x :: a, b) | none => none
/-- What stands between blanks. -/
def wordsL : List By → List (List By)
  | [] => [[]]
  | x :: r => if x = 32#8 then [] :: wordsL r else match wordsL r with | w :: ws => (x :: w) :: ws | [] => [[x]]
def valN (w : List By) : Nat := (w.take 11).foldl (fun n c => 10 * n + c.toNat % 16) 0
/-- The number of a word. -/
def val? (w : List By) : Option Nat := if 0 < w.length ∧ w.length < 11 ∧ valN w ≤ 2147483647 ∧ num (valN w) = w then some (valN w) else none
def vals? : List (List By) → Option (List Nat)
  | [] => some []
  | w :: ws => match val? w with | some n => (match vals? ws with | some l => some (n :: l) | none => none) | none => none
def values? (l word : List By) : Option (List Nat) := match wordsL l with | w :: ws => if w = word then vals? ws else none | [] => none

/-- Which digit of base sixteen? -/
def hv (c : By) : Option Nat := if 48 ≤ c.toNat ∧ c.toNat < 58 then some (c.toNat - 48) else if 97 ≤ c.toNat ∧ c.toNat < 103 then some (c.toNat - 87) else none
def unhex : List By → Option (List By)
  | [] => some []
  | [_] => none
  | a :: b :: r => match hv a, hv b, unhex r with | some x, some y, some l => some (BitVec.ofNat 8 (16 * x + y) :: l) | _, _, _ => none
/-- The cell of a line, and its number. -/
def one? (l : List By) : Option (Nat × List By) :=
  match wordsL l with
  | [w0, w1, w2] => if w0 = wCell ∧ w2.length = 64 then (match val? w1, unhex w2 with | some n, some x => if x = List.replicate 32 255#8 then none else some (n, x) | _, _ => none) else none
  | _ => none

/-- Does a text begin so? -/
def sees (t word : List By) : Bool := decide (t.take word.length = word)
/-- The lines of a page's cells: what is left of the text, how many lines were begun, the last cell's number, the cells; or the line that is wrong. -/
def cellsP (C : Nat) : Nat → List By → Nat → Int → List (List By) → Except Nat (List (List By) × List By × Nat)
  | 0, t, ln, _, g => .ok (g, t, ln)
  | k + 1, t, ln, last, g =>
    if sees t wCell then
      match lineOf t with
      | none => .error (ln + 1)
      | some (l, r) =>
        match one? l with
        | none => .error (ln + 1)
        | some (n, x) => if (n : Int) ≤ last ∨ C ≤ n then .error (ln + 1) else cellsP C k r (ln + 1) n (g.set n x)
    else .ok (g, t, ln)
def pageP (C p : Nat) (t : List By) (ln : Nat) : Except Nat (List (List By) × Nat × List By × Nat) :=
  match lineOf t with
  | none => .error (ln + 1)
  | some (l, r) =>
    match values? l wPage with
    | some [q, e] => if q = p then (match cellsP C r.length r (ln + 1) (-1) (List.replicate C (List.replicate 32 255#8)) with | .ok (g, r2, ln2) => .ok (g, e, r2, ln2) | .error k => .error k) else .error (ln + 1)
    | _ => .error (ln + 1)
def pagesP (C : Nat) : Nat → Nat → List By → Nat → Except Nat (List (List (List By)) × List Int × List By × Nat)
  | 0, _, t, ln => .ok ([], [], t, ln)
  | m + 1, p, t, ln =>
    match pageP C p t ln with
    | .error k => .error k
    | .ok (g, e, r, ln2) => match pagesP C m (p + 1) r ln2 with | .error k => .error k | .ok (gs, es, r2, ln3) => .ok (g :: gs, (e : Int) :: es, r2, ln3)
/-- Numbers of fuses, rising, below n; which are told. -/
def riseB (n : Nat) : List Nat → Int → Bool
  | [], _ => true
  | a :: r, last => decide (last < a) && decide (a < n) && riseB n r a
def marks (n : Nat) (l : List Nat) : List Bool := (List.range n).map fun i => decide (i ∈ l)
def blown? (n : Nat) (l : List By) : Option (List Bool) := match values? l wBlown with | some v => if riseB n v (-1) then some (marks n v) else none | none => none
def cfgOf : List Nat → Option Cfg
  | [a, b, c, d, e, f, g] => some ⟨a, b, c, d, e, f, g⟩
  | _ => none
/-- The chip of a text; or an error's number and the line. -/
def parseL (t : List By) : Except (Int × Nat) (Cfg × St) :=
  match lineOf t with
  | none => .error (5, 1)
  | some (l, r) =>
    match (values? l wChip).bind cfgOf with
    | none => .error (5, 1)
    | some c =>
      if c.may = 0 then
        match lineOf r with
        | none => .error (5, 2)
        | some (l2, r2) =>
          match blown? (c.slots * c.fuses + c.keys).toNat l2 with
          | none => .error (5, 2)
          | some bl =>
            match pagesP c.cells.toNat (2 + 2 * c.area).toNat 0 r2 2 with
            | .error k => .error (5, k)
            | .ok (gs, es, r3, ln) => if r3 = [] then .ok (c, ⟨gs, es, bl⟩) else .error (5, ln + 1)
      else .error (1, 1)
end Go.Proofs.YtgpnbiaghokjkaaDoor
