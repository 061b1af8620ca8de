
import Derived.Test.YtngfdofjflmhhaaR4May
import Derived.DeepKeys
import Derived.StillTactics
/-! What a chip holds, read; the reference's SameState. -/
namespace Go.Proofs.Ytngfdofjflmhhaa
open Go.RowKit

/-- Values that lie in a row, one a cell. -/
def IsL (w : World) (ao : Option Addr) (vs : List Value) : Prop := vs = [] ∨ ∃ B off, ao = some ⟨B, off, none⟩ ∧ ∀ j v, vs[j]? = some v → w.cell? ⟨B, off + j, none⟩ = some v
theorem IsL.below {w w' : World} {ao : Option Addr} {vs : List Value} {N : Nat} (h : IsL w ao vs) (hb : Below N w w') (hN : w.heap.size ≤ N) : IsL w' ao vs := by
  rcases h with h | ⟨B, off, rfl, hc⟩
  · exact .inl h
  · refine .inr ⟨B, off, rfl, fun j v hj => ?_⟩
    have h1 := hc j v hj
    rw [hb.cell (p := ⟨B, off + j, none⟩) (by have := block_lt_of_cell h1; simp at this ⊢; omega)]
    exact h1
theorem IsL.dr {w w' : World} {ao : Option Addr} {vs : List Value} (h : IsL w ao vs) (d : Dr w w') : IsL w' ao vs := by
  rcases h with h | ⟨B, off, rfl, hc⟩
  · exact .inl h
  · exact .inr ⟨B, off, rfl, fun j v hj => d.cell (hc j v hj)⟩
theorem IsL.cell {w : World} {ao : Option Addr} {vs : List Value} (h : IsL w ao vs) (j : Nat) (v : Value) (hv : vs[j]? = some v) : ∃ B off, ao = some ⟨B, off, none⟩ ∧ w.cell? ⟨B, off + j, none⟩ = some v := by
  rcases h with rfl | ⟨B, off, rfl, hc⟩
  · simp at hv
  · exact ⟨B, off, rfl, hc j v hv⟩
theorem IsL.range {w : World} {ao : Option Addr} {vs : List Value} (h : IsL w ao vs) (o n : Nat) (hn : 0 < n) (ho : o + n ≤ vs.length) : ∃ B off, ao = some ⟨B, off, none⟩ ∧ w.rangeAt B (off + o) ((vs.drop o).take n) := by
  rcases h with rfl | ⟨B, off, rfl, hc⟩
  · simp at ho; omega
  · refine ⟨B, off, rfl, fun j v hv => ?_⟩
    rw [List.getElem?_take] at hv
    split at hv
    · rw [List.getElem?_drop] at hv
      have := hc (o + j) v hv
      rwa [← Nat.add_assoc] at this
    · cases hv

/-- What a chip holds. -/
structure St where
  pages : List (List (List By))
  erases : List Int
  blown : List Bool
def RS.st (s : RS) : St := ⟨s.pages, s.erases, s.blown⟩

/-- The three slices of an api.Chip. -/
structure SV where
  po : Option Addr
  pc : Nat
  eo : Option Addr
  ec : Nat
  bo : Option Addr
  bc : Nat
def SV.vals (v : SV) (t : St) : List Value := [.slice v.po t.pages.length v.pc, .slice v.eo t.erases.length v.ec, .slice v.bo t.blown.length v.bc]
structure StV (w : World) (v : SV) (t : St) : Prop where
  pg : ∃ pvs : List (Option Addr × Nat), pvs.length = t.pages.length ∧ IsL w v.po (List.zipWith (fun q p => Value.slice q.1 (List.length p) q.2) pvs t.pages) ∧ ∀ (i : Nat) (q : Option Addr × Nat) (p : List (List By)), pvs[i]? = some q → t.pages[i]? = some p → IsL w q.1 (p.flatten.map B8)
  er : IsL w v.eo (t.erases.map (Value.int .i64))
  bl : IsL w v.bo (t.blown.map Value.bool)
  by8 : ∀ p ∈ t.pages, ∀ x ∈ p, x.length = 32
theorem StV.below {w w' : World} {v : SV} {t : St} {N : Nat} (h : StV w v t) (hb : Below N w w') (hN : w.heap.size ≤ N) : StV w' v t := by
  obtain ⟨pvs, h1, h2, h3⟩ := h.pg
  exact ⟨⟨pvs, h1, h2.below hb hN, fun i q p hq hp => (h3 i q p hq hp).below hb hN⟩, h.er.below hb hN, h.bl.below hb hN, h.by8⟩
theorem StV.dr {w w' : World} {v : SV} {t : St} (h : StV w v t) (d : Dr w w') : StV w' v t := by
  obtain ⟨pvs, h1, h2, h3⟩ := h.pg
  exact ⟨⟨pvs, h1, h2.dr d, fun i q p hq hp => (h3 i q p hq hp).dr d⟩, h.er.dr d, h.bl.dr d, h.by8⟩
theorem StV.page {w : World} {v : SV} {t : St} (h : StV w v t) (p : Nat) (hp : p < t.pages.length) : ∃ B off qo qc, v.po = some ⟨B, off, none⟩ ∧ w.cell? ⟨B, off + p, none⟩ = some (.slice qo (t.pages.getD p []).length qc) ∧ IsL w qo ((t.pages.getD p []).flatten.map B8) ∧ ∀ x ∈ t.pages.getD p [], x.length = 32 := by
  obtain ⟨pvs, h1, h2, h3⟩ := h.pg
  have hq : pvs[p]? = some (pvs[p]'(by omega)) := List.getElem?_eq_getElem _
  have hpp : t.pages[p]? = some t.pages[p] := List.getElem?_eq_getElem hp
  have hd : t.pages.getD p [] = t.pages[p] := by rw [List.getD_eq_getElem?_getD, hpp]; rfl
  obtain ⟨B, off, e1, e2⟩ := h2.cell p _ (by rw [List.getElem?_zipWith, hq, hpp])
  rw [hd]
  exact ⟨B, off, _, _, e1, e2, h3 p _ _ hq hpp, h.by8 _ (List.getElem_mem hp)⟩

theorem mapM_some {α β : Type} {f : α → Option β} (g : α → β) : ∀ (l : List α), (∀ x ∈ l, f x = some (g x)) → l.mapM f = some (l.map g)
  | [], _ => rfl
  | x :: l, h => by
    rw [List.mapM_cons, h x (by simp), mapM_some g l (fun y hy => h y (by simp [hy]))]
    rfl
theorem Try.cellsCell : Try.prog.cellsOf 72 = 32 := by kernel_rfl
theorem Try.cellsU8 : Try.prog.cellsOf 5 = 1 := by kernel_rfl
def keyOf (bs : List By) : List Lit := ((List.range 32).map fun i => [Lit.int .u8 ((bs.getD i 0).toNat : Int)]).flatten
theorem cell_key (bs : List By) (hl : bs.length = 32) : Try.prog.keyLits 2 72 (bs.map B8) = some (keyOf bs) := by
  have hu : Try.prog.underlying 72 = some (.array 32 5) := Try.underlying72
  unfold Program.keyLits
  simp only [hu]
  rw [if_pos (by rw [Try.cellsCell, List.length_map, hl])]
  rw [mapM_some (fun i => [Lit.int .u8 ((bs.getD i 0).toNat : Int)])]
  · rfl
  · intro i hi
    rw [List.mem_range] at hi
    have e : ((bs.map B8).drop (i * Try.prog.cellsOf 5)).take (Try.prog.cellsOf 5) = [.int .u8 ((bs.getD i 0).toNat : Int)] := by
      rw [Try.cellsU8, Nat.mul_one, List.drop_eq_getElem_cons (by rw [List.length_map, hl]; exact hi)]
      simp [B8, hl, hi]
    rw [e]
    unfold Program.keyLits
    have h8 := b8_lt (bs.getD i 0)
    simp only [Try.underlying5]
    rw [if_pos ⟨trivial, WalkArith.wf_u8 (by omega)⟩]
theorem flat_one {α : Type} : ∀ l : List α, (l.map fun x => [x]).flatten = l
  | [] => rfl
  | x :: l => by rw [List.map_cons, List.flatten_cons, flat_one l]; rfl
theorem eq_cell (x y : List By) (hx : x.length = 32) (hy : y.length = 32) (w : World) : (Op.equalIn 10000 72 (.agg (x.map B8).toArray) (.agg (y.map B8).toArray)).run Try.prog w = .ok (decide (x = y)) w := by
  have hf : ∀ z : List By, z.length = 32 → (Value.agg (z.map B8).toArray).formed Try.prog 72 = true := fun z hz => by
    simp [Value.formed, Try.underlying72, Try.cellsCell, hz]
  have kz : ∀ z : List By, z.length = 32 → Try.prog.keyLits 2 72 (Value.agg (z.map B8).toArray).cells.toList = some (keyOf z) := fun z hz => by
    have e : (Value.agg (z.map B8).toArray).cells.toList = z.map B8 := by simp [Value.cells]
    rw [e]; exact cell_key z hz
  obtain ⟨r, hr, hiff⟩ := run_equalIn_deep (P := Try.prog) 9998 2 72 (by kernel_rfl) w 2 2 _ _ _ _ (hf x hx) (hf y hy) (kz x hx) (kz y hy)
  rw [hr]
  have : r = decide (x = y) := by
    by_cases hxy : x = y
    · rw [decide_eq_true hxy]
      refine hiff.2 ?_
      subst hxy; rfl
    · rw [decide_eq_false hxy]
      cases hb : r with
      | false => rfl
      | true =>
        exfalso
        have he := hiff.1 hb
        have f1 : ∀ z : List By, keyOf z = (List.range 32).map fun i => Lit.int .u8 ((z.getD i 0).toNat : Int) := fun z => by
          have := flat_one ((List.range 32).map fun i => Lit.int .u8 ((z.getD i 0).toNat : Int))
          rw [List.map_map] at this
          exact this
        rw [f1, f1] at he
        apply hxy
        apply List.ext_getElem (by omega)
        intro i hi hi'
        have h1 := congrArg (fun l => l[i]?) he
        simp only [List.getElem?_map, List.getElem?_range (show i < 32 by omega), Option.map_some, Option.some.injEq, Lit.int.injEq, true_and] at h1
        have h2 : (x.getD i 0).toNat = (y.getD i 0).toNat := by omega
        have h3 := BitVec.eq_of_toNat_eq h2
        simpa [List.getD_eq_getElem?_getD, hi, hi'] using h3
  rw [this]
end Go.Proofs.Ytngfdofjflmhhaa
