import Derived.WalkKit
import Derived.Laws.Rows
import Derived.Deep.Draws
import Derived.Deep.MidRow

/-! Plain facts on words of 32 bits: the walk's forms, and the words that they are. -/
namespace Go.Proofs.YtgpnbiaghokjkaaDoor
open Go.RowKit

theorem b8_lt (a : BitVec 8) : a.toNat < 256 := a.isLt
theorem i64_in (n : Int) (h0 : -9223372036854775808 ≤ n) (h1 : n < 9223372036854775808) : IntKind.i64.wrap n = n := by
  simp [IntKind.wrap, IntKind.bits, IntKind.signed]
  split <;> omega

end Go.Proofs.YtgpnbiaghokjkaaDoor


/-! The document's SHA-256 on lists of bytes, and small facts on rows of memory. -/
namespace Go.Proofs.YtgpnbiaghokjkaaDoor
open Go.RowKit

abbrev By := BitVec 8

def B8 (x : By) : Value := .int .u8 (x.toNat : Int)

/-! ### The walk's forms of a round. -/
/-! ### Rows: a block that is known whole. -/
def Row (w : World) (g t : Nat) (cs : List Value) : Prop := w.heap[g]? = some (.cells cs.toArray t (0, 0))

theorem Row.lt {w : World} {g t : Nat} {cs : List Value} (h : Row w g t cs) : g < w.heap.size := by
  unfold Row at h
  by_cases hlt : g < w.heap.size
  · exact hlt
  · rw [Array.getElem?_eq_none (by omega)] at h; cases h
theorem Row.cell {w : World} {g t : Nat} {cs : List Value} (h : Row w g t cs) (j : Nat) (v : Value) (hv : cs[j]? = some v) : w.cell? ⟨g, j, none⟩ = some v := by
  rw [cell_of_row w g j cs.toArray t (0, 0) h]; simpa using hv
theorem Row.frozen {w : World} {g t : Nat} {cs : List Value} (h : Row w g t cs) (j : Nat) : w.frozen? ⟨g, j, none⟩ = false := frozen_of_row w g j cs.toArray t h
theorem Row.new (w : World) (t : Nat) (cs : List Value) : Row (w.alloc (.cells cs.toArray t)) w.heap.size t cs := heap_alloc_new w _
theorem Row.at (w : World) (t : Nat) (cs : List Value) (C : Array Value) (g : Nat) (hg : g = w.heap.size) (hC : C = cs.toArray) : Row (w.alloc (.cells C t)) g t cs := by
  subst hg; subst hC; exact Row.new w t cs
theorem Row.alloc {w : World} {g t : Nat} {cs : List Value} (h : Row w g t cs) (o : Obj) : Row (w.alloc o) g t cs := (Below.heap_alloc w o g h.lt).trans h
theorem Row.set {w : World} {g t : Nat} {cs : List Value} (h : Row w g t cs) (i : Nat) (v : Value) : Row (w.setCell ⟨g, i, none⟩ v) g t (cs.set i v) := by
  have := heap_setCell_same w g i cs.toArray t v h
  unfold Row; rw [this]; simp
theorem Row.below {w w' : World} {g t B : Nat} {cs : List Value} (h : Row w g t cs) (hb : Below B w w') (hg : g < B) : Row w' g t cs := (hb.block g hg).trans h
theorem Below_drewN {B : Nat} {a w : World} (h : Below B a w) (n : Nat) : Below B a (w.drewN n) := ⟨h.os, h.tape, h.output, h.size, h.block⟩

end Go.Proofs.YtgpnbiaghokjkaaDoor


/-! Whole arrays loaded and stored; what a store into one block leaves of the others. -/
namespace Go.Proofs.YtgpnbiaghokjkaaDoor
open Go.RowKit

/-- All but block g is as it was. -/
structure SameBut (g : Nat) (w w' : World) : Prop where
  os : w'.os = w.os
  tape : w'.tape = w.tape
  output : w'.output = w.output
  size : w'.heap.size = w.heap.size
  block : ∀ k, k ≠ g → w'.heap[k]? = w.heap[k]?

theorem SameBut.refl (g : Nat) (w : World) : SameBut g w w := ⟨rfl, rfl, rfl, rfl, fun _ _ => rfl⟩
theorem SameBut.trans {g : Nat} {a b c : World} (h : SameBut g a b) (k : SameBut g b c) : SameBut g a c :=
  ⟨k.os.trans h.os, k.tape.trans h.tape, k.output.trans h.output, k.size.trans h.size, fun i hi => (k.block i hi).trans (h.block i hi)⟩
theorem SameBut.setCell (g i : Nat) (v : Value) (w : World) : SameBut g w (w.setCell ⟨g, i, none⟩ v) :=
  ⟨rfl, rfl, rfl, by simp [World.setCell], fun k hk => heap_setCell_other w _ k v hk⟩
theorem SameBut.setCells (g : Nat) : ∀ (vs : List Value) (o : Nat) (w : World), SameBut g w (w.setCells g o vs)
  | [], _, w => SameBut.refl g w
  | v :: r, o, w => (SameBut.setCell g o v w).trans (SameBut.setCells g r (o + 1) _)
theorem SameBut.below {g B : Nat} {a w w' : World} (h : SameBut g w w') (hb : Below B a w) (hg : B ≤ g) : Below B a w' :=
  hb.trans ⟨h.os, h.tape, h.output, Nat.le_of_eq h.size.symm, fun k hk => h.block k (by omega)⟩
theorem Row.but {g g' t : Nat} {cs : List Value} {w w' : World} (h : Row w g t cs) (hs : SameBut g' w w') (hne : g ≠ g') : Row w' g t cs := (hs.block g hne).trans h

theorem Row.setCells {t g : Nat} : ∀ (vs : List Value) (o : Nat) (w : World) (cs : List Value), Row w g t cs → o + vs.length ≤ cs.length →
    Row (w.setCells g o vs) g t (cs.take o ++ vs ++ cs.drop (o + vs.length))
  | [], o, w, cs, h, _ => by simpa [World.setCells] using h
  | v :: r, o, w, cs, h, hl => by
    simp at hl
    have h1 := Row.setCells r (o + 1) (w.setCell ⟨g, o, none⟩ v) (cs.set o v) (h.set o v) (by simp; omega)
    rw [World.setCells]
    have e : cs.take o ++ (v :: r) ++ cs.drop (o + (v :: r).length) = (cs.set o v).take (o + 1) ++ r ++ (cs.set o v).drop (o + 1 + r.length) := by
      have e1 : (cs.set o v).take (o + 1) = cs.take o ++ [v] := by
        rw [List.take_set, List.take_add_one]
        have : cs[o]? = some cs[o] := List.getElem?_eq_getElem (by omega)
        rw [this]
        rw [List.set_append_right _ _ (by simp; omega)]
        simp
        rw [show o - min o cs.length = 0 by omega]; rfl
      have e2 : (cs.set o v).drop (o + 1 + r.length) = cs.drop (o + (v :: r).length) := by
        rw [List.drop_set_of_lt (by omega)]
        simp; congr 1; omega
      rw [e1, e2]; simp
    rw [e]; exact h1

theorem B8_one (l : List By) : ∀ v ∈ l.map B8, v.oneCell' = true := by
  intro v hv; simp at hv; obtain ⟨x, _, rfl⟩ := hv; rfl

/-- Some draws later. -/
def Dr (w w' : World) : Prop := ∃ n, w' = w.drewN n
theorem Dr.refl (w : World) : Dr w w := ⟨0, rfl⟩
theorem Dr.drewN {w w' : World} (h : Dr w w') (m : Nat) : Dr w (w'.drewN m) := by
  obtain ⟨n, rfl⟩ := h; exact ⟨n + m, by rw [World.drewN_drewN]⟩
theorem Dr.trans {a b c : World} (h : Dr a b) (k : Dr b c) : Dr a c := by
  obtain ⟨m, rfl⟩ := k; exact h.drewN m
theorem Row.dr {w w' : World} {g t : Nat} {cs : List Value} (h : Row w g t cs) (d : Dr w w') : Row w' g t cs := by
  obtain ⟨n, rfl⟩ := d; exact h
theorem Below_dr {B : Nat} {a w w' : World} (h : Below B a w) (d : Dr w w') : Below B a w' := by
  obtain ⟨n, rfl⟩ := d; exact Below_drewN h n

variable {P : Program}

/-- A whole array (or a part of a block that is one) loaded. -/
theorem Row.range {w : World} {g t : Nat} {cs : List Value} (h : Row w g t cs) (o n : Nat) : w.rangeAt g o ((cs.drop o).take n) := by
  intro j v hv
  refine h.cell (o + j) v ?_
  rw [List.getElem?_take] at hv
  split at hv
  · rw [List.getElem?_drop] at hv; exact hv
  · cases hv

theorem wpList_load_Row {ops : Array Oper} {rest : List Oper} {op : Oper} {a : Act} {w : World} {Q : Exit → Act → World → Prop} (hgd : op.guard = none) (ty : TypeId) (x : Operand) (ho : op.op = .load ty x)
    (g t : Nat) (cs : List Value) (hr : Row w g t cs) (hx : a.eval x = .pointer (some ⟨g, 0, none⟩)) (d : TypeDesc)
    (hu : P.underlying ty = some d) (hd : d.isRow = true) (hi : (P.info? ty).map (·.size) = some cs.length)
    (h : wpList P ops Q rest (a.put op.dst (.agg cs.toArray)) w) : wpList P ops Q (op :: rest) a w :=
  wpList_load_mid hgd ty x ho g 0 hx cs d (by have := hr.range 0 cs.length; simpa using this) hu hd hi h

theorem wpList_store_Row {ops : Array Oper} {rest : List Oper} {op : Oper} {a : Act} {w : World} {Q : Exit → Act → World → Prop} (hgd : op.guard = none) (ty : TypeId) (x y : Operand) (ho : op.op = .store ty x y)
    (g t o : Nat) (old new : List Value) (hr : Row w g t old) (hl : o + new.length ≤ old.length) (hx : a.eval x = .pointer (some ⟨g, o, none⟩)) (hy : a.eval y = .agg new.toArray)
    (hi : (P.info? ty).map (·.size) = some new.length) (h1 : ∀ v ∈ new, v.oneCell' = true)
    (h : ∀ w', Row w' g t (old.take o ++ new ++ old.drop (o + new.length)) → SameBut g w w' → wpList P ops Q rest (a.put op.dst undef) w') : wpList P ops Q (op :: rest) a w := by
  refine wpList_store_mid hgd ty x y ho g o new.toArray hx hy ?_ (by simpa using hi) (all_oneCell_toArray h1) (h _ ?_ ?_)
  · intro j hj
    refine ⟨?_, hr.frozen _⟩
    have hj' : o + j < old.length := by simp at hj; omega
    rw [hr.cell (o + j) old[o + j] (List.getElem?_eq_getElem hj')]; rfl
  · exact Row.setCells new o w old hr hl
  · exact SameBut.setCells g new o w

/-- The result that lies in a block of its own. -/
theorem results_Row {fn : Func} {p : Tmp} {ty : TypeId} (h : fn.results = #[.cell p ty]) (tmps : Array Value) (w : World) (g t : Nat) (cs : List Value) (d : TypeDesc)
    (hp : tmps.getD p undef = .pointer (some ⟨g, 0, none⟩)) (hr : Row w g t cs)
    (hu : P.underlying ty = some d) (hd : (match d with | .struct _ | .array _ _ => true | _ => false) = true) (hi : (P.info? ty).map (·.size) = some cs.length) :
    (results fn tmps).run P w = .ok (.agg cs.toArray) w :=
  results_cell_row h tmps w g t cs.toArray (0, 0) d hp hr hu hd (by simpa using hi)

end Go.Proofs.YtgpnbiaghokjkaaDoor
