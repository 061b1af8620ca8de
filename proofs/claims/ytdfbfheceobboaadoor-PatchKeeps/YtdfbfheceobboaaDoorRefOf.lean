import Derived.Test.YtdfbfheceobboaaDoorMath
import Derived.Deep.MidRow
import Derived.Test.YtdfbfheceobboaaDoorRows
import Derived.WalkKit
import Derived.WalkSpells
import Derived.WalkLawsBesides
import Derived.Deep.QuietTactic
import Derived.BigQuiet
import Derived.Deep.RegionHeld3
import Derived.Deep.DeepCutAuto
import Derived.Deep.AppendLies
import Derived.Laws.AppendOwnNone
import Derived.StillTailTactics

/-! Whole arrays loaded and stored; what a store into one block leaves of the others. -/
namespace Go.Proofs.YtdfbfheceobboaaDoor
open Go.RowKit

/-- All but block g is as it was. -/
structure SameBut (g : Nat) (w w' : World) : Prop where
  os : w'.os = w.os
  tape : w'.tape = w.tape
  output : w'.output = w.output
  size : w'.heap.size = w.heap.size
  block : ∀ k, k ≠ g → w'.heap[k]? = w.heap[k]?

theorem SameBut.refl (g : Nat) (w : World) : SameBut g w w := ⟨rfl, rfl, rfl, rfl, fun _ _ => rfl⟩
theorem SameBut.trans {g : Nat} {a b c : World} (h : SameBut g a b) (k : SameBut g b c) : SameBut g a c :=
  ⟨k.os.trans h.os, k.tape.trans h.tape, k.output.trans h.output, k.size.trans h.size, fun i hi => (k.block i hi).trans (h.block i hi)⟩
theorem SameBut.setCell (g i : Nat) (v : Value) (w : World) : SameBut g w (w.setCell ⟨g, i, none⟩ v) :=
  ⟨rfl, rfl, rfl, by simp [World.setCell], fun k hk => heap_setCell_other w _ k v hk⟩
theorem SameBut.setCells (g : Nat) : ∀ (vs : List Value) (o : Nat) (w : World), SameBut g w (w.setCells g o vs)
  | [], _, w => SameBut.refl g w
  | v :: r, o, w => (SameBut.setCell g o v w).trans (SameBut.setCells g r (o + 1) _)
theorem SameBut.below {g B : Nat} {a w w' : World} (h : SameBut g w w') (hb : Below B a w) (hg : B ≤ g) : Below B a w' :=
  hb.trans ⟨h.os, h.tape, h.output, Nat.le_of_eq h.size.symm, fun k hk => h.block k (by omega)⟩
theorem Row.but {g g' t : Nat} {cs : List Value} {w w' : World} (h : Row w g t cs) (hs : SameBut g' w w') (hne : g ≠ g') : Row w' g t cs := (hs.block g hne).trans h

theorem Row.setCells {t g : Nat} : ∀ (vs : List Value) (o : Nat) (w : World) (cs : List Value), Row w g t cs → o + vs.length ≤ cs.length →
    Row (w.setCells g o vs) g t (cs.take o ++ vs ++ cs.drop (o + vs.length))
  | [], o, w, cs, h, _ => by simpa [World.setCells] using h
  | v :: r, o, w, cs, h, hl => by
    simp at hl
    have h1 := Row.setCells r (o + 1) (w.setCell ⟨g, o, none⟩ v) (cs.set o v) (h.set o v) (by simp; omega)
    rw [World.setCells]
    have e : cs.take o ++ (v :: r) ++ cs.drop (o + (v :: r).length) = (cs.set o v).take (o + 1) ++ r ++ (cs.set o v).drop (o + 1 + r.length) := by
      have e1 : (cs.set o v).take (o + 1) = cs.take o ++ [v] := by
        rw [List.take_set, List.take_add_one]
        have : cs[o]? = some cs[o] := List.getElem?_eq_getElem (by omega)
        rw [this]
        rw [List.set_append_right _ _ (by simp; omega)]
        simp
        rw [show o - min o cs.length = 0 by omega]; rfl
      have e2 : (cs.set o v).drop (o + 1 + r.length) = cs.drop (o + (v :: r).length) := by
        rw [List.drop_set_of_lt (by omega)]
        simp; congr 1; omega
      rw [e1, e2]; simp
    rw [e]; exact h1

theorem U_one (l : List Wd) : ∀ v ∈ l.map U, v.oneCell' = true := by
  intro v hv; simp at hv; obtain ⟨x, _, rfl⟩ := hv; rfl
theorem B8_one (l : List By) : ∀ v ∈ l.map B8, v.oneCell' = true := by
  intro v hv; simp at hv; obtain ⟨x, _, rfl⟩ := hv; rfl

/-- Some draws later. -/
def Dr (w w' : World) : Prop := ∃ n, w' = w.drewN n
theorem Dr.refl (w : World) : Dr w w := ⟨0, rfl⟩
theorem Dr.drewN {w w' : World} (h : Dr w w') (m : Nat) : Dr w (w'.drewN m) := by
  obtain ⟨n, rfl⟩ := h; exact ⟨n + m, by rw [World.drewN_drewN]⟩
theorem Row.dr {w w' : World} {g t : Nat} {cs : List Value} (h : Row w g t cs) (d : Dr w w') : Row w' g t cs := by
  obtain ⟨n, rfl⟩ := d; exact h
theorem Below_dr {B : Nat} {a w w' : World} (h : Below B a w) (d : Dr w w') : Below B a w' := by
  obtain ⟨n, rfl⟩ := d; exact Below_drewN h n

variable {P : Program}

/-- A whole array (or a part of a block that is one) loaded. -/
theorem Row.range {w : World} {g t : Nat} {cs : List Value} (h : Row w g t cs) (o n : Nat) : w.rangeAt g o ((cs.drop o).take n) := by
  intro j v hv
  refine h.cell (o + j) v ?_
  rw [List.getElem?_take] at hv
  split at hv
  · rw [List.getElem?_drop] at hv; exact hv
  · cases hv

theorem wpList_load_Row {ops : Array Oper} {rest : List Oper} {op : Oper} {a : Act} {w : World} {Q : Exit → Act → World → Prop} (hgd : op.guard = none) (ty : TypeId) (x : Operand) (ho : op.op = .load ty x)
    (g t : Nat) (cs : List Value) (hr : Row w g t cs) (hx : a.eval x = .pointer (some ⟨g, 0, none⟩)) (d : TypeDesc)
    (hu : P.underlying ty = some d) (hd : d.isRow = true) (hi : (P.info? ty).map (·.size) = some cs.length)
    (h : wpList P ops Q rest (a.put op.dst (.agg cs.toArray)) w) : wpList P ops Q (op :: rest) a w :=
  wpList_load_mid hgd ty x ho g 0 hx cs d (by have := hr.range 0 cs.length; simpa using this) hu hd hi h

theorem wpList_store_Row {ops : Array Oper} {rest : List Oper} {op : Oper} {a : Act} {w : World} {Q : Exit → Act → World → Prop} (hgd : op.guard = none) (ty : TypeId) (x y : Operand) (ho : op.op = .store ty x y)
    (g t o : Nat) (old new : List Value) (hr : Row w g t old) (hl : o + new.length ≤ old.length) (hx : a.eval x = .pointer (some ⟨g, o, none⟩)) (hy : a.eval y = .agg new.toArray)
    (hi : (P.info? ty).map (·.size) = some new.length) (h1 : ∀ v ∈ new, v.oneCell' = true)
    (h : ∀ w', Row w' g t (old.take o ++ new ++ old.drop (o + new.length)) → SameBut g w w' → wpList P ops Q rest (a.put op.dst undef) w') : wpList P ops Q (op :: rest) a w := by
  refine wpList_store_mid hgd ty x y ho g o new.toArray hx hy ?_ (by simpa using hi) (all_oneCell_toArray h1) (h _ ?_ ?_)
  · intro j hj
    refine ⟨?_, hr.frozen _⟩
    have hj' : o + j < old.length := by simp at hj; omega
    rw [hr.cell (o + j) old[o + j] (List.getElem?_eq_getElem hj')]; rfl
  · exact Row.setCells new o w old hr hl
  · exact SameBut.setCells g new o w

/-- The result that lies in a block of its own. -/
theorem results_Row {fn : Func} {p : Tmp} {ty : TypeId} (h : fn.results = #[.cell p ty]) (tmps : Array Value) (w : World) (g t : Nat) (cs : List Value) (d : TypeDesc)
    (hp : tmps.getD p undef = .pointer (some ⟨g, 0, none⟩)) (hr : Row w g t cs)
    (hu : P.underlying ty = some d) (hd : (match d with | .struct _ | .array _ _ => true | _ => false) = true) (hi : (P.info? ty).map (·.size) = some cs.length) :
    (results fn tmps).run P w = .ok (.agg cs.toArray) w :=
  results_cell_row h tmps w g t cs.toArray (0, 0) d hp hr hu hd (by simpa using hi)

end Go.Proofs.YtdfbfheceobboaaDoor


namespace Go.Proofs.YtdfbfheceobboaaDoor
open Go.RowKit

set_option maxHeartbeats 400000 in
theorem rotl_any (x : BitVec 32) (n : Nat) (h1 : 1 ≤ n) (h2 : n ≤ 31) (w : World) :
    Calls Tryd.prog 60 #[.int .u32 (x.toNat : Int), .int .i64 (-(n : Int))] w fun e w' => e = .returned (.int .u32 ((rr x n).toNat : Int)) ∧ w' = w := by
  have hb := and31 n h1 h2
  go_enter Tryd.func60, Tryd.ntmps60
  go_wp2
  go_ret
  exact ⟨ret_int (rr_of' x n h1 h2), rfl⟩

set_option maxHeartbeats 400000 in
theorem turn_any (x : BitVec 32) (n : Nat) (h1 : 1 ≤ n) (h2 : n ≤ 31) (w : World) :
    Calls Tryd.prog 47 #[.int .u32 (x.toNat : Int), .int .i64 (n : Int)] w fun e w' => e = .returned (.int .u32 ((rr x n).toNat : Int)) ∧ w' = w := by
  go_enter Tryd.func47, Tryd.ntmps47
  go_wp2_with (go_at_call 60; refine (rotl_any x n h1 h2 _).mono ?_; rintro e w' ⟨rfl, rfl⟩)
  go_ret
  exact ⟨rfl, rfl⟩

theorem turn_at (x : Wd) (n : Int) (w : World) (h1 : 1 ≤ n) (h2 : n ≤ 31) :
    Calls Tryd.prog 47 #[.int .u32 (x.toNat : Int), .int .i64 n] w fun e w' => e = .returned (.int .u32 ((rr x n.toNat).toNat : Int)) ∧ w' = w := by
  obtain ⟨m, rfl⟩ := Int.eq_ofNat_of_zero_le (show 0 ≤ n by omega)
  simpa using turn_any x m (by omega) (by omega) w
set_option maxHeartbeats 400000 in
theorem wordAt_any (a b c d : By) (B off len cap : Nat) (w : World) (hl : 4 ≤ len)
   (h0 : w.cell? ⟨B, off, none⟩ = some (.int .u8 (a.toNat : Int))) (h1 : w.cell? ⟨B, off + 1, none⟩ = some (.int .u8 (b.toNat : Int)))
   (h2 : w.cell? ⟨B, off + 2, none⟩ = some (.int .u8 (c.toNat : Int))) (h3 : w.cell? ⟨B, off + 3, none⟩ = some (.int .u8 (d.toNat : Int))) :
    Calls Tryd.prog 59 #[.slice (some ⟨B, off, none⟩) len cap] w fun e w' => e = .returned (.int .u32 ((word4 a b c d).toNat : Int)) ∧ ∃ m, w' = w.drewN m := by
  have a1 : (0 : Int) < (len : Int) := by omega
  have a2 : (1 : Int) < (len : Int) := by omega
  have a3 : (2 : Int) < (len : Int) := by omega
  have a4 : (3 : Int) < (len : Int) := by omega
  have b1 : (a.toNat : Int) < 256 := by have := a.isLt; omega
  have b2 : (b.toNat : Int) < 256 := by have := b.isLt; omega
  have b3 : (c.toNat : Int) < 256 := by have := c.isLt; omega
  have b4 : (d.toNat : Int) < 256 := by have := d.isLt; omega
  go_enter Tryd.func59, Tryd.ntmps59
  go_wp2
  go_quiet (fail)
  go_wp2
  go_ret
  exact ⟨ret_int (word_form a b c d), _, rfl⟩

/-- The four stores of a word, the highest byte first. -/
def put4 (w : World) (B off : Nat) (x : Wd) : World :=
  ((((w.setCell ⟨B, off, none⟩ (B8 ((x >>> 24).setWidth 8))).setCell ⟨B, off + 1, none⟩ (B8 ((x >>> 16).setWidth 8))).setCell ⟨B, off + 2, none⟩ (B8 ((x >>> 8).setWidth 8))).setCell ⟨B, off + 3, none⟩ (B8 (x.setWidth 8)))

set_option maxHeartbeats 400000 in
theorem putWord_any (x : Wd) (B off len cap : Nat) (w : World) (hl : 4 ≤ len) (ht : w.there B off 4) :
    Calls Tryd.prog 38 #[.slice (some ⟨B, off, none⟩) len cap, .int .u32 (x.toNat : Int)] w fun e w' => e = .returned (.tuple #[]) ∧ w' = put4 w B off x := by
  have a1 : (0 : Int) < (len : Int) := by omega
  have a2 : (1 : Int) < (len : Int) := by omega
  have a3 : (2 : Int) < (len : Int) := by omega
  have a4 : (3 : Int) < (len : Int) := by omega
  obtain ⟨v0, h0⟩ := Option.isSome_iff_exists.1 (ht 0 (by omega)).1
  obtain ⟨v1, h1⟩ := Option.isSome_iff_exists.1 (ht 1 (by omega)).1
  obtain ⟨v2, h2⟩ := Option.isSome_iff_exists.1 (ht 2 (by omega)).1
  obtain ⟨v3, h3⟩ := Option.isSome_iff_exists.1 (ht 3 (by omega)).1
  have f0 := (ht 0 (by omega)).2
  have f1 := (ht 1 (by omega)).2
  have f2 := (ht 2 (by omega)).2
  have f3 := (ht 3 (by omega)).2
  rw [Nat.add_zero] at h0 f0
  have e1 : B8 ((x >>> 24).setWidth 8) = .int .u8 ((x.toNat : Int) / 16777216) := by
    have := byte_of x 24; simp only [Int.reducePow] at this
    unfold B8; rw [← this]; congr 1; have := x.isLt; omega
  have e2 : B8 ((x >>> 16).setWidth 8) = .int .u8 ((x.toNat : Int) / 65536 % 256) := by
    have := byte_of x 16; simp only [Int.reducePow] at this
    unfold B8; rw [← this]
  have e3 : B8 ((x >>> 8).setWidth 8) = .int .u8 ((x.toNat : Int) / 256 % 256) := by
    have := byte_of x 8; simp only [Int.reducePow] at this
    unfold B8; rw [← this]
  have e4 : B8 (x.setWidth 8) = .int .u8 ((x.toNat : Int) % 256) := by
    unfold B8; rw [BitVec.toNat_setWidth]; congr 1
  have e : put4 w B off x = ((((w.setCell ⟨B, off, none⟩ (.int .u8 ((x.toNat : Int) / 16777216))).setCell ⟨B, off + 1, none⟩ (.int .u8 ((x.toNat : Int) / 65536 % 256))).setCell ⟨B, off + 2, none⟩ (.int .u8 ((x.toNat : Int) / 256 % 256))).setCell ⟨B, off + 3, none⟩ (.int .u8 ((x.toNat : Int) % 256))) := by
    unfold put4; rw [e1, e2, e3, e4]
  rw [e]
  clear ht e e1 e2 e3 e4
  go_enter Tryd.func38, Tryd.ntmps38
  go_wp2
  go_end0
  exact ⟨rfl, rfl⟩

end Go.Proofs.YtdfbfheceobboaaDoor


namespace Go.Proofs.YtdfbfheceobboaaDoor
open Go.RowKit

end Go.Proofs.YtdfbfheceobboaaDoor


namespace Go.Proofs.YtdfbfheceobboaaDoor
open Go.RowKit

set_option maxHeartbeats 400000 in
set_option maxRecDepth 100000 in
theorem firstState_any (w : World) : Calls Tryd.prog 33 #[] w fun e w' => e = .returned (.agg (init8.list.map U).toArray) ∧ Below w.heap.size w w' := by
  go_enter Tryd.func33, Tryd.ntmps33
  go_wp2_with (refine wpList_store_Row rfl 87 _ _ rfl w.heap.size 87 0 ((List.replicate 8 (0 : Wd)).map U) (init8.list.map U) (Row.at _ _ _ _ _ rfl rfl) (by simp [S8.list]) rfl rfl (by kernel_rfl) (U_one _) ?_; intro w1 hr hs)
  exact bodyPost_ret_by (results_Row Tryd.results33 _ w1 w.heap.size 87 _ _ rfl (by simpa [S8.list] using hr) Tryd.underlying87 rfl (by kernel_rfl)) rfl ⟨rfl, hs.below ((Below.refl _ _).alloc (Nat.le_refl _) _) (Nat.le_refl _)⟩

theorem row64 {w : World} {g : Nat} {l : List Wd} (hl : l.length = 64) (h : Row w g 93 (((List.replicate 64 (0 : Wd)).map U).take 0 ++ l.map U ++ ((List.replicate 64 (0 : Wd)).map U).drop (0 + (l.map U).length))) : Row w g 93 (l.map U) := by
  rw [List.take_zero, List.nil_append, List.drop_eq_nil_of_le (by simp [hl]), List.append_nil] at h
  exact h

set_option maxHeartbeats 400000 in
set_option maxRecDepth 100000 in
theorem roundWords_any (w : World) : Calls Tryd.prog 34 #[] w fun e w' => e = .returned (.agg (Kt.map U).toArray) ∧ Below w.heap.size w w' := by
  go_enter Tryd.func34, Tryd.ntmps34
  go_wp2_with (refine wpList_store_Row rfl 93 _ _ rfl w.heap.size 93 0 ((List.replicate 64 (0 : Wd)).map U) (Kt.map U) (Row.at _ _ _ _ _ rfl rfl) (by rw [List.length_map, Kt_len, List.length_map, List.length_replicate]; decide) rfl rfl (by kernel_rfl) (U_one _) ?_; intro w1 hr0 hs; have hr := row64 Kt_len hr0; clear hr0)
  exact bodyPost_ret_by (results_Row Tryd.results34 _ w1 w.heap.size 93 _ _ rfl hr Tryd.underlying93 rfl (by kernel_rfl)) rfl ⟨rfl, hs.below ((Below.refl _ _).alloc (Nat.le_refl _) _) (Nat.le_refl _)⟩

end Go.Proofs.YtdfbfheceobboaaDoor


namespace Go.Proofs.YtdfbfheceobboaaDoor
open Go.RowKit

theorem row_whole {w : World} {g t : Nat} {old new : List Value} (h : Row w g t (old.take 0 ++ new ++ old.drop (0 + new.length))) (hl : old.length ≤ new.length) : Row w g t new := by
  rw [List.take_zero, List.nil_append, List.drop_eq_nil_of_le (by omega), List.append_nil] at h
  exact h
end Go.Proofs.YtdfbfheceobboaaDoor


namespace Go.Proofs.YtdfbfheceobboaaDoor
open Go.RowKit

theorem Tryd.info5 : (Tryd.prog.info? 5).map (fun i => (i.zero, i.size, i.bytes)) = some (some (.int .u8 0), 1, 1) := by kernel_rfl

/-- The slice value holds these bytes. -/
def IsB (w : World) (ao : Option Addr) (m : List By) : Prop :=
  m = [] ∨ ∃ B off, ao = some ⟨B, off, none⟩ ∧ ∀ j v, m[j]? = some v → w.cell? ⟨B, off + j, none⟩ = some (B8 v)

/-- What the walk knows of the row that it appends to. -/
def Own (N : Nat) (w : World) (v : Value) (m : List By) : Prop := w.ownsRow N 5 1 v m.length (m.map B8) ∧ N ≤ w.heap.size

def slen : Value → Nat
  | .slice _ n _ => n
  | _ => 0

end Go.Proofs.YtdfbfheceobboaaDoor


namespace Go.Proofs.YtdfbfheceobboaaDoor
open Go.RowKit

theorem IsB.below {w w' : World} {ao : Option Addr} {m : List By} {N : Nat} (h : IsB w ao m) (hb : Below N w w') (hN : w.heap.size ≤ N) : IsB w' ao m := by
  rcases h with h | ⟨B, off, rfl, hc⟩
  · exact .inl h
  · refine .inr ⟨B, off, rfl, fun j v hj => ?_⟩
    have h1 := hc j v hj
    rw [hb.cell (p := ⟨B, off + j, none⟩) (by have := block_lt_of_cell h1; simp at this ⊢; omega)]
    exact h1

/-- Bytes that lie in a block from its place o on. -/
def Lies (w : World) (g o : Nat) (m : List By) : Prop := ∀ j, j < m.length → w.cell? ⟨g, o + j, none⟩ = some (B8 (m.getD j 0))
theorem hs_succ (m : List By) (n : Nat) : comp (hs m n) (pc m n) = hs m (n + 1) := by simp only [hs]
/-- The first k bytes of a row, zeros behind them. -/
def part (l : List By) (n k : Nat) : List By := l.take k ++ List.replicate (n - k) 0
theorem part_all (l : List By) (n : Nat) (hl : l.length = n) : part l n n = l := by simp [part, ← hl]
theorem out_len (s : S8) : (out s).length = 32 := rfl
end Go.Proofs.YtdfbfheceobboaaDoor
