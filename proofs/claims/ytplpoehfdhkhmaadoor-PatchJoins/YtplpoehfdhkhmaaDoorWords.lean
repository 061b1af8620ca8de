import Derived.Test.YtplpoehfdhkhmaaDoorMath
import Derived.Deep.MidRow
import Derived.Test.YtplpoehfdhkhmaaDoorRows
import Derived.WalkKit
import Derived.WalkSpells
import Derived.WalkLawsBesides
import Derived.Deep.QuietTactic
import Derived.BigQuiet
import Derived.Deep.RegionHeld3

/-! Whole arrays loaded and stored; what a store into one block leaves of the others. -/
namespace Go.Proofs.YtplpoehfdhkhmaaDoor
open Go.RowKit

/-- All but block g is as it was. -/
structure SameBut (g : Nat) (w w' : World) : Prop where
  os : w'.os = w.os
  tape : w'.tape = w.tape
  output : w'.output = w.output
  size : w'.heap.size = w.heap.size
  block : ∀ k, k ≠ g -> w'.heap[k]? = w.heap[k]?

theorem SameBut.refl (g : Nat) (w : World) : SameBut g w w := ⟨rfl, rfl, rfl, rfl, fun _ _ => rfl⟩
theorem SameBut.trans {g : Nat} {a b c : World} (h : SameBut g a b) (k : SameBut g b c) : SameBut g a c :=
  ⟨k.os.trans h.os, k.tape.trans h.tape, k.output.trans h.output, k.size.trans h.size, fun i hi => (k.block i hi).trans (h.block i hi)⟩
theorem SameBut.setCell (g i : Nat) (v : Value) (w : World) : SameBut g w (w.setCell ⟨g, i, none⟩ v) :=
  ⟨rfl, rfl, rfl, by simp [World.setCell], fun k hk => heap_setCell_other w _ k v hk⟩
theorem SameBut.setCells (g : Nat) : ∀ (vs : List Value) (o : Nat) (w : World), SameBut g w (w.setCells g o vs)
  | [], _, w => SameBut.refl g w
  | v :: r, o, w => (SameBut.setCell g o v w).trans (SameBut.setCells g r (o + 1) _)
theorem SameBut.below {g B : Nat} {a w w' : World} (h : SameBut g w w') (hb : Below B a w) (hg : B <= g) : Below B a w' :=
  hb.trans ⟨h.os, h.tape, h.output, Nat.le_of_eq h.size.symm, fun k hk => h.block k (by omega)⟩
theorem Row.but {g g' t : Nat} {cs : List Value} {w w' : World} (h : Row w g t cs) (hs : SameBut g' w w') (hne : g ≠ g') : Row w' g t cs := (hs.block g hne).trans h

theorem Row.setCells {t g : Nat} : ∀ (vs : List Value) (o : Nat) (w : World) (cs : List Value), Row w g t cs -> o + vs.length <= cs.length ->
    Row (w.setCells g o vs) g t (cs.take o ++ vs ++ cs.drop (o + vs.length))
  | [], o, w, cs, h, _ => by simpa [World.setCells] using h
  | v :: r, o, w, cs, h, hl => by
    simp at hl
    have h1 := Row.setCells r (o + 1) (w.setCell ⟨g, o, none⟩ v) (cs.set o v) (h.set o v) (by simp; omega)
    rw [World.setCells]
    have e : cs.take o ++ (v :: r) ++ cs.drop (o + (v :: r).length) = (cs.set o v).take (o + 1) ++ r ++ (cs.set o v).drop (o + 1 + r.length) := by
      have e1 : (cs.set o v).take (o + 1) = cs.take o ++ [v] := by
        rw [List.take_set, List.take_add_one]
        have : cs[o]? = some cs[o] := List.getElem?_eq_getElem (by omega)
        rw [this]
        rw [List.set_append_right _ _ (by simp; omega)]
        simp
        rw [show o - min o cs.length = 0 by omega]; rfl
      have e2 : (cs.set o v).drop (o + 1 + r.length) = cs.drop (o + (v :: r).length) := by
        rw [List.drop_set_of_lt (by omega)]
        simp; congr 1; omega
      rw [e1, e2]; simp
    rw [e]; exact h1

theorem U_one (l : List Wd) : ∀ v ∈ l.map U, v.oneCell' = true := by
  intro v hv; simp at hv; obtain ⟨x, _, rfl⟩ := hv; rfl
theorem B8_one (l : List By) : ∀ v ∈ l.map B8, v.oneCell' = true := by
  intro v hv; simp at hv; obtain ⟨x, _, rfl⟩ := hv; rfl

/-- Some draws later. -/
def Dr (w w' : World) : Prop := ∃ n, w' = w.drewN n
theorem Dr.refl (w : World) : Dr w w := ⟨0, rfl⟩
theorem Dr.drewN {w w' : World} (h : Dr w w') (m : Nat) : Dr w (w'.drewN m) := by
  obtain ⟨n, rfl⟩ := h; exact ⟨n + m, by rw [World.drewN_drewN]⟩
theorem Row.dr {w w' : World} {g t : Nat} {cs : List Value} (h : Row w g t cs) (d : Dr w w') : Row w' g t cs := by
  obtain ⟨n, rfl⟩ := d; exact h
theorem Below_dr {B : Nat} {a w w' : World} (h : Below B a w) (d : Dr w w') : Below B a w' := by
  obtain ⟨n, rfl⟩ := d; exact Below_drewN h n

variable {P : Program}

/-- A whole array (or a part of a block that is one) loaded. -/
theorem Row.range {w : World} {g t : Nat} {cs : List Value} (h : Row w g t cs) (o n : Nat) : w.rangeAt g o ((cs.drop o).take n) := by
  intro j v hv
  refine h.cell (o + j) v ?_
  rw [List.getElem?_take] at hv
  split at hv
  · rw [List.getElem?_drop] at hv; exact hv
  · cases hv

theorem wpList_load_Row {ops : Array Oper} {rest : List Oper} {op : Oper} {a : Act} {w : World} {Q : Exit -> Act -> World -> Prop} (hgd : op.guard = none) (ty : TypeId) (x : Operand) (ho : op.op = .load ty x)
    (g t : Nat) (cs : List Value) (hr : Row w g t cs) (hx : a.eval x = .pointer (some ⟨g, 0, none⟩)) (d : TypeDesc)
    (hu : P.underlying ty = some d) (hd : d.isRow = true) (hi : (P.info? ty).map (·.size) = some cs.length)
    (h : wpList P ops Q rest (a.put op.dst (.agg cs.toArray)) w) : wpList P ops Q (op :: rest) a w :=
  wpList_load_mid hgd ty x ho g 0 hx cs d (by have := hr.range 0 cs.length; simpa using this) hu hd hi h

theorem wpList_store_Row {ops : Array Oper} {rest : List Oper} {op : Oper} {a : Act} {w : World} {Q : Exit -> Act -> World -> Prop} (hgd : op.guard = none) (ty : TypeId) (x y : Operand) (ho : op.op = .store ty x y)
    (g t o : Nat) (old new : List Value) (hr : Row w g t old) (hl : o + new.length <= old.length) (hx : a.eval x = .pointer (some ⟨g, o, none⟩)) (hy : a.eval y = .agg new.toArray)
    (hi : (P.info? ty).map (·.size) = some new.length) (h1 : ∀ v ∈ new, v.oneCell' = true)
    (h : ∀ w', Row w' g t (old.take o ++ new ++ old.drop (o + new.length)) -> SameBut g w w' -> wpList P ops Q rest (a.put op.dst undef) w') : wpList P ops Q (op :: rest) a w := by
  refine wpList_store_mid hgd ty x y ho g o new.toArray hx hy ?_ (by simpa using hi) (all_oneCell_toArray h1) (h _ ?_ ?_)
  · intro j hj
    refine ⟨?_, hr.frozen _⟩
    have hj' : o + j < old.length := by simp at hj; omega
    rw [hr.cell (o + j) old[o + j] (List.getElem?_eq_getElem hj')]; rfl
  · exact Row.setCells new o w old hr hl
  · exact SameBut.setCells g new o w

/-- The result that lies in a block of its own. -/
theorem results_Row {fn : Func} {p : Tmp} {ty : TypeId} (h : fn.results = #[.cell p ty]) (tmps : Array Value) (w : World) (g t : Nat) (cs : List Value) (d : TypeDesc)
    (hp : tmps.getD p undef = .pointer (some ⟨g, 0, none⟩)) (hr : Row w g t cs)
    (hu : P.underlying ty = some d) (hd : (match d with | .struct _ | .array _ _ => true | _ => false) = true) (hi : (P.info? ty).map (·.size) = some cs.length) :
    (results fn tmps).run P w = .ok (.agg cs.toArray) w :=
  results_cell_row h tmps w g t cs.toArray (0, 0) d hp hr hu hd (by simpa using hi)

end Go.Proofs.YtplpoehfdhkhmaaDoor


namespace Go.Proofs.YtplpoehfdhkhmaaDoor
open Go.RowKit

set_option maxHeartbeats 400000 in
theorem turned_any (x : BitVec 32) (n : Nat) (h1 : 1 <= n) (h2 : n <= 31) (w : World) :
    Calls Tryd.prog 63 #[.int .u32 (x.toNat : Int), .int .i64 (n : Int)] w fun e w' => e = .returned (.int .u32 ((rr x n).toNat : Int)) /\ ∃ m, w' = w.drewN m := by
  have a1 : (0 : Int) <= (n : Int) := by omega
  have a2 : (0 : Int) <= 32 - (n : Int) := by omega
  go_enter Tryd.func63, Tryd.ntmps63
  go_wp2
  go_quiet (fail)
  go_wp2
  go_ret
  exact ⟨ret_int (rr_of x n), _, rfl⟩

set_option maxHeartbeats 400000 in
theorem rotl_any (x : BitVec 32) (n : Nat) (h1 : 1 <= n) (h2 : n <= 31) (w : World) :
    Calls Tryd.prog 83 #[.int .u32 (x.toNat : Int), .int .i64 (-(n : Int))] w fun e w' => e = .returned (.int .u32 ((rr x n).toNat : Int)) /\ w' = w := by
  have hb := and31 n h1 h2
  go_enter Tryd.func83, Tryd.ntmps83
  go_wp2
  go_ret
  exact ⟨ret_int (rr_of' x n h1 h2), rfl⟩

set_option maxHeartbeats 400000 in
theorem turn_any (x : BitVec 32) (n : Nat) (h1 : 1 <= n) (h2 : n <= 31) (w : World) :
    Calls Tryd.prog 69 #[.int .u32 (x.toNat : Int), .int .i64 (n : Int)] w fun e w' => e = .returned (.int .u32 ((rr x n).toNat : Int)) /\ w' = w := by
  go_enter Tryd.func69, Tryd.ntmps69
  go_wp2_with (go_at_call 83; refine (rotl_any x n h1 h2 _).mono ?_; rintro e w' ⟨rfl, rfl⟩)
  go_ret
  exact ⟨rfl, rfl⟩

theorem turn_at (x : Wd) (n : Int) (w : World) (h1 : 1 <= n) (h2 : n <= 31) :
    Calls Tryd.prog 69 #[.int .u32 (x.toNat : Int), .int .i64 n] w fun e w' => e = .returned (.int .u32 ((rr x n.toNat).toNat : Int)) /\ w' = w := by
  obtain ⟨m, rfl⟩ := Int.eq_ofNat_of_zero_le (show 0 <= n by omega)
  simpa using turn_any x m (by omega) (by omega) w
theorem turned_at (x : Wd) (n : Int) (w : World) (h1 : 1 <= n) (h2 : n <= 31) :
    Calls Tryd.prog 63 #[.int .u32 (x.toNat : Int), .int .i64 n] w fun e w' => e = .returned (.int .u32 ((rr x n.toNat).toNat : Int)) /\ ∃ m, w' = w.drewN m := by
  obtain ⟨m, rfl⟩ := Int.eq_ofNat_of_zero_le (show 0 <= n by omega)
  simpa using turned_any x m (by omega) (by omega) w

set_option maxHeartbeats 400000 in
theorem wordAt_any (a b c d : By) (B off len cap : Nat) (w : World) (hl : 4 <= len)
   (h0 : w.cell? ⟨B, off, none⟩ = some (.int .u8 (a.toNat : Int))) (h1 : w.cell? ⟨B, off + 1, none⟩ = some (.int .u8 (b.toNat : Int)))
   (h2 : w.cell? ⟨B, off + 2, none⟩ = some (.int .u8 (c.toNat : Int))) (h3 : w.cell? ⟨B, off + 3, none⟩ = some (.int .u8 (d.toNat : Int))) :
    Calls Tryd.prog 82 #[.slice (some ⟨B, off, none⟩) len cap] w fun e w' => e = .returned (.int .u32 ((word4 a b c d).toNat : Int)) /\ ∃ m, w' = w.drewN m := by
  have a1 : (0 : Int) < (len : Int) := by omega
  have a2 : (1 : Int) < (len : Int) := by omega
  have a3 : (2 : Int) < (len : Int) := by omega
  have a4 : (3 : Int) < (len : Int) := by omega
  have b1 : (a.toNat : Int) < 256 := by have := a.isLt; omega
  have b2 : (b.toNat : Int) < 256 := by have := b.isLt; omega
  have b3 : (c.toNat : Int) < 256 := by have := c.isLt; omega
  have b4 : (d.toNat : Int) < 256 := by have := d.isLt; omega
  go_enter Tryd.func82, Tryd.ntmps82
  go_wp2
  go_quiet (fail)
  go_wp2
  go_ret
  exact ⟨ret_int (word_form a b c d), _, rfl⟩

/-- The four stores of a word, the highest byte first. -/
def put4 (w : World) (B off : Nat) (x : Wd) : World :=
  ((((w.setCell ⟨B, off, none⟩ (B8 ((x >>> 24).setWidth 8))).setCell ⟨B, off + 1, none⟩ (B8 ((x >>> 16).setWidth 8))).setCell ⟨B, off + 2, none⟩ (B8 ((x >>> 8).setWidth 8))).setCell ⟨B, off + 3, none⟩ (B8 (x.setWidth 8)))

set_option maxHeartbeats 400000 in
theorem putWord_any (x : Wd) (B off len cap : Nat) (w : World) (hl : 4 <= len) (ht : w.there B off 4) :
    Calls Tryd.prog 56 #[.slice (some ⟨B, off, none⟩) len cap, .int .u32 (x.toNat : Int)] w fun e w' => e = .returned (.tuple #[]) /\ w' = put4 w B off x := by
  have a1 : (0 : Int) < (len : Int) := by omega
  have a2 : (1 : Int) < (len : Int) := by omega
  have a3 : (2 : Int) < (len : Int) := by omega
  have a4 : (3 : Int) < (len : Int) := by omega
  obtain ⟨v0, h0⟩ := Option.isSome_iff_exists.1 (ht 0 (by omega)).1
  obtain ⟨v1, h1⟩ := Option.isSome_iff_exists.1 (ht 1 (by omega)).1
  obtain ⟨v2, h2⟩ := Option.isSome_iff_exists.1 (ht 2 (by omega)).1
  obtain ⟨v3, h3⟩ := Option.isSome_iff_exists.1 (ht 3 (by omega)).1
  have f0 := (ht 0 (by omega)).2
  have f1 := (ht 1 (by omega)).2
  have f2 := (ht 2 (by omega)).2
  have f3 := (ht 3 (by omega)).2
  rw [Nat.add_zero] at h0 f0
  have e1 : B8 ((x >>> 24).setWidth 8) = .int .u8 ((x.toNat : Int) / 16777216) := by
    have := byte_of x 24; simp only [Int.reducePow] at this
    unfold B8; rw [<- this]; congr 1; have := x.isLt; omega
  have e2 : B8 ((x >>> 16).setWidth 8) = .int .u8 ((x.toNat : Int) / 65536 % 256) := by
    have := byte_of x 16; simp only [Int.reducePow] at this
    unfold B8; rw [<- this]
  have e3 : B8 ((x >>> 8).setWidth 8) = .int .u8 ((x.toNat : Int) / 256 % 256) := by
    have := byte_of x 8; simp only [Int.reducePow] at this
    unfold B8; rw [<- this]
  have e4 : B8 (x.setWidth 8) = .int .u8 ((x.toNat : Int) % 256) := by
    unfold B8; rw [BitVec.toNat_setWidth]; congr 1
  have e : put4 w B off x = ((((w.setCell ⟨B, off, none⟩ (.int .u8 ((x.toNat : Int) / 16777216))).setCell ⟨B, off + 1, none⟩ (.int .u8 ((x.toNat : Int) / 65536 % 256))).setCell ⟨B, off + 2, none⟩ (.int .u8 ((x.toNat : Int) / 256 % 256))).setCell ⟨B, off + 3, none⟩ (.int .u8 ((x.toNat : Int) % 256))) := by
    unfold put4; rw [e1, e2, e3, e4]
  rw [e]
  clear ht e e1 e2 e3 e4
  go_enter Tryd.func56, Tryd.ntmps56
  go_wp2
  go_end0
  exact ⟨rfl, rfl⟩

end Go.Proofs.YtplpoehfdhkhmaaDoor


namespace Go.Proofs.YtplpoehfdhkhmaaDoor
open Go.RowKit

theorem word_form' (a b c d : By) : bits .or .u32 (bits .or .u32 (bits .or .u32 (IntKind.u32.wrap (IntKind.u32.wrap (a.toNat : Int) * 16777216)) (IntKind.u32.wrap (IntKind.u32.wrap (b.toNat : Int) * 65536))) (IntKind.u32.wrap (IntKind.u32.wrap (c.toNat : Int) * 256))) (IntKind.u32.wrap (d.toNat : Int)) =
    ((word4 a b c d).toNat : Int) := by
  have ha := b8_lt a
  have hb := b8_lt b
  have hc := b8_lt c
  have hd := b8_lt d
  have e1 : IntKind.u32.wrap (IntKind.u32.wrap (a.toNat : Int) * 16777216) = (a.toNat : Int) * 16777216 := by simp only [IntKind.wrap_u32']; omega
  have e2 : IntKind.u32.wrap (IntKind.u32.wrap (b.toNat : Int) * 65536) = (b.toNat : Int) * 65536 := by simp only [IntKind.wrap_u32']; omega
  have e3 : IntKind.u32.wrap (IntKind.u32.wrap (c.toNat : Int) * 256) = (c.toNat : Int) * 256 := by simp only [IntKind.wrap_u32']; omega
  have e4 : IntKind.u32.wrap (d.toNat : Int) = (d.toNat : Int) := by simp only [IntKind.wrap_u32']; omega
  rw [e1, e2, e3, e4]
  exact word_form a b c d
theorem wn_form' (x16 a x7 b : Wd) : IntKind.u32.wrap (IntKind.u32.wrap (IntKind.u32.wrap ((x16.toNat : Int) + (a.toNat : Int)) + (x7.toNat : Int)) + (b.toNat : Int)) = ((x16 + a + x7 + b).toNat : Int) := by
  rw [wrap_add_bv, wrap_add_bv, wrap_add_bv]
theorem sg_form (x : Wd) (p q n : Nat) (c : Int) (hc : c = 2 ^ n) : bits .xor .u32 (bits .xor .u32 ((rr x p).toNat : Int) ((rr x q).toNat : Int)) ((x.toNat : Int) / c) = ((rr x p ^^^ rr x q ^^^ x >>> n).toNat : Int) := by
  rw [hc, shr_bv, bits_xor_bv, bits_xor_bv]

set_option maxHeartbeats 1000000 in
set_option maxRecDepth 100000 in
theorem words_any (D o cap : Nat) (bs : List By) (w : World) (hp : ∀ j, j < 64 -> w.cell? ⟨D, o + j, none⟩ = some (B8 (bs.getD j 0))) :
    Calls Tryd.prog 62 #[.slice (some ⟨D, o, none⟩) 64 cap] w fun e w' => e = .returned (.agg ((sched bs).map U).toArray) /\ Below w.heap.size w w' := by
  have hD : D < w.heap.size := block_lt_of_cell (hp 0 (by omega))
  go_enter Tryd.func62, Tryd.ntmps62
  go_wp2_with (refine wpList_store_Row rfl 98 _ _ rfl (w.heap.size + 1) 98 0 ((fill bs 0).map U) ((fill bs 0).map U) (Row.at _ _ _ _ _ (by simp) rfl) (by simp [fill_len]) rfl rfl (by rw [List.length_map, fill_len]; kernel_rfl) (U_one _) ?_; intro w1 hr0 hs1)
  have r1 : Row w1 (w.heap.size + 1) 98 ((fill bs 0).map U) := by
    rw [List.take_zero, List.nil_append, List.drop_eq_nil_of_le (by simp), List.append_nil] at hr0; exact hr0
  have r0 : Row w1 w.heap.size 98 ((fill bs 0).map U) := ((Row.at w 98 ((fill bs 0).map U) _ _ rfl rfl).alloc _).but hs1 (by omega)
  have bb : Below w.heap.size w w1 := hs1.below (((Below.refl _ _).alloc (Nat.le_refl _) _).alloc (by simp) _) (by omega)
  clear hr0 hs1
  go_loopw [4] (fun i wr => ∃ k : Nat, k <= 16 /\ i = .int .i64 k /\ Row wr (w.heap.size + 1) 98 ((fill bs k).map U) /\ Row wr w.heap.size 98 ((fill bs 0).map U) /\ Below w.heap.size w wr)
    (fun i _ => 16 - (intOf i).toNat)
  case atStart => exact ⟨0, by omega, rfl, r1, r0, bb⟩
  case round =>
    clear r1 r0 bb
    obtain ⟨k, hk, rfl, hr1, hr0, hb⟩ := hrel
    by_cases hlt : k < 16
    · have c0 : wr.cell? ⟨D, o + 4 * k, none⟩ = some (.int .u8 ((bs.getD (4 * k) 0).toNat : Int)) := (hb.cell (p := ⟨D, o + 4 * k, none⟩) hD).trans (hp (4 * k) (by omega))
      have c1 : wr.cell? ⟨D, o + (4 * k + 1), none⟩ = some (.int .u8 ((bs.getD (4 * k + 1) 0).toNat : Int)) := (hb.cell (p := ⟨D, o + (4 * k + 1), none⟩) hD).trans (hp (4 * k + 1) (by omega))
      have c2 : wr.cell? ⟨D, o + (4 * k + 2), none⟩ = some (.int .u8 ((bs.getD (4 * k + 2) 0).toNat : Int)) := (hb.cell (p := ⟨D, o + (4 * k + 2), none⟩) hD).trans (hp (4 * k + 2) (by omega))
      have c3 : wr.cell? ⟨D, o + (4 * k + 3), none⟩ = some (.int .u8 ((bs.getD (4 * k + 3) 0).toNat : Int)) := (hb.cell (p := ⟨D, o + (4 * k + 3), none⟩) hD).trans (hp (4 * k + 3) (by omega))
      have E : Hid (wordOf bs k = word4 (bs.getD (4 * k) 0) (bs.getD (4 * k + 1) 0) (bs.getD (4 * k + 2) 0) (bs.getD (4 * k + 3) 0)) := rfl
      generalize bs.getD (4 * k) 0 = x0 at c0 E
      generalize bs.getD (4 * k + 1) 0 = x1 at c1 E
      generalize bs.getD (4 * k + 2) 0 = x2 at c2 E
      generalize bs.getD (4 * k + 3) 0 = x3 at c3 E
      have b0 := b8_lt x0
      have b1 := b8_lt x1
      have b2 := b8_lt x2
      have b3 := b8_lt x3
      have q0 : (0 : Int) <= 4 * (k : Int) := by omega
      have q1 : 4 * (k : Int) < 64 := by omega
      have q2 : (0 : Int) <= 4 * (k : Int) + 1 := by omega
      have q3 : 4 * (k : Int) + 1 < 64 := by omega
      have q4 : (0 : Int) <= 4 * (k : Int) + 2 := by omega
      have q5 : 4 * (k : Int) + 2 < 64 := by omega
      have q6 : (0 : Int) <= 4 * (k : Int) + 3 := by omega
      have q7 : 4 * (k : Int) + 3 < 64 := by omega
      have t0 : (4 * (k : Int)).toNat = 4 * k := by omega
      have t1 : (4 * (k : Int) + 1).toNat = 4 * k + 1 := by omega
      have t2 : (4 * (k : Int) + 2).toNat = 4 * k + 2 := by omega
      have t3 : (4 * (k : Int) + 3).toNat = 4 * k + 3 := by omega
      have j0 : IntKind.i64.wrap (4 * (k : Int)) = 4 * (k : Int) := i64_in _ (by omega) (by omega)
      have j1 : IntKind.i64.wrap (4 * (k : Int) + 1) = 4 * (k : Int) + 1 := i64_in _ (by omega) (by omega)
      have j2 : IntKind.i64.wrap (4 * (k : Int) + 2) = 4 * (k : Int) + 2 := i64_in _ (by omega) (by omega)
      have j3 : IntKind.i64.wrap (4 * (k : Int) + 3) = 4 * (k : Int) + 3 := i64_in _ (by omega) (by omega)
      have i1 : (0 : Int) <= (k : Int) := by omega
      have i2 : (k : Int) < 64 := by omega
      have s1 := hr1.word k (by rw [fill_len]; omega)
      have s2 := hr1.frozen k
      have n1 : w.heap.size + 1 ≠ D := by omega
      go_wp2
      go_region_held3 (fun w' => w'.cell? ⟨D, o + 4 * k, none⟩ = some (.int .u8 (x0.toNat : Int)) /\ w'.cell? ⟨D, o + (4 * k + 1), none⟩ = some (.int .u8 (x1.toNat : Int)) /\ w'.cell? ⟨D, o + (4 * k + 2), none⟩ = some (.int .u8 (x2.toNat : Int)) /\ w'.cell? ⟨D, o + (4 * k + 3), none⟩ = some (.int .u8 (x3.toNat : Int)))
        (first | go_keep | (refine ⟨?_, ?_, ?_, ?_⟩ <;> (rw [World.cell?_setCell_other _ _ _ _ (by simp; omega)]; first | exact c0 | exact c1 | exact c2 | exact c3))) (fail)
      rw [word_form' x0 x1 x2 x3, <- E.out]
      clear E
      have E : Hid (fill bs (k + 1) = (fill bs k).set k (wordOf bs k)) := rfl
      generalize wordOf bs k = y at E ⊢
      go_wp2
      refine ⟨⟨k + 1, by omega, by go_num, ?_, ?_, ?_⟩, by simp [intOf]; omega⟩
      · have R := hr1.set k (.int .u32 (y.toNat : Int))
        rw [map_set_U, <- E.out] at R
        exact R.drew
      · exact (hr0.setOther _ _ (by simp)).drew
      · exact (hb.setCell (by simp) _).drew
    · obtain rfl : k = 16 := by omega
      clear hk hlt
      go_wp2
      go_loopw [5] (fun i wr => ∃ t : Nat, 16 <= t /\ t <= 64 /\ i = .int .i64 (t : Int) /\ Row wr (w.heap.size + 1) 98 ((ext bs (t - 16)).map U) /\ Row wr w.heap.size 98 ((fill bs 0).map U) /\ Below w.heap.size w wr)
        (fun i _ => 64 - (intOf i).toNat)
      case atStart => exact ⟨16, by omega, by omega, rfl, hr1, hr0, hb⟩
      case round =>
        clear hr1 hr0 hb
        obtain ⟨t, ht, hk, rfl, hr1, hr0, hb⟩ := hrel
        by_cases hlt : t < 64
        · have hl := ext_len bs (t - 16)
          obtain ⟨x15, e15⟩ : ∃ x, x = (ext bs (t - 16)).getD (t - 15) 0 := ⟨_, rfl⟩
          obtain ⟨x2, e2⟩ : ∃ x, x = (ext bs (t - 16)).getD (t - 2) 0 := ⟨_, rfl⟩
          obtain ⟨x16, e16⟩ : ∃ x, x = (ext bs (t - 16)).getD (t - 16) 0 := ⟨_, rfl⟩
          obtain ⟨x7, e7⟩ : ∃ x, x = (ext bs (t - 16)).getD (t - 7) 0 := ⟨_, rfl⟩
          have g1 := hr1.word (t - 15) (by omega)
          have g2 := hr1.word (t - 2) (by omega)
          have g3 := hr1.word (t - 16) (by omega)
          have g4 := hr1.word (t - 7) (by omega)
          have s1 := hr1.word t (by omega)
          have s2 := hr1.frozen t
          rw [<- e15] at g1
          rw [<- e2] at g2
          rw [<- e16] at g3
          rw [<- e7] at g4
          have E : Hid (ext bs (t + 1 - 16) = (ext bs (t - 16)).set t (x16 + (rr x15 7 ^^^ rr x15 18 ^^^ x15 >>> 3) + x7 + (rr x2 17 ^^^ rr x2 19 ^^^ x2 >>> 10))) := by
            show _ = _
            rw [show t + 1 - 16 = (t - 16) + 1 by omega, ext, e15, e2, e16, e7, show 16 + (t - 16) = t by omega]
            rfl
          clear e15 e2 e16 e7 hl
          have i1 : (0 : Int) <= (t : Int) - 15 := by omega
          have i2 : (t : Int) - 15 < 64 := by omega
          have i3 : (0 : Int) <= (t : Int) - 2 := by omega
          have i4 : (t : Int) - 2 < 64 := by omega
          have i5 : (0 : Int) <= (t : Int) - 16 := by omega
          have i6 : (t : Int) - 16 < 64 := by omega
          have i7 : (0 : Int) <= (t : Int) - 7 := by omega
          have i8 : (t : Int) - 7 < 64 := by omega
          have i9 : (16 : Int) <= (t : Int) := by omega
          have i10 : (7 : Int) <= (t : Int) := by omega
          have i11 : ((t : Int) - 16).toNat = t - 16 := by omega
          have i12 : ((t : Int) - 7).toNat = t - 7 := by omega
          have i13 : (t : Int) < 80 := by omega
          have i14 : (t : Int) < 71 := by omega
          have n1 : t ≠ t - 16 := by omega
          have n2 : t ≠ t - 7 := by omega
          have n3 : t - 16 ≠ t := by omega
          have n4 : t - 7 ≠ t := by omega
          have j1 : IntKind.i64.wrap ((t : Int) - 16) = (t : Int) - 16 := i64_in _ (by omega) (by omega)
          have j2 : IntKind.i64.wrap ((t : Int) - 7) = (t : Int) - 7 := i64_in _ (by omega) (by omega)
          go_wp2
          go_quiet (fail)
          go_wp2_with (go_at_call 63; refine (turned_at _ _ _ (by decide) (by decide)).mono ?_; rintro e w' ⟨rfl, m, rfl⟩)
          go_region_held3 (fun w' => w'.cell? ⟨w.heap.size + 1, t - 16, none⟩ = some (.int .u32 (x16.toNat : Int)) /\ w'.cell? ⟨w.heap.size + 1, t - 7, none⟩ = some (.int .u32 (x7.toNat : Int)))
            (first | go_keep | (refine ⟨?_, ?_⟩ <;> (rw [World.cell?_setCell_other _ _ _ _ (by first | (simp; done) | (simp; omega))]; first | exact g3 | exact g4))) (fail)
          rw [sg_form x15 7 18 3 8 (by decide), sg_form x2 17 19 10 1024 (by decide), wn_form']
          generalize x16 + (rr x15 7 ^^^ rr x15 18 ^^^ x15 >>> 3) + x7 + (rr x2 17 ^^^ rr x2 19 ^^^ x2 >>> 10) = y at E ⊢
          go_wp2
          refine ⟨?_, ?measure⟩
          refine ⟨_, _, _, _, _, _, _, _, _, _, _, _, _, _, _, _, _, _, _, _, _, _, _, _, _, _, _, _, _, _, _, _, _, _, _, _, _, _, _, _, _, _, _, _, _, _, ?rel, rfl⟩
          case rel =>
            refine ⟨t + 1, by omega, by omega, by go_num, ?_, ?_, ?_⟩
            · have R := fun q => (hr1.drewN q).set t (.int .u32 (y.toNat : Int))
              simp only [map_set_U, <- E.out] at R
              exact R _
            · exact Row.setOther (hr0.drewN _) _ _ (by simp)
            · exact (Below_drewN hb _).setCell (by simp) _
          case measure => simp [intOf]; omega
        · obtain rfl : t = 64 := by omega
          clear hk hlt ht
          go_wp2_with (first | (refine wpList_load_Row rfl 98 _ rfl _ _ _ hr1 rfl _ Tryd.underlying98 rfl (by rw [List.length_map, ext_len]; kernel_rfl) ?_) | (refine wpList_store_Row rfl 98 _ _ rfl _ _ 0 _ _ hr0 (by simp [ext_len, fill_len]) rfl rfl (by rw [List.length_map, ext_len]; kernel_rfl) (U_one _) ?_; intro w1 hr2 hs2))
          have hr3 : Row w1 w.heap.size 98 ((sched bs).map U) := by
            have : Row w1 w.heap.size 98 ((ext bs 48).map U ++ ((fill bs 0).map U).drop ((ext bs 48).length)) := by simpa using hr2
            rwa [List.drop_eq_nil_of_le (by simp [ext_len, fill_len]), List.append_nil] at this
          exact bodyPost_ret_by (results_Row Tryd.results62 _ w1 w.heap.size 98 _ _ rfl hr3 Tryd.underlying98 rfl (by rw [List.length_map, sched_len]; kernel_rfl)) rfl ⟨rfl, hs2.below hb (Nat.le_refl _)⟩

end Go.Proofs.YtplpoehfdhkhmaaDoor
