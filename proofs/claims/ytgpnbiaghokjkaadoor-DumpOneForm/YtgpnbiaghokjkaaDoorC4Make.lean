import Derived.Test.YtgpnbiaghokjkaaDoorR4Fresh
import Derived.StillTailTactics
import Derived.Laws.BytesString
import Derived.Laws.MakeOwn
import Derived.Laws.CopyOwn

/-! The reference's CopyState: what has come up of its first region. -/
namespace Go.Proofs.YtgpnbiaghokjkaaDoor
open Go.RowKit

abbrev nilS : Value := .slice none 0 0

section
variable {sz : Nat} {W1 : World} {v : SV} {t : St} {L : Nat → Bool} {x3 x5 x6 x7 x8 x9 x10 x11 x12 x13 : Value} {g1 g2 g3 : Nat} {W W' : World}

theorem no_of {L : Nat → Bool} {i j : Nat} {p : Prop} (h : L i = true → L j = true) (hj : L j = false) (k : L i = true) : p := by
  have := h k; rw [hj] at this; cases this

theorem below_alloc (W : World) (o : Obj) : Below W.heap.size W (W.alloc o) := (Below.refl _ _).alloc (Nat.le_refl _) o

end

/-- A whole struct stored into a block known whole, at a step of a drawn region. -/
theorem step_store_Row {ops : Array Oper} {o : Oper} {a : Act} {w : World} {K : Act → World → Prop} {Q : Exit → Act → World → Prop} {X : Prop} (hgd : o.guard = none) (ty : TypeId) (x y : Operand) (ho : o.op = .store ty x y)
    (g t : Nat) (old new : List Value) (hr : Row w g t old) (hl : new.length = old.length) (hx : a.eval x = .pointer (some ⟨g, 0, none⟩)) (hy : a.eval y = .agg new.toArray)
    (hi : (Tryd.prog.info? ty).map (·.size) = some new.length) (h1 : ∀ v ∈ new, v.oneCell' = true)
    (h : ∀ w', Row w' g t new → SameBut g w w' → K (a.put o.dst undef) w') : if Region.wanted o (yielded ops a.tmps) = true then Oper.wp Tryd.prog o a w K Q else X := by
  have hw : Region.wanted o (yielded ops a.tmps) = true := by simp [Region.wanted, hgd]
  rw [if_pos hw]
  refine wp_store_mid ty x y ho g 0 new.toArray hx hy ?_ (by simpa using hi) (all_oneCell_toArray h1) (h _ ?_ ?_)
  · intro j hj
    refine ⟨?_, hr.frozen _⟩
    have hj' : 0 + j < old.length := by simp at hj; omega
    rw [hr.cell (0 + j) old[0 + j] (List.getElem?_eq_getElem hj')]; rfl
  · have := Row.setCells new 0 w old hr (by omega)
    simpa [hl] using this
  · exact SameBut.setCells g new 0 w

end Go.Proofs.YtgpnbiaghokjkaaDoor


/-! The reference's CopyState: what has come up of 'out.Pages = append(out.Pages, append([]Cell{}, s.Pages[p]...))'. -/
namespace Go.Proofs.YtgpnbiaghokjkaaDoor
open Go.RowKit

/-- What stands still over the region. -/
structure PC where
  sz : Nat
  N : Nat
  W1 : World
  wr : World
  po : Option Addr
  k : Nat
  pc : Nat
  g3 : Nat
  B : Nat
  off : Nat
  P : Nat
  vpc : Nat
  qo : Option Addr
  n : Nat
  qc : Nat
  flat : List Value
  vs : List Value
  X1 : Value
  X2 : Value
section
variable {c : PC} {L : Nat → Bool} {x21 x22 x23 x24 x25 x26 x27 x28 x29 x30 x31 x32 : Value} {gq : Nat} {W W' : World}

end
end Go.Proofs.YtgpnbiaghokjkaaDoor


/-! The reference's CopyState. -/
namespace Go.Proofs.YtgpnbiaghokjkaaDoor
open Go.RowKit

theorem owns_base {w : World} {N N' e size n : Nat} {v : Value} {xs : List Value} (h : w.ownsRow N e size v n xs) (hN : N' ≤ N) : w.ownsRow N' e size v n xs :=
  ⟨h.1, h.2.imp id fun ⟨g, c, cur, h1, h2, h3⟩ => ⟨g, c, cur, h1, Nat.le_trans hN h2, h3⟩⟩
end Go.Proofs.YtgpnbiaghokjkaaDoor


/-! The reference's Lay. -/
namespace Go.Proofs.YtgpnbiaghokjkaaDoor
open Go.RowKit

theorem may_parts {c : Cfg} (hc : c.may = 0) : (1 ≤ c.slots ∧ c.slots ≤ 8) ∧ (c.slots + 3 ≤ c.cells ∧ c.cells ≤ 256) ∧ (1 ≤ c.fuses ∧ c.fuses ≤ 64) ∧ (1 ≤ c.keys ∧ c.keys ≤ 64) ∧ (0 ≤ c.area ∧ c.area ≤ 64) := by
  unfold Cfg.may at hc
  split at hc
  · rename_i hh
    simp [Cfg.a, Cfg.b] at hh
    omega
  · omega

/-- A chip that holds a state, as Lay leaves it. -/
def layS (c : Cfg) (t : St) : RS := ⟨c, t.pages, t.erases, t.blown, 0, false, -1, []⟩
theorem lay_ok {c : Cfg} {t : St} (hc : c.may = 0) (hf : Fit c t) (h8 : ∀ p ∈ t.pages, ∀ x ∈ p, x.length = 32) : (layS c t).Ok := by
  obtain ⟨⟨s1, s2⟩, ⟨q1, q2⟩, ⟨f1, f2⟩, ⟨k1, k2⟩, ar1, ar2⟩ := may_parts hc
  obtain ⟨h1, h2, h3, h4⟩ := hf
  have hmul : c.slots * c.fuses ≤ 512 := by
    have := Int.mul_le_mul s2 f2 (by omega) (by omega); omega
  refine ⟨by show t.erases.length = t.pages.length; omega, by show t.pages.length ≤ 130; omega, by show t.blown.length ≤ 576; omega, ?_, by show 1 ≤ c.cells; omega, by show c.cells ≤ 256; omega, h8⟩
  intro p hp
  change p ∈ t.pages at hp
  obtain ⟨i, hi⟩ := List.mem_iff_getElem?.1 hp
  have hlt := (List.getElem?_eq_some_iff.1 hi).1
  have := (h4 i hlt).1
  rw [List.getD_eq_getElem?_getD, hi] at this
  exact this

section
variable {w2 : World} {t : St} {cf sv : List Value} {L : Nat → Bool} {x18 x19 x20 x21 x22 x4 x5 : Value} {po : Option Addr} {pc : Nat} {ps : List (Nat × Nat)} {eB ec bB bc g : Nat} {W W' : World}

end

end Go.Proofs.YtgpnbiaghokjkaaDoor


/-! The reference's Copy. -/
namespace Go.Proofs.YtgpnbiaghokjkaaDoor
open Go.RowKit

section
variable {w : World} {F : RF} {s : RS} {L : Nat → Bool} {x3 x4 x5 x6 x7 x8 x9 x10 x11 x12 x13 x14 x15 x16 x17 x18 x19 x20 x21 x22 x23 x24 x25 x26 x27 x28 x29 x30 x31 x2 : Value} {po : Option Addr} {pc : Nat} {ps : List (Nat × Nat)} {eB ec bB bc gm mc g : Nat} {W W' : World}

end

end Go.Proofs.YtgpnbiaghokjkaaDoor


/-! The code's chip: lower. (Printed by tools/genlow.py.) -/
namespace Go.Proofs.YtgpnbiaghokjkaaDoor
open Go.RowKit

/-- Values laid over others, from a place on. -/
def putAt (cs : List Value) (o : Nat) (new : List Value) : List Value := cs.take o ++ new ++ cs.drop (o + new.length)
section
variable {w0 : World} {B o k X : Nat} {M : ByteArray} {wb xb mb nm ob nb : By} {L : Nat → Bool} {x10 x11 x12 x13 x14 x15 x16 x17 x18 x19 x20 x21 x22 x23 x24 x25 : Value} {W : World}
end
end Go.Proofs.YtgpnbiaghokjkaaDoor


/-! The code's chip: Read, Program. -/
namespace Go.Proofs.YtgpnbiaghokjkaaDoor
open Go.RowKit

theorem KeptL.sub {L L' : List Nat} {w w' : World} (h : KeptL L w w') (hs : ∀ b ∈ L, b ∈ L') : KeptL L' w w' :=
  ⟨h.os, h.tape, h.output, h.size, fun k hk hn => h.block k hk (fun hm => hn (hs k hm))⟩

/-- A cell of a page, laid over. -/
theorem putAt_cell (pg : List (List By)) (rst : List Value) (c : Nat) (x : List By) (h8 : ∀ y ∈ pg, y.length = 32) (hc : c < pg.length) (hx : x.length = 32) : putAt (pg.flatten.map B8 ++ rst) (c * 32) (x.map B8) = (pg.set c x).flatten.map B8 ++ rst := by
  have key : ∀ (l : List (List By)) (c : Nat), (∀ y ∈ l, y.length = 32) → c < l.length → l.flatten.take (c * 32) ++ x ++ l.flatten.drop (c * 32 + 32) = (l.set c x).flatten := by
    intro l
    induction l with
    | nil => intro c _ h; simp at h
    | cons y l ih =>
      intro c h h2
      have hy := h y (by simp)
      cases c with
      | zero => rw [List.flatten_cons, Nat.zero_mul, List.take_zero, List.nil_append, Nat.zero_add, List.drop_left' hy, List.set_cons_zero, List.flatten_cons]
      | succ c =>
        have := ih c (fun z hz => h z (by simp [hz])) (by simpa using h2)
        rw [List.flatten_cons, List.set_cons_succ, List.flatten_cons, ← this]
        rw [show (c + 1) * 32 = y.length + c * 32 by omega, Nat.add_assoc, List.take_append, List.drop_append, List.take_of_length_le (by omega), List.drop_eq_nil_of_le (by omega), show y.length + c * 32 - y.length = c * 32 by omega, show y.length + (c * 32 + 32) - y.length = c * 32 + 32 by omega]
        simp
  unfold putAt
  have hfl := flat_len pg h8
  rw [List.length_map, hx, List.take_append_of_le_length (by rw [List.length_map, hfl]; omega), List.drop_append_of_le_length (by rw [List.length_map, hfl]; omega), ← List.map_take, ← List.map_drop, ← List.append_assoc, ← List.map_append, ← List.map_append, key pg c h8 hc]

end Go.Proofs.YtgpnbiaghokjkaaDoor


/-! The code's chip: keep, Cut, Blow. -/
namespace Go.Proofs.YtgpnbiaghokjkaaDoor
open Go.RowKit

/-- The string of bytes. -/
def strOf (bs : List By) : ByteArray := (bs.map fun b => (b.toNat : Int)).foldl (fun r n => r.push (UInt8.ofNat n.toNat)) ByteArray.empty
theorem fold_push : ∀ (l : List Int) (acc : ByteArray), (l.foldl (fun r n => r.push (UInt8.ofNat n.toNat)) acc).data = acc.data ++ (l.map fun n => UInt8.ofNat n.toNat).toArray
  | [], acc => by simp
  | n :: l, acc => by
    rw [List.foldl_cons, fold_push l]
    simp [ByteArray.push]
theorem strOf_data (bs : List By) : (strOf bs).data = (bs.map fun b => UInt8.ofNat b.toNat).toArray := by
  unfold strOf
  rw [fold_push]
  have h0 : ByteArray.empty.data = #[] := rfl
  rw [h0]
  simp [Function.comp_def]
theorem strOf_is (bs : List By) : StrIs (strOf bs) bs := by
  have hd := strOf_data bs
  have hs : (strOf bs).size = bs.length := by
    show (strOf bs).data.size = _
    rw [hd]; simp
  refine ⟨hs, fun i hi => ?_⟩
  have hi' : i < bs.length := by omega
  have e : (strOf bs)[i]'hi = UInt8.ofNat (bs[i].toNat) := by
    show (strOf bs).data[i] = _
    simp only [hd]
    simp
  rw [e, List.getD_eq_getElem?_getD, List.getElem?_eq_getElem hi']
  have := b8_lt bs[i]
  simp only [Option.getD_some]
  rw [UInt8.toNat_ofNat']
  omega

end Go.Proofs.YtgpnbiaghokjkaaDoor


/-! The code's chip: Blow, Config, blank. -/
namespace Go.Proofs.YtgpnbiaghokjkaaDoor
open Go.RowKit

end Go.Proofs.YtgpnbiaghokjkaaDoor


/-! The code's chip: blank, raise. (Printed by tools/genraise.py.) -/
namespace Go.Proofs.YtgpnbiaghokjkaaDoor
open Go.RowKit

set_option maxHeartbeats 1000000 in
set_option maxRecDepth 100000 in
theorem cblank_any (w : World) : Calls Tryd.prog 82 #[] w fun e w' => e = .returned (.agg ((List.replicate 32 (255#8 : By)).map B8).toArray) ∧ Below w.heap.size w w' := by
  have r0 := Row.at w 56 ((List.replicate 32 (0 : By)).map B8) _ _ rfl rfl
  have b0 : ∀ o1, Below w.heap.size w (w.alloc o1) := fun o1 => (Below.refl _ _).alloc (Nat.le_refl _) _
  go_enter Tryd.func82, Tryd.ntmps82
  go_wp2
  go_loopw [3] (fun iv wr => ∃ k : Nat, k ≤ 32 ∧ iv = .int .i64 k ∧ Row wr (w.heap.size + 1) 56 ((List.replicate k (255#8 : By) ++ List.replicate (32 - k) 0).map B8) ∧ Row wr w.heap.size 56 ((List.replicate 32 (0 : By)).map B8) ∧ Below w.heap.size w wr) (fun iv _ => 32 - (intOf iv).toNat)
  case atStart => exact ⟨0, by omega, rfl, Row.at _ _ _ _ _ (by simp) rfl, r0.alloc _, (b0 _).alloc (by simp) _⟩
  case round =>
    clear r0
    obtain ⟨k, hk, rfl, r1, r2, b1⟩ := hrel
    by_cases hlt : k < 32
    · have y0 : (0 : Int) ≤ (k : Int) := by omega
      have y1 : (k : Int) < 32 := by omega
      have hl : (List.replicate k (255#8 : By) ++ List.replicate (32 - k) 0).length = 32 := by simp; omega
      have ck : ∃ v, wr.cell? ⟨w.heap.size + 1, k, none⟩ = some v := ⟨_, r1.cell k _ (List.getElem?_eq_getElem (by rw [List.length_map, hl]; exact hlt))⟩
      obtain ⟨v0, ck⟩ := ck
      have fk := r1.frozen k
      have r3 := r1.set k (.int .u8 255)
      rw [map_set_255, blank_set k hlt] at r3
      have HR : Hid (Row (wr.setCell ⟨w.heap.size + 1, k, none⟩ (.int .u8 255)) (w.heap.size + 1) 56 ((List.replicate (k + 1) (255#8 : By) ++ List.replicate (32 - (k + 1)) 0).map B8)) := r3
      clear r3 hl r1
      have sb := SameBut.setCell (w.heap.size + 1) k (.int .u8 255) wr
      go_wp2
      exact ⟨⟨k + 1, by omega, by go_num, HR.out, r2.but sb (by omega), sb.below b1 (by omega)⟩, by simp [intOf]; omega⟩
    · obtain rfl : k = 32 := by omega
      have y1 : ¬ ((32 : Nat) : Int) < 32 := by omega
      replace r1 : Row wr (w.heap.size + 1) 56 ((List.replicate 32 (255#8 : By)).map B8) := by simpa using r1
      clear hlt hk
      go_wp2_with (first | (refine wpList_load_Row rfl 56 _ rfl _ _ _ r1 rfl _ Tryd.underlying56 rfl (by kernel_rfl) ?_) | (refine wpList_store_Row rfl 56 _ _ rfl _ _ 0 _ ((List.replicate 32 (255#8 : By)).map B8) r2 (by simp) rfl rfl (by kernel_rfl) (B8_one _) ?_; intro w9 hr9 hs9))
      have hr := row_whole hr9 (by simp)
      exact bodyPost_ret_by (results_Row Tryd.results82 _ w9 w.heap.size 56 _ _ rfl hr Tryd.underlying56 rfl (by kernel_rfl)) rfl ⟨rfl, hs9.below b1 (Nat.le_refl _)⟩

section
variable {w0 : World} {B PL cap c j : Nat} {M : ByteArray} {wb mb nb : By} {L : Nat → Bool} {x22 x23 x24 x25 x26 x27 x28 x29 x30 x31 x32 x33 x34 x35 x36 : Value} {W : World}
end
end Go.Proofs.YtgpnbiaghokjkaaDoor


/-! The code's chip: Erase, Config. -/
namespace Go.Proofs.YtgpnbiaghokjkaaDoor
open Go.RowKit

end Go.Proofs.YtgpnbiaghokjkaaDoor


/-! make and copy: rows of one value; a copy over a whole row. -/
namespace Go.Proofs.YtgpnbiaghokjkaaDoor
open Go.RowKit

theorem made_same (z : Array Value) (v : Value) (n : Nat) (hz : 0 < z.size) (hv : ∀ i, (h : i < z.size) → z[i] = v) : madeCells z n = (List.replicate n v).toArray := by
  unfold madeCells
  apply Array.ext
  · simp
  · intro i h1 h2
    have hm : i % z.size < z.size := Nat.mod_lt _ hz
    simp only [Array.getElem_map, Array.getElem_range, List.getElem_toArray, List.getElem_replicate]
    rw [getElem!_pos z (i % z.size) hm]
    exact hv _ hm

/-- A slice type whose elements' zero is one value in all its cells. -/
structure ElZ (T e size bytes : Nat) (v : Value) : Prop where
  und : Tryd.prog.underlying T = some (.slice e)
  info : ∃ z, (Tryd.prog.info? e).map (fun i => (i.zero, i.size, i.bytes)) = some (some z, size, bytes) ∧ 0 < z.cells.size ∧ ∀ i, (h : i < z.cells.size) → z.cells[i] = v

theorem elz_ints : ElZ 26 3 1 8 (.int .i64 0) := ⟨Tryd.underlying26, _, el_ints.info, by simp [Value.cells], fun i h => by simp [Value.cells] at h ⊢⟩
theorem elz_bools : ElZ 27 4 1 1 (.bool false) := ⟨Tryd.underlying27, _, el_bools.info, by simp [Value.cells], fun i h => by simp [Value.cells] at h ⊢⟩
theorem elz_pages : ElZ 25 57 1 24 (.slice none 0 0) := ⟨Tryd.underlying25, _, el_pages.info, by simp [Value.cells], fun i h => by simp [Value.cells] at h ⊢⟩
theorem elz_cells : ElZ 57 56 32 32 (.int .u8 0) := ⟨Tryd.underlying57, _, el_cells.info, by simp [Value.cells], fun i h => by
  simp only [Value.cells, List.map_replicate, List.getElem_toArray, List.getElem_replicate]; rfl⟩

theorem run_make_same {T e size bytes : Nat} {v : Value} (E : ElZ T e size bytes v) (n : Nat) (hb : bytes * n ≤ 281474976710656) (h63 : n ≤ 9223372036854775807) (w : World) :
    (Instr.makeSlice T (.int .i64 (n : Int)) (.int .i64 (n : Int))).run Tryd.prog w = .ok (.slice (some ⟨w.heap.size, 0, none⟩) n n) (w.alloc (.cells (List.replicate (n * size) v).toArray e)) := by
  obtain ⟨z, hi0, hz0, hzv⟩ := E.info
  obtain ⟨i0, hi, hz1, hz2, hz3⟩ := info_parts hi0
  have hb' : (i0.bytes : Int) * (n : Int) ≤ 281474976710656 := by
    have h1 : ((bytes * n : Nat) : Int) ≤ 281474976710656 := by omega
    rw [hz3]
    rwa [Int.natCast_mul] at h1
  have hr := run_make (P := Tryd.prog) w T e i0 z E.und hi hz1 .i64 .i64 (n : Int) (n : Int) (by omega) (Int.le_refl _) hb' (by omega)
  rw [hz2, Int.toNat_natCast, made_same z.cells v _ hz0 hzv] at hr
  exact hr

theorem step_make {T e size bytes : Nat} {v : Value} (E : ElZ T e size bytes v) {ops : Array Oper} {o : Oper} {a : Act} {w : World} {K : Act → World → Prop} {Q : Exit → Act → World → Prop} {X : Prop} (hgd : o.guard = none) (x : Operand) (ho : o.op = .makeSlice T x x)
    (n : Nat) (hx : a.eval x = .int .i64 (n : Int)) (hb : bytes * n ≤ 281474976710656) (h63 : n ≤ 9223372036854775807)
    (h : K (a.put o.dst (.slice (some ⟨w.heap.size, 0, none⟩) n n)) (w.alloc (.cells (List.replicate (n * size) v).toArray e))) : if Region.wanted o (yielded ops a.tmps) = true then Oper.wp Tryd.prog o a w K Q else X := by
  have hw : Region.wanted o (yielded ops a.tmps) = true := by simp [Region.wanted, hgd]
  rw [if_pos hw]
  unfold Oper.wp execOp
  simp only [ho, hx, run_make_same E n hb h63 w, Sem.run_bind, Result.andThen_ok, Sem.run_pure]
  exact h

theorem run_copy_whole (w : World) (dT sT ty elem size : Nat) (hu : Tryd.prog.underlying dT = some (.slice elem)) (hs : (Tryd.prog.info? elem).map (·.size) = some size) (hpos : 0 < size) (g n dCap : Nat) (sp : Option Addr) (sCap : Nat) (old cs : List Value) (t : Nat)
    (hr : Row w g t old) (hl : old.length = cs.length) (hcs : cs.length = n * size) (hsrc : IsL w sp cs) (h1 : ∀ v ∈ cs, v.oneCell' = true) :
    ∃ w', (Builtin.copy_ #[dT, sT] ty #[.slice (some ⟨g, 0, none⟩) n dCap, .slice sp n sCap]).run Tryd.prog w = .ok (goInt n) w' ∧ Row w' g t cs ∧ SameBut g w w' := by
  cases hq : Tryd.prog.info? elem with
  | none => simp [hq] at hs
  | some i =>
    have hi : i.size = size := by simpa [hq] using hs
    have key : ∀ a : Addr, (∀ j v, cs[j]? = some v → w.cell? (a.add j) = some v) → ∃ w', (Builtin.copy_ #[dT, sT] ty #[.slice (some ⟨g, 0, none⟩) n dCap, .slice (some a) n sCap]).run Tryd.prog w = .ok (goInt n) w' ∧ Row w' g t cs ∧ SameBut g w w' := by
      intro a hsrc
      have hld := run_loadCells_list (P := Tryd.prog) w a cs hsrc
      have hst := run_storeCells_at Tryd.prog g 0 t cs 0 old.toArray w hr (by simp [hl]) h1
      have e : ((old.toArray.toList.take (0 + 0)) ++ cs ++ old.toArray.toList.drop (0 + 0 + cs.length)).toArray = cs.toArray := by
        have : old.drop cs.length = [] := List.drop_eq_nil_of_le (by omega)
        simp [this]
      rw [e] at hst
      refine ⟨w.setRow g cs.toArray, ?_, setRow_heap w g old.toArray cs.toArray t (0, 0) hr, ⟨rfl, rfl, rfl, by simp [World.setRow], fun k hk => setRow_other w g k _ hk⟩⟩
      simp [Builtin.copy_, run_underlying hu, Builtin.lenOf, Builtin.firstCells, sizeOf, typeInfo, hq, hi, ← hcs, hld, hst]
    rcases hsrc with h0 | ⟨B, off, rfl, hc⟩
    · subst h0
      have hn0 : n = 0 := by
        have : n * size = 0 := by rw [← hcs]; rfl
        rcases Nat.mul_eq_zero.1 this with h | h
        · exact h
        · omega
      cases sp with
      | some a => exact key a (by simp)
      | none =>
        subst hn0
        have ho : old = [] := List.eq_nil_of_length_eq_zero hl
        refine ⟨w, ?_, by rw [← ho]; exact hr, SameBut.refl _ _⟩
        simp [Builtin.copy_, run_underlying hu, Builtin.lenOf, Builtin.firstCells, sizeOf, typeInfo, hq, storeCells]
    · exact key _ (fun j v hj => by rw [Addr.add_mid]; exact hc j v hj)

theorem wpList_copy_whole {ops : Array Oper} {rest : List Oper} {o : Oper} {a : Act} {w : World} {Q : Exit → Act → World → Prop} (hgd : o.guard = none) (d s : Operand) (dT sT elem size : Nat)
    (ho : o.op = .call { callee := .builtin .copy, args := #[d, s], argTypes := #[dT, sT] }) (hu : Tryd.prog.underlying dT = some (.slice elem)) (hs : (Tryd.prog.info? elem).map (·.size) = some size) (hpos : 0 < size)
    (g n dCap : Nat) (sp : Option Addr) (sCap : Nat) (hd : a.eval d = .slice (some ⟨g, 0, none⟩) n dCap) (hsv : a.eval s = .slice sp n sCap) (old cs : List Value) (t : Nat)
    (hr : Row w g t old) (hl : old.length = cs.length) (hcs : cs.length = n * size) (hsrc : IsL w sp cs) (h1 : ∀ v ∈ cs, v.oneCell' = true)
    (h : ∀ w', Row w' g t cs → SameBut g w w' → wpList Tryd.prog ops Q rest (a.put o.dst (goInt n)) w') : wpList Tryd.prog ops Q (o :: rest) a w := by
  refine wpList_plain hgd fun K hK => ?_
  obtain ⟨w', hrun, h2, h3⟩ := run_copy_whole w dT sT o.type elem size hu hs hpos g n dCap sp sCap old cs t hr hl hcs hsrc h1
  unfold Oper.wp
  simp [execOp, ho, resolve, invoke, builtin, hd, hsv, hrun, Result.andThen]
  exact hK _ _ (h w' h2 h3)
end Go.Proofs.YtgpnbiaghokjkaaDoor
