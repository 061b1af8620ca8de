
import Derived.Test.YtgpnbiaghokjkaaDoorC4Erase
import Derived.Laws.MakeOwn
import Derived.Laws.CopyOwn
/-! make and copy: rows of one value; a copy over a whole row. -/
namespace Go.Proofs.YtgpnbiaghokjkaaDoor
open Go.RowKit

theorem made_same (z : Array Value) (v : Value) (n : Nat) (hz : 0 < z.size) (hv : ∀ i, (h : i < z.size) → z[i] = v) : madeCells z n = (List.replicate n v).toArray := by
  unfold madeCells
  apply Array.ext
  · simp
  · intro i h1 h2
    have hm : i % z.size < z.size := Nat.mod_lt _ hz
    simp only [Array.getElem_map, Array.getElem_range, List.getElem_toArray, List.getElem_replicate]
    rw [getElem!_pos z (i % z.size) hm]
    exact hv _ hm

/-- A slice type whose elements' zero is one value in all its cells. -/
structure ElZ (T e size bytes : Nat) (v : Value) : Prop where
  und : Tryd.prog.underlying T = some (.slice e)
  info : ∃ z, (Tryd.prog.info? e).map (fun i => (i.zero, i.size, i.bytes)) = some (some z, size, bytes) ∧ 0 < z.cells.size ∧ ∀ i, (h : i < z.cells.size) → z.cells[i] = v

theorem elz_ints : ElZ 26 3 1 8 (.int .i64 0) := ⟨Tryd.underlying26, _, el_ints.info, by simp [Value.cells], fun i h => by simp [Value.cells] at h ⊢⟩
theorem elz_bools : ElZ 27 4 1 1 (.bool false) := ⟨Tryd.underlying27, _, el_bools.info, by simp [Value.cells], fun i h => by simp [Value.cells] at h ⊢⟩
theorem elz_pages : ElZ 25 57 1 24 (.slice none 0 0) := ⟨Tryd.underlying25, _, el_pages.info, by simp [Value.cells], fun i h => by simp [Value.cells] at h ⊢⟩
theorem elz_cells : ElZ 57 56 32 32 (.int .u8 0) := ⟨Tryd.underlying57, _, el_cells.info, by simp [Value.cells], fun i h => by
  simp only [Value.cells, List.map_replicate, List.getElem_toArray, List.getElem_replicate]; rfl⟩

theorem run_make_same {T e size bytes : Nat} {v : Value} (E : ElZ T e size bytes v) (n : Nat) (hb : bytes * n ≤ 281474976710656) (h63 : n ≤ 9223372036854775807) (w : World) :
    (Instr.makeSlice T (.int .i64 (n : Int)) (.int .i64 (n : Int))).run Tryd.prog w = .ok (.slice (some ⟨w.heap.size, 0, none⟩) n n) (w.alloc (.cells (List.replicate (n * size) v).toArray e)) := by
  obtain ⟨z, hi0, hz0, hzv⟩ := E.info
  obtain ⟨i0, hi, hz1, hz2, hz3⟩ := info_parts hi0
  have hb' : (i0.bytes : Int) * (n : Int) ≤ 281474976710656 := by
    have h1 : ((bytes * n : Nat) : Int) ≤ 281474976710656 := by omega
    rw [hz3]
    rwa [Int.natCast_mul] at h1
  have hr := run_make (P := Tryd.prog) w T e i0 z E.und hi hz1 .i64 .i64 (n : Int) (n : Int) (by omega) (Int.le_refl _) hb' (by omega)
  rw [hz2, Int.toNat_natCast, made_same z.cells v _ hz0 hzv] at hr
  exact hr

theorem step_make {T e size bytes : Nat} {v : Value} (E : ElZ T e size bytes v) {ops : Array Oper} {o : Oper} {a : Act} {w : World} {K : Act → World → Prop} {Q : Exit → Act → World → Prop} {X : Prop} (hgd : o.guard = none) (x : Operand) (ho : o.op = .makeSlice T x x)
    (n : Nat) (hx : a.eval x = .int .i64 (n : Int)) (hb : bytes * n ≤ 281474976710656) (h63 : n ≤ 9223372036854775807)
    (h : K (a.put o.dst (.slice (some ⟨w.heap.size, 0, none⟩) n n)) (w.alloc (.cells (List.replicate (n * size) v).toArray e))) : if Region.wanted o (yielded ops a.tmps) = true then Oper.wp Tryd.prog o a w K Q else X := by
  have hw : Region.wanted o (yielded ops a.tmps) = true := by simp [Region.wanted, hgd]
  rw [if_pos hw]
  unfold Oper.wp execOp
  simp only [ho, hx, run_make_same E n hb h63 w, Sem.run_bind, Result.andThen_ok, Sem.run_pure]
  exact h

theorem run_copy_whole (w : World) (dT sT ty elem size : Nat) (hu : Tryd.prog.underlying dT = some (.slice elem)) (hs : (Tryd.prog.info? elem).map (·.size) = some size) (hpos : 0 < size) (g n dCap : Nat) (sp : Option Addr) (sCap : Nat) (old cs : List Value) (t : Nat)
    (hr : Row w g t old) (hl : old.length = cs.length) (hcs : cs.length = n * size) (hsrc : IsL w sp cs) (h1 : ∀ v ∈ cs, v.oneCell' = true) :
    ∃ w', (Builtin.copy_ #[dT, sT] ty #[.slice (some ⟨g, 0, none⟩) n dCap, .slice sp n sCap]).run Tryd.prog w = .ok (goInt n) w' ∧ Row w' g t cs ∧ SameBut g w w' := by
  cases hq : Tryd.prog.info? elem with
  | none => simp [hq] at hs
  | some i =>
    have hi : i.size = size := by simpa [hq] using hs
    have key : ∀ a : Addr, (∀ j v, cs[j]? = some v → w.cell? (a.add j) = some v) → ∃ w', (Builtin.copy_ #[dT, sT] ty #[.slice (some ⟨g, 0, none⟩) n dCap, .slice (some a) n sCap]).run Tryd.prog w = .ok (goInt n) w' ∧ Row w' g t cs ∧ SameBut g w w' := by
      intro a hsrc
      have hld := run_loadCells_list (P := Tryd.prog) w a cs hsrc
      have hst := run_storeCells_at Tryd.prog g 0 t cs 0 old.toArray w hr (by simp [hl]) h1
      have e : ((old.toArray.toList.take (0 + 0)) ++ cs ++ old.toArray.toList.drop (0 + 0 + cs.length)).toArray = cs.toArray := by
        have : old.drop cs.length = [] := List.drop_eq_nil_of_le (by omega)
        simp [this]
      rw [e] at hst
      refine ⟨w.setRow g cs.toArray, ?_, setRow_heap w g old.toArray cs.toArray t (0, 0) hr, ⟨rfl, rfl, rfl, by simp [World.setRow], fun k hk => setRow_other w g k _ hk⟩⟩
      simp [Builtin.copy_, run_underlying hu, Builtin.lenOf, Builtin.firstCells, sizeOf, typeInfo, hq, hi, ← hcs, hld, hst]
    rcases hsrc with h0 | ⟨B, off, rfl, hc⟩
    · subst h0
      have hn0 : n = 0 := by
        have : n * size = 0 := by rw [← hcs]; rfl
        rcases Nat.mul_eq_zero.1 this with h | h
        · exact h
        · omega
      cases sp with
      | some a => exact key a (by simp)
      | none =>
        subst hn0
        have ho : old = [] := List.eq_nil_of_length_eq_zero hl
        refine ⟨w, ?_, by rw [← ho]; exact hr, SameBut.refl _ _⟩
        simp [Builtin.copy_, run_underlying hu, Builtin.lenOf, Builtin.firstCells, sizeOf, typeInfo, hq, storeCells]
    · exact key _ (fun j v hj => by rw [Addr.add_mid]; exact hc j v hj)

theorem wpList_copy_whole {ops : Array Oper} {rest : List Oper} {o : Oper} {a : Act} {w : World} {Q : Exit → Act → World → Prop} (hgd : o.guard = none) (d s : Operand) (dT sT elem size : Nat)
    (ho : o.op = .call { callee := .builtin .copy, args := #[d, s], argTypes := #[dT, sT] }) (hu : Tryd.prog.underlying dT = some (.slice elem)) (hs : (Tryd.prog.info? elem).map (·.size) = some size) (hpos : 0 < size)
    (g n dCap : Nat) (sp : Option Addr) (sCap : Nat) (hd : a.eval d = .slice (some ⟨g, 0, none⟩) n dCap) (hsv : a.eval s = .slice sp n sCap) (old cs : List Value) (t : Nat)
    (hr : Row w g t old) (hl : old.length = cs.length) (hcs : cs.length = n * size) (hsrc : IsL w sp cs) (h1 : ∀ v ∈ cs, v.oneCell' = true)
    (h : ∀ w', Row w' g t cs → SameBut g w w' → wpList Tryd.prog ops Q rest (a.put o.dst (goInt n)) w') : wpList Tryd.prog ops Q (o :: rest) a w := by
  refine wpList_plain hgd fun K hK => ?_
  obtain ⟨w', hrun, h2, h3⟩ := run_copy_whole w dT sT o.type elem size hu hs hpos g n dCap sp sCap old cs t hr hl hcs hsrc h1
  unfold Oper.wp
  simp [execOp, ho, resolve, invoke, builtin, hd, hsv, hrun, Result.andThen]
  exact hK _ _ (h w' h2 h3)
end Go.Proofs.YtgpnbiaghokjkaaDoor
