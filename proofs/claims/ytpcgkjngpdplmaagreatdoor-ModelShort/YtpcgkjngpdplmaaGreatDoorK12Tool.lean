import Derived.Test.YtpcgkjngpdplmaaGreatDoorM19Math
import Derived.MapKept
import Derived.Test.YtpcgkjngpdplmaaGreatDoorI11CM
import Derived.Test.YtpcgkjngpdplmaaGreatDoorOpenA
import Derived.Test.YtpcgkjngpdplmaaGreatDoorMOf
import Derived.Laws.MakeOwn
import Derived.Laws.CopyOwn
import Derived.Lib.LazyBuf

/-! Maps by whole numbers: made, looked up, one key more; a ring of secrets in one. -/
namespace Go.Proofs.YtpcgkjngpdplmaaGreatDoor
open Go.RowKit
set_option linter.unusedVariables false

/-- Block b is a map of these keys and values, in the order of their coming. -/
def MpAt (w : World) (b : Nat) (ks : List (Int × Value)) : Prop := ∃ es clock, w.heap[b]? = some (.map es clock) ∧ es.toList.map (fun e => (e.key, e.val)) = ks.map fun p => (Value.int .i64 p.1, p.2)
/-- A map type by int, of elements whose zero value is z. -/
structure MpT (T e : TypeId) (z : Value) : Prop where
  und : Tryz.prog.underlying T = some (.map 3 e)
  zero : ∀ w, (zeroValue e).run Tryz.prog w = .ok z w

theorem findNow_none (key : Int) : ∀ (es : List MapEntry) (ks : List (Int × Value)) (i : Nat), es.map (fun e => (e.key, e.val)) = ks.map (fun p => (Value.int .i64 p.1, p.2)) → ks.find? (fun p => p.1 == key) = none → Instr.findNow (.int .i64) (.int .i64 key) es i = some none
  | [], _, _, _, _ => rfl
  | e :: es, [], _, h, _ => by cases h
  | e :: es, p :: ks, i, h, hf => by
    simp only [List.map_cons, List.cons.injEq, Prod.mk.injEq] at h
    obtain ⟨⟨h1, h2⟩, h3⟩ := h
    rw [List.find?_cons] at hf
    by_cases hk : (p.1 == key) = true
    · rw [hk] at hf; cases hf
    · have hk' : (p.1 == key) = false := by simpa using hk
      rw [hk'] at hf
      have hk2 : (key == p.1) = false := by
        simp at hk' ⊢
        exact fun h => hk' h.symm
      unfold Instr.findNow
      rw [h1]
      show (match (if IntKind.i64 = IntKind.i64 then some (key == p.1) else none) with | some true => _ | some false => _ | none => _) = _
      rw [if_pos rfl, hk2]
      exact findNow_none key es ks (i + 1) h3 hf
theorem findNow_some (key : Int) (v : Value) : ∀ (es : List MapEntry) (ks : List (Int × Value)) (i : Nat), es.map (fun e => (e.key, e.val)) = ks.map (fun p => (Value.int .i64 p.1, p.2)) → (ks.find? fun p => p.1 == key).map (·.2) = some v → ∃ j, Instr.findNow (.int .i64) (.int .i64 key) es i = some (some (j, v))
  | [], [], _, _, hf => by cases hf
  | [], _ :: _, _, h, _ => by cases h
  | e :: es, [], _, h, _ => by cases h
  | e :: es, p :: ks, i, h, hf => by
    simp only [List.map_cons, List.cons.injEq, Prod.mk.injEq] at h
    obtain ⟨⟨h1, h2⟩, h3⟩ := h
    rw [List.find?_cons] at hf
    unfold Instr.findNow
    rw [h1]
    by_cases hk : (p.1 == key) = true
    · rw [hk] at hf
      simp only [Option.map_some, Option.some.injEq] at hf
      have hk2 : (key == p.1) = true := by
        simp at hk ⊢
        exact hk.symm
      refine ⟨i, ?_⟩
      show (match (if IntKind.i64 = IntKind.i64 then some (key == p.1) else none) with | some true => _ | some false => _ | none => _) = _
      rw [if_pos rfl, hk2]
      show some (some (i, e.val)) = _
      rw [h2, hf]
    · have hk' : (p.1 == key) = false := by simpa using hk
      rw [hk'] at hf
      have hk2 : (key == p.1) = false := by
        simp at hk' ⊢
        exact fun h => hk' h.symm
      obtain ⟨j, hj⟩ := findNow_some key v es ks (i + 1) h3 hf
      refine ⟨j, ?_⟩
      show (match (if IntKind.i64 = IntKind.i64 then some (key == p.1) else none) with | some true => _ | some false => _ | none => _) = _
      rw [if_pos rfl, hk2]
      exact hj

theorem int_key (key : Int) : MapKept.IsKey (.int .i64) (.int .i64 key) := by simp [MapKept.IsKey]
/-- 'v, ok := m[key]'. -/
theorem look_none {T e : TypeId} {z : Value} (M : MpT T e z) {w : World} {b : Nat} {ks : List (Int × Value)} (h : MpAt w b ks) (key : Int) (hf : ks.find? (fun p => p.1 == key) = none) :
    (Instr.lookup T (.map (some b)) (.int .i64 key) true).run Tryz.prog w = .ok (.tuple #[z, .bool false]) w := by
  obtain ⟨es, clock, hb, he⟩ := h
  have h1 := findNow_none key es.toList ks 0 he hf
  simp [Instr.lookup, run_underlying M.und, MapKept.run_getObj_map hb, MapKept.run_checkKey Tryz.underlying3 (int_key key), MapKept.run_findKey Tryz.underlying3 h1, M.zero, Result.andThen]
theorem look_some {T e : TypeId} {z : Value} (M : MpT T e z) {w : World} {b : Nat} {ks : List (Int × Value)} (h : MpAt w b ks) (key : Int) (v : Value) (hf : (ks.find? fun p => p.1 == key).map (·.2) = some v) :
    (Instr.lookup T (.map (some b)) (.int .i64 key) true).run Tryz.prog w = .ok (.tuple #[v, .bool true]) w := by
  obtain ⟨es, clock, hb, he⟩ := h
  obtain ⟨j, h1⟩ := findNow_some key v es.toList ks 0 he hf
  simp [Instr.lookup, run_underlying M.und, MapKept.run_getObj_map hb, MapKept.run_checkKey Tryz.underlying3 (int_key key), MapKept.run_findKey Tryz.underlying3 h1, Result.andThen]
/-- 'm[key] = v', the key being a new one: that block alone has changed. -/
theorem update_new {T e : TypeId} {z : Value} (M : MpT T e z) {w : World} {b : Nat} {ks : List (Int × Value)} (h : MpAt w b ks) (key : Int) (v : Value) (hf : ks.find? (fun p => p.1 == key) = none) :
    ∃ w', (Instr.mapUpdate T (.map (some b)) (.int .i64 key) v).run Tryz.prog w = .ok () w' ∧ MpAt w' b (ks ++ [(key, v)]) ∧ SameBut b w w' := by
  obtain ⟨es, clock, hb, he⟩ := h
  have h1 := findNow_none key es.toList ks 0 he hf
  refine ⟨{ w with heap := w.heap.setIfInBounds b (.map (es.push { key := .int .i64 key, val := v, born := clock }) (clock + 1)) }, by simp [Instr.mapUpdate, run_underlying M.und, MapKept.run_getObj_map hb, MapKept.run_checkKey Tryz.underlying3 (int_key key), MapKept.run_findKey Tryz.underlying3 h1, MapKept.run_setObj_map _ hb, Result.andThen], ⟨_, _, (MapKept.heap_set hb).1, ?_⟩, ⟨rfl, rfl, rfl, by simp, fun j hj => (MapKept.heap_set hb).2 j hj⟩⟩
  simp [he]
theorem MpAt.lt {w : World} {b : Nat} {ks : List (Int × Value)} (h : MpAt w b ks) : b < w.heap.size := by
  obtain ⟨es, clock, hb, _⟩ := h
  exact (Array.getElem?_eq_some_iff.1 hb).1
theorem MpAt.of_block {w w' : World} {b : Nat} {ks : List (Int × Value)} (h : MpAt w b ks) (hb : w'.heap[b]? = w.heap[b]?) : MpAt w' b ks := by
  obtain ⟨es, clock, h1, h2⟩ := h
  exact ⟨es, clock, hb.trans h1, h2⟩
theorem MpAt.new (w : World) : MpAt (w.alloc (.map #[] 0)) w.heap.size [] := ⟨#[], 0, heap_alloc_new w _, rfl⟩
theorem MpAt.notRow {w : World} {b g t : Nat} {cs : List Value} {ks : List (Int × Value)} (h : MpAt w b ks) (hr : Row w g t cs) : g ≠ b := by
  obtain ⟨es, clock, h1, _⟩ := h
  intro e
  subst e
  have hr' : w.heap[g]? = some (.cells cs.toArray t (0, 0)) := hr
  rw [hr'] at h1
  cases h1

def kvs (l : Secs) (vs : List Value) : List (Int × Value) := List.zipWith (fun p v => (p.1, v)) l vs
theorem kvs_push (l : Secs) (vs : List Value) (k : Int) (b : List By) (v : Value) (h : vs.length = l.length) : kvs (l ++ [(k, b)]) (vs ++ [v]) = kvs l vs ++ [(k, v)] := by
  unfold kvs
  rw [List.zipWith_append (by omega)]; rfl
theorem fnd_cons (p : Int × List By) (l : Secs) (key : Int) : fnd (p :: l) key = if p.1 == key then some 0 else (fnd l key).map (· + 1) := by
  unfold fnd
  rw [List.findIdx?_cons]
theorem kvs_find (key : Int) : ∀ (l : Secs) (vs : List Value), vs.length = l.length → ((kvs l vs).find? fun p => p.1 == key).map (·.2) = (fnd l key).map fun i => vs.getD i undef
  | [], [], _ => rfl
  | p :: l, v :: vs, h => by
    have ih := kvs_find key l vs (by simpa using h)
    rw [fnd_cons]
    show (List.find? _ ((p.1, v) :: kvs l vs)).map _ = _
    rw [List.find?_cons]
    by_cases hk : (p.1 == key) = true
    · simp [hk]
    · have hk' : (p.1 == key) = false := by simpa using hk
      rw [hk']
      simp only
      rw [ih]
      cases fnd l key <;> simp
theorem kvs_none (key : Int) (l : Secs) (vs : List Value) (h : vs.length = l.length) (hf : (fnd l key).isSome = false) : (kvs l vs).find? (fun p => p.1 == key) = none := by
  have := kvs_find key l vs h
  cases hs : fnd l key with
  | some i => rw [hs] at hf; cases hf
  | none => rw [hs] at this; simpa using this

end Go.Proofs.YtpcgkjngpdplmaaGreatDoor


/-! Slices of numbers of one's own; the reference's Numbers. -/
namespace Go.Proofs.YtpcgkjngpdplmaaGreatDoor
open Go.RowKit
set_option linter.unusedVariables false

end Go.Proofs.YtpcgkjngpdplmaaGreatDoor


/-! The code's ring in memory; its Has. (Over a stand-in: a map of bytes by number.) -/
namespace Go.Proofs.YtpcgkjngpdplmaaGreatDoor
open Go.RowKit
set_option linter.unusedVariables false

theorem kmT : MpT 83 32 (.slice none 0 0) := ⟨Tryz.underlying83, fun w => by kernel_rfl⟩

/-- The code's ring, in blocks from N on and below M. -/
structure KgO (N M : Nat) (w : World) (g b : Nat) (vs : List Value) (l : Secs) : Prop where
  row : Row w g 85 [.map (some b)]
  mp : MpAt w b (kvs l vs)
  len : vs.length = l.length
  lo : N ≤ g ∧ g < M ∧ N ≤ b ∧ b < M
  sz : M ≤ w.heap.size
  bytes : ∀ i, i < l.length → ∃ q c, vs.getD i undef = .slice (some ⟨q, 0, none⟩) (l.getD i (0, [])).2.length c ∧ IsB w (some ⟨q, 0, none⟩) (l.getD i (0, [])).2 ∧ (l.getD i (0, [])).2.length ≤ c ∧ N ≤ q ∧ q < M
theorem IsB.of_block {w w' : World} {q off : Nat} {m : List By} (h : IsB w (some ⟨q, off, none⟩) m) (hb : w'.heap[q]? = w.heap[q]?) : IsB w' (some ⟨q, off, none⟩) m := by
  rcases h with rfl | ⟨B, o, e, hc⟩
  · exact .inl rfl
  · injection e with e
    injection e with e1 e2
    subst e1 e2
    exact .inr ⟨q, off, rfl, fun j v hj => (World.cell?_of_block (w := w) (by exact hb)).trans (hc j v hj)⟩
theorem KgO.keep {N M : Nat} {w w' : World} {g b : Nat} {vs : List Value} {l : Secs} (h : KgO N M w g b vs l) (hz : w.heap.size ≤ w'.heap.size) (hb : ∀ j, N ≤ j → j < M → w'.heap[j]? = w.heap[j]?) : KgO N M w' g b vs l where
  row := (hb g h.lo.1 h.lo.2.1).trans h.row
  mp := h.mp.of_block (hb b h.lo.2.2.1 h.lo.2.2.2)
  len := h.len
  lo := h.lo
  sz := Nat.le_trans h.sz hz
  bytes i hi := by
    obtain ⟨q, c, e, h1, h2, h3, h4⟩ := h.bytes i hi
    exact ⟨q, c, e, h1.of_block (hb q h3 h4), h2, h3, h4⟩
theorem KgO.below {N M : Nat} {w w' : World} {g b : Nat} {vs : List Value} {l : Secs} (h : KgO N M w g b vs l) (hb : Below w.heap.size w w') : KgO N M w' g b vs l :=
  h.keep hb.size fun j _ hj => hb.block j (Nat.lt_of_lt_of_le hj h.sz)

set_option maxHeartbeats 1000000 in
set_option maxRecDepth 100000 in
theorem chas_any {N M : Nat} {w : World} {g b : Nat} {vs : List Value} {l : Secs} (h : KgO N M w g b vs l) (key : Int) :
    Calls Tryz.prog 42 #[.pointer (some ⟨g, 0, none⟩), .int .i64 key] w fun e w' => e = .returned (.bool (fnd l key).isSome) ∧ w' = w := by
  have h0 := h.row.cell 0 _ rfl
  cases hf : fnd l key with
  | none =>
    have q := look_none kmT h.mp key (kvs_none key l vs h.len (by rw [hf]; rfl))
    clear h hf
    go_enter Tryz.func42, Tryz.ntmps42
    go_wp2
    go_ret
    exact ⟨rfl, rfl⟩
  | some i =>
    have q := look_some kmT h.mp key (vs.getD i undef) (by rw [kvs_find key l vs h.len, hf]; rfl)
    clear h hf
    generalize vs.getD i undef = v at q
    go_enter Tryz.func42, Tryz.ntmps42
    go_wp2
    go_ret
    exact ⟨rfl, rfl⟩

/-- What New answers. -/
def CNewPost (l : Secs) (w : World) (e : Ending) (w' : World) : Prop := Below w.heap.size w w' ∧ ((∃ (er : Int) (i : Nat), newE l = some (er, i) ∧ e = .returned (.tuple #[.pointer none, .int .i64 er, .int .i64 i])) ∨
  newE l = none ∧ ∃ g b vs, e = .returned (.tuple #[.pointer (some ⟨g, 0, none⟩), .int .i64 0, .int .i64 0]) ∧ KgO w.heap.size w'.heap.size w' g b vs l)

end Go.Proofs.YtpcgkjngpdplmaaGreatDoor


/-! A row of bytes that is made and copied into. (The same as in I11Tool, without image.) -/
namespace Go.Proofs.YtpcgkjngpdplmaaGreatDoor
open Go.RowKit
set_option linter.unusedVariables false

theorem splice_all (m b : List By) (h : b.length = m.length) : splice m 0 b = b := by
  unfold splice
  simp [h]
end Go.Proofs.YtpcgkjngpdplmaaGreatDoor
