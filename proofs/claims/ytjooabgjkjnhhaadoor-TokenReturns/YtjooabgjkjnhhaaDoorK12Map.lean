import Derived.Test.YtjooabgjkjnhhaaDoorK12Ref2
import Derived.MapKept

/-! The reference's ring in memory of its own, and one secret more. -/
namespace Go.Proofs.YtjooabgjkjnhhaaDoor
open Go.RowKit
set_option linter.unusedVariables false

theorem owns_blk {N e size : Nat} {w w' : World} {v : Value} {n : Nat} {xs : List Value} (h : w.ownsRow N e size v n xs) (hb : ∀ B, v.ownBlock = some B → w'.heap[B]? = w.heap[B]?) : w'.ownsRow N e size v n xs := by
  refine ⟨h.1, ?_⟩
  rcases h.2 with h0 | ⟨g, c, cur, e1, h1, h2, h3⟩
  · exact .inl h0
  · exact .inr ⟨g, c, cur, e1, h1, (hb g (by rw [e1]; rfl)).trans h2, h3⟩
theorem owns_ty {N e size : Nat} {w : World} {v : Value} {n : Nat} {xs : List Value} (h : w.ownsRow N e size v n xs) (B : Nat) (hB : v.ownBlock = some B) : ∃ cur, w.heap[B]? = some (.cells cur e (0, 0)) := by
  rcases h.2 with ⟨e0, _⟩ | ⟨g, c, cur, e1, h1, h2, h3⟩
  · rw [e0] at hB; cases hB
  · rw [e1] at hB
    injection hB with hB
    subst hB
    exact ⟨cur, h2⟩

def secCells : Secs → List Value → List Value
  | p :: l, v :: vs => .int .i64 p.1 :: v :: secCells l vs
  | _, _ => []
theorem secCells_push (k : Int) (b : List By) (v : Value) : ∀ (l : Secs) (vs : List Value), vs.length = l.length → secCells (l ++ [(k, b)]) (vs ++ [v]) = secCells l vs ++ [.int .i64 k, v]
  | [], [], _ => rfl
  | p :: l, x :: vs, h => by
    have := secCells_push k b v l vs (by simpa using h)
    show _ :: _ :: secCells (l ++ [(k, b)]) (vs ++ [v]) = _
    rw [this]; rfl
theorem secCells_at : ∀ (l : Secs) (vs : List Value) (i : Nat), vs.length = l.length → i < l.length → (secCells l vs)[i * 2]? = some (.int .i64 (l.getD i (0, [])).1) ∧ (secCells l vs)[i * 2 + 1]? = some (vs.getD i undef)
  | p :: l, x :: vs, 0, _, _ => ⟨rfl, rfl⟩
  | p :: l, x :: vs, i + 1, h, hi => by
    have := secCells_at l vs i (by simpa using h) (by simpa using hi)
    rw [show (i + 1) * 2 = i * 2 + 1 + 1 by omega, show i * 2 + 1 + 1 + 1 = (i * 2 + 1) + 1 + 1 by omega]
    exact this

end Go.Proofs.YtjooabgjkjnhhaaDoor


/-! Maps by whole numbers: made, looked up, one key more; a ring of secrets in one. -/
namespace Go.Proofs.YtjooabgjkjnhhaaDoor
open Go.RowKit
set_option linter.unusedVariables false

/-- Block b is a map of these keys and values, in the order of their coming. -/
def MpAt (w : World) (b : Nat) (ks : List (Int × Value)) : Prop := ∃ es clock, w.heap[b]? = some (.map es clock) ∧ es.toList.map (fun e => (e.key, e.val)) = ks.map fun p => (Value.int .i64 p.1, p.2)
/-- A map type by int, of elements whose zero value is z. -/
structure MpT (T e : TypeId) (z : Value) : Prop where
  und : Tryd.prog.underlying T = some (.map 3 e)
  zero : ∀ w, (zeroValue e).run Tryd.prog w = .ok z w

theorem findNow_none (key : Int) : ∀ (es : List MapEntry) (ks : List (Int × Value)) (i : Nat), es.map (fun e => (e.key, e.val)) = ks.map (fun p => (Value.int .i64 p.1, p.2)) → ks.find? (fun p => p.1 == key) = none → Instr.findNow (.int .i64) (.int .i64 key) es i = some none
  | [], _, _, _, _ => rfl
  | e :: es, [], _, h, _ => by cases h
  | e :: es, p :: ks, i, h, hf => by
    simp only [List.map_cons, List.cons.injEq, Prod.mk.injEq] at h
    obtain ⟨⟨h1, h2⟩, h3⟩ := h
    rw [List.find?_cons] at hf
    by_cases hk : (p.1 == key) = true
    · rw [hk] at hf; cases hf
    · have hk' : (p.1 == key) = false := by simpa using hk
      rw [hk'] at hf
      have hk2 : (key == p.1) = false := by
        simp at hk' ⊢
        exact fun h => hk' h.symm
      unfold Instr.findNow
      rw [h1]
      show (match (if IntKind.i64 = IntKind.i64 then some (key == p.1) else none) with | some true => _ | some false => _ | none => _) = _
      rw [if_pos rfl, hk2]
      exact findNow_none key es ks (i + 1) h3 hf
theorem findNow_some (key : Int) (v : Value) : ∀ (es : List MapEntry) (ks : List (Int × Value)) (i : Nat), es.map (fun e => (e.key, e.val)) = ks.map (fun p => (Value.int .i64 p.1, p.2)) → (ks.find? fun p => p.1 == key).map (·.2) = some v → ∃ j, Instr.findNow (.int .i64) (.int .i64 key) es i = some (some (j, v))
  | [], [], _, _, hf => by cases hf
  | [], _ :: _, _, h, _ => by cases h
  | e :: es, [], _, h, _ => by cases h
  | e :: es, p :: ks, i, h, hf => by
    simp only [List.map_cons, List.cons.injEq, Prod.mk.injEq] at h
    obtain ⟨⟨h1, h2⟩, h3⟩ := h
    rw [List.find?_cons] at hf
    unfold Instr.findNow
    rw [h1]
    by_cases hk : (p.1 == key) = true
    · rw [hk] at hf
      simp only [Option.map_some, Option.some.injEq] at hf
      have hk2 : (key == p.1) = true := by
        simp at hk ⊢
        exact hk.symm
      refine ⟨i, ?_⟩
      show (match (if IntKind.i64 = IntKind.i64 then some (key == p.1) else none) with | some true => _ | some false => _ | none => _) = _
      rw [if_pos rfl, hk2]
      show some (some (i, e.val)) = _
      rw [h2, hf]
    · have hk' : (p.1 == key) = false := by simpa using hk
      rw [hk'] at hf
      have hk2 : (key == p.1) = false := by
        simp at hk' ⊢
        exact fun h => hk' h.symm
      obtain ⟨j, hj⟩ := findNow_some key v es ks (i + 1) h3 hf
      refine ⟨j, ?_⟩
      show (match (if IntKind.i64 = IntKind.i64 then some (key == p.1) else none) with | some true => _ | some false => _ | none => _) = _
      rw [if_pos rfl, hk2]
      exact hj

theorem int_key (key : Int) : MapKept.IsKey (.int .i64) (.int .i64 key) := by simp [MapKept.IsKey]
/-- 'v, ok := m[key]'. -/
theorem look_none {T e : TypeId} {z : Value} (M : MpT T e z) {w : World} {b : Nat} {ks : List (Int × Value)} (h : MpAt w b ks) (key : Int) (hf : ks.find? (fun p => p.1 == key) = none) :
    (Instr.lookup T (.map (some b)) (.int .i64 key) true).run Tryd.prog w = .ok (.tuple #[z, .bool false]) w := by
  obtain ⟨es, clock, hb, he⟩ := h
  have h1 := findNow_none key es.toList ks 0 he hf
  simp [Instr.lookup, run_underlying M.und, MapKept.run_getObj_map hb, MapKept.run_checkKey Tryd.underlying3 (int_key key), MapKept.run_findKey Tryd.underlying3 h1, M.zero, Result.andThen]
theorem look_some {T e : TypeId} {z : Value} (M : MpT T e z) {w : World} {b : Nat} {ks : List (Int × Value)} (h : MpAt w b ks) (key : Int) (v : Value) (hf : (ks.find? fun p => p.1 == key).map (·.2) = some v) :
    (Instr.lookup T (.map (some b)) (.int .i64 key) true).run Tryd.prog w = .ok (.tuple #[v, .bool true]) w := by
  obtain ⟨es, clock, hb, he⟩ := h
  obtain ⟨j, h1⟩ := findNow_some key v es.toList ks 0 he hf
  simp [Instr.lookup, run_underlying M.und, MapKept.run_getObj_map hb, MapKept.run_checkKey Tryd.underlying3 (int_key key), MapKept.run_findKey Tryd.underlying3 h1, Result.andThen]
/-- 'm[key] = v', the key being a new one: that block alone has changed. -/
theorem update_new {T e : TypeId} {z : Value} (M : MpT T e z) {w : World} {b : Nat} {ks : List (Int × Value)} (h : MpAt w b ks) (key : Int) (v : Value) (hf : ks.find? (fun p => p.1 == key) = none) :
    ∃ w', (Instr.mapUpdate T (.map (some b)) (.int .i64 key) v).run Tryd.prog w = .ok () w' ∧ MpAt w' b (ks ++ [(key, v)]) ∧ SameBut b w w' := by
  obtain ⟨es, clock, hb, he⟩ := h
  have h1 := findNow_none key es.toList ks 0 he hf
  refine ⟨{ w with heap := w.heap.setIfInBounds b (.map (es.push { key := .int .i64 key, val := v, born := clock }) (clock + 1)) }, by simp [Instr.mapUpdate, run_underlying M.und, MapKept.run_getObj_map hb, MapKept.run_checkKey Tryd.underlying3 (int_key key), MapKept.run_findKey Tryd.underlying3 h1, MapKept.run_setObj_map _ hb, Result.andThen], ⟨_, _, (MapKept.heap_set hb).1, ?_⟩, ⟨rfl, rfl, rfl, by simp, fun j hj => (MapKept.heap_set hb).2 j hj⟩⟩
  simp [he]
theorem MpAt.lt {w : World} {b : Nat} {ks : List (Int × Value)} (h : MpAt w b ks) : b < w.heap.size := by
  obtain ⟨es, clock, hb, _⟩ := h
  exact (Array.getElem?_eq_some_iff.1 hb).1
theorem MpAt.of_block {w w' : World} {b : Nat} {ks : List (Int × Value)} (h : MpAt w b ks) (hb : w'.heap[b]? = w.heap[b]?) : MpAt w' b ks := by
  obtain ⟨es, clock, h1, h2⟩ := h
  exact ⟨es, clock, hb.trans h1, h2⟩
theorem MpAt.new (w : World) : MpAt (w.alloc (.map #[] 0)) w.heap.size [] := ⟨#[], 0, heap_alloc_new w _, rfl⟩
theorem MpAt.notRow {w : World} {b g t : Nat} {cs : List Value} {ks : List (Int × Value)} (h : MpAt w b ks) (hr : Row w g t cs) : g ≠ b := by
  obtain ⟨es, clock, h1, _⟩ := h
  intro e
  subst e
  have hr' : w.heap[g]? = some (.cells cs.toArray t (0, 0)) := hr
  rw [hr'] at h1
  cases h1

def kvs (l : Secs) (vs : List Value) : List (Int × Value) := List.zipWith (fun p v => (p.1, v)) l vs
theorem kvs_push (l : Secs) (vs : List Value) (k : Int) (b : List By) (v : Value) (h : vs.length = l.length) : kvs (l ++ [(k, b)]) (vs ++ [v]) = kvs l vs ++ [(k, v)] := by
  unfold kvs
  rw [List.zipWith_append (by omega)]; rfl
theorem fnd_cons (p : Int × List By) (l : Secs) (key : Int) : fnd (p :: l) key = if p.1 == key then some 0 else (fnd l key).map (· + 1) := by
  unfold fnd
  rw [List.findIdx?_cons]
theorem kvs_find (key : Int) : ∀ (l : Secs) (vs : List Value), vs.length = l.length → ((kvs l vs).find? fun p => p.1 == key).map (·.2) = (fnd l key).map fun i => vs.getD i undef
  | [], [], _ => rfl
  | p :: l, v :: vs, h => by
    have ih := kvs_find key l vs (by simpa using h)
    rw [fnd_cons]
    show (List.find? _ ((p.1, v) :: kvs l vs)).map _ = _
    rw [List.find?_cons]
    by_cases hk : (p.1 == key) = true
    · simp [hk]
    · have hk' : (p.1 == key) = false := by simpa using hk
      rw [hk']
      simp only
      rw [ih]
      cases fnd l key <;> simp
theorem kvs_none (key : Int) (l : Secs) (vs : List Value) (h : vs.length = l.length) (hf : (fnd l key).isSome = false) : (kvs l vs).find? (fun p => p.1 == key) = none := by
  have := kvs_find key l vs h
  cases hs : fnd l key with
  | some i => rw [hs] at hf; cases hf
  | none => rw [hs] at this; simpa using this

end Go.Proofs.YtjooabgjkjnhhaaDoor
