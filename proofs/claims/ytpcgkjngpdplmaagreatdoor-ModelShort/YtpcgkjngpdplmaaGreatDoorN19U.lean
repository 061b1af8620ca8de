import Derived.Test.YtpcgkjngpdplmaaGreatDoorN19Q
import Derived.MapKept
import Derived.Test.YtpcgkjngpdplmaaGreatDoorN19L

/-! The code's model: numbers by bytes: a map by strings. (Printed by tools/genn19.py.) -/
namespace Go.Proofs.YtpcgkjngpdplmaaGreatDoor
open Go.RowKit
set_option linter.unusedVariables false
set_option linter.unusedSimpArgs false

theorem strData (bs : List By) : ∀ r : ByteArray, ((bs.map fun b => (b.toNat : Int)).foldl (fun r n => r.push (UInt8.ofNat n.toNat)) r).data.toList = r.data.toList ++ bs.map (fun b => UInt8.ofNat b.toNat) := by
  induction bs with
  | nil => intro r; simp
  | cons b t ih =>
    intro r
    rw [List.map_cons, List.foldl_cons, ih]
    simp [ByteArray.push]
theorem u8Inj {a b : By} (h : UInt8.ofNat a.toNat = UInt8.ofNat b.toNat) : a = b := by
  have := congrArg UInt8.toNat h
  rw [UInt8.toNat_ofNat', UInt8.toNat_ofNat'] at this
  have h1 := b8_lt a
  have h2 := b8_lt b
  exact BitVec.eq_of_toNat_eq (by omega)
theorem strInj {a b : List By} (h0 : strOf a = strOf b) : a = b := by
  have h1 := strData a ByteArray.empty
  have h2 := strData b ByteArray.empty
  have h : (strOf a).data.toList = (strOf b).data.toList := congrArg (fun s => s.data.toList) h0
  unfold strOf at h
  rw [h1, h2] at h
  have h4 : a.map (fun b => UInt8.ofNat b.toNat) = b.map (fun b => UInt8.ofNat b.toNat) := List.append_cancel_left h
  clear h h0 h1 h2
  induction a generalizing b with
  | nil => cases b with | nil => rfl | cons _ _ => simp at h4
  | cons x t ih =>
    cases b with
    | nil => simp at h4
    | cons y u =>
      simp only [List.map_cons, List.cons.injEq] at h4
      rw [u8Inj h4.1, ih h4.2]
/-- The entries for bytes, from the number k on. -/
def msE : List (List By) → Nat → List (Value × Value)
  | [], _ => []
  | b :: B, k => (.string (strOf b), .int .i64 ((k + 1 : Nat) : Int)) :: msE B (k + 1)
theorem msE_append : ∀ (B : List (List By)) (k : Nat) (b : List By), msE (B ++ [b]) k = msE B k ++ [(.string (strOf b), .int .i64 ((k + B.length + 1 : Nat) : Int))]
  | [], k, b => rfl
  | x :: B, k, b => by
    show _ :: msE (B ++ [b]) (k + 1) = _
    rw [msE_append B (k + 1) b, List.length_cons, show k + 1 + B.length + 1 = k + (B.length + 1) + 1 by omega]
    rfl
/-- Block nb is a map of these bytes and their numbers. -/
def MsAt (w : World) (nb : Nat) (B : List (List By)) : Prop := ∃ es clock, w.heap[nb]? = some (.map es clock) ∧ es.toList.map (fun e => (e.key, e.val)) = msE B 0
theorem ms_same (a b : List By) : Instr.sameNow .string (.string (strOf a)) (.string (strOf b)) = some (decide (a = b)) := by
  obtain ⟨r, h1, h2⟩ := MapKept.sameNow_of_keys (d := .string) (a := .string (strOf a)) (b := .string (strOf b)) (by simp [MapKept.IsKey]) (by simp [MapKept.IsKey])
  rw [h1]
  congr 1
  rw [Bool.eq_iff_iff, h2, decide_eq_true_iff]
  exact ⟨fun h => strInj (by injection h), fun h => by rw [h]⟩
theorem ms_none (b : List By) : ∀ (es : List MapEntry) (B : List (List By)) (k i : Nat), es.map (fun e => (e.key, e.val)) = msE B k → B.findIdx? (· == b) = none → Instr.findNow .string (.string (strOf b)) es i = some none
  | [], _, _, _, _, _ => rfl
  | e :: es, [], _, _, h, _ => by cases h
  | e :: es, x :: B, k, i, h, hf => by
    unfold msE at h
    simp only [List.map_cons, List.cons.injEq, Prod.mk.injEq] at h
    obtain ⟨⟨h1, h2⟩, h3⟩ := h
    rw [List.findIdx?_cons] at hf
    by_cases hx : (x == b) = true
    · rw [if_pos hx] at hf; cases hf
    · rw [if_neg hx] at hf
      have hx2 : ¬ b = x := fun e => hx (by rw [e]; simp)
      unfold Instr.findNow
      rw [h1, ms_same, decide_eq_false hx2]
      exact ms_none b es B (k + 1) (i + 1) h3 (by cases hq : B.findIdx? (· == b) with | none => rfl | some j => rw [hq] at hf; cases hf)
theorem ms_some (b : List By) : ∀ (es : List MapEntry) (B : List (List By)) (k i j : Nat), es.map (fun e => (e.key, e.val)) = msE B k → B.findIdx? (· == b) = some j → ∃ q, Instr.findNow .string (.string (strOf b)) es i = some (some (q, .int .i64 ((k + j + 1 : Nat) : Int)))
  | [], [], _, _, _, _, hf => by cases hf
  | [], x :: B, _, _, _, h, _ => by cases h
  | e :: es, [], _, _, _, h, _ => by cases h
  | e :: es, x :: B, k, i, j, h, hf => by
    unfold msE at h
    simp only [List.map_cons, List.cons.injEq, Prod.mk.injEq] at h
    obtain ⟨⟨h1, h2⟩, h3⟩ := h
    rw [List.findIdx?_cons] at hf
    unfold Instr.findNow
    by_cases hx : (x == b) = true
    · rw [if_pos hx] at hf
      injection hf with hf
      subst hf
      have hx2 : b = x := by simpa using (beq_iff_eq.1 hx).symm
      rw [h1, ms_same, decide_eq_true hx2]
      exact ⟨i, by show some (some (i, e.val)) = _; rw [h2, Nat.add_zero]⟩
    · rw [if_neg hx] at hf
      have hx2 : ¬ b = x := fun e => hx (by rw [e]; simp)
      rw [h1, ms_same, decide_eq_false hx2]
      cases hq : B.findIdx? (· == b) with
      | none => rw [hq] at hf; cases hf
      | some j' =>
        rw [hq] at hf
        simp only [Option.map_some, Option.some.injEq] at hf
        obtain ⟨q, hj⟩ := ms_some b es B (k + 1) (i + 1) j' h3 hq
        exact ⟨q, by rw [← hf, show k + (j' + 1) + 1 = k + 1 + j' + 1 by omega]; exact hj⟩
theorem str_key (s : ByteArray) : MapKept.IsKey .string (.string s) := by simp [MapKept.IsKey]
theorem ms_look_none {w : World} {nb : Nat} {B : List (List By)} (h : MsAt w nb B) (b : List By) (hf : B.findIdx? (· == b) = none) :
    (Instr.lookup 93 (.map (some nb)) (.string (strOf b)) true).run Tryz.prog w = .ok (.tuple #[.int .i64 0, .bool false]) w := by
  obtain ⟨es, clock, hb, he⟩ := h
  have h1 := ms_none b es.toList B 0 0 he hf
  have hz : (zeroValue 3).run Tryz.prog w = .ok (.int .i64 0) w := by kernel_rfl
  simp [Instr.lookup, run_underlying Tryz.underlying93, MapKept.run_getObj_map hb, MapKept.run_checkKey Tryz.underlying9 (str_key _), MapKept.run_findKey Tryz.underlying9 h1, hz, Result.andThen]
theorem ms_look_some {w : World} {nb : Nat} {B : List (List By)} (h : MsAt w nb B) (b : List By) (j : Nat) (hf : B.findIdx? (· == b) = some j) :
    (Instr.lookup 93 (.map (some nb)) (.string (strOf b)) true).run Tryz.prog w = .ok (.tuple #[.int .i64 ((j + 1 : Nat) : Int), .bool true]) w := by
  obtain ⟨es, clock, hb, he⟩ := h
  obtain ⟨q, h1⟩ := ms_some b es.toList B 0 0 j he hf
  rw [Nat.zero_add] at h1
  simp [Instr.lookup, run_underlying Tryz.underlying93, MapKept.run_getObj_map hb, MapKept.run_checkKey Tryz.underlying9 (str_key _), MapKept.run_findKey Tryz.underlying9 h1, Result.andThen]
theorem ms_update {w : World} {nb : Nat} {B : List (List By)} (h : MsAt w nb B) (b : List By) (hf : B.findIdx? (· == b) = none) :
    ∃ w', (Instr.mapUpdate 93 (.map (some nb)) (.string (strOf b)) (.int .i64 ((B.length + 1 : Nat) : Int))).run Tryz.prog w = .ok () w' ∧ MsAt w' nb (B ++ [b]) ∧ SameBut nb w w' := by
  obtain ⟨es, clock, hb, he⟩ := h
  have h1 := ms_none b es.toList B 0 0 he hf
  refine ⟨{ w with heap := w.heap.setIfInBounds nb (.map (es.push { key := .string (strOf b), val := .int .i64 ((B.length + 1 : Nat) : Int), born := clock }) (clock + 1)) }, by simp [Instr.mapUpdate, run_underlying Tryz.underlying93, MapKept.run_getObj_map hb, MapKept.run_checkKey Tryz.underlying9 (str_key _), MapKept.run_findKey Tryz.underlying9 h1, MapKept.run_setObj_map _ hb, Result.andThen], ⟨_, _, (MapKept.heap_set hb).1, ?_⟩, ⟨rfl, rfl, rfl, by simp, fun j hj => (MapKept.heap_set hb).2 j hj⟩⟩
  rw [msE_append]
  simp [he]
theorem MsAt.lt {w : World} {b : Nat} {B : List (List By)} (h : MsAt w b B) : b < w.heap.size := by
  obtain ⟨es, clock, hb, _⟩ := h
  exact (Array.getElem?_eq_some_iff.1 hb).1
theorem MsAt.of_block {w w' : World} {b : Nat} {B : List (List By)} (h : MsAt w b B) (hb : w'.heap[b]? = w.heap[b]?) : MsAt w' b B := by
  obtain ⟨es, clock, h1, h2⟩ := h
  exact ⟨es, clock, hb.trans h1, h2⟩
theorem MsAt.new (w : World) : MsAt (w.alloc (.map #[] 0)) w.heap.size [] := ⟨#[], 0, heap_alloc_new w _, rfl⟩
theorem MsAt.notRow {w : World} {b g t : Nat} {cs : List Value} {B : List (List By)} (h : MsAt w b B) (hr : Row w g t cs) : g ≠ b := by
  rintro rfl
  obtain ⟨es, clock, h1, _⟩ := h
  have h2 : w.heap[g]? = _ := hr
  rw [h1] at h2
  injection h2 with h2
  cases h2
theorem step_ms_update {ops : Array Oper} {o : Oper} {a : Act} {w : World} {K : Act → World → Prop} {Q : Exit → Act → World → Prop} {X : Prop} (hgd : o.guard = none) (m x y : Operand) (ho : o.op = .mapUpdate 93 m x y)
    (nb : Nat) (B : List (List By)) (b : List By) (hm : a.eval m = .map (some nb)) (hx : a.eval x = .string (strOf b)) (hy : a.eval y = .int .i64 ((B.length + 1 : Nat) : Int)) (h : MsAt w nb B) (hf : B.findIdx? (· == b) = none)
    (hK : ∀ w', MsAt w' nb (B ++ [b]) → SameBut nb w w' → K (a.put o.dst undef) w') : if Region.wanted o (yielded ops a.tmps) = true then Oper.wp Tryz.prog o a w K Q else X := by
  have hw : Region.wanted o (yielded ops a.tmps) = true := by simp [Region.wanted, hgd]
  rw [if_pos hw]
  obtain ⟨w', hrun, h2, h3⟩ := ms_update h b hf
  unfold Oper.wp execOp
  simp only [ho, hm, hx, hy, Sem.run_bind, Sem.run_pure, hrun, Result.andThen_ok]
  exact hK w' h2 h3
end Go.Proofs.YtpcgkjngpdplmaaGreatDoor


/-! The code's model in memory; lay. (Printed by tools/genn19.py.) -/
namespace Go.Proofs.YtpcgkjngpdplmaaGreatDoor
open Go.RowKit Go.Maps
set_option linter.unusedVariables false
set_option linter.unusedSimpArgs false

/-- What was staged, cell by cell. -/
def flS (c : Cfg) (l : Secs) (B : List (List By)) : List Value := (fdC ⟨5, false, 0, 0, 0⟩ ++ zH.map B8) ++ B.flatMap fun b => fdC (findC c l b) ++ (sha b).map B8
theorem flS_len (c : Cfg) (l : Secs) (B : List (List By)) : (flS c l B).length = (B.length + 1) * 37 := by
  have : (B.flatMap fun b => fdC (findC c l b) ++ (sha b).map B8).length = B.length * 37 := by
    induction B with
    | nil => rfl
    | cons b B ih => rw [List.flatMap_cons, List.length_append, ih, List.length_append, List.length_map, sha_len]; show 5 + 32 + _ = _; rw [List.length_cons]; omega
  unfold flS
  rw [List.length_append, this]
  show 37 + _ = _
  omega
theorem flS_push (c : Cfg) (l : Secs) (B : List (List By)) (b : List By) : flS c l (B ++ [b]) = flS c l B ++ (fdC (findC c l b) ++ (sha b).map B8) := by unfold flS; rw [List.flatMap_append, ← List.append_assoc]; simp
theorem fl_part (f : List By → List Value) (hf : ∀ b, (f b).length = 37) : ∀ (B : List (List By)) (k : Nat) (h : k < B.length), ((B.flatMap f).drop (k * 37)).take 37 = f B[k]
  | [], k, h => by simp at h
  | b :: B, 0, h => by rw [List.flatMap_cons, Nat.zero_mul, List.drop_zero, List.take_append_of_le_length (by rw [hf]; omega), List.take_of_length_le (by rw [hf]; omega)]; rfl
  | b :: B, k + 1, h => by
    rw [List.flatMap_cons, Nat.succ_mul, List.drop_append, List.drop_of_length_le (by rw [hf]; omega), List.nil_append, hf, Nat.add_sub_cancel]
    exact fl_part f hf B k (by simpa using h)
theorem flS_part (c : Cfg) (l : Secs) (B : List (List By)) (k : Nat) (h : k ≤ B.length) : ((flS c l B).drop (k * 37)).take 37 = sgC c l B k := by
  have hf : ∀ b : List By, (fdC (findC c l b) ++ (sha b).map B8).length = 37 := fun b => by rw [List.length_append, List.length_map, sha_len]; rfl
  unfold flS sgC stg
  cases k with
  | zero => rw [if_pos rfl, Nat.zero_mul, List.drop_zero]; rfl
  | succ k =>
    rw [if_neg (by omega), Nat.succ_mul, List.drop_append, List.drop_of_length_le (by show 37 ≤ _; omega), List.nil_append]
    show ((B.flatMap _).drop (k * 37 + 37 - 37)).take 37 = _
    rw [Nat.add_sub_cancel, fl_part _ hf B k (by omega), Nat.add_sub_cancel]
    simp [List.getD, show k < B.length by omega]
def mdC (c : Cfg) (rg : Nat) (sl : Value) (nb : Nat) : List Value := c.vals ++ [.pointer (some ⟨rg, 0, none⟩), .int .i64 c.last, .int .i64 c.size19, sl, .map (some nb)]
/-- The model in memory, in blocks from N on; the ring below. -/
structure MdM (N : Nat) (w : World) (mg rg nb so cap : Nat) (c : Cfg) (l : Secs) (B : List (List By)) : Prop where
  row : Row w mg 95 (mdC c rg (.slice (some ⟨so, 0, none⟩) (B.length + 1) cap) nb)
  ring : ∃ K b0 vs, KgO K N w rg b0 vs l
  l256 : ∀ i, i < l.length → (l.getD i (0, [])).2.length ≤ 256
  own : w.ownsRow N 91 37 (.slice (some ⟨so, 0, none⟩) (B.length + 1) cap) (B.length + 1) (flS c l B)
  num : MsAt w nb B
  lo : N ≤ mg ∧ N ≤ nb
theorem MdM.fd {N : Nat} {w : World} {mg rg nb so cap : Nat} {c : Cfg} {l : Secs} {B : List (List By)} (h : MdM N w mg rg nb so cap c l B) : FdIn w mg rg c l :=
  ⟨h.row.cell 1 _ rfl, h.row.cell 4 _ rfl, h.row.cell 7 _ rfl, let ⟨K, b0, vs, k⟩ := h.ring; ⟨K, N, b0, vs, k⟩, h.l256⟩
theorem own_at {w : World} {N so n cap : Nat} {vs : List Value} (h : w.ownsRow N 91 37 (.slice (some ⟨so, 0, none⟩) (n + 1) cap) (n + 1) vs) : ∃ cs, Row w so 91 cs ∧ N ≤ so ∧ n + 1 ≤ cap ∧ cs.length = cap * 37 ∧ cs.take ((n + 1) * 37) = vs := by
  rcases h.2 with ⟨e, e0⟩ | ⟨g, c, cur, e, hg, hh, hnc, hcm, hcs, ht⟩
  · omega
  · injection e with e1 e2 e3
    injection e1 with e1
    injection e1 with e1
    subst e1; subst e3
    exact ⟨cur.toList, by show w.heap[so]? = _; rw [hh], hg, hnc, by rw [Array.length_toList]; exact hcs, ht⟩
theorem MdM.sg {N : Nat} {w : World} {mg rg nb so cap : Nat} {c : Cfg} {l : Secs} {B : List (List By)} (h : MdM N w mg rg nb so cap c l B) : SgV w mg so cap c l B := by
  obtain ⟨cs, hr, _, hc, hl, ht⟩ := own_at h.own
  refine ⟨h.row.cell 8 _ rfl, h.row.cell 9 _ rfl, h.row.cell 10 _ rfl, fun k hk => ?_⟩
  have := hr.range (k * 37) 37
  have e : (cs.drop (k * 37)).take 37 = sgC c l B k := by rw [← flS_part c l B k hk, ← ht, List.drop_take, List.take_take, Nat.min_eq_left (by omega)]
  rw [e] at this
  exact this
theorem MdM.keep {N : Nat} {w W : World} {mg rg nb so cap : Nat} {c : Cfg} {l : Secs} {B : List (List By)} (h : MdM N w mg rg nb so cap c l B) (hb : Below w.heap.size w W) : MdM N W mg rg nb so cap c l B := by
  obtain ⟨cs, hr, _, _, _, _⟩ := own_at h.own
  refine ⟨h.row.below hb h.row.lt, let ⟨K, b0, vs, k⟩ := h.ring; ⟨K, b0, vs, k.below hb⟩, h.l256, ⟨h.own.1, ?_⟩, h.num.of_block (hb.block nb h.num.lt), h.lo⟩
  rcases h.own.2 with h1 | ⟨g, c, cur, e, hg, hh, hr⟩
  · exact .inl h1
  · exact .inr ⟨g, c, cur, e, hg, (hb.block g (Array.getElem?_eq_some_iff.1 hh).1).trans hh, hr⟩
theorem MdM.ne {N : Nat} {w : World} {mg rg nb so cap : Nat} {c : Cfg} {l : Secs} {B : List (List By)} (h : MdM N w mg rg nb so cap c l B) : mg ≠ nb ∧ so ≠ nb ∧ mg ≠ so ∧ N ≤ so ∧ N ≤ w.heap.size := by
  obtain ⟨cs, hr, hs, _, _, _⟩ := own_at h.own
  refine ⟨h.num.notRow h.row, h.num.notRow hr, ?_, hs, by have := hr.lt; omega⟩
  rintro rfl
  have h1 : w.heap[mg]? = _ := h.row
  have h2 : w.heap[mg]? = _ := hr
  rw [h1] at h2
  injection h2 with h2
  injection h2 with _ h2
  exact absurd h2 (by decide)
end Go.Proofs.YtpcgkjngpdplmaaGreatDoor
