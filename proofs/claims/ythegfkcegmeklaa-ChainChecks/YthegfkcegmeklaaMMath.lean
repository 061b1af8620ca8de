import Derived.Test.YthegfkcegmeklaaRefOf
import Derived.Deep.RegionLaw
import Derived.Laws.BytesString
import Derived.Test.YthegfkcegmeklaaPadded
import Derived.BigQuiet

namespace Go.Proofs.Ythegfkcegmeklaa
open Go.RowKit
set_option maxRecDepth 100000

/-- 'append(dst, src...)' where dst is the call's own (or nil) and src holds known bytes. -/
theorem run_append_more (N : Nat) (a0 w : World) (ty : TypeId) (aoD : Option Addr) (nD capD : Nat) (m : List By) (hD : m.length = nD) (hown : Own N w (.slice aoD nD capD) m) (hbel : Below N a0 w)
    (ao : Option Addr) (n cap : Nat) (bs : List By) (hn : bs.length = n) (hb : IsB w ao bs) (hnil : ao = none → cap = 0) (hl : nD + n ≤ 140737488353280) :
    ∃ ao' cap' w', (Builtin.append_ #[36, 36] ty #[.slice aoD nD capD, .slice ao n cap]).run Try.prog w = .ok (.slice ao' (nD + n) cap') w' ∧ Own N w' (.slice ao' (nD + n) cap') (m ++ bs) ∧ Below N a0 w' ∧ w.heap.size ≤ w'.heap.size ∧ (∀ k, k < w.heap.size → k < N → w'.heap[k]? = w.heap[k]?) := by
  obtain ⟨i0, hi, hz0, hz1, hz2⟩ := info_parts Try.info5
  subst hn
  subst hD
  have hN := hown.2
  have some_case : ∀ ad : Addr, (∀ j u, (bs.map B8)[j]? = some u → w.cell? (ad.add j) = some u) → ∃ ao' cap' w', (Builtin.append_ #[36, 36] ty #[.slice aoD m.length capD, .slice (some ad) bs.length cap]).run Try.prog w = .ok (.slice ao' (m.length + bs.length) cap') w' ∧ Own N w' (.slice ao' (m.length + bs.length) cap') (m ++ bs) ∧ Below N a0 w' ∧ w.heap.size ≤ w'.heap.size ∧ (∀ k, k < w.heap.size → k < N → w'.heap[k]? = w.heap[k]?) := by
    intro ad hnews
    obtain ⟨v', w', h1, h2, h3, _⟩ := run_append_own (P := Try.prog) w N 36 ty 5 i0 (.int .u8 0) 1 1 Try.underlying36 hi hz0 hz1 hz2 rfl (by decide) _ m.length (m.map B8) hown.1 ad bs.length cap (bs.map B8) (by simp) hnews (B8_one bs) (by unfold maxLen; omega) (by omega) hN
    have hbk : ∀ k, k < w.heap.size → k < N → w'.heap[k]? = w.heap[k]? := fun k hk hkN => h3.block k hk (fun e => by have := (hown.1.lt k e.symm).1; omega)
    have hform : ∃ ao' cap', v' = .slice ao' (m.length + bs.length) cap' := by
      rcases h2.2 with ⟨e, e0⟩ | ⟨g, c, cur, e, _⟩
      · exact ⟨none, 0, by rw [e, e0]⟩
      · exact ⟨_, _, e⟩
    obtain ⟨ao', cap', rfl⟩ := hform
    refine ⟨ao', cap', w', h1, ⟨?_, Nat.le_trans hN h3.size⟩, hbel.grown h3 hN (fun k hk => (hown.1.lt k hk).1), h3.size, hbk⟩
    rw [List.length_append, List.map_append]; exact h2
  rcases hb with rfl | ⟨B, off, rfl, hc⟩
  · cases ao with
    | none =>
      rw [hnil rfl]
      refine ⟨aoD, capD, w, ?_, ?_, hbel, Nat.le_refl _, fun _ _ _ => rfl⟩
      · have := run_append_owned_none (P := Try.prog) (w := w) N 36 ty 5 i0 1 Try.underlying36 hi _ m.length (m.map B8) hown.1
        simpa using this
      · simpa using hown
    | some ad => exact some_case ad (by simp)
  · refine some_case _ ?_
    intro j u hu
    rw [Addr.add_mid]
    rw [List.getElem?_map] at hu
    cases hj : bs[j]? with
    | none => rw [hj] at hu; cases hu
    | some v => rw [hj] at hu; injection hu with hu; subst hu; exact hc j v hj

theorem step_append_more {ops : Array Oper} {o : Oper} {a : Act} {w : World} {K : Act → World → Prop} {Q : Exit → Act → World → Prop} {E : Prop} (hgd : o.guard = none) (s x : Operand)
    (ho : o.op = .call { callee := .builtin .append, args := #[s, x], argTypes := #[36, 36] })
    (N : Nat) (a0 : World) (aoD : Option Addr) (nD capD : Nat) (m : List By) (hs : a.eval s = .slice aoD nD capD) (hD : m.length = nD) (hown : Own N w (.slice aoD nD capD) m) (hbel : Below N a0 w)
    (ao : Option Addr) (n cap : Nat) (bs : List By) (hx : a.eval x = .slice ao n cap) (hn : bs.length = n) (hb : IsB w ao bs) (hnil : ao = none → cap = 0) (hl : nD + n ≤ 140737488353280)
    (h : ∀ ao' cap' w', Own N w' (.slice ao' (nD + n) cap') (m ++ bs) → Below N a0 w' → K (a.put o.dst (.slice ao' (nD + n) cap')) w') :
    if Region.wanted o (yielded ops a.tmps) = true then Oper.wp Try.prog o a w K Q else E := by
  have hw : Region.wanted o (yielded ops a.tmps) = true := by simp [Region.wanted, hgd]
  rw [if_pos hw]
  obtain ⟨ao', cap', w', hrun, h2, h3, _⟩ := run_append_more N a0 w o.type aoD nD capD m hD hown hbel ao n cap bs hn hb hnil hl
  unfold Oper.wp execOp
  simp only [ho, resolve, invoke, builtin, Sem.run_bind, Sem.run_pure, Result.andThen_ok, List.map_toArray, List.map_cons, List.map_nil, hs, hx, hrun]
  exact h ao' cap' w' h2 h3

/-- The string of bytes. -/
def strOf (bs : List By) : ByteArray := (bs.map fun b => (b.toNat : Int)).foldl (fun r n => r.push (UInt8.ofNat n.toNat)) ByteArray.empty

theorem conv_bytes (w : World) (ao : Option Addr) (n cap : Nat) (bs : List By) (hn : bs.length = n) (hb : IsB w ao bs) :
    (convert 36 9 (.slice ao n cap)).run Try.prog w = .ok (.string (strOf bs)) w := by
  subst hn
  rw [run_convert_bytes_string w 36 9 5 ao bs.length cap Try.underlying36 Try.underlying5 Try.underlying9]
  have key : ∀ a : Addr, (∀ j v, (bs.map B8)[j]? = some v → w.cell? (a.add j) = some v) → (Conv.bytesToString (.slice (some a) bs.length cap)).run Try.prog w = .ok (.string (strOf bs)) w := by
    intro a h
    have hl := run_loadCells_list (P := Try.prog) w a (bs.map B8) h
    rw [List.length_map] at hl
    have e : bs.map B8 = (bs.map fun b => (b.toNat : Int)).map (Value.int .u8) := by
      rw [List.map_map]; rfl
    rw [e] at hl
    exact run_bytesToString w a bs.length cap _ hl
  rcases hb with rfl | ⟨B, off, rfl, hc⟩
  · cases ao with
    | none => rfl
    | some a => exact key a (by simp)
  · refine key _ ?_
    intro j u hu
    rw [Addr.add_mid]
    rw [List.getElem?_map] at hu
    cases hj : bs[j]? with
    | none => rw [hj] at hu; cases hu
    | some v => rw [hj] at hu; injection hu with hu; subst hu; exact hc j v hj

theorem wpList_append_more {ops : Array Oper} {rest : List Oper} {o : Oper} {a : Act} {w : World} {Q : Exit → Act → World → Prop} (hgd : o.guard = none) (s x : Operand)
    (ho : o.op = .call { callee := .builtin .append, args := #[s, x], argTypes := #[36, 36] })
    (N : Nat) (a0 : World) (aoD : Option Addr) (nD capD : Nat) (m : List By) (hs : a.eval s = .slice aoD nD capD) (hD : m.length = nD) (hown : Own N w (.slice aoD nD capD) m) (hbel : Below N a0 w)
    (ao : Option Addr) (n cap : Nat) (bs : List By) (hx : a.eval x = .slice ao n cap) (hn : bs.length = n) (hb : IsB w ao bs) (hnil : ao = none → cap = 0) (hl : nD + n ≤ 140737488353280)
    (h : ∀ ao' cap' w', Own N w' (.slice ao' (nD + n) cap') (m ++ bs) → Below N a0 w' → wpList Try.prog ops Q rest (a.put o.dst (.slice ao' (nD + n) cap')) w') : wpList Try.prog ops Q (o :: rest) a w := by
  refine wpList_plain hgd fun K hK => ?_
  obtain ⟨ao', cap', w', hrun, h2, h3, _⟩ := run_append_more N a0 w o.type aoD nD capD m hD hown hbel ao n cap bs hn hb hnil hl
  unfold Oper.wp execOp
  simp only [ho, resolve, invoke, builtin, Sem.run_bind, Sem.run_pure, Result.andThen_ok, List.map_toArray, List.map_cons, List.map_nil, hs, hx, hrun]
  exact hK _ _ (h ao' cap' w' h2 h3)

theorem own_cap {N : Nat} {w : World} {ao : Option Addr} {n c : Nat} {m : List By} (h : Own N w (.slice ao n c) m) : n ≤ c := by
  rcases h.1.2 with ⟨e, _⟩ | ⟨g, cap, cur, e, _, _, h4, _⟩
  · injection e with e1 e2 e3; omega
  · injection e with e1 e2 e3; omega
theorem own_nil (N : Nat) (w : World) (h : N ≤ w.heap.size) : Own N w (.slice none 0 0) [] := ⟨World.ownsRow_nil _ _ _ _, h⟩
/-- A slice without elements, made new. -/
theorem own_empty (N : Nat) (w : World) (h : N ≤ w.heap.size) (C : Array Value) (hC : C.size = 0) : Own N (w.alloc (.cells C 5)) (.slice (some ⟨w.heap.size, 0, none⟩) 0 0) [] := by
  have hC' : C = #[] := Array.eq_empty_of_size_eq_zero hC
  subst hC'
  refine ⟨⟨by simp, .inr ⟨w.heap.size, 0, #[], rfl, h, heap_alloc_new w _, by simp, by unfold maxLen; omega, by simp, by simp⟩⟩, by simp; omega⟩

theorem own_isb {N : Nat} {w : World} {ao : Option Addr} {n c : Nat} {m : List By} (h : Own N w (.slice ao n c) m) :
    m.length = n ∧ (ao = none → c = 0) ∧ m.length ≤ c ∧ (m = [] ∨ ∃ B off, ao = some ⟨B, off, none⟩ ∧ N ≤ B ∧ B < w.heap.size ∧ ∀ j v, m[j]? = some v → w.cell? ⟨B, off + j, none⟩ = some (B8 v)) := by
  have h1 := h.1
  rcases h.1.2 with ⟨e, e2⟩ | ⟨g, cap, cur, e, h2, h3, h4, _⟩
  · injection e with e1 e3 e4
    subst e4
    refine ⟨by omega, fun _ => rfl, by omega, .inl (List.length_eq_zero_iff.1 e2)⟩
  · injection e with e1 e3 e4
    subst e1
    subst e4
    refine ⟨e3.symm, (fun hh => by cases hh), h4, .inr ⟨g, 0, rfl, h2, (h1.lt g rfl).2, ?_⟩⟩
    intro j v hj
    have hjl : j < m.length := (List.getElem?_eq_some_iff.1 hj).1
    subst e3
    rw [Nat.zero_add, h1.cellAt j (by omega), List.getElem?_map, hj]; rfl

theorem own_IsB {N : Nat} {w : World} {ao : Option Addr} {n c : Nat} {m : List By} (h : Own N w (.slice ao n c) m) : IsB w ao m := by
  rcases (own_isb h).2.2.2 with h1 | ⟨B, off, h1, _, _, h2⟩
  · exact .inl h1
  · exact .inr ⟨B, off, h1, h2⟩
theorem own_form {N : Nat} {w : World} {v : Value} {m : List By} (h : Own N w v m) : ∃ ao c, v = .slice ao m.length c := by
  rcases h.1.2 with ⟨e, e0⟩ | ⟨g, c, cur, e, _⟩
  · exact ⟨none, 0, by rw [e, e0]⟩
  · exact ⟨_, _, e⟩
/-- What leaves all blocks from N on alone that are there leaves the row. -/
theorem Own.keep {N : Nat} {w w' : World} {v : Value} {m : List By} (h : Own N w v m) (hb : Below w.heap.size w w') : Own N w' v m := by
  refine ⟨⟨h.1.1, ?_⟩, Nat.le_trans h.2 hb.size⟩
  rcases h.1.2 with hn | ⟨g, cap, cur, e, h1, h2, h3⟩
  · exact .inl hn
  · refine .inr ⟨g, cap, cur, e, h1, ?_, h3⟩
    have hl : g < w.heap.size := (Array.getElem?_eq_some_iff.1 h2).1
    exact (hb.block g hl).trans h2
end Go.Proofs.Ythegfkcegmeklaa


/-! Rows of bytes held against each other: the code's, and the document's. -/
namespace Go.Proofs.Ythegfkcegmeklaa
open Go.RowKit

theorem bv8_ofInt (x : By) : BitVec.ofInt 8 (x.toNat : Int) = x := by
  rw [BitVec.ofInt_natCast, BitVec.ofNat_toNat, BitVec.setWidth_eq]
theorem bits8_or (x y : By) : bits .or .u8 (x.toNat : Int) (y.toNat : Int) = ((x ||| y).toNat : Int) := by
  show IntKind.u8.wrap ((BitVec.ofInt 8 (x.toNat : Int) ||| BitVec.ofInt 8 (y.toNat : Int)).toNat : Int) = _
  rw [bv8_ofInt, bv8_ofInt, IntKind.wrap_u8']
  have := b8_lt (x ||| y)
  omega
theorem bits8_xor (x y : By) : bits .xor .u8 (x.toNat : Int) (y.toNat : Int) = ((x ^^^ y).toNat : Int) := by
  show IntKind.u8.wrap ((BitVec.ofInt 8 (x.toNat : Int) ^^^ BitVec.ofInt 8 (y.toNat : Int)).toNat : Int) = _
  rw [bv8_ofInt, bv8_ofInt, IntKind.wrap_u8']
  have := b8_lt (x ^^^ y)
  omega

theorem IsB.cell {w : World} {ao : Option Addr} {m : List By} (h : IsB w ao m) (j : Nat) (hj : j < m.length) : ∃ B off, ao = some ⟨B, off, none⟩ ∧ w.cell? ⟨B, off + j, none⟩ = some (.int .u8 ((m.getD j 0).toNat : Int)) := by
  rcases h with rfl | ⟨B, off, rfl, hc⟩
  · simp at hj
  · refine ⟨B, off, rfl, ?_⟩
    have := hc j (m.getD j 0) (by rw [List.getD_eq_getElem?_getD, List.getElem?_eq_getElem hj]; rfl)
    exact this

set_option maxHeartbeats 1000000 in
set_option maxRecDepth 100000 in
theorem byteAt_any (ao : Option Addr) (n cap : Nat) (m : List By) (hn : m.length = n) (k : Nat) (w : World) (hb : IsB w ao m) :
    Calls Try.prog 42 #[.slice ao n cap, .int .i64 (k : Int)] w fun e w' => e = .returned (.int .u8 ((m.getD k 0).toNat : Int)) ∧ w' = w := by
  have i1 : (0 : Int) ≤ (k : Int) := by omega
  by_cases hlt : k < n
  · have i2 : (k : Int) < (n : Int) := by omega
    obtain ⟨B, off, rfl, hc⟩ := hb.cell k (by omega)
    generalize m.getD k 0 = x at hc ⊢
    go_enter Try.func42, Try.ntmps42
    go_wp2
    go_ret
    exact ⟨rfl, rfl⟩
  · have i2 : ¬ (k : Int) < (n : Int) := by omega
    have e0 : m.getD k 0 = 0 := by rw [List.getD_eq_getElem?_getD, List.getElem?_eq_none (by omega)]; rfl
    rw [e0]
    go_enter Try.func42, Try.ntmps42
    go_wp2
    go_ret
    exact ⟨rfl, rfl⟩

def SameTo (a b : List By) (k : Nat) : Prop := a.length = b.length ∧ ∀ j, j < k → a.getD j 0 = b.getD j 0
theorem sameTo_all {a b : List By} {k : Nat} (h : SameTo a b k) (hk : a.length ≤ k) : a = b := by
  obtain ⟨h1, h2⟩ := h
  apply List.ext_getElem h1
  intro i hi hi'
  have := h2 i (by omega)
  simpa [List.getD_eq_getElem?_getD, hi, hi'] using this
theorem sameTo_refl (a : List By) (k : Nat) : SameTo a a k := ⟨rfl, fun _ _ => rfl⟩
theorem or_zero (x y z : By) : (x ||| (y ^^^ z)) = 0 ↔ x = 0 ∧ y = z := by
  constructor
  · intro h
    have h1 : x = 0 := by
      apply BitVec.eq_of_getLsbD_eq
      intro i hi
      have := congrArg (fun v => v.getLsbD i) h
      simp at this ⊢
      exact this.1
    refine ⟨h1, ?_⟩
    subst h1
    apply BitVec.eq_of_getLsbD_eq
    intro i hi
    have := congrArg (fun v => v.getLsbD i) h
    simpa using this
  · rintro ⟨rfl, rfl⟩; simp

set_option maxHeartbeats 1000000 in
set_option maxRecDepth 100000 in
theorem equal_any (ao bo : Option Addr) (na nb ca cb : Nat) (a b : List By) (hna : a.length = na) (hnb : b.length = nb) (w : World) (ha : IsB w ao a) (hb : IsB w bo b) (hla : na ≤ 140737488355328) (hlb : nb ≤ 140737488355328) :
    Calls Try.prog 30 #[.slice ao na ca, .slice bo nb cb] w fun e w' => e = .returned (.bool (decide (a = b))) ∧ w' = w := by
  have HA : Hid (a.length = na) := hna
  have HB : Hid (b.length = nb) := hnb
  have IA : Hid (IsB w ao a) := ha
  have IB : Hid (IsB w bo b) := hb
  clear hna hnb ha hb
  obtain ⟨mx, hmx⟩ : ∃ n : Nat, n = max na nb := ⟨_, rfl⟩
  have fin : ∀ x : By, (x = 0 ↔ SameTo a b mx) → ((x.toNat : Int) == 0) = decide (a = b) := by
    intro x hx
    have h1 := HA.out
    by_cases hab : a = b
    · subst hab
      have : x = 0 := hx.2 (sameTo_refl a _)
      subst this
      simp
    · have hx0 : x ≠ 0 := fun h => hab (sameTo_all (hx.1 h) (by omega))
      have : x.toNat ≠ 0 := fun h => hx0 (BitVec.eq_of_toNat_eq (by simpa using h))
      rw [decide_eq_false hab, beq_eq_false_iff_ne]
      omega
  have FIN : Hid (∀ x : By, (x = 0 ↔ SameTo a b mx) → ((x.toNat : Int) == 0) = decide (a = b)) := fin
  clear fin
  have HMX : Hid (mx = max na nb) := hmx
  clear hmx
  rcases Nat.lt_trichotomy na nb with hne | hne | hne
  · have e1 : (((na : Int) != (nb : Int)) = true) := by rw [bne_iff_ne]; omega
    obtain rfl : mx = nb := by have := HMX.out; omega
    clear HMX
    go_enter Try.func30, Try.ntmps30
    go_wp2
    go_loop [5, 17] (fun p i => ∃ k : Nat, k ≤ mx ∧ i = .int .i64 k ∧ ∃ x : By, p = .int .u8 (x.toNat : Int) ∧ Hid (x = 0 ↔ SameTo a b k)) (fun _ i => mx - (intOf i).toNat)
    case atStart =>
      first
        | exact ⟨0, by omega, rfl, 0, rfl, (⟨fun _ => ⟨by rw [HA.out, HB.out], fun j hj => by omega⟩, fun _ => rfl⟩ : (0 : By) = 0 ↔ SameTo a b 0)⟩
        | exact ⟨0, by omega, rfl, 1, rfl, (⟨fun h => absurd h (by decide), fun h => by have h1 := h.1; rw [HA.out, HB.out] at h1; omega⟩ : (1 : By) = 0 ↔ SameTo a b 0)⟩
    case round =>
      obtain ⟨k, hk, rfl, x, rfl, hx⟩ := hrel
      by_cases hlt : k < mx
      · have i1 : (k : Int) < (mx : Int) := by omega
        go_wp2_with fail
        refine (byteAt_any ao _ ca a HA.out k _ IA.out).mono ?_
        rintro e w1 ⟨rfl, rfl⟩
        have hy : Hid (∀ y z : By, y = a.getD k 0 → z = b.getD k 0 → ((x ||| (y ^^^ z)) = 0 ↔ SameTo a b (k + 1))) := by
          intro y z hy hz
          rw [or_zero, hx.out]
          subst hy; subst hz
          constructor
          · rintro ⟨⟨h1, h2⟩, h3⟩
            refine ⟨h1, fun j hj => ?_⟩
            by_cases hjk : j = k
            · subst hjk; exact h3
            · exact h2 j (by omega)
          · rintro ⟨h1, h2⟩
            exact ⟨⟨h1, fun j hj => h2 j (by omega)⟩, h2 k (by omega)⟩
        obtain ⟨y, hya⟩ : ∃ y, y = a.getD k 0 := ⟨_, rfl⟩
        rw [← hya]
        have HYA : Hid (y = a.getD k 0) := hya
        clear hya
        go_wp2_with fail
        refine (byteAt_any bo _ cb b HB.out k _ IB.out).mono ?_
        rintro e w2 ⟨rfl, rfl⟩
        obtain ⟨z, hzb⟩ : ∃ z, z = b.getD k 0 := ⟨_, rfl⟩
        rw [← hzb]
        have HZB : Hid (z = b.getD k 0) := hzb
        clear hzb
        have f1 := bits8_xor y z
        have f2 := bits8_or x (y ^^^ z)
        go_wp2
        refine ⟨⟨k + 1, by omega, by go_num, x ||| (y ^^^ z), ?_, hy.out y z HYA.out HZB.out⟩, by simp [intOf]; omega⟩
        rw [← BitVec.toNat_xor, f2]
      · obtain rfl : k = mx := by omega
        have F := FIN.out x hx.out
        have i1 : ¬ (k : Int) < (k : Int) := by omega
        clear hlt hk
        go_wp2
        go_ret
        exact ⟨by rw [← F]; rfl, rfl⟩
  · subst hne
    have e1 : (((na : Int) != (na : Int)) = false) := by simp
    obtain rfl : mx = na := by have := HMX.out; omega
    clear HMX
    go_enter Try.func30, Try.ntmps30
    go_wp2
    go_loop [5, 17] (fun p i => ∃ k : Nat, k ≤ mx ∧ i = .int .i64 k ∧ ∃ x : By, p = .int .u8 (x.toNat : Int) ∧ Hid (x = 0 ↔ SameTo a b k)) (fun _ i => mx - (intOf i).toNat)
    case atStart =>
      first
        | exact ⟨0, by omega, rfl, 0, rfl, (⟨fun _ => ⟨by rw [HA.out, HB.out], fun j hj => by omega⟩, fun _ => rfl⟩ : (0 : By) = 0 ↔ SameTo a b 0)⟩
        | exact ⟨0, by omega, rfl, 1, rfl, (⟨fun h => absurd h (by decide), fun h => by have h1 := h.1; rw [HA.out, HB.out] at h1; omega⟩ : (1 : By) = 0 ↔ SameTo a b 0)⟩
    case round =>
      obtain ⟨k, hk, rfl, x, rfl, hx⟩ := hrel
      by_cases hlt : k < mx
      · have i1 : (k : Int) < (mx : Int) := by omega
        go_wp2_with fail
        refine (byteAt_any ao _ ca a HA.out k _ IA.out).mono ?_
        rintro e w1 ⟨rfl, rfl⟩
        have hy : Hid (∀ y z : By, y = a.getD k 0 → z = b.getD k 0 → ((x ||| (y ^^^ z)) = 0 ↔ SameTo a b (k + 1))) := by
          intro y z hy hz
          rw [or_zero, hx.out]
          subst hy; subst hz
          constructor
          · rintro ⟨⟨h1, h2⟩, h3⟩
            refine ⟨h1, fun j hj => ?_⟩
            by_cases hjk : j = k
            · subst hjk; exact h3
            · exact h2 j (by omega)
          · rintro ⟨h1, h2⟩
            exact ⟨⟨h1, fun j hj => h2 j (by omega)⟩, h2 k (by omega)⟩
        obtain ⟨y, hya⟩ : ∃ y, y = a.getD k 0 := ⟨_, rfl⟩
        rw [← hya]
        have HYA : Hid (y = a.getD k 0) := hya
        clear hya
        go_wp2_with fail
        refine (byteAt_any bo _ cb b HB.out k _ IB.out).mono ?_
        rintro e w2 ⟨rfl, rfl⟩
        obtain ⟨z, hzb⟩ : ∃ z, z = b.getD k 0 := ⟨_, rfl⟩
        rw [← hzb]
        have HZB : Hid (z = b.getD k 0) := hzb
        clear hzb
        have f1 := bits8_xor y z
        have f2 := bits8_or x (y ^^^ z)
        go_wp2
        refine ⟨⟨k + 1, by omega, by go_num, x ||| (y ^^^ z), ?_, hy.out y z HYA.out HZB.out⟩, by simp [intOf]; omega⟩
        rw [← BitVec.toNat_xor, f2]
      · obtain rfl : k = mx := by omega
        have F := FIN.out x hx.out
        have i1 : ¬ (k : Int) < (k : Int) := by omega
        clear hlt hk
        go_wp2
        go_ret
        exact ⟨by rw [← F]; rfl, rfl⟩
  · have e1 : (((na : Int) != (nb : Int)) = true) := by rw [bne_iff_ne]; omega
    obtain rfl : mx = na := by have := HMX.out; omega
    clear HMX
    go_enter Try.func30, Try.ntmps30
    go_wp2
    go_loop [5, 17] (fun p i => ∃ k : Nat, k ≤ mx ∧ i = .int .i64 k ∧ ∃ x : By, p = .int .u8 (x.toNat : Int) ∧ Hid (x = 0 ↔ SameTo a b k)) (fun _ i => mx - (intOf i).toNat)
    case atStart =>
      first
        | exact ⟨0, by omega, rfl, 0, rfl, (⟨fun _ => ⟨by rw [HA.out, HB.out], fun j hj => by omega⟩, fun _ => rfl⟩ : (0 : By) = 0 ↔ SameTo a b 0)⟩
        | exact ⟨0, by omega, rfl, 1, rfl, (⟨fun h => absurd h (by decide), fun h => by have h1 := h.1; rw [HA.out, HB.out] at h1; omega⟩ : (1 : By) = 0 ↔ SameTo a b 0)⟩
    case round =>
      obtain ⟨k, hk, rfl, x, rfl, hx⟩ := hrel
      by_cases hlt : k < mx
      · have i1 : (k : Int) < (mx : Int) := by omega
        go_wp2_with fail
        refine (byteAt_any ao _ ca a HA.out k _ IA.out).mono ?_
        rintro e w1 ⟨rfl, rfl⟩
        have hy : Hid (∀ y z : By, y = a.getD k 0 → z = b.getD k 0 → ((x ||| (y ^^^ z)) = 0 ↔ SameTo a b (k + 1))) := by
          intro y z hy hz
          rw [or_zero, hx.out]
          subst hy; subst hz
          constructor
          · rintro ⟨⟨h1, h2⟩, h3⟩
            refine ⟨h1, fun j hj => ?_⟩
            by_cases hjk : j = k
            · subst hjk; exact h3
            · exact h2 j (by omega)
          · rintro ⟨h1, h2⟩
            exact ⟨⟨h1, fun j hj => h2 j (by omega)⟩, h2 k (by omega)⟩
        obtain ⟨y, hya⟩ : ∃ y, y = a.getD k 0 := ⟨_, rfl⟩
        rw [← hya]
        have HYA : Hid (y = a.getD k 0) := hya
        clear hya
        go_wp2_with fail
        refine (byteAt_any bo _ cb b HB.out k _ IB.out).mono ?_
        rintro e w2 ⟨rfl, rfl⟩
        obtain ⟨z, hzb⟩ : ∃ z, z = b.getD k 0 := ⟨_, rfl⟩
        rw [← hzb]
        have HZB : Hid (z = b.getD k 0) := hzb
        clear hzb
        have f1 := bits8_xor y z
        have f2 := bits8_or x (y ^^^ z)
        go_wp2
        refine ⟨⟨k + 1, by omega, by go_num, x ||| (y ^^^ z), ?_, hy.out y z HYA.out HZB.out⟩, by simp [intOf]; omega⟩
        rw [← BitVec.toNat_xor, f2]
      · obtain rfl : k = mx := by omega
        have F := FIN.out x hx.out
        have i1 : ¬ (k : Int) < (k : Int) := by omega
        clear hlt hk
        go_wp2
        go_ret
        exact ⟨by rw [← F]; rfl, rfl⟩

end Go.Proofs.Ythegfkcegmeklaa


/-! The document's HMAC on lists of bytes. -/
namespace Go.Proofs.Ythegfkcegmeklaa
open Go.RowKit

def kh (k : List By) : List By := if 64 < k.length then sha k else k
/-- A key's block key. -/
def kb (k : List By) : List By := kh k ++ List.replicate (64 - (kh k).length) 0
/-- Bytes, each under exclusive or with one. -/
def tn (l : List By) (x : By) : List By := l.map (· ^^^ x)
/-- The tag of bytes under a key. -/
def tag (k b : List By) : List By := sha (tn (kb k) 92#8 ++ sha (tn (kb k) 54#8 ++ b))

theorem shaLen (m : List By) : (sha m).length = 32 := rfl
theorem tag_len (k b : List By) : (tag k b).length = 32 := rfl
theorem kh_le (k : List By) : (kh k).length ≤ 64 := by
  unfold kh
  split
  · rw [shaLen]; omega
  · omega
theorem kb_len (k : List By) : (kb k).length = 64 := by
  have := kh_le k
  unfold kb
  rw [List.length_append, List.length_replicate]; omega
theorem tn_len (l : List By) (x : By) : (tn l x).length = l.length := by simp [tn]
theorem tn_take (l : List By) (x : By) (k : Nat) (hk : k < l.length) : tn (l.take (k + 1)) x = tn (l.take k) x ++ [l.getD k 0 ^^^ x] := by
  unfold tn
  rw [List.take_add_one, List.map_append, List.getElem?_eq_getElem hk, List.getD_eq_getElem?_getD, List.getElem?_eq_getElem hk]; rfl
theorem kb_short (k : List By) (h : k.length ≤ 64) : kb k = k ++ List.replicate (64 - k.length) 0 := by
  have e : kh k = k := by unfold kh; rw [if_neg (by omega)]
  unfold kb; rw [e]
theorem kb_long (k : List By) (h : 64 < k.length) : kb k = sha k ++ List.replicate 32 0 := by
  have e : kh k = sha k := by unfold kh; rw [if_pos h]
  unfold kb; rw [e, shaLen]
/-- Keys that are the same but for bytes 00 up to a block's end. -/
theorem kb_wide (k : List By) (n : Nat) (h : k.length + n ≤ 64) : kb (k ++ List.replicate n 0) = kb k := by
  rw [kb_short k (by omega), kb_short _ (by rw [List.length_append, List.length_replicate]; omega), List.append_assoc, List.replicate_append_replicate, List.length_append, List.length_replicate]
  congr 2; omega
theorem kb_hash (k : List By) (h : 64 < k.length) : kb (sha k) = kb k := by
  rw [kb_long k h, kb_short (sha k) (by rw [shaLen]; omega), shaLen]
theorem tag_wide (k b : List By) (n : Nat) (h : k.length + n ≤ 64) : tag (k ++ List.replicate n 0) b = tag k b := by unfold tag; rw [kb_wide k n h]
theorem tag_hash (k b : List By) (h : 64 < k.length) : tag (sha k) b = tag k b := by unfold tag; rw [kb_hash k h]

end Go.Proofs.Ythegfkcegmeklaa
