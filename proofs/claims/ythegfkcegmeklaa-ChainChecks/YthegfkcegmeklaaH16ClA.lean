import Derived.Test.YthegfkcegmeklaaH16Rows
import Derived.Lib.ConvBytes

/-! W8 as data: what a message tells; registers of unlike events, or a clash. -/
namespace Go.Proofs.Ythegfkcegmeklaa
open Go.RowKit
set_option linter.unusedVariables false

theorem bv8_eq {a b : Nat} (h : BitVec.ofNat 8 a = BitVec.ofNat 8 b) : a % 256 = b % 256 := by
  have := congrArg BitVec.toNat h
  simpa [BitVec.toNat_ofNat] using this
theorem numB_at (n k i : Nat) (hi : i < k) : (numB n k)[i]? = some (BitVec.ofNat 8 (n / 2 ^ (8 * i))) := by
  unfold numB; rw [List.getElem?_map, List.getElem?_range hi]; rfl
theorem numB_low {a b : Nat} : ∀ (k : Nat), numB a k = numB b k → a % 2 ^ (8 * k) = b % 2 ^ (8 * k)
  | 0, _ => by simp [Nat.mod_one]
  | k + 1, h => by
    rw [numB_succ, numB_succ] at h
    have h1 := List.append_inj h (by rw [numB_len, numB_len])
    have ih := numB_low k h1.1
    have h2 : BitVec.ofNat 8 (a / 2 ^ (8 * k)) = BitVec.ofNat 8 (b / 2 ^ (8 * k)) := by simpa using h1.2
    have h3 := bv8_eq h2
    have e : (2 : Nat) ^ (8 * (k + 1)) = 2 ^ (8 * k) * 256 := by rw [show 8 * (k + 1) = 8 * k + 8 by omega, Nat.pow_add]
    rw [e, Nat.mod_mul, Nat.mod_mul, ih, h3]
theorem numB8_inj {a b : Nat} (ha : a < 18446744073709551616) (hb : b < 18446744073709551616) (h : numB a 8 = numB b 8) : a = b := by
  have h1 := numB_low 8 h
  have e : (2 : Nat) ^ (8 * 8) = 18446744073709551616 := by decide
  rw [e, Nat.mod_eq_of_lt ha, Nat.mod_eq_of_lt hb] at h1
  exact h1
theorem numB4_inj {a b : Nat} (ha : a ≤ 1024) (hb : b ≤ 1024) (h : numB a 4 = numB b 4) : a = b := by
  have h1 := numB_low 4 h
  have e : (2 : Nat) ^ (8 * 4) = 4294967296 := by decide
  rw [e, Nat.mod_eq_of_lt (by omega), Nat.mod_eq_of_lt (by omega)] at h1
  exact h1
theorem evB_inj {x y : EvV} (hx : EvOk x) (hy : EvOk y) (h : evB x = evB y) : x = y := by
  unfold evB at h
  have h1 := List.append_inj h (by rw [hx.1, hy.1])
  have h2 := numB8_inj (u64_lt _) (u64_lt _) h1.2
  obtain ⟨xd, xe⟩ := x
  obtain ⟨yd, ye⟩ := y
  have h3 : xd = yd := h1.1
  have h4 : u64 xe = u64 ye := h2
  have hxe : -9223372036854775808 ≤ xe ∧ xe ≤ 9223372036854775807 := hx.2
  have hye : -9223372036854775808 ≤ ye ∧ ye ≤ 9223372036854775807 := hy.2
  unfold u64 at h4
  have h5 : xe = ye := by omega
  rw [h3, h5]
/-- The messages of two quotes are the same just of the same nonce, as many events and the same register. -/
theorem msg_inj {n1 n2 : List By} {xs ys : List EvV} (hx : xs.length ≤ 1024) (hy : ys.length ≤ 1024) (h : msg n1 xs = msg n2 ys) : n1 = n2 ∧ xs.length = ys.length ∧ reg xs = reg ys := by
  have hl : n1.length = n2.length := by
    have := congrArg List.length h
    rw [msg_len, msg_len] at this
    omega
  unfold msg at h
  have h1 := List.append_inj' h (by rw [reg_len, reg_len])
  have h2 := List.append_inj' h1.1 (by rw [numB_len, numB_len])
  have h3 := List.append_inj' h2.1 hl
  exact ⟨h3.2, numB4_inj hx hy h2.2, h1.2⟩

/-- Unlike rows have unlike hashes. -/
def NoClash (ls : List (List By)) : Prop := ∀ a, a ∈ ls → ∀ b, b ∈ ls → sha a = sha b → a = b
theorem noclash_of {ls : List (List By)} (h : ∀ (i k : Nat) (a b : List By), k < i → ls[i]? = some a → ls[k]? = some b → sha b = sha a → b = a) : NoClash ls := by
  intro a ha b hb e
  obtain ⟨i, hi⟩ := List.mem_iff_getElem?.1 ha
  obtain ⟨k, hk⟩ := List.mem_iff_getElem?.1 hb
  rcases Nat.lt_trichotomy k i with h1 | h1 | h1
  · exact (h i k a b h1 hi hk e.symm).symm
  · subst h1
    rw [hi] at hk
    injection hk
  · exact h k i b a h1 hk hi e
theorem NoClash.sub {ls ms : List (List By)} (h : NoClash ls) (hs : ∀ a, a ∈ ms → a ∈ ls) : NoClash ms := fun a ha b hb e => h a (hs a ha) b (hs b hb) e
theorem flat_congr {α β : Type} (f g : α → List β) : ∀ l : List α, (∀ i, i ∈ l → f i = g i) → l.flatMap f = l.flatMap g
  | [], _ => rfl
  | a :: l, h => by
    rw [List.flatMap_cons, List.flatMap_cons, h a (by simp), flat_congr f g l (fun i hi => h i (by simp [hi]))]
theorem rowL_push (xs : List EvV) (x : EvV) : rowL (xs ++ [x]) (xs ++ [x]).length = rowL xs xs.length ++ [evB x, reg xs ++ measure x] := by
  rw [List.length_append, List.length_singleton, rowL_succ]
  have e1 : (xs ++ [x]).getD xs.length zEv = x := by simp [List.getD_eq_getElem?_getD]
  have e2 : (xs ++ [x]).take xs.length = xs := List.take_left
  rw [e1, e2]
  congr 1
  unfold rowL
  refine flat_congr _ _ _ fun i hi => ?_
  have hi' : i < xs.length := by simpa using hi
  have e3 : (xs ++ [x]).getD i zEv = xs.getD i zEv := by simp [List.getD_eq_getElem?_getD, List.getElem?_append_left hi']
  have e4 : (xs ++ [x]).take i = xs.take i := List.take_append_of_le_length (by omega)
  rw [e3, e4]
theorem zmet_push {xs : List EvV} {x : EvV} (h : zmet xs = true) : zmet (xs ++ [x]) = true := by
  unfold zmet at h
  rw [List.any_eq_true] at h
  obtain ⟨k, hk, hz⟩ := h
  have hk' : k < xs.length := by simpa using hk
  refine zmet_at k (by rw [List.length_append]; omega) ?_
  rw [List.take_append_of_le_length (by omega)]
  exact of_decide_eq_true hz
theorem zmet_last {xs : List EvV} {x : EvV} (h : reg (xs ++ [x]) = List.replicate 32 0) : zmet (xs ++ [x]) = true := by
  refine zmet_at xs.length (by simp) ?_
  rw [List.take_of_length_le (by simp)]
  exact h
/-- The same register: the same events, or the zero hash is met; where there is no clash. -/
theorem reg_inj : ∀ (n : Nat) (xs ys : List EvV), xs.length = n → (∀ x ∈ xs, EvOk x) → (∀ y ∈ ys, EvOk y) → NoClash (rowL xs xs.length ++ rowL ys ys.length) → reg xs = reg ys → xs = ys ∨ zmet xs = true ∨ zmet ys = true
  | 0, xs, ys, hn, _, _, _, hr => by
    have hx : xs = [] := List.eq_nil_of_length_eq_zero hn
    subst hx
    rcases List.eq_nil_or_concat ys with rfl | ⟨ys', y, rfl⟩
    · exact .inl rfl
    · rw [List.concat_eq_append] at hr ⊢
      exact .inr (.inr (zmet_last hr.symm))
  | n + 1, xs, ys, hn, hx, hy, hc, hr => by
    rcases List.eq_nil_or_concat xs with rfl | ⟨xs', x, rfl⟩
    · cases hn
    rcases List.eq_nil_or_concat ys with rfl | ⟨ys', y, rfl⟩
    · rw [List.concat_eq_append] at hr ⊢
      exact .inr (.inl (zmet_last hr))
    rw [List.concat_eq_append] at *
    rw [List.concat_eq_append] at *
    rw [rowL_push, rowL_push] at hc
    rw [reg_push, reg_push] at hr
    have h1 : reg xs' ++ measure x = reg ys' ++ measure y := hc _ (by simp) _ (by simp) hr
    have h2 := List.append_inj h1 (by rw [reg_len, reg_len])
    have h3 : evB x = evB y := hc _ (by simp) _ (by simp) h2.2
    have h4 : x = y := evB_inj (hx x (by simp)) (hy y (by simp)) h3
    subst h4
    have ih := reg_inj n xs' ys' (by simpa using hn) (fun z hz => hx z (by simp [hz])) (fun z hz => hy z (by simp [hz])) (hc.sub fun a ha => by
      simp only [List.mem_append] at ha ⊢
      rcases ha with ha | ha
      · exact .inl (.inl ha)
      · exact .inr (.inl ha)) h2.1
    rcases ih with h | h | h
    · exact .inl (by rw [h])
    · exact .inr (.inl (zmet_push h))
    · exact .inr (.inr (zmet_push h))
/-- As many events, the same register: the same ones, where there is no clash. -/
theorem reg_inj_len : ∀ (n : Nat) (xs ys : List EvV), xs.length = n → ys.length = n → (∀ x ∈ xs, EvOk x) → (∀ y ∈ ys, EvOk y) → NoClash (rowL xs xs.length ++ rowL ys ys.length) → reg xs = reg ys → xs = ys
  | 0, xs, ys, hn, hm, _, _, _, _ => by rw [List.eq_nil_of_length_eq_zero hn, List.eq_nil_of_length_eq_zero hm]
  | n + 1, xs, ys, hn, hm, hx, hy, hc, hr => by
    rcases List.eq_nil_or_concat xs with rfl | ⟨xs', x, rfl⟩
    · cases hn
    rcases List.eq_nil_or_concat ys with rfl | ⟨ys', y, rfl⟩
    · cases hm
    rw [List.concat_eq_append] at *
    rw [List.concat_eq_append] at *
    rw [rowL_push, rowL_push] at hc
    rw [reg_push, reg_push] at hr
    have h1 : reg xs' ++ measure x = reg ys' ++ measure y := hc _ (by simp) _ (by simp) hr
    have h2 := List.append_inj h1 (by rw [reg_len, reg_len])
    have h3 : evB x = evB y := hc _ (by simp) _ (by simp) h2.2
    have h4 : x = y := evB_inj (hx x (by simp)) (hy y (by simp)) h3
    subst h4
    have ih := reg_inj_len n xs' ys' (by simpa using hn) (by simpa using hm) (fun z hz => hx z (by simp [hz])) (fun z hz => hy z (by simp [hz])) (hc.sub fun a ha => by
      simp only [List.mem_append] at ha ⊢
      rcases ha with ha | ha
      · exact .inl (.inl ha)
      · exact .inr (.inl ha)) h2.1
    rw [ih]
end Go.Proofs.Ythegfkcegmeklaa


/-! Strings of bytes there and back; hashes in a row; append of as many as there are. -/
namespace Go.Proofs.Ythegfkcegmeklaa
open Go.RowKit
set_option linter.unusedVariables false
set_option maxRecDepth 100000

theorem fold_push : ∀ (l : List Int) (r : ByteArray), (l.foldl (fun r n => r.push (UInt8.ofNat n.toNat)) r).data.toList = r.data.toList ++ l.map fun n => UInt8.ofNat n.toNat
  | [], r => by simp
  | n :: l, r => by
    rw [List.foldl_cons, fold_push l]
    simp [ByteArray.push]
theorem strOf_data (bs : List By) : (strOf bs).data.toList = bs.map fun b => UInt8.ofNat b.toNat := by
  unfold strOf
  rw [fold_push]
  simp
theorem strOf_size (bs : List By) : (strOf bs).size = bs.length := by
  have : (strOf bs).data.toList.length = bs.length := by rw [strOf_data, List.length_map]
  rw [Array.length_toList] at this
  exact this
theorem strOf_inj {a b : List By} (h : strOf a = strOf b) : a = b := by
  have h1 : (strOf a).data.toList = (strOf b).data.toList := by rw [h]
  rw [strOf_data, strOf_data] at h1
  have key : ∀ (a b : List By), (a.map fun x => UInt8.ofNat x.toNat) = (b.map fun x => UInt8.ofNat x.toNat) → a = b := by
    intro a
    induction a with
    | nil => intro b h; cases b with | nil => rfl | cons y b => cases h
    | cons x a ih =>
      intro b h
      cases b with
      | nil => cases h
      | cons y b =>
        rw [List.map_cons, List.map_cons] at h
        injection h with h1 h2
        have h3 : x.toNat = y.toNat := by
          have := congrArg UInt8.toNat h1
          have hx := x.isLt
          have hy := y.isLt
          simpa [UInt8.toNat_ofNat, Nat.mod_eq_of_lt hx, Nat.mod_eq_of_lt hy] using this
        rw [BitVec.eq_of_toNat_eq h3, ih b h2]
  exact key a b h1
/-- []byte(s). -/
theorem conv_back (w : World) (bs : List By) : ∃ c w', (convert 9 36 (.string (strOf bs))).run Try.prog w = .ok (.slice (some ⟨w.heap.size, 0, none⟩) bs.length c) w' ∧ IsB w' (some ⟨w.heap.size, 0, none⟩) bs ∧ Below w.heap.size w w' := by
  have hr := Lib.run_convert_string_bytes (P := Try.prog) w 9 36 5 (strOf bs) Try.underlying9 Try.underlying36 Try.underlying5
  rw [strOf_size] at hr
  refine ⟨_, _, hr, .inr ⟨w.heap.size, 0, rfl, fun j v hj => ?_⟩, ?_⟩
  · have hlt := (List.getElem?_eq_some_iff.1 hj).1
    rw [Nat.zero_add, Lib.bytesWorld_cell w 5 (strOf bs) j (by rw [strOf_size]; exact hlt), strOf_data, List.getD_eq_getElem?_getD, List.getElem?_map, hj]
    simp [B8]
  · refine ⟨?_, ?_, ?_, ?_, fun k hk => Lib.bytesWorld_at_old w 5 _ k hk⟩
    · simp [Lib.bytesWorld, World.freeze]; rfl
    · simp [Lib.bytesWorld, World.freeze]
    · simp [Lib.bytesWorld, World.freeze]; rfl
    · rw [Lib.bytesWorld_size]; omega
/-- append of as many elements as there are. -/
theorem wpList_append_gen {T e size bytes : Nat} {z : Value} (E : ElT T e size bytes z) {ops : Array Oper} {rest : List Oper} {o : Oper} {a : Act} {w : World} {Q : Exit → Act → World → Prop} (hgd : o.guard = none) (s x : Operand)
    (ho : o.op = .call { callee := .builtin .append, args := #[s, x], argTypes := #[T, T] })
    (N : Nat) (a0 : World) (aoD : Option Addr) (nD capD : Nat) (vs : List Value) (hs : a.eval s = .slice aoD nD capD) (hown : w.ownsRow N e size (.slice aoD nD capD) nD vs) (hN : N ≤ w.heap.size) (hbel : Below N a0 w)
    (ao : Option Addr) (n cap : Nat) (news : List Value) (hx : a.eval x = .slice ao n cap) (hn : news.length = n * size) (hb : IsL w ao news) (h1 : ∀ u ∈ news, u.oneCell' = true) (hnil : ao = none → cap = 0) (hm : nD + n ≤ maxLen) (hl : (nD + n) * bytes ≤ 140737488355328)
    (h : ∀ ao' cap' w', w'.ownsRow N e size (.slice ao' (nD + n) cap') (nD + n) (vs ++ news) → Below N a0 w' → w.heap.size ≤ w'.heap.size → (∀ k, k < w.heap.size → (∀ g, aoD = some ⟨g, 0, none⟩ → k ≠ g) → w'.heap[k]? = w.heap[k]?) → wpList Try.prog ops Q rest (a.put o.dst (.slice ao' (nD + n) cap')) w') : wpList Try.prog ops Q (o :: rest) a w := by
  refine wpList_plain hgd fun K hK => ?_
  obtain ⟨ao', cap', w', hrun, h2, h3, h4, h5⟩ := run_append_gen E N a0 w o.type aoD nD capD vs hown hN hbel ao n cap news hn hb h1 hnil hm hl
  unfold Oper.wp execOp
  simp only [ho, resolve, invoke, builtin, Sem.run_bind, Sem.run_pure, Result.andThen_ok, List.map_toArray, List.map_cons, List.map_nil, hs, hx, hrun]
  exact hK _ _ (h ao' cap' w' h2 h3 h4 h5)
theorem OwnT.isl {N : Nat} {w : World} {ao : Option Addr} {n c : Nat} {ls : List (List By)} (h : OwnT N w ao n c ls) : IsL w ao (ls.map fun b => .string (strOf b)) ∧ (ao = none → c = 0) := by
  rcases h.1.2 with ⟨e0, e1⟩ | ⟨g, c1, cur, e1, _⟩
  · injection e0 with e2 _ e3
    have : ls = [] := List.eq_nil_of_length_eq_zero (by rw [h.2.2, e1])
    subst this
    exact ⟨.inl rfl, fun _ => e3⟩
  · injection e1 with e2 _ _
    subst e2
    refine ⟨.inr ⟨g, 0, rfl, fun j v hj => ?_⟩, fun e => by cases e⟩
    have hlt := (List.getElem?_eq_some_iff.1 hj).1
    rw [List.length_map, h.2.2] at hlt
    rw [Nat.zero_add, h.1.cellAt j (by omega)]; exact hj
theorem OwnT.cell {N : Nat} {w : World} {ao : Option Addr} {n c : Nat} {ls : List (List By)} (h : OwnT N w ao n c ls) (j : Nat) (b : List By) (hj : ls[j]? = some b) : ∃ q, ao = some ⟨q, 0, none⟩ ∧ w.cell? ⟨q, j, none⟩ = some (.string (strOf b)) := by
  have hlt := (List.getElem?_eq_some_iff.1 hj).1
  rw [h.2.2] at hlt
  rcases h.1.2 with ⟨e0, e1⟩ | ⟨g, c1, cur, e1, _⟩
  · omega
  · have hown := h.1
    injection e1 with e2 _ _
    subst e2
    refine ⟨g, rfl, ?_⟩
    rw [hown.cellAt j (by omega), List.getElem?_map, hj]; rfl

theorem el_hash : ElT 72 32 32 32 (.agg z32.toArray) := ⟨Try.underlying72, by kernel_rfl, rfl, by omega⟩
def hCells (hs : List (List By)) : List Value := hs.flatMap fun h => h.map B8
/-- Hashes in a row of the call's own. -/
def OwnH (N : Nat) (w : World) (ao : Option Addr) (n c : Nat) (hs : List (List By)) : Prop := w.ownsRow N 32 32 (.slice ao n c) n (hCells hs) ∧ N ≤ w.heap.size ∧ hs.length = n ∧ ∀ h ∈ hs, h.length = 32
theorem OwnH.keep {N : Nat} {w w' : World} {ao : Option Addr} {n c : Nat} {hs : List (List By)} (h : OwnH N w ao n c hs) (hb : Below w.heap.size w w') : OwnH N w' ao n c hs :=
  ⟨owns_blk h.1 fun B e => hb.block B (h.1.lt B e).2, Nat.le_trans h.2.1 hb.size, h.2.2⟩
theorem hCells_at : ∀ (hs : List (List By)), (∀ h ∈ hs, h.length = 32) → ∀ (k : Nat) (h : List By), hs[k]? = some h → ∀ (j : Nat) (v : Value), (h.map B8)[j]? = some v → (hCells hs)[k * 32 + j]? = some v
  | x :: hs, hl, 0, h, hk, j, v, hj => by
    simp at hk
    subst hk
    show (x.map B8 ++ hCells hs)[0 * 32 + j]? = some v
    rw [Nat.zero_mul, Nat.zero_add, List.getElem?_append_left (List.getElem?_eq_some_iff.1 hj).1]
    exact hj
  | x :: hs, hl, k + 1, h, hk, j, v, hj => by
    have ih := hCells_at hs (fun y hy => hl y (by simp [hy])) k h (by simpa using hk) j v hj
    have hx : (x.map B8).length = 32 := by rw [List.length_map]; exact hl x (by simp)
    show (x.map B8 ++ hCells hs)[(k + 1) * 32 + j]? = some v
    rw [List.getElem?_append_right (by omega), hx, show (k + 1) * 32 + j - 32 = k * 32 + j by omega]
    exact ih
theorem OwnH.at {N : Nat} {w : World} {ao : Option Addr} {n c : Nat} {hs : List (List By)} (h : OwnH N w ao n c hs) (k : Nat) (x : List By) (hk : hs[k]? = some x) : ∃ q, ao = some ⟨q, 0, none⟩ ∧ w.rangeAt q (k * 32) (x.map B8) := by
  have hlt := (List.getElem?_eq_some_iff.1 hk).1
  rw [h.2.2.1] at hlt
  rcases h.1.2 with ⟨e0, e1⟩ | ⟨g, c1, cur, e1, _⟩
  · omega
  · have hown := h.1
    injection e1 with e2 _ _
    subst e2
    refine ⟨g, rfl, fun j v hj => ?_⟩
    have hj2 := (List.getElem?_eq_some_iff.1 hj).1
    rw [List.length_map, h.2.2.2 x (List.mem_of_getElem? hk)] at hj2
    rw [hown.cellAt (k * 32 + j) (by omega)]
    exact hCells_at hs h.2.2.2 k x hk j v hj
end Go.Proofs.Ythegfkcegmeklaa
