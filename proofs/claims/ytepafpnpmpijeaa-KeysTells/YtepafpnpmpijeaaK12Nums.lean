
import Derived.Test.YtepafpnpmpijeaaK12Ref2
/-! Slices of numbers of one's own; the reference's Numbers. -/
namespace Go.Proofs.Ytepafpnpmpijeaa
open Go.RowKit
set_option linter.unusedVariables false

def I64 (x : Int) : Value := .int .i64 x
/-- A slice of numbers that lies in a block from N on, or is nil. -/
def OwnI (N : Nat) (w : World) (v : Value) (m : List Int) : Prop := w.ownsRow N 3 1 v m.length (m.map I64) ∧ N ≤ w.heap.size
theorem OwnI.keep {N : Nat} {w w' : World} {v : Value} {m : List Int} (h : OwnI N w v m) (hb : Below w.heap.size w w') : OwnI N w' v m := by
  refine ⟨⟨h.1.1, ?_⟩, Nat.le_trans h.2 hb.size⟩
  rcases h.1.2 with hn | ⟨g, cap, cur, e, h1, h2, h3⟩
  · exact .inl hn
  · refine .inr ⟨g, cap, cur, e, h1, ?_, h3⟩
    have hl : g < w.heap.size := (Array.getElem?_eq_some_iff.1 h2).1
    exact (hb.block g hl).trans h2
theorem owni_nil (N : Nat) (w : World) (h : N ≤ w.heap.size) : OwnI N w (.slice none 0 0) [] := ⟨World.ownsRow_nil _ _ _ _, h⟩
theorem owni_empty (N : Nat) (w : World) (h : N ≤ w.heap.size) (C : Array Value) (hC : C.size = 0) : OwnI N (w.alloc (.cells C 3)) (.slice (some ⟨w.heap.size, 0, none⟩) 0 0) [] := by
  have hC' : C = #[] := Array.eq_empty_of_size_eq_zero hC
  subst hC'
  refine ⟨⟨by simp, .inr ⟨w.heap.size, 0, #[], rfl, h, heap_alloc_new w _, by simp, by unfold maxLen; omega, by simp, by simp⟩⟩, by simp; omega⟩
theorem OwnI.len {N : Nat} {w : World} {ao : Option Addr} {n c : Nat} {m : List Int} (h : OwnI N w (.slice ao n c) m) : m.length = n := by
  rcases h.1.2 with ⟨e, e2⟩ | ⟨g, cap, cur, e, _⟩
  · injection e with e1 e3 e4; omega
  · injection e with e1 e3 e4; exact e3.symm
theorem OwnI.lt {N : Nat} {w : World} {q n c : Nat} {m : List Int} (h : OwnI N w (.slice (some ⟨q, 0, none⟩) n c) m) : N ≤ q ∧ q < w.heap.size := h.1.lt q rfl
theorem OwnI.at {N : Nat} {w : World} {ao : Option Addr} {n c : Nat} {m : List Int} (h : OwnI N w (.slice ao n c) m) (hn : 0 < n) : ∃ g, ao = some ⟨g, 0, none⟩ ∧ N ≤ g ∧ g < w.heap.size := by
  have hlen := h.len
  rcases h.1.2 with ⟨e, e2⟩ | ⟨g, cap, cur, e, _⟩
  · omega
  · injection e with e1
    subst e1
    exact ⟨g, rfl, h.lt⟩
theorem OwnI.cell {N : Nat} {w : World} {g n c : Nat} {m : List Int} (h : OwnI N w (.slice (some ⟨g, 0, none⟩) n c) m) (j : Nat) (hj : j < n) : w.cell? ⟨g, j, none⟩ = some (.int .i64 (m.getD j 0)) := by
  have hlen := h.len
  have h1 := h.1
  rw [hlen] at h1
  rw [h1.cellAt j (by omega), List.getElem?_map, List.getElem?_eq_getElem (by omega)]
  simp [I64, hlen, hj]

theorem el_ints : ElT 35 3 1 8 (.int .i64 0) := ⟨Try.underlying35, by kernel_rfl, rfl, by omega⟩

/-- One number more. -/
theorem wpList_append_int {ops : Array Oper} {rest : List Oper} {o : Oper} {a : Act} {w : World} {Q : Exit → Act → World → Prop} (hgd : o.guard = none) (s x : Operand)
    (ho : o.op = .call { callee := .builtin .append, args := #[s, x], argTypes := #[35, 35] })
    (N : Nat) (aoD : Option Addr) (nD capD : Nat) (m : List Int) (hs : a.eval s = .slice aoD nD capD) (hown : OwnI N w (.slice aoD nD capD) m)
    (B : Nat) (y : Int) (hx : a.eval x = .slice (some ⟨B, 0, none⟩) 1 1) (hB : Row w B 3 [I64 y]) (hl : nD < 1000000)
    (h : ∀ ao' cap' w', OwnI N w' (.slice ao' (nD + 1) cap') (m ++ [y]) → w.heap.size ≤ w'.heap.size → Below N w w' → (∀ k, k < w.heap.size → aoD ≠ some ⟨k, 0, none⟩ → w'.heap[k]? = w.heap[k]?) → (ao' = aoD ∨ ao' = some ⟨w.heap.size, 0, none⟩) → wpList Try.prog ops Q rest (a.put o.dst (.slice ao' (nD + 1) cap')) w') : wpList Try.prog ops Q (o :: rest) a w := by
  have hlen := hown.len
  have h1 := hown.1
  rw [hlen] at h1
  refine wpList_append_where el_ints hgd s x ho N w aoD nD capD (m.map I64) hs h1 hown.2 (Below.refl _ _) B 0 1 1 [I64 y] hx rfl (fun j u hu => by rw [Nat.zero_add]; exact hB.cell j u hu) (by omega) (by intro u hu; simp at hu; subst hu; rfl) (by unfold maxLen; omega) (by omega) ?_
  intro ao' cap' w' q1 q2 q3 q4 q5
  refine h ao' cap' w' ⟨?_, Nat.le_trans hown.2 q3⟩ q3 q2 (fun k hk hne => q4 k hk (fun g e e2 => hne (by rw [e, e2]))) q5
  rw [List.length_append, hlen, List.map_append]
  exact q1

/-- The numbers below k that a ring has. -/
def nums (l : Secs) (k : Nat) : List Int := ((List.range k).filter fun (i : Nat) => (fnd l (i : Int)).isSome).map fun (i : Nat) => (i : Int)
theorem nums_len (l : Secs) (k : Nat) : (nums l k).length ≤ k := by
  unfold nums
  rw [List.length_map]
  exact Nat.le_trans (List.length_filter_le _ _) (by simp)
theorem nums_yes {l : Secs} {k : Nat} (h : (fnd l (k : Int)).isSome = true) : nums l (k + 1) = nums l k ++ [(k : Int)] := by
  unfold nums; rw [List.range_succ, List.filter_append]; simp [h]
theorem nums_no {l : Secs} {k : Nat} (h : (fnd l (k : Int)).isSome = false) : nums l (k + 1) = nums l k := by
  unfold nums; rw [List.range_succ, List.filter_append]; simp [h]

set_option maxHeartbeats 1000000 in
set_option maxRecDepth 100000 in
theorem rnumbers_any (w : World) (g : Nat) (ao : Option Addr) (cap : Nat) (vs : List Value) (l : Secs) (h : RgAt w g ao cap vs l) (hl : l.length ≤ 64) :
    Calls Try.prog 19 #[.pointer (some ⟨g, 0, none⟩)] w fun e w' => ∃ lo n c, e = .returned (.slice lo n c) ∧ OwnI w.heap.size w' (.slice lo n c) (nums l 64) ∧ Below w.heap.size w w' := by
  have o0 : OwnI w.heap.size (w.alloc (.cells #[] 3)) (.slice (some ⟨w.heap.size, 0, none⟩) 0 0) (nums l 0) := owni_empty _ w (Nat.le_refl _) _ rfl
  have b0 : Below w.heap.size w (w.alloc (.cells #[] 3)) := (Below.refl _ _).alloc (Nat.le_refl _) _
  go_enter Try.func19, Try.ntmps19
  go_wp2
  go_loopw [3, 4] (fun lv iv wr => ∃ (k n c : Nat) (lo : Option Addr), k ≤ 64 ∧ iv = .int .i64 k ∧ lv = .slice lo n c ∧ Hid (OwnI w.heap.size wr (.slice lo n c) (nums l k) ∧ Below w.heap.size w wr)) (fun _ iv _ => 64 - (intOf iv).toNat)
  case atStart => exact ⟨0, 0, 0, _, by omega, rfl, rfl, o0, b0⟩
  case round =>
    clear o0 b0
    obtain ⟨k, n, c, lo, hk, rfl, rfl, HI⟩ := hrel
    by_cases hlt : k < 64
    · have y0 : (0 : Int) ≤ (k : Int) := by omega
      have y1 : (k : Int) < 64 := by omega
      have H : Hid (Calls Try.prog 18 #[.pointer (some ⟨g, 0, none⟩), .int .i64 k] wr fun e w' => e = .returned (.bool (fnd l (k : Int)).isSome) ∧ w' = wr) := rhas_any wr g ao cap vs l (h.keep HI.out.2) hl k
      have HN : Hid (n ≤ 64) := by
        show n ≤ 64
        rw [← HI.out.1.len]; exact Nat.le_trans (nums_len l k) hk
      go_wp2_with fail
      refine H.out.mono ?_
      rintro e w1 ⟨rfl, rfl⟩
      cases hs : (fnd l (k : Int)).isSome with
      | false =>
        have HS : Hid (nums l (k + 1) = nums l k) := nums_no hs
        clear hs H h
        go_wp2
        exact ⟨⟨k + 1, n, c, lo, by omega, by go_num, rfl, ⟨by rw [HS.out]; exact HI.out.1, HI.out.2⟩⟩, by simp [intOf]; omega⟩
      | true =>
        have HS : Hid (nums l (k + 1) = nums l k ++ [(k : Int)]) := nums_yes hs
        have ba : Hid (Below w1.heap.size w1 (w1.alloc (.cells #[.int .i64 k] 3))) := (Below.refl _ _).alloc (Nat.le_refl _) _
        have rB : Hid (Row (w1.alloc (.cells #[.int .i64 k] 3)) w1.heap.size 3 [I64 k]) := Row.at w1 _ _ _ _ rfl rfl
        clear hs H h
        go_wp2_with (at_builtin; refine wpList_append_int rfl (.tmp 13) (.tmp 15) rfl w.heap.size lo n c (nums l k) rfl (HI.out.1.keep ba.out) w1.heap.size k rfl rB.out (by have := HN.out; omega) ?_; intro ao2 c2 w2 ho2 hz2 hb2 hk2 hw2)
        exact ⟨⟨k + 1, n + 1, c2, ao2, by omega, by go_num, rfl, ⟨by rw [HS.out]; exact ho2, (HI.out.2.trans (ba.out.mono HI.out.2.size)).trans hb2⟩⟩, by simp [intOf]; omega⟩
    · obtain rfl : k = 64 := by omega
      have y1 : ¬ ((64 : Nat) : Int) < 64 := by omega
      clear h
      go_wp2
      go_ret
      exact ⟨lo, n, c, rfl, HI.out.1, HI.out.2⟩

end Go.Proofs.Ytepafpnpmpijeaa
