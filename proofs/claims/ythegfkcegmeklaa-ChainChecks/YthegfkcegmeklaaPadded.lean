
import Derived.Test.YthegfkcegmeklaaA
import Derived.Deep.AppendLies
import Derived.Laws.AppendOwnNone
namespace Go.Proofs.Ythegfkcegmeklaa
open Go.RowKit

theorem Try.info5 : (Try.prog.info? 5).map (fun i => (i.zero, i.size, i.bytes)) = some (some (.int .u8 0), 1, 1) := by kernel_rfl

/-- The slice value holds these bytes. -/
def IsB (w : World) (ao : Option Addr) (m : List By) : Prop :=
  m = [] ∨ ∃ B off, ao = some ⟨B, off, none⟩ ∧ ∀ j v, m[j]? = some v → w.cell? ⟨B, off + j, none⟩ = some (B8 v)

theorem map_B8_one (x : By) : ([x].map B8) = [.int .u8 (x.toNat : Int)] := rfl

/-- What the walk knows of the row that it appends to. -/
def Own (N : Nat) (w : World) (v : Value) (m : List By) : Prop := w.ownsRow N 5 1 v m.length (m.map B8) ∧ N ≤ w.heap.size

theorem Own.grow {N : Nat} {w w1 : World} {v : Value} {m : List By} {x : By} (h : Own N w v m) {v' : Value} {n' : Nat} {o : Obj} (hn : n' = m.length + 1)
    (ho : w1.ownsRow N 5 1 v' n' (m.map B8 ++ [.int .u8 (x.toNat : Int)])) (hg : (w.alloc o).grownBy w1 v.ownBlock) : Own N w1 v' (m ++ [x]) := by
  refine ⟨?_, ?_⟩
  · have e : (m ++ [x]).length = n' := by simp [hn]
    rw [e, List.map_append, map_B8_one]
    exact ho
  · have := hg.size; have h2 := h.2; simp at this; omega
theorem Own.below {N : Nat} {a w w1 : World} {v : Value} {m : List By} {o : Obj} (h : Own N w v m) (hb : Below N a w) (hg : (w.alloc o).grownBy w1 v.ownBlock) : Below N a w1 :=
  (hb.alloc h.2 o).grown hg (by have := h.2; simp; omega) (fun k hk => (h.1.lt k hk).1)

set_option maxRecDepth 100000 in
theorem wpList_append_IsB {ops : Array Oper} {rest : List Oper} {o : Oper} {a : Act} {w : World} {Q : Exit → Act → World → Prop} (hgd : o.guard = none) (s x : Operand)
    (ho : o.op = .call { callee := .builtin .append, args := #[s, x], argTypes := #[36, 36] })
    (ao : Option Addr) (cap n : Nat) (m : List By) (hn : n = m.length) (hs : a.eval s = .slice none 0 0) (hx : a.eval x = .slice ao n cap) (hb : IsB w ao m) (hcap : ao = none → cap = 0) (hm : m.length ≤ 140737488353280)
    (h : ∀ v' w', Own w.heap.size w' v' m → Below w.heap.size w w' → wpList Try.prog ops Q rest (a.put o.dst v') w') : wpList Try.prog ops Q (o :: rest) a w := by
  obtain ⟨i0, hi, hz0, hz1, hz2⟩ := info_parts Try.info5
  subst hn
  rcases hb with rfl | ⟨B, off, rfl, hc⟩
  · cases ao with
    | none =>
      rw [hcap rfl] at hx
      exact wpList_append_own_none hgd s x 36 ho w.heap.size 5 i0 1 Try.underlying36 hi _ 0 [] hs (World.ownsRow_nil _ _ _ _) hx (h _ _ ⟨World.ownsRow_nil _ _ _ _, Nat.le_refl _⟩ (Below.refl _ _))
    | some ad =>
      refine wpList_append_own w hgd s x 36 ho w.heap.size 5 i0 (.int .u8 0) 1 1 Try.underlying36 hi hz0 hz1 hz2 rfl (by decide) _ 0 [] hs (World.ownsRow_nil _ _ _ _) ad 0 cap [] hx (by simp) (by simp) (by simp) (by unfold maxLen; omega) (by omega) (Nat.le_refl _) ?_
      intro v' w' h1 h2 _
      exact h v' w' ⟨by simpa using h1, h2.size⟩ ((Below.refl _ _).grown h2 (Nat.le_refl _) (fun k hk => by cases hk))
  · refine wpList_append_own w hgd s x 36 ho w.heap.size 5 i0 (.int .u8 0) 1 1 Try.underlying36 hi hz0 hz1 hz2 rfl (by decide) _ 0 [] hs (World.ownsRow_nil _ _ _ _) _ m.length cap (m.map B8) hx (by simp) ?_ (B8_one m) ?_ ?_ (Nat.le_refl _) ?_
    · intro j u hu
      rw [Addr.add_mid]
      rw [List.getElem?_map] at hu
      cases hj : m[j]? with
      | none => rw [hj] at hu; cases hu
      | some v => rw [hj] at hu; injection hu with hu; subst hu; exact hc j v hj
    · unfold maxLen; omega
    · omega
    · intro v' w' h1 h2 _
      refine h v' w' ⟨by simpa using h1, ?_⟩ ?_
      · exact h2.size
      · exact (Below.refl _ _).grown h2 (Nat.le_refl _) (fun k hk => by cases hk)

set_option maxRecDepth 100000 in
theorem wpList_append_one {ops : Array Oper} {rest : List Oper} {o : Oper} {a : Act} {w : World} {Q : Exit → Act → World → Prop} (hgd : o.guard = none) (s x : Operand)
    (ho : o.op = .call { callee := .builtin .append, args := #[s, x], argTypes := #[36, 36] })
    (N t : Nat) (a0 : World) (v : Value) (m : List By) (y : By) (yy : Int) (hyy : yy = (y.toNat : Int)) (g0 : Nat) (hg0 : g0 = w.heap.size) (hs : a.eval s = v) (hx : a.eval x = .slice (some ⟨g0, 0, none⟩) 1 1)
    (hown : Own N w v m) (hbel : Below N a0 w) (n : Nat) (hn : m.length = n) (hm : n < 140737488355328)
    (h : ∀ g cap w', Own N w' (.slice (some ⟨g, 0, none⟩) (n + 1) cap) (m ++ [y]) → Below N a0 w' → wpList Try.prog ops Q rest (a.put o.dst (.slice (some ⟨g, 0, none⟩) (n + 1) cap)) w') :
    wpList Try.prog ops Q (o :: rest) a (w.alloc (.cells #[.int .u8 yy] t)) := by
  obtain ⟨i0, hi, hz0, hz1, hz2⟩ := info_parts Try.info5
  subst hyy
  subst hg0
  subst hn
  refine wpList_append_lies (P := Try.prog) _ hgd s x 36 ho N 5 i0 (.int .u8 0) 1 1 Try.underlying36 hi hz0 hz1 hz2 rfl (by decide) v m.length (m.map B8) hs (hown.1.alloc _) ⟨w.heap.size, 0, none⟩ 1 1 [.int .u8 (y.toNat : Int)] hx rfl (cell_one_new _ _ _) ?_ (by decide) ?_ ?_ ?_ (w.heap.size + 1) (by simp) ?_
  · intro u hu; simp at hu; subst hu; rfl
  · unfold maxLen; omega
  · omega
  · have := hown.2; simp; omega
  · intro g cap w' h1 h2 _ _
    exact h g cap w' (hown.grow rfl h1 h2) (hown.below hbel h2)

def slen : Value → Nat
  | .slice _ n _ => n
  | _ => 0

set_option maxHeartbeats 1000000 in
set_option maxRecDepth 100000 in
theorem padded_any (ao : Option Addr) (cap : Nat) (m : List By) (w : World) (hb : IsB w ao m) (hcap : ao = none → cap = 0) (hm : m.length ≤ 140737488353280) :
    Calls Try.prog 47 #[.slice ao m.length cap] w fun e w' => ∃ v, e = .returned v ∧ Own w.heap.size w' v (pad m) ∧ Below w.heap.size w w' := by
  obtain ⟨ml, hml⟩ : ∃ n, n = m.length := ⟨_, rfl⟩
  rw [← hml]
  have HM : Hid (ml = m.length) := hml
  have hm1 : ml ≤ 140737488353280 := by omega
  clear hml
  go_enter Try.func47, Try.ntmps47
  go_wp2_with (first | (at_builtin; refine wpList_append_IsB rfl (.const _) (.tmp 6) rfl ao cap ml m HM.out rfl rfl hb hcap hm ?_; intro v1 w1 ho1 hb1) | (at_builtin; refine wpList_append_one rfl (.tmp 8) (.tmp 9) rfl w.heap.size _ w _ m 128#8 _ rfl _ rfl rfl rfl ho1 hb1 ml HM.out.symm (by omega) ?_; intro g2 c2 w2 ho2 hb2))
  go_loopw [3] (fun v wr => ∃ z g c n : Nat, z ≤ zerosOf ml ∧ Hid (n = ml + 1 + z) ∧ v = .slice (some ⟨g, 0, none⟩) n c ∧ Own w.heap.size wr (.slice (some ⟨g, 0, none⟩) n c) (m ++ 128#8 :: List.replicate z 0) ∧ Below w.heap.size w wr)
    (fun v _ => ml + 65 - slen v)
  case atStart => exact ⟨0, g2, c2, ml + 1, by omega, rfl, rfl, ho2, hb2⟩
  case round =>
    clear ho2 hb2 ho1 hb1
    obtain ⟨z, g, c, n, hz, hn, rfl, ho, hbl⟩ := hrel
    have hzb : zerosOf ml < 64 := by unfold zerosOf; omega
    have hn1 := hn.out
    by_cases hlt : z < zerosOf ml
    · have ht : (((n : Int) % 64) != 56) = true := by
        rw [bne_iff_ne]; unfold zerosOf at hlt; omega
      have hn0 : n < 140737488355328 := by omega
      have hL : (m ++ 128#8 :: List.replicate z 0).length = n := by have := HM.out; simp; omega
      have e : Hid (m ++ 128#8 :: List.replicate (z + 1) 0 = (m ++ 128#8 :: List.replicate z 0) ++ [0#8]) := by
        show _ = _
        rw [List.replicate_succ']; simp
      generalize m ++ 128#8 :: List.replicate z 0 = L at ho e hL
      have hHL : Hid (L.length = n) := hL
      clear hL hn1
      go_wp2_with (at_builtin; refine wpList_append_one rfl (.tmp 15) (.tmp 16) rfl w.heap.size _ w _ L 0#8 _ rfl _ rfl rfl rfl ho hbl n hHL.out hn0 ?_; intro g3 c3 w3 ho3 hb3)
      refine ⟨⟨z + 1, g3, c3, n + 1, by omega, ?_, rfl, ?_, hb3⟩, ?_⟩
      · show _ = _
        rw [hn.out]; omega
      · rw [e.out]; exact ho3
      · have := hn.out; simp [slen]; omega
    · obtain rfl : z = zerosOf ml := by omega
      have ht : (((n : Int) % 64) != 56) = false := by
        rw [bne_eq_false_iff_eq]; unfold zerosOf at hn1; omega
      clear hn1 hlt
      have q1 : 8 * (ml : Int) < 18446744073709551616 := by omega
      go_wp2
      generalize hMM : m ++ 128#8 :: List.replicate (zerosOf ml) 0 = M at ho
      have hML : Hid (M.length = n) := by show _ = _; rw [← hMM]; have := HM.out; have := hn.out; simp; omega
      have HMM : Hid (m ++ 128#8 :: List.replicate (zerosOf ml) 0 = M) := hMM
      clear hMM
      go_loopw [3, 5] (fun v i wr => ∃ j g c n : Nat, j ≤ 8 ∧ i = .int .i64 ((j : Int) - 1) ∧ Hid (n = M.length + (8 - j)) ∧ v = .slice (some ⟨g, 0, none⟩) n c ∧ Own w.heap.size wr (.slice (some ⟨g, 0, none⟩) n c) (M ++ (lenBytes ml).take (8 - j)) ∧ Below w.heap.size w wr)
        (fun _ i _ => (intOf i + 1).toNat)
      case atStart => exact ⟨8, g, c, n, by omega, rfl, hML.out.symm, rfl, by simpa using ho, hbl⟩
      case round =>
        clear ho hbl
        obtain ⟨j, g, c, n', hk, rfl, hn', rfl, ho, hbl⟩ := hrel
        by_cases hlt : 0 < j
        · obtain ⟨k, rfl⟩ : ∃ k, j = k + 1 := ⟨j - 1, by omega⟩
          have ej : ((k + 1 : Nat) : Int) - 1 = (k : Int) := by omega
          rw [ej]
          clear ej hlt
          have hn2 : n' < 140737488355328 := by have := hn'.out; have := hML.out; have := hn.out; omega
          have hLL : Hid ((M ++ (lenBytes ml).take (8 - (k + 1))).length = n') := by
            have := hn'.out
            show _ = _
            simp [lenBytes]; omega
          have hk8 : k = 0 ∨ k = 1 ∨ k = 2 ∨ k = 3 ∨ k = 4 ∨ k = 5 ∨ k = 6 ∨ k = 7 := by omega
          clear hk
          rcases hk8 with rfl | rfl | rfl | rfl | rfl | rfl | rfl | rfl
          · have e : Hid (M ++ (lenBytes ml).take (8 - 0) = (M ++ (lenBytes ml).take (8 - (0 + 1))) ++ [BitVec.ofNat 8 (8 * ml)]) := by
              show _ = _
              simp [lenBytes]
            generalize M ++ (lenBytes ml).take (8 - (0 + 1)) = L at ho hLL e
            go_wp2_with (at_builtin; refine wpList_append_one rfl (.tmp 26) (.tmp 32) rfl w.heap.size _ w _ L (BitVec.ofNat 8 (8 * ml)) _ (by simp only [BitVec.toNat_ofNat]; omega) _ rfl rfl rfl ho hbl n' hLL.out hn2 ?_; intro g3 c3 w3 ho3 hb3)
            refine ⟨⟨0, g3, c3, n' + 1, by omega, rfl, ?_, rfl, ?_, hb3⟩, by simp [intOf]⟩
            · show _ = _
              rw [hn'.out]
            · rw [e.out]; exact ho3
          · have e : Hid (M ++ (lenBytes ml).take (8 - 1) = (M ++ (lenBytes ml).take (8 - (1 + 1))) ++ [BitVec.ofNat 8 (8 * ml / 256)]) := by
              show _ = _
              simp [lenBytes]
            generalize M ++ (lenBytes ml).take (8 - (1 + 1)) = L at ho hLL e
            go_wp2_with (at_builtin; refine wpList_append_one rfl (.tmp 26) (.tmp 32) rfl w.heap.size _ w _ L (BitVec.ofNat 8 (8 * ml / 256)) _ (by simp only [BitVec.toNat_ofNat]; omega) _ rfl rfl rfl ho hbl n' hLL.out hn2 ?_; intro g3 c3 w3 ho3 hb3)
            refine ⟨⟨1, g3, c3, n' + 1, by omega, rfl, ?_, rfl, ?_, hb3⟩, by simp [intOf]⟩
            · show _ = _
              rw [hn'.out]
            · rw [e.out]; exact ho3
          · have e : Hid (M ++ (lenBytes ml).take (8 - 2) = (M ++ (lenBytes ml).take (8 - (2 + 1))) ++ [BitVec.ofNat 8 (8 * ml / 65536)]) := by
              show _ = _
              simp [lenBytes]
            generalize M ++ (lenBytes ml).take (8 - (2 + 1)) = L at ho hLL e
            go_wp2_with (at_builtin; refine wpList_append_one rfl (.tmp 26) (.tmp 32) rfl w.heap.size _ w _ L (BitVec.ofNat 8 (8 * ml / 65536)) _ (by simp only [BitVec.toNat_ofNat]; omega) _ rfl rfl rfl ho hbl n' hLL.out hn2 ?_; intro g3 c3 w3 ho3 hb3)
            refine ⟨⟨2, g3, c3, n' + 1, by omega, rfl, ?_, rfl, ?_, hb3⟩, by simp [intOf]⟩
            · show _ = _
              rw [hn'.out]
            · rw [e.out]; exact ho3
          · have e : Hid (M ++ (lenBytes ml).take (8 - 3) = (M ++ (lenBytes ml).take (8 - (3 + 1))) ++ [BitVec.ofNat 8 (8 * ml / 16777216)]) := by
              show _ = _
              simp [lenBytes]
            generalize M ++ (lenBytes ml).take (8 - (3 + 1)) = L at ho hLL e
            go_wp2_with (at_builtin; refine wpList_append_one rfl (.tmp 26) (.tmp 32) rfl w.heap.size _ w _ L (BitVec.ofNat 8 (8 * ml / 16777216)) _ (by simp only [BitVec.toNat_ofNat]; omega) _ rfl rfl rfl ho hbl n' hLL.out hn2 ?_; intro g3 c3 w3 ho3 hb3)
            refine ⟨⟨3, g3, c3, n' + 1, by omega, rfl, ?_, rfl, ?_, hb3⟩, by simp [intOf]⟩
            · show _ = _
              rw [hn'.out]
            · rw [e.out]; exact ho3
          · have e : Hid (M ++ (lenBytes ml).take (8 - 4) = (M ++ (lenBytes ml).take (8 - (4 + 1))) ++ [BitVec.ofNat 8 (8 * ml / 4294967296)]) := by
              show _ = _
              simp [lenBytes]
            generalize M ++ (lenBytes ml).take (8 - (4 + 1)) = L at ho hLL e
            go_wp2_with (at_builtin; refine wpList_append_one rfl (.tmp 26) (.tmp 32) rfl w.heap.size _ w _ L (BitVec.ofNat 8 (8 * ml / 4294967296)) _ (by simp only [BitVec.toNat_ofNat]; omega) _ rfl rfl rfl ho hbl n' hLL.out hn2 ?_; intro g3 c3 w3 ho3 hb3)
            refine ⟨⟨4, g3, c3, n' + 1, by omega, rfl, ?_, rfl, ?_, hb3⟩, by simp [intOf]⟩
            · show _ = _
              rw [hn'.out]
            · rw [e.out]; exact ho3
          · have e : Hid (M ++ (lenBytes ml).take (8 - 5) = (M ++ (lenBytes ml).take (8 - (5 + 1))) ++ [BitVec.ofNat 8 (8 * ml / 1099511627776)]) := by
              show _ = _
              simp [lenBytes]
            generalize M ++ (lenBytes ml).take (8 - (5 + 1)) = L at ho hLL e
            go_wp2_with (at_builtin; refine wpList_append_one rfl (.tmp 26) (.tmp 32) rfl w.heap.size _ w _ L (BitVec.ofNat 8 (8 * ml / 1099511627776)) _ (by simp only [BitVec.toNat_ofNat]; omega) _ rfl rfl rfl ho hbl n' hLL.out hn2 ?_; intro g3 c3 w3 ho3 hb3)
            refine ⟨⟨5, g3, c3, n' + 1, by omega, rfl, ?_, rfl, ?_, hb3⟩, by simp [intOf]⟩
            · show _ = _
              rw [hn'.out]
            · rw [e.out]; exact ho3
          · have e : Hid (M ++ (lenBytes ml).take (8 - 6) = (M ++ (lenBytes ml).take (8 - (6 + 1))) ++ [BitVec.ofNat 8 (8 * ml / 281474976710656)]) := by
              show _ = _
              simp [lenBytes]
            generalize M ++ (lenBytes ml).take (8 - (6 + 1)) = L at ho hLL e
            go_wp2_with (at_builtin; refine wpList_append_one rfl (.tmp 26) (.tmp 32) rfl w.heap.size _ w _ L (BitVec.ofNat 8 (8 * ml / 281474976710656)) _ (by simp only [BitVec.toNat_ofNat]; omega) _ rfl rfl rfl ho hbl n' hLL.out hn2 ?_; intro g3 c3 w3 ho3 hb3)
            refine ⟨⟨6, g3, c3, n' + 1, by omega, rfl, ?_, rfl, ?_, hb3⟩, by simp [intOf]⟩
            · show _ = _
              rw [hn'.out]
            · rw [e.out]; exact ho3
          · have e : Hid (M ++ (lenBytes ml).take (8 - 7) = (M ++ (lenBytes ml).take (8 - (7 + 1))) ++ [BitVec.ofNat 8 (8 * ml / 72057594037927936)]) := by
              show _ = _
              simp [lenBytes]
            generalize M ++ (lenBytes ml).take (8 - (7 + 1)) = L at ho hLL e
            go_wp2_with (at_builtin; refine wpList_append_one rfl (.tmp 26) (.tmp 32) rfl w.heap.size _ w _ L (BitVec.ofNat 8 (8 * ml / 72057594037927936)) _ (by simp only [BitVec.toNat_ofNat]; omega) _ rfl rfl rfl ho hbl n' hLL.out hn2 ?_; intro g3 c3 w3 ho3 hb3)
            refine ⟨⟨7, g3, c3, n' + 1, by omega, rfl, ?_, rfl, ?_, hb3⟩, by simp [intOf]⟩
            · show _ = _
              rw [hn'.out]
            · rw [e.out]; exact ho3
        · obtain rfl : j = 0 := by omega
          clear hlt hk
          go_wp2
          go_ret
          refine ⟨_, rfl, ?_, hbl⟩
          have e : pad m = M ++ (lenBytes ml).take (8 - 0) := by
            rw [← HMM.out, HM.out]; simp [pad, ending, lenBytes]
          rw [e]
          exact ho
end Go.Proofs.Ythegfkcegmeklaa
