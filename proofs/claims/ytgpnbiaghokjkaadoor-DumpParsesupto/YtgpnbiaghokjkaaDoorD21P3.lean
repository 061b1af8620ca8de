import Derived.Test.YtgpnbiaghokjkaaDoorD21P2
import Derived.Test.YtgpnbiaghokjkaaDoorD21PaM
/-! Layer 21, the landed code: appendLine, numbersOf, blownOf. -/
namespace Go.Proofs.YtgpnbiaghokjkaaDoor
open Go.RowKit
set_option linter.unusedVariables false
set_option linter.unusedSimpArgs false
set_option maxRecDepth 100000

set_option maxHeartbeats 2000000 in
theorem appendLine_any (N : Nat) (v : Value) (m : List By) (w : World) (ho : Own N w v m) (ht : TabB N w) (S : ByteArray) (word : List By) (hS : S = strOf word) (hwl : word.length ≤ 100) (l : List Nat) (hll : l.length ≤ 1000000) (hl63 : ∀ n ∈ l, n < 9223372036854775808) (lo : Option Addr) (lc : Nat) (hn : NumAt w lo l) (hm : m.length ≤ 100000000000000) :
    Calls Tryd.prog 38 #[v, .string S, .slice lo l.length lc] w (Wrote N w (m ++ (word ++ numsL l ++ [10#8]))) := by
  have HW : Hid (Calls Tryd.prog 53 #[v, .string S, .slice lo l.length lc] w (Wrote N w (m ++ (word ++ numsL l)))) := appendWords_any N v m w ho ht S word hS hwl l hll hl63 lo lc hn hm
  have HL : Hid ((m ++ (word ++ numsL l)).length + 1 ≤ 140737488353280) := by
    have h1 := numsL_len l hl63
    show _ ≤ _
    rw [List.length_append, List.length_append]; omega
  have HE : Hid (m ++ (word ++ numsL l ++ [10#8]) = m ++ (word ++ numsL l) ++ [10#8]) := by show _ = _; simp [List.append_assoc]
  rw [HE.out]
  generalize m ++ (word ++ numsL l) = M at *
  clear ho ht hn hl63 hS hwl hm hll HE
  go_enter Tryd.func38, Tryd.ntmps38
  go_upto_region 1 with fail
  go_wp2_with (first
    | (refine HW.out.mono ?_; rintro e w1 ⟨v1, rfl, hb1⟩; dsimp only)
    | (at_builtin; refine wpList_bap1 rfl (.tmp 10) (.tmp 11) rfl N w _ M hb1 rfl 10#8 10 rfl rfl HL.out ?_; intro v2 w2 hb2))
  go_ret
  exact ⟨_, rfl, hb2⟩

set_option maxHeartbeats 2000000 in
theorem numbersOf_any (c : Cfg) (w : World) : Calls Tryd.prog 37 #[.agg c.vals.toArray] w fun e w' => e = .returned (.agg c.vals.toArray) ∧ Below w.heap.size w w' := by
  obtain ⟨n0, n1, n2, n3, n4, n5, n6⟩ := c
  simp only [Cfg.vals]
  have r1 := Row.at w 24 [.int .i64 n0, .int .i64 n1, .int .i64 n2, .int .i64 n3, .int .i64 n4, .int .i64 n5, .int .i64 n6] _ _ rfl rfl
  have r2 := Row.at (w.alloc (.cells #[.int .i64 n0, .int .i64 n1, .int .i64 n2, .int .i64 n3, .int .i64 n4, .int .i64 n5, .int .i64 n6] 24)) 81 [.int .i64 0, .int .i64 0, .int .i64 0, .int .i64 0, .int .i64 0, .int .i64 0, .int .i64 0] _ _ rfl rfl
  have b2 : Below w.heap.size w ((w.alloc (.cells #[.int .i64 n0, .int .i64 n1, .int .i64 n2, .int .i64 n3, .int .i64 n4, .int .i64 n5, .int .i64 n6] 24)).alloc (.cells #[.int .i64 0, .int .i64 0, .int .i64 0, .int .i64 0, .int .i64 0, .int .i64 0, .int .i64 0] 81)) := ((Below.refl _ _).alloc (Nat.le_refl _) _).alloc (by simp) _
  have hsz : (w.alloc (.cells #[.int .i64 n0, .int .i64 n1, .int .i64 n2, .int .i64 n3, .int .i64 n4, .int .i64 n5, .int .i64 n6] 24)).heap.size = w.heap.size + 1 := by simp
  rw [hsz] at r2
  go_enter Tryd.func37, Tryd.ntmps37
  go_wp2_with (refine wpList_store_Row rfl 81 _ _ rfl (w.heap.size + 1) 81 0 _ [.int .i64 n0, .int .i64 n1, .int .i64 n2, .int .i64 n3, .int .i64 n4, .int .i64 n5, .int .i64 n6] r2 (by simp) rfl rfl (by simp only [List.length_cons, List.length_nil]; kernel_rfl) (by simp [Value.oneCell']) ?_; intro w9 hr9 hs9)
  have hr := row_whole hr9 (by simp)
  exact bodyPost_ret_by (results_Row Tryd.results37 _ w9 (w.heap.size + 1) 81 _ _ rfl hr Tryd.underlying81 rfl (by simp only [List.length_cons, List.length_nil]; kernel_rfl)) rfl ⟨rfl, hs9.below b2 (by omega)⟩

theorem trues_take (b : List Bool) (i : Nat) (hi : i < b.length) : trues (b.take (i + 1)) 0 = trues (b.take i) 0 ++ (if b.getD i false then [i] else []) := by
  have hl : (b.take i).length = i := by rw [List.length_take]; omega
  rw [take_snoc b i false hi, trues_app, hl, Nat.zero_add]
set_option maxHeartbeats 2000000 in
theorem blownOf_any (v : SV) (t : St) (w : World) (hbl : IsL w v.bo (t.blown.map Value.bool)) (hlen : t.blown.length ≤ 1000000) :
    Calls Tryd.prog 39 #[.agg (v.vals t).toArray] w fun e w' => ∃ lo c, e = .returned (.slice lo (trues t.blown 0).length c) ∧ w'.ownsRow w.heap.size 3 1 (.slice lo (trues t.blown 0).length c) (trues t.blown 0).length ((trues t.blown 0).map nI) ∧ Below w.heap.size w w' := by
  have r0 : Row (w.alloc (.cells (v.vals t).toArray 29)) w.heap.size 29 (v.vals t) := Row.at _ _ _ _ _ rfl rfl
  have c2 := r0.cell 2 (.slice v.bo t.blown.length v.bc) rfl
  have hz0 : (w.alloc (.cells (v.vals t).toArray 29)).heap.size = w.heap.size + 1 := by simp
  have hb0 : Below w.heap.size w (w.alloc (.cells (v.vals t).toArray 29)) := (Below.refl _ _).alloc (Nat.le_refl _) _
  have HC : Hid (∀ W, Below w.heap.size w W → ∀ i, i < t.blown.length → ∃ B off, v.bo = some ⟨B, off, none⟩ ∧ W.cell? ⟨B, off + i, none⟩ = some (.bool (t.blown.getD i false))) := fun W hW i hi => (hbl.below hW (Nat.le_refl _)).cell i _ (by rw [List.getElem?_map, List.getElem?_eq_getElem hi, List.getD_eq_getElem?_getD, List.getElem?_eq_getElem hi]; rfl)
  have HST : Hid (∀ i, i < t.blown.length → trues (t.blown.take (i + 1)) 0 = trues (t.blown.take i) 0 ++ (if t.blown.getD i false then [i] else [])) := fun i hi => trues_take t.blown i hi
  have HLN : Hid (∀ i, (trues (t.blown.take i) 0).length ≤ 1000000) := fun i => by
    have := trues_len (t.blown.take i) 0
    rw [List.length_take] at this
    omega
  have HEND : Hid (t.blown.take t.blown.length = t.blown) := List.take_length
  generalize hW0 : w.alloc (.cells (v.vals t).toArray 29) = W0 at *
  clear r0 hbl
  go_enter Tryd.func39, Tryd.ntmps39
  go_upto_region 1 with fail
  try rw [hW0]
  clear hW0
  go_wp2_with fail
  go_loopw [3, 9] (fun lv iv wr => ∃ (i : Nat) (lo : Option Addr) (c : Nat), i ≤ t.blown.length ∧ iv = .int .i64 i ∧ lv = .slice lo (trues (t.blown.take i) 0).length c ∧ Hid (wr.ownsRow w.heap.size 3 1 (.slice lo (trues (t.blown.take i) 0).length c) (trues (t.blown.take i) 0).length ((trues (t.blown.take i) 0).map nI)) ∧ Hid (Below w.heap.size w wr)) (fun _ iv _ => t.blown.length - (intOf iv).toNat)
  case atStart => exact ⟨0, none, 0, by omega, rfl, rfl, World.ownsRow_nil _ _ _ _, hb0⟩
  case round =>
    clear hb0 c2
    obtain ⟨i, lo, c, hi, rfl, rfl, HO, HB⟩ := hrel
    by_cases hlt : i < t.blown.length
    · have y0 : (0 : Int) ≤ (i : Int) := by omega
      have y1 : (i : Int) < (t.blown.length : Int) := by omega
      have wi : IntKind.i64.wrap ((i : Int) + 1) = (i : Int) + 1 := i64_in _ (by omega) (by omega)
      obtain ⟨B, off, hbo, cc⟩ := HC.out wr HB.out i hlt
      have HBO : Hid (v.bo = some ⟨B, off, none⟩) := hbo
      rw [hbo]
      clear hbo
      have hst := HST.out i hlt
      have hln := HLN.out i
      cases hbv : t.blown.getD i false with
      | false =>
        rw [hbv] at cc hst
        have HS2 : Hid (trues (t.blown.take (i + 1)) 0 = trues (t.blown.take i) 0) := by show _ = _; rw [hst]; simp
        clear hst hbv
        go_wp2
        exact ⟨⟨i + 1, lo, c, by omega, by go_num, by rw [HS2.out], by rw [HS2.out]; exact HO, HB⟩, by simp [intOf]; omega⟩
      | true =>
        rw [hbv] at cc hst
        have HS2 : Hid (trues (t.blown.take (i + 1)) 0 = trues (t.blown.take i) 0 ++ [i]) := by show _ = _; rw [hst]; simp
        clear hst hbv
        generalize trues (t.blown.take i) 0 = L at *
        go_upto_region 7 with (at_builtin; refine wpList_app1k el_ints rfl (.tmp 15) (.tmp 17) rfl w.heap.size _ lo L.length c (L.map nI) (.int .i64 (i : Int)) rfl _ rfl rfl rfl HO.out HB.out.size (by omega) (by unfold maxLen; omega) ?_; intro lo2 c3 w2 ho2 hb2 hk2)
        have HO2 : Hid (w2.ownsRow w.heap.size 3 1 (.slice lo2 (trues (t.blown.take (i + 1)) 0).length c3) (trues (t.blown.take (i + 1)) 0).length ((trues (t.blown.take (i + 1)) 0).map nI)) := by
          show World.ownsRow _ _ _ _ _ _ _
          rw [HS2.out, List.length_append, List.map_append]
          exact ho2
        have HB2 : Hid (Below w.heap.size w w2) := HB.out.trans hb2
        clear ho2 hb2 hk2 cc HO HB
        go_wp2
        exact ⟨⟨i + 1, lo2, c3, by omega, by go_num, by rw [HS2.out, List.length_append]; rfl, HO2, HB2⟩, by simp [intOf]; omega⟩
    · obtain rfl : i = t.blown.length := by omega
      rw [HEND.out] at HO
      rw [HEND.out]
      go_wp2
      go_ret
      exact ⟨lo, c, rfl, HO.out, HB.out⟩
end Go.Proofs.YtgpnbiaghokjkaaDoor
