import Derived.Test.YtpcgkjngpdplmaaGreatDoorSched
import Derived.Test.YtpcgkjngpdplmaaGreatDoorMOf
import Derived.Lib.AppendStr
import Derived.Laws.MakeOwn
import Derived.Laws.CopyOwn
import Derived.Lib.LazyBuf

/-! Of any code that makes bytes: append of a string's bytes, make with room, copy into a part of a known block. -/
namespace Go.Proofs.YtpcgkjngpdplmaaGreatDoor
open Go.RowKit
set_option linter.unusedVariables false

/-- copy() into a part of a block known whole, at a step of a drawn region. -/
theorem step_copy_Row {ops : Array Oper} {o : Oper} {a : Act} {w : World} {K : Act → World → Prop} {Q : Exit → Act → World → Prop} {E : Prop} (hgd : o.guard = none) (d s : Operand)
    (ho : o.op = .call { callee := .builtin .copy, args := #[d, s], argTypes := #[32, 32] })
    (D od dLen dCap B off sLen sCap : Nat) (hd : a.eval d = .slice (some ⟨D, od, none⟩) dLen dCap) (hs : a.eval s = .slice (some ⟨B, off, none⟩) sLen sCap)
    (t : Nat) (cur : List Value) (hr : Row w D t cur) (cs : List By) (k : Nat) (hk : cs.length = k) (hn : k = Nat.min sLen dLen)
    (hsrc : ∀ j v, cs[j]? = some v → w.cell? ⟨B, off + j, none⟩ = some (B8 v)) (hfit : od + k ≤ cur.length)
    (h : ∀ w', Row w' D t (cur.take od ++ cs.map B8 ++ cur.drop (od + (cs.map B8).length)) → SameBut D w w' → K (a.put o.dst (.int .i64 (k : Int))) w') :
    if Region.wanted o (yielded ops a.tmps) = true then Oper.wp Tryz.prog o a w K Q else E := by
  have hw : Region.wanted o (yielded ops a.tmps) = true := by simp [Region.wanted, hgd]
  rw [if_pos hw]
  have hth := hr.there od k hfit
  have hrun := run_copy_cells (P := Tryz.prog) w 32 32 o.type 5 D od dLen dCap ⟨B, off, none⟩ sLen sCap (cs.map B8) Tryz.underlying32 (by kernel_rfl) (by rw [List.length_map, hk, hn])
    (by
      intro j v hv
      rw [Addr.add_mid]
      rw [List.getElem?_map] at hv
      cases hj : cs[j]? with
      | none => rw [hj] at hv; cases hv
      | some x => rw [hj] at hv; injection hv with hv; subst hv; exact hsrc j x hj)
    (fun j hj => (hth j (by rw [List.length_map, hk] at hj; exact hj)).1) (fun j hj => (hth j (by rw [List.length_map, hk] at hj; exact hj)).2) (B8_one cs)
  unfold Oper.wp
  simp [execOp, ho, resolve, invoke, builtin, hd, hs, hrun, Result.andThen, goInt, hk]
  refine h _ ?_ (SameBut.setCells D _ od w)
  exact Row.setCells (cs.map B8) od w cur hr (by rw [List.length_map, hk]; exact hfit)

/-- 'make([]byte, n)': a row of its own. -/
theorem wpList_make_rowN {ops : Array Oper} {rest : List Oper} {o : Oper} {a : Act} {w : World} {Q : Exit → Act → World → Prop} (hg : o.guard = none) (l c : Operand) (hop : o.op = Op.makeSlice 32 l c)
    (kl kc : IntKind) (L C : Int) (n : Nat) (hl : a.eval l = .int kl L) (hc : a.eval c = .int kc C) (hL : L = (n : Int)) (hC : C = (n : Int)) (hn : n ≤ 281474976710656)
    (hK : ∀ w', Row w' w.heap.size 5 ((List.replicate n (0 : By)).map B8) → Below w.heap.size w w' → w'.heap.size = w.heap.size + 1 → wpList Tryz.prog ops Q rest (a.put o.dst (.slice (some ⟨w.heap.size, 0, none⟩) n n)) w') :
    wpList Tryz.prog ops Q (o :: rest) a w := by
  obtain ⟨i0, hi, hz0, hz1, hz2⟩ := info_parts Tryz.info5
  refine wpList_plain hg fun K hK' => ?_
  subst hL
  subst hC
  have hrun := run_make (P := Tryz.prog) w 32 5 i0 (.int .u8 0) Tryz.underlying32 hi hz0 kl kc (n : Int) (n : Int) (by omega) (by omega) (by rw [hz2]; omega) (by omega)
  unfold Oper.wp
  simp [execOp, hop, hl, hc, hrun, Result.andThen]
  refine hK' _ _ (hK _ ?_ ?_ (by simp))
  · refine Row.at w 5 _ _ _ rfl ?_
    rw [hz1, Nat.mul_one]
    have : (madeCells #[Value.int .u8 0] n).toList = (List.replicate n (0 : By)).map B8 := by
      rw [toList_madeCells_one]; simp [B8]
    rw [← this]; rfl
  · exact (Below.refl _ _).alloc (Nat.le_refl _) _

/-- A row of bytes that lies above N is the call's own. -/
theorem own_row {N : Nat} {w : World} {g : Nat} {m : List By} (h : Row w g 5 (m.map B8)) (hg : N ≤ g) (n : Nat) (hn : m.length = n) (hm : n ≤ 140737488355328) : Own N w (.slice (some ⟨g, 0, none⟩) n n) m := by
  have hl := h.lt
  subst hn
  refine ⟨⟨by simp, .inr ⟨g, m.length, (m.map B8).toArray, rfl, hg, h, Nat.le_refl _, by unfold maxLen; omega, by simp, ?_⟩⟩, by omega⟩
  simp
  exact List.take_of_length_le (by simp)

/-- 'copy' of all bytes of a slice into a row, from place 'od' on. -/
theorem run_copy_to (w : World) (ty D od dLen dCap : Nat) (bo : Option Addr) (n cap : Nat) (hle : n ≤ dLen) (m : List By) (hr : Row w D 5 (m.map B8)) (b : List By) (hb0 : b.length = n) (hb : IsB w bo b) (hfit : od + n ≤ m.length) :
    ∃ w', (Builtin.copy_ #[32, 32] ty #[.slice (some ⟨D, od, none⟩) dLen dCap, .slice bo n cap]).run Tryz.prog w = .ok (.int .i64 (n : Int)) w' ∧ Row w' D 5 ((splice m od b).map B8) ∧ SameBut D w w' := by
  by_cases h0 : n = 0
  · have hbn : b = [] := List.eq_nil_of_length_eq_zero (by rw [hb0]; exact h0)
    subst hbn
    subst h0
    refine ⟨w, run_copy_none (P := Tryz.prog) w 32 32 ty 5 (some ⟨D, od, none⟩) bo dLen dCap 0 cap Tryz.underlying32 (by kernel_rfl) (by exact Nat.zero_min _), ?_, SameBut.refl _ _⟩
    simpa [splice] using hr
  · rcases hb with rfl | ⟨B, off, rfl, hc⟩
    · simp at hb0; omega
    · have hth := hr.there od n (by simpa using hfit)
      have hrun := run_copy_cells (P := Tryz.prog) w 32 32 ty 5 D od dLen dCap ⟨B, off, none⟩ n cap (b.map B8) Tryz.underlying32 (by kernel_rfl) (by rw [List.length_map, hb0]; exact (Nat.min_eq_left hle).symm)
        (by
          intro j v hv
          rw [Addr.add_mid]
          rw [List.getElem?_map] at hv
          cases hj : b[j]? with
          | none => rw [hj] at hv; cases hv
          | some x => rw [hj] at hv; injection hv with hv; subst hv; exact hc j x hj)
        (fun j hj => (hth j (by rw [List.length_map, hb0] at hj; exact hj)).1) (fun j hj => (hth j (by rw [List.length_map, hb0] at hj; exact hj)).2) (B8_one b)
      rw [List.length_map, hb0] at hrun
      refine ⟨_, hrun, ?_, SameBut.setCells D _ od w⟩
      have := Row.setCells (b.map B8) od w (m.map B8) hr (by rw [List.length_map, List.length_map, hb0]; exact hfit)
      simpa [splice, hb0, List.map_take, List.map_drop] using this
theorem wpList_copy_to {ops : Array Oper} {rest : List Oper} {o : Oper} {a : Act} {w : World} {Q : Exit → Act → World → Prop} (hgd : o.guard = none) (d s : Operand)
    (ho : o.op = .call { callee := .builtin .copy, args := #[d, s], argTypes := #[32, 32] })
    (D od dLen dCap : Nat) (bo : Option Addr) (n cap : Nat) (hd : a.eval d = .slice (some ⟨D, od, none⟩) dLen dCap) (hs : a.eval s = .slice bo n cap) (hle : n ≤ dLen) (m : List By) (hr : Row w D 5 (m.map B8)) (b : List By) (hb0 : b.length = n) (hb : IsB w bo b) (hfit : od + n ≤ m.length)
    (h : ∀ w', Row w' D 5 ((splice m od b).map B8) → SameBut D w w' → wpList Tryz.prog ops Q rest (a.put o.dst (.int .i64 (n : Int))) w') : wpList Tryz.prog ops Q (o :: rest) a w := by
  refine wpList_plain hgd fun K hK => ?_
  obtain ⟨w', hrun, h1, h2⟩ := run_copy_to w o.type D od dLen dCap bo n cap hle m hr b hb0 hb hfit
  unfold Oper.wp
  simp [execOp, ho, resolve, invoke, builtin, hd, hs, hrun, Result.andThen]
  exact hK _ _ (h w' h1 h2)
end Go.Proofs.YtpcgkjngpdplmaaGreatDoor


/-! The code's leaves: copied, Body, lay, fits, number, may. -/
namespace Go.Proofs.YtpcgkjngpdplmaaGreatDoor
open Go.RowKit
set_option linter.unusedVariables false

set_option maxHeartbeats 1000000 in
set_option maxRecDepth 100000 in
theorem copied_any (ao : Option Addr) (n cap : Nat) (b : List By) (hb0 : b.length = n) (w : World) (hb : IsB w ao b) (hl : n ≤ 140737488353280) :
    Calls Tryz.prog 98 #[.slice ao n cap] w fun e w' => e = .returned (.slice (some ⟨w.heap.size, 0, none⟩) n n) ∧ Own w.heap.size w' (.slice (some ⟨w.heap.size, 0, none⟩) n n) b ∧ Below w.heap.size w w' := by
  have HB : Hid (IsB w ao b) := hb
  have HB0 : Hid (b.length = n) := hb0
  clear hb hb0
  go_enter Tryz.func98, Tryz.ntmps98
  go_wp2_with (first
    | (refine wpList_make_rowN rfl _ _ rfl .i64 .i64 _ _ n rfl rfl rfl rfl (by omega) ?_; intro w2 hr2 hb2 hz2)
    | (refine wpList_copy_to rfl (.tmp 7) (.tmp 8) rfl w.heap.size 0 n n ao n cap rfl rfl (Nat.le_refl _) (List.replicate n 0) hr2 b HB0.out (HB.out.below hb2 (Nat.le_refl _)) (by simp) ?_; intro w3 hr3 hs3))
  have e : splice (List.replicate n (0 : By)) 0 b = b := by simp [splice, HB0.out]
  rw [e] at hr3
  go_ret
  exact ⟨rfl, own_row hr3 (Nat.le_refl _) n HB0.out (by omega), hs3.below hb2 (Nat.le_refl _)⟩

set_option maxHeartbeats 1000000 in
set_option maxRecDepth 100000 in
theorem cbody_any (ao : Option Addr) (n cap : Nat) (b : List By) (hb0 : b.length = n) (w : World) (hb : IsB w ao b) (hnil : ao = none → cap = 0) (hcap : n ≤ cap) (hl : n ≤ 140737488353280) :
    Calls Tryz.prog 89 #[.slice ao n cap] w fun e w' => ∃ ao' c', e = .returned (.slice ao' (n - 32) c') ∧ Own w.heap.size w' (.slice ao' (n - 32) c') (b.take (n - 32)) ∧ Below w.heap.size w w' := by
  by_cases hn : n < 32
  · have i1 : (n : Int) < 32 := by omega
    have e0 : n - 32 = 0 := by omega
    rw [e0]
    clear hb hb0
    go_enter Tryz.func89, Tryz.ntmps89
    go_wp2
    go_ret
    exact ⟨none, 0, rfl, own_nil _ _ (Nat.le_refl _), Below.refl _ _⟩
  · obtain ⟨B, off, rfl, _⟩ : ∃ B off, ao = some ⟨B, off, none⟩ ∧ True := by
      rcases hb with rfl | ⟨B, off, h, _⟩
      · simp at hb0; omega
      · exact ⟨B, off, h, trivial⟩
    have HBL : Hid ((b.take (n - 32)).length = n - 32) := by show _ = _; rw [List.length_take, hb0]; omega
    have IB : IsB w (some ⟨B, off, none⟩) (b.take (n - 32)) := isB_take hb _
    have HIB : Hid (IsB w (some ⟨B, off, none⟩) (b.take (n - 32))) := IB
    clear hb hb0 IB hnil
    obtain ⟨m, rfl⟩ : ∃ m, n = m + 32 := ⟨n - 32, by omega⟩
    rw [Nat.add_sub_cancel] at *
    have i1 : ¬ (((m + 32 : Nat) : Int) < 32) := by omega
    have i2 : ((m + 32 : Nat) : Int) - 32 = (m : Int) := by omega
    have i3 : (0 : Int) ≤ (m : Int) := by omega
    have i4 : (m : Int) ≤ (cap : Int) := by omega
    go_enter Tryz.func89, Tryz.ntmps89
    go_wp2_with fail
    refine (copied_any (some ⟨B, off, none⟩) m cap (b.take m) HBL.out w HIB.out (by omega)).mono ?_
    rintro e w1 ⟨rfl, ho, hb⟩
    dsimp only
    go_wp2
    go_ret
    exact ⟨_, _, rfl, ho, hb⟩

set_option maxHeartbeats 1000000 in
set_option maxRecDepth 100000 in
theorem fits_any (i : Nat) (h8 : i < 8) (c : By) (w : World) : Calls Tryz.prog 106 #[.int .i64 i, .int .u8 (c.toNat : Int)] w fun e w' => e = .returned (.bool (mst i c.toNat)) ∧ w' = w := by
  have hc := c.isLt
  simp only [Nat.reducePow] at hc
  generalize c.toNat = x at *
  have h9 : i = 0 ∨ i = 1 ∨ i = 2 ∨ i = 3 ∨ i = 4 ∨ i = 5 ∨ i = 6 ∨ i = 7 := by omega
  clear h8
  rcases h9 with rfl | rfl | rfl | rfl | rfl | rfl | rfl | rfl
  all_goals
    go_enter Tryz.func106, Tryz.ntmps106
    go_wp2
    go_ret
    refine ⟨?_, rfl⟩
    congr 2
    simp [mst]
    try first | exact nat_beq x 80 | exact nat_beq x 67 | exact nat_beq x 85 | exact nat_beq x 76 | exact nat_beq x 1 | exact nat_beq x 0 | omega

theorem orU64 (a b : Nat) (ha : a < 4294967296) (hb : b < 4294967296) : bits .or .u64 (a : Int) (b : Int) = ((a ||| b : Nat) : Int) := by
  have h := Nat.or_lt_two_pow (n := 32) ha hb
  simp only [Nat.reducePow] at h
  have e : 2 ^ IntKind.u64.bits = 18446744073709551616 := rfl
  simp [bits]
  rw [e, Nat.mod_eq_of_lt (by omega), Nat.mod_eq_of_lt (by omega)]
  have e2 : IntKind.u64.wrap ((a ||| b : Nat) : Int) = ((a ||| b : Nat) : Int) % 18446744073709551616 := rfl
  rw [e2]; omega
theorem num_formU (x0 x1 x2 x3 : Nat) (h0 : x0 < 256) (h1 : x1 < 256) (h2 : x2 < 256) (h3 : x3 < 256) :
    bits .or .u64 (bits .or .u64 (bits .or .u64 (bits .or .u64 0 (x0 : Int)) ((x1 : Int) * 256)) ((x2 : Int) * 65536)) ((x3 : Int) * 16777216) = ((x0 + x1 * 256 + x2 * 65536 + x3 * 16777216 : Nat) : Int) := by
  have q := or_num x0 x1 x2 x3 h0 h1 h2
  have l1 : x0 ||| x1 * 256 < 2 ^ 32 := Nat.or_lt_two_pow (by simp only [Nat.reducePow]; omega) (by simp only [Nat.reducePow]; omega)
  have l2 : (x0 ||| x1 * 256) ||| x2 * 65536 < 2 ^ 32 := Nat.or_lt_two_pow l1 (by simp only [Nat.reducePow]; omega)
  simp only [Nat.reducePow] at l1 l2
  have a0 : bits .or .u64 0 (x0 : Int) = ((0 ||| x0 : Nat) : Int) := orU64 0 x0 (by omega) (by omega)
  rw [a0, Nat.zero_or]
  have a1 : bits .or .u64 (x0 : Int) ((x1 : Int) * 256) = ((x0 ||| x1 * 256 : Nat) : Int) := by
    have := orU64 x0 (x1 * 256) (by omega) (by omega); rw [← this]; congr 1
  rw [a1]
  have a2 : bits .or .u64 ((x0 ||| x1 * 256 : Nat) : Int) ((x2 : Int) * 65536) = (((x0 ||| x1 * 256) ||| x2 * 65536 : Nat) : Int) := by
    have := orU64 (x0 ||| x1 * 256) (x2 * 65536) l1 (by omega); rw [← this]; congr 1
  rw [a2]
  have a3 : bits .or .u64 (((x0 ||| x1 * 256) ||| x2 * 65536 : Nat) : Int) ((x3 : Int) * 16777216) = ((((x0 ||| x1 * 256) ||| x2 * 65536) ||| x3 * 16777216 : Nat) : Int) := by
    have := orU64 ((x0 ||| x1 * 256) ||| x2 * 65536) (x3 * 16777216) l2 (by omega); rw [← this]; congr 1
  rw [a3, q]

set_option maxHeartbeats 1000000 in
set_option maxRecDepth 100000 in
theorem cnumber_any (B off cap : Nat) (b : List By) (h4 : 4 ≤ b.length) (w : World) (hb : ∀ j v, b[j]? = some v → w.cell? ⟨B, off + j, none⟩ = some (B8 v)) :
    Calls Tryz.prog 97 #[.slice (some ⟨B, off, none⟩) 4 cap] w fun e w' => e = .returned (.int .u64 (num4 b)) ∧ w' = w := by
  have c : ∀ j, j < b.length → w.cell? ⟨B, off + j, none⟩ = some (.int .u8 ((b.getD j 0).toNat : Int)) := fun j hj => by
    rw [hb j b[j] (List.getElem?_eq_getElem (by omega)), getD_lt (by omega)]; rfl
  have c0 := c 0 (by omega); have c1 := c 1 (by omega); have c2 := c 2 (by omega); have c3 := c 3 (by omega)
  have h0 := (b.getD 0 0).isLt; have h1 := (b.getD 1 0).isLt; have h2 := (b.getD 2 0).isLt; have h3 := (b.getD 3 0).isLt
  simp only [Nat.reducePow] at h0 h1 h2 h3
  have HN : Hid (num4 b = (b.getD 0 0).toNat + (b.getD 1 0).toNat * 256 + (b.getD 2 0).toNat * 65536 + (b.getD 3 0).toNat * 16777216) := rfl
  rw [Nat.add_zero] at c0
  clear c hb h4
  generalize (b.getD 0 0).toNat = x0 at *
  generalize (b.getD 1 0).toNat = x1 at *
  generalize (b.getD 2 0).toNat = x2 at *
  generalize (b.getD 3 0).toNat = x3 at *
  go_enter Tryz.func97, Tryz.ntmps97
  go_wp2
  refine wp_loop_rounds 5 ?_
  rw [rounds_succ]
  go_wp2
  rw [rounds_succ]
  go_wp2
  rw [rounds_succ]
  go_wp2
  rw [rounds_succ]
  go_wp2
  rw [rounds_succ]
  go_wp2
  go_ret
  refine ⟨?_, rfl⟩
  rw [HN.out, ← num_formU x0 x1 x2 x3 h0 h1 h2 h3]
  rfl

end Go.Proofs.YtpcgkjngpdplmaaGreatDoor


/-! The code's Make. (Printed by tools/gencmake11.py.) -/
namespace Go.Proofs.YtpcgkjngpdplmaaGreatDoor
open Go.RowKit
set_option linter.unusedVariables false

section
variable {W1 : World} {W0 : World} {N g I n s k ve cap : Nat} {ao : Option Addr} {L : Nat → Bool} {x25 x26 x27 x28 x29 x30 x31 x32 x33 x34 : Value} {W W2 : World}
end
section
variable {W1 : World} {W0 : World} {N g I n s k ve cap : Nat} {ao : Option Addr} {L : Nat → Bool} {x35 x36 x37 x38 x39 x40 : Value} {W W2 : World}
end
section
variable {W1 : World} {W0 : World} {N g I n s k ve cap : Nat} {ao : Option Addr} {L : Nat → Bool} {x41 x42 x43 x44 x45 x46 x47 : Value} {W W2 : World}
end
end Go.Proofs.YtpcgkjngpdplmaaGreatDoor
