import Derived.Test.YtgpnbiaghokjkaaDoorD21Rd
import Derived.Test.YtgpnbiaghokjkaaDoorD21PaM
/-! Layer 21, the landed code: appendLine, numbersOf, blownOf. -/
namespace Go.Proofs.YtgpnbiaghokjkaaDoor
open Go.RowKit
set_option linter.unusedVariables false
set_option linter.unusedSimpArgs false
set_option maxRecDepth 100000

set_option maxHeartbeats 2000000 in
theorem appendLine_any (N : Nat) (v : Value) (m : List By) (w : World) (ho : Own N w v m) (ht : TabB N w) (S : ByteArray) (word : List By) (hS : S = strOf word) (hwl : word.length ≤ 100) (l : List Nat) (hll : l.length ≤ 1000000) (hl63 : ∀ n ∈ l, n < 9223372036854775808) (lo : Option Addr) (lc : Nat) (hn : NumAt w lo l) (hm : m.length ≤ 100000000000000) :
    Calls Tryd.prog 38 #[v, .string S, .slice lo l.length lc] w (Wrote N w (m ++ (word ++ numsL l ++ [10#8]))) := by
  have HW : Hid (Calls Tryd.prog 53 #[v, .string S, .slice lo l.length lc] w (Wrote N w (m ++ (word ++ numsL l)))) := appendWords_any N v m w ho ht S word hS hwl l hll hl63 lo lc hn hm
  have HL : Hid ((m ++ (word ++ numsL l)).length + 1 ≤ 140737488353280) := by
    have h1 := numsL_len l hl63
    show _ ≤ _
    rw [List.length_append, List.length_append]; omega
  have HE : Hid (m ++ (word ++ numsL l ++ [10#8]) = m ++ (word ++ numsL l) ++ [10#8]) := by show _ = _; simp [List.append_assoc]
  rw [HE.out]
  generalize m ++ (word ++ numsL l) = M at *
  clear ho ht hn hl63 hS hwl hm hll HE
  go_enter Tryd.func38, Tryd.ntmps38
  go_upto_region 1 with fail
  go_wp2_with (first
    | (refine HW.out.mono ?_; rintro e w1 ⟨v1, rfl, hb1⟩; dsimp only)
    | (at_builtin; refine wpList_bap1 rfl (.tmp 10) (.tmp 11) rfl N w _ M hb1 rfl 10#8 10 rfl rfl HL.out ?_; intro v2 w2 hb2))
  go_ret
  exact ⟨_, rfl, hb2⟩

set_option maxHeartbeats 2000000 in
theorem numbersOf_any (c : Cfg) (w : World) : Calls Tryd.prog 37 #[.agg c.vals.toArray] w fun e w' => e = .returned (.agg c.vals.toArray) ∧ Below w.heap.size w w' := by
  obtain ⟨n0, n1, n2, n3, n4, n5, n6⟩ := c
  simp only [Cfg.vals]
  have r1 := Row.at w 24 [.int .i64 n0, .int .i64 n1, .int .i64 n2, .int .i64 n3, .int .i64 n4, .int .i64 n5, .int .i64 n6] _ _ rfl rfl
  have r2 := Row.at (w.alloc (.cells #[.int .i64 n0, .int .i64 n1, .int .i64 n2, .int .i64 n3, .int .i64 n4, .int .i64 n5, .int .i64 n6] 24)) 81 [.int .i64 0, .int .i64 0, .int .i64 0, .int .i64 0, .int .i64 0, .int .i64 0, .int .i64 0] _ _ rfl rfl
  have b2 : Below w.heap.size w ((w.alloc (.cells #[.int .i64 n0, .int .i64 n1, .int .i64 n2, .int .i64 n3, .int .i64 n4, .int .i64 n5, .int .i64 n6] 24)).alloc (.cells #[.int .i64 0, .int .i64 0, .int .i64 0, .int .i64 0, .int .i64 0, .int .i64 0, .int .i64 0] 81)) := ((Below.refl _ _).alloc (Nat.le_refl _) _).alloc (by simp) _
  have hsz : (w.alloc (.cells #[.int .i64 n0, .int .i64 n1, .int .i64 n2, .int .i64 n3, .int .i64 n4, .int .i64 n5, .int .i64 n6] 24)).heap.size = w.heap.size + 1 := by simp
  rw [hsz] at r2
  go_enter Tryd.func37, Tryd.ntmps37
  go_wp2_with (refine wpList_store_Row rfl 81 _ _ rfl (w.heap.size + 1) 81 0 _ [.int .i64 n0, .int .i64 n1, .int .i64 n2, .int .i64 n3, .int .i64 n4, .int .i64 n5, .int .i64 n6] r2 (by simp) rfl rfl (by simp only [List.length_cons, List.length_nil]; kernel_rfl) (by simp [Value.oneCell']) ?_; intro w9 hr9 hs9)
  have hr := row_whole hr9 (by simp)
  exact bodyPost_ret_by (results_Row Tryd.results37 _ w9 (w.heap.size + 1) 81 _ _ rfl hr Tryd.underlying81 rfl (by simp only [List.length_cons, List.length_nil]; kernel_rfl)) rfl ⟨rfl, hs9.below b2 (by omega)⟩

theorem trues_take (b : List Bool) (i : Nat) (hi : i < b.length) : trues (b.take (i + 1)) 0 = trues (b.take i) 0 ++ (if b.getD i false then [i] else []) := by
  have hl : (b.take i).length = i := by rw [List.length_take]; omega
  rw [take_snoc b i false hi, trues_app, hl, Nat.zero_add]
set_option maxHeartbeats 2000000 in
theorem blownOf_any (v : SV) (t : St) (w : World) (hbl : IsL w v.bo (t.blown.map Value.bool)) (hlen : t.blown.length ≤ 1000000) :
    Calls Tryd.prog 39 #[.agg (v.vals t).toArray] w fun e w' => ∃ lo c, e = .returned (.slice lo (trues t.blown 0).length c) ∧ w'.ownsRow w.heap.size 3 1 (.slice lo (trues t.blown 0).length c) (trues t.blown 0).length ((trues t.blown 0).map nI) ∧ Below w.heap.size w w' := by
  have r0 : Row (w.alloc (.cells (v.vals t).toArray 29)) w.heap.size 29 (v.vals t) := Row.at _ _ _ _ _ rfl rfl
  have c2 := r0.cell 2 (.slice v.bo t.blown.length v.bc) rfl
  have hz0 : (w.alloc (.cells (v.vals t).toArray 29)).heap.size = w.heap.size + 1 := by simp
  have hb0 : Below w.heap.size w (w.alloc (.cells (v.vals t).toArray 29)) := (Below.refl _ _).alloc (Nat.le_refl _) _
  have HC : Hid (∀ W, Below w.heap.size w W → ∀ i, i < t.blown.length → ∃ B off, v.bo = some ⟨B, off, none⟩ ∧ W.cell? ⟨B, off + i, none⟩ = some (.bool (t.blown.getD i false))) := fun W hW i hi => (hbl.below hW (Nat.le_refl _)).cell i _ (by rw [List.getElem?_map, List.getElem?_eq_getElem hi, List.getD_eq_getElem?_getD, List.getElem?_eq_getElem hi]; rfl)
  have HST : Hid (∀ i, i < t.blown.length → trues (t.blown.take (i + 1)) 0 = trues (t.blown.take i) 0 ++ (if t.blown.getD i false then [i] else [])) := fun i hi => trues_take t.blown i hi
  have HLN : Hid (∀ i, (trues (t.blown.take i) 0).length ≤ 1000000) := fun i => by
    have := trues_len (t.blown.take i) 0
    rw [List.length_take] at this
    omega
  have HEND : Hid (t.blown.take t.blown.length = t.blown) := List.take_length
  generalize hW0 : w.alloc (.cells (v.vals t).toArray 29) = W0 at *
  clear r0 hbl
  go_enter Tryd.func39, Tryd.ntmps39
  go_upto_region 1 with fail
  try rw [hW0]
  clear hW0
  go_wp2_with fail
  go_loopw [3, 9] (fun lv iv wr => ∃ (i : Nat) (lo : Option Addr) (c : Nat), i ≤ t.blown.length ∧ iv = .int .i64 i ∧ lv = .slice lo (trues (t.blown.take i) 0).length c ∧ Hid (wr.ownsRow w.heap.size 3 1 (.slice lo (trues (t.blown.take i) 0).length c) (trues (t.blown.take i) 0).length ((trues (t.blown.take i) 0).map nI)) ∧ Hid (Below w.heap.size w wr)) (fun _ iv _ => t.blown.length - (intOf iv).toNat)
  case atStart => exact ⟨0, none, 0, by omega, rfl, rfl, World.ownsRow_nil _ _ _ _, hb0⟩
  case round =>
    clear hb0 c2
    obtain ⟨i, lo, c, hi, rfl, rfl, HO, HB⟩ := hrel
    by_cases hlt : i < t.blown.length
    · have y0 : (0 : Int) ≤ (i : Int) := by omega
      have y1 : (i : Int) < (t.blown.length : Int) := by omega
      have wi : IntKind.i64.wrap ((i : Int) + 1) = (i : Int) + 1 := i64_in _ (by omega) (by omega)
      obtain ⟨B, off, hbo, cc⟩ := HC.out wr HB.out i hlt
      have HBO : Hid (v.bo = some ⟨B, off, none⟩) := hbo
      rw [hbo]
      clear hbo
      have hst := HST.out i hlt
      have hln := HLN.out i
      cases hbv : t.blown.getD i false with
      | false =>
        rw [hbv] at cc hst
        have HS2 : Hid (trues (t.blown.take (i + 1)) 0 = trues (t.blown.take i) 0) := by show _ = _; rw [hst]; simp
        clear hst hbv
        go_wp2
        exact ⟨⟨i + 1, lo, c, by omega, by go_num, by rw [HS2.out], by rw [HS2.out]; exact HO, HB⟩, by simp [intOf]; omega⟩
      | true =>
        rw [hbv] at cc hst
        have HS2 : Hid (trues (t.blown.take (i + 1)) 0 = trues (t.blown.take i) 0 ++ [i]) := by show _ = _; rw [hst]; simp
        clear hst hbv
        generalize trues (t.blown.take i) 0 = L at *
        go_upto_region 7 with (at_builtin; refine wpList_app1k el_ints rfl (.tmp 15) (.tmp 17) rfl w.heap.size _ lo L.length c (L.map nI) (.int .i64 (i : Int)) rfl _ rfl rfl rfl HO.out HB.out.size (by omega) (by unfold maxLen; omega) ?_; intro lo2 c3 w2 ho2 hb2 hk2)
        have HO2 : Hid (w2.ownsRow w.heap.size 3 1 (.slice lo2 (trues (t.blown.take (i + 1)) 0).length c3) (trues (t.blown.take (i + 1)) 0).length ((trues (t.blown.take (i + 1)) 0).map nI)) := by
          show World.ownsRow _ _ _ _ _ _ _
          rw [HS2.out, List.length_append, List.map_append]
          exact ho2
        have HB2 : Hid (Below w.heap.size w w2) := HB.out.trans hb2
        clear ho2 hb2 hk2 cc HO HB
        go_wp2
        exact ⟨⟨i + 1, lo2, c3, by omega, by go_num, by rw [HS2.out, List.length_append]; rfl, HO2, HB2⟩, by simp [intOf]; omega⟩
    · obtain rfl : i = t.blown.length := by omega
      rw [HEND.out] at HO
      rw [HEND.out]
      go_wp2
      go_ret
      exact ⟨lo, c, rfl, HO.out, HB.out⟩
end Go.Proofs.YtgpnbiaghokjkaaDoor

/-! Layer 21, the landed code: appendBytes. (Printed by tools/genc21.py.) -/
namespace Go.Proofs.YtgpnbiaghokjkaaDoor
open Go.RowKit
set_option linter.unusedVariables false
set_option linter.unusedSimpArgs false
set_option maxRecDepth 100000

/-- Around an append to what is written, of what lies in new memory. -/
structure ApF (N : Nat) (w : World) (v : Value) (m bs : List By) (lb la lf : Bool) (xb xa x0 : Value) (W : World) : Prop where
  o : la = false → Buf N w m v W
  z : lf = false → x0 = v
  b : lb = true → la = false → ∃ M, xb = .slice (some ⟨M, 0, none⟩) bs.length bs.length ∧ Row W M 5 (bs.map B8)
  r : la = true → Buf N w (m ++ bs) xa W
  f : lf = true → x0 = xa
  c : lf = true → la = true
section
variable {N : Nat} {w : World} {v : Value} {m bs : List By} {lb la lf : Bool} {xb xa x0 : Value} {W : World}
theorem ApF.zero (h : Buf N w m v W) : ApF N w v m bs false false false xb xa v W :=
  ⟨fun _ => h, fun _ => rfl, tf rfl, tf rfl, tf rfl, tf rfl⟩
theorem ApF.build (h : ApF N w v m bs lb la lf xb xa x0 W) (hl : la = false) (W2 : World) (M : Nat) (hr : Row W2 M 5 (bs.map B8)) (h2 : Below W.heap.size W W2) : ApF N w v m bs true la lf (.slice (some ⟨M, 0, none⟩) bs.length bs.length) xa x0 W2 :=
  ⟨fun e => (h.o e).below h2, h.z, fun _ _ => ⟨M, rfl, hr⟩, tf hl, h.f, h.c⟩
theorem ApF.app (h : ApF N w v m bs lb la lf xb xa x0 W) (hl : la = false) (hf : lf = false) {W2 : World} {v' : Value} (ho : Buf N w (m ++ bs) v' W2) : ApF N w v m bs lb true lf xb v' x0 W2 :=
  ⟨fun e => tf e rfl, h.z, fun _ e => tf e rfl, fun _ => ho, tf hf, tf hf⟩
theorem ApF.fin (h : ApF N w v m bs lb la lf xb xa x0 W) (hl : la = true) : ApF N w v m bs lb la true xb xa xa W :=
  ⟨h.o, fun e => tf e rfl, h.b, h.r, fun _ => rfl, fun _ => hl⟩
end
theorem step_bap {ops : Array Oper} {o : Oper} {a : Act} {w : World} {K : Act → World → Prop} {Q : Exit → Act → World → Prop} {E : Prop} (hgd : o.guard = none) (s x : Operand)
    (ho : o.op = .call { callee := .builtin .append, args := #[s, x], argTypes := #[49, 49] })
    (N : Nat) (w0 : World) (v : Value) (m : List By) (hbuf : Buf N w0 m v w) (hs : a.eval s = v)
    (ao : Option Addr) (n cap : Nat) (bs : List By) (hx : a.eval x = .slice ao n cap) (hn : bs.length = n) (hb : IsB w ao bs) (hnil : ao = none → cap = 0) (hl : m.length + n ≤ 140737488353280)
    (h : ∀ v' w', Buf N w0 (m ++ bs) v' w' → K (a.put o.dst v') w') :
    if Region.wanted o (yielded ops a.tmps) = true then Oper.wp Tryd.prog o a w K Q else E := by
  have hw : Region.wanted o (yielded ops a.tmps) = true := by simp [Region.wanted, hgd]
  rw [if_pos hw]
  obtain ⟨v', w', hrun, h2⟩ := run_app N w0 w o.type v m hbuf ao n cap bs hn hb hnil hl
  unfold Oper.wp execOp
  simp only [ho, resolve, invoke, builtin, Sem.run_bind, Sem.run_pure, Result.andThen_ok, List.map_toArray, List.map_cons, List.map_nil, hs, hx, hrun]
  exact h v' w' h2
theorem run_index_C (x : List By) (hx : x.length = 32) (k : Nat) (hk : k < 32) (w : World) :
    (Instr.index 56 (.agg (x.map B8).toArray) (.int .i64 (k : Int))).run Tryd.prog w = .ok (.int .u8 ((x.getD k 0).toNat : Int)) w := by
  have hs : (sizeOf 5).run Tryd.prog w = .ok 1 w := by kernel_rfl
  have hl : k < x.length := by omega
  simp [Instr.index, asIntOf, run_underlying Tryd.underlying56, hk, hs, Go.part, hl, B8]

structure Ab4 (W1 : World) (N : Nat) (w0 : World) (bv : Value) (m : List By) (X XH XL : Nat) (d1 d2 : By) (L : Nat → Bool) (x11 x12 x13 x14 x15 x16 x17 x18 x19 x0 : Value) (W : World) : Prop where
  x : ApF N w0 bv m [d1, d2] (L 7) (L 8) (L 9) x18 x19 x0 W
  p0 : L 0 = true → x11 = bv
  p1 : L 1 = true → x12 = .int .u8 (X : Int)
  p2 : L 2 = true → x13 = .int .u8 (XH : Int)
  p3 : L 3 = true → x14 = .int .u8 (d1.toNat : Int)
  p4 : L 4 = true → x15 = .int .u8 (X : Int)
  p5 : L 5 = true → x16 = .int .u8 (XL : Int)
  p6 : L 6 = true → x17 = .int .u8 (d2.toNat : Int)
  c8_7 : L 8 = true → L 7 = true
  c8_0 : L 8 = true → L 0 = true
section
variable {W1 : World} {N : Nat} {w0 : World} {bv : Value} {m : List By} {X XH XL : Nat} {d1 d2 : By} {L : Nat → Bool} {x11 x12 x13 x14 x15 x16 x17 x18 x19 x0 : Value} {W W2 : World}
end
@[reducible] def IAb4 (W1 : World) (N : Nat) (w0 : World) (bv : Value) (m : List By) (X XH XL : Nat) (d1 d2 : By) (y1 y2 y3 y4 y5 y6 y7 y8 y9 y10 y20 y21 : Value) : (Nat → Bool) → Act → World → Prop := fun L a W => ∃ x11 x12 x13 x14 x15 x16 x17 x18 x19 x0, a = ⟨#[x0, y1, y2, y3, y4, y5, y6, y7, y8, y9, y10, x11, x12, x13, x14, x15, x16, x17, x18, x19, y20, y21], []⟩ ∧ Ab4 W1 N w0 bv m X XH XL d1 d2 L x11 x12 x13 x14 x15 x16 x17 x18 x19 x0 W
set_option maxHeartbeats 2000000 in
theorem appendBytes_any (N : Nat) (v : Value) (m : List By) (w : World) (ho : Own N w v m) (x : List By) (hx : x.length = 32) (hm : m.length ≤ 100000000000000) :
    Calls Tryd.prog 55 #[v, .agg (x.map B8).toArray] w (Wrote N w (m ++ hexC x)) := by
  have hN := ho.2
  have r0 := Row.at w 56 (x.map B8) _ _ rfl rfl
  have lx : (x.map B8).length = 32 := by rw [List.length_map, hx]
  have HIX : Hid (∀ (k : Nat), k < 32 → ∀ W : World, (Instr.index 56 (.agg (x.map B8).toArray) (.int .i64 (k : Int))).run Tryd.prog W = .ok (.int .u8 ((x.getD k 0).toNat : Int)) W) := fun k hk W => run_index_C x hx k hk W
  have HST : Hid (∀ i, i < 32 → hexC (x.take (i + 1)) = hexC (x.take i) ++ hexB (x.getD i 0)) := fun i hi => hexC_step x i (by omega)
  have HLN : Hid (∀ i, i ≤ 32 → (hexC (x.take i)).length = 2 * i) := fun i hi => by show _ = _; rw [hexC_len, List.length_take]; omega
  have HE : Hid (hexC (x.take 32) = hexC x) := by show _ = _; rw [List.take_of_length_le (by omega)]
  have HB0 : Hid (Buf N w (m ++ hexC (x.take 0)) v (w.alloc (.cells (x.map B8).toArray 56))) := by
    show Buf _ _ _ _ _
    rw [show hexC (x.take 0) = [] from rfl, List.append_nil]
    exact Buf.alloc ⟨ho, Fr.refl _ _⟩ _
  have HM : Hid (m.length ≤ 100000000000000) := hm
  clear ho hx hm
  generalize hW0 : w.alloc (.cells (x.map B8).toArray 56) = W0 at *
  generalize x.map B8 = XC at *
  go_enter Tryd.func55, Tryd.ntmps55
  go_upto_region 1 with fail
  try rw [hW0]
  clear hW0
  go_wp2_with (refine wpList_load_Row rfl 56 _ rfl w.heap.size 56 XC r0 rfl _ Tryd.underlying56 rfl (by rw [lx]; kernel_rfl) ?_)
  go_loopw [0, 8] (fun bv iv wr => ∃ (i : Nat), i ≤ 32 ∧ iv = .int .i64 i ∧ Hid (Buf N w (m ++ hexC (x.take i)) bv wr)) (fun _ iv _ => 32 - (intOf iv).toNat)
  case atStart => exact ⟨0, by omega, rfl, HB0⟩
  case round =>
    clear HB0 r0
    obtain ⟨i, hi, rfl, HB⟩ := hrel
    by_cases hlt : i < 32
    · have y0 : (0 : Int) ≤ (i : Int) := by omega
      have y1 : (i : Int) < 32 := by omega
      have hix := HIX.out i hlt
      have hxl := (x.getD i 0).isLt
      have HL : Hid ((m ++ hexC (x.take i)).length + 2 ≤ 140737488353280) := by
        have h1 := HLN.out i (by omega)
        have h2 := HM.out
        show _ ≤ _
        rw [List.length_append]; omega
      have HN : Hid (m ++ hexC (x.take (i + 1)) = m ++ hexC (x.take i) ++ hexB (x.getD i 0)) := by show _ = _; rw [HST.out i hlt, List.append_assoc]
      have s1 : ((x.getD i 0).toNat : Int) / 2 ^ 4 = (((x.getD i 0).toNat / 16 : Nat) : Int) := by omega
      have s2 : ((x.getD i 0).toNat : Int) / 16 = (((x.getD i 0).toNat / 16 : Nat) : Int) := by omega
      have s3 : IntKind.u8.wrap (((x.getD i 0).toNat / 16 : Nat) : Int) = (((x.getD i 0).toNat / 16 : Nat) : Int) := u8_in _ (by omega) (by omega)
      have s4 := and15 (x.getD i 0)
      have HD1 : Hid (∀ W : World, (Instr.index 9 (.string { data := #[48, 49, 50, 51, 52, 53, 54, 55, 56, 57, 97, 98, 99, 100, 101, 102] }) (.int .u8 (((x.getD i 0).toNat / 16 : Nat) : Int))).run Tryd.prog W = .ok (.int .u8 ((hx ((x.getD i 0).toNat / 16)).toNat : Int)) W) := fun W => hex_index _ (by omega) W
      have HD2 : Hid (∀ W : World, (Instr.index 9 (.string { data := #[48, 49, 50, 51, 52, 53, 54, 55, 56, 57, 97, 98, 99, 100, 101, 102] }) (.int .u8 (((x.getD i 0).toNat % 16 : Nat) : Int))).run Tryd.prog W = .ok (.int .u8 ((hx ((x.getD i 0).toNat % 16)).toNat : Int)) W) := fun W => hex_index _ (by omega) W
      have hB : hexB (x.getD i 0) = [hx ((x.getD i 0).toNat / 16), hx ((x.getD i 0).toNat % 16)] := rfl
      rw [hB] at HN
      clear hB hxl
      generalize hx ((x.getD i 0).toNat / 16) = d1 at *
      generalize hx ((x.getD i 0).toNat % 16) = d2 at *
      generalize (x.getD i 0).toNat / 16 = XH at *
      generalize (x.getD i 0).toNat % 16 = XL at *
      generalize (x.getD i 0).toNat = X at *
      generalize m ++ hexC (x.take i) = M at *
      go_wp2_with fail
      refine wp_region_inv (IAb4 wr N w _ M X XH XL d1 d2 _ _ _ _ _ _ _ _ _ _ _ _) (by kernel_rfl) (by kernel_rfl) ⟨_, _, _, _, _, _, _, _, _, _, rfl, ⟨ApF.zero HB.out.drew, fun k => (by cases k), fun k => (by cases k), fun k => (by cases k), fun k => (by cases k), fun k => (by cases k), fun k => (by cases k), fun k => (by cases k), fun k => (by cases k), fun k => (by cases k)⟩⟩ ?_ ?_
      · refine .cons ?_ (.cons ?_ (.cons ?_ (.cons ?_ (.cons ?_ (.cons ?_ (.cons ?_ (.cons ?_ (.cons ?_ (.cons ?_ .nil)))))))))
        all_goals (rintro L _ W ⟨x11, x12, x13, x14, x15, x16, x17, x18, x19, x0, rfl, hI⟩ hL hd K hK)
        · rw [if_pos (by rfl)]
          have h8 : L 8 = false := ff hI.c8_0 hL
          have e3 := hI.x.z (ff hI.x.c h8)
          subst e3
          go_simp
          exact hK.out _ _ ⟨_, _, _, _, _, _, _, _, _, _, rfl, { hI with p0 := fun _ => rfl, c8_0 := fun _ => rfl }⟩
        · rw [if_pos (by rfl)]
          go_simp
          exact hK.out _ _ ⟨_, _, _, _, _, _, _, _, _, _, rfl, { hI with p1 := fun _ => rfl }⟩
        · obtain rfl := hI.p1 (hd 1 (by decide))
          rw [if_pos (by rfl)]
          go_simp
          exact hK.out _ _ ⟨_, _, _, _, _, _, _, _, _, _, rfl, { hI with p2 := fun _ => rfl }⟩
        · obtain rfl := hI.p2 (hd 2 (by decide))
          rw [if_pos (by rfl)]
          have hq := HD1.out
          go_simp
          exact hK.out _ _ ⟨_, _, _, _, _, _, _, _, _, _, rfl, { hI with p3 := fun _ => rfl }⟩
        · rw [if_pos (by rfl)]
          go_simp
          exact hK.out _ _ ⟨_, _, _, _, _, _, _, _, _, _, rfl, { hI with p4 := fun _ => rfl }⟩
        · obtain rfl := hI.p4 (hd 4 (by decide))
          rw [if_pos (by rfl)]
          go_simp
          exact hK.out _ _ ⟨_, _, _, _, _, _, _, _, _, _, rfl, { hI with p5 := fun _ => rfl }⟩
        · obtain rfl := hI.p5 (hd 5 (by decide))
          rw [if_pos (by rfl)]
          have hq := HD2.out
          go_simp
          exact hK.out _ _ ⟨_, _, _, _, _, _, _, _, _, _, rfl, { hI with p6 := fun _ => rfl }⟩
        · obtain rfl := hI.p3 (hd 3 (by decide))
          obtain rfl := hI.p6 (hd 6 (by decide))
          rw [if_pos (by rfl)]
          have hX := hI.x.build (ff hI.c8_7 hL) (W.alloc (.cells #[.int .u8 (d1.toNat : Int), .int .u8 (d2.toNat : Int)] 5)) W.heap.size (Row.at _ _ _ _ _ rfl rfl) ((Below.refl _ _).alloc (Nat.le_refl _) _)
          go_simp
          exact hK.out _ _ ⟨_, _, _, _, _, _, _, _, _, _, rfl, { hI with x := hX, c8_7 := fun _ => rfl }⟩
        · obtain rfl := hI.p0 (hd 0 (by decide))
          have h7 := hd 7 (by decide)
          have h9 := ff hI.x.c hL
          obtain ⟨MB, e18, r18⟩ := hI.x.b h7 hL
          refine step_bap rfl (.tmp 11) (.tmp 18) rfl N w _ M (hI.x.o hL) rfl (some ⟨MB, 0, none⟩) 2 2 [d1, d2] e18 rfl (.inr ⟨MB, 0, rfl, fun j v hj => by rw [Nat.zero_add]; exact r18.cell j _ (by rw [List.getElem?_map, hj]; rfl)⟩) (fun h => by cases h) HL.out ?_
          intro v7 W2 ho7
          have hX := hI.x.app hL h9 ho7
          exact hK.out _ _ ⟨_, _, _, _, _, _, _, _, _, _, rfl, { hI with x := hX, c8_7 := fun _ => (hd 7 (by decide)), c8_0 := fun _ => (hd 0 (by decide)) }⟩
        · have hL7 := (hI.c8_7 (hd 8 (by decide)))
          have hL0 := (hI.c8_0 (hd 8 (by decide)))
          rw [if_pos (by rfl)]
          have hX := hI.x.fin (hd 8 (by decide))
          go_simp
          exact hK.out _ _ ⟨_, _, _, _, _, _, _, _, _, _, rfl, { hI with x := hX }⟩
      · rintro L _ W hall ⟨x11, x12, x13, x14, x15, x16, x17, x18, x19, x0, rfl, hI⟩
        obtain rfl := hI.p0 (hall 0 (by decide))
        obtain rfl := hI.p1 (hall 1 (by decide))
        obtain rfl := hI.p2 (hall 2 (by decide))
        obtain rfl := hI.p3 (hall 3 (by decide))
        obtain rfl := hI.p4 (hall 4 (by decide))
        obtain rfl := hI.p5 (hall 5 (by decide))
        obtain rfl := hI.p6 (hall 6 (by decide))
        have hXe := hI.x
        rw [hall 7 (by decide)] at hXe
        rw [hall 8 (by decide)] at hXe
        rw [hall 9 (by decide)] at hXe
        clear hI hall
        try dsimp only
        have HB2 : Hid (Buf N w (m ++ hexC (x.take (i + 1))) x19 W) := by
          show Buf _ _ _ _ _
          rw [HN.out]; exact hXe.r rfl
        have e0 := hXe.f rfl
        subst e0
        clear hXe
        go_wp2
        exact ⟨⟨i + 1, by omega, by go_num, HB2⟩, by simp [intOf]; omega⟩
    · obtain rfl : i = 32 := by omega
      rw [HE.out] at HB
      go_wp2
      go_ret
      exact ⟨_, rfl, HB.out⟩
end Go.Proofs.YtgpnbiaghokjkaaDoor
