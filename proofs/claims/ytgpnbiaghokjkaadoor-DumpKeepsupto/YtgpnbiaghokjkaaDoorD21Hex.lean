
import Derived.Test.YtgpnbiaghokjkaaDoorD21May
/-! Layer 21, the document's answer: bytes, first. (Printed by tools/gend21.py.) -/
namespace Go.Proofs.YtgpnbiaghokjkaaDoor
open Go.RowKit
set_option linter.unusedVariables false
set_option linter.unusedSimpArgs false
set_option maxRecDepth 100000

/-- Around an append to a slice of its own that a variable holds, of what lies in new memory. -/
structure ApB (N : Nat) (w : World) (ao : Option Addr) (n c : Nat) (m bs : List By) (lb la lf : Bool) (xb xa x6 : Value) (W : World) : Prop where
  bel : Below N w W
  sz : N ≤ W.heap.size
  z : lf = false → x6 = .slice ao n c
  o : la = false → Own N W (.slice ao n c) m
  b : lb = true → la = false → ∃ M, xb = .slice (some ⟨M, 0, none⟩) bs.length bs.length ∧ Row W M 5 (bs.map B8)
  r : la = true → ∃ ao' c', xa = .slice ao' (n + bs.length) c' ∧ Own N W (.slice ao' (n + bs.length) c') (m ++ bs)
  f : lf = true → x6 = xa
  c : lf = true → la = true
theorem tf {P : Prop} {b : Bool} (h : b = false) (e : b = true) : P := by rw [h] at e; cases e
section
variable {N : Nat} {w : World} {ao : Option Addr} {n c : Nat} {m bs : List By} {lb la lf : Bool} {xb xa x6 : Value} {W : World}
theorem ApB.zero (hb : Below N w W) (ho : Own N W (.slice ao n c) m) : ApB N w ao n c m bs false false false xb xa (.slice ao n c) W :=
  ⟨hb, ho.2, fun _ => rfl, fun _ => ho, tf rfl, tf rfl, tf rfl, tf rfl⟩
theorem ApB.build (h : ApB N w ao n c m bs lb la lf xb xa x6 W) (hl : la = false) (W2 : World) (M : Nat) (hr : Row W2 M 5 (bs.map B8)) (h2 : Below W.heap.size W W2) : ApB N w ao n c m bs true la lf (.slice (some ⟨M, 0, none⟩) bs.length bs.length) xa x6 W2 :=
  ⟨h.bel.trans (h2.mono h.sz), Nat.le_trans h.sz h2.size, h.z, fun e => (h.o e).keep h2, fun _ _ => ⟨M, rfl, hr⟩, tf hl, h.f, h.c⟩
theorem ApB.app (h : ApB N w ao n c m bs lb la lf xb xa x6 W) (hl : la = false) (hf : lf = false) {W2 : World} {ao' : Option Addr} {c' : Nat} (ho : Own N W2 (.slice ao' (n + bs.length) c') (m ++ bs)) (hb : Below N w W2) : ApB N w ao n c m bs lb true lf xb (.slice ao' (n + bs.length) c') x6 W2 :=
  ⟨hb, ho.2, h.z, fun e => tf e rfl, fun _ e => tf e rfl, fun _ => ⟨ao', c', rfl, ho⟩, tf hf, tf hf⟩
theorem ApB.fin (h : ApB N w ao n c m bs lb la lf xb xa x6 W) (hl : la = true) : ApB N w ao n c m bs lb la true xb xa xa W :=
  ⟨h.bel, h.sz, fun e => tf e rfl, h.o, h.b, h.r, fun _ => rfl, fun _ => hl⟩
end

theorem ff {a b : Bool} (h : a = true → b = true) (hb : b = false) : a = false := by
  cases a with
  | false => rfl
  | true => have := h rfl; rw [hb] at this; cases this

theorem and15 (x : By) : bits .and .u8 (x.toNat : Int) 15 = ((x.toNat % 16 : Nat) : Int) := by revert x; decide +kernel
theorem hex_index (i : Nat) (hi : i < 16) (w : World) : (Instr.index 9 (.string { data := #[48, 49, 50, 51, 52, 53, 54, 55, 56, 57, 97, 98, 99, 100, 101, 102] }) (.int .u8 (i : Int))).run Tryd.prog w = .ok (.int .u8 ((hx i).toNat : Int)) w := by
  rw [k_digits, str_index hexD .u8 i hi w, hexD_get i hi]

structure By5 (W1 : World) (N : Nat) (w0 : World) (ao : Option Addr) (n c : Nat) (m : List By) (G ci X XH XL : Nat) (d1 d2 : By) (L : Nat → Bool) (x10 x11 x12 x13 x14 x15 x16 x17 x18 x19 x20 x21 x22 x3 : Value) (W : World) : Prop where
  x : ApB N w0 ao n c m [d1, d2] (L 11) (L 12) (L 13) x21 x22 x3 W
  p0 : L 0 = true → x10 = .slice ao n c
  p1 : L 1 = true → x11 = .int .i64 (ci : Int)
  p2 : L 2 = true → x12 = .pointer (some ⟨G, ci, none⟩)
  p3 : L 3 = true → x13 = .int .u8 (X : Int)
  p4 : L 4 = true → x14 = .int .u8 (XH : Int)
  p5 : L 5 = true → x15 = .int .u8 (d1.toNat : Int)
  p6 : L 6 = true → x16 = .int .i64 (ci : Int)
  p7 : L 7 = true → x17 = .pointer (some ⟨G, ci, none⟩)
  p8 : L 8 = true → x18 = .int .u8 (X : Int)
  p9 : L 9 = true → x19 = .int .u8 (XL : Int)
  p10 : L 10 = true → x20 = .int .u8 (d2.toNat : Int)
  c12_11 : L 12 = true → L 11 = true
  c12_0 : L 12 = true → L 0 = true
section
variable {W1 : World} {N : Nat} {w0 : World} {ao : Option Addr} {n c : Nat} {m : List By} {G ci X XH XL : Nat} {d1 d2 : By} {L : Nat → Bool} {x10 x11 x12 x13 x14 x15 x16 x17 x18 x19 x20 x21 x22 x3 : Value} {W W2 : World}
end
@[reducible] def IBy5 (W1 : World) (N : Nat) (w0 : World) (ao : Option Addr) (n c : Nat) (m : List By) (G ci X XH XL : Nat) (d1 d2 : By) (y0 y1 y2 y4 y5 y6 y7 y8 y9 y23 y24 : Value) : (Nat → Bool) → Act → World → Prop := fun L a W => ∃ x10 x11 x12 x13 x14 x15 x16 x17 x18 x19 x20 x21 x22 x3, a = ⟨#[y0, y1, y2, x3, y4, y5, y6, y7, y8, y9, x10, x11, x12, x13, x14, x15, x16, x17, x18, x19, x20, x21, x22, y23, y24], []⟩ ∧ By5 W1 N w0 ao n c m G ci X XH XL d1 d2 L x10 x11 x12 x13 x14 x15 x16 x17 x18 x19 x20 x21 x22 x3 W
set_option maxHeartbeats 2000000 in
theorem r21bytes_any (x : List By) (hx : x.length = 32) (w : World) :
    Calls Tryd.prog 26 #[.agg (x.map B8).toArray] w fun e w' => e = .returned (.string (strOf (hexC x))) ∧ Below w.heap.size w w' := by
  have r0 := Row.at w 56 (x.map B8) _ _ rfl rfl
  have HR0 : Hid (∀ W, Below (w.heap.size + 1) (w.alloc (.cells (x.map B8).toArray 56)) W → ∀ i : Nat, i < 32 → W.cell? ⟨w.heap.size, i, none⟩ = some (.int .u8 ((x.getD i 0).toNat : Int))) := fun W hW i hi => by
    refine (r0.below hW (by omega)).cell i _ ?_
    rw [List.getElem?_map, List.getElem?_eq_getElem (by omega), List.getD_eq_getElem?_getD, List.getElem?_eq_getElem (by omega)]; rfl
  have HST : Hid (∀ i, i < 32 → hexC (x.take (i + 1)) = hexC (x.take i) ++ hexB (x.getD i 0)) := fun i hi => hexC_step x i (by omega)
  have HLN : Hid (∀ i, i ≤ 32 → (hexC (x.take i)).length = 2 * i) := fun i hi => by show _ = _; rw [hexC_len, List.length_take]; omega
  have HE : Hid (hexC (x.take 32) = hexC x) := by show _ = _; rw [List.take_of_length_le (by omega)]
  have HZ : Hid (hexC (x.take 0) = []) := rfl
  have hz0 : (w.alloc (.cells (x.map B8).toArray 56)).heap.size = w.heap.size + 1 := by simp
  have hb0 : Below w.heap.size w (w.alloc (.cells (x.map B8).toArray 56)) := (Below.refl _ _).alloc (Nat.le_refl _) _
  clear r0 hx
  generalize hexC x = HX at *
  generalize hW0 : w.alloc (.cells (x.map B8).toArray 56) = W0 at *
  have O0 : Hid (Own (w.heap.size + 1) (W0.alloc (.cells #[] 5)) (.slice (some ⟨w.heap.size + 1, 0, none⟩) 0 0) (hexC (x.take 0))) := by
    show Own _ _ _ _
    rw [HZ.out, ← hz0]
    exact own_empty _ W0 (Nat.le_refl _) #[] rfl
  have B0 : Hid (Below (w.heap.size + 1) W0 (W0.alloc (.cells #[] 5))) := (Below.refl _ _).alloc (by omega) _
  go_enter Tryd.func26, Tryd.ntmps26
  go_upto_region 1 with fail
  try rw [hW0]
  go_wp2_with fail
  try rw [hz0]
  clear hW0
  go_loopw [3, 4] (fun bv iv wr => ∃ (i : Nat) (ao : Option Addr) (c : Nat), i ≤ 32 ∧ iv = .int .i64 i ∧ bv = .slice ao (2 * i) c ∧ Hid (Own (w.heap.size + 1) wr (.slice ao (2 * i) c) (hexC (x.take i))) ∧ Hid (Below (w.heap.size + 1) W0 wr)) (fun _ iv _ => 32 - (intOf iv).toNat)
  case atStart => exact ⟨0, _, _, by omega, rfl, rfl, O0, B0⟩
  case round =>
    clear O0 B0
    obtain ⟨i, ao, c, hi, rfl, rfl, HO, HB⟩ := hrel
    by_cases hlt : i < 32
    · have y0 : (0 : Int) ≤ (i : Int) := by omega
      have y1 : (i : Int) < 32 := by omega
      have HC : Hid (∀ W, Below (w.heap.size + 1) W0 W → W.cell? ⟨w.heap.size, i, none⟩ = some (.int .u8 ((x.getD i 0).toNat : Int))) := fun W hW => HR0.out W hW i hlt
      have hxl := (x.getD i 0).isLt
      have HL : Hid ((hexC (x.take i)).length = 2 * i) := HLN.out i (by omega)
      have HN : Hid (hexC (x.take (i + 1)) = hexC (x.take i) ++ hexB (x.getD i 0)) := HST.out i hlt
      have s1 : ((x.getD i 0).toNat : Int) / 2 ^ 4 = (((x.getD i 0).toNat / 16 : Nat) : Int) := by omega
      have s2 : ((x.getD i 0).toNat : Int) / 16 = (((x.getD i 0).toNat / 16 : Nat) : Int) := by omega
      have s3 : IntKind.u8.wrap (((x.getD i 0).toNat / 16 : Nat) : Int) = (((x.getD i 0).toNat / 16 : Nat) : Int) := u8_in _ (by omega) (by omega)
      have s4 := and15 (x.getD i 0)
      have HD1 : Hid (∀ W : World, (Instr.index 9 (.string { data := #[48, 49, 50, 51, 52, 53, 54, 55, 56, 57, 97, 98, 99, 100, 101, 102] }) (.int .u8 (((x.getD i 0).toNat / 16 : Nat) : Int))).run Tryd.prog W = .ok (.int .u8 ((hx ((x.getD i 0).toNat / 16)).toNat : Int)) W) := fun W => hex_index _ (by omega) W
      have HD2 : Hid (∀ W : World, (Instr.index 9 (.string { data := #[48, 49, 50, 51, 52, 53, 54, 55, 56, 57, 97, 98, 99, 100, 101, 102] }) (.int .u8 (((x.getD i 0).toNat % 16 : Nat) : Int))).run Tryd.prog W = .ok (.int .u8 ((hx ((x.getD i 0).toNat % 16)).toNat : Int)) W) := fun W => hex_index _ (by omega) W
      have hB : hexB (x.getD i 0) = [hx ((x.getD i 0).toNat / 16), hx ((x.getD i 0).toNat % 16)] := rfl
      rw [hB] at HN
      clear hB hxl
      generalize hx ((x.getD i 0).toNat / 16) = d1 at *
      generalize hx ((x.getD i 0).toNat % 16) = d2 at *
      generalize (x.getD i 0).toNat / 16 = XH at *
      generalize (x.getD i 0).toNat % 16 = XL at *
      generalize (x.getD i 0).toNat = X at *
      generalize hexC (x.take i) = m at *
      generalize hnn : 2 * i = nn at *
      generalize hG : w.heap.size = G at *
      go_wp2_with fail
      refine wp_region_inv (IBy5 wr (G + 1) W0 ao nn c m G i X XH XL d1 d2 _ _ _ _ _ _ _ _ _ _ _) (by kernel_rfl) (by kernel_rfl) ⟨_, _, _, _, _, _, _, _, _, _, _, _, _, _, rfl, ⟨ApB.zero (Below_dr HB.out ⟨1, rfl⟩) (HO.out.keep (Below.refl _ _).drew), fun k => (by cases k), fun k => (by cases k), fun k => (by cases k), fun k => (by cases k), fun k => (by cases k), fun k => (by cases k), fun k => (by cases k), fun k => (by cases k), fun k => (by cases k), fun k => (by cases k), fun k => (by cases k), fun k => (by cases k), fun k => (by cases k)⟩⟩ ?_ ?_
      · refine .cons ?_ (.cons ?_ (.cons ?_ (.cons ?_ (.cons ?_ (.cons ?_ (.cons ?_ (.cons ?_ (.cons ?_ (.cons ?_ (.cons ?_ (.cons ?_ (.cons ?_ (.cons ?_ .nil)))))))))))))
        all_goals (rintro L _ W ⟨x10, x11, x12, x13, x14, x15, x16, x17, x18, x19, x20, x21, x22, x3, rfl, hI⟩ hL hd K hK)
        · rw [if_pos (by rfl)]
          have h12 : L 12 = false := ff hI.c12_0 hL
          have e3 := hI.x.z (ff hI.x.c h12)
          subst e3
          go_simp
          exact hK.out _ _ ⟨_, _, _, _, _, _, _, _, _, _, _, _, _, _, rfl, { hI with p0 := fun _ => rfl, c12_0 := fun _ => rfl }⟩
        · rw [if_pos (by rfl)]
          go_simp
          exact hK.out _ _ ⟨_, _, _, _, _, _, _, _, _, _, _, _, _, _, rfl, { hI with p1 := fun _ => rfl }⟩
        · obtain rfl := hI.p1 (hd 1 (by decide))
          rw [if_pos (by rfl)]
          go_simp
          exact hK.out _ _ ⟨_, _, _, _, _, _, _, _, _, _, _, _, _, _, rfl, { hI with p2 := fun _ => rfl }⟩
        · obtain rfl := hI.p2 (hd 2 (by decide))
          rw [if_pos (by rfl)]
          have cc := HC.out _ hI.x.bel
          go_simp
          exact hK.out _ _ ⟨_, _, _, _, _, _, _, _, _, _, _, _, _, _, rfl, { hI with p3 := fun _ => rfl }⟩
        · obtain rfl := hI.p3 (hd 3 (by decide))
          rw [if_pos (by rfl)]
          go_simp
          exact hK.out _ _ ⟨_, _, _, _, _, _, _, _, _, _, _, _, _, _, rfl, { hI with p4 := fun _ => rfl }⟩
        · obtain rfl := hI.p4 (hd 4 (by decide))
          rw [if_pos (by rfl)]
          have hq := HD1.out
          go_simp
          exact hK.out _ _ ⟨_, _, _, _, _, _, _, _, _, _, _, _, _, _, rfl, { hI with p5 := fun _ => rfl }⟩
        · rw [if_pos (by rfl)]
          go_simp
          exact hK.out _ _ ⟨_, _, _, _, _, _, _, _, _, _, _, _, _, _, rfl, { hI with p6 := fun _ => rfl }⟩
        · obtain rfl := hI.p6 (hd 6 (by decide))
          rw [if_pos (by rfl)]
          go_simp
          exact hK.out _ _ ⟨_, _, _, _, _, _, _, _, _, _, _, _, _, _, rfl, { hI with p7 := fun _ => rfl }⟩
        · obtain rfl := hI.p7 (hd 7 (by decide))
          rw [if_pos (by rfl)]
          have cc := HC.out _ hI.x.bel
          go_simp
          exact hK.out _ _ ⟨_, _, _, _, _, _, _, _, _, _, _, _, _, _, rfl, { hI with p8 := fun _ => rfl }⟩
        · obtain rfl := hI.p8 (hd 8 (by decide))
          rw [if_pos (by rfl)]
          go_simp
          exact hK.out _ _ ⟨_, _, _, _, _, _, _, _, _, _, _, _, _, _, rfl, { hI with p9 := fun _ => rfl }⟩
        · obtain rfl := hI.p9 (hd 9 (by decide))
          rw [if_pos (by rfl)]
          have hq := HD2.out
          go_simp
          exact hK.out _ _ ⟨_, _, _, _, _, _, _, _, _, _, _, _, _, _, rfl, { hI with p10 := fun _ => rfl }⟩
        · obtain rfl := hI.p5 (hd 5 (by decide))
          obtain rfl := hI.p10 (hd 10 (by decide))
          rw [if_pos (by rfl)]
          have hX := hI.x.build (ff hI.c12_11 hL) (W.alloc (.cells #[.int .u8 (d1.toNat : Int), .int .u8 (d2.toNat : Int)] 5)) W.heap.size (Row.at _ _ _ _ _ rfl rfl) ((Below.refl _ _).alloc (Nat.le_refl _) _)
          go_simp
          exact hK.out _ _ ⟨_, _, _, _, _, _, _, _, _, _, _, _, _, _, rfl, { hI with x := hX, c12_11 := fun _ => rfl }⟩
        · obtain rfl := hI.p0 (hd 0 (by decide))
          have h11 := hd 11 (by decide)
          have h13 := ff hI.x.c hL
          obtain ⟨M, e21, r21⟩ := hI.x.b h11 hL
          refine step_append_more rfl (.tmp 10) (.tmp 21) rfl (G + 1) W0 ao nn c m rfl HL.out (hI.x.o hL) hI.x.bel (some ⟨M, 0, none⟩) 2 2 [d1, d2] e21 rfl (.inr ⟨M, 0, rfl, fun j v hj => by rw [Nat.zero_add]; exact r21.cell j _ (by rw [List.getElem?_map, hj]; rfl)⟩) (fun h => by cases h) (by omega) ?_
          intro ao7 c7 W2 ho7 hb7
          have hX := hI.x.app hL h13 ho7 hb7
          exact hK.out _ _ ⟨_, _, _, _, _, _, _, _, _, _, _, _, _, _, rfl, { hI with x := hX, c12_11 := fun _ => (hd 11 (by decide)), c12_0 := fun _ => (hd 0 (by decide)) }⟩
        · have hL11 := (hI.c12_11 (hd 12 (by decide)))
          have hL0 := (hI.c12_0 (hd 12 (by decide)))
          rw [if_pos (by rfl)]
          have hX := hI.x.fin (hd 12 (by decide))
          go_simp
          exact hK.out _ _ ⟨_, _, _, _, _, _, _, _, _, _, _, _, _, _, rfl, { hI with x := hX }⟩
      · rintro L _ W hall ⟨x10, x11, x12, x13, x14, x15, x16, x17, x18, x19, x20, x21, x22, x3, rfl, hI⟩
        obtain rfl := hI.p0 (hall 0 (by decide))
        obtain rfl := hI.p1 (hall 1 (by decide))
        obtain rfl := hI.p2 (hall 2 (by decide))
        obtain rfl := hI.p3 (hall 3 (by decide))
        obtain rfl := hI.p4 (hall 4 (by decide))
        obtain rfl := hI.p5 (hall 5 (by decide))
        obtain rfl := hI.p6 (hall 6 (by decide))
        obtain rfl := hI.p7 (hall 7 (by decide))
        obtain rfl := hI.p8 (hall 8 (by decide))
        obtain rfl := hI.p9 (hall 9 (by decide))
        obtain rfl := hI.p10 (hall 10 (by decide))
        have hXe := hI.x
        rw [hall 11 (by decide)] at hXe
        rw [hall 12 (by decide)] at hXe
        rw [hall 13 (by decide)] at hXe
        clear hI hall
        try dsimp only
        obtain ⟨ao', c', e22, ho⟩ := hXe.r rfl
        have e3 := hXe.f rfl
        have HB2 : Hid (Below (G + 1) W0 W) := hXe.bel
        subst e3 e22
        have HO2 : Hid (Own (G + 1) W (.slice ao' (2 * (i + 1)) c') (hexC (x.take (i + 1)))) := by
          show Own _ _ _ _
          rw [HN.out, show 2 * (i + 1) = nn + 2 by omega]; exact ho
        have hn2 : nn + [d1, d2].length = 2 * (i + 1) := by show nn + 2 = _; omega
        rw [hn2]
        clear hXe ho hn2
        go_wp2
        exact ⟨⟨i + 1, ao', c', by omega, by go_num, rfl, HO2, HB2⟩, by simp [intOf]; omega⟩
    · obtain rfl : i = 32 := by omega
      have cv := conv_bytes wr ao (2 * 32) c HX (by rw [← HE.out, HLN.out 32 (Nat.le_refl _)]) (by rw [← HE.out]; exact own_IsB HO.out)
      have HBF : Hid (Below w.heap.size w wr) := hb0.trans (HB.out.mono (by omega))
      clear HO HB
      go_wp2
      go_ret
      exact ⟨rfl, HBF.out⟩

/-- A number as a value. -/
def nI (n : Nat) : Value := .int .i64 (n : Int)
/-- The numbers of a config, as the walk has them. -/
theorem nums_take (l : List Nat) (i : Nat) (hi : i < l.length) : numsL (l.take (i + 1)) = numsL (l.take i) ++ (32#8 :: num (l.getD i 0)) := by
  unfold numsL
  rw [List.take_add_one, List.getElem?_eq_getElem hi, List.flatMap_append, List.getD_eq_getElem?_getD, List.getElem?_eq_getElem hi]
  simp
theorem numsL_len : ∀ (l : List Nat), (∀ n ∈ l, n < 9223372036854775808) → (numsL l).length ≤ 20 * l.length
  | [], _ => Nat.le_refl _
  | n :: l, h => by
    have := numsL_len l (fun m hm => h m (List.mem_cons_of_mem _ hm))
    have h2 := num_len (h n (List.mem_cons_self ..))
    have e : numsL (n :: l) = 32#8 :: (num n ++ numsL l) := by unfold numsL; rw [List.flatMap_cons]; rfl
    rw [e, List.length_cons, List.length_append, List.length_cons]; omega

set_option maxHeartbeats 2000000 in
theorem r21first_any (c : Cfg) (hm : c.may = 0) (w : World) :
    Calls Tryd.prog 23 #[.agg c.vals.toArray] w fun e w' => e = .returned (.string (strOf (wChip ++ numsL c.nums))) ∧ Below w.heap.size w w' := by
  obtain ⟨h1, h2, h3, h4, h5, h6, h7⟩ := may_all hm
  obtain ⟨nl, hnl⟩ : ∃ nl, nl = c.nums := ⟨_, rfl⟩
  have HNV : Hid ([.int .i64 c.cells, .int .i64 c.slots, .int .i64 c.fuses, .int .i64 c.step, .int .i64 c.keys, .int .i64 c.erases, .int .i64 c.area] = nl.map nI) := by
    show _ = _
    rw [hnl]
    simp only [Cfg.nums, List.map_cons, List.map_nil, nI]
    rw [Int.toNat_of_nonneg (show 0 ≤ c.cells by omega), Int.toNat_of_nonneg (show 0 ≤ c.slots by omega), Int.toNat_of_nonneg (show 0 ≤ c.fuses by omega), Int.toNat_of_nonneg (show 0 ≤ c.step by omega), Int.toNat_of_nonneg (show 0 ≤ c.keys by omega), Int.toNat_of_nonneg (show 0 ≤ c.erases by omega), Int.toNat_of_nonneg (show 0 ≤ c.area by omega)]
  have HNL : Hid (∀ n ∈ nl, n < 9223372036854775808) := fun n hn => by
    have := (cfg_of_nums hm).2 n (by rw [← hnl]; exact hn)
    omega
  have HLEN : Hid (nl.length = 7) := by show _ = _; rw [hnl]; rfl
  rw [← hnl]
  clear hnl
  obtain ⟨cells, slots, fuses, step, keys, erases, area⟩ := c
  simp only [Cfg.vals] at *
  have r0 : Row (w.alloc (.cells #[.int .i64 cells, .int .i64 slots, .int .i64 fuses, .int .i64 step, .int .i64 keys, .int .i64 erases, .int .i64 area] 24)) w.heap.size 24 [.int .i64 cells, .int .i64 slots, .int .i64 fuses, .int .i64 step, .int .i64 keys, .int .i64 erases, .int .i64 area] := Row.at _ _ _ _ _ rfl rfl
  have hb0 : Below w.heap.size w (w.alloc (.cells #[.int .i64 cells, .int .i64 slots, .int .i64 fuses, .int .i64 step, .int .i64 keys, .int .i64 erases, .int .i64 area] 24)) := (Below.refl _ _).alloc (Nat.le_refl _) _
  obtain ⟨W0, hW0⟩ : ∃ W0, W0 = w.alloc (.cells #[.int .i64 cells, .int .i64 slots, .int .i64 fuses, .int .i64 step, .int .i64 keys, .int .i64 erases, .int .i64 area] 24) := ⟨_, rfl⟩
  rw [← hW0] at r0 hb0
  have c0 := r0.cell 0 _ rfl
  have c1 := r0.cell 1 _ rfl
  have c2 := r0.cell 2 _ rfl
  have c3 := r0.cell 3 _ rfl
  have c4 := r0.cell 4 _ rfl
  have c5 := r0.cell 5 _ rfl
  have c6 := r0.cell 6 _ rfl
  have HR1 : Hid (Row (W0.alloc (.cells #[.int .i64 cells, .int .i64 slots, .int .i64 fuses, .int .i64 step, .int .i64 keys, .int .i64 erases, .int .i64 area] 3)) W0.heap.size 3 (nl.map nI)) := by
    show Row _ _ _ _
    rw [← HNV.out]; exact Row.at _ _ _ _ _ rfl rfl
  have HB1 : Hid (Below w.heap.size w (W0.alloc (.cells #[.int .i64 cells, .int .i64 slots, .int .i64 fuses, .int .i64 step, .int .i64 keys, .int .i64 erases, .int .i64 area] 3))) := hb0.alloc hb0.size _
  have HNU : Hid (∀ (W : World) (n : Nat), n < 9223372036854775808 → Calls Tryd.prog 24 #[.int .i64 (n : Int)] W fun e w' => e = .returned (.string (strOf (num n))) ∧ Below W.heap.size W w') := fun W n hn => r21number_any n W hn
  clear r0 hm h1 h2 h3 h4 h5 h6 h7
  go_enter Tryd.func23, Tryd.ntmps23
  go_upto_region 1 with fail
  rw [← hW0]
  clear hW0
  go_wp2_with fail
  generalize hL1 : W0.alloc (.cells #[.int .i64 cells, .int .i64 slots, .int .i64 fuses, .int .i64 step, .int .i64 keys, .int .i64 erases, .int .i64 area] 3) = W1 at *
  generalize W0.heap.size = LB at *
  clear hL1 c0 c1 c2 c3 c4 c5 c6 HNV
  go_loopw [4, 5] (fun sv iv wr => ∃ i : Nat, i ≤ 7 ∧ iv = .int .i64 i ∧ sv = .string (strOf (wChip ++ numsL (nl.take i))) ∧ Hid (Row wr LB 3 (nl.map nI)) ∧ Hid (Below w.heap.size w wr)) (fun _ iv _ => 7 - (intOf iv).toNat)
  case atStart => exact ⟨0, by omega, rfl, by first | rfl | (rw [k_chip]; rfl), HR1, HB1⟩
  case round =>
    clear HR1 HB1
    obtain ⟨i, hi, rfl, rfl, HR, HB⟩ := hrel
    by_cases hlt : i < 7
    · have y0 : (0 : Int) ≤ (i : Int) := by omega
      have y1 : (i : Int) < 7 := by omega
      have hli : i < nl.length := by rw [HLEN.out]; exact hlt
      have cc := HR.out.cell i (.int .i64 (nl.getD i 0 : Int)) (by rw [List.getElem?_map, List.getElem?_eq_getElem hli, List.getD_eq_getElem?_getD, List.getElem?_eq_getElem hli]; rfl)
      have hn63 : nl.getD i 0 < 9223372036854775808 := HNL.out _ (by rw [List.getD_eq_getElem?_getD, List.getElem?_eq_getElem hli]; exact List.getElem_mem _)
      have NU := HNU.out wr (nl.getD i 0) hn63
      have hl1 := num_len hn63
      have hl2 := numsL_len (nl.take i) (fun n hn => HNL.out n (List.mem_of_mem_take hn))
      have hl3 : (nl.take i).length ≤ 7 := by rw [List.length_take, HLEN.out]; omega
      have sa : ∀ W : World, (Op.stringOp .add { data := #[32] } (strOf (num (nl.getD i 0)))).run Tryd.prog W = .ok (.string (strOf (32#8 :: num (nl.getD i 0)))) W := fun W => str_add [32#8] _ (by show 1 + _ ≤ _; omega) W
      have sb : ∀ W : World, (Op.stringOp .add (strOf (wChip ++ numsL (nl.take i))) (strOf (32#8 :: num (nl.getD i 0)))).run Tryd.prog W = .ok (.string (strOf (wChip ++ numsL (nl.take (i + 1))))) W := fun W => by
        rw [str_add _ _ (by rw [List.length_append, List.length_cons]; show 4 + _ + _ ≤ _; omega) W, nums_take nl i hli, List.append_assoc]
      clear hn63 hl1 hl2 hl3 hli
      obtain ⟨S2, hS2⟩ : ∃ S2, strOf (wChip ++ numsL (nl.take (i + 1))) = S2 := ⟨_, rfl⟩
      rw [hS2] at sb
      have HS2 : Hid (strOf (wChip ++ numsL (nl.take (i + 1))) = S2) := hS2
      clear hS2
      generalize strOf (wChip ++ numsL (nl.take i)) = S1 at *
      generalize strOf (32#8 :: num (nl.getD i 0)) = S3 at *
      generalize strOf (num (nl.getD i 0)) = S4 at *
      generalize nl.getD i 0 = NN at *
      go_wp2_with fail
      refine NU.mono ?_
      clear NU
      rintro e w2 ⟨rfl, hb2⟩
      dsimp only
      have HR2 : Hid (Row w2 LB 3 (nl.map nI)) := HR.out.below hb2 HR.out.lt
      have HB2 : Hid (Below w.heap.size w w2) := HB.out.trans (hb2.mono HB.out.size)
      clear hb2 HR HB cc
      go_wp2
      exact ⟨⟨i + 1, by omega, by go_num, by rw [HS2.out], HR2, HB2⟩, by simp [intOf]; omega⟩
    · obtain rfl : i = 7 := by omega
      have HS : Hid (strOf (wChip ++ numsL (nl.take 7)) = strOf (wChip ++ numsL nl)) := by show _ = _; rw [List.take_of_length_le (Nat.le_of_eq HLEN.out)]
      generalize strOf (wChip ++ numsL (nl.take 7)) = S1 at *
      go_wp2
      go_ret
      exact ⟨by rw [← HS.out]; rfl, HB.out⟩
end Go.Proofs.YtgpnbiaghokjkaaDoor
