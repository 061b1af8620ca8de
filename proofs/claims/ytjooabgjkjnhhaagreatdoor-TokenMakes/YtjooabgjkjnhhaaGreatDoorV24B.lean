import Derived.Test.YtjooabgjkjnhhaaGreatDoorV24D
import Derived.Lib.SlBytesConst
import Derived.Test.YtjooabgjkjnhhaaGreatDoorV24C
import Derived.Test.YtjooabgjkjnhhaaGreatDoorT24J

/-! The code's token: copied, mayID, signed. -/
namespace Go.Proofs.YtjooabgjkjnhhaaGreatDoor
open Go.RowKit
set_option linter.unusedVariables false
set_option linter.unusedSimpArgs false
set_option maxRecDepth 100000

set_option maxHeartbeats 1000000 in
theorem tcopied_any (ao : Option Addr) (n cap : Nat) (b : List By) (hb0 : b.length = n) (w : World) (hb : IsB w ao b) (hl : n ≤ 140737488353280) :
    Calls Tryz.prog 32 #[.slice ao n cap] w fun e w' => e = .returned (.slice (some ⟨w.heap.size, 0, none⟩) n n) ∧ Own w.heap.size w' (.slice (some ⟨w.heap.size, 0, none⟩) n n) b ∧ Below w.heap.size w w' := by
  have HB : Hid (IsB w ao b) := hb
  have HB0 : Hid (b.length = n) := hb0
  clear hb hb0
  go_enter Tryz.func32, Tryz.ntmps32
  go_wp2_with (first
    | (refine wpList_make_rowN rfl _ _ rfl .i64 .i64 _ _ n rfl rfl rfl rfl (by omega) ?_; intro w2 hr2 hb2 hz2)
    | (refine wpList_copy_to rfl (.tmp 7) (.tmp 8) rfl w.heap.size 0 n n ao n cap rfl rfl (Nat.le_refl _) (List.replicate n 0) hr2 b HB0.out (HB.out.below hb2 (Nat.le_refl _)) (by simp) ?_; intro w3 hr3 hs3))
  have e : splice (List.replicate n (0 : By)) 0 b = b := by simp [splice, HB0.out]
  rw [e] at hr3
  go_ret
  exact ⟨rfl, own_row hr3 (Nat.le_refl _) n HB0.out (by omega), hs3.below hb2 (Nat.le_refl _)⟩
theorem mayID_any (ao : Option Addr) (n cap : Nat) (w : World) : Calls Tryz.prog 29 #[.slice ao n cap] w fun e w' => e = .returned (.bool (decide (1 ≤ n ∧ n ≤ 64))) ∧ w' = w := by
  obtain ⟨q, hq⟩ : ∃ q, q = decide (1 ≤ n ∧ n ≤ 64) := ⟨_, rfl⟩
  rw [← hq]
  by_cases h : 1 ≤ n
  · have h1 : (1 : Int) ≤ (n : Int) := by omega
    have d0 : decide (1 ≤ n) = true := decide_eq_true h
    have d1 : decide (n ≤ 64) = q := by rw [hq, Bool.eq_iff_iff]; simp; omega
    have d2 : decide ((n : Int) ≤ 64) = q := by rw [hq, Bool.eq_iff_iff]; simp; omega
    clear hq
    go_enter Tryz.func29, Tryz.ntmps29
    go_wp2
    go_ret
    exact ⟨rfl, rfl⟩
  · have h1 : ¬ (1 : Int) ≤ (n : Int) := by omega
    have d0 : decide (1 ≤ n) = false := decide_eq_false h
    have hq' : q = false := by rw [hq]; simp; omega
    subst hq'
    clear hq
    go_enter Tryz.func29, Tryz.ntmps29
    go_wp2
    go_ret
    exact ⟨rfl, rfl⟩
theorem isb_mk24 {w : World} {g t : Nat} {fz : Nat × Nat} {l : List By} (h : w.heap[g]? = some (.cells (l.map B8).toArray t fz)) : IsB w (some ⟨g, 0, none⟩) l :=
  .inr ⟨g, 0, rfl, fun j v hj => by rw [Nat.zero_add, cell_of_row w g j _ t fz h]; simp [hj]⟩
theorem isb_cells24 {w : World} {g : Nat} {m : List By} (h : IsB w (some ⟨g, 0, none⟩) m) : ∀ j v, (m.map B8)[j]? = some v → w.cell? ((⟨g, 0, none⟩ : Addr).add j) = some v := by
  intro j u hu
  rw [Addr.add_mid, Nat.zero_add]
  rw [List.getElem?_map] at hu
  rcases h with rfl | ⟨B, off, e, hc⟩
  · simp at hu
  · injection e with e
    injection e with e1 e2
    subst e1 e2
    cases hj : m[j]? with
    | none => rw [hj] at hu; cases hu
    | some v =>
      rw [hj] at hu
      injection hu with hu
      subst hu
      have := hc j v hj
      rw [Nat.zero_add] at this
      exact this
/-- append onto a full slice of bytes, whoever's it is. -/
theorem wpList_append_full24 {ops : Array Oper} {rest : List Oper} {o : Oper} {a : Act} {w : World} {Q : Exit → Act → World → Prop} (hgd : o.guard = none) (s x : Operand)
    (ho : o.op = .call { callee := .builtin .append, args := #[s, x], argTypes := #[23, 23] })
    (g nD : Nat) (m : List By) (hs : a.eval s = .slice (some ⟨g, 0, none⟩) nD nD) (hD : m.length = nD) (hm : IsB w (some ⟨g, 0, none⟩) m)
    (h n cap : Nat) (bs : List By) (hx : a.eval x = .slice (some ⟨h, 0, none⟩) n cap) (hn : bs.length = n) (hb : IsB w (some ⟨h, 0, none⟩) bs) (hn0 : 0 < n) (hl : nD + n ≤ 140737488353280)
    (hK : ∀ ao' cap' w', Own w.heap.size w' (.slice ao' (nD + n) cap') (m ++ bs) → Below w.heap.size w w' → wpList Tryz.prog ops Q rest (a.put o.dst (.slice ao' (nD + n) cap')) w') : wpList Tryz.prog ops Q (o :: rest) a w := by
  obtain ⟨i0, hi, hz0, hz1, hz2⟩ := info_parts Tryz.info5
  refine wpList_plain hgd fun K hK' => ?_
  have hr := run_append_grow (P := Tryz.prog) w 23 o.type 5 i0 (.int .u8 0) Tryz.underlying23 hi hz0 ⟨g, 0, none⟩ nD nD (m.map B8) (by rw [List.length_map, hz1, hD, Nat.mul_one]) (isb_cells24 hm) ⟨h, 0, none⟩ n cap (bs.map B8) (by rw [List.length_map, hz1, hn, Nat.mul_one]) (isb_cells24 hb) (by omega) (by omega) (growslice_fits (by omega) (by rw [hz2]; omega))
  have hge := grownCap_ge w (nD + n) nD 5
  have hcm : grownCap w (nD + n) nD 5 ≤ maxLen := grownCap_le_maxLen w (nD + n) nD 5 (by unfold maxLen; omega)
  have hlen : (m ++ bs).length = nD + n := by rw [List.length_append, hD, hn]
  unfold Oper.wp execOp
  simp only [ho, resolve, invoke, builtin, Sem.run_bind, Sem.run_pure, Result.andThen_ok, List.map_toArray, List.map_cons, List.map_nil, hs, hx, hr]
  refine hK' _ _ (hK _ _ _ ⟨⟨by simp, .inr ⟨w.heap.size, _, _, by rw [hlen], Nat.le_refl _, heap_alloc_new w.drew _, by rw [hlen]; exact hge, hcm, ?_, ?_⟩⟩, by simp⟩ (((Below.refl _ _).drew).alloc (Nat.le_refl _) _))
  · simp only [Array.size_append, List.size_toArray, size_zeroCells, List.length_map, hD, hn]
    have : (Value.int IntKind.u8 0).cells.size = 1 := rfl
    rw [this]; omega
  · rw [Array.toList_append, Array.toList_append]
    have e1 : (m ++ bs).length * 1 = (m.map B8 ++ bs.map B8).length := by simp
    rw [e1, List.map_append]
    exact List.take_left

set_option maxHeartbeats 1000000 in
theorem signed_any (io : Option Addr) (ic : Nat) (id : List By) (w : World) (hb : IsB w io id) (hnil : io = none → ic = 0) (hm : id.length ≤ 140737488353000) :
    Calls Tryz.prog 31 #[.slice io id.length ic] w fun e w' => ∃ ao c', e = .returned (.slice ao (18 + id.length) c') ∧ Own w.heap.size w' (.slice ao (18 + id.length) c') (firstB id) ∧ Below w.heap.size w w' := by
  have kc := Lib.run_convert_bytes_const (P := Tryz.prog) w 23 5 #[.int .u8 112, .int .u8 111, .int .u8 114, .int .u8 116, .int .u8 99, .int .u8 117, .int .u8 108, .int .u8 108, .int .u8 105, .int .u8 115, .int .u8 32, .int .u8 116, .int .u8 111, .int .u8 107, .int .u8 101, .int .u8 110] 16 16 Tryz.underlying23 Tryz.underlying5
  obtain ⟨W1, hW1⟩ : ∃ W1, W1 = w.alloc (.cells #[.int .u8 112, .int .u8 111, .int .u8 114, .int .u8 116, .int .u8 99, .int .u8 117, .int .u8 108, .int .u8 108, .int .u8 105, .int .u8 115, .int .u8 32, .int .u8 116, .int .u8 111, .int .u8 107, .int .u8 101, .int .u8 110] 5 (16, 17)) := ⟨_, rfl⟩
  have r1 : IsB W1 (some ⟨w.heap.size, 0, none⟩) labelB := by rw [hW1]; exact isb_mk24 (t := 5) (fz := (16, 17)) (heap_alloc_new w _)
  have s1 : W1.heap.size = w.heap.size + 1 := by rw [hW1]; simp
  have HO : Hid (∀ X, IsB (W1.alloc X) (some ⟨w.heap.size, 0, none⟩) labelB) := fun X => r1.below ((Below.refl _ _).alloc (Nat.le_refl _) _) (Nat.le_refl _)
  have HB : Hid (Below w.heap.size w W1) := by show Below _ _ _; rw [hW1]; exact (Below.refl _ _).alloc (Nat.le_refl _) _
  have HI : Hid (∀ W, Below w.heap.size w W → IsB W io id) := fun W h => hb.below h (Nat.le_refl _)
  have HNL : Hid (io = none → ic = 0) := hnil
  have HL : Hid (firstB id = (labelB ++ [0#8, BitVec.ofNat 8 id.length]) ++ id) := rfl
  have HS : Hid (∀ X W v m, Own (W1.alloc X).heap.size W v m → Below (W1.alloc X).heap.size (W1.alloc X) W → Own w.heap.size W v m ∧ Below w.heap.size w W) := fun X W v m h1 h2 => by
    have h3 : Below w.heap.size w (W1.alloc X) := HB.out.alloc HB.out.size _
    exact ⟨own_le h1 h3.size, h3.trans (h2.mono h3.size)⟩
  obtain ⟨n, hn⟩ : ∃ n, id.length = n := ⟨_, rfl⟩
  have HN : Hid (id.length = n) := hn
  rw [hn] at HL hm ⊢
  clear hb hnil hn r1 s1
  go_enter Tryz.func31, Tryz.ntmps31
  go_wp2_with (first
    | (have hz := hW1; clear hz; refine wpList_at24 hW1 ?_; clear hW1)
    | (have hz := HO; clear hz; at_builtin; refine wpList_append_full24 rfl (.tmp 5) (.tmp 9) rfl w.heap.size 16 labelB rfl rfl (HO.out _) W1.heap.size 2 2 [0#8, BitVec.ofNat 8 n] rfl rfl (two_IsB W1 n) (by omega) (by omega) ?_; intro ao3 c3 w3 ho3 hb3; have H3 := HS.out _ _ _ _ ho3 hb3; have HO3 : Hid (Own w.heap.size w3 (.slice ao3 18 c3) (labelB ++ [0#8, BitVec.ofNat 8 n])) := H3.1; have HB3 : Hid (Below w.heap.size w w3) := H3.2; clear HO HB ho3 hb3 H3)
    | (have hz := HO3; clear hz; at_builtin; refine wpList_append_more rfl (.tmp 11) (.tmp 12) rfl w.heap.size w ao3 18 c3 _ rfl rfl HO3.out HB3.out io n ic id rfl HN.out (HI.out _ HB3.out) HNL.out (by omega) ?_; intro ao4 c4 w4 ho4 hb4; have HF : Hid (Own w.heap.size w4 (.slice ao4 (18 + n) c4) (firstB id) ∧ Below w.heap.size w w4) := ⟨by rw [HL.out]; exact ho4, hb4⟩; clear HO3 HB3 ho4 hb4))
  go_ret
  exact ⟨_, _, rfl, HF.out⟩
end Go.Proofs.YtjooabgjkjnhhaaGreatDoor


/-! The code's token: the next tag. (Printed by tools/genv24.py.) -/
namespace Go.Proofs.YtjooabgjkjnhhaaGreatDoor
open Go.RowKit
set_option linter.unusedVariables false
set_option linter.unusedSimpArgs false
set_option maxRecDepth 100000

/-- While the next tag is told. -/
structure NXW (w : World) (tg TG CB : List By) (g5 : Nat) (q : Bool) (W : World) : Prop where
  bel : Below w.heap.size w W
  hg : w.heap.size + 2 ≤ g5
  tag : Row W w.heap.size 26 (tg.map B8)
  res : Row W (w.heap.size + 1) 26 (if q then TG.map B8 else zH24)
  bb : Row W g5 102 (CB.map B8)
section
variable {w : World} {tg TG CB : List By} {g5 : Nat} {q : Bool} {W W2 : World}
theorem NXW.keep (h : NXW w tg TG CB g5 q W) (hb : Below W.heap.size W W2) : NXW w tg TG CB g5 q W2 :=
  ⟨h.bel.trans (hb.mono h.bel.size), h.hg, h.tag.below hb h.tag.lt, h.res.below hb h.res.lt, h.bb.below hb h.bb.lt⟩
theorem NXW.drew (h : NXW w tg TG CB g5 q W) : NXW w tg TG CB g5 q W.drew := ⟨h.bel.drew, h.hg, h.tag.drew, h.res.drew, h.bb.drew⟩
theorem NXW.store (h : NXW w tg TG CB g5 false W) (hr : Row W2 (w.heap.size + 1) 26 (TG.map B8)) (hs : SameBut (w.heap.size + 1) W W2) : NXW w tg TG CB g5 true W2 :=
  ⟨hs.below h.bel (by omega), h.hg, h.tag.but hs (by omega), hr, h.bb.but hs (by have := h.hg; omega)⟩
end
structure NX2 (W1 : World) (w : World) (tg TG CB : List By) (g5 : Nat) (L : Nat → Bool) (x8 x9 x10 : Value) (W : World) : Prop where
  x : NXW w tg TG CB g5 (L 3) W
  p0 : L 0 = true → x8 = .slice (some ⟨w.heap.size, 0, none⟩) 32 32
  p1 : L 1 = true → x9 = .slice (some ⟨g5, 0, none⟩) 26 26
  p2 : L 2 = true → x10 = .agg (TG.map B8).toArray
section
variable {W1 : World} {w : World} {tg TG CB : List By} {g5 : Nat} {L : Nat → Bool} {x8 x9 x10 : Value} {W W2 : World}
theorem NX2.s0 (h : NX2 W1 w tg TG CB g5 L x8 x9 x10 W) : NX2 W1 w tg TG CB g5 (upd L 0) (.slice (some ⟨w.heap.size, 0, none⟩) 32 32) x9 x10 W :=
  ⟨h.x, fun _ => rfl, h.p1, h.p2⟩
theorem NX2.s1 (h : NX2 W1 w tg TG CB g5 L x8 x9 x10 W) : NX2 W1 w tg TG CB g5 (upd L 1) x8 (.slice (some ⟨g5, 0, none⟩) 26 26) x10 W :=
  ⟨h.x, h.p0, fun _ => rfl, h.p2⟩
end
@[reducible] def INX2 (W1 : World) (w : World) (tg TG CB : List By) (g5 : Nat) (y0 y1 y2 y3 y4 y5 y6 y7 : Value) : (Nat → Bool) → Act → World → Prop := fun L a W => ∃ x8 x9 x10, a = ⟨#[y0, y1, y2, y3, y4, y5, y6, y7, x8, x9, x10], []⟩ ∧ NX2 W1 w tg TG CB g5 L x8 x9 x10 W
set_option maxHeartbeats 1000000 in
theorem next_any (tg : List By) (ht : tg.length = 32) (c : Cv) (hc : c.ok) (hm : cvMay c = true) (w : World) : Calls Tryz.prog 36 #[.agg (tg.map B8).toArray, dmV c] w fun e w' => e = .returned (.agg ((tag tg (cvB c)).map B8).toArray) ∧ Below w.heap.size w w' := by
  obtain ⟨W1, hW1⟩ : ∃ W1, W1 = (w.alloc (.cells (tg.map B8).toArray 26)).alloc (.cells zH24.toArray 26) := ⟨_, rfl⟩
  have s1 : W1.heap.size = w.heap.size + 2 := by rw [hW1]; simp
  have b1 : Below w.heap.size w W1 := by rw [hW1]; exact ((Below.refl _ _).alloc (Nat.le_refl _) _).alloc (by simp) _
  have r1 : Row W1 w.heap.size 26 (tg.map B8) := by rw [hW1]; exact (Row.at w 26 (tg.map B8) _ _ rfl rfl).alloc _
  have r2 : Row W1 (w.heap.size + 1) 26 zH24 := by rw [hW1]; exact Row.at _ _ _ _ _ (by simp) rfl
  have FB := bytesOf_any c hc hm W1
  have TG32 : Hid ((tag tg (cvB c)).length = 32) := tag_len _ _
  have CB26 : Hid ((cvB c).length = 26) := cvB_len c
  have FM : Hid (∀ q W, NXW w tg (tag tg (cvB c)) (cvB c) W1.heap.size q W → True) := fun _ _ _ => trivial
  have FM : Hid (∀ g5 q W, NXW w tg (tag tg (cvB c)) (cvB c) g5 q W → Calls Tryz.prog 49 #[.slice (some ⟨w.heap.size, 0, none⟩) 32 32, .slice (some ⟨g5, 0, none⟩) 26 26] W fun e w' => e = .returned (.agg ((tag tg (cvB c)).map B8).toArray) ∧ Below W.heap.size W w') := fun g5 q W h => mac_any _ _ 32 32 26 26 tg (cvB c) ht (cvB_len c) W (row_isb h.tag) (row_isb h.bb) (Nat.le_refl _) (Nat.le_refl _) (by omega) (by omega)
  have HX0 : Hid (∀ w2 w4, Below W1.heap.size W1 w2 → SameBut w2.heap.size (w2.alloc (.cells z26.toArray 102)) w4 → Row w4 w2.heap.size 102 ((cvB c).map B8) → NXW w tg (tag tg (cvB c)) (cvB c) w2.heap.size false w4) := fun w2 w4 hb hs hr => by
    have h2 := hb.size
    refine ⟨hs.below ((b1.trans (hb.mono b1.size)).alloc (by omega) _) (by omega), by omega, ?_, ?_, hr⟩
    · exact ((r1.below hb r1.lt).alloc _).but hs (by omega)
    · exact ((r2.below hb r2.lt).alloc _).but hs (by omega)
  clear r1 r2 b1 s1 ht hc hm
  generalize tag tg (cvB c) = TG at *
  generalize cvB c = CB at *
  generalize dmV c = dv at *
  go_enter Tryz.func36, Tryz.ntmps36
  go_upto_region 2 with (first
    | (have hz := hW1; clear hz; refine wpList_at24 hW1 ?_; clear hW1)
    | (go_at_call 41; refine FB.mono ?_; rintro e w2 ⟨rfl, hb2⟩; have HB2 : Hid (Below W1.heap.size W1 w2) := hb2; have HZ : Hid (Row (w2.alloc (.cells z26.toArray 102)) w2.heap.size 102 z26) := Row.at w2 _ _ _ _ rfl rfl; clear FB hb2)
    | (have hz := HZ; clear hz; refine wpList_store_Row rfl 102 _ _ rfl w2.heap.size 102 0 z26 (CB.map B8) HZ.out (by rw [List.length_map, CB26.out]; exact Nat.le_refl _) rfl rfl (by rw [List.length_map, CB26.out]; kernel_rfl) (B8_one _) ?_; intro w4 hr4 hs4; have HX : Hid (NXW w tg TG CB w2.heap.size false w4) := HX0.out w2 w4 HB2.out hs4 (row_whole hr4 (by rw [List.length_map, CB26.out]; exact Nat.le_refl _)); clear hr4 hs4 HZ HX0 HB2))
  try dsimp only [Act.put]
  generalize w2.heap.size = g5 at *
  have FM := FM.out g5
  have FM : Hid (∀ q W, NXW w tg TG CB g5 q W → Calls Tryz.prog 49 #[.slice (some ⟨w.heap.size, 0, none⟩) 32 32, .slice (some ⟨g5, 0, none⟩) 26 26] W fun e w' => e = .returned (.agg (TG.map B8).toArray) ∧ Below W.heap.size W w') := FM
  refine wp_region_inv (INX2 w4 w tg TG CB g5 _ _ _ _ _ _ _ _) (by kernel_rfl) (by kernel_rfl) ⟨_, _, _, rfl, ⟨HX.out.drew, fun k => (by cases k), fun k => (by cases k), fun k => (by cases k)⟩⟩ ?_ ?_
  · refine .cons ?_ (.cons ?_ (.cons ?_ (.cons ?_ .nil)))
    all_goals (rintro L _ W ⟨x8, x9, x10, rfl, hI⟩ hL hd K hK)
    · rw [if_pos (by rfl)]
      go_simp
      exact hK.out _ _ ⟨_, _, _, rfl, { hI with p0 := fun _ => rfl }⟩
    · rw [if_pos (by rfl)]
      go_simp
      exact hK.out _ _ ⟨_, _, _, rfl, { hI with p1 := fun _ => rfl }⟩
    · obtain rfl := hI.p0 (hd 0 (by decide))
      obtain rfl := hI.p1 (hd 1 (by decide))
      rw [if_pos (by rfl)]
      go_simp
      refine (FM.out _ _ hI.x).mono ?_
      rintro e W2 ⟨rfl, hb2⟩
      go_simp
      have hX := hI.x.keep hb2
      exact hK.out _ _ ⟨_, _, _, rfl, { hI with x := hX, p2 := fun _ => rfl }⟩
    · obtain rfl := hI.p2 (hd 2 (by decide))
      have hx0 := hI.x
      rw [hL] at hx0
      refine step_store_Row rfl 26 _ _ rfl (w.heap.size + 1) 26 zH24 (TG.map B8) hx0.res (by rw [List.length_map, TG32.out]; rfl) rfl rfl (by rw [List.length_map, TG32.out]; kernel_rfl) (B8_one _) ?_
      intro W2 hr2 hs2
      have hX := hx0.store hr2 hs2
      exact hK.out _ _ ⟨_, _, _, rfl, { hI with x := hX }⟩
  · rintro L _ W hall ⟨x8, x9, x10, rfl, hI⟩
    obtain rfl := hI.p0 (hall 0 (by decide))
    obtain rfl := hI.p1 (hall 1 (by decide))
    obtain rfl := hI.p2 (hall 2 (by decide))
    have hXe := hI.x
    rw [hall 3 (by decide)] at hXe
    clear hI hall
    try dsimp only
    have q2 : Row W (w.heap.size + 1) 26 (TG.map B8) := hXe.res
    have hb2 := hXe.bel
    clear hXe
    go_wp2
    refine bodyPost_ret_by (results_Row Tryz.results36 _ W (w.heap.size + 1) 26 _ _ rfl q2 Tryz.underlying26 rfl (by rw [List.length_map, TG32.out]; kernel_rfl)) rfl ?_
    exact ⟨rfl, hb2⟩
end Go.Proofs.YtjooabgjkjnhhaaGreatDoor


/-! The code's token: what a caveat asks. -/
namespace Go.Proofs.YtjooabgjkjnhhaaGreatDoor
open Go.RowKit
set_option linter.unusedVariables false
set_option linter.unusedSimpArgs false
set_option maxRecDepth 100000

theorem cvD_key (c : Cv) (h : c.ok) : Tryz.prog.keyLits 2 52 (cvC c) = some (cvL c) := by
  obtain ⟨h1, h2, h3, h4, h5⟩ := h
  unfold Program.keyLits
  simp only [Tryz.underlying52]
  rw [if_pos ⟨by kernel_rfl, by kernel_rfl⟩]
  have k1 := ckey_int h1 0
  have k2 := ckey_int h2 0
  have k3 := ckey_int64 h3 0
  have k4 := ckey_int64 h4 0
  have k5 := ckey_u64 h5 0
  have f1 : Tryz.prog.keyLits 1 3 (((cvC c).drop 0).take (Tryz.prog.cellsOf 3)) = some [.int .i64 c.k] := by rw [show Tryz.prog.cellsOf 3 = 1 by kernel_rfl]; exact k1
  have f2 : Tryz.prog.keyLits 1 3 (((cvC c).drop 1).take (Tryz.prog.cellsOf 3)) = some [.int .i64 c.s] := by rw [show Tryz.prog.cellsOf 3 = 1 by kernel_rfl]; exact k2
  have f3 : Tryz.prog.keyLits 1 2 (((cvC c).drop 2).take (Tryz.prog.cellsOf 2)) = some [.int .i64 c.f] := by rw [show Tryz.prog.cellsOf 2 = 1 by kernel_rfl]; exact k3
  have f4 : Tryz.prog.keyLits 1 2 (((cvC c).drop 3).take (Tryz.prog.cellsOf 2)) = some [.int .i64 c.t] := by rw [show Tryz.prog.cellsOf 2 = 1 by kernel_rfl]; exact k4
  have f5 : Tryz.prog.keyLits 1 48 (((cvC c).drop 4).take (Tryz.prog.cellsOf 48)) = some [.int .u64 (c.z : Int)] := by rw [show Tryz.prog.cellsOf 48 = 1 by kernel_rfl]; exact k5
  simp only [List.mapM_cons, List.mapM_nil, f1, f2, f3, f4, f5, Option.pure_def, Option.bind_eq_bind, Option.bind_some, Option.map_some]
  simp [cvL]
theorem eqD_any (c d : Cv) (hc : c.ok) (hd : d.ok) (r : Bool) (hr0 : r = true ↔ c = d) (w : World) : (Op.equalIn 10000 52 (.agg (cvC c).toArray) (.agg (cvC d).toArray)).run Tryz.prog w = .ok r w := by
  have hf : ∀ c : Cv, (Value.agg (cvC c).toArray).formed Tryz.prog 52 = true := fun c => by
    simp [Value.formed, Tryz.underlying52, show Tryz.prog.cellsOf 52 = 5 by kernel_rfl, cvC]
  have hk : ∀ c : Cv, c.ok → Tryz.prog.keyLits 2 52 (Value.agg (cvC c).toArray).cells.toList = some (cvL c) := fun c h => by simpa [Value.cells] using cvD_key c h
  obtain ⟨q, hr, hiff⟩ := run_equalIn_deep (P := Tryz.prog) 9998 2 52 (by kernel_rfl) w 2 2 _ _ _ _ (hf c) (hf d) (hk c hc) (hk d hd)
  rw [hr]
  congr 1
  rw [Bool.eq_iff_iff, hiff, hr0]
  exact ⟨cvL_inj, fun h => by rw [h]⟩
theorem ok5 {k s f t : Int} {z : Nat} (h1 : -9223372036854775808 ≤ k ∧ k < 9223372036854775808) (h2 : -9223372036854775808 ≤ s ∧ s < 9223372036854775808) (h3 : -9223372036854775808 ≤ f ∧ f < 9223372036854775808) (h4 : -9223372036854775808 ≤ t ∧ t < 9223372036854775808) (h5 : z < 18446744073709551616) : (⟨k, s, f, t, z⟩ : Cv).ok := ⟨h1, h2, h3, h4, h5⟩
theorem zok : -9223372036854775808 ≤ (0 : Int) ∧ (0 : Int) < 9223372036854775808 := by omega
set_option maxHeartbeats 1000000 in
theorem dem1_any (s f t : Int) (z : Nat) (hc : (⟨1, s, f, t, z⟩ : Cv).ok) (w : World) : Calls Tryz.prog 35 #[.agg #[.int .i64 1, .int .i64 s, .int .i64 f, .int .i64 t, .int .u64 (z : Int)]] w (fun e w' => e = .returned (.tuple #[if cvMay ⟨1, s, f, t, z⟩ = true then .iface 116 (.agg #[.int .i64 s]) else .nilIface, .bool (cvMay ⟨1, s, f, t, z⟩)]) ∧ Below w.heap.size w w') := by
  obtain ⟨r, hr, hm⟩ := cvMay_dm ⟨1, s, f, t, z⟩ (by show (1 : Int) ≤ 1; omega) (by show (1 : Int) ≤ 5; omega)
  have EQ : ∀ W, (Op.equalIn 10000 52 (.agg #[.int .i64 1, .int .i64 s, .int .i64 f, .int .i64 t, .int .u64 (z : Int)]) (.agg #[.int .i64 1, .int .i64 s, .int .i64 0, .int .i64 0, .int .u64 0])).run Tryz.prog W = .ok r W := fun W => eqD_any ⟨1, s, f, t, z⟩ ⟨1, s, 0, 0, 0⟩ hc (ok5 hc.1 hc.2.1 zok zok (by omega)) r hr W
  have ME : ∀ W, Sem.run Tryz.prog (method 343 116 (.agg #[.int .i64 s]) "portcullis/token.may") W = .ok (111, .agg #[.int .i64 s]) W := fun W => by kernel_rfl
  obtain ⟨q, hq⟩ : ∃ q, q = dmMay ⟨1, s, f, t, z⟩ := ⟨_, rfl⟩
  rw [← hq] at hm
  have FC : Hid (∀ W, Calls Tryz.prog 111 #[.agg #[.int .i64 s]] W fun e w' => e = .returned (.bool q) ∧ Below W.heap.size W w') := fun W => by rw [hq]; exact slMay_any s W
  rw [hm]
  clear hm hq hr hc
  have HB : Hid (∀ W a b, ((w.alloc a).alloc b).drew = W → Below w.heap.size w W) := fun W a b h => by rw [← h]; exact (((Below.refl _ _).alloc (Nat.le_refl _) _).alloc (by simp) _).drew
  have HC : Hid (∀ W a b, Below ((w.alloc a).alloc b).drew.heap.size ((w.alloc a).alloc b).drew W → Below w.heap.size w W) := fun W a b h => (HB.out _ a b rfl).trans (h.mono (HB.out _ a b rfl).size)
  go_enter Tryz.func35, Tryz.ntmps35
  go_wp2
  go_region
  cases r
  · go_wp2
    go_ret2
    exact ⟨rfl, HB.out _ _ _ rfl⟩
  · cases q
    all_goals
      go_wp2_with (go_at_call 111; refine (FC.out _).mono ?_; rintro e w2 ⟨rfl, hb2⟩; have HF : Hid (Below w.heap.size w w2) := HC.out _ _ _ hb2; clear hb2)
      go_ret2
      exact ⟨rfl, HF.out⟩
set_option maxHeartbeats 1000000 in
theorem dem2_any (s f t : Int) (z : Nat) (hc : (⟨2, s, f, t, z⟩ : Cv).ok) (w : World) : Calls Tryz.prog 35 #[.agg #[.int .i64 2, .int .i64 s, .int .i64 f, .int .i64 t, .int .u64 (z : Int)]] w (fun e w' => e = .returned (.tuple #[if cvMay ⟨2, s, f, t, z⟩ = true then .iface 118 (.agg #[.int .i64 f, .int .i64 t]) else .nilIface, .bool (cvMay ⟨2, s, f, t, z⟩)]) ∧ Below w.heap.size w w') := by
  obtain ⟨r, hr, hm⟩ := cvMay_dm ⟨2, s, f, t, z⟩ (by show (1 : Int) ≤ 2; omega) (by show (2 : Int) ≤ 5; omega)
  have EQ : ∀ W, (Op.equalIn 10000 52 (.agg #[.int .i64 2, .int .i64 s, .int .i64 f, .int .i64 t, .int .u64 (z : Int)]) (.agg #[.int .i64 2, .int .i64 0, .int .i64 f, .int .i64 t, .int .u64 0])).run Tryz.prog W = .ok r W := fun W => eqD_any ⟨2, s, f, t, z⟩ ⟨2, 0, f, t, 0⟩ hc (ok5 hc.1 zok hc.2.2.1 hc.2.2.2.1 (by omega)) r hr W
  have ME : ∀ W, Sem.run Tryz.prog (method 343 118 (.agg #[.int .i64 f, .int .i64 t]) "portcullis/token.may") W = .ok (114, .agg #[.int .i64 f, .int .i64 t]) W := fun W => by kernel_rfl
  obtain ⟨q, hq⟩ : ∃ q, q = dmMay ⟨2, s, f, t, z⟩ := ⟨_, rfl⟩
  rw [← hq] at hm
  have FC : Hid (∀ W, Calls Tryz.prog 114 #[.agg #[.int .i64 f, .int .i64 t]] W fun e w' => e = .returned (.bool q) ∧ Below W.heap.size W w') := fun W => by rw [hq]; exact veMay_any f t W
  rw [hm]
  clear hm hq hr hc
  have HB : Hid (∀ W a b, ((w.alloc a).alloc b).drew = W → Below w.heap.size w W) := fun W a b h => by rw [← h]; exact (((Below.refl _ _).alloc (Nat.le_refl _) _).alloc (by simp) _).drew
  have HC : Hid (∀ W a b, Below ((w.alloc a).alloc b).drew.heap.size ((w.alloc a).alloc b).drew W → Below w.heap.size w W) := fun W a b h => (HB.out _ a b rfl).trans (h.mono (HB.out _ a b rfl).size)
  go_enter Tryz.func35, Tryz.ntmps35
  go_wp2
  go_region
  cases r
  · go_wp2
    go_ret2
    exact ⟨rfl, HB.out _ _ _ rfl⟩
  · cases q
    all_goals
      go_wp2_with (go_at_call 114; refine (FC.out _).mono ?_; rintro e w2 ⟨rfl, hb2⟩; have HF : Hid (Below w.heap.size w w2) := HC.out _ _ _ hb2; clear hb2)
      go_ret2
      exact ⟨rfl, HF.out⟩
set_option maxHeartbeats 1000000 in
theorem dem3_any (s f t : Int) (z : Nat) (hc : (⟨3, s, f, t, z⟩ : Cv).ok) (w : World) : Calls Tryz.prog 35 #[.agg #[.int .i64 3, .int .i64 s, .int .i64 f, .int .i64 t, .int .u64 (z : Int)]] w (fun e w' => e = .returned (.tuple #[if cvMay ⟨3, s, f, t, z⟩ = true then .iface 120 (.agg #[.int .u64 (z : Int)]) else .nilIface, .bool (cvMay ⟨3, s, f, t, z⟩)]) ∧ Below w.heap.size w w') := by
  obtain ⟨r, hr, hm⟩ := cvMay_dm ⟨3, s, f, t, z⟩ (by show (1 : Int) ≤ 3; omega) (by show (3 : Int) ≤ 5; omega)
  have EQ : ∀ W, (Op.equalIn 10000 52 (.agg #[.int .i64 3, .int .i64 s, .int .i64 f, .int .i64 t, .int .u64 (z : Int)]) (.agg #[.int .i64 3, .int .i64 0, .int .i64 0, .int .i64 0, .int .u64 (z : Int)])).run Tryz.prog W = .ok r W := fun W => eqD_any ⟨3, s, f, t, z⟩ ⟨3, 0, 0, 0, z⟩ hc (ok5 hc.1 zok zok zok hc.2.2.2.2) r hr W
  have ME : ∀ W, Sem.run Tryz.prog (method 343 120 (.agg #[.int .u64 (z : Int)]) "portcullis/token.may") W = .ok (116, .agg #[.int .u64 (z : Int)]) W := fun W => by kernel_rfl
  obtain ⟨q, hq⟩ : ∃ q, q = dmMay ⟨3, s, f, t, z⟩ := ⟨_, rfl⟩
  rw [← hq] at hm
  have FC : Hid (∀ W, Calls Tryz.prog 116 #[.agg #[.int .u64 (z : Int)]] W fun e w' => e = .returned (.bool q) ∧ Below W.heap.size W w') := fun W => by rw [hq]; exact kiMay_any z hc.2.2.2.2 W
  rw [hm]
  clear hm hq hr hc
  have HB : Hid (∀ W a b, ((w.alloc a).alloc b).drew = W → Below w.heap.size w W) := fun W a b h => by rw [← h]; exact (((Below.refl _ _).alloc (Nat.le_refl _) _).alloc (by simp) _).drew
  have HC : Hid (∀ W a b, Below ((w.alloc a).alloc b).drew.heap.size ((w.alloc a).alloc b).drew W → Below w.heap.size w W) := fun W a b h => (HB.out _ a b rfl).trans (h.mono (HB.out _ a b rfl).size)
  go_enter Tryz.func35, Tryz.ntmps35
  go_wp2
  go_region
  cases r
  · go_wp2
    go_ret2
    exact ⟨rfl, HB.out _ _ _ rfl⟩
  · cases q
    all_goals
      go_wp2_with (go_at_call 116; refine (FC.out _).mono ?_; rintro e w2 ⟨rfl, hb2⟩; have HF : Hid (Below w.heap.size w w2) := HC.out _ _ _ hb2; clear hb2)
      go_ret2
      exact ⟨rfl, HF.out⟩
set_option maxHeartbeats 1000000 in
theorem dem4_any (s f t : Int) (z : Nat) (hc : (⟨4, s, f, t, z⟩ : Cv).ok) (w : World) : Calls Tryz.prog 35 #[.agg #[.int .i64 4, .int .i64 s, .int .i64 f, .int .i64 t, .int .u64 (z : Int)]] w (fun e w' => e = .returned (.tuple #[if cvMay ⟨4, s, f, t, z⟩ = true then .iface 122 (.agg #[.int .i64 s, .int .i64 f]) else .nilIface, .bool (cvMay ⟨4, s, f, t, z⟩)]) ∧ Below w.heap.size w w') := by
  obtain ⟨r, hr, hm⟩ := cvMay_dm ⟨4, s, f, t, z⟩ (by show (1 : Int) ≤ 4; omega) (by show (4 : Int) ≤ 5; omega)
  have EQ : ∀ W, (Op.equalIn 10000 52 (.agg #[.int .i64 4, .int .i64 s, .int .i64 f, .int .i64 t, .int .u64 (z : Int)]) (.agg #[.int .i64 4, .int .i64 s, .int .i64 f, .int .i64 0, .int .u64 0])).run Tryz.prog W = .ok r W := fun W => eqD_any ⟨4, s, f, t, z⟩ ⟨4, s, f, 0, 0⟩ hc (ok5 hc.1 hc.2.1 hc.2.2.1 zok (by omega)) r hr W
  have ME : ∀ W, Sem.run Tryz.prog (method 343 122 (.agg #[.int .i64 s, .int .i64 f]) "portcullis/token.may") W = .ok (118, .agg #[.int .i64 s, .int .i64 f]) W := fun W => by kernel_rfl
  obtain ⟨q, hq⟩ : ∃ q, q = dmMay ⟨4, s, f, t, z⟩ := ⟨_, rfl⟩
  rw [← hq] at hm
  have FC : Hid (∀ W, Calls Tryz.prog 118 #[.agg #[.int .i64 s, .int .i64 f]] W fun e w' => e = .returned (.bool q) ∧ Below W.heap.size W w') := fun W => by rw [hq]; exact leMay_any s f W
  rw [hm]
  clear hm hq hr hc
  have HB : Hid (∀ W a b, ((w.alloc a).alloc b).drew = W → Below w.heap.size w W) := fun W a b h => by rw [← h]; exact (((Below.refl _ _).alloc (Nat.le_refl _) _).alloc (by simp) _).drew
  have HC : Hid (∀ W a b, Below ((w.alloc a).alloc b).drew.heap.size ((w.alloc a).alloc b).drew W → Below w.heap.size w W) := fun W a b h => (HB.out _ a b rfl).trans (h.mono (HB.out _ a b rfl).size)
  go_enter Tryz.func35, Tryz.ntmps35
  go_wp2
  go_region
  cases r
  · go_wp2
    go_ret2
    exact ⟨rfl, HB.out _ _ _ rfl⟩
  · cases q
    all_goals
      go_wp2_with (go_at_call 118; refine (FC.out _).mono ?_; rintro e w2 ⟨rfl, hb2⟩; have HF : Hid (Below w.heap.size w w2) := HC.out _ _ _ hb2; clear hb2)
      go_ret2
      exact ⟨rfl, HF.out⟩
set_option maxHeartbeats 1000000 in
theorem dem5_any (s f t : Int) (z : Nat) (hc : (⟨5, s, f, t, z⟩ : Cv).ok) (w : World) : Calls Tryz.prog 35 #[.agg #[.int .i64 5, .int .i64 s, .int .i64 f, .int .i64 t, .int .u64 (z : Int)]] w (fun e w' => e = .returned (.tuple #[if cvMay ⟨5, s, f, t, z⟩ = true then .iface 124 (.agg #[.int .i64 s, .int .i64 t]) else .nilIface, .bool (cvMay ⟨5, s, f, t, z⟩)]) ∧ Below w.heap.size w w') := by
  obtain ⟨r, hr, hm⟩ := cvMay_dm ⟨5, s, f, t, z⟩ (by show (1 : Int) ≤ 5; omega) (by show (5 : Int) ≤ 5; omega)
  have EQ : ∀ W, (Op.equalIn 10000 52 (.agg #[.int .i64 5, .int .i64 s, .int .i64 f, .int .i64 t, .int .u64 (z : Int)]) (.agg #[.int .i64 5, .int .i64 s, .int .i64 0, .int .i64 t, .int .u64 0])).run Tryz.prog W = .ok r W := fun W => eqD_any ⟨5, s, f, t, z⟩ ⟨5, s, 0, t, 0⟩ hc (ok5 hc.1 hc.2.1 zok hc.2.2.2.1 (by omega)) r hr W
  have ME : ∀ W, Sem.run Tryz.prog (method 343 124 (.agg #[.int .i64 s, .int .i64 t]) "portcullis/token.may") W = .ok (121, .agg #[.int .i64 s, .int .i64 t]) W := fun W => by kernel_rfl
  obtain ⟨q, hq⟩ : ∃ q, q = dmMay ⟨5, s, f, t, z⟩ := ⟨_, rfl⟩
  rw [← hq] at hm
  have FC : Hid (∀ W, Calls Tryz.prog 121 #[.agg #[.int .i64 s, .int .i64 t]] W fun e w' => e = .returned (.bool q) ∧ Below W.heap.size W w') := fun W => by rw [hq]; exact moMay_any s t W
  rw [hm]
  clear hm hq hr hc
  have HB : Hid (∀ W a b, ((w.alloc a).alloc b).drew = W → Below w.heap.size w W) := fun W a b h => by rw [← h]; exact (((Below.refl _ _).alloc (Nat.le_refl _) _).alloc (by simp) _).drew
  have HC : Hid (∀ W a b, Below ((w.alloc a).alloc b).drew.heap.size ((w.alloc a).alloc b).drew W → Below w.heap.size w W) := fun W a b h => (HB.out _ a b rfl).trans (h.mono (HB.out _ a b rfl).size)
  go_enter Tryz.func35, Tryz.ntmps35
  go_wp2
  go_region
  cases r
  · go_wp2
    go_ret2
    exact ⟨rfl, HB.out _ _ _ rfl⟩
  · cases q
    all_goals
      go_wp2_with (go_at_call 121; refine (FC.out _).mono ?_; rintro e w2 ⟨rfl, hb2⟩; have HF : Hid (Below w.heap.size w w2) := HC.out _ _ _ hb2; clear hb2)
      go_ret2
      exact ⟨rfl, HF.out⟩
set_option maxHeartbeats 1000000 in
theorem dem0_any (k s f t : Int) (z : Nat) (h0 : ¬ (1 ≤ k ∧ k ≤ 5)) (w : World) : Calls Tryz.prog 35 #[.agg #[.int .i64 k, .int .i64 s, .int .i64 f, .int .i64 t, .int .u64 (z : Int)]] w fun e w' => e = .returned (.tuple #[.nilIface, .bool false]) ∧ Below w.heap.size w w' := by
  have y1 : (k == 1) = false := by rw [beq_eq_false_iff_ne]; omega
  have y2 : (k == 2) = false := by rw [beq_eq_false_iff_ne]; omega
  have y3 : (k == 3) = false := by rw [beq_eq_false_iff_ne]; omega
  have y4 : (k == 4) = false := by rw [beq_eq_false_iff_ne]; omega
  have y5 : (k == 5) = false := by rw [beq_eq_false_iff_ne]; omega
  clear h0
  have HB : Hid (∀ W a b, ((w.alloc a).alloc b) = W → Below w.heap.size w W) := fun W a b h => by rw [← h]; exact ((Below.refl _ _).alloc (Nat.le_refl _) _).alloc (by simp) _
  go_enter Tryz.func35, Tryz.ntmps35
  go_wp2
  go_ret2
  exact ⟨rfl, HB.out _ _ _ rfl⟩
/-- What a caveat asks, or that it may not be. -/
theorem dem_any (c : Cv) (hc : c.ok) (w : World) : Calls Tryz.prog 35 #[.agg (cvC c).toArray] w fun e w' => e = .returned (.tuple #[if cvMay c = true then dmV c else .nilIface, .bool (cvMay c)]) ∧ Below w.heap.size w w' := by
  obtain ⟨k, s, f, t, z⟩ := c
  by_cases h1 : k = 1
  · subst h1; exact dem1_any s f t z hc w
  by_cases h2 : k = 2
  · subst h2; exact dem2_any s f t z hc w
  by_cases h3 : k = 3
  · subst h3; exact dem3_any s f t z hc w
  by_cases h4 : k = 4
  · subst h4; exact dem4_any s f t z hc w
  by_cases h5 : k = 5
  · subst h5; exact dem5_any s f t z hc w
  have h0 : ¬ (1 ≤ k ∧ k ≤ 5) := by omega
  rw [cvMay_k (c := ⟨k, s, f, t, z⟩) h0]
  exact dem0_any k s f t z h0 w
end Go.Proofs.YtjooabgjkjnhhaaGreatDoor
