
import Derived.Test.YthegfkcegmeklaaH16Rf
import Derived.Test.YthegfkcegmeklaaH16StA
import Derived.Test.YthegfkcegmeklaaH16C4
/-! The code's iterator, and its register. (Printed by tools/genit16.py.) -/
namespace Go.Proofs.Ythegfkcegmeklaa
open Go.RowKit
set_option linter.unusedVariables false
theorem inN_load {F : Fence} {n : Nat} {ops : Array Oper} {rest : List Oper} {op : Oper} {a : Act} {w : World} {Q : Exit → Act → World → Prop} (hF : ∀ f, F.fn f) (hro : F.round = none) (hgd : op.guard = none) (ty : TypeId) (x : Operand) (ho : op.op = .load ty x)
    (b o : Nat) (hx : a.eval x = .pointer (some ⟨b, o, none⟩)) (cs : List Value) (d : TypeDesc) (hc : w.rangeAt b o cs) (hu : Try.prog.underlying ty = some d) (hd : d.isRow = true) (hi : (Try.prog.info? ty).map (·.size) = some cs.length)
    (h : wpListIn F n Try.prog ops Q rest (a.put op.dst (.agg cs.toArray)) w) : wpListIn F n Try.prog ops Q (op :: rest) a w :=
  wpListIn_plain hgd fun K hK => by
    refine ⟨fun f _ => hF f, ?_⟩
    rw [hro, Oper.semAt_eq _ _ _ (fun c h => by rw [ho] at h; cases h)]
    unfold execOp
    simp only [ho, hx, Instr.loadAt, Instr.sureAddr, Sem.run_bind, Sem.run_pure, Result.andThen_ok, run_loadVar_mid w b o ty cs d hc hu hd hi]
    exact hK _ _ h
def G4 (PW QW : World → Prop) (l0 l4 : Bool) (W : World) : Prop := (l4 = true → l0 = true) ∧ PQ PW QW l4 W

structure I4 (W1 : World) (PW QW : World → Prop) (RC MC AC NC : List Value) (L : Nat → Bool) (x12 x13 x14 x15 : Value) (W : World) : Prop where
  x : G4 PW QW (L 0) (L 4) W
  p0 : L 0 = true → x12 = .agg RC.toArray
  p1 : L 1 = true → x13 = .agg AC.toArray
  p2 : L 2 = true → x14 = .agg MC.toArray
  p3 : L 3 = true → x15 = .agg NC.toArray
  c3_0 : L 3 = true → L 0 = true
section
variable {W1 : World} {PW QW : World → Prop} {RC MC AC NC : List Value} {L : Nat → Bool} {x12 x13 x14 x15 : Value} {W W2 : World}
theorem I4.s0 (h : I4 W1 PW QW RC MC AC NC L x12 x13 x14 x15 W) (hX : G4 PW QW ((upd L 0) 0) ((upd L 0) 4) W2) : I4 W1 PW QW RC MC AC NC (upd L 0) (.agg RC.toArray) x13 x14 x15 W2 :=
  ⟨hX, fun _ => rfl, h.p1, h.p2, h.p3, fun _ => rfl⟩
theorem I4.s1 (h : I4 W1 PW QW RC MC AC NC L x12 x13 x14 x15 W) : I4 W1 PW QW RC MC AC NC (upd L 1) x12 (.agg AC.toArray) x14 x15 W :=
  ⟨h.x, h.p0, fun _ => rfl, h.p2, h.p3, h.c3_0⟩
theorem I4.s2 (h : I4 W1 PW QW RC MC AC NC L x12 x13 x14 x15 W) (hX : G4 PW QW ((upd L 2) 0) ((upd L 2) 4) W2) : I4 W1 PW QW RC MC AC NC (upd L 2) x12 x13 (.agg MC.toArray) x15 W2 :=
  ⟨hX, h.p0, h.p1, fun _ => rfl, h.p3, h.c3_0⟩
theorem I4.s3 (h : I4 W1 PW QW RC MC AC NC L x12 x13 x14 x15 W) (hX : G4 PW QW ((upd L 3) 0) ((upd L 3) 4) W2) (hc0 : L 0 = true) : I4 W1 PW QW RC MC AC NC (upd L 3) x12 x13 x14 (.agg NC.toArray) W2 :=
  ⟨hX, h.p0, h.p1, h.p2, fun _ => rfl, fun _ => hc0⟩
theorem I4.s4 (h : I4 W1 PW QW RC MC AC NC L x12 x13 x14 x15 W) (hX : G4 PW QW ((upd L 4) 0) ((upd L 4) 4) W2) : I4 W1 PW QW RC MC AC NC (upd L 4) x12 x13 x14 x15 W2 :=
  ⟨hX, h.p0, h.p1, h.p2, h.p3, h.c3_0⟩
end
@[reducible] def II4 (W1 : World) (PW QW : World → Prop) (RC MC AC NC : List Value) (y0 y1 y2 y3 y4 y5 y6 y7 y8 y9 y10 y11 y16 y17 y18 y19 y20 y21 : Value) : (Nat → Bool) → Act → World → Prop := fun L a W => ∃ x12 x13 x14 x15, a = ⟨#[y0, y1, y2, y3, y4, y5, y6, y7, y8, y9, y10, y11, x12, x13, x14, x15, y16, y17, y18, y19, y20, y21], []⟩ ∧ I4 W1 PW QW RC MC AC NC L x12 x13 x14 x15 W
theorem I4.step {W1 : World} {PW QW : World → Prop} {RC MC AC NC : List Value} {y0 y1 y2 y3 y4 y5 y6 y7 y8 y9 y10 y11 y16 y17 y18 y19 y20 y21 : Value} {P : Program} {ops : Array Oper} {Q : Exit → Act → World → Prop} {i : Nat} {o : Oper} (hq : ∀ x12 x13 x14 x15 (L : Nat → Bool) (W : World), I4 W1 PW QW RC MC AC NC L x12 x13 x14 x15 W → L i = false → (∀ j ∈ onesOf o, L j = true) → ∀ K : Act → World → Prop, Shut (∀ a' w', II4 W1 PW QW RC MC AC NC y0 y1 y2 y3 y4 y5 y6 y7 y8 y9 y10 y11 y16 y17 y18 y19 y20 y21 (upd L i) a' w' → K a' w') → if Region.wanted o (yielded ops (⟨#[y0, y1, y2, y3, y4, y5, y6, y7, y8, y9, y10, y11, x12, x13, x14, x15, y16, y17, y18, y19, y20, y21], []⟩ : Act).tmps) = true then Oper.wp P o ⟨#[y0, y1, y2, y3, y4, y5, y6, y7, y8, y9, y10, y11, x12, x13, x14, x15, y16, y17, y18, y19, y20, y21], []⟩ W K Q else K ((⟨#[y0, y1, y2, y3, y4, y5, y6, y7, y8, y9, y10, y11, x12, x13, x14, x15, y16, y17, y18, y19, y20, y21], []⟩ : Act).put o.dst undef) W) : StepI P ops (II4 W1 PW QW RC MC AC NC y0 y1 y2 y3 y4 y5 y6 y7 y8 y9 y10 y11 y16 y17 y18 y19 y20 y21) Q i o := by
  rintro L a W ⟨x12, x13, x14, x15, rfl, h⟩
  exact hq _ _ _ _ _ _ h
theorem I4.ends {W1 : World} {PW QW : World → Prop} {RC MC AC NC : List Value} {y0 y1 y2 y3 y4 y5 y6 y7 y8 y9 y10 y11 y16 y17 y18 y19 y20 y21 : Value} {mm_ : Nat} {Q : Exit → Act → World → Prop} (hq : ∀ x12 x13 x14 x15 (L : Nat → Bool) (W : World), (∀ j, j < mm_ → L j = true) → I4 W1 PW QW RC MC AC NC L x12 x13 x14 x15 W → Q .normal ⟨#[y0, y1, y2, y3, y4, y5, y6, y7, y8, y9, y10, y11, x12, x13, x14, x15, y16, y17, y18, y19, y20, y21], []⟩ W) : ∀ L a' w', (∀ j, j < mm_ → L j = true) → II4 W1 PW QW RC MC AC NC y0 y1 y2 y3 y4 y5 y6 y7 y8 y9 y10 y11 y16 y17 y18 y19 y20 y21 L a' w' → Q .normal a' w' := by
  rintro L a W hall ⟨x12, x13, x14, x15, rfl, h⟩
  exact hq _ _ _ _ _ _ hall h
set_option maxHeartbeats 2000000 in
set_option maxRecDepth 100000 in
theorem citer (EX : ∀ (r x : List By), r.length = 32 → x.length = 32 → ∀ w, Calls Try.prog 17 #[.agg (r.map B8).toArray, .agg (x.map B8).toArray] w fun e w' => e = .returned (.agg ((extend r x).map B8).toArray) ∧ Below w.heap.size w w')
    (ME : ∀ (x : EvV), EvOk x → ∀ w, Calls Try.prog 19 #[.agg (evC x).toArray] w fun e w' => e = .returned (.agg ((measure x).map B8).toArray) ∧ Below w.heap.size w w')
    (l E : Nat) (ao : Option Addr) (n cap B off : Nat) (xs : List EvV) (hn : xs.length = n) (hn47 : n ≤ 140737488355328) (hao : 0 < n → ao = some ⟨B, off, none⟩) (W0 : World) (J : Nat → World → Prop) (hY : Yld l W0.heap.size J xs) (hJ : ∀ i W W', J i W → Below W0.heap.size W W' → J i W')
    (hC : W0.cell? ⟨E, 0, none⟩ = some (.slice ao n cap)) (hE : ∀ i W, J i W → W0.heap.size ≤ W.heap.size ∧ EvIn W B off xs) (h0 : J 0 W0) :
    Calls Try.prog 54 #[.func (.yield l) #[] #[], .pointer (some ⟨E, 0, none⟩)] W0 fun e W' => (∃ v, e = .returned v) ∧ J n W' := by
  have HY : Hid (Yld l W0.heap.size J xs) := hY
  have HJ : Hid (∀ i W W', J i W → Below W0.heap.size W W' → J i W') := hJ
  have HE : Hid (∀ i W, J i W → W0.heap.size ≤ W.heap.size ∧ EvIn W B off xs) := hE
  have HX : Hid (xs.length = n) := hn
  have HAO : Hid (0 < n → ao = some ⟨B, off, none⟩) := hao
  have HEX : Hid (∀ (r x : List By), r.length = 32 → x.length = 32 → ∀ w, Calls Try.prog 17 #[.agg (r.map B8).toArray, .agg (x.map B8).toArray] w fun e w' => e = .returned (.agg ((extend r x).map B8).toArray) ∧ Below w.heap.size w w') := EX
  have HME : Hid (∀ (x : EvV), EvOk x → ∀ w, Calls Try.prog 19 #[.agg (evC x).toArray] w fun e w' => e = .returned (.agg ((measure x).map B8).toArray) ∧ Below w.heap.size w w') := ME
  have he : (W0.alloc (.cells #[.int .u8 0, .int .u8 0, .int .u8 0, .int .u8 0, .int .u8 0, .int .u8 0, .int .u8 0, .int .u8 0, .int .u8 0, .int .u8 0, .int .u8 0, .int .u8 0, .int .u8 0, .int .u8 0, .int .u8 0, .int .u8 0, .int .u8 0, .int .u8 0, .int .u8 0, .int .u8 0, .int .u8 0, .int .u8 0, .int .u8 0, .int .u8 0, .int .u8 0, .int .u8 0, .int .u8 0, .int .u8 0, .int .u8 0, .int .u8 0, .int .u8 0, .int .u8 0] 32)).cell? ⟨E, 0, none⟩ = some (.slice ao n cap) := (((Below.refl W0.heap.size W0).alloc (Nat.le_refl _) _).cell (cell_lt hC)).trans hC
  have HS : Hid (J 0 (W0.alloc (.cells z32.toArray 32)) ∧ Row (W0.alloc (.cells z32.toArray 32)) W0.heap.size 32 ((reg (xs.take 0)).map B8)) := ⟨HJ.out 0 _ _ h0 ((Below.refl _ _).alloc (Nat.le_refl _) _), Row.at W0 _ _ _ _ rfl rfl⟩
  clear hY hJ hE h0 hn hao EX ME hC
  go_enter Try.func54, Try.ntmps54
  go_wp2
  clear he
  go_loopw [8] (fun iv wr => ∃ i : Nat, i ≤ n ∧ iv = .int .i64 i ∧ Hid (J i wr ∧ Row wr W0.heap.size 32 ((reg (xs.take i)).map B8))) (fun iv _ => n - (intOf iv).toNat)
  case atStart => exact ⟨0, by omega, rfl, HS.out⟩
  case round =>
    clear HS
    obtain ⟨i, hi, rfl, HI⟩ := hrel
    by_cases hlt : i < n
    · have y0 : (0 : Int) ≤ (i : Int) := by omega
      have y1 : (i : Int) < (n : Int) := by omega
      obtain ⟨x, hx⟩ : ∃ x, xs[i]? = some x := ⟨_, List.getElem?_eq_getElem (by rw [HX.out]; exact hlt)⟩
      have ha := HAO.out (by omega)
      subst ha
      have hok : EvOk x := (HE.out i _ HI.out.1).2.ok i x hx
      have hrg := (HE.out i _ HI.out.1).2.cells i x hx
      have hzz := (HE.out i _ HI.out.1).1
      have lA := evC_len hok
      have oA : Hid (∀ v ∈ evC x, v.oneCell' = true) := evC_one x
      obtain ⟨G, hG⟩ : ∃ G, G = wr.heap.size := ⟨_, rfl⟩
      obtain ⟨PW, hPW⟩ : ∃ PW : World → Prop, PW = fun W => J i W ∧ Row W W0.heap.size 32 ((reg (xs.take i)).map B8) ∧ Row W G 35 (evC x) := ⟨_, rfl⟩
      obtain ⟨QW, hQW⟩ : ∃ QW : World → Prop, QW = fun W => J i W ∧ Row W W0.heap.size 32 ((reg (xs.take (i + 1))).map B8) ∧ Row W G 35 (evC x) := ⟨_, rfl⟩
      have hne : G ≠ W0.heap.size := by have := HI.out.2.lt; omega
      have hrx : reg (xs.take (i + 1)) = extend (reg (xs.take i)) (measure x) := by rw [take_one hx]; exact reg_push _ _
      have P0 : Hid (∀ W, Row W G 35 (evC x) → SameBut G (wr.alloc (.cells (z32 ++ [Value.int .i64 0]).toArray 35)) W → PW W) := by
        rw [hPW]
        intro W hr hs
        have hb : Below wr.heap.size wr W := hs.below ((Below.refl _ _).alloc (Nat.le_refl _) _) (by omega)
        exact ⟨HJ.out i _ _ HI.out.1 (hb.mono hzz), HI.out.2.below hb HI.out.2.lt, hr⟩
      have DR : Hid (∀ W, PW W → PW W.drew) := by rw [hPW]; exact fun W h => ⟨HJ.out i _ _ h.1 (Below.refl _ _).drew, h.2⟩
      have RE : Hid (∀ lb W, PQ PW QW lb W → Row W G 35 (evC x)) := by
        rw [hPW, hQW]
        exact fun lb W h => h.both (fun h => h.2.2) (fun h => h.2.2)
      have RP : Hid (∀ W, PW W → Row W W0.heap.size 32 ((reg (xs.take i)).map B8)) := by rw [hPW]; exact fun W h => h.2.1
      have BQ : Hid (∀ lb W W', PQ PW QW lb W → Below W.heap.size W W' → PQ PW QW lb W') := by
        rw [hPW, hQW]
        intro lb W W' h hb
        cases lb with
        | true =>
          have h : J i W ∧ _ ∧ _ := h
          have hz := h.2.1.lt
          exact (⟨HJ.out i _ _ h.1 (hb.mono (by omega)), h.2.1.below hb h.2.1.lt, h.2.2.below hb h.2.2.lt⟩ : J i W' ∧ _ ∧ _)
        | false =>
          have h : J i W ∧ _ ∧ _ := h
          have hz := h.2.1.lt
          exact (⟨HJ.out i _ _ h.1 (hb.mono (by omega)), h.2.1.below hb h.2.1.lt, h.2.2.below hb h.2.2.lt⟩ : J i W' ∧ _ ∧ _)
      have SQ : Hid (∀ W W', PW W → Row W' W0.heap.size 32 ((reg (xs.take (i + 1))).map B8) → SameBut W0.heap.size W W' → QW W') := by
        rw [hPW, hQW]
        exact fun W W' h hr hs => ⟨HJ.out i _ _ h.1 ⟨hs.os, hs.tape, hs.output, by rw [hs.size]; exact Nat.le_refl _, fun k hk => hs.block k (by omega)⟩, hr, h.2.2.but hs hne⟩
      have QO : Hid (∀ W, QW W → J i W ∧ Row W W0.heap.size 32 ((reg (xs.take (i + 1))).map B8) ∧ Row W G 35 (evC x)) := by rw [hQW]; exact fun W h => h
      have MX : Hid (∀ W, Calls Try.prog 19 #[.agg (evC x).toArray] W fun e w' => e = .returned (.agg ((measure x).map B8).toArray) ∧ Below W.heap.size W w') := fun W => HME.out x hok W
      have XX : Hid (∀ W, Calls Try.prog 17 #[.agg ((reg (xs.take i)).map B8).toArray, .agg ((measure x).map B8).toArray] W fun e w' => e = .returned (.agg ((reg (xs.take (i + 1))).map B8).toArray) ∧ Below W.heap.size W w') := fun W => by rw [hrx]; exact HEX.out _ _ (reg_len _) (shaLen _) W
      have lR : ((reg (xs.take i)).map B8).length = 32 := by rw [List.length_map]; exact reg_len _
      have lN : ((reg (xs.take (i + 1))).map B8).length = 32 := by rw [List.length_map]; exact reg_len _
      have oN : Hid (∀ v ∈ (reg (xs.take (i + 1))).map B8, v.oneCell' = true) := B8_one _
      have YY : Hid (∀ W, J i W → ∃ fn tmps ca cb, (Instr.yield l #[.agg (evC x).toArray, .agg ((reg (xs.take (i + 1))).map B8).toArray]).run Try.prog W = .ok (.round l fn tmps ca cb) W ∧ ∀ m, RoundIn Fence.wide m Try.prog l fn tmps ca cb W fun e W' => e = .returned (.bool true) ∧ J (i + 1) W' ∧ ∀ k, k < W.heap.size → W0.heap.size ≤ k → W'.heap[k]? = W.heap[k]?) := fun W h => HY.out i x W hx h
      have ZR : Hid (Row (wr.alloc (.cells (z32 ++ [Value.int .i64 0]).toArray 35)) G 35 (z32 ++ [Value.int .i64 0])) := Row.at wr _ _ _ _ hG rfl
      have HG : Hid (G = wr.heap.size) := hG
      clear hPW hQW hrx HEX HME hx hok HI HE HAO HY hG
      generalize (reg (xs.take i)).map B8 = RC at *
      generalize hNC : (reg (xs.take (i + 1))).map B8 = NC at *
      have HNC : Hid ((reg (xs.take (i + 1))).map B8 = NC) := hNC
      clear hNC
      generalize (measure x).map B8 = MC at *
      generalize evC x = AC at *
      generalize hN0 : W0.heap.size = N0 at *
      go_wp2_with (first
        | (refine wpList_load_mid rfl 35 (.tmp 10) rfl B (off + i * 33) rfl AC _ hrg Try.underlying35 rfl (by rw [lA]; kernel_rfl) ?_)
        | (rw [← HG.out]; refine wpList_store_Row rfl 35 _ _ rfl G 35 0 (z32 ++ [Value.int .i64 0]) AC ZR.out (by rw [lA]; exact Nat.le_refl _) rfl rfl (by rw [lA]; kernel_rfl) oA.out ?_; intro w5 hr5 hs5))
      have r5 := row_whole hr5 (by rw [lA]; exact Nat.le_refl _)
      have P5 : Hid (PW w5) := P0.out _ r5 hs5
      clear hr5 hs5 r5 P0 ZR hrg
      refine wp_region_inv (II4 w5 PW QW RC MC AC NC _ _ _ _ _ _ _ _ _ _ _ _ _ _ _ _ _ _) (by kernel_rfl) (by kernel_rfl) ⟨_, _, _, _, rfl, ⟨⟨fun h => (by cases h), PQ.of_no (DR.out _ P5.out)⟩, fun k => (by cases k), fun k => (by cases k), fun k => (by cases k), fun k => (by cases k), fun k => (by cases k)⟩⟩ ?_ ?_
      · refine .cons ?_ (.cons ?_ (.cons ?_ (.cons ?_ (.cons ?_ .nil))))
        all_goals (refine I4.step ?_; intro x12 x13 x14 x15 L W hI hL hd K hK)
        · have h4 : L 4 = false := ff hI.x.1 hL
          refine step_load_Row rfl 32 _ rfl N0 32 RC (RP.out _ (hI.x.2.no h4)) rfl _ Try.underlying32 rfl (by rw [lR]; kernel_rfl) ?_
          have hX : G4 PW QW true (L 4) W := ⟨fun _ => rfl, hI.x.2⟩
          exact hK.out _ _ ⟨_, _, _, _, rfl, hI.s0 hX⟩
        · refine step_load_Row rfl 35 _ rfl G 35 AC (RE.out _ _ hI.x.2) rfl _ Try.underlying35 rfl (by rw [lA]; kernel_rfl) ?_
          exact hK.out _ _ ⟨_, _, _, _, rfl, hI.s1⟩
        · have hx1 := hI.p1 (hd 1 (by decide))
          subst hx1
          rw [if_pos (by rfl)]
          go_simp
          refine (MX.out _).mono ?_
          rintro e W2 ⟨rfl, hb3⟩
          go_simp
          have hX : G4 PW QW (L 0) (L 4) W2 := ⟨hI.x.1, BQ.out _ _ _ hI.x.2 hb3⟩
          exact hK.out _ _ ⟨_, _, _, _, rfl, hI.s2 hX⟩
        · have hx0 := hI.p0 (hd 0 (by decide))
          subst hx0
          have hx2 := hI.p2 (hd 2 (by decide))
          subst hx2
          rw [if_pos (by rfl)]
          go_simp
          refine (XX.out _).mono ?_
          rintro e W2 ⟨rfl, hb3⟩
          go_simp
          have hX : G4 PW QW (L 0) (L 4) W2 := ⟨hI.x.1, BQ.out _ _ _ hI.x.2 hb3⟩
          exact hK.out _ _ ⟨_, _, _, _, rfl, hI.s3 hX (hd 0 (by decide))⟩
        · have hx3 := hI.p3 (hd 3 (by decide))
          subst hx3
          have hL0 := (hI.c3_0 (hd 3 (by decide)))
          refine step_store_Row rfl 32 _ _ rfl N0 32 RC NC (RP.out _ (hI.x.2.no hL)) (by rw [lR, lN]) rfl rfl (by rw [lN]; kernel_rfl) oN.out ?_
          intro W2 hr2 hs2
          have hX : G4 PW QW (L 0) true W2 := ⟨fun _ => hL0, PQ.of_yes (SQ.out _ _ (hI.x.2.no hL) hr2 hs2)⟩
          exact hK.out _ _ ⟨_, _, _, _, rfl, hI.s4 hX⟩
      · refine I4.ends ?_; intro x12 x13 x14 x15 L W hall hI
        have hx0 := hI.p0 (hall 0 (by decide))
        subst hx0
        have hx1 := hI.p1 (hall 1 (by decide))
        subst hx1
        have hx2 := hI.p2 (hall 2 (by decide))
        subst hx2
        have hx3 := hI.p3 (hall 3 (by decide))
        subst hx3
        have hXe := hI.x
        rw [hall 0 (by decide)] at hXe
        rw [hall 4 (by decide)] at hXe
        clear hI hall
        try dsimp only
        obtain ⟨hj, hrow, hev⟩ := QO.out _ hXe.2
        obtain ⟨fn, tmps, ca, cb, hy, hR⟩ := YY.out _ hj
        have HR : Hid _ := hR
        have HROW : Hid (Row W N0 32 NC) := hrow
        have RNG : Hid (W.rangeAt N0 0 NC) := by
          show W.rangeAt N0 0 NC
          have := hrow.range 0 NC.length
          simpa using this
        have RNE : Hid (W.rangeAt G 0 AC) := by
          show W.rangeAt G 0 AC
          have := hev.range 0 AC.length
          simpa using this
        clear hR hrow hXe hj YY hev
        refine ‹∀ (a : Act) (w : World), Code.wp Try.prog _ _ a w → _› _ _ ?_
        refine (wpIn_wide (n := 3)).1 ?_
        gi_wp2_with (first
          | (refine inN_load (fun _ => trivial) rfl rfl 35 (.tmp 5) rfl G 0 rfl AC _ RNE.out Try.underlying35 rfl (by rw [lA]; kernel_rfl) ?_)
          | (refine inN_load (fun _ => trivial) rfl rfl 32 (.tmp 3) rfl N0 0 rfl NC _ RNG.out Try.underlying32 rfl (by rw [lN]; kernel_rfl) ?_))
        refine (HR.out 2).mono ?_
        rintro e W2 ⟨rfl, hj2, hk2⟩
        dsimp only
        have HN : Hid (J (i + 1) W2 ∧ Row W2 N0 32 NC) := ⟨hj2, (hk2 N0 HROW.out.lt (Nat.le_refl _)).trans HROW.out⟩
        clear hj2 hk2 hy HR HROW RNG RNE
        gi_wp2
        go_wp2
        exact ⟨⟨i + 1, by omega, by go_num, by rw [HNC.out]; exact HN.out⟩, by simp [intOf]; omega⟩
    · obtain rfl : i = n := by omega
      have y1 : ¬ ((i : Nat) : Int) < (i : Int) := by omega
      have HF : Hid (J i wr) := HI.out.1
      clear HI
      go_wp2
      first | go_end0 | go_ret
      exact ⟨⟨_, rfl⟩, HF.out⟩

theorem cbehind_any (w : World) (ao : Option Addr) (n cap : Nat) : Calls Try.prog 40 #[.slice ao n cap] w fun e w' => e = .returned (.func (.func 54) #[] #[.pointer (some ⟨w.heap.size, 0, none⟩)]) ∧ w' = w.alloc (.cells #[.slice ao n cap] 27) := by
  go_enter Try.func40, Try.ntmps40
  go_wp2
  go_ret
  exact ⟨rfl, rfl⟩

/-- The call of the iterator, with register's rounds. -/
theorem creg_call (EX : ∀ (r x : List By), r.length = 32 → x.length = 32 → ∀ w, Calls Try.prog 17 #[.agg (r.map B8).toArray, .agg (x.map B8).toArray] w fun e w' => e = .returned (.agg ((extend r x).map B8).toArray) ∧ Below w.heap.size w w')
    (ME : ∀ (x : EvV), EvOk x → ∀ w, Calls Try.prog 19 #[.agg (evC x).toArray] w fun e w' => e = .returned (.agg ((measure x).map B8).toArray) ∧ Below w.heap.size w w')
    (w w4 : World) (ao : Option Addr) (n cap B off : Nat) (xs : List EvV) (hn : xs.length = n) (hn47 : n ≤ 140737488355328) (hao : 0 < n → ao = some ⟨B, off, none⟩) (hin : EvIn w B off xs)
    (hz4 : w4.heap.size = w.heap.size + 3) (R4 : Row w4 (w.heap.size + 1) 32 z32) (Q4 : Row w4 w.heap.size 32 z32) (E4 : Row w4 (w.heap.size + 2) 27 [.slice ao n cap]) (B4 : Below w.heap.size w w4)
    (r : Loop) (hst : r.state = .ready) (hpd : r.pending = none) (hpar : r.params = #[8, 9]) (v0 v1 v2 v4 v5 v6 v7 v8 v9 v10 v11 : Value) (htm : r.tmps = #[v0, v1, v2, .pointer (some ⟨w.heap.size + 1, 0, none⟩), v4, v5, v6, v7, v8, v9, v10, v11]) (hc : rfOf (Try.f27.body.getD .skip) = some (r.assign, r.body)) :
    CallsIn Fence.wide 2 Try.prog 54 #[.func (.yield (w4.heap.size + 1)) #[] #[], .pointer (some ⟨w.heap.size + 2, 0, none⟩)] ((w4.alloc (.deferred (some []))).alloc (.loop r)) fun e W' => (∃ v, e = .returned v) ∧ MD w (w.heap.size + 1) (w.heap.size + 2) w4.heap.size (w4.heap.size + 1) (.slice ao n cap) r (reg xs) W' := by
  obtain ⟨W5, hW5⟩ : ∃ W5, W5 = (w4.alloc (.deferred (some []))).alloc (.loop r) := ⟨_, rfl⟩
  have hb5 : Below w4.heap.size w4 W5 := by rw [hW5]; exact ((Below.refl _ _).alloc (Nat.le_refl _) _).alloc (by simp) _
  have hz5 : W5.heap.size = w4.heap.size + 2 := by rw [hW5]; simp
  have L5 : W5.heap[w4.heap.size + 1]? = some (.loop r) := by
    rw [hW5]
    have := World.alloc_heap_new (w4.alloc (.deferred (some []))) (.loop r)
    rwa [World.size_alloc] at this
  have K5 : W5.heap[w4.heap.size]? = some (.deferred (some [])) := by rw [hW5]; exact (Below.heap_alloc _ _ _ (by simp)).trans (World.alloc_heap_new w4 _)
  have M0 : MD w (w.heap.size + 1) (w.heap.size + 2) w4.heap.size (w4.heap.size + 1) (.slice ao n cap) r (reg (xs.take 0)) W5 := ⟨B4.trans (hb5.mono B4.size), R4.below hb5 (by omega), E4.below hb5 (by omega), L5, K5, Q4.below hb5 (by omega)⟩
  rw [← hW5]
  clear hW5
  refine callsIn_wide.2 ?_
  refine (citer EX ME (w4.heap.size + 1) (w.heap.size + 2) ao n cap B off xs hn hn47 hao W5 (fun i W => MD w (w.heap.size + 1) (w.heap.size + 2) w4.heap.size (w4.heap.size + 1) (.slice ao n cap) r (reg (xs.take i)) W) ?_ ?_ (M0.ev.cell 0 _ rfl) ?_ M0).mono ?_
  · intro i x W hi hm
    have hy : (Instr.yield (w4.heap.size + 1) #[.agg (evC x).toArray, .agg ((reg (xs.take (i + 1))).map B8).toArray]).run Try.prog W = .ok (.round (w4.heap.size + 1) r.fn #[v0, v1, v2, .pointer (some ⟨w.heap.size + 1, 0, none⟩), v4, v5, v6, v7, .agg (evC x).toArray, .agg ((reg (xs.take (i + 1))).map B8).toArray, v10, v11] r.assign r.body) W := by
      simpa [hpar, htm] using run_yield (P := Try.prog) (args := #[.agg (evC x).toArray, .agg ((reg (xs.take (i + 1))).map B8).toArray]) hm.L (by rw [hpar]; rfl)
    refine ⟨_, _, _, _, hy, fun m => ?_⟩
    refine (cround m r.fn w (w.heap.size + 1) (w.heap.size + 2) w4.heap.size (w4.heap.size + 1) (.slice ao n cap) r hst hpd (by omega) (by omega) (by omega) (by omega) (by omega) (by omega) (by omega) (by omega) (by omega) (reg (xs.take i)) (reg (xs.take (i + 1))) (reg_len _) (reg_len _) W hm v0 v1 v2 v4 v5 v6 v7 (.agg (evC x).toArray) v10 v11 _ _ hc).mono ?_
    rintro e W' ⟨h1, h2, h3, h4⟩
    exact ⟨h1, h2, fun k hk hN => h4 k hk (by omega) (by omega)⟩
  · intro i W W' hm hb
    exact hm.kept (hb.mono (by omega)) fun k hk hh => hb.block k (by omega)
  · intro i W hm
    exact ⟨by have := blk_lt hm.L; omega, hin.keep hm.bel⟩
  · rintro e W' ⟨h1, h2⟩
    refine ⟨h1, ?_⟩
    have h2 : MD w (w.heap.size + 1) (w.heap.size + 2) w4.heap.size (w4.heap.size + 1) (.slice ao n cap) r (reg (xs.take n)) W' := h2
    rw [List.take_of_length_le (by omega)] at h2
    exact h2

set_option maxHeartbeats 2000000 in
set_option maxRecDepth 100000 in
theorem creg_any (EX : ∀ (r x : List By), r.length = 32 → x.length = 32 → ∀ w, Calls Try.prog 17 #[.agg (r.map B8).toArray, .agg (x.map B8).toArray] w fun e w' => e = .returned (.agg ((extend r x).map B8).toArray) ∧ Below w.heap.size w w')
    (ME : ∀ (x : EvV), EvOk x → ∀ w, Calls Try.prog 19 #[.agg (evC x).toArray] w fun e w' => e = .returned (.agg ((measure x).map B8).toArray) ∧ Below w.heap.size w w')
    (w : World) (ao : Option Addr) (n cap B off : Nat) (xs : List EvV) (hn : xs.length = n) (hn47 : n ≤ 140737488355328) (hao : 0 < n → ao = some ⟨B, off, none⟩) (hin : EvIn w B off xs) :
    Calls Try.prog 27 #[.slice ao n cap] w fun e w' => e = .returned (.agg ((reg xs).map B8).toArray) ∧ Below w.heap.size w w' := by
  refine (callsIn_wide (n := 3)).1 ?_
  refine callsIn_of_wp_marks Try.func27 rfl trivial ?_ rfl
  simp only [Try.ntmps27, List.size_toArray, List.length_cons, List.length_nil, Nat.reduceAdd, Nat.reduceSub, Array.replicate_succ, Array.replicate_zero, List.push_toArray, List.append_toArray, List.nil_append, List.cons_append]
  refine wpIn_wide.2 ?_
  obtain ⟨G, hG⟩ : ∃ G, G = w.heap.size := ⟨_, rfl⟩
  have r2 : Row ((w.alloc (.cells z32.toArray 32)).alloc (.cells z32.toArray 32)) (w.heap.size + 1) 32 z32 := Row.at _ _ _ _ _ (by simp) rfl
  have q2 : Row ((w.alloc (.cells z32.toArray 32)).alloc (.cells z32.toArray 32)) w.heap.size 32 z32 := (Row.at w _ _ _ _ rfl rfl).alloc _
  have b2 : Below w.heap.size w ((w.alloc (.cells z32.toArray 32)).alloc (.cells z32.toArray 32)) := ((Below.refl _ _).alloc (Nat.le_refl _) _).alloc (by simp) _
  obtain ⟨w3, hw3⟩ : ∃ w3, w3 = (w.alloc (.cells z32.toArray 32)).alloc (.cells z32.toArray 32) := ⟨_, rfl⟩
  have r3 : Row w3 (w.heap.size + 1) 32 z32 := by rw [hw3]; exact r2
  have q3 : Row w3 w.heap.size 32 z32 := by rw [hw3]; exact q2
  have b3 : Below w.heap.size w w3 := by rw [hw3]; exact b2
  have hz3 : w3.heap.size = w.heap.size + 2 := by rw [hw3]; simp
  go_wp2_with fail
  have CB := cbehind_any w3 ao n cap
  rw [hw3] at CB
  refine CB.mono ?_
  clear CB
  rw [← hw3]
  rintro e w4 ⟨rfl, hw4⟩
  dsimp only
  have r4 : Row w4 (w.heap.size + 1) 32 z32 := by rw [hw4]; exact r3.alloc _
  have q4 : Row w4 w.heap.size 32 z32 := by rw [hw4]; exact q3.alloc _
  have e4 : Row w4 (w.heap.size + 2) 27 [.slice ao n cap] := by rw [hw4]; exact Row.at _ _ _ _ _ hz3.symm rfl
  have b4 : Below w.heap.size w w4 := by rw [hw4]; exact b3.alloc b3.size _
  have hz4 : w4.heap.size = w.heap.size + 3 := by rw [hw4]; simp; omega
  rw [hz3]
  clear r3 q3 b3 hw4 hz3 r2 q2 b2 hw3
  have R4 : Hid (Row w4 (w.heap.size + 1) 32 z32) := r4
  have Q4 : Hid (Row w4 w.heap.size 32 z32) := q4
  have E4 : Hid (Row w4 (w.heap.size + 2) 27 [.slice ao n cap]) := e4
  have B4 : Hid (Below w.heap.size w w4) := b4
  clear r4 q4 e4 b4
  go_wp2_with fail
  refine (wpIn_wide (n := 3)).1 ?_
  refine wpIn_rangeFunc ?_
  intro fn _
  refine ⟨w4.heap.size + 1, _, _, _, _, _, _, _, run_enterLoop_outer _ _ _ _ _, rfl, fun _ _ => trivial, rfl, fun h => absurd h (by decide), ?_⟩
  conv =>
    arg 5
    simp [rangeCall, go_sem]
  refine (creg_call EX ME w w4 ao n cap B off xs hn hn47 hao hin hz4 R4.out Q4.out E4.out B4.out _ rfl rfl rfl _ _ _ _ _ _ _ _ _ _ _ rfl rfl).mono ?_
  rintro e W6 ⟨⟨v, rfl⟩, h6⟩
  obtain ⟨W7, e7, s7⟩ : ∃ W7, (Instr.endLoop (w4.heap.size + 1)).run Try.prog W6 = .ok none W7 ∧ SameBut (w4.heap.size + 1) W6 W7 := ⟨_, run_endLoop h6.L (by simp), putObj_sameBut _ _ _⟩
  refine ⟨none, W7, e7, ?_⟩
  have r7 : Row W7 (w.heap.size + 1) 32 ((reg xs).map B8) := h6.row.but s7 (by omega)
  have q7 : Row W7 w.heap.size 32 z32 := h6.res.but s7 (by omega)
  have k7 : W7.heap[w4.heap.size]? = some (.deferred (some [])) := (s7.block _ (by omega)).trans h6.K
  have b7 : Below w.heap.size w W7 := s7.below h6.bel (by omega)
  clear h6 e7 s7 EX ME hin hao
  have lq : ((reg xs).map B8).length = 32 := by rw [List.length_map]; exact reg_len _
  have oq : Hid (∀ v ∈ (reg xs).map B8, v.oneCell' = true) := B8_one _
  generalize hQC : (reg xs).map B8 = QC at *
  have HQC : Hid ((reg xs).map B8 = QC) := hQC
  clear hQC
  dsimp only
  refine ‹∀ (a : Act) (w : World), Code.wp Try.prog _ _ a w → _› _ _ ?_
  go_wp2_with (first
    | (refine wpList_load_Row rfl 32 (.tmp 3) rfl (w.heap.size + 1) 32 QC r7 rfl _ Try.underlying32 rfl (by rw [lq]; kernel_rfl) ?_)
    | (refine wpList_store_Row rfl 32 _ _ rfl w.heap.size 32 0 z32 QC q7 (by rw [lq]; exact Nat.le_refl _) rfl rfl (by rw [lq]; kernel_rfl) oq.out ?_; intro w8 hr8 hs8))
  have r8 : Row w8 w.heap.size 32 QC := row_whole hr8 (by rw [lq]; exact Nat.le_refl _)
  have k8 : w8.heap[w4.heap.size]? = some (.deferred (some [])) := (hs8.block _ (by omega)).trans k7
  have b8 := hs8.below b7 (Nat.le_refl _)
  have s9 := putObj_sameBut w8 w4.heap.size (.deferred none)
  have r9 : Row (w8.putObj w4.heap.size (.deferred none)) w.heap.size 32 QC := r8.but s9 (by omega)
  refine ⟨by simp, .inl ⟨_, _, rfl, run_takeDeferred k8, ?_⟩⟩
  exact ⟨_, results_Row rfl _ _ w.heap.size 32 QC _ rfl r9 Try.underlying32 rfl (by rw [lq]; kernel_rfl), by rw [HQC.out], s9.below b8 (by omega)⟩
end Go.Proofs.Ythegfkcegmeklaa
