
import Derived.Test.YthegfkcegmeklaaH16Quot
/-! The law's fixed, of any chain in code. -/
namespace Go.Proofs.Ythegfkcegmeklaa
open Go.RowKit
set_option linter.unusedVariables false

theorem Row.blk {w w' : World} {g t : Nat} {l : List Value} (h : Row w g t l) (hb : w'.heap[g]? = w.heap[g]?) : Row w' g t l := hb.trans h
theorem evIn_row {w : World} {g : Nat} {x : EvV} (h : Row w g 35 (evC x)) (hx : EvOk x) : EvIn w g 0 [x] where
  cells i y hi := by
    cases i with
    | zero =>
      injection hi with hi
      subst hi
      intro j v hv
      have := h.cell j v hv
      simpa using this
    | succ i => cases hi
  ok i y hi := by
    cases i with
    | zero => injection hi with hi; subst hi; exact hx
    | succ i => cases hi
/-- A log, a hash and an event beside it. -/
def FX (Lg : (Nat → Prop) → World → Addr → List EvV → Prop) (N G E : Nat) (w : World) (a : Addr) (xs : List EvV) (QC : List Value) (W : World) : Prop :=
  ∃ S, Lg S W a xs ∧ (∀ j, S j → N ≤ j) ∧ Below N w W ∧ Row W G 32 QC ∧ Row W E 35 (evC oEv) ∧ ¬ S G ∧ ¬ S E ∧ N ≤ W.heap.size
theorem FX.below {Lg : (Nat → Prop) → World → Addr → List EvV → Prop} (C : Chn Lg) {N G E : Nat} {w : World} {a : Addr} {xs : List EvV} {QC : List Value} {W W' : World} (h : FX Lg N G E w a xs QC W) (hb : Below W.heap.size W W') : FX Lg N G E w a xs QC W' := by
  obtain ⟨S, h1, h2, h3, h4, h5, h6, h7, h8⟩ := h
  exact ⟨S, C.keep h1 (fun j hj => hb.block j (C.lt h1 j hj)) hb.size, h2, h3.trans (hb.mono h8), h4.below hb h4.lt, h5.below hb h5.lt, h6, h7, Nat.le_trans h8 hb.size⟩
theorem FX.out {Lg : (Nat → Prop) → World → Addr → List EvV → Prop} (C : Chn Lg) {N G E : Nat} {w : World} {a : Addr} {xs : List EvV} {QC : List Value} {W : World} (h : FX Lg N G E w a xs QC W) :
    ∃ S, Lg S W a xs ∧ ∀ S' W', Lg S' W' a xs → (∀ j, S' j → S j ∨ W.heap.size ≤ j) → But S W W' → FX Lg N G E w a xs QC W' := by
  obtain ⟨S, h1, h2, h3, h4, h5, h6, h7, h8⟩ := h
  refine ⟨S, h1, fun S' W' hl hs hb => ⟨S', hl, fun j hj => (hs j hj).elim (h2 j) (by omega), h3.trans (hb.below h8 h2), h4.blk (hb.block _ h4.lt h6), h5.blk (hb.block _ h5.lt h7), fun h => (hs _ h).elim h6 fun h9 => absurd h4.lt (by omega), fun h => (hs _ h).elim h7 fun h9 => absurd h5.lt (by omega), Nat.le_trans h8 hb.size⟩⟩

set_option maxHeartbeats 1000000 in
set_option maxRecDepth 100000 in
theorem fixed_any {Lg : (Nat → Prop) → World → Addr → List EvV → Prop} (C : Chn Lg) (w : World) : Calls Try.prog 8 #[] w fun e w' => e = .returned (.bool true) ∧ Below w.heap.size w w' := by
  have HC : Hid (Chn Lg) := C
  have NW := C.new w
  clear C
  go_enter Try.func8, Try.ntmps8
  go_wp2_with fail
  refine NW.mono ?_
  clear NW
  rintro e w1 ⟨a, S, rfl, hl, hs, hb⟩
  dsimp only
  have L1 : Hid (Lg S w1 a []) := hl
  have S1 : Hid (∀ j, S j → w.heap.size ≤ j) := hs
  have B1 : Hid (Below w.heap.size w w1) := hb
  clear hl hs hb
  go_wp2_with fail
  refine (HC.out.add oEv oEv_ok L1.out).mono ?_
  rintro e w2 ⟨S', rfl, hl2, hs2, hb2⟩
  dsimp only
  have L2 : Hid (Lg S' w2 a [oEv]) := hl2
  have B2 : Hid (Below w.heap.size w w2) := B1.out.trans (hb2.below B1.out.size S1.out)
  have S2 : Hid (∀ j, S' j → w.heap.size ≤ j) := fun j hj => (hs2 j hj).elim (S1.out j) fun h => Nat.le_trans B1.out.size h
  clear hl2 hs2 hb2 L1 S1 B1
  rw [if_pos (by decide)]
  have iA : Hid (IsB ((w2.alloc (.cells #[.int .u8 1] 5)).alloc (.cells #[.int .u8 2] 5)) (some ⟨w2.heap.size, 0, none⟩) [1#8]) := row_isb ((Row.at w2 _ _ _ _ rfl rfl : Row (w2.alloc (.cells #[.int .u8 1] 5)) w2.heap.size 5 ([1#8].map B8)).alloc _)
  have iB : Hid (IsB ((w2.alloc (.cells #[.int .u8 1] 5)).alloc (.cells #[.int .u8 2] 5)) (some ⟨w2.heap.size + 1, 0, none⟩) [2#8]) := row_isb (Row.at _ _ _ _ _ (by simp) rfl : Row ((w2.alloc (.cells #[.int .u8 1] 5)).alloc (.cells #[.int .u8 2] 5)) (w2.heap.size + 1) 5 ([2#8].map B8))
  have bA : Hid (Below w2.heap.size w2 ((w2.alloc (.cells #[.int .u8 1] 5)).alloc (.cells #[.int .u8 2] 5))) := ((Below.refl _ _).alloc (Nat.le_refl _) _).alloc (by simp) _
  have L3 : Hid (Lg S' ((w2.alloc (.cells #[.int .u8 1] 5)).alloc (.cells #[.int .u8 2] 5)) a [oEv]) := HC.out.keep L2.out (fun j hj => bA.out.block j (HC.out.lt L2.out j hj)) bA.out.size
  have hz : ∀ o1 : Obj, (w2.alloc o1).heap.size = w2.heap.size + 1 := fun o1 => by simp
  go_wp2_with fail
  refine (HC.out.quote L3.out _ 1 1 [1#8] rfl iA.out ⟨fun h => (by cases h), by omega⟩ (by omega) _ 1 1 [2#8] rfl iB.out ⟨fun h => (by cases h), by omega⟩ (by omega)).mono ?_
  rintro e w4 ⟨S4, rfl, hl4, hs4, hb4⟩
  dsimp only
  have B3 : Hid (Below w.heap.size w ((w2.alloc (.cells #[.int .u8 1] 5)).alloc (.cells #[.int .u8 2] 5))) := B2.out.trans (bA.out.mono B2.out.size)
  have L4 : Hid (Lg S4 w4 a [oEv]) := hl4
  have B4 : Hid (Below w.heap.size w w4) := B3.out.trans (hb4.below B3.out.size S2.out)
  have S4' : Hid (∀ j, S4 j → w.heap.size ≤ j) := fun j hj => (hs4 j hj).elim (S2.out j) fun h => Nat.le_trans B3.out.size h
  clear hl4 hs4 hb4 L2 S2 B2 iA iB bA L3 B3 hz
  have CL : Hid (chk [1#8] [2#8] [oEv] (quot [1#8] [2#8] [oEv]) = 0) := chk_like
  have CU : Hid (chk [1#8] [3#8] [oEv] (quot [1#8] [2#8] [oEv]) = 19) := chk_unlike
  have hql : (quot [1#8] [2#8] [oEv]).length = 32 := shaLen _
  generalize hQQ : quot [1#8] [2#8] [oEv] = QQ at *
  clear hQQ
  generalize hG : w4.heap.size = G at *
  have lq : (QQ.map B8).length = 32 := by rw [List.length_map, hql]
  go_wp2_with (first | fail | (refine wpList_store_Row rfl 32 _ _ rfl G 32 0 z32 (QQ.map B8) (Row.at w4 _ _ _ _ hG.symm rfl) (by simp [hql]) rfl rfl (by rw [lq]; kernel_rfl) (B8_one _) ?_; intro w5 hr5 hs5; have r5 : Hid (Row w5 G 32 (QQ.map B8)) := row_whole hr5 (by simp [hql]); have b5 : Hid (Below w4.heap.size w4 w5) := hs5.below ((Below.refl _ _).alloc (Nat.le_refl _) _) (by omega); clear hr5 hs5))
  obtain ⟨W6, hW6⟩ : ∃ W6, W6 = w5.alloc (.cells (evC oEv).toArray 35) := ⟨_, rfl⟩
  have b6 : Hid (Below w4.heap.size w4 W6) := by show Below _ _ _; rw [hW6]; exact b5.out.alloc b5.out.size _
  have r6 : Hid (Row W6 G 32 (QQ.map B8)) := by show Row _ _ _ _; rw [hW6]; exact r5.out.alloc _
  have rE : Hid (Row W6 w5.heap.size 35 (evC oEv)) := by show Row _ _ _ _; rw [hW6]; exact Row.at w5 _ _ _ _ rfl rfl
  have F6 : Hid (FX Lg w.heap.size G w5.heap.size w a [oEv] (QQ.map B8) W6) := ⟨S4, HC.out.keep L4.out (fun j hj => b6.out.block j (HC.out.lt L4.out j hj)) b6.out.size, S4'.out, B4.out.trans (b6.out.mono B4.out.size), r6.out, rE.out, fun h => absurd (HC.out.lt L4.out _ h) (by omega), fun h => absurd (HC.out.lt L4.out _ h) (by have := b5.out.size; omega), Nat.le_trans B4.out.size b6.out.size⟩
  clear b5 r5 b6 L4 B4 S4' r6 rE
  change Calls Try.prog 14 #[.pointer (some a)] (w5.alloc (.cells (evC oEv).toArray 35)) _
  rw [← hW6]
  clear hW6
  generalize w5.heap.size = E at *
  obtain ⟨S6, L6, N6⟩ := F6.out.out HC.out
  refine (HC.out.events L6).mono ?_
  rintro e w7 ⟨S7, eo, ec, rfl, -, hl7, hs7, -, hb7⟩
  dsimp only
  have F7 : Hid (FX Lg w.heap.size G E w a [oEv] (QQ.map B8) w7) := N6 _ _ hl7 hs7 hb7
  clear hl7 hs7 hb7 N6 L6 F6
  go_wp2_with fail
  obtain ⟨S8, L8, N8⟩ := F7.out.out HC.out
  refine (HC.out.register L8).mono ?_
  rintro e w9 ⟨S9, rfl, hl9, hs9, hb9⟩
  dsimp only
  have F9 : Hid (FX Lg w.heap.size G E w a [oEv] (QQ.map B8) w9) := N8 _ _ hl9 hs9 hb9
  clear hl9 hs9 hb9 N8 L8 F7
  have qe := eq_any (reg [oEv]) (extend (List.replicate 32 0#8) (measure oEv)) (reg_len _) (shaLen _) true (by rw [decide_eq_true (reg_one oEv)])
  go_wp2_with fail
  refine (HC.out.measure oEv oEv_ok _).mono ?_
  rintro e wa ⟨rfl, hb⟩
  dsimp only
  have Fa : Hid (FX Lg w.heap.size G E w a [oEv] (QQ.map B8) wa) := F9.out.below HC.out hb
  clear hb F9
  have hml : (measure oEv).length = 32 := shaLen _
  generalize measure oEv = MX at *
  generalize hRG : reg [oEv] = RG at *
  clear hRG
  have EX : Hid (∀ W, Calls Try.prog 17 #[.agg ((List.replicate 32 0#8).map B8).toArray, .agg (MX.map B8).toArray] W fun e w' => e = .returned (.agg ((extend (List.replicate 32 0#8) MX).map B8).toArray) ∧ Below W.heap.size W w') := fun W => HC.out.extend _ _ rfl hml W
  generalize extend (List.replicate 32 0#8) MX = EXT at *
  go_wp2_with fail
  refine (EX.out _).mono ?_
  rintro e wb ⟨rfl, hb⟩
  dsimp only
  have Fb : Hid (FX Lg w.heap.size G E w a [oEv] (QQ.map B8) wb) := Fa.out.below HC.out hb
  clear hb Fa EX
  have icA : Hid (IsB ((wb.alloc (.cells #[.int .u8 1] 5)).alloc (.cells #[.int .u8 2] 5)) (some ⟨wb.heap.size, 0, none⟩) [1#8]) := row_isb ((Row.at wb _ _ _ _ rfl rfl : Row (wb.alloc (.cells #[.int .u8 1] 5)) wb.heap.size 5 ([1#8].map B8)).alloc _)
  have icB : Hid (IsB ((wb.alloc (.cells #[.int .u8 1] 5)).alloc (.cells #[.int .u8 2] 5)) (some ⟨wb.heap.size + 1, 0, none⟩) [2#8]) := row_isb (Row.at _ _ _ _ _ (by simp) rfl : Row ((wb.alloc (.cells #[.int .u8 1] 5)).alloc (.cells #[.int .u8 2] 5)) (wb.heap.size + 1) 5 ([2#8].map B8))
  have FcA : Hid (FX Lg w.heap.size G E w a [oEv] (QQ.map B8) ((wb.alloc (.cells #[.int .u8 1] 5)).alloc (.cells #[.int .u8 2] 5))) := Fb.out.below HC.out (((Below.refl _ _).alloc (Nat.le_refl _) _).alloc (by simp) _)
  have hcz : ∀ o1 : Obj, (wb.alloc o1).heap.size = wb.heap.size + 1 := fun o1 => by simp
  obtain ⟨_, _, _, _, qcr, qce, _, _, _⟩ := FcA.out
  have HEc := evIn_row qce oEv_ok
  clear qce
  have HEEc : Hid (EvIn _ _ _ _) := HEc
  clear HEc
  go_wp2_with (refine wpList_load_Row_g (by rfl) 32 (.tmp 3) rfl G 32 (QQ.map B8) qcr rfl _ Try.underlying32 rfl (by rw [lq]; kernel_rfl) ?_)
  refine (HC.out.check _ _ 1 1 [1#8] rfl icA.out ⟨fun h => (by cases h), by omega⟩ (by omega) _ 1 1 [2#8] rfl icB.out ⟨fun h => (by cases h), by omega⟩ (by omega) _ 1 1 E 0 [oEv] rfl (by omega) (fun _ => rfl) HEEc.out QQ hql).mono ?_
  rw [CL.out]
  rintro e wc ⟨rfl, hb⟩
  dsimp only
  have Fc : Hid (FX Lg w.heap.size G E w a [oEv] (QQ.map B8) wc) := FcA.out.below HC.out hb
  clear hb FcA icA icB hcz qcr HEEc Fb
  have idA : Hid (IsB ((wc.alloc (.cells #[.int .u8 1] 5)).alloc (.cells #[.int .u8 3] 5)) (some ⟨wc.heap.size, 0, none⟩) [1#8]) := row_isb ((Row.at wc _ _ _ _ rfl rfl : Row (wc.alloc (.cells #[.int .u8 1] 5)) wc.heap.size 5 ([1#8].map B8)).alloc _)
  have idB : Hid (IsB ((wc.alloc (.cells #[.int .u8 1] 5)).alloc (.cells #[.int .u8 3] 5)) (some ⟨wc.heap.size + 1, 0, none⟩) [3#8]) := row_isb (Row.at _ _ _ _ _ (by simp) rfl : Row ((wc.alloc (.cells #[.int .u8 1] 5)).alloc (.cells #[.int .u8 3] 5)) (wc.heap.size + 1) 5 ([3#8].map B8))
  have FdA : Hid (FX Lg w.heap.size G E w a [oEv] (QQ.map B8) ((wc.alloc (.cells #[.int .u8 1] 5)).alloc (.cells #[.int .u8 3] 5))) := Fc.out.below HC.out (((Below.refl _ _).alloc (Nat.le_refl _) _).alloc (by simp) _)
  have hdz : ∀ o1 : Obj, (wc.alloc o1).heap.size = wc.heap.size + 1 := fun o1 => by simp
  obtain ⟨_, _, _, _, qdr, qde, _, _, _⟩ := FdA.out
  have HEd := evIn_row qde oEv_ok
  clear qde
  have HEEd : Hid (EvIn _ _ _ _) := HEd
  clear HEd
  go_wp2_with (refine wpList_load_Row_g (by rfl) 32 (.tmp 3) rfl G 32 (QQ.map B8) qdr rfl _ Try.underlying32 rfl (by rw [lq]; kernel_rfl) ?_)
  refine (HC.out.check _ _ 1 1 [1#8] rfl idA.out ⟨fun h => (by cases h), by omega⟩ (by omega) _ 1 1 [3#8] rfl idB.out ⟨fun h => (by cases h), by omega⟩ (by omega) _ 1 1 E 0 [oEv] rfl (by omega) (fun _ => rfl) HEEd.out QQ hql).mono ?_
  rw [CU.out]
  rintro e wd ⟨rfl, hb⟩
  dsimp only
  have Fd : Hid (FX Lg w.heap.size G E w a [oEv] (QQ.map B8) wd) := FdA.out.below HC.out hb
  clear hb FdA idA idB hdz qdr HEEd Fc
  obtain ⟨_, _, _, hB, _⟩ := Fd.out
  clear Fd
  go_wp2
  go_ret
  exact ⟨rfl, hB⟩
end Go.Proofs.Ythegfkcegmeklaa
