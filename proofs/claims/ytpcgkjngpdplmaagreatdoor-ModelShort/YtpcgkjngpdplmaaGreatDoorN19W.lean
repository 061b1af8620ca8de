import Derived.Test.YtpcgkjngpdplmaaGreatDoorN19E

/-! The code's model: looked, behind. (Printed by tools/genn19.py.) -/
namespace Go.Proofs.YtpcgkjngpdplmaaGreatDoor
open Go.RowKit Go.Maps
set_option linter.unusedVariables false
set_option linter.unusedSimpArgs false

theorem wtL_sub : ∀ (M L : List CS), M.Pairwise (fun a b => a ≠ b) → (∀ s ∈ M, s ∈ L) → wtL M ≤ wtL L
  | [], _, _, _ => Nat.zero_le _
  | s :: M, L, hp, hs => by
    obtain ⟨A, B, rfl⟩ := List.append_of_mem (hs s (List.mem_cons_self ..))
    have h1 := List.pairwise_cons.1 hp
    have h2 := wtL_sub M (A ++ B) h1.2 (fun t ht => by
      have := hs t (List.mem_cons_of_mem _ ht)
      rcases List.mem_append.1 this with h | h
      · exact List.mem_append.2 (.inl h)
      · rcases List.mem_cons.1 h with rfl | h
        · exact absurd rfl (h1.1 _ ht)
        · exact List.mem_append.2 (.inr h))
    rw [wtL_append] at h2
    rw [wtL_cons, wtL_append, wtL_cons]
    omega
theorem mk_map (cl : Nat) (w : World) : (Instr.makeMap 70 (some (.int .i64 (cl : Int)))).run Tryz.prog w = .ok (.map (some w.heap.size)) (w.alloc (.map #[] 0)) := by
  simp [Instr.makeMap, run_underlying Tryz.underlying70, asInt, Result.andThen]
  rfl
/-- While the states are gone through: those of 'done' have come. -/
structure BH (c : Cfg) (g : Nat) (D : CS → TL) (a : AN) (ab nb mb cb r nC : Nat) (w : World) (L done M : List CS) (n cnt : Nat) (W : World) : Prop where
  rng : KRng Tryz.prog 67 csV unitElem W cb r nC L done cnt
  tel : Tel ab nb mb a n M W
  bel : Below w.heap.size w W
  le : n ≤ wtL (behC D a done)
  mem : ∀ t, t ∈ M ↔ t ∈ behC D a done
theorem Tel.apart {ab nb mb : Nat} {a : AN} {n : Nat} {L : List CS} {W W' : World} (h : Tel ab nb mb a n L W) {r : Nat} (hg : W.grownBy W' (some r)) (h1 : ab ≠ r) (h2 : nb ≠ r) (h3 : mb ≠ r) : Tel ab nb mb a n L W' :=
  ⟨h.ans.grown hg h1, h.nxt.grown hg h2, h.set.kept hg (fun e => by injection e with e; exact h3 e)⟩
theorem BH.sum {c : Cfg} {g : Nat} {D : CS → TL} {a : AN} {ab nb mb cb r nC : Nat} {w : World} {L done M : List CS} {n cnt : Nat} {W : World} (h : BH c g D a ab nb mb cb r nC w L done M n cnt W) (hD : ∀ s, s.Ok c g → ∀ a, wtL (hitC a (D s)) ≤ s.wt) (hL : ∀ s ∈ L, s.Ok c g ∧ s.Wf) : n ≤ wtL L := by
  refine Nat.le_trans h.le (Nat.le_trans ?_ (wtL_sub done L ?_ h.rng.came))
  · have hc := h.rng.came
    clear h
    induction done with
    | nil => exact Nat.le_refl _
    | cons s d ih =>
      have := ih (fun t ht => hc t (List.mem_cons_of_mem _ ht))
      have h2 := hD s (hL s (hc s (List.mem_cons_self ..))).1 a
      unfold behC at this ⊢
      rw [List.flatMap_cons, wtL_append, wtL_cons]
      omega
  · exact h.rng.apart.imp (fun {x y} hne e => hne (by rw [e]))

set_option maxHeartbeats 4000000 in
set_option maxRecDepth 100000 in
theorem behind_any {c : Cfg} {g g' : Nat} {W0 : World} {k : Nat} {fs bs : Array Value} {D : CS → TL} (hD : DeedIs c g W0 k fs bs D) (hO : ∀ s, s.Ok c g → ∀ a, wtL (hitC a (D s)) ≤ s.wt) (hk : Ent k) (cb nC : Nat) (L : List CS) (hL : ∀ s ∈ L, s.Ok c g ∧ s.Wf) (hw : wtL L ≤ 1000000000) (hc : nC ≤ 1000000000) (a : AN) (ha : a.Wf) (w : World) (hb : Below W0.heap.size W0 w) (hset : KSet Tryz.prog 67 csV unitElem w cb nC L) :
    Calls Tryz.prog 16 #[.map (some cb), .func (.func k) fs bs, .agg (anC a 0).toArray] w fun e w' => ∃ mb n', e = .returned (.map (some mb)) ∧ KSet Tryz.prog 67 csV unitElem w' mb n' (behC D a L) ∧ n' ≤ wtL L ∧ Below w.heap.size w w' ∧ w.heap.size ≤ mb := by
  obtain ⟨w1, hw1⟩ : ∃ w1, w1 = w.alloc (.cells (anC a 0).toArray 39) := ⟨_, rfl⟩
  have hb1 : Below w.heap.size w w1 := by rw [hw1]; exact (Below.refl _ _).alloc (Nat.le_refl _) _
  have S1 : KSet Tryz.prog 67 csV unitElem w1 cb nC L := hset.below hb1 hset.lt
  have HS1 : Hid (KSet Tryz.prog 67 csV unitElem w1 cb nC L) := S1
  have HC : Hid (cb < w.heap.size) := hset.lt
  have hz1 : w1.heap.size = w.heap.size + 1 := by rw [hw1]; simp
  obtain ⟨w2, hw2⟩ : ∃ w2, w2 = (w1.alloc (.map #[] 0)).alloc (.cells #[.map (some (w.heap.size + 1))] 70) := ⟨_, rfl⟩
  have MK : ∀ (cl : Nat), (Instr.makeMap 70 (some (.int .i64 (cl : Int)))).run Tryz.prog w1 = .ok (.map (some w1.heap.size)) (w1.alloc (.map #[] 0)) := fun cl => mk_map cl w1
  have T2 : Tel w.heap.size (w.heap.size + 2) (w.heap.size + 1) a 0 [] w2 := by
    rw [hw2]
    have ra : Row w1 w.heap.size 39 (anC a 0) := by rw [hw1]; exact Row.at _ _ _ _ _ rfl rfl
    have ks := KSet.made (P := Tryz.prog) (k := 67) (f := csV) (R := unitElem) w1
    rw [hz1] at ks
    exact ⟨(ra.alloc _).alloc _, Row.at _ _ _ _ _ (by simp [hz1]) rfl, ks.below ((Below.refl _ _).alloc (Nat.le_refl _) _) ks.lt⟩
  have hb2 : Below w1.heap.size w1 w2 := by
    rw [hw2]
    exact ((Below.refl _ _).alloc (Nat.le_refl _) _).alloc (by simp) _
  have hz2 : w2.heap.size = w.heap.size + 3 := by rw [hw2]; simp [hz1]
  have HS2 : Hid (KSet Tryz.prog 67 csV unitElem w2 cb nC L) := S1.below hb2 S1.lt
  have HT2 : Hid (Tel w.heap.size (w.heap.size + 2) (w.heap.size + 1) a 0 [] w2 ∧ Below w.heap.size w w2) := ⟨T2, hb1.trans (hb2.mono hb1.size)⟩
  have HD : Hid (DeedIs c g W0 k fs bs D) := hD
  have HO : Hid (∀ s, s.Ok c g → ∀ a, wtL (hitC a (D s)) ≤ s.wt) := hO
  have HB : Hid (Below W0.heap.size W0 w) := hb
  have HL : Hid (∀ s ∈ L, s.Ok c g ∧ s.Wf) := hL
  have HA : Hid a.Wf := ha
  have hk2 : ∀ (args : Array Value) (w : World), (callFunc k args).run Tryz.prog w = .ok (.enter k args) w := hk
  have HN : Hid (wtL L ≤ 1000000000) := hw
  clear T2 hb2 S1 hb1 hset hD hO hb hL ha hk hw hc
  go_enter Tryz.func16, Tryz.ntmps16
  go_wp2_with (first
    | (rw [← hw1]; have hz := hw1; clear hz hw1)
    | (refine wpList_len_KSet (P := Tryz.prog) (k := 67) (f := csV) (R := unitElem) rfl (.tmp 10) 70 rfl 68 cs_keyed Tryz.underlying70 cb nC L rfl HS1.out ?_; intro cl hc1 hc2)
    | (rw [← hw2]; have hz := hw2; clear hz hw2)
    | (refine wpList_range_KSet (P := Tryz.prog) (k := 67) (f := csV) (R := unitElem) rfl (.tmp 14) 70 rfl 68 cs_keyed Tryz.underlying70 cb nC L rfl HS2.out ?_; intro w3 cnt0 hr3 hg3 hz3))
  have HZ2 : Hid (w2.heap.size = w.heap.size + 3) := hz2
  have B3 : BH c g D a w.heap.size (w.heap.size + 2) (w.heap.size + 1) cb w2.heap.size nC w L [] [] 0 cnt0 w3 := by
    have hb3 : Below w2.heap.size w2 w3 := below_of_grown0 hg3 (Nat.le_refl _)
    refine ⟨hr3, HT2.out.1.keep hb3, HT2.out.2.trans (hb3.mono HT2.out.2.size), Nat.zero_le _, fun t => ?_⟩
    exact ⟨(fun h => by cases h), (fun h => by cases h)⟩
  have HB3 : Hid (BH c g D a w.heap.size (w.heap.size + 2) (w.heap.size + 1) cb w2.heap.size nC w L [] [] 0 cnt0 w3) := B3
  clear B3 hr3 hg3 hz3 HS1 HS2 HT2 hc1 hc2 hz2 hz1 MK
  generalize w2.heap.size = r at *
  simp only [Act.put, List.setIfInBounds_toArray, List.set_cons_succ, List.set_cons_zero]
  go_loopw [16] (fun v wr => ∃ done M n cnt, Hid (BH c g D a w.heap.size (w.heap.size + 2) (w.heap.size + 1) cb r nC w L done M n cnt wr)) (fun _ wr => wr.rangeLeft cb r)
  case atStart => exact ⟨[], [], 0, cnt0, HB3⟩
  case round =>
    clear HB3
    obtain ⟨done, M, n, cnt, HR⟩ := hrel
    go_wp2_with (at_next; refine wpList_next_KSet (P := Tryz.prog) (k := 67) (f := csV) (R := unitElem) rfl (.tmp 15) rfl cs_keyed cb r nC L done cnt rfl HR.out.rng ?_ ?_)
    · intro hall
      have cn : wr.cell? ⟨w.heap.size + 2, 0, none⟩ = some (.map (some (w.heap.size + 1))) := HR.out.tel.nxt.cell 0 _ rfl
      have HF : Hid (KSet Tryz.prog 67 csV unitElem wr (w.heap.size + 1) n (behC D a L) ∧ n ≤ wtL L ∧ Below w.heap.size w wr ∧ w.heap.size ≤ w.heap.size + 1) := by
        refine ⟨HR.out.tel.set.same (fun t => ?_), HR.out.sum HO.out HL.out, HR.out.bel, Nat.le_succ _⟩
        rw [HR.out.mem t]
        constructor
        · intro h
          obtain ⟨s, hs, hh⟩ := List.mem_flatMap.1 h
          exact List.mem_flatMap.2 ⟨s, HR.out.rng.came s hs, hh⟩
        · intro h
          obtain ⟨s, hs, hh⟩ := List.mem_flatMap.1 h
          obtain ⟨u, hu, he⟩ := hall s hs
          have : u = s := csV_inj (HL.out u (HR.out.rng.came u hu)).2.len (HL.out s hs).2.len he
          exact List.mem_flatMap.2 ⟨s, this ▸ hu, hh⟩
      clear HR hall
      go_wp2
      go_ret
      exact ⟨_, n, rfl, HF.out⟩
    · intro s cV y1 y2 w4 cnt' hs hy hr4 hlt hg4 hz4 hen
      obtain ⟨ho, hwf⟩ := HL.out s hs
      have hzr := HZ2.out
      have T4 : Tel w.heap.size (w.heap.size + 2) (w.heap.size + 1) a n M w4 := HR.out.tel.apart hg4 (by omega) (by omega) (by omega)
      have hb4 : Below w.heap.size w w4 := HR.out.bel.trans (below_of_grown hg4 (by omega) HR.out.bel.size)
      obtain ⟨w5, hw5⟩ : ∃ w5, w5 = w4.alloc (.cells #[.int .i64 0, .int .i64 0, .int .i64 0, .int .i64 0, .int .i64 0, .int .i64 0, .int .i64 0, .int .i64 0, .int .u64 0, .int .i64 0, .int .i64 0, .bool false, .int .i64 0, .int .i64 0, .int .i16 0, .int .i8 0, .int .i8 0, .bool false, .bool false] 67) := ⟨_, rfl⟩
      have r5 : Row w5 w4.heap.size 67 (csC zCS) := by rw [hw5]; exact Row.at w4 67 (csC zCS) _ _ rfl rfl
      have LCS : Hid ((csC s).length = 19) := csC_len hwf.len
      have FIN : Hid (∀ w6, Row w6 w4.heap.size 67 (csC s) → SameBut w4.heap.size w5 w6 → Calls Tryz.prog k (fs ++ (#[.agg (csC s).toArray, .func (.func 26) #[] #[.pointer (some ⟨w.heap.size, 0, none⟩), .pointer (some ⟨w.heap.size + 2, 0, none⟩)]] ++ bs)) w6 fun e w7 => e = .returned (.tuple #[]) ∧ (∃ done M n cnt2, BH c g D a w.heap.size (w.heap.size + 2) (w.heap.size + 1) cb r nC w L done M n cnt2 w7) ∧ w7.rangeLeft cb r < cnt) := fun w6 hr6 hs6 => by
        have k5 : Below w4.heap.size w4 w5 := by rw [hw5]; exact (Below.refl _ _).alloc (Nat.le_refl _) _
        have k6 : Below w4.heap.size w4 w6 := hs6.below k5 (Nat.le_refl _)
        have hn : n ≤ wtL L := HR.out.sum HO.out HL.out
        have hnl := HN.out
        refine (HD.out w6 (HB.out.trans ((hb4.trans (k6.mono hb4.size)).mono HB.out.size)) _ _ _ a n M (by have := HB.out.size; omega) (T4.keep k6) HA.out (by omega) s ho hwf).mono ?_
        rintro e w7 ⟨rfl, hq⟩
        have hrg6 : KRng Tryz.prog 67 csV unitElem w6 cb r nC L (s :: done) cnt' := hr4.below k6 hr4.set.lt hr4.lt
        have hcb := HC.out
        have hrg7 : KRng Tryz.prog 67 csV unitElem w7 cb r nC L (s :: done) cnt' := hrg6.kept hq.grow (fun e => by injection e with e; omega) (fun e => by injection e with e; omega)
        refine ⟨rfl, ⟨s :: done, (hitC a (D s)).reverse ++ M, n + (hitC a (D s)).length, cnt', hrg7, hq.tel, (hb4.trans (k6.mono hb4.size)).trans (hq.below (by omega)), ?_, fun t => ?_⟩, by rw [hrg7.left]; exact hlt⟩
        · have h1 := HR.out.le
          have h2 := len_wtL (hitC a (D s))
          unfold behC at h1 ⊢
          rw [List.flatMap_cons, wtL_append]
          omega
        · unfold behC
          rw [List.flatMap_cons, List.mem_append, List.mem_append, List.mem_reverse]
          exact or_congr_right (HR.out.mem t)
      have HM : Hid (wr.rangeLeft cb r = cnt) := HR.out.rng.left
      clear T4 hb4 hr4 hg4 hz4 HR HL ho hwf hs hzr
      go_wp2_with (first
        | (rw [← hw5]; have hz := hw5; clear hz hw5)
        | (refine wpList_store_Row rfl 67 (.tmp 9) (.tmp 19) rfl w4.heap.size 67 0 (csC zCS) (csC s) r5 (by rw [LCS.out]; decide) rfl rfl (by rw [LCS.out]; kernel_rfl) (csC_one _) ?_; intro w6 hr6 hs6; have q6 := row_whole hr6 (by rw [LCS.out]; decide); have F6 := FIN.out w6 q6 hs6; clear hr6 hs6)
        | (refine wpList_load_whole_g ?_ 67 (.tmp 9) rfl w4.heap.size 67 19 (csC s) q6 rfl _ LCS.out Tryz.underlying67 rfl (by kernel_rfl) ?_; · rfl))
      refine F6.mono ?_
      rintro e w7 ⟨rfl, ⟨d2, M2, n2, cnt2, hB⟩, hm⟩
      dsimp only
      have HB7 : Hid (BH c g D a w.heap.size (w.heap.size + 2) (w.heap.size + 1) cb r nC w L d2 M2 n2 cnt2 w7) := hB
      clear hB
      go_wp2
      exact ⟨⟨d2, M2, n2, cnt2, HB7⟩, by rw [HM.out]; exact hm⟩
end Go.Proofs.YtpcgkjngpdplmaaGreatDoor


/-! The code's model: looked. (Printed by tools/genn19.py.) -/
namespace Go.Proofs.YtpcgkjngpdplmaaGreatDoor
open Go.RowKit Go.Maps
set_option linter.unusedVariables false
set_option linter.unusedSimpArgs false

def spC (o : SP) (bo : Option Addr) (bc : Nat) : List Value := [.int .i64 o.kind, .int .i64 o.n, .int .i64 o.v, .slice bo o.b.length bc]
theorem an_acts {a : AN} (h : a.h.length = 32) (acts : Int) : (anC a acts).set 35 (.int .i64 0) = anC a 0 := by
  unfold anC
  rw [List.set_append_right _ _ (by simp), List.set_append_right _ _ (by simp [h])]
  simp [h]
theorem an_hash {a : AN} (h : a.h.length = 32) (acts : Int) (t : List By) (ht : t.length = 32) : (anC a acts).take 3 ++ t.map B8 ++ (anC a acts).drop (3 + (t.map B8).length) = anC { a with h := t } acts := by
  unfold anC
  rw [List.take_append_of_le_length (by simp), List.take_of_length_le (by simp), List.length_map, ht, List.drop_append, List.drop_of_length_le (by simp), List.nil_append, List.drop_append, List.drop_of_length_le (by simp [h]), List.nil_append]
  simp [h]
set_option maxHeartbeats 2000000 in
set_option maxRecDepth 100000 in
theorem looked_any (o : SP) (bo : Option Addr) (bc : Nat) (a : AN) (acts : Int) (ha : a.h.length = 32) (w : World) :
    Calls Tryz.prog 18 #[.agg (spC o bo bc).toArray, .agg (anC a acts).toArray] w fun e w' => e = .returned (.agg (anC (lookC o a) 0).toArray) ∧ Below w.heap.size w w' := by
  obtain ⟨w1, hw1⟩ : ∃ w1, w1 = ((w.alloc (.cells (spC o bo bc).toArray 34)).alloc (.cells (anC a acts).toArray 39)).alloc (.cells #[.int .i64 0, .int .i64 0, .bool false, .int .u8 0, .int .u8 0, .int .u8 0, .int .u8 0, .int .u8 0, .int .u8 0, .int .u8 0, .int .u8 0, .int .u8 0, .int .u8 0, .int .u8 0, .int .u8 0, .int .u8 0, .int .u8 0, .int .u8 0, .int .u8 0, .int .u8 0, .int .u8 0, .int .u8 0, .int .u8 0, .int .u8 0, .int .u8 0, .int .u8 0, .int .u8 0, .int .u8 0, .int .u8 0, .int .u8 0, .int .u8 0, .int .u8 0, .int .u8 0, .int .u8 0, .int .u8 0, .int .i64 0] 39) := ⟨_, rfl⟩
  have hb1 : Below w.heap.size w w1 := by rw [hw1]; exact (((Below.refl _ _).alloc (Nat.le_refl _) _).alloc (by simp) _).alloc (by simp; omega) _
  have r0 : Row w1 w.heap.size 34 (spC o bo bc) := by rw [hw1]; exact ((Row.at w 34 _ _ _ rfl rfl).alloc _).alloc _
  have r1 : Row w1 (w.heap.size + 1) 39 (anC a acts) := by rw [hw1]; exact (Row.at _ _ _ _ _ (by simp) rfl).alloc _
  have r2 : Row w1 (w.heap.size + 2) 39 (anC (an0 0) 0) := by rw [hw1]; exact Row.at _ _ (anC (an0 0) 0) _ _ (by simp) rfl
  have c1 : w1.cell? ⟨w.heap.size + 1, 35, none⟩ = some (.int .i64 acts) := r1.cell 35 _ (by unfold anC; rw [List.getElem?_append_right (by simp), List.getElem?_append_right (by simp [ha])]; simp [ha])
  have f1 : w1.frozen? ⟨w.heap.size + 1, 35, none⟩ = false := r1.frozen 35
  obtain ⟨w2, hw2⟩ : ∃ w2, w2 = w1.setCell ⟨w.heap.size + 1, 35, none⟩ (.int .i64 0) := ⟨_, rfl⟩
  have hs2 : SameBut (w.heap.size + 1) w1 w2 := by rw [hw2]; exact SameBut.setCell ..
  have q0 : Row w2 w.heap.size 34 (spC o bo bc) := r0.but hs2 (by omega)
  have q1 : Row w2 (w.heap.size + 1) 39 (anC a 0) := by rw [hw2, ← an_acts ha acts]; exact r1.set 35 _
  have q2 : Row w2 (w.heap.size + 2) 39 (anC (an0 0) 0) := r2.but hs2 (by omega)
  have hb2 : Hid (Below w.heap.size w w2) := hs2.below hb1 (by omega)
  have ck : w2.cell? ⟨w.heap.size, 0, none⟩ = some (.int .i64 o.kind) := q0.cell 0 _ rfl
  have LA : Hid ((anC a 0).length = 36) := anC_len ha
  have hl : Hid (a.h.length = 32) := ha
  unfold lookC
  by_cases hk : o.kind = 13
  · rw [if_pos hk]
    rw [hk] at ck
    have LB : Hid ((anC { a with h := zH } 0).length = 36) := anC_len (by show (List.replicate 32 (0 : By)).length = 32; simp)
    clear r0 r1 r2 hs2 hb1 q0 ha hk
    go_enter Tryz.func18, Tryz.ntmps18
    go_wp2_with (first
      | (rw [← hw1]; have hz := hw1; clear hz hw1)
      | (rw [← hw2]; have hz := hw2; clear hz hw2)
      | (refine wpList_store_Row rfl 37 (.tmp 10) (.tmp 9) rfl (w.heap.size + 1) 39 3 (anC a 0) (zH.map B8) q1 (by rw [LA.out]; decide) rfl rfl (by kernel_rfl) (B8_one _) ?_; intro w3 hr3 hs3; have r3 : Row w3 (w.heap.size + 1) 39 (anC { a with h := zH } 0) := (by rw [← an_hash hl.out 0 zH (by simp)]; exact hr3); have r4 := q2.but hs3 (by omega); have hb3 : Hid (Below w.heap.size w w3) := hs3.below hb2.out (by omega); clear hr3 hs3 q1 q2)
      | (have hq := hb3; clear hq; refine wpList_load_whole_g ?_ 39 (.tmp 3) rfl (w.heap.size + 1) 39 36 (anC { a with h := zH } 0) r3 rfl _ LB.out Tryz.underlying39 rfl (by kernel_rfl) ?_; · rfl)
      | (have hq := hb3; clear hq; refine wpList_store_Row rfl 39 (.tmp 4) (.tmp 11) rfl (w.heap.size + 2) 39 0 (anC (an0 0) 0) (anC { a with h := zH } 0) r4 (by rw [LB.out]; decide) rfl rfl (by rw [LB.out]; kernel_rfl) (anC_one _ _) ?_; intro w9 hr9 hs9; have r9 := row_whole hr9 (by rw [LB.out]; decide); have HB9 : Hid (Below w.heap.size w w9) := hs9.below hb3.out (by omega); clear hr9 hs9))
    refine bodyPost_ret (results_Row Tryz.results18 _ w9 (w.heap.size + 2) 39 _ _ rfl r9 Tryz.underlying39 rfl (by rw [LB.out]; kernel_rfl)) rfl ?_
    exact ⟨rfl, HB9.out⟩
  · rw [if_neg hk]
    clear r0 r1 r2 hs2 hb1 q0 ha
    go_enter Tryz.func18, Tryz.ntmps18
    go_wp2_with (first
      | (rw [← hw1]; have hz := hw1; clear hz hw1)
      | (rw [← hw2]; have hz := hw2; clear hz hw2)
      | (refine wpList_load_whole_g ?_ 39 (.tmp 3) rfl (w.heap.size+1) 39 36 (anC a 0) q1 rfl _ LA.out Tryz.underlying39 rfl (by kernel_rfl) ?_; · rfl)
      | (refine wpList_store_Row rfl 39 (.tmp 4) (.tmp 11) rfl (w.heap.size + 2) 39 0 (anC (an0 0) 0) (anC a 0) q2 (by rw [LA.out]; decide) rfl rfl (by rw [LA.out]; kernel_rfl) (anC_one _ _) ?_; intro w9 hr9 hs9; have r9 := row_whole hr9 (by rw [LA.out]; decide); have HB9 : Hid (Below w.heap.size w w9) := hs9.below hb2.out (by omega); clear hr9 hs9))
    refine bodyPost_ret (results_Row Tryz.results18 _ w9 (w.heap.size + 2) 39 _ _ rfl r9 Tryz.underlying39 rfl (by rw [LA.out]; kernel_rfl)) rfl ?_
    exact ⟨rfl, HB9.out⟩
end Go.Proofs.YtpcgkjngpdplmaaGreatDoor
