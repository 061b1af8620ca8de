import Derived.Test.YtjooabgjkjnhhaaGreatDoorT24K
import Derived.Test.YtjooabgjkjnhhaaGreatDoorI11Inv
import Derived.ArgAppend
import Derived.Laws.MakeOwn

/-! The law's token: Few, caveat, back. (Printed by tools/gent24b.py.) -/
namespace Go.Proofs.YtjooabgjkjnhhaaGreatDoor
open Go.RowKit
set_option linter.unusedVariables false
set_option linter.unusedSimpArgs false
set_option maxRecDepth 100000

set_option maxHeartbeats 1000000 in
theorem r24Few_any (a : Tk) (io : Option Addr) (ic : Nat) (lo : Option Addr) (lc : Nat) (w : World) : Calls Tryz.prog 7 #[.agg (tkCells a io ic lo lc).toArray] w fun e w' => e = .returned (.bool (decide (a.cs.length ≤ 65536))) ∧ Below w.heap.size w w' := by
  obtain ⟨T1, hT1⟩ : ∃ T, T = tkCells a io ic lo lc := ⟨_, rfl⟩
  have g2 : T1[2]? = some (.slice lo a.cs.length lc) := by rw [hT1]; rfl
  rw [← hT1]
  obtain ⟨W1, hW1⟩ : ∃ W1, W1 = w.alloc (.cells T1.toArray 28) := ⟨_, rfl⟩
  have r1 : Row W1 w.heap.size 28 T1 := by rw [hW1]; exact Row.at w _ _ _ _ rfl rfl
  have HB : Hid (Below w.heap.size w W1) := by rw [hW1]; exact (Below.refl _ _).alloc (Nat.le_refl _) _
  have a2 := r1.cell 2 _ g2
  clear hT1 r1 g2
  generalize a.cs.length = m at *
  go_enter Tryz.func7, Tryz.ntmps7
  go_wp2_with (rw [← hW1]; clear hW1)
  go_ret
  exact ⟨by simp; omega, HB.out⟩

set_option maxHeartbeats 1000000 in
theorem l24caveat_any (c : Cv) (w : World) : Calls Tryz.prog 16 #[.agg (cvC c).toArray] w fun e w' => e = .returned (.agg (cvC c).toArray) ∧ Below w.heap.size w w' := by
  obtain ⟨k, s, f, t, z⟩ := c
  show Calls Tryz.prog 16 #[.agg #[.int .i64 k, .int .i64 s, .int .i64 f, .int .i64 t, .int .u64 (z : Int)]] w _
  obtain ⟨W1, hW1⟩ : ∃ W1, W1 = (w.alloc (.cells #[.int .i64 k, .int .i64 s, .int .i64 f, .int .i64 t, .int .u64 (z : Int)] 50)).alloc (.cells zCv.toArray 52) := ⟨_, rfl⟩
  have r0 : Row W1 w.heap.size 50 [.int .i64 k, .int .i64 s, .int .i64 f, .int .i64 t, .int .u64 (z : Int)] := by rw [hW1]; exact (Row.at w _ _ _ _ rfl rfl).alloc _
  have r1 : Row W1 (w.heap.size + 1) 52 zCv := by rw [hW1]; exact Row.at _ _ _ _ _ (by simp) rfl
  have HB : Hid (Below w.heap.size w W1) := by rw [hW1]; exact ((Below.refl _ _).alloc (Nat.le_refl _) _).alloc (by simp) _
  have c0 := r0.cell 0 _ rfl; have c1 := r0.cell 1 _ rfl; have c2 := r0.cell 2 _ rfl; have c3 := r0.cell 3 _ rfl; have c4 := r0.cell 4 _ rfl
  clear r0
  go_enter Tryz.func16, Tryz.ntmps16
  go_wp2_with (first
    | (have hz := hW1; clear hz; refine wpList_at24 hW1 ?_; clear hW1)
    | (refine wpList_store_Row rfl 52 _ _ rfl (w.heap.size + 1) 52 0 zCv [.int .i64 k, .int .i64 s, .int .i64 f, .int .i64 t, .int .u64 (z : Int)] r1 (Nat.le_refl _) rfl rfl (by kernel_rfl) (cvC_one ⟨k, s, f, t, z⟩) ?_; intro w2 hr2 hs2))
  have q2 := row_whole hr2 (by simp [zCv])
  refine bodyPost_ret_by (results_Row Tryz.results16 _ w2 (w.heap.size + 1) 52 _ _ rfl q2 Tryz.underlying52 rfl (by kernel_rfl)) rfl ⟨rfl, ?_⟩
  exact hs2.below HB.out (by omega)
end Go.Proofs.YtjooabgjkjnhhaaGreatDoor


/-! The law's token: back. -/
namespace Go.Proofs.YtjooabgjkjnhhaaGreatDoor
open Go.RowKit
set_option linter.unusedVariables false
set_option linter.unusedSimpArgs false
set_option maxRecDepth 100000

theorem build_tk3 (key : Int) (io : Option Addr) (n ic : Nat) (w : World) : ∀ (d : List By), d.length = 32 → (Instr.build 28 #[(0, .int .i64 key), (1, .slice io n ic), (3, .agg (d.map B8).toArray)]).run Tryz.prog w = .ok (.agg (tkC key io n ic none 0 0 d).toArray) w
  | [x0, x1, x2, x3, x4, x5, x6, x7, x8, x9, x10, x11, x12, x13, x14, x15, x16, x17, x18, x19, x20, x21, x22, x23, x24, x25, x26, x27, x28, x29, x30, x31], _ => by kernel_rfl
theorem build_tk4 (key : Int) (io : Option Addr) (n ic : Nat) (lo : Option Addr) (m lc : Nat) (w : World) : ∀ (d : List By), d.length = 32 → (Instr.build 40 #[(0, .int .i64 key), (1, .slice io n ic), (2, .slice lo m lc), (3, .agg (d.map B8).toArray)]).run Tryz.prog w = .ok (.agg (tkC key io n ic lo m lc d).toArray) w
  | [x0, x1, x2, x3, x4, x5, x6, x7, x8, x9, x10, x11, x12, x13, x14, x15, x16, x17, x18, x19, x20, x21, x22, x23, x24, x25, x26, x27, x28, x29, x30, x31], _ => by kernel_rfl
theorem wpList_build3 {ops : Array Oper} {rest : List Oper} {o : Oper} {a : Act} {w : World} {Q : Exit → Act → World → Prop} (hg : o.guard = none) (t : TypeId) (i j k : Nat) (x y z : Operand) (ho : o.op = .build t #[(i, x), (j, y), (k, z)])
    (vx vy vz v : Value) (hx : a.eval x = vx) (hy : a.eval y = vy) (hz : a.eval z = vz) (hrun : (Instr.build t #[(i, vx), (j, vy), (k, vz)]).run Tryz.prog w = .ok v w) (h : wpList Tryz.prog ops Q rest (a.put o.dst v) w) : wpList Tryz.prog ops Q (o :: rest) a w := by
  subst hx; subst hy; subst hz
  refine wpList_plain hg fun K hK => ?_
  unfold Oper.wp execOp
  simp only [ho, List.map_toArray, List.map_cons, List.map_nil, Sem.run_bind, Sem.run_pure, hrun, Result.andThen_ok]
  exact hK _ _ h
theorem step_build4 {ops : Array Oper} {o : Oper} {a : Act} {w : World} {K : Act → World → Prop} {Q : Exit → Act → World → Prop} {X : Prop} (hw : Region.wanted o (yielded ops a.tmps) = true) (t : TypeId) (i j k l : Nat) (x y z u : Operand) (ho : o.op = .build t #[(i, x), (j, y), (k, z), (l, u)])
    (vx vy vz vu v : Value) (hx : a.eval x = vx) (hy : a.eval y = vy) (hz : a.eval z = vz) (hu : a.eval u = vu) (hrun : (Instr.build t #[(i, vx), (j, vy), (k, vz), (l, vu)]).run Tryz.prog w = .ok v w) (h : K (a.put o.dst v) w) : if Region.wanted o (yielded ops a.tmps) = true then Oper.wp Tryz.prog o a w K Q else X := by
  subst hx; subst hy; subst hz; subst hu
  rw [if_pos hw]
  unfold Oper.wp execOp
  simp only [ho, List.map_toArray, List.map_cons, List.map_nil, Sem.run_bind, Sem.run_pure, hrun, Result.andThen_ok]
  exact h
/-- Between two caveats of back. -/
structure BK (w : World) (x : Tk) (io : Option Addr) (ic : Nat) (lo : Option Addr) (lc : Nat) (LC : List Cv) (lo' : Option Addr) (lc' : Nat) (W : World) : Prop where
  bel : Below w.heap.size w W
  box : Row W w.heap.size 40 (tkCells x io ic lo lc)
  res : Row W (w.heap.size + 1) 28 zTk
  t : Row W (w.heap.size + 2) 28 (tkC x.key io x.id.length ic lo' LC.length lc' x.tag)
  cav : W.ownsRow (w.heap.size + 3) 50 5 (.slice lo' LC.length lc') LC.length (LC.flatMap cvC)
  sz : w.heap.size + 3 ≤ W.heap.size
section
variable {w : World} {x : Tk} {io : Option Addr} {ic : Nat} {lo : Option Addr} {lc : Nat} {LC : List Cv} {lo' : Option Addr} {lc' : Nat} {W W2 : World}
theorem BK.keep (h : BK w x io ic lo lc LC lo' lc' W) (hb : Below W.heap.size W W2) : BK w x io ic lo lc LC lo' lc' W2 :=
  ⟨h.bel.trans (hb.mono h.bel.size), h.box.below hb h.box.lt, h.res.below hb h.res.lt, h.t.below hb h.t.lt, owB_keep h.cav hb, Nat.le_trans h.sz hb.size⟩
theorem BK.push (h : BK w x io ic lo lc LC lo' lc' W) (c : Cv) {lo2 : Option Addr} {lc2 : Nat} (hz : W.heap.size ≤ W2.heap.size) (hbel : Below (w.heap.size + 3) W W2) (ho : W2.ownsRow (w.heap.size + 3) 50 5 (.slice lo2 (LC.length + 1) lc2) (LC.length + 1) (LC.flatMap cvC ++ cvC c)) :
    BK w x io ic lo lc (LC ++ [c]) lo2 lc2 (W2.setCell ⟨w.heap.size + 2, 2, none⟩ (.slice lo2 (LC.length + 1) lc2)) := by
  have t2 := h.t.below hbel (by omega)
  have hs := SameBut.setCell (w.heap.size + 2) 2 (.slice lo2 (LC.length + 1) lc2) W2
  refine ⟨hs.below (h.bel.trans (hbel.mono (by omega))) (by omega), (h.box.below hbel (by omega)).but hs (by omega), (h.res.below hbel (by omega)).but hs (by omega), ?_, ?_, by rw [hs.size]; exact Nat.le_trans h.sz hz⟩
  · have := t2.set 2 (.slice lo2 (LC.length + 1) lc2)
    rw [List.length_append]
    exact this
  · rw [List.flatMap_append, List.length_append]
    have := owB_but ho hs t2 (by decide)
    simpa using this
end
theorem cvs_of_own {W : World} {N ct : Nat} {LC : List Cv} {lo : Option Addr} {lc : Nat} (h : W.ownsRow N ct 5 (.slice lo LC.length lc) LC.length (LC.flatMap cvC)) : CvsIn W lo LC ∧ (lo = none → lc = 0) ∧ LC.length ≤ lc := by
  refine ⟨fun i c hi => ?_, fun e => ?_, ?_⟩
  · have hil : i < LC.length := (List.getElem?_eq_some_iff.1 hi).1
    rcases h.2 with ⟨e, e0⟩ | ⟨g, cc, cur, e, hg, hh, hn, hcm, hcs, htk⟩
    · omega
    · injection e with e1 _ _
      refine ⟨g, 0, e1, (Array.getElem?_eq_some_iff.1 hh).1, fun j v hv => ?_⟩
      have := h.cells (g := g) (by rw [e1]; rfl) (i * 5 + j) v (flC_at LC i c hi j v hv)
      rw [Addr.add_mid, ← Nat.add_assoc] at this
      exact this
  · rcases h.2 with ⟨e1, _⟩ | ⟨g, c', cur, e1, _⟩
    · injection e1
    · injection e1 with e2; rw [e2] at e; cases e
  · rcases h.2 with ⟨e1, e0⟩ | ⟨g, c', cur, e1, _, _, hn, _⟩
    · omega
    · injection e1 with _ _ e3; omega
theorem flat_take (l : List Cv) (i : Nat) (c : Cv) (h : l[i]? = some c) : l.take (i + 1) = l.take i ++ [c] := by rw [List.take_add_one, h]; rfl
/-- What back tells, the caveats in memory of their own. -/
def BackO (x : Tk) (io : Option Addr) (ic : Nat) (w : World) (e : Ending) (w' : World) : Prop := ∃ lo' lc', e = .returned (.agg (tkCells x io ic lo' lc').toArray) ∧ TkV w' x io ic lo' lc' ∧ w'.ownsRow w.heap.size 50 5 (.slice lo' x.cs.length lc') x.cs.length (x.cs.flatMap cvC) ∧ Below w.heap.size w w'
def BackP (x : Tk) (io : Option Addr) (ic : Nat) (w : World) (e : Ending) (w' : World) : Prop := ∃ lo' lc', e = .returned (.agg (tkCells x io ic lo' lc').toArray) ∧ TkV w' x io ic lo' lc' ∧ Below w.heap.size w w'
set_option maxHeartbeats 2000000 in
theorem l24back_own (x : Tk) (io : Option Addr) (ic : Nat) (lo : Option Addr) (lc : Nat) (w : World) (h : TkV w x io ic lo lc) (hl : x.cs.length ≤ 100000) : Calls Tryz.prog 13 #[.agg (tkCells x io ic lo lc).toArray] w (BackO x io ic w) := by
  obtain ⟨T, hT⟩ : ∃ T, T = tkCells x io ic lo lc := ⟨_, rfl⟩
  have g0 : T[0]? = some (.int .i64 x.key) := by rw [hT]; rfl
  have g1 : T[1]? = some (.slice io x.id.length ic) := by rw [hT]; rfl
  have g2 : T[2]? = some (.slice lo x.cs.length lc) := by rw [hT]; rfl
  have P1 : Hid ((T.drop 3).take 32 = x.tag.map B8) := by rw [hT]; exact tkC_tagpart _ _ _ _ _ _ _ _ h.tag
  have HT1 : Hid ((x.tag.map B8).length = 32) := by show _ = _; rw [List.length_map, h.tag]
  obtain ⟨W1, hW1⟩ : ∃ W1, W1 = (w.alloc (.cells T.toArray 40)).alloc (.cells zTk.toArray 28) := ⟨_, rfl⟩
  have r1 : Row W1 w.heap.size 40 T := by rw [hW1]; exact (Row.at w _ _ _ _ rfl rfl).alloc _
  have r2 : Row W1 (w.heap.size + 1) 28 zTk := by rw [hW1]; exact Row.at _ _ _ _ _ (by simp) rfl
  have b1 : Below w.heap.size w W1 := by rw [hW1]; exact ((Below.refl _ _).alloc (Nat.le_refl _) _).alloc (by simp) _
  have s1 : W1.heap.size = w.heap.size + 2 := by rw [hW1]; simp
  have a0 := r1.cell 0 _ g0; have a1 := r1.cell 1 _ g1
  have BT : Hid (∀ W, (Instr.build 28 #[(0, .int .i64 x.key), (1, .slice io x.id.length ic), (3, .agg (x.tag.map B8).toArray)]).run Tryz.prog W = .ok (.agg (tkC x.key io x.id.length ic none 0 0 x.tag).toArray) W) := fun W => build_tk3 x.key io x.id.length ic W x.tag h.tag
  obtain ⟨T3, hT3⟩ : ∃ T3, T3 = tkC x.key io x.id.length ic none 0 0 x.tag := ⟨_, rfl⟩
  have l3 : T3.length = 35 := by rw [hT3]; exact tkC_len h.tag
  rw [← hT3] at BT
  have HZ : Hid (Row (W1.alloc (.cells zTk.toArray 28)) (w.heap.size + 2) 28 zTk) := Row.at W1 _ _ _ _ (by omega) rfl
  have L3 : Hid (T3.length = 35) := l3
  have O3 : Hid (∀ v ∈ T3, v.oneCell' = true) := by rw [hT3]; exact tkC_one _ _ _ _ _ _ _ _
  have FST : Hid (∀ w3, Row w3 (w.heap.size + 2) 28 (zTk.take 0 ++ T3 ++ zTk.drop (0 + T3.length)) → SameBut (w.heap.size + 2) (W1.alloc (.cells zTk.toArray 28)) w3 → BK w x io ic lo lc [] none 0 w3) := fun w3 hr hs => by
    have hb : Below W1.heap.size W1 (W1.alloc (.cells zTk.toArray 28)) := (Below.refl _ _).alloc (Nat.le_refl _) _
    refine ⟨hs.below (b1.trans (hb.mono b1.size)) (by omega), (by rw [← hT]; exact (r1.below hb r1.lt).but hs (by omega)), (r2.below hb r2.lt).but hs (by omega), (by have := row_whole hr (by rw [l3]; exact Nat.le_refl _); rw [hT3] at this; exact this), World.ownsRow_nil _ _ _ _, by rw [hs.size]; simp; omega⟩
  have TV : Hid (TkV w x io ic lo lc) := h
  have HTL : Hid (T.length = 35) := by rw [hT]; exact tkC_len h.tag
  have T2 : Hid (∀ W LC lo' lc', BK w x io ic lo lc LC lo' lc' W → W.cell? ⟨w.heap.size, 2, none⟩ = some (.slice lo x.cs.length lc)) := fun W LC lo' lc' hk => by
    have := hk.box
    exact this.cell 2 _ rfl
  have S1 : Hid (W1.heap.size = w.heap.size + 2) := s1
  rw [← hT]
  clear h hT g0 g1 g2 r2 b1 hT3 l3
  obtain ⟨m, hm⟩ : ∃ m, m = x.cs.length := ⟨_, rfl⟩
  have HM : Hid (m = x.cs.length) := hm
  rw [← hm] at T2
  have HML : Hid (m ≤ 100000) := by show m ≤ _; omega
  clear hm hl s1
  go_enter Tryz.func13, Tryz.ntmps13
  refine wp_seq_k fun K hK => ?_
  have HKS : Hid _ := hK
  clear hK
  go_wp2
  refine HKS.out _ _ ?_
  clear HKS
  refine wp_at24 hW1 ?_
  clear hW1
  have s1 := S1.out
  refine wp_seq_k fun K hK => ?_
  have HKS : Hid _ := hK
  clear hK
  go_wp2_with (first
    | (have hz := P1; clear hz; refine wpList_load_part_g ?_ 26 (.tmp 10) rfl w.heap.size 3 40 32 T r1 rfl _ (x.tag.map B8) P1.out HT1.out Tryz.underlying26 rfl (by kernel_rfl) ?_; · rfl)
    | (have hz := BT; clear hz; refine wpList_build3 rfl 28 0 1 3 (.tmp 7) (.tmp 9) (.tmp 11) rfl (.int .i64 x.key) (.slice io x.id.length ic) (.agg (x.tag.map B8).toArray) _ rfl rfl rfl (BT.out _) ?_; clear BT)
    | (have hz := HZ; clear hz; refine wpList_store_Row rfl 28 _ _ rfl (w.heap.size + 2) 28 0 zTk T3 HZ.out (by rw [L3.out]; exact Nat.le_refl _) rfl rfl (by rw [L3.out]; kernel_rfl) O3.out ?_; intro w3 hr3 hs3; have HK : Hid (BK w x io ic lo lc [] none 0 w3) := FST.out w3 hr3 hs3; have x2 := T2.out w3 [] none 0 HK.out; clear HZ hr3 hs3 FST a0 a1 r1 s1))
  refine HKS.out _ _ ?_
  clear HKS
  go_wp2
  go_loopw [16] (fun iv wr => ∃ (i : Nat) (lo' : Option Addr) (lc' : Nat), i ≤ m ∧ iv = .int .i64 (i : Int) ∧ Hid (BK w x io ic lo lc (x.cs.take i) lo' lc' wr)) (fun iv _ => m - (intOf iv).toNat)
  case atStart => exact ⟨0, none, 0, by omega, rfl, HK⟩
  case round =>
    clear HK x2
    obtain ⟨i, lo', lc', hi, rfl, HI⟩ := hrel
    by_cases hlt : i < m
    · have y0 : (0 : Int) ≤ (i : Int) := by omega
      have y1 : (i : Int) < (m : Int) := by omega
      have z1 : IntKind.i64.wrap ((i : Int) + 1) = (i : Int) + 1 := i64_in _ (by omega) (by have := HML.out; omega)
      obtain ⟨c, hc⟩ : ∃ c, x.cs[i]? = some c := ⟨_, List.getElem?_eq_getElem (by rw [← HM.out]; exact hlt)⟩
      obtain ⟨B, off, hlo, hB, hr⟩ := (TV.out.keep HI.out.bel).cs i c hc
      subst hlo
      have HTK : Hid (x.cs.take (i + 1) = x.cs.take i ++ [c]) := flat_take x.cs i c hc
      have HLN : Hid ((x.cs.take i).length = i) := by show _ = _; rw [List.length_take, ← HM.out]; omega
      have HLT : Hid (i < m) := hlt
      obtain ⟨k, s, f, t, z⟩ := c
      have hr' : wr.rangeAt B (off + i * 5) [.int .i64 k, .int .i64 s, .int .i64 f, .int .i64 t, .int .u64 (z : Int)] := hr
      have CO : Hid (∀ v ∈ [Value.int .i64 k, .int .i64 s, .int .i64 f, .int .i64 t, .int .u64 (z : Int)], v.oneCell' = true) := cvC_one ⟨k, s, f, t, z⟩
      generalize x.cs.take i = LC at *
      have HLE : Hid (LC.length ≤ 100000) := by show _ ≤ _; rw [HLN.out]; have := HML.out; omega
      obtain ⟨w4, hw4⟩ : ∃ w4, w4 = wr.alloc (.cells #[.int .i64 k, .int .i64 s, .int .i64 f, .int .i64 t, .int .u64 (z : Int)] 52) := ⟨_, rfl⟩
      have r4 : Row w4 wr.heap.size 52 [.int .i64 k, .int .i64 s, .int .i64 f, .int .i64 t, .int .u64 (z : Int)] := by rw [hw4]; exact Row.at wr _ _ _ _ rfl rfl
      have HK4 : Hid (BK w x (io) ic (some ⟨B, off, none⟩) lc LC lo' lc' w4) := by rw [hw4]; exact HI.out.keep ((Below.refl _ _).alloc (Nat.le_refl _) _)
      have d0 := r4.cell 0 _ rfl; have d1 := r4.cell 1 _ rfl; have d2 := r4.cell 2 _ rfl; have d3 := r4.cell 3 _ rfl; have d4 := r4.cell 4 _ rfl
      have x4 := HK4.out.t.cell 2 _ rfl
      obtain ⟨w5, hw5⟩ : ∃ w5, w5 = w4.alloc (.cells #[.int .i64 k, .int .i64 s, .int .i64 f, .int .i64 t, .int .u64 (z : Int)] 50) := ⟨_, rfl⟩
      have HK5 : Hid (BK w x io ic (some ⟨B, off, none⟩) lc LC lo' lc' w5 ∧ Row w5 w4.heap.size 50 [.int .i64 k, .int .i64 s, .int .i64 f, .int .i64 t, .int .u64 (z : Int)]) := by rw [hw5]; exact ⟨HK4.out.keep ((Below.refl _ _).alloc (Nat.le_refl _) _), Row.at w4 _ _ _ _ rfl rfl⟩
      clear hc hr hlt hi HI r4 HK4
      go_wp2_with (first
        | (have hz := hr'; clear hz; refine wpList_load_mid rfl 52 (.tmp 18) rfl B (off + i * 5) rfl [.int .i64 k, .int .i64 s, .int .i64 f, .int .i64 t, .int .u64 (z : Int)] _ hr' Tryz.underlying52 rfl (by kernel_rfl) ?_; clear hr')
        | (have hz := hw4; clear hz; rw [← hw4]; clear hw4)
        | (have hz := hw5; clear hz; rw [← hw5]; clear hw5)
        | (at_builtin; have hz := HK5; clear hz; refine wpList_append_where el_cavs24 rfl (.tmp 21) (.tmp 33) rfl (w.heap.size + 3) w5 lo' LC.length lc' (LC.flatMap cvC) rfl HK5.out.1.cav HK5.out.1.sz (Below.refl _ _) w4.heap.size 0 1 1 [.int .i64 k, .int .i64 s, .int .i64 f, .int .i64 t, .int .u64 (z : Int)] rfl rfl (fun j u hu => (by rw [Nat.zero_add]; exact HK5.out.2.cell j u hu)) (by omega) CO.out (by have := HLE.out; unfold maxLen; omega) (by have := HLE.out; omega) ?_
           intro lo6 lc6 w6 g1 g2 g3 g4 g5
           have t6 := HK5.out.1.t.below g2 (by omega)
           have c26 := t6.cell 2 _ rfl
           have f26 : w6.frozen? ⟨w.heap.size + 2, 2, none⟩ = false := t6.frozen 2
           have HN : Hid (BK w x io ic (some ⟨B, off, none⟩) lc (LC ++ [⟨k, s, f, t, z⟩]) lo6 lc6 (w6.setCell ⟨w.heap.size + 2, 2, none⟩ (.slice lo6 (LC.length + 1) lc6))) := HK5.out.1.push ⟨k, s, f, t, z⟩ g3 g2 g1
           clear g1 g2 g3 g4 g5 t6 HK5 x4 d0 d1 d2 d3 d4))
      exact ⟨⟨i + 1, lo6, lc6, HLT.out, by go_num, by rw [HTK.out]; exact HN⟩, by have := HLT.out; simp [intOf]; omega⟩
    · obtain rfl : i = m := by omega
      have y1 : ¬ ((i : Nat) : Int) < (i : Int) := by omega
      have HI2 : Hid (BK w x io ic lo lc x.cs lo' lc' wr) := by
        have := HI.out
        rw [List.take_of_length_le (by rw [← HM.out]; exact Nat.le_refl _)] at this
        exact this
      obtain ⟨C5, hC5⟩ : ∃ C5, C5 = tkC x.key io x.id.length ic lo' x.cs.length lc' x.tag := ⟨_, rfl⟩
      have L5 : Hid (C5.length = 35) := by show _ = _; rw [hC5]; exact tkC_len TV.out.tag
      have R5 : Hid (Row wr (w.heap.size + 2) 28 C5) := by rw [hC5]; exact HI2.out.t
      have O5 : Hid (∀ v ∈ C5, v.oneCell' = true) := by rw [hC5]; exact tkC_one _ _ _ _ _ _ _ _
      have H5 : Hid (C5 = tkCells x io ic lo' lc') := hC5
      clear HI hC5
      go_wp2_with (first
        | (have hz := R5; clear hz; refine wpList_load_Row rfl 28 (.tmp 3) rfl (w.heap.size + 2) 28 C5 R5.out rfl _ Tryz.underlying28 rfl (by rw [L5.out]; kernel_rfl) ?_; clear R5)
        | (refine wpList_store_Row rfl 28 _ _ rfl (w.heap.size + 1) 28 0 zTk C5 HI2.out.res (by rw [L5.out]; exact Nat.le_refl _) rfl rfl (by rw [L5.out]; kernel_rfl) O5.out ?_; intro w2 hr2 hs2))
      have q2 := row_whole hr2 (by rw [L5.out]; exact Nat.le_refl _)
      refine bodyPost_ret_by (results_Row Tryz.results13 _ w2 (w.heap.size + 1) 28 _ _ rfl q2 Tryz.underlying28 rfl (by rw [L5.out]; kernel_rfl)) rfl ?_
      have hb2 := hs2.below HI2.out.bel (by omega)
      have ho := owB_but HI2.out.cav hs2 HI2.out.res (by decide)
      have hk := cvs_of_own ho
      have hv := TV.out.keep hb2
      exact ⟨lo', lc', by rw [H5.out], ⟨hv.id, hv.inil, hv.ile, hk.1, hk.2.1, hk.2.2, hv.tag, hv.ok, hv.big⟩, owB_low ho (by omega), hb2⟩
theorem l24back_any (x : Tk) (io : Option Addr) (ic : Nat) (lo : Option Addr) (lc : Nat) (w : World) (h : TkV w x io ic lo lc) (hl : x.cs.length ≤ 100000) : Calls Tryz.prog 13 #[.agg (tkCells x io ic lo lc).toArray] w (BackP x io ic w) :=
  (l24back_own x io ic lo lc w h hl).mono fun e w' ⟨a, b, c, d, _, f⟩ => ⟨a, b, c, d, f⟩
end Go.Proofs.YtjooabgjkjnhhaaGreatDoor


/-! The law's token: of: what it stands on. -/
namespace Go.Proofs.YtjooabgjkjnhhaaGreatDoor
open Go.RowKit
set_option linter.unusedVariables false
set_option linter.unusedSimpArgs false
set_option maxRecDepth 100000

theorem ff24 {a b : Bool} (h : a = true → b = true) (hb : b = false) : a = false := by
  cases a with
  | false => rfl
  | true => rw [h rfl] at hb; cases hb
/-- A slice without elements, with room, at a step of a drawn region. -/
theorem step_make_room {ops : Array Oper} {o : Oper} {a : Act} {w : World} {K : Act → World → Prop} {Q : Exit → Act → World → Prop} {X : Prop} (hg : o.guard = none) (l c : Operand) (hop : o.op = Op.makeSlice 23 l c)
    (m : Nat) (C : Int) (hl : a.eval l = .int .i64 0) (hc : a.eval c = .int .i64 C) (hC : C = (m : Int)) (hm : m ≤ 140737488355328)
    (h : ∀ w', Own w.heap.size w' (.slice (some ⟨w.heap.size, 0, none⟩) 0 m) [] → Below w.heap.size w w' → K (a.put o.dst (.slice (some ⟨w.heap.size, 0, none⟩) 0 m)) w') :
    if Region.wanted o (yielded ops a.tmps) = true then Oper.wp Tryz.prog o a w K Q else X := by
  have hw : Region.wanted o (yielded ops a.tmps) = true := by simp [Region.wanted, hg]
  rw [if_pos hw]
  obtain ⟨i0, hi, hz0, hz1, hz2⟩ := info_parts Tryz.info5
  subst hC
  have hrun := run_make (P := Tryz.prog) w 23 5 i0 (.int .u8 0) Tryz.underlying23 hi hz0 .i64 .i64 (0 : Int) (m : Int) (by omega) (by omega) (by rw [hz2]; omega) (by omega)
  unfold Oper.wp
  simp [execOp, hop, hl, hc, hrun, Result.andThen]
  refine h _ ?_ ?_
  · refine ⟨⟨by simp, .inr ⟨w.heap.size, m, _, rfl, Nat.le_refl _, heap_alloc_new w _, by simp, by unfold maxLen; omega, ?_, by simp⟩⟩, by simp⟩
    rw [hz1, Nat.mul_one]
    have : (madeCells #[Value.int .u8 0] m).toList = (List.replicate m (0 : By)).map B8 := by
      rw [toList_madeCells_one]; simp [B8]
    have h2 : (madeCells #[Value.int .u8 0] m).size = m := by
      rw [← Array.length_toList, this]; simp
    simpa [Value.cells] using h2
  · exact (Below.refl _ _).alloc (Nat.le_refl _) _

/-- While bytes are copied: made (4), appended (7), assigned (8). -/
structure BX (W1 : World) (bs : List By) (l4 l7 l8 : Bool) (x4 x7 x8 : Value) (W : World) : Prop where
  c8 : l8 = true → l7 = true
  c7 : l7 = true → l4 = true
  bel : Below W1.heap.size W1 W
  p4 : l4 = true → l7 = false → ∃ ao c, x4 = .slice ao 0 c ∧ Own W1.heap.size W (.slice ao 0 c) []
  p7 : l7 = true → ∃ ao c, x7 = .slice ao bs.length c ∧ Own W1.heap.size W (.slice ao bs.length c) bs
  p8 : l8 = true → x8 = x7
section
variable {W1 : World} {bs : List By} {l4 l7 l8 : Bool} {x4 x7 x8 : Value} {W W2 : World}
theorem BX.zero (W1 : World) (bs : List By) (x4 x7 x8 : Value) : BX W1 bs false false false x4 x7 x8 W1.drew :=
  ⟨fun h => (by cases h), fun h => (by cases h), (Below.refl _ _).drew, fun h => (by cases h), fun h => (by cases h), fun h => (by cases h)⟩
theorem BX.s4 (h : BX W1 bs l4 l7 l8 x4 x7 x8 W) (h4 : l4 = false) {ao : Option Addr} {m : Nat} (ho : Own W.heap.size W2 (.slice ao 0 m) []) (hb : Below W.heap.size W W2) : BX W1 bs true l7 l8 (.slice ao 0 m) x7 x8 W2 := by
  have h7 := ff24 h.c7 h4
  have h8 := ff24 h.c8 h7
  subst h7 h8
  exact ⟨fun h => (by cases h), fun h => (by cases h), h.bel.trans (hb.mono h.bel.size), fun _ _ => ⟨ao, m, rfl, own_le ho h.bel.size⟩, fun h => (by cases h), fun h => (by cases h)⟩
theorem BX.s7 (h : BX W1 bs l4 l7 l8 x4 x7 x8 W) (h4 : l4 = true) (h7 : l7 = false) {ao : Option Addr} {c : Nat} (ho : Own W1.heap.size W2 (.slice ao bs.length c) bs) (hb : Below W1.heap.size W1 W2) : BX W1 bs l4 true l8 x4 (.slice ao bs.length c) x8 W2 := by
  have h8 := ff24 h.c8 h7
  subst h4 h8
  exact ⟨fun h => (by cases h), fun _ => rfl, hb, fun _ h => (by cases h), fun _ => ⟨ao, c, rfl, ho⟩, fun h => (by cases h)⟩
theorem BX.s8 (h : BX W1 bs l4 l7 l8 x4 x7 x8 W) (h7 : l7 = true) : BX W1 bs l4 l7 true x4 x7 x7 W :=
  ⟨fun _ => h7, h.c7, h.bel, h.p4, h.p7, fun _ => rfl⟩
end

/-- append at a step of a drawn region, and what it leaves of other blocks. -/
theorem step_append_gen {T e size bytes : Nat} {z : Value} (E : ElT T e size bytes z) {ops : Array Oper} {o : Oper} {a : Act} {w : World} {K : Act → World → Prop} {Q : Exit → Act → World → Prop} {X : Prop} (hw : Region.wanted o (yielded ops a.tmps) = true) (s x : Operand)
    (ho : o.op = .call { callee := .builtin .append, args := #[s, x], argTypes := #[T, T] })
    (N : Nat) (a0 : World) (aoD : Option Addr) (nD capD : Nat) (vs : List Value) (hs : a.eval s = .slice aoD nD capD) (hown : w.ownsRow N e size (.slice aoD nD capD) nD vs) (hN : N ≤ w.heap.size) (hbel : Below N a0 w)
    (B off n cap : Nat) (news : List Value) (hx : a.eval x = .slice (some ⟨B, off, none⟩) n cap) (hn : news.length = n * size) (hc : ∀ j u, news[j]? = some u → w.cell? ⟨B, off + j, none⟩ = some u) (h1 : ∀ u ∈ news, u.oneCell' = true) (hm : nD + n ≤ maxLen) (hl : (nD + n) * bytes ≤ 140737488355328)
    (h : ∀ ao' cap' w', w'.ownsRow N e size (.slice ao' (nD + n) cap') (nD + n) (vs ++ news) → Below N a0 w' → w.heap.size ≤ w'.heap.size → (∀ k, k < w.heap.size → (∀ g, aoD = some ⟨g, 0, none⟩ → k ≠ g) → w'.heap[k]? = w.heap[k]?) → K (a.put o.dst (.slice ao' (nD + n) cap')) w') : if Region.wanted o (yielded ops a.tmps) = true then Oper.wp Tryz.prog o a w K Q else X := by
  rw [if_pos hw]
  obtain ⟨ao', cap', w', hrun, h2, h3, h4, h5⟩ := run_append_gen E N a0 w o.type aoD nD capD vs hown hN hbel (some ⟨B, off, none⟩) n cap news hn (.inr ⟨B, off, rfl, hc⟩) h1 (by simp) hm hl
  unfold Oper.wp execOp
  simp only [ho, resolve, invoke, builtin, Sem.run_bind, Sem.run_pure, Result.andThen_ok, List.map_toArray, List.map_cons, List.map_nil, hs, hx, hrun]
  exact h ao' cap' w' h2 h3 h4 h5
theorem el_tocavs : ElT 38 52 5 40 (.agg zCv.toArray) := ⟨Tryz.underlying38, by kernel_rfl, rfl, by omega⟩
/-- n caveats of nothing. -/
def zCvs (n : Nat) : List Value := (List.replicate n zCv).flatten
theorem zCvs_len (n : Nat) : (zCvs n).length = n * 5 := by
  unfold zCvs
  induction n with
  | zero => rfl
  | succ n ih => rw [List.replicate_succ, List.flatten_cons, List.length_append, ih]; simp [zCv]; omega
theorem zCvs_succ (n : Nat) : zCvs (n + 1) = zCv ++ zCvs n := by unfold zCvs; rw [List.replicate_succ, List.flatten_cons]
theorem made_cvs (m : Nat) : (madeCells zCv.toArray (m * 5)).toList = zCvs m := by
  apply List.ext_getElem?
  intro j
  unfold madeCells
  rw [Array.toList_map, List.getElem?_map, Array.toList_range]
  by_cases hj : j < m * 5
  · rw [List.getElem?_range hj]
    have h5 : j = j / 5 * 5 + j % 5 := by omega
    have hlt : j % 5 < 5 := Nat.mod_lt _ (by omega)
    have hq : j / 5 < m := by omega
    have : (zCvs m)[j]? = zCv[j % 5]? := by
      rw [h5]
      generalize j / 5 = q at *
      generalize j % 5 = r at *
      clear h5 hj
      induction q generalizing m with
      | zero =>
        obtain ⟨m', rfl⟩ : ∃ m', m = m' + 1 := ⟨m - 1, by omega⟩
        rw [zCvs_succ, Nat.zero_mul, Nat.zero_add, List.getElem?_append_left (by simp [zCv]; omega), Nat.mod_eq_of_lt hlt]
      | succ q ih =>
        obtain ⟨m', rfl⟩ : ∃ m', m = m' + 1 := ⟨m - 1, by omega⟩
        rw [zCvs_succ, List.getElem?_append_right (by simp [zCv]; omega)]
        have e : (q + 1) * 5 + r - zCv.length = q * 5 + r := by simp [zCv]; omega
        have e2 : ((q + 1) * 5 + r) % 5 = (q * 5 + r) % 5 := by omega
        rw [e, e2]
        exact ih m' (by omega)
    rw [this]
    show some (zCv.toArray[j % 5]!) = _
    generalize j % 5 = r at *
    match r, hlt with
    | 0, _ => rfl
    | 1, _ => rfl
    | 2, _ => rfl
    | 3, _ => rfl
    | 4, _ => rfl
  · rw [List.getElem?_eq_none (by simp; omega), List.getElem?_eq_none (by rw [zCvs_len]; omega)]
    rfl
/-- make of caveats, with room. -/
theorem wpList_make_cvs {ops : Array Oper} {rest : List Oper} {o : Oper} {a : Act} {w : World} {Q : Exit → Act → World → Prop} (hg : o.guard = none) (l c : Operand) (hop : o.op = Op.makeSlice 38 l c)
    (m : Nat) (C : Int) (hl : a.eval l = .int .i64 0) (hc : a.eval c = .int .i64 C) (hC : C = (m : Int)) (hm : m ≤ 1000000)
    (hK : ∀ w', Row w' w.heap.size 52 (zCvs m) → Below w.heap.size w w' → w'.heap.size = w.heap.size + 1 → wpList Tryz.prog ops Q rest (a.put o.dst (.slice (some ⟨w.heap.size, 0, none⟩) 0 m)) w') :
    wpList Tryz.prog ops Q (o :: rest) a w := by
  obtain ⟨i0, hi, hz0, hz1, hz2⟩ := info_parts el_tocavs.info
  refine wpList_plain hg fun K hK' => ?_
  subst hC
  have hrun := run_make (P := Tryz.prog) w 38 52 i0 (.agg zCv.toArray) Tryz.underlying38 hi hz0 .i64 .i64 (0 : Int) (m : Int) (by omega) (by omega) (by rw [hz2]; omega) (by omega)
  rw [hz1] at hrun
  unfold Oper.wp
  simp [execOp, hop, hl, hc, hrun, Result.andThen]
  refine hK' _ _ (hK _ ?_ ((Below.refl _ _).alloc (Nat.le_refl _) _) (by simp))
  refine Row.at w _ _ _ _ rfl ?_
  have := made_cvs m
  apply Array.toList_inj.1
  simpa [Value.cells] using this
/-- One caveat more, within the room. -/
theorem wpList_append_cv {ops : Array Oper} {rest : List Oper} {o : Oper} {a : Act} {w : World} {Q : Exit → Act → World → Prop} (hgd : o.guard = none) (s x : Operand)
    (ho : o.op = .call { callee := .builtin .append, args := #[s, x], argTypes := #[38, 38] })
    (O k cap : Nat) (C : List Value) (hs : a.eval s = .slice (some ⟨O, 0, none⟩) k cap) (hr : Row w O 52 C) (hC : (k + 1) * 5 ≤ C.length) (hroom : k + 1 ≤ cap)
    (M : Nat) (vs : List Value) (hx : a.eval x = .slice (some ⟨M, 0, none⟩) 1 1) (hM : Row w M 52 vs) (hv5 : vs.length = 5) (h1 : ∀ u ∈ vs, u.oneCell' = true)
    (h : ∀ w', Row w' O 52 (C.take (k * 5) ++ vs ++ C.drop (k * 5 + 5)) → SameBut O w w' → wpList Tryz.prog ops Q rest (a.put o.dst (.slice (some ⟨O, 0, none⟩) (k + 1) cap)) w') : wpList Tryz.prog ops Q (o :: rest) a w := by
  obtain ⟨i0, hi, hz0, hz1, hz2⟩ := info_parts el_tocavs.info
  refine wpList_plain hgd fun K hK => ?_
  have hrun := run_append_room_cells (P := Tryz.prog) w 38 o.type 52 i0 Tryz.underlying38 hi O 0 k cap ⟨M, 0, none⟩ 1 1 vs (by rw [hz1, hv5]) (fun j u hu => by rw [Addr.add_mid, Nat.zero_add]; exact hM.cell j u hu) h1 hroom
    (fun j hj => by
      rw [hz1, Nat.zero_add]
      have hj2 : j < 5 := by rw [hv5] at hj; exact hj
      have hlt : k * 5 + j < C.length := by omega
      rw [hr.cell (k * 5 + j) _ (List.getElem?_eq_getElem hlt)]; rfl)
    (fun j hj => by rw [hz1, Nat.zero_add]; exact hr.frozen _)
  rw [hz1, Nat.zero_add] at hrun
  unfold Oper.wp execOp
  simp only [ho, resolve, invoke, builtin, Sem.run_bind, Sem.run_pure, Result.andThen_ok, List.map_toArray, List.map_cons, List.map_nil, hs, hx, hrun]
  refine hK _ _ (h _ ?_ (SameBut.setCells O vs (k * 5) w))
  have := Row.setCells vs (k * 5) w C hr (by rw [hv5]; omega)
  rw [hv5] at this
  exact this
end Go.Proofs.YtjooabgjkjnhhaaGreatDoor
