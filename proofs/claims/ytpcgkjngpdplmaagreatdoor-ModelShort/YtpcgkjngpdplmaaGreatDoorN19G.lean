
import Derived.Test.YtpcgkjngpdplmaaGreatDoorN19F
/-! The code's model: tried, check. (Printed by tools/genn19.py.) -/
namespace Go.Proofs.YtpcgkjngpdplmaaGreatDoor
open Go.RowKit Go.Maps
set_option linter.unusedVariables false
set_option linter.unusedSimpArgs false

/-- What was found, as cells. -/
def fdC (f : Fd) : List Value := [.int .i64 f.wrong, .bool f.signed, .int .i64 (f.slot : Int), .int .i64 (f.key : Int), .int .i64 (f.ver : Int)]
theorem fdC_one (f : Fd) : ∀ v ∈ fdC f, v.oneCell' = true := by
  intro v hv
  simp only [fdC, List.mem_cons, List.not_mem_nil, or_false] at hv
  rcases hv with rfl | rfl | rfl | rfl | rfl <;> rfl
set_option maxRecDepth 100000 in
theorem build_vh (v : Int) (w : World) : ∀ (d : List By), d.length = 32 → (Instr.build 39 #[(1, .int .i64 v), (3, .agg (d.map B8).toArray)]).run Tryz.prog w = .ok (.agg (anC ⟨0, v, false, d⟩ 0).toArray) w
  | [x0, x1, x2, x3, x4, x5, x6, x7, x8, x9, x10, x11, x12, x13, x14, x15, x16, x17, x18, x19, x20, x21, x22, x23, x24, x25, x26, x27, x28, x29, x30, x31], _ => by kernel_rfl
set_option maxRecDepth 100000 in
theorem build_stg (f : Fd) (w : World) : ∀ (d : List By), d.length = 32 → (Instr.build 91 #[(0, .agg (fdC f).toArray), (1, .agg (d.map B8).toArray)]).run Tryz.prog w = .ok (.agg (fdC f ++ d.map B8).toArray) w
  | [x0, x1, x2, x3, x4, x5, x6, x7, x8, x9, x10, x11, x12, x13, x14, x15, x16, x17, x18, x19, x20, x21, x22, x23, x24, x25, x26, x27, x28, x29, x30, x31], _ => by kernel_rfl

set_option maxRecDepth 100000 in
theorem fold_h (v : Int) : ∀ d : List By, d.length = 32 → List.foldl (fun (cs : Array Value) (x : Value × Nat) => cs.setIfInBounds (3 + x.snd) x.fst) #[.int .i64 0, .int .i64 v, .bool false, .int .u8 0, .int .u8 0, .int .u8 0, .int .u8 0, .int .u8 0, .int .u8 0, .int .u8 0, .int .u8 0, .int .u8 0, .int .u8 0, .int .u8 0, .int .u8 0, .int .u8 0, .int .u8 0, .int .u8 0, .int .u8 0, .int .u8 0, .int .u8 0, .int .u8 0, .int .u8 0, .int .u8 0, .int .u8 0, .int .u8 0, .int .u8 0, .int .u8 0, .int .u8 0, .int .u8 0, .int .u8 0, .int .u8 0, .int .u8 0, .int .u8 0, .int .u8 0, .int .i64 0] (d.map B8).zipIdx = (anC ⟨0, v, false, d⟩ 0).toArray
  | [x0, x1, x2, x3, x4, x5, x6, x7, x8, x9, x10, x11, x12, x13, x14, x15, x16, x17, x18, x19, x20, x21, x22, x23, x24, x25, x26, x27, x28, x29, x30, x31], _ => by kernel_rfl
theorem step_build_to {ops : Array Oper} {o : Oper} {a : Act} {w : World} {K : Act → World → Prop} {Q : Exit → Act → World → Prop} {X : Prop} (hw : Region.wanted o (yielded ops a.tmps) = true) (t : TypeId) (i j : Nat) (x y : Operand) (ho : o.op = .build t #[(i, x), (j, y)])
    (vx vy v : Value) (hx : a.eval x = vx) (hy : a.eval y = vy) (hrun : (Instr.build t #[(i, vx), (j, vy)]).run Tryz.prog w = .ok v w) (h : K (a.put o.dst v) w) : if Region.wanted o (yielded ops a.tmps) = true then Oper.wp Tryz.prog o a w K Q else X := by
  subst hx; subst hy
  rw [if_pos hw]
  unfold Oper.wp execOp
  simp only [ho, List.map_toArray, List.map_cons, List.map_nil, Sem.run_bind, Sem.run_pure, hrun, Result.andThen_ok]
  exact h
def CS.tri (s : CS) : CS := ⟨s.num, s.rev, s.l0, s.l1, false, 0, 0, s.ev + 1, s.cuts, s.first, s.rom, s.pow⟩
def CS.got (s : CS) (f : Fd) : CS := ⟨s.num, s.rev, s.l0, s.l1, true, f.slot, f.ver, s.ev + 1, s.cuts, s.first, s.rom, s.pow⟩
/-- Beside what is told: what was found, a digest, a state. -/
structure TZ (ab nb mb : Nat) (aa : AN) (n : Nat) (LL : List CS) (w : World) (F H : List Value) (s : CS) (W : World) : Prop where
  tel : TelQ ab nb mb aa n LL [] w W
  f : Row W w.heap.size 89 F
  h : Row W (w.heap.size + 1) 37 H
  s : Row W (w.heap.size + 2) 67 (csC s)
section
variable {ab nb mb : Nat} {aa : AN} {n : Nat} {LL : List CS} {w W W' : World} {F H : List Value} {s t : CS}
theorem TZ.but (h : TZ ab nb mb aa n LL w F H s W) (hs : SameBut (w.heap.size + 2) W W') (hr : Row W' (w.heap.size + 2) 67 (csC t)) : TZ ab nb mb aa n LL w F H t W' := ⟨h.tel.but hs (by omega), h.f.but hs (by omega), h.h.but hs (by omega), hr⟩
theorem TZ.hand (h : TZ ab nb mb aa n LL w F H s W) (hl : s.num.length = 8) (q : Bool) (k v : Nat) (hs : SameBut (w.heap.size + 2) W W') (hr : Row W' (w.heap.size + 2) 67 ((csC s).take 11 ++ [.bool q, .int .i64 (k : Int), .int .i64 (v : Int)] ++ (csC s).drop (11 + 3))) : TZ ab nb mb aa n LL w F H { s with is := q, slot := k, ver := v } W' := h.but hs (by rw [← cs_hand hl]; exact hr)
theorem TZ.ev (h : TZ ab nb mb aa n LL w F H s W) (hl : s.num.length = 8) (k : Nat) : TZ ab nb mb aa n LL w F H { s with ev := k } (W.setCell ⟨w.heap.size + 2, 14, none⟩ (.int .i16 (k : Int))) := h.but (SameBut.setCell (w.heap.size + 2) 14 _ W) (by rw [← csC_setEv hl]; exact h.s.set 14 _)
end

set_option maxHeartbeats 4000000 in
set_option maxRecDepth 100000 in
theorem tried_any {ab nb mb : Nat} {aa : AN} {n : Nat} {LL : List CS} {w : World} (h : Tel ab nb mb aa n LL w) (ha : aa.Wf) (hn : n + 8 < 4611686018427387904) (f : Fd) (er : Int) (he : -9223372036854775808 ≤ er ∧ er ≤ 9223372036854775807) (d : List By) (hd : d.length = 32) (s : CS) (hs : s.Wf) (hf : er = 0 → f.slot < 8 ∧ f.ver < 4294967296) :
    Calls Tryz.prog 73 #[.agg (fdC f).toArray, .int .i64 er, .agg (d.map B8).toArray, .agg (csC s).toArray, .func (.func 26) #[] #[.pointer (some ⟨ab, 0, none⟩), .pointer (some ⟨nb, 0, none⟩)]] w fun e W' => e = .returned (.tuple #[]) ∧ TelQ ab nb mb aa n LL (triedC f er d s) w W' := by
  obtain ⟨w1, hw1⟩ : ∃ w1, w1 = ((w.alloc (.cells (fdC f).toArray 89)).alloc (.cells (d.map B8).toArray 37)).alloc (.cells (csC s).toArray 67) := ⟨_, rfl⟩
  have Z1 : TZ ab nb mb aa n LL w (fdC f) (d.map B8) s w1 := by
    rw [hw1]
    exact ⟨(((TelQ.nil h).alloc _).alloc _).alloc _, ((Row.at w 89 _ _ _ rfl rfl).alloc _).alloc _, (Row.at _ _ _ _ _ (by simp) rfl).alloc _, Row.at _ _ _ _ _ (by simp) rfl⟩
  have LCS : Hid ((csC s).length = 19) := csC_len hs.len
  have l1 : Hid (s.num.length = 8) := hs.len
  have LH : Hid ((d.map B8).length = 32) := by show (d.map B8).length = 32; rw [List.length_map, hd]
  have r1 := Z1.s
  have hev := hs.ev
  have HS : Hid s.Wf := hs
  unfold triedC
  by_cases h1 : 1024 ≤ s.ev
  · rw [if_pos h1]
    have i1 : (1024 : Int) ≤ (s.ev : Int) := by omega
    have ON : Hid (∀ W, TelQ ab nb mb aa n LL [] w W → _) := fun W hW => only_more hW ha (by show n + 0 < _; omega) 3 (by omega) s.drop ⟨hs.len, hs.num, hs.rev, hs.l0, hs.l1, by show (0 : Nat) < 8; omega, by show (0 : Nat) < 4294967296; omega, hs.ev, hs.cuts, hs.first⟩
    have LD : Hid ((csC s.drop).length = 19) := csC_len hs.len
    clear h ha hn he hd hf hs
    go_enter Tryz.func73, Tryz.ntmps73
    go_wp2_with (first
      | (rw [← hw1]; have hz := hw1; clear hz hw1)
      | (refine wpList_store_Row rfl 63 (.tmp 11) (.tmp 10) rfl (w.heap.size + 2) 67 11 (csC s) [.bool false, .int .i64 ((0 : Nat) : Int), .int .i64 ((0 : Nat) : Int)] r1 (by rw [LCS.out]; decide) rfl rfl (by kernel_rfl) (by decide) ?_; intro w3 hr3 hs3; have Z3 : TZ ab nb mb aa n LL w (fdC f) (d.map B8) s.drop w3 := Z1.hand l1.out false 0 0 hs3 hr3; have r3 := Z3.s; clear hr3 hs3; have c4 : w3.cell? ⟨w.heap.size + 2, 14, none⟩ = some (.int .i16 (s.ev : Int)) := r3.cell 14 _ (csC_at (s := s.drop) l1.out 6))
      | (refine wpList_load_whole_g ?_ 67 (.tmp 8) rfl (w.heap.size + 2) 67 19 (csC s.drop) r3 rfl _ LD.out Tryz.underlying67 rfl (by kernel_rfl) ?_; · rfl))
    refine (ON.out _ Z3.tel).mono ?_
    rintro e w5 ⟨rfl, h5, _⟩
    dsimp only
    go_wp2
    refine bodyPost_ret (results_none rfl _ _ _) rfl ?_
    exact ⟨rfl, h5⟩
  · rw [if_neg h1]
    have i1 : ¬ (1024 : Int) ≤ (s.ev : Int) := by omega
    have z16 : IntKind.i16.wrap ((s.ev : Int) + 1) = (s.ev : Int) + 1 := i16_in _ (by omega) (by omega)
    by_cases h2 : er ≠ 0
    · rw [if_pos h2]
      have ON : Hid (∀ W, TelQ ab nb mb aa n LL [] w W → _) := fun W hW => only_more hW ha (by show n + 0 < _; omega) er he { s.drop with ev := s.ev + 1 } ⟨hs.len, hs.num, hs.rev, hs.l0, hs.l1, by show (0 : Nat) < 8; omega, by show (0 : Nat) < 4294967296; omega, by show s.ev + 1 ≤ 1024; omega, hs.cuts, hs.first⟩
      have LD : Hid ((csC { s.drop with ev := s.ev + 1 }).length = 19) := csC_len hs.len
      clear h ha hn he hd hf hs
      go_enter Tryz.func73, Tryz.ntmps73
      go_wp2_with (first
        | (rw [← hw1]; have hz := hw1; clear hz hw1)
        | (refine wpList_store_Row rfl 63 (.tmp 11) (.tmp 10) rfl (w.heap.size + 2) 67 11 (csC s) [.bool false, .int .i64 ((0 : Nat) : Int), .int .i64 ((0 : Nat) : Int)] r1 (by rw [LCS.out]; decide) rfl rfl (by kernel_rfl) (by decide) ?_; intro w3 hr3 hs3; have Z3 : TZ ab nb mb aa n LL w (fdC f) (d.map B8) s.drop w3 := Z1.hand l1.out false 0 0 hs3 hr3; have r3 := Z3.s; clear hr3 hs3; have c4 : w3.cell? ⟨w.heap.size + 2, 14, none⟩ = some (.int .i16 (s.ev : Int)) := r3.cell 14 _ (csC_at (s := s.drop) l1.out 6); have f4 : w3.frozen? ⟨w.heap.size + 2, 14, none⟩ = false := r3.frozen 14; obtain ⟨w4, hw4⟩ : ∃ w4, w4 = w3.setCell ⟨w.heap.size + 2, 14, none⟩ (.int .i16 ((s.ev : Int) + 1)) := ⟨_, rfl⟩; have Z4 : TZ ab nb mb aa n LL w (fdC f) (d.map B8) { s.drop with ev := s.ev + 1 } w4 := (by rw [hw4]; exact Z3.ev l1.out (s.ev + 1)); have r4 := Z4.s)
        | (rw [← hw4]; have hz := hw4; clear hz hw4)
        | (refine wpList_load_whole_g ?_ 67 (.tmp 8) rfl (w.heap.size + 2) 67 19 (csC { s.drop with ev := s.ev + 1 }) r4 rfl _ LD.out Tryz.underlying67 rfl (by kernel_rfl) ?_; · rfl))
      refine (ON.out _ Z4.tel).mono ?_
      rintro e w5 ⟨rfl, h5, _⟩
      dsimp only
      go_wp2
      refine bodyPost_ret (results_none rfl _ _ _) rfl ?_
      exact ⟨rfl, h5⟩
    · rw [if_neg h2]
      have h3 : er = 0 := Classical.not_not.1 h2
      subst h3
      obtain ⟨hf1, hf2⟩ := hf rfl
      have TE : Hid (∀ W, TelQ ab nb mb aa n LL [] w W → _) := fun W hW => tell_more hW ha (by show n + 0 < _; omega) ⟨0, f.ver, false, d⟩ ⟨by show _ ≤ (0 : Int) ∧ (0 : Int) ≤ _; omega, by show _ ≤ (f.ver : Int) ∧ (f.ver : Int) ≤ _; omega, hd⟩ (s.got f) ⟨hs.len, hs.num, hs.rev, hs.l0, hs.l1, hf1, hf2, by show s.ev + 1 ≤ 1024; omega, hs.cuts, hs.first⟩
      have LD : Hid ((csC (s.got f)).length = 19) := csC_len hs.len
      have LZ : Hid ((csC s.tri).length = 19) := csC_len hs.len
      clear h ha hn he hf hs h2
      go_enter Tryz.func73, Tryz.ntmps73
      go_wp2_with (first
        | (rw [← hw1]; have hz := hw1; clear hz hw1)
        | (refine wpList_store_Row rfl 63 (.tmp 11) (.tmp 10) rfl (w.heap.size + 2) 67 11 (csC s) [.bool false, .int .i64 ((0 : Nat) : Int), .int .i64 ((0 : Nat) : Int)] r1 (by rw [LCS.out]; decide) rfl rfl (by kernel_rfl) (by decide) ?_; intro w3 hr3 hs3; have Z3 : TZ ab nb mb aa n LL w (fdC f) (d.map B8) s.drop w3 := Z1.hand l1.out false 0 0 hs3 hr3; have r3 := Z3.s; clear hr3 hs3; have c4 : w3.cell? ⟨w.heap.size + 2, 14, none⟩ = some (.int .i16 (s.ev : Int)) := r3.cell 14 _ (csC_at (s := s.drop) l1.out 6); have f4 : w3.frozen? ⟨w.heap.size + 2, 14, none⟩ = false := r3.frozen 14; obtain ⟨w4, hw4⟩ : ∃ w4, w4 = w3.setCell ⟨w.heap.size + 2, 14, none⟩ (.int .i16 ((s.ev : Int) + 1)) := ⟨_, rfl⟩; have Z4 : TZ ab nb mb aa n LL w (fdC f) (d.map B8) s.tri w4 := (by rw [hw4]; exact Z3.ev l1.out (s.ev + 1)); have r4 := Z4.s; have g2 : w4.cell? ⟨w.heap.size, 2, none⟩ = some (.int .i64 (f.slot : Int)) := Z4.f.cell 2 _ rfl; have g4 : w4.cell? ⟨w.heap.size, 4, none⟩ = some (.int .i64 (f.ver : Int)) := Z4.f.cell 4 _ rfl)
        | (rw [← hw4]; have hz := hw4; clear hz hw4)
        | (have hq := Z4; clear hq; (refine wpList_store_Row rfl 63 (.tmp 33) (.tmp 32) rfl (w.heap.size + 2) 67 11 (csC s.tri) [.bool true, .int .i64 (f.slot : Int), .int .i64 (f.ver : Int)] r4 (Nat.le_trans (show 11 + 3 ≤ 19 by decide) (Nat.le_of_eq LZ.out.symm)) rfl rfl (by kernel_rfl) (by simp only [List.mem_cons, List.not_mem_nil, or_false]; rintro v (rfl | rfl | rfl) <;> rfl) ?_; intro w5 hr5 hs5; have Z5 : TZ ab nb mb aa n LL w (fdC f) (d.map B8) (s.got f) w5 := Z4.hand l1.out true f.slot f.ver hs5 hr5; have r5 := Z5.s; have q5 := Z5.h; have g5 : w5.cell? ⟨w.heap.size, 4, none⟩ = some (.int .i64 (f.ver : Int)) := Z5.f.cell 4 _ rfl; clear hr5 hs5))
        | (refine wpList_load_whole_g ?_ 37 (.tmp 7) rfl (w.heap.size + 1) 37 32 (d.map B8) q5 rfl _ LH.out Tryz.underlying37 rfl (by kernel_rfl) ?_; · rfl)
        | (refine wpList_load_whole_g ?_ 67 (.tmp 8) rfl (w.heap.size + 2) 67 19 (csC (s.got f)) r5 rfl _ LD.out Tryz.underlying67 rfl (by kernel_rfl) ?_; · rfl))
      rw [fold_h _ d hd]
      refine (TE.out _ Z5.tel).mono ?_
      rintro e w6 ⟨rfl, h6, _⟩
      dsimp only
      go_wp2
      go_end0
      exact ⟨rfl, h6⟩
end Go.Proofs.YtpcgkjngpdplmaaGreatDoor
