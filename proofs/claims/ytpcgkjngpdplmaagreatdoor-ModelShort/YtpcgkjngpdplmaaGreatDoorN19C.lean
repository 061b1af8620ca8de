
import Derived.Test.YtpcgkjngpdplmaaGreatDoorN19B
/-! The code's model: deeds that tell one thing; onRom, withPower. (Printed by tools/genn19.py.) -/
namespace Go.Proofs.YtpcgkjngpdplmaaGreatDoor
open Go.RowKit Go.Maps
set_option linter.unusedVariables false
set_option linter.unusedSimpArgs false

section
variable {ab nb mb : Nat} {a : AN} {n : Nat} {L : List CS} {T : TL} {w W : World}
theorem only_more (h : TelQ ab nb mb a n L T w W) (ha : a.Wf) (hn : n + T.length < 4611686018427387904) (er : Int) (he : -9223372036854775808 ≤ er ∧ er ≤ 9223372036854775807) (s : CS) (hs : s.Wf) :
    Calls Tryz.prog 34 #[.func (.func 26) #[] #[.pointer (some ⟨ab, 0, none⟩), .pointer (some ⟨nb, 0, none⟩)], .int .i64 er, .agg (csC s).toArray] W fun e W' => e = .returned (.tuple #[]) ∧ TelQ ab nb mb a n L (T ++ [(an0 er, s)]) w W' ∧ W.grownBy W' (some mb) := by
  have h1 := hit_le a T
  refine (only_any h.tel ha (by omega) er he s hs).mono ?_
  rintro e W' ⟨rfl, hq⟩
  exact ⟨rfl, h.more hq, hq.grow⟩
theorem tell_more (h : TelQ ab nb mb a n L T w W) (ha : a.Wf) (hn : n + T.length < 4611686018427387904) (x : AN) (hx : x.Wf) (s : CS) (hs : s.Wf) :
    Calls Tryz.prog 26 #[.agg (anC x 0).toArray, .agg (csC s).toArray, .pointer (some ⟨ab, 0, none⟩), .pointer (some ⟨nb, 0, none⟩)] W fun e W' => e = .returned (.tuple #[]) ∧ TelQ ab nb mb a n L (T ++ [(x, s)]) w W' ∧ W.grownBy W' (some mb) := by
  have h1 := hit_le a T
  refine (tell_any h.tel ha (by omega) x hx s hs).mono ?_
  rintro e W' ⟨rfl, hq, hg⟩
  exact ⟨rfl, h.more ⟨by have : (hitC a [(x, s)]).reverse = (hitC a [(x, s)]).reverse := rfl; exact hq, hg, h.tel.ans.lt, h.tel.nxt.lt, h.tel.set.lt⟩, hg⟩
theorem goes_more (h : TelQ ab nb mb a n L T w W) (ha : a.Wf) (LS : List CS) (hn : n + T.length + LS.length < 4611686018427387904) (hs : ∀ s ∈ LS, s.Wf) (g : Nat) (hr : Row W g 67 (LS.flatMap csC)) (k cap : Nat) (hk : LS.length = k) :
    Calls Tryz.prog 68 #[.func (.func 26) #[] #[.pointer (some ⟨ab, 0, none⟩), .pointer (some ⟨nb, 0, none⟩)], .slice (some ⟨g, 0, none⟩) k cap] W fun e W' => e = .returned (.tuple #[]) ∧ TelQ ab nb mb a n L (T ++ goesC LS) w W' ∧ W.grownBy W' (some mb) := by
  have h1 := hit_le a T
  subst hk
  refine (goes_any h.tel ha LS (by omega) hs g hr cap).mono ?_
  rintro e W' ⟨rfl, hq⟩
  exact ⟨rfl, h.more hq, hq.grow⟩
end
/-- A function of the program's own, entered when it is called. -/
def Ent (k : Nat) : Prop := ∀ (args : Array Value) (w : World), (callFunc k args).run Tryz.prog w = .ok (.enter k args) w
/-- What a function value does that is a deed. -/
def DeedIs (c : Cfg) (g : Nat) (W0 : World) (k : Nat) (fs bs : Array Value) (D : CS → TL) : Prop :=
  ∀ W, Below W0.heap.size W0 W → ∀ ab nb mb a n L, W0.heap.size ≤ mb → Tel ab nb mb a n L W → a.Wf → n + 8 < 4611686018427387904 → ∀ s : CS, s.Ok c g → s.Wf →
    Calls Tryz.prog k (fs ++ (#[.agg (csC s).toArray, .func (.func 26) #[] #[.pointer (some ⟨ab, 0, none⟩), .pointer (some ⟨nb, 0, none⟩)]] ++ bs)) W fun e W' => e = .returned (.tuple #[]) ∧ TelQ ab nb mb a n L (D s) W W'
theorem DeedIs.keep {c : Cfg} {g : Nat} {W0 W1 : World} {k : Nat} {fs bs : Array Value} {D : CS → TL} (h : DeedIs c g W0 k fs bs D) (hb : Below W0.heap.size W0 W1) : DeedIs c g W1 k fs bs D :=
  fun W hW ab nb mb a n L hm => h W (hb.trans (hW.mono hb.size)) ab nb mb a n L (Nat.le_trans hb.size hm)

set_option maxHeartbeats 2000000 in
set_option maxRecDepth 100000 in
theorem nothing_deed (c : Cfg) (g : Nat) (W0 : World) : DeedIs c g W0 27 #[] #[] fun s => [(an0 0, s)] := by
  intro w _ ab nb mb a n L hm hT ha hn s _ hs
  obtain ⟨w1, hw1⟩ : ∃ w1, w1 = w.alloc (.cells (csC s).toArray 67) := ⟨_, rfl⟩
  have r2 : Row w1 w.heap.size 67 (csC s) := by rw [hw1]; exact Row.at _ _ _ _ _ rfl rfl
  have F1 : TelQ ab nb mb a n L [] w w1 := by rw [hw1]; exact (TelQ.nil hT).alloc _
  have ON := only_more F1 ha (by show n + 0 < _; omega) 0 (by omega) s hs
  have lc : Hid ((csC s).length = 19) := csC_len hs.len
  clear hT ha hs hn hm F1
  change Calls Tryz.prog 27 #[.agg (csC s).toArray, .func (.func 26) #[] #[.pointer (some ⟨ab, 0, none⟩), .pointer (some ⟨nb, 0, none⟩)]] w _
  go_enter Tryz.func27, Tryz.ntmps27
  go_wp2_with (first
      | (rw [← hw1]; have hz := hw1; clear hz hw1)
      | (refine wpList_load_whole_g ?_ 67 (.tmp 2) rfl w.heap.size 67 19 (csC s) r2 rfl _ lc.out Tryz.underlying67 rfl (by kernel_rfl) ?_; · rfl))
  refine ON.mono ?_
  rintro e w2 ⟨rfl, ht, _⟩
  dsimp only
  go_wp2
  go_end0
  exact ⟨rfl, ht⟩

set_option maxHeartbeats 2000000 in
set_option maxRecDepth 100000 in
theorem kind_deed (c : Cfg) (g : Nat) (W0 : World) : DeedIs c g W0 33 #[] #[] fun s => [(an0 12, s)] := by
  intro w _ ab nb mb a n L hm hT ha hn s _ hs
  obtain ⟨w1, hw1⟩ : ∃ w1, w1 = w.alloc (.cells (csC s).toArray 67) := ⟨_, rfl⟩
  have r2 : Row w1 w.heap.size 67 (csC s) := by rw [hw1]; exact Row.at _ _ _ _ _ rfl rfl
  have F1 : TelQ ab nb mb a n L [] w w1 := by rw [hw1]; exact (TelQ.nil hT).alloc _
  have ON := only_more F1 ha (by show n + 0 < _; omega) 12 (by omega) s hs
  have lc : Hid ((csC s).length = 19) := csC_len hs.len
  clear hT ha hs hn hm F1
  change Calls Tryz.prog 33 #[.agg (csC s).toArray, .func (.func 26) #[] #[.pointer (some ⟨ab, 0, none⟩), .pointer (some ⟨nb, 0, none⟩)]] w _
  go_enter Tryz.func33, Tryz.ntmps33
  go_wp2_with (first
      | (rw [← hw1]; have hz := hw1; clear hz hw1)
      | (refine wpList_load_whole_g ?_ 67 (.tmp 2) rfl w.heap.size 67 19 (csC s) r2 rfl _ lc.out Tryz.underlying67 rfl (by kernel_rfl) ?_; · rfl))
  refine ON.mono ?_
  rintro e w2 ⟨rfl, ht, _⟩
  dsimp only
  go_wp2
  go_end0
  exact ⟨rfl, ht⟩

set_option maxHeartbeats 2000000 in
set_option maxRecDepth 100000 in
theorem beyond_deed (c : Cfg) (g : Nat) (W0 : World) : DeedIs c g W0 61 #[] #[] fun s => [(an0 2, s)] := by
  intro w _ ab nb mb a n L hm hT ha hn s _ hs
  obtain ⟨w1, hw1⟩ : ∃ w1, w1 = w.alloc (.cells (csC s).toArray 67) := ⟨_, rfl⟩
  have r2 : Row w1 w.heap.size 67 (csC s) := by rw [hw1]; exact Row.at _ _ _ _ _ rfl rfl
  have F1 : TelQ ab nb mb a n L [] w w1 := by rw [hw1]; exact (TelQ.nil hT).alloc _
  have ON := only_more F1 ha (by show n + 0 < _; omega) 2 (by omega) s hs
  have lc : Hid ((csC s).length = 19) := csC_len hs.len
  clear hT ha hs hn hm F1
  change Calls Tryz.prog 61 #[.agg (csC s).toArray, .func (.func 26) #[] #[.pointer (some ⟨ab, 0, none⟩), .pointer (some ⟨nb, 0, none⟩)]] w _
  go_enter Tryz.func61, Tryz.ntmps61
  go_wp2_with (first
      | (rw [← hw1]; have hz := hw1; clear hz hw1)
      | (refine wpList_load_whole_g ?_ 67 (.tmp 2) rfl w.heap.size 67 19 (csC s) r2 rfl _ lc.out Tryz.underlying67 rfl (by kernel_rfl) ?_; · rfl))
  refine ON.mono ?_
  rintro e w2 ⟨rfl, ht, _⟩
  dsimp only
  go_wp2
  go_end0
  exact ⟨rfl, ht⟩

theorem TelQ.set {ab nb mb : Nat} {a : AN} {n : Nat} {L : List CS} {T : TL} {w W : World} (h : TelQ ab nb mb a n L T w W) {g : Nat} (hg : w.heap.size ≤ g) (i : Nat) (v : Value) : TelQ ab nb mb a n L T w (W.setCell ⟨g, i, none⟩ v) := h.but (SameBut.setCell g i v W) hg
theorem cs_hand {s : CS} (hl : s.num.length = 8) (q : Bool) (k v : Nat) : (csC s).take 11 ++ [.bool q, .int .i64 (k : Int), .int .i64 (v : Int)] ++ (csC s).drop (11 + 3) = csC { s with is := q, slot := k, ver := v } := by
  have h8 : (s.num.map (Value.int .i64)).length = 8 := by rw [List.length_map, hl]
  unfold csC
  rw [List.take_append, List.take_of_length_le (by omega), List.drop_append, List.drop_of_length_le (by omega), h8, List.append_assoc, List.append_assoc]
  rfl
set_option maxHeartbeats 2000000 in
set_option maxRecDepth 100000 in
theorem restore_deed (c : Cfg) (g : Nat) (W0 : World) : DeedIs c g W0 28 #[] #[] restoreC := by
  intro w _ ab nb mb a n L hm hT ha hn s _ hs
  obtain ⟨w1, hw1⟩ : ∃ w1, w1 = w.alloc (.cells (csC s).toArray 67) := ⟨_, rfl⟩
  obtain ⟨w2, hw2⟩ : ∃ w2, w2 = (w1.setCell ⟨w.heap.size, 18, none⟩ (.bool true)).setCell ⟨w.heap.size, 17, none⟩ (.bool false) := ⟨_, rfl⟩
  have r1 : Row w1 w.heap.size 67 (csC s) := by rw [hw1]; exact Row.at _ _ _ _ _ rfl rfl
  have r2 : Row w2 w.heap.size 67 (csC { s with pow := true, rom := false }) := by
    have := (r1.set 18 (.bool true)).set 17 (.bool false)
    rw [csC_setPow hs.len, csC_setRom (s := { s with pow := true }) hs.len, ← hw2] at this
    exact this
  have F1 : TelQ ab nb mb a n L [] w w2 := by rw [hw2]; exact (TelQ.set (TelQ.set (by rw [hw1]; exact (TelQ.nil hT).alloc _) (Nat.le_refl _) _ _) (Nat.le_refl _) _ _)
  have ON := only_more F1 ha (by show n + 0 < _; omega) 0 (by omega) { s with pow := true, rom := false } ⟨hs.len, hs.num, hs.rev, hs.l0, hs.l1, hs.slot, hs.ver, hs.ev, hs.cuts, hs.first⟩
  have lc : Hid ((csC { s with pow := true, rom := false }).length = 19) := csC_len hs.len
  have c1 : w1.cell? ⟨w.heap.size, 18, none⟩ = some (.bool s.pow) := r1.cell 18 _ (csC_at hs.len 10)
  have f1 : w1.frozen? ⟨w.heap.size, 18, none⟩ = false := r1.frozen 18
  have c2 : w1.cell? ⟨w.heap.size, 17, none⟩ = some (.bool s.rom) := r1.cell 17 _ (csC_at hs.len 9)
  have f2 : w1.frozen? ⟨w.heap.size, 17, none⟩ = false := r1.frozen 17
  clear hT ha hs hn hm F1 r1
  change Calls Tryz.prog 28 #[.agg (csC s).toArray, .func (.func 26) #[] #[.pointer (some ⟨ab, 0, none⟩), .pointer (some ⟨nb, 0, none⟩)]] w _
  go_enter Tryz.func28, Tryz.ntmps28
  go_wp2_with (first
      | (rw [← hw1]; have hz := hw1; clear hz hw1)
      | (rw [← hw2]; have hz := hw2; clear hz hw2)
      | (refine wpList_load_whole_g ?_ 67 (.tmp 2) rfl w.heap.size 67 19 (csC { s with pow := true, rom := false }) r2 rfl _ lc.out Tryz.underlying67 rfl (by kernel_rfl) ?_; · rfl))
  refine ON.mono ?_
  rintro e w3 ⟨rfl, ht, _⟩
  dsimp only
  go_wp2
  go_end0
  exact ⟨rfl, ht⟩

def CS.up0 (s : CS) : CS := { s with rom := true, is := false, slot := 0, ver := 0 }
def CS.up (s : CS) : CS := { s with rom := true, is := false, slot := 0, ver := 0, ev := 0 }
set_option maxHeartbeats 2000000 in
set_option maxRecDepth 100000 in
theorem mount_deed (c : Cfg) (g : Nat) (W0 : World) : DeedIs c g W0 29 #[] #[] mountC := by
  intro w _ ab nb mb a n L hm hT ha hn s _ hs
  obtain ⟨w1, hw1⟩ : ∃ w1, w1 = w.alloc (.cells (csC s).toArray 67) := ⟨_, rfl⟩
  have r1 : Row w1 w.heap.size 67 (csC s) := by rw [hw1]; exact Row.at _ _ _ _ _ rfl rfl
  have c1 : w1.cell? ⟨w.heap.size, 18, none⟩ = some (.bool s.pow) := r1.cell 18 _ (csC_at hs.len 10)
  have c2 : w1.cell? ⟨w.heap.size, 17, none⟩ = some (.bool s.rom) := r1.cell 17 _ (csC_at hs.len 9)
  have f2 : w1.frozen? ⟨w.heap.size, 17, none⟩ = false := r1.frozen 17
  obtain ⟨w2, hw2⟩ : ∃ w2, w2 = w1.setCell ⟨w.heap.size, 17, none⟩ (.bool s.pow) := ⟨_, rfl⟩
  have r2 : Row w2 w.heap.size 67 (csC { s with rom := s.pow }) := by
    have := r1.set 17 (.bool s.pow)
    rw [csC_setRom hs.len, ← hw2] at this
    exact this
  have F2 : TelQ ab nb mb a n L [] w w2 := by rw [hw2]; exact TelQ.set (by rw [hw1]; exact (TelQ.nil hT).alloc _) (Nat.le_refl _) _ _
  have c3 : w2.cell? ⟨w.heap.size, 18, none⟩ = some (.bool s.pow) := r2.cell 18 _ (csC_at (s := { s with rom := s.pow }) hs.len 10)
  have c4 : w2.cell? ⟨w.heap.size, 14, none⟩ = some (.int .i16 (s.ev : Int)) := r2.cell 14 _ (csC_at (s := { s with rom := s.pow }) hs.len 6)
  have f4 : w2.frozen? ⟨w.heap.size, 14, none⟩ = false := r2.frozen 14
  change Calls Tryz.prog 29 #[.agg (csC s).toArray, .func (.func 26) #[] #[.pointer (some ⟨ab, 0, none⟩), .pointer (some ⟨nb, 0, none⟩)]] w _
  have lc : Hid ((csC { s with rom := s.pow }).length = 19) := csC_len hs.len
  clear hT hm r1
  cases hp : s.pow with
  | false =>
    have er : ({ s with rom := s.pow } : CS) = { s with rom := false } := congrArg (fun q => ({ s with rom := q } : CS)) hp
    rw [er] at r2 lc
    rw [hp] at c1 c3 hw2
    clear er
    have ON := only_more F2 ha (by show n + 0 < _; omega) 8 (by omega) { s with rom := false } ⟨hs.len, hs.num, hs.rev, hs.l0, hs.l1, hs.slot, hs.ver, hs.ev, hs.cuts, hs.first⟩
    have HD : Hid (mountC s = [(an0 8, { s with rom := false })]) := by show mountC s = _; unfold mountC; rw [if_neg (by rw [hp]; decide)]
    clear F2 ha hn hs hp
    rw [HD.out]
    go_enter Tryz.func29, Tryz.ntmps29
    go_wp2_with (first
      | (rw [← hw1]; have hz := hw1; clear hz hw1)
      | (rw [← hw2]; have hz := hw2; clear hz hw2)
      | (refine wpList_load_whole_g ?_ 67 (.tmp 2) rfl w.heap.size 67 19 (csC { s with rom := false }) r2 rfl _ lc.out Tryz.underlying67 rfl (by kernel_rfl) ?_; · rfl))
    refine ON.mono ?_
    rintro e w3 ⟨rfl, ht, _⟩
    dsimp only
    go_wp2
    refine bodyPost_ret (results_none rfl _ _ _) rfl ?_
    exact ⟨rfl, ht⟩
  | true =>
    have er : ({ s with rom := s.pow } : CS) = { s with rom := true } := congrArg (fun q => ({ s with rom := q } : CS)) hp
    rw [er] at r2 lc
    rw [hp] at c1 c3 hw2
    clear er
    have HD : Hid (mountC s = [(an0 0, (CS.up s))]) := by show mountC s = _; unfold mountC; rw [if_pos hp]; rfl
    have HO : Hid (∀ W, TelQ ab nb mb a n L [] w W → _) := fun W h => only_more h ha (by show n + 0 < _; omega) 0 (by omega) (CS.up s) ⟨hs.len, hs.num, hs.rev, hs.l0, hs.l1, by show (0 : Nat) < 8; omega, by show (0 : Nat) < 4294967296; omega, by show (0 : Nat) ≤ 1024; omega, hs.cuts, hs.first⟩
    have HF : Hid (TelQ ab nb mb a n L [] w w2) := F2
    have hl : Hid (s.num.length = 8) := hs.len
    have ld : Hid ((csC (CS.up s)).length = 19) := csC_len hs.len
    clear F2 ha hn hs c4 f4 hp
    rw [HD.out]
    go_enter Tryz.func29, Tryz.ntmps29
    go_wp2_with (first
      | (rw [← hw1]; have hz := hw1; clear hz hw1)
      | (rw [← hw2]; have hz := hw2; clear hz hw2)
      | (refine wpList_store_Row rfl 63 (.tmp 14) (.tmp 13) rfl w.heap.size 67 11 (csC { s with rom := true }) [.bool false, .int .i64 0, .int .i64 0] r2 (by rw [lc.out]; decide) rfl rfl (by kernel_rfl) (by decide) ?_; intro w3 hr3 hs3; have r3 : Row w3 w.heap.size 67 (csC (CS.up0 s)) := by { have hr4 : Row w3 w.heap.size 67 ((csC { s with rom := true }).take 11 ++ [.bool false, .int .i64 ((0 : Nat) : Int), .int .i64 ((0 : Nat) : Int)] ++ (csC { s with rom := true }).drop (11 + 3)) := hr3; rw [cs_hand (s := { s with rom := true }) hl.out false 0 0] at hr4; exact hr4 }; have F3 : Hid (TelQ ab nb mb a n L [] w w3) := HF.out.but hs3 (Nat.le_refl _); clear hr3 hs3; have c4 : w3.cell? ⟨w.heap.size, 14, none⟩ = some (.int .i16 (s.ev : Int)) := r3.cell 14 _ (csC_at (s := CS.up0 s) hl.out 6); have f4 : w3.frozen? ⟨w.heap.size, 14, none⟩ = false := r3.frozen 14; obtain ⟨w4, hw4⟩ : ∃ w4, w4 = w3.setCell ⟨w.heap.size, 14, none⟩ (.int .i16 0) := ⟨_, rfl⟩; have F4 : Hid (TelQ ab nb mb a n L [] w w4) := by { rw [hw4]; exact F3.out.set (Nat.le_refl _) _ _ }; have r4 : Row w4 w.heap.size 67 (csC (CS.up s)) := by { have := r3.set 14 (.int .i16 ((0 : Nat) : Int)); rw [csC_setEv (s := CS.up0 s) hl.out] at this; rw [hw4]; exact this })
      | (rw [← hw4]; have hz := hw4; clear hz hw4)
      | (refine wpList_load_whole_g ?_ 67 (.tmp 2) rfl w.heap.size 67 19 (csC (CS.up s)) r4 rfl _ ld.out Tryz.underlying67 rfl (by kernel_rfl) ?_; · rfl))
    refine (HO.out _ F4.out).mono ?_
    rintro e w5 ⟨rfl, ht, _⟩
    dsimp only
    go_wp2
    go_end0
    exact ⟨rfl, ht⟩

set_option maxHeartbeats 2000000 in
set_option maxRecDepth 100000 in
theorem onRom_deed {c : Cfg} {g : Nat} {W0 : World} {k : Nat} {fs bs : Array Value} {D : CS → TL} (h : DeedIs c g W0 k fs bs D) (hk : Ent k) {db : Nat} (hr : Row W0 db 73 [.func (.func k) fs bs]) : DeedIs c g W0 43 #[] #[.pointer (some ⟨db, 0, none⟩)] (onRomC D) := by
  intro w hb ab nb mb a n L hm hT ha hn s ho hs
  obtain ⟨w1, hw1⟩ : ∃ w1, w1 = w.alloc (.cells (csC s).toArray 67) := ⟨_, rfl⟩
  have r1 : Row w1 w.heap.size 67 (csC s) := by rw [hw1]; exact Row.at _ _ _ _ _ rfl rfl
  have F1 : TelQ ab nb mb a n L [] w w1 := by rw [hw1]; exact (TelQ.nil hT).alloc _
  have c1 : w1.cell? ⟨w.heap.size, 17, none⟩ = some (.bool s.rom) := r1.cell 17 _ (csC_at hs.len 9)
  have c2 : w1.cell? ⟨db, 0, none⟩ = some (.func (.func k) fs bs) := by rw [hw1]; exact ((hr.below hb hr.lt).alloc _).cell 0 _ rfl
  have ON := only_more F1 ha (by show n + 0 < _; omega) 11 (by omega) s hs
  have DO := h w1 (by rw [hw1]; exact hb.alloc hb.size _) ab nb mb a n L hm (by rw [hw1]; exact hT.keep ((Below.refl _ _).alloc (Nat.le_refl _) _)) ha hn s ho hs
  have HB : Hid (TelQ ab nb mb a n L [] w w1) := F1
  have lc : Hid ((csC s).length = 19) := csC_len hs.len
  have hk2 : ∀ (args : Array Value) (w : World), (callFunc k args).run Tryz.prog w = .ok (.enter k args) w := hk
  change Calls Tryz.prog 43 #[.agg (csC s).toArray, .func (.func 26) #[] #[.pointer (some ⟨ab, 0, none⟩), .pointer (some ⟨nb, 0, none⟩)], .pointer (some ⟨db, 0, none⟩)] w _
  unfold onRomC
  clear hT ha hs hn hm F1 h hk hb hr ho
  cases hp : s.rom with
  | false =>
    rw [hp] at c1
    rw [if_neg (by decide)]
    clear hp hk2
    go_enter Tryz.func43, Tryz.ntmps43
    go_wp2_with (first
      | (rw [← hw1]; have hz := hw1; clear hz hw1)
      | (refine wpList_load_whole_g ?_ 67 (.tmp 3) rfl w.heap.size 67 19 (csC s) r1 rfl _ lc.out Tryz.underlying67 rfl (by kernel_rfl) ?_; · rfl))
    refine ON.mono ?_
    rintro e w2 ⟨rfl, ht, _⟩
    dsimp only
    go_wp2
    refine bodyPost_ret (results_none rfl _ _ _) rfl ?_
    exact ⟨rfl, ht⟩
  | true =>
    rw [hp] at c1
    rw [if_pos rfl]
    clear hp
    go_enter Tryz.func43, Tryz.ntmps43
    go_wp2_with (first
      | (rw [← hw1]; have hz := hw1; clear hz hw1)
      | (refine wpList_load_whole_g ?_ 67 (.tmp 3) rfl w.heap.size 67 19 (csC s) r1 rfl _ lc.out Tryz.underlying67 rfl (by kernel_rfl) ?_; · rfl))
    refine DO.mono ?_
    rintro e w2 ⟨rfl, ht⟩
    dsimp only
    go_wp2
    go_end0
    exact ⟨rfl, by have := HB.out.more (U := D s) (by simpa [hit_nil] using ht); simpa using this⟩

set_option maxHeartbeats 2000000 in
set_option maxRecDepth 100000 in
theorem withPower_deed {c : Cfg} {g : Nat} {W0 : World} {k : Nat} {fs bs : Array Value} {D : CS → TL} (h : DeedIs c g W0 k fs bs D) (hk : Ent k) {db : Nat} (hr : Row W0 db 73 [.func (.func k) fs bs]) : DeedIs c g W0 53 #[] #[.pointer (some ⟨db, 0, none⟩)] (withPowerC D) := by
  intro w hb ab nb mb a n L hm hT ha hn s ho hs
  obtain ⟨w1, hw1⟩ : ∃ w1, w1 = w.alloc (.cells (csC s).toArray 67) := ⟨_, rfl⟩
  have r1 : Row w1 w.heap.size 67 (csC s) := by rw [hw1]; exact Row.at _ _ _ _ _ rfl rfl
  have F1 : TelQ ab nb mb a n L [] w w1 := by rw [hw1]; exact (TelQ.nil hT).alloc _
  have c1 : w1.cell? ⟨w.heap.size, 18, none⟩ = some (.bool s.pow) := r1.cell 18 _ (csC_at hs.len 10)
  have c2 : w1.cell? ⟨db, 0, none⟩ = some (.func (.func k) fs bs) := by rw [hw1]; exact ((hr.below hb hr.lt).alloc _).cell 0 _ rfl
  have ON := only_more F1 ha (by show n + 0 < _; omega) 8 (by omega) s hs
  have DO := h w1 (by rw [hw1]; exact hb.alloc hb.size _) ab nb mb a n L hm (by rw [hw1]; exact hT.keep ((Below.refl _ _).alloc (Nat.le_refl _) _)) ha hn s ho hs
  have HB : Hid (TelQ ab nb mb a n L [] w w1) := F1
  have lc : Hid ((csC s).length = 19) := csC_len hs.len
  have hk2 : ∀ (args : Array Value) (w : World), (callFunc k args).run Tryz.prog w = .ok (.enter k args) w := hk
  change Calls Tryz.prog 53 #[.agg (csC s).toArray, .func (.func 26) #[] #[.pointer (some ⟨ab, 0, none⟩), .pointer (some ⟨nb, 0, none⟩)], .pointer (some ⟨db, 0, none⟩)] w _
  unfold withPowerC
  clear hT ha hs hn hm F1 h hk hb hr ho
  cases hp : s.pow with
  | false =>
    rw [hp] at c1
    rw [if_neg (by decide)]
    clear hp hk2
    go_enter Tryz.func53, Tryz.ntmps53
    go_wp2_with (first
      | (rw [← hw1]; have hz := hw1; clear hz hw1)
      | (refine wpList_load_whole_g ?_ 67 (.tmp 3) rfl w.heap.size 67 19 (csC s) r1 rfl _ lc.out Tryz.underlying67 rfl (by kernel_rfl) ?_; · rfl))
    refine ON.mono ?_
    rintro e w2 ⟨rfl, ht, _⟩
    dsimp only
    go_wp2
    refine bodyPost_ret (results_none rfl _ _ _) rfl ?_
    exact ⟨rfl, ht⟩
  | true =>
    rw [hp] at c1
    rw [if_pos rfl]
    clear hp
    go_enter Tryz.func53, Tryz.ntmps53
    go_wp2_with (first
      | (rw [← hw1]; have hz := hw1; clear hz hw1)
      | (refine wpList_load_whole_g ?_ 67 (.tmp 3) rfl w.heap.size 67 19 (csC s) r1 rfl _ lc.out Tryz.underlying67 rfl (by kernel_rfl) ?_; · rfl))
    refine DO.mono ?_
    rintro e w2 ⟨rfl, ht⟩
    dsimp only
    go_wp2
    go_end0
    exact ⟨rfl, by have := HB.out.more (U := D s) (by simpa [hit_nil] using ht); simpa using this⟩

theorem ent_nothing : Ent 27 := enters_of Tryz.func27 (by kernel_rfl) rfl
end Go.Proofs.YtpcgkjngpdplmaaGreatDoor
