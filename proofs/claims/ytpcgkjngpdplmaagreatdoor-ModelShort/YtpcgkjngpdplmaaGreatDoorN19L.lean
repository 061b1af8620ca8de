
import Derived.Test.YtpcgkjngpdplmaaGreatDoorN19J
/-! The code's model: start. (Printed by tools/genn19.py.) -/
namespace Go.Proofs.YtpcgkjngpdplmaaGreatDoor
open Go.RowKit Go.Maps
set_option linter.unusedVariables false
set_option linter.unusedSimpArgs false

theorem DW.but {ab nb mb : Nat} {aa : AN} {n : Nat} {LL : List CS} {w W W2 : World} {N : Nat} {T : TL} {s : CS} {q : Bool} (h : DW ab nb mb aa n LL w N T s q W) {G : Nat} (hs : SameBut G W W2) (hG : w.heap.size + 1 ≤ G) : DW ab nb mb aa n LL w N T s q W2 :=
  ⟨h.tel.but hs (by omega), h.st.but hs (by omega), hs.below h.bel (by have := h.tel.lm; have := h.hN; omega), h.hN⟩
theorem AS.as2 {p : World → Prop} {T lo : Nat} {zero new : List Value} {q1 q2 q : Bool} {x : Value} {W : World} (h : AS p T lo zero new q1 q2 x W) (e : q = q2) : AS p T lo zero new q1 q x W := by subst e; exact h
theorem AS.as1 {p : World → Prop} {T lo : Nat} {zero new : List Value} {q1 q2 q : Bool} {x : Value} {W : World} (h : AS p T lo zero new q1 q2 x W) (e : q = q1) : AS p T lo zero new q q2 x W := by subst e; exact h
theorem sgC_len (c : Cfg) (l : Secs) (B : List (List By)) (k : Nat) : (sgC c l B k).length = 37 := by unfold sgC; rw [List.length_append, List.length_map, stg_hash]; rfl
theorem sgC_one (c : Cfg) (l : Secs) (B : List (List By)) (k : Nat) : ∀ v ∈ sgC c l B k, v.oneCell' = true := by
  intro v hv
  rcases List.mem_append.1 hv with h | h
  · exact fdC_one _ v h
  · exact B8_one _ v h
abbrev zSg : List Value := fdC fd0 ++ zH.map B8
structure ST4 (W1 : World) (ab nb mb : Nat) (aa : AN) (n : Nat) (LL : List CS) (w : World) (N : Nat) (s : CS) (SC : List Value) (mg so cap nn li bl : Nat) (L : Nat → Bool) (x23 x24 x25 x26 x27 x28 x29 x30 x31 x32 x8 : Value) (W : World) : Prop where
  x : AS (DW ab nb mb aa n LL w N [] s false) 91 (w.heap.size + 1) zSg SC (L 10) (L 11) x8 W
  p0 : L 0 = true → x23 = .pointer (some ⟨mg, 0, none⟩)
  p1 : L 1 = true → x24 = .pointer (some ⟨mg, 0, none⟩)
  p2 : L 2 = true → x25 = .pointer (some ⟨mg, 10, none⟩)
  p3 : L 3 = true → x26 = .slice (some ⟨so, 0, none⟩) (bl + 1) cap
  p4 : L 4 = true → x27 = .int .i8 (nn : Int)
  p5 : L 5 = true → x28 = .pointer (some ⟨w.heap.size, 9, none⟩)
  p6 : L 6 = true → x29 = .pointer (some ⟨w.heap.size, 9 + nn, none⟩)
  p7 : L 7 = true → x30 = .int .i64 (li : Int)
  p8 : L 8 = true → x31 = .pointer (some ⟨so, li * 37, none⟩)
  p9 : L 9 = true → x32 = .agg SC.toArray
  c11_10 : L 11 = true → L 10 = true
section
variable {W1 : World} {ab nb mb : Nat} {aa : AN} {n : Nat} {LL : List CS} {w : World} {N : Nat} {s : CS} {SC : List Value} {mg so cap nn li bl : Nat} {L : Nat → Bool} {x23 x24 x25 x26 x27 x28 x29 x30 x31 x32 x8 : Value} {W W2 : World}
theorem ST4.s0 (h : ST4 W1 ab nb mb aa n LL w N s SC mg so cap nn li bl L x23 x24 x25 x26 x27 x28 x29 x30 x31 x32 x8 W) : ST4 W1 ab nb mb aa n LL w N s SC mg so cap nn li bl (upd L 0) (.pointer (some ⟨mg, 0, none⟩)) x24 x25 x26 x27 x28 x29 x30 x31 x32 x8 W :=
  ⟨h.x, fun _ => rfl, h.p1, h.p2, h.p3, h.p4, h.p5, h.p6, h.p7, h.p8, h.p9, h.c11_10⟩
theorem ST4.s1 (h : ST4 W1 ab nb mb aa n LL w N s SC mg so cap nn li bl L x23 x24 x25 x26 x27 x28 x29 x30 x31 x32 x8 W) : ST4 W1 ab nb mb aa n LL w N s SC mg so cap nn li bl (upd L 1) x23 (.pointer (some ⟨mg, 0, none⟩)) x25 x26 x27 x28 x29 x30 x31 x32 x8 W :=
  ⟨h.x, h.p0, fun _ => rfl, h.p2, h.p3, h.p4, h.p5, h.p6, h.p7, h.p8, h.p9, h.c11_10⟩
theorem ST4.s2 (h : ST4 W1 ab nb mb aa n LL w N s SC mg so cap nn li bl L x23 x24 x25 x26 x27 x28 x29 x30 x31 x32 x8 W) : ST4 W1 ab nb mb aa n LL w N s SC mg so cap nn li bl (upd L 2) x23 x24 (.pointer (some ⟨mg, 10, none⟩)) x26 x27 x28 x29 x30 x31 x32 x8 W :=
  ⟨h.x, h.p0, h.p1, fun _ => rfl, h.p3, h.p4, h.p5, h.p6, h.p7, h.p8, h.p9, h.c11_10⟩
theorem ST4.s3 (h : ST4 W1 ab nb mb aa n LL w N s SC mg so cap nn li bl L x23 x24 x25 x26 x27 x28 x29 x30 x31 x32 x8 W) : ST4 W1 ab nb mb aa n LL w N s SC mg so cap nn li bl (upd L 3) x23 x24 x25 (.slice (some ⟨so, 0, none⟩) (bl + 1) cap) x27 x28 x29 x30 x31 x32 x8 W :=
  ⟨h.x, h.p0, h.p1, h.p2, fun _ => rfl, h.p4, h.p5, h.p6, h.p7, h.p8, h.p9, h.c11_10⟩
theorem ST4.s4 (h : ST4 W1 ab nb mb aa n LL w N s SC mg so cap nn li bl L x23 x24 x25 x26 x27 x28 x29 x30 x31 x32 x8 W) : ST4 W1 ab nb mb aa n LL w N s SC mg so cap nn li bl (upd L 4) x23 x24 x25 x26 (.int .i8 (nn : Int)) x28 x29 x30 x31 x32 x8 W :=
  ⟨h.x, h.p0, h.p1, h.p2, h.p3, fun _ => rfl, h.p5, h.p6, h.p7, h.p8, h.p9, h.c11_10⟩
theorem ST4.s5 (h : ST4 W1 ab nb mb aa n LL w N s SC mg so cap nn li bl L x23 x24 x25 x26 x27 x28 x29 x30 x31 x32 x8 W) : ST4 W1 ab nb mb aa n LL w N s SC mg so cap nn li bl (upd L 5) x23 x24 x25 x26 x27 (.pointer (some ⟨w.heap.size, 9, none⟩)) x29 x30 x31 x32 x8 W :=
  ⟨h.x, h.p0, h.p1, h.p2, h.p3, h.p4, fun _ => rfl, h.p6, h.p7, h.p8, h.p9, h.c11_10⟩
theorem ST4.s6 (h : ST4 W1 ab nb mb aa n LL w N s SC mg so cap nn li bl L x23 x24 x25 x26 x27 x28 x29 x30 x31 x32 x8 W) : ST4 W1 ab nb mb aa n LL w N s SC mg so cap nn li bl (upd L 6) x23 x24 x25 x26 x27 x28 (.pointer (some ⟨w.heap.size, 9 + nn, none⟩)) x30 x31 x32 x8 W :=
  ⟨h.x, h.p0, h.p1, h.p2, h.p3, h.p4, h.p5, fun _ => rfl, h.p7, h.p8, h.p9, h.c11_10⟩
theorem ST4.s7 (h : ST4 W1 ab nb mb aa n LL w N s SC mg so cap nn li bl L x23 x24 x25 x26 x27 x28 x29 x30 x31 x32 x8 W) : ST4 W1 ab nb mb aa n LL w N s SC mg so cap nn li bl (upd L 7) x23 x24 x25 x26 x27 x28 x29 (.int .i64 (li : Int)) x31 x32 x8 W :=
  ⟨h.x, h.p0, h.p1, h.p2, h.p3, h.p4, h.p5, h.p6, fun _ => rfl, h.p8, h.p9, h.c11_10⟩
theorem ST4.s8 (h : ST4 W1 ab nb mb aa n LL w N s SC mg so cap nn li bl L x23 x24 x25 x26 x27 x28 x29 x30 x31 x32 x8 W) : ST4 W1 ab nb mb aa n LL w N s SC mg so cap nn li bl (upd L 8) x23 x24 x25 x26 x27 x28 x29 x30 (.pointer (some ⟨so, li * 37, none⟩)) x32 x8 W :=
  ⟨h.x, h.p0, h.p1, h.p2, h.p3, h.p4, h.p5, h.p6, h.p7, fun _ => rfl, h.p9, h.c11_10⟩
theorem ST4.s9 (h : ST4 W1 ab nb mb aa n LL w N s SC mg so cap nn li bl L x23 x24 x25 x26 x27 x28 x29 x30 x31 x32 x8 W) : ST4 W1 ab nb mb aa n LL w N s SC mg so cap nn li bl (upd L 9) x23 x24 x25 x26 x27 x28 x29 x30 x31 (.agg SC.toArray) x8 W :=
  ⟨h.x, h.p0, h.p1, h.p2, h.p3, h.p4, h.p5, h.p6, h.p7, h.p8, fun _ => rfl, h.c11_10⟩
theorem ST4.s10 (h : ST4 W1 ab nb mb aa n LL w N s SC mg so cap nn li bl L x23 x24 x25 x26 x27 x28 x29 x30 x31 x32 x8 W) {v : Value} (hX : AS (DW ab nb mb aa n LL w N [] s false) 91 (w.heap.size + 1) zSg SC ((upd L 10) 10) ((upd L 10) 11) v W2) : ST4 W1 ab nb mb aa n LL w N s SC mg so cap nn li bl (upd L 10) x23 x24 x25 x26 x27 x28 x29 x30 x31 x32 v W2 :=
  ⟨hX, h.p0, h.p1, h.p2, h.p3, h.p4, h.p5, h.p6, h.p7, h.p8, h.p9, fun _ => rfl⟩
theorem ST4.s11 (h : ST4 W1 ab nb mb aa n LL w N s SC mg so cap nn li bl L x23 x24 x25 x26 x27 x28 x29 x30 x31 x32 x8 W) (hX : AS (DW ab nb mb aa n LL w N [] s false) 91 (w.heap.size + 1) zSg SC ((upd L 11) 10) ((upd L 11) 11) x8 W2) (hc10 : L 10 = true) : ST4 W1 ab nb mb aa n LL w N s SC mg so cap nn li bl (upd L 11) x23 x24 x25 x26 x27 x28 x29 x30 x31 x32 x8 W2 :=
  ⟨hX, h.p0, h.p1, h.p2, h.p3, h.p4, h.p5, h.p6, h.p7, h.p8, h.p9, fun _ => hc10⟩
end
@[reducible] def IST4 (W1 : World) (ab nb mb : Nat) (aa : AN) (n : Nat) (LL : List CS) (w : World) (N : Nat) (s : CS) (SC : List Value) (mg so cap nn li bl : Nat) (y0 y1 y2 y3 y4 y5 y6 y7 y9 y10 y11 y12 y13 y14 y15 y16 y17 y18 y19 y20 y21 y22 y33 y34 y35 y36 y37 y38 y39 : Value) : (Nat → Bool) → Act → World → Prop := fun L a W => ∃ x23 x24 x25 x26 x27 x28 x29 x30 x31 x32 x8, a = ⟨#[y0, y1, y2, y3, y4, y5, y6, y7, x8, y9, y10, y11, y12, y13, y14, y15, y16, y17, y18, y19, y20, y21, y22, x23, x24, x25, x26, x27, x28, x29, x30, x31, x32, y33, y34, y35, y36, y37, y38, y39], []⟩ ∧ ST4 W1 ab nb mb aa n LL w N s SC mg so cap nn li bl L x23 x24 x25 x26 x27 x28 x29 x30 x31 x32 x8 W
theorem ST4.step {W1 : World} {ab nb mb : Nat} {aa : AN} {n : Nat} {LL : List CS} {w : World} {N : Nat} {s : CS} {SC : List Value} {mg so cap nn li bl : Nat} {y0 y1 y2 y3 y4 y5 y6 y7 y9 y10 y11 y12 y13 y14 y15 y16 y17 y18 y19 y20 y21 y22 y33 y34 y35 y36 y37 y38 y39 : Value} {P : Program} {ops : Array Oper} {Q : Exit → Act → World → Prop} {i : Nat} {o : Oper} (hq : ∀ x23 x24 x25 x26 x27 x28 x29 x30 x31 x32 x8 (L : Nat → Bool) (W : World), ST4 W1 ab nb mb aa n LL w N s SC mg so cap nn li bl L x23 x24 x25 x26 x27 x28 x29 x30 x31 x32 x8 W → L i = false → (∀ j ∈ onesOf o, L j = true) → ∀ K : Act → World → Prop, Shut (∀ a' w', IST4 W1 ab nb mb aa n LL w N s SC mg so cap nn li bl y0 y1 y2 y3 y4 y5 y6 y7 y9 y10 y11 y12 y13 y14 y15 y16 y17 y18 y19 y20 y21 y22 y33 y34 y35 y36 y37 y38 y39 (upd L i) a' w' → K a' w') → if Region.wanted o (yielded ops (⟨#[y0, y1, y2, y3, y4, y5, y6, y7, x8, y9, y10, y11, y12, y13, y14, y15, y16, y17, y18, y19, y20, y21, y22, x23, x24, x25, x26, x27, x28, x29, x30, x31, x32, y33, y34, y35, y36, y37, y38, y39], []⟩ : Act).tmps) = true then Oper.wp P o ⟨#[y0, y1, y2, y3, y4, y5, y6, y7, x8, y9, y10, y11, y12, y13, y14, y15, y16, y17, y18, y19, y20, y21, y22, x23, x24, x25, x26, x27, x28, x29, x30, x31, x32, y33, y34, y35, y36, y37, y38, y39], []⟩ W K Q else K ((⟨#[y0, y1, y2, y3, y4, y5, y6, y7, x8, y9, y10, y11, y12, y13, y14, y15, y16, y17, y18, y19, y20, y21, y22, x23, x24, x25, x26, x27, x28, x29, x30, x31, x32, y33, y34, y35, y36, y37, y38, y39], []⟩ : Act).put o.dst undef) W) : StepI P ops (IST4 W1 ab nb mb aa n LL w N s SC mg so cap nn li bl y0 y1 y2 y3 y4 y5 y6 y7 y9 y10 y11 y12 y13 y14 y15 y16 y17 y18 y19 y20 y21 y22 y33 y34 y35 y36 y37 y38 y39) Q i o := by
  rintro L a W ⟨x23, x24, x25, x26, x27, x28, x29, x30, x31, x32, x8, rfl, h⟩
  exact hq _ _ _ _ _ _ _ _ _ _ _ _ _ h
theorem ST4.ends {W1 : World} {ab nb mb : Nat} {aa : AN} {n : Nat} {LL : List CS} {w : World} {N : Nat} {s : CS} {SC : List Value} {mg so cap nn li bl : Nat} {y0 y1 y2 y3 y4 y5 y6 y7 y9 y10 y11 y12 y13 y14 y15 y16 y17 y18 y19 y20 y21 y22 y33 y34 y35 y36 y37 y38 y39 : Value} {mm_ : Nat} {Q : Exit → Act → World → Prop} (hq : ∀ x23 x24 x25 x26 x27 x28 x29 x30 x31 x32 x8 (L : Nat → Bool) (W : World), (∀ j, j < mm_ → L j = true) → ST4 W1 ab nb mb aa n LL w N s SC mg so cap nn li bl L x23 x24 x25 x26 x27 x28 x29 x30 x31 x32 x8 W → Q .normal ⟨#[y0, y1, y2, y3, y4, y5, y6, y7, x8, y9, y10, y11, y12, y13, y14, y15, y16, y17, y18, y19, y20, y21, y22, x23, x24, x25, x26, x27, x28, x29, x30, x31, x32, y33, y34, y35, y36, y37, y38, y39], []⟩ W) : ∀ L a' w', (∀ j, j < mm_ → L j = true) → IST4 W1 ab nb mb aa n LL w N s SC mg so cap nn li bl y0 y1 y2 y3 y4 y5 y6 y7 y9 y10 y11 y12 y13 y14 y15 y16 y17 y18 y19 y20 y21 y22 y33 y34 y35 y36 y37 y38 y39 L a' w' → Q .normal a' w' := by
  rintro L a W hall ⟨x23, x24, x25, x26, x27, x28, x29, x30, x31, x32, x8, rfl, h⟩
  exact hq _ _ _ _ _ _ _ _ _ _ _ _ _ hall h
set_option maxHeartbeats 4000000 in
set_option maxRecDepth 100000 in
theorem start_deed {c : Cfg} (hs8 : c.slots ≤ 8) (hk64 : c.keys ≤ 64) {l : Secs} {W0 : World} {mg so cap : Nat} {B : List (List By)} (hB : B.length ≤ 4611686018427387903) (hg : SgV W0 mg so cap c l B) :
    DeedIs c (B.length + 1) W0 52 #[.pointer (some ⟨mg, 0, none⟩)] #[] (startC c l B) := by
  intro w hb ab nb mb aa n LL hm hT ha hn s ho hs
  obtain ⟨w1, hw1⟩ : ∃ w1, w1 = w.alloc (.cells (csC s).toArray 67) := ⟨_, rfl⟩
  have D1 : DW ab nb mb aa n LL w W0.heap.size [] s false w1 := by rw [hw1]; exact DW.start hb hm hT
  have hz1 : w.heap.size + 1 ≤ w1.heap.size := by rw [hw1]; simp
  have SG : Hid (∀ W, Below W0.heap.size w W → SgV W mg so cap c l B) := fun W h => hg.keep (hb.trans (h.mono (Nat.le_refl _)))
  have ST := moStarted_any mg so cap c hs8 hk64 l B hB s ho hs w1 (SG.out _ D1.bel)
  have r1 := D1.st
  have HD1 : Hid (DW ab nb mb aa n LL w W0.heap.size [] s false w1) := D1
  have HCS : Hid (((csC s).drop 0).take 19 = csC s) := cs_all hs.len
  have LCS : Hid ((csC s).length = 19) := csC_len hs.len
  have LI : Hid (∀ n, n ≤ 1 → s.lies n < B.length + 1 ∧ (csC s)[9 + n]? = some (.int .i64 (s.lies n : Int))) := fun n hn => by
    rcases (by omega : n = 0 ∨ n = 1) with rfl | rfl
    · exact ⟨ho.l0, csC_at hs.len 1⟩
    · exact ⟨ho.l1, csC_at hs.len 2⟩
  obtain ⟨T, HT⟩ : ∃ T, Hid (T = startC c l B s) := ⟨_, rfl⟩
  rw [← HT.out]
  unfold startC at HT
  change Calls Tryz.prog 52 #[.pointer (some ⟨mg, 0, none⟩), .agg (csC s).toArray, .func (.func 26) #[] #[.pointer (some ⟨ab, 0, none⟩), .pointer (some ⟨nb, 0, none⟩)]] w _
  cases hR : startedC c l B s with
  | none =>
    rw [hR] at HT ST
    have TR : Hid (∀ W, TelQ ab nb mb aa n LL [] w W → _) := fun W h => tried_more h ha (by show n + 0 + 8 < _; omega) fd0 17 (by omega) zH (by simp) s hs (fun e => absurd e (by decide))
    have HT2 : Hid (T = triedC fd0 17 zH s) := HT.out
    clear hT ha hn hm hb ho hs D1 hs8 hk64 hB hg HT SG LI hR
    go_enter Tryz.func52, Tryz.ntmps52
    go_wp2_with (first
      | (rw [← hw1]; have hz := hw1; clear hz hw1)
      | (refine wpList_load_whole_g ?_ 67 (.tmp 4) rfl w.heap.size 67 19 (csC s) r1 rfl _ LCS.out Tryz.underlying67 rfl (by kernel_rfl) ?_; · rfl))
    refine ST.mono ?_
    rintro e w2 ⟨rfl, hb2⟩
    unfold startedV
    dsimp only
    have D2 := HD1.out.keep hb2
    have r2 := D2.st
    have HQ : Hid (TelQ ab nb mb aa n LL [] w w2) := D2.tel
    clear D2 hb2 r1 HD1 ST
    go_wp2_with (refine wpList_load_whole_g ?_ 67 (.tmp 4) rfl w.heap.size 67 19 (csC s) r2 rfl _ LCS.out Tryz.underlying67 rfl (by kernel_rfl) ?_; · rfl)
    refine (TR.out _ HQ.out).mono ?_
    rintro e w3 ⟨rfl, hq, _⟩
    dsimp only
    go_wp2
    refine bodyPost_ret (results_none rfl _ _ _) rfl ?_
    exact ⟨rfl, by rw [HT2.out]; exact hq⟩
  | some nn =>
    rw [hR] at HT ST
    obtain ⟨hn1, hn2⟩ := started_ok hR
    have hnn : nn ≤ 1 := by rcases hn1 with e | e <;> have := hs.first <;> omega
    have hok := stg_ok hs8 hk64 B _ (check_zero hn2)
    have TR : Hid (∀ W, TelQ ab nb mb aa n LL [] w W → _) := fun W h => tried_more h ha (by show n + 0 + 8 < _; omega) (stg c l B (s.lies nn)).1 0 (by omega) (stg c l B (s.lies nn)).2 (stg_hash ..) s hs (fun _ => ⟨hok.1, hok.2.2⟩)
    have HT2 : Hid (T = triedC (stg c l B (s.lies nn)).1 0 (stg c l B (s.lies nn)).2 s) := HT.out
    obtain ⟨hl1, hl2⟩ := LI.out nn hnn
    have KL : Hid ((csC s)[9 + nn]? = some (.int .i64 (s.lies nn : Int))) := hl2
    have v0 : (0 : Int) ≤ (nn : Int) := by omega
    have v1 : (nn : Int) < 2 := by omega
    have u0 : (0 : Int) ≤ (s.lies nn : Int) := by omega
    have u2 : (s.lies nn : Int) < (B.length : Int) + 1 := by omega
    have RG : Hid (∀ W, Below W0.heap.size w W → W.rangeAt so (s.lies nn * 37) (sgC c l B (s.lies nn))) := fun W hb => (SG.out W hb).st _ (by omega)
    have LS : Hid ((sgC c l B (s.lies nn)).length = 37) := sgC_len ..
    have SO : Hid (∀ v ∈ sgC c l B (s.lies nn), v.oneCell' = true) := sgC_one c l B _
    have P1 : Hid (((sgC c l B (s.lies nn)).drop 0).take 5 = fdC (stg c l B (s.lies nn)).1) := rfl
    have P2 : Hid (((sgC c l B (s.lies nn)).drop 5).take 32 = (stg c l B (s.lies nn)).2.map B8) := by
      show (((stg c l B (s.lies nn)).2.map B8).take 32) = _
      rw [List.take_of_length_le (by rw [List.length_map, stg_hash]; omega)]
    have L1 : Hid ((fdC (stg c l B (s.lies nn)).1).length = 5) := rfl
    have L2 : Hid (((stg c l B (s.lies nn)).2.map B8).length = 32) := by show ((stg c l B (s.lies nn)).2.map B8).length = 32; rw [List.length_map, stg_hash]
    generalize hN0 : W0.heap.size = N at *
    clear hT ha hn hm hb ho hs D1 hs8 hk64 hg HT LI hR hn1 hn2 hok hl2 hN0 hB
    generalize triedC (stg c l B (s.lies nn)).1 0 (stg c l B (s.lies nn)).2 s = T2 at *
    generalize sgC c l B (s.lies nn) = SC at *
    generalize fdC (stg c l B (s.lies nn)).1 = FV at *
    generalize (stg c l B (s.lies nn)).2.map B8 = HV at *
    generalize s.lies nn = li at *
    go_enter Tryz.func52, Tryz.ntmps52
    go_wp2_with (first
      | (rw [← hw1]; have hz := hw1; clear hz hw1)
      | (refine wpList_load_whole_g ?_ 67 (.tmp 4) rfl w.heap.size 67 19 (csC s) r1 rfl _ LCS.out Tryz.underlying67 rfl (by kernel_rfl) ?_; · rfl))
    refine ST.mono ?_
    rintro e w2 ⟨rfl, hb2⟩
    unfold startedV
    dsimp only
    have HS : Hid (DW ab nb mb aa n LL w N [] s false w2) := HD1.out.keep hb2
    have SZ : Hid (w.heap.size + 1 ≤ w2.drew.heap.size) := Nat.le_trans hz1 hb2.size
    clear hb2 r1 HD1 ST hz1
    go_wp2
    refine wp_region_inv (IST4 w ab nb mb aa n LL w N s SC mg so cap nn li B.length _ _ _ _ _ _ _ _ _ _ _ _ _ _ _ _ _ _ _ _ _ _ _ _ _ _ _ _ _) (by kernel_rfl) (by kernel_rfl) ⟨_, _, _, _, _, _, _, _, _, _, _, rfl, ⟨(AS.start HS.out.drew SZ.out), fun k => (by cases k), fun k => (by cases k), fun k => (by cases k), fun k => (by cases k), fun k => (by cases k), fun k => (by cases k), fun k => (by cases k), fun k => (by cases k), fun k => (by cases k), fun k => (by cases k), fun k => (by cases k)⟩⟩ ?_ ?_
    · refine .cons ?_ (.cons ?_ (.cons ?_ (.cons ?_ (.cons ?_ (.cons ?_ (.cons ?_ (.cons ?_ (.cons ?_ (.cons ?_ (.cons ?_ (.cons ?_ .nil)))))))))))
      all_goals (refine ST4.step ?_; intro x23 x24 x25 x26 x27 x28 x29 x30 x31 x32 x8 L W hI hL hd K hK)
      · rw [if_pos (by rfl)]
        go_simp
        exact hK.out _ _ ⟨_, _, _, _, _, _, _, _, _, _, _, rfl, hI.s0⟩
      · have hx0 := hI.p0 (hd 0 (by decide))
        subst hx0
        rw [if_pos (by rfl)]
        go_simp
        exact hK.out _ _ ⟨_, _, _, _, _, _, _, _, _, _, _, rfl, hI.s1⟩
      · have hx1 := hI.p1 (hd 1 (by decide))
        subst hx1
        rw [if_pos (by rfl)]
        go_simp
        exact hK.out _ _ ⟨_, _, _, _, _, _, _, _, _, _, _, rfl, hI.s2⟩
      · have hx2 := hI.p2 (hd 2 (by decide))
        subst hx2
        rw [if_pos (by rfl)]
        have hc := (SG.out _ hI.x.pw.bel).sl
        go_simp
        exact hK.out _ _ ⟨_, _, _, _, _, _, _, _, _, _, _, rfl, hI.s3⟩
      · rw [if_pos (by rfl)]
        go_simp
        exact hK.out _ _ ⟨_, _, _, _, _, _, _, _, _, _, _, rfl, hI.s4⟩
      · rw [if_pos (by rfl)]
        go_simp
        exact hK.out _ _ ⟨_, _, _, _, _, _, _, _, _, _, _, rfl, hI.s5⟩
      · have hx5 := hI.p5 (hd 5 (by decide))
        subst hx5
        have hx4 := hI.p4 (hd 4 (by decide))
        subst hx4
        rw [if_pos (by rfl)]
        go_simp
        exact hK.out _ _ ⟨_, _, _, _, _, _, _, _, _, _, _, rfl, hI.s6⟩
      · have hx6 := hI.p6 (hd 6 (by decide))
        subst hx6
        rw [if_pos (by rfl)]
        have hc := hI.x.pw.st.cell (9 + nn) _ KL.out
        go_simp
        exact hK.out _ _ ⟨_, _, _, _, _, _, _, _, _, _, _, rfl, hI.s7⟩
      · have hx3 := hI.p3 (hd 3 (by decide))
        subst hx3
        have hx7 := hI.p7 (hd 7 (by decide))
        subst hx7
        rw [if_pos (by rfl)]
        go_simp
        exact hK.out _ _ ⟨_, _, _, _, _, _, _, _, _, _, _, rfl, hI.s8⟩
      · have hx8 := hI.p8 (hd 8 (by decide))
        subst hx8
        refine step_load_rng (by rfl) 91 _ rfl so (li * 37) 37 SC (RG.out _ hI.x.pw.bel) rfl _ LS.out Tryz.underlying91 rfl (by kernel_rfl) ?_
        exact hK.out _ _ ⟨_, _, _, _, _, _, _, _, _, _, _, rfl, hI.s9⟩
      · have h11 : L 11 = false := Bool.eq_false_iff.2 (fun e => (by have h7 := hI.c11_10 e; rw [hL] at h7; exact Bool.noConfusion h7))
        have hx0 := hI.x
        rw [hL, h11] at hx0
        rw [if_pos (by rfl)]
        go_simp
        have hX := (hx0.alloc #[.int .i64 0, .bool false, .int .i64 0, .int .i64 0, .int .i64 0, .int .u8 0, .int .u8 0, .int .u8 0, .int .u8 0, .int .u8 0, .int .u8 0, .int .u8 0, .int .u8 0, .int .u8 0, .int .u8 0, .int .u8 0, .int .u8 0, .int .u8 0, .int .u8 0, .int .u8 0, .int .u8 0, .int .u8 0, .int .u8 0, .int .u8 0, .int .u8 0, .int .u8 0, .int .u8 0, .int .u8 0, .int .u8 0, .int .u8 0, .int .u8 0, .int .u8 0, .int .u8 0, .int .u8 0, .int .u8 0, .int .u8 0, .int .u8 0] rfl (hx0.pw.keep ((Below.refl _ _).alloc (Nat.le_refl _) _))).as2 h11
        exact hK.out _ _ ⟨_, _, _, _, _, _, _, _, _, _, _, rfl, hI.s10 hX⟩
      · have hx9 := hI.p9 (hd 9 (by decide))
        subst hx9
        have hx0 := hI.x
        have h10 := hd 10 (by decide)
        rw [h10, hL] at hx0
        obtain ⟨G, hx, hlo, hrow⟩ := hx0.nw rfl
        subst hx
        refine step_store_Row rfl 91 _ _ rfl G 91 zSg SC hrow (by rw [LS.out]; rfl) rfl rfl (by rw [LS.out]; kernel_rfl) SO.out ?_
        intro W2 hr2 hs2
        have hX := (hx0.store (hx0.pw.but hs2 hlo) hr2 hs2).as1 h10
        exact hK.out _ _ ⟨_, _, _, _, _, _, _, _, _, _, _, rfl, hI.s11 hX (hd 10 (by decide))⟩
    · refine ST4.ends ?_; intro x23 x24 x25 x26 x27 x28 x29 x30 x31 x32 x8 L W hall hI
      have hx0 := hI.p0 (hall 0 (by decide))
      subst hx0
      have hx1 := hI.p1 (hall 1 (by decide))
      subst hx1
      have hx2 := hI.p2 (hall 2 (by decide))
      subst hx2
      have hx3 := hI.p3 (hall 3 (by decide))
      subst hx3
      have hx4 := hI.p4 (hall 4 (by decide))
      subst hx4
      have hx5 := hI.p5 (hall 5 (by decide))
      subst hx5
      have hx6 := hI.p6 (hall 6 (by decide))
      subst hx6
      have hx7 := hI.p7 (hall 7 (by decide))
      subst hx7
      have hx8 := hI.p8 (hall 8 (by decide))
      subst hx8
      have hx9 := hI.p9 (hall 9 (by decide))
      subst hx9
      have hXe := hI.x
      rw [hall 10 (by decide)] at hXe
      rw [hall 11 (by decide)] at hXe
      clear hI hall
      try dsimp only
      obtain ⟨G, hx, hlo, hrow⟩ := hXe.nw rfl
      subst hx
      change Row W G 91 SC at hrow
      have HQ : Hid (TelQ ab nb mb aa n LL [] w W) := hXe.pw.tel
      have r5 : Row W w.heap.size 67 (csC s) := hXe.pw.st
      have g1 : W.rangeAt G 0 FV := by have := hrow.range 0 5; rw [P1.out] at this; exact this
      have g2 : W.rangeAt G 5 HV := by have := hrow.range 5 32; rw [P2.out] at this; exact this
      clear hXe hrow HS
      go_wp2_with (first
        | (refine wpList_load_at_g ?_ 89 (.tmp 33) rfl G 0 5 FV g1 rfl _ L1.out Tryz.underlying89 rfl (by kernel_rfl) ?_; · rfl)
        | (refine wpList_load_at_g ?_ 37 (.tmp 35) rfl G 5 32 HV g2 rfl _ L2.out Tryz.underlying37 rfl (by kernel_rfl) ?_; · rfl)
        | (refine wpList_load_whole_g ?_ 67 (.tmp 4) rfl w.heap.size 67 19 (csC s) r5 rfl _ LCS.out Tryz.underlying67 rfl (by kernel_rfl) ?_; · rfl))
      refine (TR.out _ HQ.out).mono ?_
      rintro e w3 ⟨rfl, hq, _⟩
      dsimp only
      go_wp2
      go_end0
      exact ⟨rfl, by rw [HT2.out]; exact hq⟩
end Go.Proofs.YtpcgkjngpdplmaaGreatDoor
