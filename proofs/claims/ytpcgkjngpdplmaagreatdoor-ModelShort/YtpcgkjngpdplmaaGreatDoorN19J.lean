
import Derived.Test.YtpcgkjngpdplmaaGreatDoorN19I
import Derived.Test.YtpcgkjngpdplmaaGreatDoorMCode
/-! The code's model: target, start, boot. (Printed by tools/genn19.py.) -/
namespace Go.Proofs.YtpcgkjngpdplmaaGreatDoor
open Go.RowKit Go.Maps
set_option linter.unusedVariables false
set_option linter.unusedSimpArgs false

set_option maxHeartbeats 2000000 in
set_option maxRecDepth 100000 in
theorem target_any (mg so cap : Nat) (c : Cfg) (hs8 : c.slots ≤ 8) (hk64 : c.keys ≤ 64) (l : Secs) (B : List (List By)) (hB : B.length ≤ 4611686018427387903) (s : CS) (ho : s.Ok c (B.length + 1)) (hs : s.Wf) (w : World) (h : SgV w mg so cap c l B) :
    Calls Tryz.prog 77 #[.pointer (some ⟨mg, 0, none⟩), .agg (csC s).toArray] w fun e w' => e = .returned (.int .i8 (targetC c l B s : Int)) ∧ Below w.heap.size w w' := by
  obtain ⟨w1, hw1⟩ : ∃ w1, w1 = w.alloc (.cells (csC s).toArray 67) := ⟨_, rfl⟩
  have K1 : SW w (csC s) w1 := by rw [hw1]; exact ⟨(Below.refl _ _).alloc (Nat.le_refl _) _, Row.at _ _ _ _ _ rfl rfl⟩
  have ST := moStarted_any mg so cap c hs8 hk64 l B hB s ho hs w1 (h.keep K1.bel)
  have r1 := K1.s
  have HK1 : Hid (SW w (csC s) w1) := K1
  have LCS : Hid ((csC s).length = 19) := csC_len hs.len
  have K6 : Hid ((csC s)[16]? = some (.int .i8 (s.first : Int))) := csC_at hs.len 8
  have hf := hs.first
  have HN : Hid (∀ n, startedC c l B s = some n → n ≤ 1) := fun n hn => by rcases (started_ok hn).1 with e | e <;> omega
  obtain ⟨T, HT⟩ : ∃ T, Hid (T = targetC c l B s) := ⟨_, rfl⟩
  rw [← HT.out]
  unfold targetC at HT
  clear K1 hs ho h hs8 hk64 hB
  generalize startedC c l B s = R at *
  cases R with
  | none =>
    have HT2 : Hid (T = 1 - s.first) := HT.out
    have z8 : IntKind.i8.wrap (1 - (s.first : Int)) = 1 - (s.first : Int) := i8_in _ (by omega) (by omega)
    clear HT
    generalize s.first = n0 at *
    go_enter Tryz.func77, Tryz.ntmps77
    go_wp2_with (first
      | (rw [← hw1]; have hz := hw1; clear hz hw1)
      | (refine wpList_load_whole_g ?_ 67 (.tmp 3) rfl w.heap.size 67 19 (csC s) r1 rfl _ LCS.out Tryz.underlying67 rfl (by kernel_rfl) ?_; · rfl))
    refine ST.mono ?_
    rintro e w2 ⟨rfl, hb2⟩
    unfold startedV
    dsimp only
    have K2 := HK1.out.keep hb2
    have c6 : w2.cell? ⟨w.heap.size, 16, none⟩ = some (.int .i8 (n0 : Int)) := K2.s.cell 16 _ K6.out
    have HK2 : Hid (SW w (csC s) w2) := K2
    clear K2 hb2 r1 HK1 ST
    go_wp2
    go_ret
    exact ⟨by rw [HT2.out, Int.natCast_sub hf]; rfl, HK2.out.bel⟩
  | some n =>
    have HT2 : Hid (T = 1 - n) := HT.out
    have hn := HN.out n rfl
    have z8 : IntKind.i8.wrap (1 - (n : Int)) = 1 - (n : Int) := i8_in _ (by omega) (by omega)
    clear HT HN
    go_enter Tryz.func77, Tryz.ntmps77
    go_wp2_with (first
      | (rw [← hw1]; have hz := hw1; clear hz hw1)
      | (refine wpList_load_whole_g ?_ 67 (.tmp 3) rfl w.heap.size 67 19 (csC s) r1 rfl _ LCS.out Tryz.underlying67 rfl (by kernel_rfl) ?_; · rfl))
    refine ST.mono ?_
    rintro e w2 ⟨rfl, hb2⟩
    unfold startedV
    dsimp only
    have HK2 : Hid (SW w (csC s) w2) := HK1.out.keep hb2
    clear hb2 r1 HK1 ST
    go_wp2
    go_ret
    exact ⟨by rw [HT2.out, Int.natCast_sub hn]; rfl, HK2.out.bel⟩

theorem tried_more {ab nb mb : Nat} {aa : AN} {n : Nat} {LL : List CS} {T : TL} {w W : World} (h : TelQ ab nb mb aa n LL T w W) (ha : aa.Wf) (hn : n + T.length + 8 < 4611686018427387904) (f : Fd) (er : Int) (he : -9223372036854775808 ≤ er ∧ er ≤ 9223372036854775807) (d : List By) (hd : d.length = 32) (s : CS) (hs : s.Wf) (hf : er = 0 → f.slot < 8 ∧ f.ver < 4294967296) :
    Calls Tryz.prog 73 #[.agg (fdC f).toArray, .int .i64 er, .agg (d.map B8).toArray, .agg (csC s).toArray, .func (.func 26) #[] #[.pointer (some ⟨ab, 0, none⟩), .pointer (some ⟨nb, 0, none⟩)]] W fun e W' => e = .returned (.tuple #[]) ∧ TelQ ab nb mb aa n LL (T ++ triedC f er d s) w W' ∧ W.grownBy W' (some mb) := by
  have h1 := hit_le aa T
  refine (tried_any h.tel ha (by omega) f er he d hd s hs hf).mono ?_
  rintro e W' ⟨rfl, hq⟩
  exact ⟨rfl, h.more hq, hq.grow⟩
theorem find_rng (c : Cfg) (l : Secs) (b : List By) : 0 ≤ (findC c l b).wrong ∧ (findC c l b).wrong ≤ 1000 := by
  unfold findC
  split
  · rename_i e x hp
    have := parse_wrong hp
    show 0 ≤ (e : Int) ∧ (e : Int) ≤ 1000
    omega
  · split
    · simp
    · split <;> simp
theorem check_rng (c : Cfg) (f : Fd) (s : CS) (h : 0 ≤ f.wrong ∧ f.wrong ≤ 1000) : 0 ≤ checkC c f s ∧ checkC c f s ≤ 1000 := by
  unfold checkC
  split
  · exact h
  · split
    · omega
    · split
      · omega
      · split <;> omega
structure BT1 (W1 : World) (ab nb mb : Nat) (aa : AN) (n : Nat) (LL : List CS) (w : World) (N : Nat) (T : TL) (s : CS) (fb mg : Nat) (FV : List Value) (E : Int) (L : Nat → Bool) (x6 x7 x8 x9 x10 x11 x12 x13 x14 : Value) (W : World) : Prop where
  x : DW ab nb mb aa n LL w N T s (L 8) W
  p0 : L 0 = true → x6 = .agg FV.toArray
  p1 : L 1 = true → x7 = .pointer (some ⟨mg, 0, none⟩)
  p2 : L 2 = true → x8 = .agg FV.toArray
  p3 : L 3 = true → x9 = .agg (csC s).toArray
  p4 : L 4 = true → x10 = .int .i64 E
  p5 : L 5 = true → x11 = .agg (zH.map B8).toArray
  p6 : L 6 = true → x12 = .agg (csC s).toArray
  p7 : L 7 = true → x13 = .func (.func 26) #[] #[.pointer (some ⟨ab, 0, none⟩), .pointer (some ⟨nb, 0, none⟩)]
  p8 : L 8 = true → x14 = .tuple #[]
section
variable {W1 : World} {ab nb mb : Nat} {aa : AN} {n : Nat} {LL : List CS} {w : World} {N : Nat} {T : TL} {s : CS} {fb mg : Nat} {FV : List Value} {E : Int} {L : Nat → Bool} {x6 x7 x8 x9 x10 x11 x12 x13 x14 : Value} {W W2 : World}
theorem BT1.s0 (h : BT1 W1 ab nb mb aa n LL w N T s fb mg FV E L x6 x7 x8 x9 x10 x11 x12 x13 x14 W) : BT1 W1 ab nb mb aa n LL w N T s fb mg FV E (upd L 0) (.agg FV.toArray) x7 x8 x9 x10 x11 x12 x13 x14 W :=
  ⟨h.x, fun _ => rfl, h.p1, h.p2, h.p3, h.p4, h.p5, h.p6, h.p7, h.p8⟩
theorem BT1.s1 (h : BT1 W1 ab nb mb aa n LL w N T s fb mg FV E L x6 x7 x8 x9 x10 x11 x12 x13 x14 W) : BT1 W1 ab nb mb aa n LL w N T s fb mg FV E (upd L 1) x6 (.pointer (some ⟨mg, 0, none⟩)) x8 x9 x10 x11 x12 x13 x14 W :=
  ⟨h.x, h.p0, fun _ => rfl, h.p2, h.p3, h.p4, h.p5, h.p6, h.p7, h.p8⟩
theorem BT1.s2 (h : BT1 W1 ab nb mb aa n LL w N T s fb mg FV E L x6 x7 x8 x9 x10 x11 x12 x13 x14 W) : BT1 W1 ab nb mb aa n LL w N T s fb mg FV E (upd L 2) x6 x7 (.agg FV.toArray) x9 x10 x11 x12 x13 x14 W :=
  ⟨h.x, h.p0, h.p1, fun _ => rfl, h.p3, h.p4, h.p5, h.p6, h.p7, h.p8⟩
theorem BT1.s3 (h : BT1 W1 ab nb mb aa n LL w N T s fb mg FV E L x6 x7 x8 x9 x10 x11 x12 x13 x14 W) : BT1 W1 ab nb mb aa n LL w N T s fb mg FV E (upd L 3) x6 x7 x8 (.agg (csC s).toArray) x10 x11 x12 x13 x14 W :=
  ⟨h.x, h.p0, h.p1, h.p2, fun _ => rfl, h.p4, h.p5, h.p6, h.p7, h.p8⟩
theorem BT1.s4 (h : BT1 W1 ab nb mb aa n LL w N T s fb mg FV E L x6 x7 x8 x9 x10 x11 x12 x13 x14 W) (hX : DW ab nb mb aa n LL w N T s ((upd L 4) 8) W2) : BT1 W1 ab nb mb aa n LL w N T s fb mg FV E (upd L 4) x6 x7 x8 x9 (.int .i64 E) x11 x12 x13 x14 W2 :=
  ⟨hX, h.p0, h.p1, h.p2, h.p3, fun _ => rfl, h.p5, h.p6, h.p7, h.p8⟩
theorem BT1.s5 (h : BT1 W1 ab nb mb aa n LL w N T s fb mg FV E L x6 x7 x8 x9 x10 x11 x12 x13 x14 W) : BT1 W1 ab nb mb aa n LL w N T s fb mg FV E (upd L 5) x6 x7 x8 x9 x10 (.agg (zH.map B8).toArray) x12 x13 x14 W :=
  ⟨h.x, h.p0, h.p1, h.p2, h.p3, h.p4, fun _ => rfl, h.p6, h.p7, h.p8⟩
theorem BT1.s6 (h : BT1 W1 ab nb mb aa n LL w N T s fb mg FV E L x6 x7 x8 x9 x10 x11 x12 x13 x14 W) : BT1 W1 ab nb mb aa n LL w N T s fb mg FV E (upd L 6) x6 x7 x8 x9 x10 x11 (.agg (csC s).toArray) x13 x14 W :=
  ⟨h.x, h.p0, h.p1, h.p2, h.p3, h.p4, h.p5, fun _ => rfl, h.p7, h.p8⟩
theorem BT1.s7 (h : BT1 W1 ab nb mb aa n LL w N T s fb mg FV E L x6 x7 x8 x9 x10 x11 x12 x13 x14 W) : BT1 W1 ab nb mb aa n LL w N T s fb mg FV E (upd L 7) x6 x7 x8 x9 x10 x11 x12 (.func (.func 26) #[] #[.pointer (some ⟨ab, 0, none⟩), .pointer (some ⟨nb, 0, none⟩)]) x14 W :=
  ⟨h.x, h.p0, h.p1, h.p2, h.p3, h.p4, h.p5, h.p6, fun _ => rfl, h.p8⟩
theorem BT1.s8 (h : BT1 W1 ab nb mb aa n LL w N T s fb mg FV E L x6 x7 x8 x9 x10 x11 x12 x13 x14 W) (hX : DW ab nb mb aa n LL w N T s ((upd L 8) 8) W2) : BT1 W1 ab nb mb aa n LL w N T s fb mg FV E (upd L 8) x6 x7 x8 x9 x10 x11 x12 x13 (.tuple #[]) W2 :=
  ⟨hX, h.p0, h.p1, h.p2, h.p3, h.p4, h.p5, h.p6, h.p7, fun _ => rfl⟩
end
@[reducible] def IBT1 (W1 : World) (ab nb mb : Nat) (aa : AN) (n : Nat) (LL : List CS) (w : World) (N : Nat) (T : TL) (s : CS) (fb mg : Nat) (FV : List Value) (E : Int) (y0 y1 y2 y3 y4 y5 : Value) : (Nat → Bool) → Act → World → Prop := fun L a W => ∃ x6 x7 x8 x9 x10 x11 x12 x13 x14, a = ⟨#[y0, y1, y2, y3, y4, y5, x6, x7, x8, x9, x10, x11, x12, x13, x14], []⟩ ∧ BT1 W1 ab nb mb aa n LL w N T s fb mg FV E L x6 x7 x8 x9 x10 x11 x12 x13 x14 W
theorem BT1.step {W1 : World} {ab nb mb : Nat} {aa : AN} {n : Nat} {LL : List CS} {w : World} {N : Nat} {T : TL} {s : CS} {fb mg : Nat} {FV : List Value} {E : Int} {y0 y1 y2 y3 y4 y5 : Value} {P : Program} {ops : Array Oper} {Q : Exit → Act → World → Prop} {i : Nat} {o : Oper} (hq : ∀ x6 x7 x8 x9 x10 x11 x12 x13 x14 (L : Nat → Bool) (W : World), BT1 W1 ab nb mb aa n LL w N T s fb mg FV E L x6 x7 x8 x9 x10 x11 x12 x13 x14 W → L i = false → (∀ j ∈ onesOf o, L j = true) → ∀ K : Act → World → Prop, Shut (∀ a' w', IBT1 W1 ab nb mb aa n LL w N T s fb mg FV E y0 y1 y2 y3 y4 y5 (upd L i) a' w' → K a' w') → if Region.wanted o (yielded ops (⟨#[y0, y1, y2, y3, y4, y5, x6, x7, x8, x9, x10, x11, x12, x13, x14], []⟩ : Act).tmps) = true then Oper.wp P o ⟨#[y0, y1, y2, y3, y4, y5, x6, x7, x8, x9, x10, x11, x12, x13, x14], []⟩ W K Q else K ((⟨#[y0, y1, y2, y3, y4, y5, x6, x7, x8, x9, x10, x11, x12, x13, x14], []⟩ : Act).put o.dst undef) W) : StepI P ops (IBT1 W1 ab nb mb aa n LL w N T s fb mg FV E y0 y1 y2 y3 y4 y5) Q i o := by
  rintro L a W ⟨x6, x7, x8, x9, x10, x11, x12, x13, x14, rfl, h⟩
  exact hq _ _ _ _ _ _ _ _ _ _ _ h
theorem BT1.ends {W1 : World} {ab nb mb : Nat} {aa : AN} {n : Nat} {LL : List CS} {w : World} {N : Nat} {T : TL} {s : CS} {fb mg : Nat} {FV : List Value} {E : Int} {y0 y1 y2 y3 y4 y5 : Value} {mm_ : Nat} {Q : Exit → Act → World → Prop} (hq : ∀ x6 x7 x8 x9 x10 x11 x12 x13 x14 (L : Nat → Bool) (W : World), (∀ j, j < mm_ → L j = true) → BT1 W1 ab nb mb aa n LL w N T s fb mg FV E L x6 x7 x8 x9 x10 x11 x12 x13 x14 W → Q .normal ⟨#[y0, y1, y2, y3, y4, y5, x6, x7, x8, x9, x10, x11, x12, x13, x14], []⟩ W) : ∀ L a' w', (∀ j, j < mm_ → L j = true) → IBT1 W1 ab nb mb aa n LL w N T s fb mg FV E y0 y1 y2 y3 y4 y5 L a' w' → Q .normal a' w' := by
  rintro L a W hall ⟨x6, x7, x8, x9, x10, x11, x12, x13, x14, rfl, h⟩
  exact hq _ _ _ _ _ _ _ _ _ _ _ hall h
set_option maxHeartbeats 2000000 in
set_option maxRecDepth 100000 in
theorem boot_deed {c : Cfg} (hs8 : c.slots ≤ 8) (hk64 : c.keys ≤ 64) {l : Secs} {g : Nat} {W0 : World} {fb pb mg : Nat} {b : List By} (hr : Row W0 fb 89 (fdC (findC c l b))) (hp : Row W0 pb 59 [.pointer (some ⟨mg, 0, none⟩)]) (hl : W0.cell? ⟨mg, 8, none⟩ = some (.int .i64 c.last)) :
    DeedIs c g W0 72 #[] #[.pointer (some ⟨fb, 0, none⟩), .pointer (some ⟨pb, 0, none⟩)] fun s => triedC (findC c l b) (checkC c (findC c l b) s) zH s := by
  intro w hb ab nb mb aa n LL hm hT ha hn s ho hs
  have HS : Hid (DW ab nb mb aa n LL w W0.heap.size (triedC (findC c l b) (checkC c (findC c l b) s) zH s) s false (w.alloc (.cells (csC s).toArray 67))) := DW.start hb hm hT
  have CF : Hid (∀ W, Below W0.heap.size w W → Row W fb 89 (fdC (findC c l b))) := fun W h => (hr.below hb hr.lt).below h hr.lt
  have CP : Hid (∀ W, Below W0.heap.size w W → W.cell? ⟨pb, 0, none⟩ = some (.pointer (some ⟨mg, 0, none⟩))) := fun W h => ((hp.below hb hp.lt).below h hp.lt).cell 0 _ rfl
  have CK : Hid (∀ W, Below W0.heap.size w W → _) := fun W h => check_any c mg (findC c l b) s hs (fun e => have q := find_ok hs8 hk64 b e; ⟨q.1, q.2.1⟩) W (((hb.trans (h.mono (Nat.le_refl _))).cell (cell_lt hl)).trans hl)
  have hrg := check_rng c (findC c l b) s (find_rng c l b)
  have TR : Hid (∀ W, TelQ ab nb mb aa n LL [] w W → _) := fun W h => tried_more h ha (by show n + 0 + 8 < _; omega) (findC c l b) (checkC c (findC c l b) s) (by omega) zH (by simp) s hs (fun e => have q := find_ok hs8 hk64 b (check_zero e); ⟨q.1, q.2.2⟩)
  have HCS : Hid (((csC s).drop 0).take 19 = csC s) := cs_all hs.len
  have LCS : Hid ((csC s).length = 19) := csC_len hs.len
  have LF : Hid ((fdC (findC c l b)).length = 5) := rfl
  have HF : Hid (((fdC (findC c l b)).drop 0).take 5 = fdC (findC c l b)) := rfl
  generalize hN0 : W0.heap.size = N at *
  clear hT ha hn hm hb hr ho hs hN0 hl hp hrg hs8 hk64
  change Calls Tryz.prog 72 #[.agg (csC s).toArray, .func (.func 26) #[] #[.pointer (some ⟨ab, 0, none⟩), .pointer (some ⟨nb, 0, none⟩)], .pointer (some ⟨fb, 0, none⟩), .pointer (some ⟨pb, 0, none⟩)] w fun e W' => e = .returned (.tuple #[]) ∧ TelQ ab nb mb aa n LL (triedC (findC c l b) (checkC c (findC c l b) s) zH s) w W'
  generalize triedC (findC c l b) (checkC c (findC c l b) s) zH s = TT at *
  generalize checkC c (findC c l b) s = E at *
  generalize fdC (findC c l b) = FV at *
  go_enter Tryz.func72, Tryz.ntmps72
  go_wp2
  refine wp_region_inv (IBT1 w ab nb mb aa n LL w N TT s fb mg FV E _ _ _ _ _ _) (by kernel_rfl) (by kernel_rfl) ⟨_, _, _, _, _, _, _, _, _, rfl, ⟨HS.out.drew, fun k => (by cases k), fun k => (by cases k), fun k => (by cases k), fun k => (by cases k), fun k => (by cases k), fun k => (by cases k), fun k => (by cases k), fun k => (by cases k), fun k => (by cases k)⟩⟩ ?_ ?_
  · refine .cons ?_ (.cons ?_ (.cons ?_ (.cons ?_ (.cons ?_ (.cons ?_ (.cons ?_ (.cons ?_ (.cons ?_ .nil))))))))
    all_goals (refine BT1.step ?_; intro x6 x7 x8 x9 x10 x11 x12 x13 x14 L W hI hL hd K hK)
    · refine step_load_part (by rfl) 89 _ rfl fb 0 89 5 FV (CF.out _ hI.x.bel) rfl _ FV HF.out LF.out Tryz.underlying89 rfl (by kernel_rfl) ?_
      exact hK.out _ _ ⟨_, _, _, _, _, _, _, _, _, rfl, hI.s0⟩
    · rw [if_pos (by rfl)]
      have hc := CP.out _ hI.x.bel
      go_simp
      exact hK.out _ _ ⟨_, _, _, _, _, _, _, _, _, rfl, hI.s1⟩
    · refine step_load_part (by rfl) 89 _ rfl fb 0 89 5 FV (CF.out _ hI.x.bel) rfl _ FV HF.out LF.out Tryz.underlying89 rfl (by kernel_rfl) ?_
      exact hK.out _ _ ⟨_, _, _, _, _, _, _, _, _, rfl, hI.s2⟩
    · refine step_load_part (by rfl) 67 _ rfl (w.heap.size) 0 67 19 (csC s) hI.x.st rfl _ (csC s) HCS.out LCS.out Tryz.underlying67 rfl (by kernel_rfl) ?_
      exact hK.out _ _ ⟨_, _, _, _, _, _, _, _, _, rfl, hI.s3⟩
    · have hx1 := hI.p1 (hd 1 (by decide))
      subst hx1
      have hx2 := hI.p2 (hd 2 (by decide))
      subst hx2
      have hx3 := hI.p3 (hd 3 (by decide))
      subst hx3
      rw [if_pos (by rfl)]
      go_simp
      refine (CK.out _ hI.x.bel).mono ?_
      rintro e W2 ⟨rfl, hb3⟩
      go_simp
      have hX := hI.x.keep hb3
      exact hK.out _ _ ⟨_, _, _, _, _, _, _, _, _, rfl, hI.s4 hX⟩
    · rw [if_pos (by rfl)]
      go_simp
      exact hK.out _ _ ⟨_, _, _, _, _, _, _, _, _, rfl, hI.s5⟩
    · refine step_load_part (by rfl) 67 _ rfl (w.heap.size) 0 67 19 (csC s) hI.x.st rfl _ (csC s) HCS.out LCS.out Tryz.underlying67 rfl (by kernel_rfl) ?_
      exact hK.out _ _ ⟨_, _, _, _, _, _, _, _, _, rfl, hI.s6⟩
    · rw [if_pos (by rfl)]
      go_simp
      exact hK.out _ _ ⟨_, _, _, _, _, _, _, _, _, rfl, hI.s7⟩
    · have hx0 := hI.p0 (hd 0 (by decide))
      subst hx0
      have hx4 := hI.p4 (hd 4 (by decide))
      subst hx4
      have hx5 := hI.p5 (hd 5 (by decide))
      subst hx5
      have hx6 := hI.p6 (hd 6 (by decide))
      subst hx6
      have hx7 := hI.p7 (hd 7 (by decide))
      subst hx7
      rw [if_pos (by rfl)]
      go_simp
      have hx0 := hI.x
      rw [hL] at hx0
      refine (TR.out _ hx0.tel).mono ?_
      rintro e W2 ⟨rfl, hq, hg⟩
      go_simp
      have hX := hx0.told hq hg
      exact hK.out _ _ ⟨_, _, _, _, _, _, _, _, _, rfl, hI.s8 hX⟩
  · refine BT1.ends ?_; intro x6 x7 x8 x9 x10 x11 x12 x13 x14 L W hall hI
    have hx0 := hI.p0 (hall 0 (by decide))
    subst hx0
    have hx1 := hI.p1 (hall 1 (by decide))
    subst hx1
    have hx2 := hI.p2 (hall 2 (by decide))
    subst hx2
    have hx3 := hI.p3 (hall 3 (by decide))
    subst hx3
    have hx4 := hI.p4 (hall 4 (by decide))
    subst hx4
    have hx5 := hI.p5 (hall 5 (by decide))
    subst hx5
    have hx6 := hI.p6 (hall 6 (by decide))
    subst hx6
    have hx7 := hI.p7 (hall 7 (by decide))
    subst hx7
    have hx8 := hI.p8 (hall 8 (by decide))
    subst hx8
    have hXe := hI.x
    rw [hall 8 (by decide)] at hXe
    clear hI hall
    try dsimp only
    try go_wp2
    go_end0
    exact ⟨rfl, hXe.tel⟩

/-- A thing laid into new memory: there as soon as q1, filled as soon as q2. -/
structure AS (p : World → Prop) (T lo : Nat) (zero new : List Value) (q1 q2 : Bool) (x : Value) (W : World) : Prop where
  pw : p W
  hlo : lo ≤ W.heap.size
  nw : q1 = true → ∃ G, x = .pointer (some ⟨G, 0, none⟩) ∧ lo ≤ G ∧ Row W G T (if q2 then new else zero)
section
variable {p : World → Prop} {T lo : Nat} {zero new : List Value} {q1 q2 : Bool} {x : Value} {W W2 : World}
theorem AS.keep (h : AS p T lo zero new q1 q2 x W) (hp : p W2) (hb : Below W.heap.size W W2) : AS p T lo zero new q1 q2 x W2 :=
  ⟨hp, Nat.le_trans h.hlo hb.size, fun e => let ⟨G, a, b, d⟩ := h.nw e; ⟨G, a, b, d.below hb d.lt⟩⟩
theorem AS.start (hp : p W) (hl : lo ≤ W.heap.size) : AS p T lo zero new false false x W := ⟨hp, hl, fun e => by cases e⟩
theorem AS.alloc (h : AS p T lo zero new false false x W) (C : Array Value) (hC : C = zero.toArray) (hp : p (W.alloc (.cells C T))) : AS p T lo zero new true false (.pointer (some ⟨W.heap.size, 0, none⟩)) (W.alloc (.cells C T)) :=
  ⟨hp, by have := h.hlo; simp; omega, fun _ => ⟨_, rfl, h.hlo, Row.at W T zero C _ rfl hC⟩⟩
theorem AS.store {G : Nat} (h : AS p T lo zero new true false (.pointer (some ⟨G, 0, none⟩)) W) (hp : p W2) (hr : Row W2 G T new) (hs : SameBut G W W2) : AS p T lo zero new true true (.pointer (some ⟨G, 0, none⟩)) W2 := by
  obtain ⟨G', hx, hlo, _⟩ := h.nw rfl
  injection hx with hx
  injection hx with hx
  injection hx with hx _
  subst hx
  exact ⟨hp, by have := h.hlo; have := hs.size; omega, fun _ => ⟨G, rfl, hlo, hr⟩⟩
end
end Go.Proofs.YtpcgkjngpdplmaaGreatDoor
